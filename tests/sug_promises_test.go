package tests

import (
	"slices"
	"strings"
	"testing"

	"loop.example/limner/impl"
)

func TestPromise85DroppedAsIfNotSuggested(t *testing.T) {
	fresh := 0
	for _, c := range allMade(t) {
		got := impl.SugDrop(c.x, c.who)
		sameDoc(t, got, impl.SugDrop(c.d, c.who), c)
		if !slices.Contains(told(c.d), c.who) { // there is nothing else to be dropped
			sameDoc(t, got, c.d, c)
			fresh++
		}
	}
	if fresh < 200 {
		t.Fatal("few who had suggested nothing", fresh)
	}
	for _, who := range people() { // and of several suggestions, one in the other
		d := readDoc("p:abcd\ni0:e\nt12:\nc0011:\nc0111:fg\n")
		x := mustDoc(t)(impl.SugIn(d, in(0, 2), "xyz", who))
		x = mustDoc(t)(impl.SugOut(x, in(0, 1), 3, who))
		x = mustDoc(t)(impl.SugIn(x, in(0, 2), "w", who))
		x = mustDoc(t)(impl.SugOut(x, in(1, 0), 1, who))
		x = mustDoc(t)(impl.SugIn(x, impl.Place{Block: 2, Cell: 1, At: 2}, "h", who))
		x = mustDoc(t)(impl.SugOut(x, impl.Place{Block: 2, Cell: 1}, 3, who))
		sameDoc(t, impl.SugDrop(x, who), d, who)
	}
}

func TestPromise86TakenIsByNobody(t *testing.T) {
	for _, d := range sugDocs() {
		for _, who := range people() {
			x := impl.SugTake(d, who)
			same(t, impl.SugBy(x), withoutOne(told(x), who), impl.DocWrite(d), who)
			sameDoc(t, x, wantTake(d, who), impl.DocWrite(d), who)
			sameDoc(t, impl.SugNow(x), impl.SugNow(d), impl.DocWrite(d), who)
			for i, b := range x.Blocks {
				for j, text := range textsOf(b) {
					if impl.TextNow(text) != impl.TextNow(textsOf(d.Blocks[i])[j]) {
						t.Fatal(impl.DocWrite(d), who)
					}
				}
			}
		}
	}
}

func TestPromise87DroppedIsByNobody(t *testing.T) {
	for _, d := range sugDocs() {
		for _, who := range people() {
			x := impl.SugDrop(d, who)
			same(t, impl.SugBy(x), withoutOne(told(x), who), impl.DocWrite(d), who)
			sameDoc(t, x, wantDrop(d, who), impl.DocWrite(d), who)
			sameDoc(t, impl.SugWas(x), impl.SugWas(d), impl.DocWrite(d), who)
			for i, b := range x.Blocks {
				for j, text := range textsOf(b) {
					if impl.TextWas(text) != impl.TextWas(textsOf(d.Blocks[i])[j]) {
						t.Fatal(impl.DocWrite(d), who)
					}
				}
			}
		}
	}
}

func TestPromise88InWhichOrder(t *testing.T) {
	for _, d := range sugDocs() {
		for _, a := range people() {
			for _, b := range others(a) {
				sameDoc(t, impl.SugTake(impl.SugTake(d, a), b), impl.SugTake(impl.SugTake(d, b), a), "taken", impl.DocWrite(d), a, b)
				sameDoc(t, impl.SugDrop(impl.SugDrop(d, a), b), impl.SugDrop(impl.SugDrop(d, b), a), "dropped", impl.DocWrite(d), a, b)
				sameDoc(t, impl.SugDrop(impl.SugTake(d, a), b), impl.SugTake(impl.SugDrop(d, b), a), "both", impl.DocWrite(d), a, b)
				sameDoc(t, impl.SugDrop(impl.SugTake(d, a), b), wantDrop(wantTake(d, a), b), "both", impl.DocWrite(d), a, b)
			}
		}
	}
}

func TestPromise89WhoIsTold(t *testing.T) {
	met := map[string]int{}
	for _, d := range sugDocs() {
		by := impl.SugBy(d)
		same(t, by, told(d), impl.DocWrite(d))
		same(t, impl.SugBy(impl.SugNow(d)), nil, "all taken", impl.DocWrite(d))
		same(t, impl.SugBy(impl.SugWas(d)), nil, "all dropped", impl.DocWrite(d))
		for name, settle := range settlingsOfDocs() {
			same(t, impl.SugBy(ofAll(d, settle)), nil, name, impl.DocWrite(d))
			for _, who := range people() { // who is not told has nothing to be settled
				if !slices.Contains(by, who) {
					sameDoc(t, settle(d, who), d, name, who)
				} else if equalDocs(settle(d, who), d) {
					t.Fatal(name, who, impl.DocWrite(d))
				}
			}
		}
		var s strings.Builder
		for _, who := range by {
			s.WriteByte(byte('0' + who))
		}
		met[s.String()]++
	}
	for _, s := range []string{"", "2", "12", "13", "123"} {
		if met[s] < 5 {
			t.Fatal("few documents", s, met)
		}
	}
}

func TestPromise90NowAndWasAreDocuments(t *testing.T) {
	for _, d := range sugDocs() {
		now, was := impl.SugNow(d), impl.SugWas(d)
		if !impl.DocOk(now) || !impl.DocOk(was) {
			t.Fatal(impl.DocWrite(d))
		}
		sameDoc(t, squares(now), squares(d), "now")
		sameDoc(t, squares(was), squares(d), "was")
		sameDoc(t, impl.SugNow(now), now, "now stays", impl.DocWrite(d))
		sameDoc(t, impl.SugWas(was), was, "was stays", impl.DocWrite(d))
		sameDoc(t, now, ofAll(d, wantTake), "now", impl.DocWrite(d))
		sameDoc(t, was, ofAll(d, wantDrop), "was", impl.DocWrite(d))
	}
}

func TestPromise91NowIsAsItWas(t *testing.T) {
	for _, d := range sugDocs() {
		dropped, taken := ofAll(d, impl.SugDrop), ofAll(d, impl.SugTake)
		sameDoc(t, dropped, impl.SugWas(d), impl.DocWrite(d))
		sameDoc(t, taken, impl.SugNow(d), impl.DocWrite(d))
		for _, x := range []impl.Doc{dropped, taken, impl.SugWas(d), impl.SugNow(d)} {
			sameDoc(t, impl.SugNow(x), x, impl.DocWrite(d))
			sameDoc(t, impl.SugWas(x), x, impl.DocWrite(d))
		}
	}
}

func TestPromise92OtherTextsStay(t *testing.T) {
	for _, c := range made(t, sugOuts(), anyCase) {
		sameDoc(t, squares(c.x), squares(c.d), c)
		sameDoc(t, withTextAt(c.x, c.p, c.text()), c.d, c)
	}
}

func TestPromise93WhoSuggestsIsTold(t *testing.T) {
	for _, c := range allMade(t) {
		was, is := impl.SugBy(c.d), impl.SugBy(c.x)
		same(t, withoutOne(is, c.who), withoutOne(was, c.who), c)
		same(t, is, told(c.x), c)
	}
	for _, c := range made(t, sugIns(), anyCase) {
		if !slices.Contains(impl.SugBy(c.x), c.who) {
			t.Fatal(c)
		}
	}
	anew := func(s impl.Sign, who int) bool { return s.Out == 0 && s.In != who }
	marked := made(t, sugOuts(), func(c sugCase) bool {
		return slices.ContainsFunc(c.text()[c.p.At:c.p.At+c.n], func(s impl.Sign) bool { return anew(s, c.who) })
	})
	for _, c := range marked {
		if !slices.Contains(impl.SugBy(c.x), c.who) {
			t.Fatal(c)
		}
	}
}

func TestPromise94OwnIsTakenOutAtOnce(t *testing.T) {
	for _, c := range made(t, sugIns(), anyCase) {
		sameDoc(t, mustDoc(t, c)(impl.SugOut(c.x, c.p, len(c.s), c.who)), c.d, c)
		for _, n := range someAts(len(c.s)) { // a piece of it: the rest is left
			if n < 1 || n >= len(c.s) {
				continue
			}
			want, _ := wantIn(c.d, c.p, c.s[n:], c.who)
			sameDoc(t, mustDoc(t, c)(impl.SugOut(c.x, c.p, n, c.who)), want, n, c)
		}
	}
}

func TestPromise95TakenOutByAnother(t *testing.T) {
	for _, c := range made(t, sugIns(), anyCase) {
		for _, other := range others(c.who) {
			y := mustDoc(t, c)(impl.SugOut(c.x, c.p, len(c.s), other))
			if textOfPlace(y, c.p)[c.p.At] != (impl.Sign{Byte: c.s[0], In: c.who, Out: other}) {
				t.Fatal(other, c)
			}
			sameDoc(t, impl.SugDrop(y, other), impl.SugDrop(c.x, other), "dropped", other, c)
			sameDoc(t, impl.SugTake(y, other), impl.SugTake(c.d, other), "taken", other, c)
			sameDoc(t, impl.SugDrop(y, c.who), impl.SugDrop(c.d, c.who), "what was put in is dropped", other, c)
			if by := impl.SugBy(c.d); !slices.Contains(by, other) {
				sameDoc(t, impl.SugDrop(y, other), c.x, "without a trace", other, c)
				sameDoc(t, impl.SugTake(y, other), c.d, "nothing is left", other, c)
				if slices.Contains(impl.SugBy(impl.SugDrop(y, c.who)), other) {
					t.Fatal(other, c)
				}
			}
			again := mustDoc(t, c)(impl.SugOut(y, c.p, len(c.s), c.who)) // it is not theirs to take out any more
			sameDoc(t, again, y, other, c)
		}
	}
}

func TestPromise96JustWhereItWasSuggested(t *testing.T) {
	for _, c := range made(t, sugIns(), anyCase) {
		text, at := textOfPlace(c.x, c.p), c.p.At
		same(t, text[at:at+len(c.s)], putIn(c.s, c.who), c)
		same(t, text[:at], c.text()[:at], "ahead", c)
		same(t, text[at+len(c.s):], c.text()[at:], "behind", c)
		sameDoc(t, withTextAt(c.x, c.p, c.text()), c.d, c)
	}
	for _, c := range made(t, sugOuts(), anyCase) {
		text, at, end := textOfPlace(c.x, c.p), c.p.At, c.p.At+c.n
		same(t, text[:at], c.text()[:at], "ahead", c)
		same(t, text[end-c.went():], c.text()[end:], "behind", c)
		left := text[at : end-c.went()]
		for _, s := range c.text()[at:end] {
			if s.Out == 0 && s.In == c.who {
				continue
			}
			if len(left) == 0 || left[0].Byte != s.Byte || left[0].In != s.In {
				t.Fatal("another sign", c)
			}
			if s.Out == 0 && left[0].Out != c.who || s.Out != 0 && left[0].Out != s.Out {
				t.Fatal("by another one", c)
			}
			left = left[1:]
		}
		if len(left) != 0 {
			t.Fatal("too many are left", c)
		}
	}
}

func TestPromise97TakenOutTwice(t *testing.T) {
	stays := func(c sugCase) bool { return c.went() == 0 }
	for _, c := range made(t, sugOuts(), stays) {
		for _, who := range people() { // another one's comes too late
			sameDoc(t, mustDoc(t, c)(impl.SugOut(c.x, c.p, c.n, who)), c.x, who, c)
		}
	}
	goes := func(c sugCase) bool { return c.went() > 0 && c.went() < c.n }
	for _, c := range made(t, sugOuts(), goes) { // of what is left nothing goes
		sameDoc(t, mustDoc(t, c)(impl.SugOut(c.x, c.p, c.n-c.went(), c.who)), c.x, c)
	}
}

func TestPromise98WasWhenOneIsTaken(t *testing.T) {
	for _, d := range sugDocs() {
		for _, who := range people() {
			alone := d
			for _, other := range others(who) {
				alone = impl.SugDrop(alone, other)
			}
			sameDoc(t, impl.SugWas(impl.SugTake(d, who)), impl.SugTake(alone, who), impl.DocWrite(d), who)
		}
	}
}

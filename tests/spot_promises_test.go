package tests

import (
	"testing"

	"loop.example/limner/impl"
)

// putInNow is what comes of what was suggested to be put in, if it is put in where the place is now.
func putInNow(t *testing.T, now impl.Doc, c sugCase) impl.Doc {
	t.Helper()
	s := impl.Step{Kind: impl.StepIn, Place: impl.SpotNow(c.d, c.p), Text: impl.TextOf(c.s)}
	return mustDoc(t, c)(impl.StepDo(now, s))
}

// takenOutNow is what comes of what was suggested to be taken out, if what of it is there now is taken out where the place is now.
func takenOutNow(t *testing.T, now impl.Doc, c sugCase) impl.Doc {
	t.Helper()
	text := impl.TextOf(impl.TextNow(c.text()[c.p.At : c.p.At+c.n]))
	if len(text) == 0 { // all of it was there no more
		return now
	}
	return mustDoc(t, c)(impl.StepDo(now, impl.Step{Kind: impl.StepOut, Place: impl.SpotNow(c.d, c.p), Text: text}))
}

func TestPromise99PutInIsOnlySuggested(t *testing.T) {
	someMoved(t, sugIns())
	for _, c := range made(t, sugIns(), anyCase) {
		sameDoc(t, impl.SugWas(c.x), impl.SugWas(c.d), "was", c)
		sameDoc(t, impl.SugNow(c.x), putInNow(t, impl.SugNow(c.d), c), "now", c)
	}
}

func TestPromise100TakenOutIsOnlySuggested(t *testing.T) {
	gone, left := 0, 0
	someMoved(t, sugOuts())
	for _, c := range made(t, sugOuts(), anyCase) {
		sameDoc(t, impl.SugWas(c.x), impl.SugWas(c.d), "was", c)
		sameDoc(t, impl.SugNow(c.x), takenOutNow(t, impl.SugNow(c.d), c), "now", c)
		switch nowWay.count(c.text()[c.p.At : c.p.At+c.n]) {
		case 0:
			gone++
		case c.n:
			left++
		}
	}
	if min(gone, left) < 500 {
		t.Fatal("few suggestions", gone, left)
	}
}

// Many suggestions of all people, one behind the other: nothing of what was changes, and what is now is what all the steps make of it.
func TestPromises99And100OfMany(t *testing.T) {
	seed := uint32(7)
	next := func(n int) int {
		seed = seed*1664525 + 1013904223
		return int(seed>>16) % n
	}
	for _, d := range sugDocs() {
		was, now := impl.SugWas(d), impl.SugNow(d)
		all := spots(d)
		for range min(12, 4*len(all)) {
			p := all[next(len(all))]
			p.At = next(len(textOfPlace(d, p)) + 1)
			c := sugCase{d: d, p: p, who: 1 + next(3)}
			if behind := len(textOfPlace(d, p)) - p.At; next(2) == 0 && behind > 0 {
				c.n = 1 + next(min(behind, 4))
				c.x = mustDoc(t, c)(impl.SugOut(d, p, c.n, c.who))
				now = takenOutNow(t, now, c)
			} else if room := impl.TextMax - len(textOfPlace(d, p)); room > 0 {
				c.s = goodBytes[next(10):][:1+next(min(room, 4))]
				c.x = mustDoc(t, c)(impl.SugIn(d, p, c.s, c.who))
				now = putInNow(t, now, c)
			} else {
				continue
			}
			d = c.x
			sameDoc(t, impl.SugWas(d), was, "was", c)
			sameDoc(t, impl.SugNow(d), now, "now", c)
		}
	}
}

func TestPromise101PlacesNowAndAsItWas(t *testing.T) {
	for _, d := range sugDocs() {
		for _, w := range []spotWay{nowWay, wasWay} {
			x := w.doc(d)
			for _, p := range places(d) {
				q := w.spot(d, p)
				if !impl.PlaceOk(x, q) || !isPlace(x, q) || q.At > p.At {
					t.Fatal(w.name, p, q, impl.DocWrite(d))
				}
				sameSpot(t, q, atOf(p, q.At), w.name, p, impl.DocWrite(d))
				same(t, textOfPlace(x, q)[:q.At], w.left(textOfPlace(d, p)[:p.At]), w.name, p, impl.DocWrite(d))
				same(t, textOfPlace(x, q)[q.At:], w.left(textOfPlace(d, p)[p.At:]), w.name, p, impl.DocWrite(d))
			}
		}
	}
}

func TestPromise102LeastPlace(t *testing.T) {
	found, several, none := 0, 0, 0
	for _, d := range sugDocs() {
		now := impl.SugNow(d)
		for _, begin := range beginnings(d) {
			size := len(textOfPlace(d, begin))
			for at := range size + 3 {
				p := atOf(begin, at)
				var told []impl.Place
				for from := range size + 1 {
					if impl.SpotNow(d, atOf(p, from)) == p {
						told = append(told, atOf(p, from))
					}
				}
				if len(told) == 0 {
					noRaw(t, d, p, impl.DocWrite(d))
					none++
				} else {
					q, ok := impl.SpotRaw(d, p)
					if !ok || q != told[0] {
						t.Fatal(p, q, ok, told, impl.DocWrite(d))
					}
					found, several = found+1, several+min(1, len(told)-1)
				}
				if impl.PlaceOk(now, p) != (len(told) > 0) {
					t.Fatal("what is now", p, impl.DocWrite(d))
				}
			}
		}
	}
	if min(found, several, none) < 1000 {
		t.Fatal("few places", found, several, none)
	}
}

func TestPromise103PlacesStayInOrder(t *testing.T) {
	for _, d := range sugDocs() {
		for _, begin := range beginnings(d) {
			for _, w := range []spotWay{nowWay, wasWay} {
				last := w.spot(d, begin)
				for at, s := range textOfPlace(d, begin) {
					q := w.spot(d, atOf(begin, at+1))
					if q.At < last.At || (q.At > last.At) != w.stays(s) || q.At > last.At+1 {
						t.Fatal(w.name, at, last, q, impl.DocWrite(d))
					}
					last = q
				}
			}
			last := -1
			for at := range nowWay.count(textOfPlace(d, begin)) + 1 { // and back
				q, ok := impl.SpotRaw(d, atOf(begin, at))
				if !ok || q.At <= last {
					t.Fatal(at, q, ok, impl.DocWrite(d))
				}
				last = q.At
			}
		}
	}
}

func TestPromise104EndsAreEnds(t *testing.T) {
	for _, d := range sugDocs() {
		for _, begin := range beginnings(d) {
			for _, w := range []spotWay{nowWay, wasWay} {
				end := atOf(begin, len(textOfPlace(d, begin)))
				sameSpot(t, w.spot(d, begin), begin, w.name, impl.DocWrite(d))
				sameSpot(t, w.spot(d, end), atOf(end, len(textOfPlace(w.doc(d), begin))), w.name, impl.DocWrite(d))
			}
			first, ok := impl.SpotRaw(d, begin)
			if !ok || first != begin {
				t.Fatal(begin, first, ok, impl.DocWrite(d))
			}
		}
	}
}

func TestPromise105WithoutSuggestions(t *testing.T) {
	stays := func(d impl.Doc, p impl.Place) {
		t.Helper()
		sameSpot(t, impl.SpotNow(d, p), p, impl.DocWrite(d))
		sameSpot(t, impl.SpotWas(d, p), p, impl.DocWrite(d))
		q, ok := impl.SpotRaw(d, p)
		if !ok || q != p {
			t.Fatal(p, q, ok, impl.DocWrite(d))
		}
	}
	for _, d := range sugDocs() {
		plain := plainDoc(d)
		for _, x := range []impl.Doc{plain, impl.SugNow(d), impl.SugWas(d)} {
			for _, p := range places(x) {
				stays(x, p)
			}
		}
		for _, begin := range spots(d) { // one text without, among others that have some
			text := textOfPlace(plain, begin)
			x := withTextAt(d, begin, text)
			for at := range len(text) + 1 {
				stays(x, atOf(begin, at))
			}
		}
	}
}

func TestPromise106BehindWhatIsSuggested(t *testing.T) {
	for _, c := range made(t, sugIns(), anyCase) {
		size := len(c.s)
		for at := range len(c.text()) + 1 {
			p := atOf(c.p, at)
			was, now := impl.SpotWas(c.d, p), impl.SpotNow(c.d, p)
			if at <= c.p.At { // ahead of it, and right there
				sameSpot(t, impl.SpotWas(c.x, p), was, "was", p, c)
				sameSpot(t, impl.SpotNow(c.x, p), now, "now", p, c)
			}
			if at >= c.p.At {
				behind := atOf(p, at+size)
				sameSpot(t, impl.SpotWas(c.x, behind), was, "was", p, c)
				sameSpot(t, impl.SpotNow(c.x, behind), atOf(now, now.At+size), "now", p, c)
			}
		}
		for within := range size + 1 {
			p := atOf(c.p, c.p.At+within)
			now := impl.SpotNow(c.d, c.p)
			sameSpot(t, impl.SpotWas(c.x, p), impl.SpotWas(c.d, c.p), "was", p, c)
			sameSpot(t, impl.SpotNow(c.x, p), atOf(now, now.At+within), "now", p, c)
		}
	}
}

// The same of what is suggested to be taken out: now one is less far behind it, by just what of it was there.
func TestPromise106BehindWhatIsTakenOut(t *testing.T) {
	for _, c := range made(t, sugOuts(), anyCase) {
		end := c.p.At + c.n
		less := nowWay.count(c.text()[c.p.At:end])
		for at := range len(c.text()) + 1 {
			p := atOf(c.p, at)
			was, now := impl.SpotWas(c.d, p), impl.SpotNow(c.d, p)
			if at <= c.p.At {
				sameSpot(t, impl.SpotWas(c.x, p), was, "was", p, c)
				sameSpot(t, impl.SpotNow(c.x, p), now, "now", p, c)
			}
			if at >= end {
				behind := atOf(p, at-c.went())
				sameSpot(t, impl.SpotWas(c.x, behind), was, "was", p, c)
				sameSpot(t, impl.SpotNow(c.x, behind), atOf(now, now.At-less), "now", p, c)
			}
		}
		for at := c.p.At; at <= end-c.went(); at++ { // within there is nothing now
			sameSpot(t, impl.SpotNow(c.x, atOf(c.p, at)), impl.SpotNow(c.d, c.p), "now", at, c)
		}
	}
}

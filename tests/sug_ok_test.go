package tests

import (
	"math"
	"slices"
	"strings"
	"testing"

	"loop.example/limner/impl"
)

// Each suggestion is made, or refused, as the words of the document say, and both come of each kind.
func TestSugByTheWords(t *testing.T) {
	refusals := [2]int{}
	for _, c := range sugIns() {
		want, ok := wantIn(c.d, c.p, c.s, c.who)
		if ok != c.ok {
			t.Fatal(c)
		}
		sameDoc(t, c.x, want, c)
		if !ok {
			refusals[0]++
		}
	}
	for _, c := range sugOuts() {
		want, ok := wantOut(c.d, c.p, c.n, c.who)
		if ok != c.ok {
			t.Fatal(c)
		}
		sameDoc(t, c.x, want, c)
		if !ok {
			refusals[1]++
		}
	}
	if len(allMade(t)) < 5000 || min(refusals[0], refusals[1]) < 500 {
		t.Fatal("few suggestions", len(allMade(t)), refusals)
	}
	for _, c := range allMade(t) {
		if !impl.DocOk(c.x) {
			t.Fatal(c)
		}
	}
}

// sugHand is a document with suggestions of several people, in a paragraph, an item and a table.
const sugHand = "p:a+1b-2c+1-2d+3e\ni0:+2x\nt12:\nc0011:-1q\nc0111:r+3-1s\n"

func TestSugInByHand(t *testing.T) {
	d := readDoc(sugHand)
	cell := func(cell, at int) impl.Place { return impl.Place{Block: 2, Cell: cell, At: at} }
	with := func(old, now string) string { return strings.Replace(sugHand, old, now, 1) }
	for i, c := range []struct {
		p    impl.Place
		s    string
		who  int
		want string
	}{
		{in(0, 0), "y", 1, with("p:a", "p:+1ya")},
		{in(0, 1), "yz", 1, with("a+1b", "a+1y+1z+1b")},
		{in(0, 2), "yz", 2, with("a+1b", "a+1b+2y+2z")},
		{in(0, 3), " ", 3, with("-2c", "-2c+3 ")},
		{in(0, 5), "9", 1, with("+3e", "+3e+19")},
		{in(0, 6), "y", 1, ""},
		{in(0, -1), "y", 1, ""},
		{in(1, 0), "y", 3, with("+2x", "+3y+2x")},
		{in(1, 1), "y", 2, with("+2x", "+2x+2y")},
		{in(1, 2), "y", 2, ""},
		{cell(0, 0), "y", 1, with("-1q", "+1y-1q")},
		{cell(1, 1), "y", 3, with("r+3-1s", "r+3y+3-1s")},
		{cell(1, 2), "y", 1, with("r+3-1s", "r+3-1s+1y")},
		{cell(1, 3), "y", 1, ""},
		{cell(2, 0), "y", 1, ""},
		{cell(-1, 0), "y", 1, ""},
		{impl.Place{Block: 1, Cell: 1}, "y", 1, ""},
		{in(3, 0), "y", 1, ""},
		{in(-1, 0), "y", 1, ""},
		{in(0, 0), "", 1, ""},
		{in(0, 0), "Y", 1, ""},
		{in(0, 0), "y-z", 1, ""},
		{in(0, 0), "+1y", 1, ""},
		{in(0, 0), "y\n", 1, ""},
		{in(0, 0), "y", 0, ""},
		{in(0, 0), "y", 4, ""},
		{in(0, 0), "y", -1, ""},
		{in(0, 5), strings.Repeat("y", 19), 2, with("+3e", "+3e"+strings.Repeat("+2y", 19))},
		{in(0, 5), strings.Repeat("y", 20), 2, ""},
	} {
		x, ok := impl.SugIn(d, c.p, c.s, c.who)
		if ok != (c.want != "") || !equalDocs(x, readDoc(c.want)) {
			t.Errorf("%d %+v: %q", i, c, impl.DocWrite(x))
		}
	}
}

func TestSugOutByHand(t *testing.T) {
	d := readDoc(sugHand)
	cell := func(cell, at int) impl.Place { return impl.Place{Block: 2, Cell: cell, At: at} }
	with := func(old, now string) string { return strings.Replace(sugHand, old, now, 1) }
	for i, c := range []struct {
		p    impl.Place
		n    int
		who  int
		want string
	}{
		{in(0, 0), 1, 1, with("a", "-1a")},
		{in(0, 0), 2, 1, with("a+1b", "-1a")},
		{in(0, 0), 2, 2, with("a+1b", "-2a+1-2b")},
		{in(0, 1), 1, 1, with("+1b", "")},
		{in(0, 2), 1, 1, sugHand},
		{in(0, 2), 1, 2, sugHand},
		{in(0, 2), 2, 3, sugHand},
		{in(0, 3), 1, 1, sugHand}, // put in by 1, but 2 has taken it out
		{in(0, 0), 5, 1, with("a+1b-2c+1-2d+3e", "-1a-2c+1-2d+3-1e")},
		{in(0, 0), 5, 2, with("a+1b-2c+1-2d+3e", "-2a+1-2b-2c+1-2d+3-2e")},
		{in(0, 0), 5, 3, with("a+1b-2c+1-2d+3e", "-3a+1-3b-2c+1-2d")},
		{in(0, 0), 6, 3, ""},
		{in(0, 4), 1, 3, with("+3e", "")},
		{in(0, 4), 2, 3, ""},
		{in(0, 5), 1, 3, ""},
		{in(0, 5), 0, 3, ""},
		{in(0, 6), 1, 3, ""},
		{in(0, -1), 1, 3, ""},
		{in(0, -1), 2, 3, ""},
		{in(0, 1), 0, 1, ""},
		{in(0, 1), -1, 1, ""},
		{in(0, 6), -1, 1, ""},
		{in(1, 0), 1, 2, with("+2x", "")},
		{in(1, 0), 1, 1, with("+2x", "+2-1x")},
		{in(1, 1), 1, 2, ""},
		{cell(0, 0), 1, 1, sugHand},
		{cell(0, 0), 1, 2, sugHand},
		{cell(0, 0), 2, 2, ""},
		{cell(1, 0), 1, 2, with("r+3", "-2r+3")},
		{cell(1, 0), 2, 3, with("r+3", "-3r+3")},
		{cell(1, 1), 1, 3, sugHand},
		{cell(1, 1), 2, 3, ""},
		{cell(2, 0), 1, 1, ""},
		{cell(-1, 0), 1, 1, ""},
		{impl.Place{Block: 1, Cell: 1}, 1, 1, ""},
		{in(3, 0), 1, 1, ""},
		{in(-1, 0), 1, 1, ""},
		{in(0, 0), 1, 0, ""},
		{in(0, 0), 1, 4, ""},
		{in(0, 0), 1, -1, ""},
	} {
		x, ok := impl.SugOut(d, c.p, c.n, c.who)
		if ok != (c.want != "") || !equalDocs(x, readDoc(c.want)) {
			t.Errorf("%d %+v: %q", i, c, impl.DocWrite(x))
		}
	}
}

func TestSettledByHand(t *testing.T) {
	d := readDoc(sugHand)
	for i, c := range []struct {
		x    impl.Doc
		want string
	}{
		{impl.SugTake(d, 1), "p:ab-2c-2d+3e\ni0:+2x\nt12:\nc0011:\nc0111:r\n"},
		{impl.SugTake(d, 2), "p:a+1b+3e\ni0:x\nt12:\nc0011:-1q\nc0111:r+3-1s\n"},
		{impl.SugTake(d, 3), "p:a+1b-2c+1-2de\ni0:+2x\nt12:\nc0011:-1q\nc0111:r-1s\n"},
		{impl.SugDrop(d, 1), "p:a-2c+3e\ni0:+2x\nt12:\nc0011:q\nc0111:r+3s\n"},
		{impl.SugDrop(d, 2), "p:a+1bc+1d+3e\ni0:\nt12:\nc0011:-1q\nc0111:r+3-1s\n"},
		{impl.SugDrop(d, 3), "p:a+1b-2c+1-2d\ni0:+2x\nt12:\nc0011:-1q\nc0111:r\n"},
		{impl.SugNow(d), "p:abe\ni0:x\nt12:\nc0011:\nc0111:r\n"},
		{impl.SugWas(d), "p:ac\ni0:\nt12:\nc0011:q\nc0111:r\n"},
	} {
		if got := impl.DocWrite(c.x); got != c.want {
			t.Errorf("%d: %q, not %q", i, got, c.want)
		}
	}
	same(t, impl.SugBy(d), []int{1, 2, 3})
	for s, by := range map[string][]int{
		"":                               nil,
		"p:a\n":                          nil,
		"p:+2a\n":                        {2},
		"p:-3a\n":                        {3},
		"p:+3-1a\n":                      {1, 3},
		"p:a\ni0:+2b\n":                  {2},
		"p:-3a\ni0:+1b\n":                {1, 3},
		"p:a\nt12:\nc0011:\nc0111:-1b\n": {1},
		"p:+3a\nt12:\nc0011:-2c\nc0111:+2b\np:-2d\n": {2, 3},
	} {
		same(t, impl.SugBy(readDoc(s)), by, s)
	}
}

// What comes of one sign of each pair of names that each person suggests to take out; empty, if it goes.
func TestOneSignIsTakenOut(t *testing.T) {
	for sign, want := range map[string][3]string{
		"a":     {"-1a", "-2a", "-3a"},
		"-1a":   {"-1a", "-1a", "-1a"},
		"-2a":   {"-2a", "-2a", "-2a"},
		"-3a":   {"-3a", "-3a", "-3a"},
		"+1a":   {"", "+1-2a", "+1-3a"},
		"+2a":   {"+2-1a", "", "+2-3a"},
		"+3a":   {"+3-1a", "+3-2a", ""},
		"+1-2a": {"+1-2a", "+1-2a", "+1-2a"},
		"+1-3a": {"+1-3a", "+1-3a", "+1-3a"},
		"+2-1a": {"+2-1a", "+2-1a", "+2-1a"},
		"+2-3a": {"+2-3a", "+2-3a", "+2-3a"},
		"+3-1a": {"+3-1a", "+3-1a", "+3-1a"},
		"+3-2a": {"+3-2a", "+3-2a", "+3-2a"},
	} {
		for _, frame := range []string{"p:@\n", "i0:b\ni1:@\n", "t12:\nc0011:b\nc0111:@\n", "p:x@y\n"} {
			d := readDoc(strings.Replace(frame, "@", sign, 1))
			last := len(d.Blocks) - 1
			p := impl.Place{Block: last, Cell: len(textsOf(d.Blocks[last])) - 1, At: strings.Count(frame, "x")}
			for _, who := range people() {
				x := mustDoc(t, sign, who)(impl.SugOut(d, p, 1, who))
				sameDoc(t, x, readDoc(strings.Replace(frame, "@", want[who-1], 1)), frame, sign, who)
			}
		}
	}
}

// All small texts, and some of all sizes, each piece of them, by each person; they stand in all kinds of blocks in turn.
func TestPiecesOfAllTexts(t *testing.T) {
	frames := []impl.Doc{readDoc("p:\n"), readDoc("i0:b\ni1:\n"), readDoc("p:+1a\nt22:\nc0012:c\nc1011:-2d\nc1111:\n")}
	for i, text := range okTexts() {
		d := frames[i%len(frames)]
		last := len(d.Blocks) - 1
		p := impl.Place{Block: last, Cell: len(textsOf(d.Blocks[last])) - 1}
		d = withTextAt(d, p, text)
		for _, p.At = range someAts(len(text)) {
			for _, n := range someAts(len(text) - p.At) {
				for _, who := range people() {
					want, ok := wantOut(d, p, n, who)
					x, got := impl.SugOut(d, p, n, who)
					if got != ok {
						t.Fatal(impl.DocWrite(d), p, n, who)
					}
					sameDoc(t, x, want, impl.DocWrite(d), p, n, who)
				}
			}
		}
	}
}

// As many signs as there is room for are put in, by anybody and anywhere, and not one more; none is refused.
func TestRoomForSuggestions(t *testing.T) {
	for size := range impl.TextMax + 1 {
		for _, frame := range []string{"p:@\n", "p:a\ni0:@\n", "t21:\nc0011:\nc1011:@\n"} {
			d := readDoc(strings.Replace(frame, "@", strings.Repeat("-2a", size), 1))
			last := len(d.Blocks) - 1
			p := impl.Place{Block: last, Cell: len(textsOf(d.Blocks[last])) - 1}
			for more := range 2*impl.TextMax + 2 {
				for _, p.At = range someAts(size) {
					s, who := strings.Repeat("q", more), 1+more%3
					want, ok := wantIn(d, p, s, who)
					if ok != (1 <= more && size+more <= 24 && 0 <= p.At && p.At <= size) {
						t.Fatal(size, more, p)
					}
					x, got := impl.SugIn(d, p, s, who)
					if got != ok {
						t.Fatal(size, more, p)
					}
					sameDoc(t, x, want, size, more, p)
				}
			}
			all, ok := impl.SugOut(d, impl.Place{Block: last, Cell: p.Cell}, size, 1)
			if ok != (size > 0) {
				t.Fatal(size)
			}
			if ok {
				sameDoc(t, all, d, size)
			}
		}
	}
}

// suggestedNothing says that both suggestions are refused.
func suggestedNothing(t *testing.T, d impl.Doc, p impl.Place, s string, n, who int) {
	t.Helper()
	refusedDoc(t, "in", p, s, who)(impl.SugIn(d, p, s, who))
	refusedDoc(t, "out", p, n, who)(impl.SugOut(d, p, n, who))
}

// A place that is none, next to those that are, and far away.
func TestSuggestionsAtNoPlace(t *testing.T) {
	d := readDoc(sugHand)
	for _, n := range append(extremes(), 3, 4, 8, 9) {
		suggestedNothing(t, d, in(n, 0), "y", 1, 1)
		suggestedNothing(t, d, impl.Place{Block: n, Cell: n, At: n}, "y", 1, 1)
	}
	for _, n := range append(extremes(), 1, 2) {
		suggestedNothing(t, d, impl.Place{Block: 0, Cell: n}, "y", 1, 1)
		suggestedNothing(t, d, impl.Place{Block: 1, Cell: n}, "y", 1, 1)
	}
	for _, n := range append(extremes(), 2, 3) {
		suggestedNothing(t, d, impl.Place{Block: 2, Cell: n}, "y", 1, 1)
	}
	for _, n := range append(extremes(), 6, 7, 23, 24, 25) {
		suggestedNothing(t, d, in(0, n), "y", 1, 1)
		suggestedNothing(t, d, in(1, n), "y", 1, 1)
		suggestedNothing(t, d, impl.Place{Block: 2, Cell: 1, At: n}, "y", 1, 1)
		for _, m := range append(extremes(), -n, 1-n, 5-n) { // sums that wrap round, or are within the text
			refusedDoc(t, n, m)(impl.SugOut(d, in(0, n), m, 1))
		}
	}
	suggestedNothing(t, impl.Doc{}, impl.Place{}, "y", 1, 1)
}

// No sign, fewer than none, and more than are there.
func TestHowManyAreTakenOut(t *testing.T) {
	d := readDoc(sugHand)
	for _, p := range places(d) {
		behind := len(textOfPlace(d, p)) - p.At
		for _, n := range append(extremes(), 0, behind+1, behind+2, 24, 25, math.MaxInt-p.At, math.MinInt+p.At, -behind, math.MaxInt-behind+1) {
			if 1 <= n && n <= behind {
				continue
			}
			for _, who := range people() {
				refusedDoc(t, p, n, who)(impl.SugOut(d, p, n, who))
			}
		}
		for n := 1; n <= behind; n++ {
			for _, who := range people() {
				want, _ := wantOut(d, p, n, who)
				sameDoc(t, mustDoc(t, p, n, who)(impl.SugOut(d, p, n, who)), want, p, n, who)
			}
		}
	}
}

// Bytes that are no text, alone and among others, are not put in.
func TestSuggestionsOfWrongBytes(t *testing.T) {
	d := readDoc(sugHand)
	for b := range 256 {
		good := strings.IndexByte(goodBytes, byte(b)) >= 0
		for at := range 4 {
			s := "a 0"[:at] + string([]byte{byte(b)}) + "a 0"[at:]
			for _, p := range []impl.Place{in(0, 1), in(1, 1), {Block: 2, Cell: 1}} {
				if !good {
					refusedDoc(t, s, p)(impl.SugIn(d, p, s, 1+b%3))
					continue
				}
				want, _ := wantIn(d, p, s, 1+b%3)
				sameDoc(t, mustDoc(t, s, p)(impl.SugIn(d, p, s, 1+b%3)), want, s, p)
			}
		}
	}
	for _, s := range []string{"", "é", "a\n", "\xff", "a\x00b", "A", "a-b", "ａ", "_", "+1a", strings.Repeat("a", 25), strings.Repeat("a", 1<<20)} {
		for _, who := range people() {
			refusedDoc(t, s, who)(impl.SugIn(readDoc("p:\n"), in(0, 0), s, who))
		}
	}
}

// Who is no person suggests nothing, and has nothing to be taken or dropped.
func TestSuggestionsOfStrangers(t *testing.T) {
	for _, who := range strangers() {
		for _, p := range places(readDoc(sugHand)) {
			suggestedNothing(t, readDoc(sugHand), p, "y", 1, who)
		}
		for _, d := range sugDocs() {
			for name, settle := range settlingsOfDocs() {
				sameDoc(t, settle(d, who), d, name, who)
			}
		}
	}
}

// A document that is not ok has one answer everywhere, also where all else is wrong.
func TestSuggestionsOfWrongDocs(t *testing.T) {
	nothing := func(x impl.Doc, what string, d impl.Doc) {
		t.Helper()
		if len(x.Blocks) != 0 {
			t.Fatal(what, x, d)
		}
	}
	for _, d := range wrongDocs() {
		for _, who := range append(people(), 0, 4, -1, math.MinInt) {
			for block := -1; block <= min(len(d.Blocks), 9); block++ {
				for cell := range 2 {
					suggestedNothing(t, d, impl.Place{Block: block, Cell: cell}, "y", 1, who)
				}
			}
			for name, settle := range settlingsOfDocs() {
				nothing(settle(d, who), name, d)
			}
		}
		nothing(impl.SugNow(d), "now", d)
		nothing(impl.SugWas(d), "was", d)
		same(t, impl.SugBy(d), nil, d)
	}
}

// Where nobody has suggested anything all is as it is, now and as it was.
func TestDocumentsWithoutSuggestions(t *testing.T) {
	for _, d := range append(sugDocs(), okDocs()...) {
		d = mapTexts(d, func(text []impl.Sign) []impl.Sign { return impl.TextOf(bytesOf(text)) })
		sameDoc(t, impl.SugNow(d), d)
		sameDoc(t, impl.SugWas(d), d)
		same(t, impl.SugBy(d), nil, impl.DocWrite(d))
		for _, settle := range settlingsOfDocs() {
			for _, who := range people() {
				sameDoc(t, settle(d, who), d, who)
			}
		}
	}
}

// Of what is only suggested nothing was; of what is suggested to be taken out nothing is. The blocks and cells are there all the same.
func TestDocumentsOfSuggestionsAlone(t *testing.T) {
	for i, d := range sugDocs() {
		seen := 0
		alone := func(sign func(s impl.Sign, who int) impl.Sign) impl.Doc {
			return mapTexts(d, func(text []impl.Sign) []impl.Sign {
				text = slices.Clone(text)
				for at, s := range text {
					text[at] = sign(s, 1+(i+seen)%3)
					seen++
				}
				return text
			})
		}
		plain := mapTexts(d, func(text []impl.Sign) []impl.Sign { return impl.TextOf(bytesOf(text)) })
		put := alone(func(s impl.Sign, who int) impl.Sign { return impl.Sign{Byte: s.Byte, In: who} })
		out := alone(func(s impl.Sign, who int) impl.Sign { return impl.Sign{Byte: s.Byte, Out: who} })
		both := alone(func(s impl.Sign, who int) impl.Sign { return impl.Sign{Byte: s.Byte, In: who, Out: 1 + who%3} })
		for _, c := range []struct{ x, want impl.Doc }{
			{impl.SugNow(put), plain}, {impl.SugWas(put), squares(d)},
			{impl.SugNow(out), squares(d)}, {impl.SugWas(out), plain},
			{impl.SugNow(both), squares(d)}, {impl.SugWas(both), squares(d)},
		} {
			sameDoc(t, c.x, c.want, impl.DocWrite(d))
		}
	}
}

// One text after the other is taken out by one, and then by another, who finds nothing left to take out.
func TestAllTextsAreTakenOut(t *testing.T) {
	for i, d := range sugDocs() {
		first, second := 1+i%3, 1+(i+1)%3
		x := d
		for block, b := range d.Blocks {
			for cell, text := range textsOf(b) {
				p := impl.Place{Block: block, Cell: cell}
				if len(text) == 0 {
					refusedDoc(t, p)(impl.SugOut(x, p, 1, first))
					continue
				}
				x = mustDoc(t, p)(impl.SugOut(x, p, len(text), first))
			}
		}
		sameDoc(t, impl.SugNow(x), squares(d), impl.DocWrite(d))
		sameDoc(t, impl.SugWas(x), impl.SugWas(d), impl.DocWrite(d))
		for _, p := range spots(x) {
			if n := len(textOfPlace(x, p)); n > 0 {
				sameDoc(t, mustDoc(t, p)(impl.SugOut(x, p, n, second)), x, p)
			}
		}
	}
}

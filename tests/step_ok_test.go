package tests

import (
	"math"
	"slices"
	"strings"
	"testing"

	"loop.example/limner/impl"
)

func TestKindsOfSteps(t *testing.T) {
	same(t, []int{impl.StepIn, impl.StepOut, impl.StepPut, impl.StepTake, impl.StepPart, impl.StepJoin, impl.StepBe}, allKinds)
}

// Each step that has what its kind says is done, or refused, as the words of the document say, and both come of each kind.
func TestStepDoByTheWords(t *testing.T) {
	refusals := map[int]int{}
	for _, c := range stepCases() {
		want, ok := wantDone(c.d, c.s)
		if ok != c.ok {
			t.Fatal(c)
		}
		sameDoc(t, c.x, want, c)
		if !ok {
			refusals[c.s.Kind]++
		}
	}
	doneCases(t)
	for _, k := range allKinds {
		if refusals[k] < 20 {
			t.Fatal("few steps were refused of the kind", k, refusals[k])
		}
	}
}

// handDoc is a document of all kinds of blocks.
const handDoc = "p:abc\np:d+1e\ni0:x\ni1:yy\ni1:-2z\nt22:\nc0012:fg\nc1011:\nc1111:h\n"

// hand is a step that is done to handDoc by hand, and what comes of it; nothing, if it cannot be done.
type hand struct {
	s    impl.Step
	want string
}

// signHands are steps of signs.
func signHands() []hand {
	put := func(p impl.Place, text string) impl.Step {
		return impl.Step{Kind: impl.StepIn, Place: p, Text: read(text)}
	}
	take := func(p impl.Place, text string) impl.Step {
		return impl.Step{Kind: impl.StepOut, Place: p, Text: read(text)}
	}
	cell := func(cell, at int) impl.Place { return impl.Place{Block: 5, Cell: cell, At: at} }
	with := func(old, now string) string { return strings.Replace(handDoc, old, now, 1) }
	return []hand{
		{put(in(0, 0), "q"), with("abc", "qabc")},
		{put(in(0, 1), "+1q-2 "), with("abc", "a+1q-2 bc")},
		{put(in(0, 3), "qq"), with("abc", "abcqq")},
		{put(in(0, 4), "qq"), ""},
		{put(in(0, -1), "qq"), ""},
		{put(in(1, 1), "q"), with("d+1e", "dq+1e")},
		{put(in(4, 1), "+3-1q"), with("-2z", "-2z+3-1q")},
		{put(in(6, 0), "q"), ""},
		{put(in(-1, 0), "q"), ""},
		{put(cell(0, 2), "q"), with("fg", "fgq")},
		{put(cell(1, 0), "q"), with("c1011:", "c1011:q")},
		{put(cell(1, 1), "q"), ""},
		{put(cell(2, 0), "q"), with(":h", ":qh")},
		{put(cell(3, 0), "q"), ""},
		{put(cell(-1, 0), "q"), ""},
		{put(impl.Place{Cell: 1}, "q"), ""},
		{put(in(0, 3), strings.Repeat("q", 21)), with("abc", "abc"+strings.Repeat("q", 21))},
		{put(in(0, 0), strings.Repeat("q", 22)), ""},
		{put(cell(1, 0), strings.Repeat("q", 24)), with("c1011:", "c1011:"+strings.Repeat("q", 24))},
		{put(cell(2, 1), strings.Repeat("q", 24)), ""},
		{take(in(0, 0), "a"), with("abc", "bc")},
		{take(in(0, 0), "abc"), with("abc", "")},
		{take(in(0, 1), "bc"), with("abc", "a")},
		{take(in(0, 2), "c"), with("abc", "ab")},
		{take(in(0, 2), "cd"), ""},
		{take(in(0, 3), "d"), ""},
		{take(in(0, 3), "c"), ""},
		{take(in(0, 1), "ab"), ""},
		{take(in(0, 1), "bd"), ""},
		{take(in(0, 1), "b+1c"), ""},
		{take(in(0, 4), "a"), ""},
		{take(in(0, -1), "a"), ""},
		{take(in(1, 1), "+1e"), with("d+1e", "d")},
		{take(in(1, 1), "e"), ""},
		{take(in(1, 1), "-1e"), ""},
		{take(in(1, 1), "+2e"), ""},
		{take(in(4, 0), "-2z"), with("-2z", "")},
		{take(in(4, 0), "+2z"), ""},
		{take(cell(0, 1), "g"), with("fg", "f")},
		{take(cell(2, 0), "h"), with(":h", ":")},
		{take(cell(1, 0), "h"), ""},
		{take(cell(3, 0), "h"), ""},
		{take(impl.Place{Cell: 1}, "a"), ""},
	}
}

// blockHands are steps of blocks.
func blockHands() []hand {
	one := func(s string) impl.Block { return readDoc(s).Blocks[0] }
	put := func(block int, now string) impl.Step {
		return impl.Step{Kind: impl.StepPut, Place: in(block, 0), Now: one(now)}
	}
	take := func(block int, was string) impl.Step {
		return impl.Step{Kind: impl.StepTake, Place: in(block, 0), Was: one(was)}
	}
	be := func(block int, was, now string) impl.Step {
		return impl.Step{Kind: impl.StepBe, Place: in(block, 0), Was: one(was), Now: one(now)}
	}
	with := func(old, now string) string { return strings.Replace(handDoc, old, now, 1) }
	table := "t22:\nc0012:fg\nc1011:\nc1111:h\n"
	return []hand{
		{put(0, "p:q\n"), "p:q\n" + handDoc},
		{put(0, "i0:\n"), "i0:\n" + handDoc},
		{put(0, "i1:q\n"), ""},
		{put(2, "t12:\nc0012:q\n"), with("i0:x", "t12:\nc0012:q\ni0:x")},
		{put(3, "i1:q\n"), with("i1:yy", "i1:q\ni1:yy")},
		{put(3, "i2:q\n"), ""},
		{put(4, "i2:q\n"), with("i1:-2z", "i2:q\ni1:-2z")},
		{put(4, "i3:q\n"), ""},
		{put(3, "p:q\n"), ""},
		{put(3, "t11:\nc0011:\n"), ""},
		{put(5, "i2:q\n"), with("t22", "i2:q\nt22")},
		{put(6, "i0:q\n"), handDoc + "i0:q\n"},
		{put(6, "i1:q\n"), ""},
		{put(7, "p:q\n"), ""},
		{put(-1, "p:q\n"), ""},
		{take(0, "p:abc\n"), with("p:abc\n", "")},
		{take(0, "p:ab\n"), ""},
		{take(0, "i0:abc\n"), ""},
		{take(1, "p:d+1e\n"), with("p:d+1e\n", "")},
		{take(1, "p:de\n"), ""},
		{take(2, "i0:x\n"), ""},
		{take(3, "i1:yy\n"), with("i1:yy\n", "")},
		{take(3, "i0:yy\n"), ""},
		{take(4, "i1:-2z\n"), with("i1:-2z\n", "")},
		{take(5, table), with(table, "")},
		{take(5, "t22:\nc0012:fg\nc1011:\nc1111:\n"), ""},
		{take(5, "t22:\nc0021:fg\nc0111:\nc1111:h\n"), ""},
		{take(6, "p:abc\n"), ""},
		{take(-1, "p:abc\n"), ""},
		{be(0, "p:abc\n", "i0:q\n"), with("p:abc", "i0:q")},
		{be(0, "p:abc\n", "p:abc\n"), handDoc},
		{be(0, "p:abc\n", "i1:q\n"), ""},
		{be(0, "p:abd\n", "p:q\n"), ""},
		{be(2, "i0:x\n", "p:x\n"), ""},
		{be(2, "i0:x\n", "i0:w\n"), with("i0:x", "i0:w")},
		{be(4, "i1:-2z\n", "i2:-2z\n"), with("i1:-2z", "i2:-2z")},
		{be(4, "i1:-2z\n", "i3:-2z\n"), ""},
		{be(4, "i1:-2z\n", "p:\n"), with("i1:-2z", "p:")},
		{be(5, table, "p:\n"), with(table, "p:\n")},
		{be(5, table, "i2:\n"), with(table, "i2:\n")},
		{be(6, table, "p:\n"), ""},
		{be(-1, "p:abc\n", "p:\n"), ""},
	}
}

// pieceHands are steps that part and join.
func pieceHands() []hand {
	part := func(block, at int) impl.Step { return impl.Step{Kind: impl.StepPart, Place: in(block, at)} }
	join := func(block, at int) impl.Step { return impl.Step{Kind: impl.StepJoin, Place: in(block, at)} }
	with := func(old, now string) string { return strings.Replace(handDoc, old, now, 1) }
	return []hand{
		{part(0, 0), with("p:abc", "p:\np:abc")},
		{part(0, 1), with("p:abc", "p:a\np:bc")},
		{part(0, 3), with("p:abc", "p:abc\np:")},
		{part(0, 4), ""},
		{part(0, -1), ""},
		{part(1, 1), with("p:d+1e", "p:d\np:+1e")},
		{part(3, 1), with("i1:yy", "i1:y\ni1:y")},
		{part(4, 1), with("i1:-2z", "i1:-2z\ni1:")},
		{part(5, 0), ""},
		{part(6, 0), ""},
		{part(-1, 0), ""},
		{join(0, 3), with("p:abc\np:d", "p:abcd")},
		{join(0, 2), ""},
		{join(0, 4), ""},
		{join(0, 0), ""},
		{join(1, 2), ""},
		{join(2, 1), ""},
		{join(3, 2), with("i1:yy\ni1:-2z", "i1:yy-2z")},
		{join(4, 1), ""},
		{join(5, 0), ""},
		{join(6, 0), ""},
		{join(-1, 0), ""},
		{join(-1, 3), ""},
	}
}

func TestStepDoByHand(t *testing.T) {
	d := readDoc(handDoc)
	for i, h := range slices.Concat(signHands(), blockHands(), pieceHands()) {
		x, ok := impl.StepDo(d, h.s)
		if ok != (h.want != "") || !equalDocs(x, readDoc(h.want)) {
			t.Errorf("%d %+v: %q", i, h.s, impl.DocWrite(x))
		}
	}
}

// Just the most blocks are ok behind a step, and one more is refused; so is a document of no blocks a document.
func TestStepDoAtTheLimits(t *testing.T) {
	para := readDoc("p:a\n").Blocks[0]
	for size := range impl.DocMax + 1 {
		d := readDoc(strings.Repeat("p:a\n", size))
		for at := -1; at <= size+1; at++ {
			x, ok := impl.StepDo(d, impl.Step{Kind: impl.StepPut, Place: in(at, 0), Now: para})
			if ok != (0 <= at && at <= size && size < 8) || ok != (len(x.Blocks) == size+1) {
				t.Fatal(size, at, ok)
			}
			if _, ok := impl.StepDo(d, impl.Step{Kind: impl.StepPart, Place: in(at, 1)}); ok != (0 <= at && at < size && size < 8) {
				t.Fatal(size, at, ok)
			}
			if _, ok := impl.StepDo(d, impl.Step{Kind: impl.StepTake, Place: in(at, 0), Was: para}); ok != (0 <= at && at < size) {
				t.Fatal(size, at, ok)
			}
			if _, ok := impl.StepDo(d, impl.Step{Kind: impl.StepJoin, Place: in(at, 1)}); ok != (0 <= at && at+1 < size) {
				t.Fatal(size, at, ok)
			}
		}
	}
	for first := range impl.TextMax + 1 {
		for second := range impl.TextMax + 1 {
			for _, head := range []string{"p:", "i0:"} {
				d := readDoc(head + strings.Repeat("a", first) + "\n" + head + strings.Repeat("b", second) + "\n")
				x, ok := impl.StepDo(d, impl.Step{Kind: impl.StepJoin, Place: in(0, first)})
				if ok != (first+second <= 24) || ok && bytesOf(x.Blocks[0].Text) != strings.Repeat("a", first)+strings.Repeat("b", second) {
					t.Fatal(first, second, ok)
				}
				if second == 0 {
					continue
				}
				for _, at := range someAts(first) {
					_, ok := impl.StepDo(d, impl.Step{Kind: impl.StepIn, Place: in(0, at), Text: d.Blocks[1].Text})
					if ok != (first+second <= 24 && 0 <= at && at <= first) {
						t.Fatal(first, second, at, ok)
					}
				}
			}
		}
	}
}

func TestPlacesByHand(t *testing.T) {
	d := readDoc(handDoc)
	for _, c := range []struct {
		p    impl.Place
		text string
		ok   bool
	}{
		{in(0, 0), "abc", true}, {in(0, 3), "abc", true}, {in(0, 4), "", false}, {in(0, -1), "", false},
		{in(1, 2), "d+1e", true}, {in(4, 1), "-2z", true}, {in(4, 2), "", false},
		{in(5, 0), "fg", true}, {in(5, 2), "fg", true}, {in(5, 3), "", false},
		{impl.Place{Block: 5, Cell: 1}, "", true}, {impl.Place{Block: 5, Cell: 1, At: 1}, "", false},
		{impl.Place{Block: 5, Cell: 2, At: 1}, "h", true}, {impl.Place{Block: 5, Cell: 3}, "", false}, {impl.Place{Block: 5, Cell: -1}, "", false},
		{impl.Place{Cell: 1}, "", false}, {impl.Place{Cell: -1}, "", false}, {impl.Place{Block: 2, Cell: 1}, "", false},
		{in(6, 0), "", false}, {in(-1, 0), "", false},
	} {
		if impl.PlaceOk(d, c.p) != c.ok {
			t.Error(c)
		}
		same(t, impl.PlaceText(d, c.p), read(c.text), c)
	}
	for _, p := range []impl.Place{{}, in(0, 1), in(1, 0), {Cell: 1}} {
		if impl.PlaceOk(impl.Doc{}, p) || len(impl.PlaceText(impl.Doc{}, p)) != 0 {
			t.Error("a place of no blocks", p)
		}
	}
}

// Very great and very small numbers are no places, in any part of one.
func TestNoPlacesOfADoc(t *testing.T) {
	for _, d := range stepDocs() {
		for _, p := range append(places(d), impl.Place{}) {
			if p.At > 1 {
				continue
			}
			for _, n := range extremes() {
				for _, q := range []impl.Place{{Block: n, Cell: p.Cell, At: p.At}, {Block: p.Block, Cell: n, At: p.At}, {Block: p.Block, Cell: p.Cell, At: n}, {Block: n, Cell: n, At: n}} {
					if impl.PlaceOk(d, q) || len(impl.PlaceText(d, q)) != 0 {
						t.Fatal(d, q)
					}
				}
			}
		}
	}
}

// At such places nothing can be done.
func TestStepsAtNoPlaces(t *testing.T) {
	d := readDoc(handDoc)
	for _, h := range slices.Concat(signHands(), blockHands(), pieceHands()) {
		for _, n := range extremes() {
			for _, p := range []impl.Place{{Block: n, Cell: h.s.Place.Cell, At: h.s.Place.At}, {Block: h.s.Place.Block, Cell: n, At: h.s.Place.At}, {Block: h.s.Place.Block, Cell: h.s.Place.Cell, At: n}, {Block: n, Cell: n, At: n}} {
				s := h.s
				s.Place = p
				refusedDoc(t, s)(impl.StepDo(d, s))
				refusedDoc(t, s)(impl.StepAll(d, []impl.Step{s}))
			}
		}
	}
}

// A document that is not ok has one answer everywhere, also where what came of a step would be ok.
func TestStepsOfWrongDocs(t *testing.T) {
	for _, d := range wrongDocs() {
		steps := []impl.Step{{}}
		for block, b := range d.Blocks {
			if block > 8 {
				break
			}
			steps = append(steps, impl.Step{Kind: impl.StepTake, Place: in(block, 0), Was: b}, impl.Step{Kind: impl.StepBe, Place: in(block, 0), Was: b, Now: newBlocks()[0]}, impl.Step{Kind: impl.StepIn, Place: in(block, 0), Text: read("a")}, impl.Step{Kind: impl.StepPart, Place: in(block, 0)}, impl.Step{Kind: impl.StepJoin, Place: in(block, len(b.Text))}, impl.Step{Kind: impl.StepPut, Place: in(block, 0), Now: newBlocks()[2]})
			if n := len(b.Text); n > 0 {
				steps = append(steps, impl.Step{Kind: impl.StepOut, Place: in(block, 0), Text: b.Text}, impl.Step{Kind: impl.StepOut, Place: in(block, n-1), Text: b.Text[n-1:]})
			}
			for _, p := range []impl.Place{in(block, 0), in(block, 1), {Block: block, Cell: 1}} {
				if impl.PlaceOk(d, p) || len(impl.PlaceText(d, p)) != 0 {
					t.Fatal(d, p)
				}
			}
		}
		for _, s := range steps {
			refusedDoc(t, d, s)(impl.StepDo(d, s))
			refusedDoc(t, d, s)(impl.StepAll(d, []impl.Step{s}))
		}
		refusedDoc(t, d)(impl.StepAll(d, nil))
		refusedDoc(t, d)(impl.StepAll(d, []impl.Step{}))
	}
}

// goodSteps are steps that can be done to handDoc, two of each kind.
func goodSteps() []impl.Step {
	var all []impl.Step
	met := map[int]int{}
	for _, h := range slices.Concat(signHands(), blockHands(), pieceHands()) {
		if h.want != "" && met[h.s.Kind] < 2 {
			all = append(all, h.s)
			met[h.s.Kind]++
		}
	}
	return all
}

// wrongSteps are steps that have not what their kind says, each by one fault alone.
func wrongSteps() []impl.Step {
	var all []impl.Step
	for _, s := range goodSteps() {
		change := func(f func(*impl.Step)) {
			x := copiedStep(s)
			f(&x)
			all = append(all, x)
		}
		for _, k := range []int{0, -1, -2, 8, 9, 10, 255, 256 + s.Kind, 1<<32 + s.Kind, math.MaxInt, math.MinInt, math.MinInt + s.Kind, -s.Kind, s.Kind + 7, s.Kind + 8} {
			change(func(x *impl.Step) { x.Kind = k })
		}
		isText, hasWas, hasNow := s.Kind <= 2, s.Kind == 4 || s.Kind == 7, s.Kind == 3 || s.Kind == 7
		for _, n := range append(extremes(), 1, 2, 3) {
			if !isText {
				change(func(x *impl.Step) { x.Place.Cell = n })
			}
			if s.Kind == 3 || s.Kind == 4 || s.Kind == 7 {
				change(func(x *impl.Step) { x.Place.At = n })
			}
		}
		for _, text := range wrongTextsOf(isText) {
			change(func(x *impl.Step) { x.Text = text })
		}
		for _, b := range wrongBlocksOf(hasWas) {
			change(func(x *impl.Step) { x.Was = b })
		}
		for _, b := range wrongBlocksOf(hasNow) {
			change(func(x *impl.Step) { x.Now = b })
		}
	}
	return all
}

// wrongTextsOf are texts that are wrong in a step that has one, or has none.
func wrongTextsOf(has bool) [][]impl.Sign {
	if has {
		return append(wrongTexts(), nil, []impl.Sign{}, make([]impl.Sign, 0, 5))
	}
	return append(slices.Clone(okTexts()[2:20]), make([]impl.Sign, 1), read("A"), slices.Repeat(read("a"), 25))
}

// wrongBlocksOf are blocks that are wrong in a step that has one, or has none.
func wrongBlocksOf(has bool) []impl.Block {
	if has {
		return wrongBlocks()
	}
	return append(slices.Clone(newBlocks()), impl.Block{Kind: 1}, impl.Block{Kind: -1}, impl.Block{Kind: 8}, impl.Block{Level: 1}, impl.Block{Level: -1}, impl.Block{Text: read("a")}, impl.Block{Text: make([]impl.Sign, 1)}, impl.Block{Table: impl.Table{Rows: 1}}, impl.Block{Table: impl.Table{Cols: -1}}, impl.Block{Table: impl.Table{Cells: make([]impl.Cell, 1)}})
}

// A step that has not what its kind says is refused, and not turned, though all else about it is right.
func TestWrongSteps(t *testing.T) {
	d := readDoc(handDoc)
	good := goodSteps()
	if len(good) != 14 {
		t.Fatal(good)
	}
	for _, s := range good {
		mustDoc(t, s)(impl.StepDo(d, s))
	}
	for _, s := range wrongSteps() {
		refusedDoc(t, s)(impl.StepDo(d, s))
		refusedDoc(t, s)(impl.StepAll(d, []impl.Step{s}))
		refusedDoc(t, s)(impl.StepDo(impl.Doc{}, s))
		if x := impl.StepTurn(s); !sameStep(x, impl.Step{}) {
			t.Fatal(s, x)
		}
	}
}

// What a step has not is nothing, be that a nil list or an empty one.
func TestEmptyListsOfSteps(t *testing.T) {
	d := readDoc(handDoc)
	none := impl.Block{Text: []impl.Sign{}, Table: impl.Table{Cells: make([]impl.Cell, 0, 3)}}
	for _, s := range goodSteps() {
		x := s
		if len(x.Text) == 0 {
			x.Text = make([]impl.Sign, 0, 3)
		}
		if x.Was.Kind == 0 {
			x.Was = none
		}
		if x.Now.Kind == 0 {
			x.Now = none
		}
		sameDoc(t, mustDoc(t, x)(impl.StepDo(d, x)), mustDoc(t, s)(impl.StepDo(d, s)))
		if y := impl.StepTurn(x); y.Kind == 0 || !sameStep(y, impl.StepTurn(s)) {
			t.Fatal(s, y)
		}
	}
	empty := impl.Doc{Blocks: []impl.Block{{Kind: impl.BlockPara, Text: []impl.Sign{}, Table: none.Table}, {Kind: impl.BlockTable, Table: impl.TableNew(1, 1), Text: []impl.Sign{}}}}
	for block, was := range readDoc("p:\nt11:\nc0011:\n").Blocks {
		mustDoc(t, block)(impl.StepDo(empty, impl.Step{Kind: impl.StepTake, Place: in(block, 0), Was: was}))
		mustDoc(t, block)(impl.StepDo(empty, impl.Step{Kind: impl.StepBe, Place: in(block, 0), Was: was, Now: empty.Blocks[1-block]}))
	}
}

// A step is turned also where there is no such place: whether it can be done is not asked.
func TestStepTurnAsksForNoPlace(t *testing.T) {
	for _, s := range goodSteps() {
		for _, n := range extremes() {
			s.Place.Block = n
			if s.Kind <= 2 {
				s.Place.Cell = n
			}
			if s.Kind <= 2 || s.Kind == 5 || s.Kind == 6 {
				s.Place.At = n
			}
			if x := impl.StepTurn(s); x.Kind == 0 || x.Place != s.Place || !sameStep(impl.StepTurn(x), s) {
				t.Fatal(s, x)
			}
		}
	}
}

func TestStepAllByHand(t *testing.T) {
	d := readDoc("p:abc\n")
	one := func(s string) impl.Block { return readDoc(s).Blocks[0] }
	steps := []impl.Step{
		{Kind: impl.StepIn, Place: in(0, 3), Text: read("+1d")},
		{Kind: impl.StepPart, Place: in(0, 2)},
		{Kind: impl.StepPut, Place: in(1, 0), Now: one("i0:q\n")},
		{Kind: impl.StepTake, Place: in(2, 0), Was: one("p:c+1d\n")},
		{Kind: impl.StepBe, Place: in(0, 0), Was: one("p:ab\n"), Now: one("i0:w\n")},
		{Kind: impl.StepJoin, Place: in(0, 1)},
		{Kind: impl.StepOut, Place: in(0, 0), Text: read("w")},
	}
	for i, want := range []string{"p:abc\n", "p:abc+1d\n", "p:ab\np:c+1d\n", "p:ab\ni0:q\np:c+1d\n", "p:ab\ni0:q\n", "i0:w\ni0:q\n", "i0:wq\n", "i0:q\n"} {
		if x, ok := impl.StepAll(d, steps[:i]); !ok || impl.DocWrite(x) != want {
			t.Fatal(i, impl.DocWrite(x))
		}
	}
	none := impl.Step{Kind: impl.StepOut, Place: in(0, 0), Text: read("z")}
	for i := range len(steps) + 1 {
		refusedDoc(t, i)(impl.StepAll(d, slices.Insert(slices.Clone(steps), i, none)))
		refusedDoc(t, i)(impl.StepAll(d, slices.Insert(slices.Clone(steps), i, impl.Step{})))
	}
	refusedDoc(t)(impl.StepAll(d, slices.Repeat([]impl.Step{none}, 100000)))
	there := impl.Step{Kind: impl.StepIn, Place: in(0, 0), Text: read("z")}
	x := mustDoc(t)(impl.StepAll(d, slices.Repeat([]impl.Step{there, impl.StepTurn(there)}, 2000)))
	sameDoc(t, x, d)
}

// Huge arguments are answered, too.
func TestStepsOfHugeLists(t *testing.T) {
	d := readDoc("p:abc\n")
	text := make([]impl.Sign, 1<<20)
	cells := make([]impl.Cell, 1<<20)
	huge := impl.Block{Kind: impl.BlockTable, Table: impl.Table{Rows: 5, Cols: 5, Cells: cells}}
	for _, k := range allKinds {
		for _, s := range []impl.Step{{Kind: k, Text: text}, {Kind: k, Was: huge}, {Kind: k, Now: huge}, {Kind: k, Was: impl.Block{Kind: 1, Text: text}, Now: impl.Block{Kind: 1, Text: text}}} {
			refusedDoc(t, k)(impl.StepDo(d, s))
			if x := impl.StepTurn(s); !sameStep(x, impl.Step{}) {
				t.Fatal(k)
			}
		}
	}
}

package tests

import (
	"cmp"
	"slices"
	"testing"

	"loop.example/limner/impl"
)

func TestPromise51PlacesOfAText(t *testing.T) {
	for _, d := range stepDocs() {
		for block, b := range d.Blocks {
			for cell, text := range textsOf(b) {
				for n := -3; n <= len(text)+3; n++ {
					if impl.PlaceOk(d, at(block, cell, n)) != (0 <= n && n <= len(text)) {
						t.Fatal(d, block, cell, n)
					}
				}
			}
		}
		for _, p := range places(d) {
			for n := range p.At {
				if !impl.PlaceOk(d, at(p.Block, p.Cell, n)) {
					t.Fatal(d, p, n)
				}
			}
		}
	}
}

func TestPromise52ThePlacesText(t *testing.T) {
	for _, d := range stepDocs() {
		for _, p := range places(d) {
			want := d.Blocks[p.Block].Text
			if d.Blocks[p.Block].Kind == impl.BlockTable {
				want = d.Blocks[p.Block].Table.Cells[p.Cell].Text
			}
			same(t, impl.PlaceText(d, p), want, d, p)
		}
		for block, b := range d.Blocks {
			for cell, text := range textsOf(b) {
				for _, p := range []impl.Place{at(block, cell, len(text)+1), at(block, cell, -1), at(block, cell-100, 0), at(block, cell+100, 0)} {
					same(t, impl.PlaceText(d, p), nil, d, p)
				}
			}
		}
	}
}

func TestPromise53UndoneJustSo(t *testing.T) {
	for _, c := range doneCases(t) {
		turned := impl.StepTurn(c.s)
		back := mustDoc(t, c, "undone")(impl.StepDo(c.x, turned))
		sameDoc(t, back, c.d, c)
		again := mustDoc(t, c, "done again")(impl.StepDo(back, impl.StepTurn(turned)))
		sameDoc(t, again, c.x, c)
	}
}

func TestPromise54WhatComesIsOk(t *testing.T) {
	for _, c := range stepCases() {
		if c.ok && !impl.DocOk(c.x) || !c.ok && len(c.x.Blocks) != 0 {
			t.Fatal(c)
		}
	}
	for n, c := range doneCases(t) { // and of one more behind it
		if n%25 != 0 {
			continue
		}
		for i, s := range stepsOf(c.x) {
			if i%97 != 0 {
				continue
			}
			if y, ok := impl.StepDo(c.x, s); ok && !impl.DocOk(y) {
				t.Fatal(c, s, y)
			}
		}
	}
}

func TestPromise55TurnedTwice(t *testing.T) {
	for _, c := range stepCases() {
		turned := impl.StepTurn(c.s)
		if turned.Kind == 0 || !sameStep(impl.StepTurn(turned), c.s) {
			t.Fatal(c.s, turned)
		}
	}
}

func TestPromise56WhatIsPutInIsThere(t *testing.T) {
	for _, c := range doneCases(t, impl.StepIn) {
		was, now := textOfPlace(c.d, c.s.Place), impl.PlaceText(c.x, c.s.Place)
		n, size := c.s.Place.At, len(c.s.Text)
		same(t, now[n:n+size], c.s.Text, c)
		same(t, now[:n], was[:n], c)
		same(t, now[n+size:], was[n:], c)
		sameDoc(t, withTextAt(c.x, c.s.Place, was), c.d, c)
	}
}

func TestPromise57WhatIsTakenOutWasThere(t *testing.T) {
	for _, c := range doneCases(t, impl.StepOut) {
		was, now := textOfPlace(c.d, c.s.Place), impl.PlaceText(c.x, c.s.Place)
		n, size := c.s.Place.At, len(c.s.Text)
		same(t, was[n:n+size], c.s.Text, c)
		same(t, now, slices.Concat(was[:n], was[n+size:]), c)
		sameDoc(t, withTextAt(c.x, c.s.Place, was), c.d, c)
	}
}

func TestPromise58PartedAndJoined(t *testing.T) {
	for _, c := range doneCases(t, impl.StepPart) {
		block := c.s.Place.Block
		first, second := c.x.Blocks[block], c.x.Blocks[block+1]
		same(t, slices.Concat(first.Text, second.Text), c.d.Blocks[block].Text, c)
		if len(first.Text) != c.s.Place.At || first.Kind != second.Kind || first.Level != second.Level || first.Kind != c.d.Blocks[block].Kind || first.Level != c.d.Blocks[block].Level {
			t.Fatal(c)
		}
		joined := mustDoc(t, c)(impl.StepDo(c.x, impl.Step{Kind: impl.StepJoin, Place: c.s.Place}))
		sameDoc(t, joined, c.d, c)
	}
}

func TestPromise59HowManyBlocks(t *testing.T) {
	more := map[int]int{impl.StepIn: 0, impl.StepOut: 0, impl.StepPut: 1, impl.StepTake: -1, impl.StepPart: 1, impl.StepJoin: -1, impl.StepBe: 0}
	for _, c := range doneCases(t) {
		if len(c.x.Blocks) != len(c.d.Blocks)+more[c.s.Kind] {
			t.Fatal(c)
		}
	}
}

// isUnique says whether each sign of a document, and what a step puts in, is there just once.
func isUnique(c stepCase) bool {
	met := map[impl.Sign]bool{}
	for _, b := range append(slices.Clone(c.d.Blocks), impl.Block{Kind: impl.BlockPara, Text: c.s.Text}, c.s.Now) {
		for _, text := range textsOf(b) {
			for _, s := range text {
				if met[s] {
					return false
				}
				met[s] = true
			}
		}
	}
	return true
}

func TestPromise60TheSignBehind(t *testing.T) {
	unique := 0
	for _, c := range doneCases(t) {
		if isUnique(c) { // so that it is the very sign, and no other one that is as it
			unique++
		}
		for _, p := range places(c.d) {
			was, is := signBehind(c.d, p)
			q, stays := impl.StepMap(c.s, p)
			if !stays || !is {
				continue
			}
			if now, is := signBehind(c.x, q); !is || now != was {
				t.Fatal(c, p, q)
			}
		}
	}
	if unique < 500 {
		t.Fatal(unique)
	}
}

func TestPromise61APlaceThatStaysIsOne(t *testing.T) {
	for _, c := range doneCases(t) {
		if c.s.Place.Block > 1 && c.s.Kind <= 2 && c.s.Place.At%2 == 1 { // many are alike
			continue
		}
		now := places(c.x)
		for i, p := range places(c.d) {
			q, stays := impl.StepMap(c.s, p)
			if stays && !slices.Contains(now, q) || stays && i%7 == 0 && !impl.PlaceOk(c.x, q) {
				t.Fatal(c, p, q)
			}
		}
	}
}

func TestPromise62APlaceComesBack(t *testing.T) {
	for _, c := range doneCases(t, impl.StepIn, impl.StepPut, impl.StepPart) {
		for _, p := range places(c.d) {
			q, stays := impl.StepMap(c.s, p)
			back, still := impl.StepMap(impl.StepTurn(c.s), q)
			if !stays || !still || back != p {
				t.Fatal(c, p, q, back)
			}
		}
	}
}

// order is how two places follow each other.
func order(p, q impl.Place) int {
	return cmp.Or(cmp.Compare(p.Block, q.Block), cmp.Compare(p.Cell, q.Cell), cmp.Compare(p.At, q.At))
}

func TestPromise63NoneOvertakes(t *testing.T) {
	for _, c := range doneCases(t) {
		var last, lastMoved impl.Place
		met := false
		for _, p := range places(c.d) { // in order, so that it is enough to look at two that follow each other
			q, stays := impl.StepMap(c.s, p)
			if !stays {
				continue
			}
			if met && last.Block == p.Block && last.Cell == p.Cell && order(lastMoved, q) >= 0 {
				t.Fatal(c, last, p, lastMoved, q)
			}
			last, lastMoved, met = p, q, true
		}
	}
}

func TestPromise64BlocksAheadAndBehind(t *testing.T) {
	for _, c := range doneCases(t) {
		block, more := c.s.Place.Block, len(c.x.Blocks)-len(c.d.Blocks)
		sameDoc(t, cut(c.x, 0, block), cut(c.d, 0, block), c)
		if from := block + 2; from <= len(c.d.Blocks) {
			sameDoc(t, cut(c.x, from+more, len(c.x.Blocks)), cut(c.d, from, len(c.d.Blocks)), c)
		}
	}
}

// lists are lists of steps of a walk: all that can be done, and such in which one cannot.
func (w walk) lists() [][]impl.Step {
	none := impl.Step{Kind: impl.StepTake, Place: in(0, 0), Was: readDoc("p:nobody has this\n").Blocks[0]}
	all := [][]impl.Step{w.steps}
	for _, n := range []int{0, len(w.steps) / 2, len(w.steps)} {
		all = append(all, slices.Insert(slices.Clone(w.steps), n, none))
	}
	return all
}

func TestPromise65OneBehindTheOther(t *testing.T) {
	all := 0
	for _, w := range walks() {
		for i, list := range w.lists() {
			x, ok := impl.StepAll(w.d, list)
			if ok != (i == 0) || !ok && len(x.Blocks) != 0 {
				t.Fatal(w.d, list, ok)
			}
			for n := range len(list) + 1 {
				first, firstOk := impl.StepAll(w.d, list[:n])
				second, secondOk := impl.StepAll(first, list[n:])
				if !firstOk {
					second, secondOk = impl.Doc{}, false
				}
				if secondOk != ok {
					t.Fatal(w.d, list, n)
				}
				sameDoc(t, second, x, w.d, list, n)
				if i == 0 && n > 0 {
					sameDoc(t, first, w.docs[n-1], w.d, list, n)
				}
			}
		}
		all += len(w.steps)
	}
	if all < 300 {
		t.Fatal("few steps", all)
	}
}

func TestPromise66AllIsUndone(t *testing.T) {
	for _, w := range walks() {
		for n := range len(w.steps) + 1 {
			x := mustDoc(t, w)(impl.StepAll(w.d, w.steps[:n]))
			sameDoc(t, mustDoc(t, w)(impl.StepAll(x, turnedBack(w.steps[:n]))), w.d, w, n)
		}
	}
}

func TestPromise67EitherOrder(t *testing.T) {
	pairs := 0
	for i, d := range stepDocs() {
		var steps []impl.Step
		for j, s := range stepsOf(d) {
			if s.Kind <= impl.StepOut && (i+j)%5 == 0 {
				if _, ok := impl.StepDo(d, s); ok {
					steps = append(steps, s)
				}
			}
		}
		for j, a := range steps {
			for k, b := range steps[:j] {
				if a.Place.Block == b.Place.Block || (j+k)%11 != 0 {
					continue
				}
				pairs++
				x := mustDoc(t, d, a, b)(impl.StepAll(d, []impl.Step{a, b}))
				y := mustDoc(t, d, b, a)(impl.StepAll(d, []impl.Step{b, a}))
				sameDoc(t, x, y, d, a, b)
			}
		}
	}
	if pairs < 1000 {
		t.Fatal("few pairs", pairs)
	}
}

func TestPromise68OneStepAndNone(t *testing.T) {
	for i, c := range stepCases() {
		if !c.ok && i%5 != 0 {
			continue
		}
		x, ok := impl.StepAll(c.d, []impl.Step{c.s})
		if ok != c.ok {
			t.Fatal(c)
		}
		sameDoc(t, x, c.x, c)
	}
	for _, d := range append(okDocs(), stepDocs()...) {
		for _, none := range [][]impl.Step{nil, {}, make([]impl.Step, 0, 4)} {
			sameDoc(t, mustDoc(t, d)(impl.StepAll(d, none)), d)
		}
	}
}

// without is a document without one of its blocks.
func without(d impl.Doc, block int) impl.Doc {
	d = copiedDoc(d)
	d.Blocks = slices.Delete(d.Blocks, block, block+1)
	return d
}

func TestPromise69ABlockPutIn(t *testing.T) {
	for _, c := range doneCases(t, impl.StepPut) {
		if !sameBlock(c.x.Blocks[c.s.Place.Block], c.s.Now) {
			t.Fatal(c)
		}
		sameDoc(t, without(c.x, c.s.Place.Block), c.d, c)
	}
}

func TestPromise70ABlockTakenOut(t *testing.T) {
	for _, c := range doneCases(t, impl.StepTake) {
		if !sameBlock(c.d.Blocks[c.s.Place.Block], c.s.Was) {
			t.Fatal(c)
		}
		sameDoc(t, c.x, without(c.d, c.s.Place.Block), c)
	}
}

func TestPromise71ABlockBecomesAnother(t *testing.T) {
	for _, c := range doneCases(t, impl.StepBe) {
		block := c.s.Place.Block
		if !sameBlock(c.d.Blocks[block], c.s.Was) || !sameBlock(c.x.Blocks[block], c.s.Now) {
			t.Fatal(c)
		}
		sameDoc(t, without(c.x, block), without(c.d, block), c)
	}
}

func TestPromise72JoinedBlocksHaveBothTexts(t *testing.T) {
	for _, c := range doneCases(t, impl.StepJoin) {
		block := c.s.Place.Block
		first, second, both := c.d.Blocks[block], c.d.Blocks[block+1], c.x.Blocks[block]
		same(t, both.Text, slices.Concat(first.Text, second.Text), c)
		if both.Kind != first.Kind || both.Level != first.Level || both.Kind != second.Kind || both.Level != second.Level || both.Kind == impl.BlockTable {
			t.Fatal(c)
		}
		sameDoc(t, without(c.x, block), without(without(c.d, block), block), c)
	}
}

func TestPromise73TheKindThatUndoes(t *testing.T) {
	turned := map[int]int{1: 2, 2: 1, 3: 4, 4: 3, 5: 6, 6: 5, 7: 7}
	for _, c := range stepCases() {
		want := impl.Step{Kind: turned[c.s.Kind], Place: c.s.Place, Text: c.s.Text, Was: c.s.Now, Now: c.s.Was}
		if x := impl.StepTurn(c.s); !sameStep(x, want) {
			t.Fatal(c.s, x)
		}
	}
}

func TestPromise74PlacesOfOtherBlocks(t *testing.T) {
	for _, c := range doneCases(t) {
		for _, p := range places(c.d) {
			block := c.s.Place.Block
			if p.Block == block && c.s.Kind != impl.StepPut || c.s.Kind == impl.StepJoin && p.Block == block+1 {
				continue // the step is at that block
			}
			q, stays := impl.StepMap(c.s, p)
			if !stays || q.Cell != p.Cell || q.At != p.At || p.Block < block && q != p {
				t.Fatal(c, p, q)
			}
			if !slices.Equal(textOfPlace(c.x, q), textOfPlace(c.d, p)) || c.x.Blocks[q.Block].Kind != c.d.Blocks[p.Block].Kind {
				t.Fatal(c, p, q)
			}
		}
	}
}

func TestPromise75WhatIsGone(t *testing.T) {
	for _, c := range doneCases(t) {
		for _, p := range places(c.d) {
			gone := false
			switch c.s.Kind {
			case impl.StepOut: // the sign behind it is one of those that are taken out
				gone = p.Block == c.s.Place.Block && p.Cell == c.s.Place.Cell && c.s.Place.At <= p.At && p.At < c.s.Place.At+len(c.s.Text)
			case impl.StepTake, impl.StepBe:
				gone = p.Block == c.s.Place.Block
			}
			q, stays := impl.StepMap(c.s, p)
			if stays == gone {
				t.Fatal(c, p)
			}
			if want := c.s.Place; gone && q != want { // where nothing else is named, a step's Cell and At are 0
				t.Fatal(c, p, q)
			}
		}
	}
}

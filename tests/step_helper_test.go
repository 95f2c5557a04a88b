package tests

import (
	"fmt"
	"math"
	"slices"
	"sync"
	"testing"

	"loop.example/limner/impl"
)

// allKinds are all kinds of steps.
var allKinds = []int{1, 2, 3, 4, 5, 6, 7}

// in is a place of a paragraph or an item.
func in(block, at int) impl.Place {
	return impl.Place{Block: block, At: at}
}

// sameStep says whether two steps are the same value.
func sameStep(a, b impl.Step) bool {
	return a.Kind == b.Kind && a.Place == b.Place && slices.Equal(a.Text, b.Text) && sameBlock(a.Was, b.Was) && sameBlock(a.Now, b.Now)
}

// copiedStep is the same step in memory of its own.
func copiedStep(s impl.Step) impl.Step {
	d := copiedDoc(impl.Doc{Blocks: []impl.Block{s.Was, s.Now}})
	s.Text, s.Was, s.Now = slices.Clone(s.Text), d.Blocks[0], d.Blocks[1]
	return s
}

// uniqueSigns are all signs that an ok text may have, each once.
var uniqueSigns = sync.OnceValue(func() []impl.Sign {
	var all []impl.Sign
	for _, s := range allNames() {
		for _, b := range []byte(goodBytes) {
			s.Byte = b
			all = append(all, s)
		}
	}
	return all
})

// signSource hands out signs that are all different, as far as there are enough.
type signSource struct{ from int }

func (u *signSource) text(size int) []impl.Sign {
	var t []impl.Sign
	for range size {
		t = append(t, uniqueSigns()[u.from%len(uniqueSigns())])
		u.from++
	}
	return t
}

// stepDoc is a document of one block a letter, as shaped has them, whose signs are all different, as far as there are enough. Sizes follow each other, from turn on.
func stepDoc(shape string, turn int) impl.Doc {
	sizes := []int{3, 0, 1, 12, 24, 5, 23, 2, 12, 13, 4, 11}
	cellSizes := []int{1, 0, 2, 24, 3, 0, 1, 23}
	tables := []impl.Table{impl.TableNew(1, 1), readTable(2, 2, "0021:|0111:|1111:"), impl.TableNew(1, 2), readTable(5, 5, "0055:"), readTable(3, 2, "0012:|1021:|1111:|2111:"), impl.TableNew(5, 5)}
	u := &signSource{from: turn * 7}
	var d impl.Doc
	for i, kind := range []byte(shape) {
		switch kind {
		case 'p':
			d.Blocks = append(d.Blocks, impl.Block{Kind: impl.BlockPara, Text: u.text(sizes[(turn+i)%len(sizes)])})
		case 't':
			table := copiedTable(tables[(turn+i)%len(tables)])
			for c := range table.Cells {
				table.Cells[c].Text = u.text(cellSizes[(turn+c)%len(cellSizes)])
			}
			d.Blocks = append(d.Blocks, impl.Block{Kind: impl.BlockTable, Table: table})
		default:
			d.Blocks = append(d.Blocks, impl.Block{Kind: impl.BlockItem, Level: int(kind - '0'), Text: u.text(sizes[(turn+i)%len(sizes)])})
		}
	}
	return d
}

// stepDocs are documents of all ok shapes of up to three blocks, and some of more, up to the most. They are made once, and only read.
var stepDocs = sync.OnceValue(func() []impl.Doc {
	var all []impl.Doc
	for i, s := range append(allShapes("pt0123", 3), "ppp0", "0011", "0121", "pt0p", "01200", "pp00pp", "0123321", "ppppppp", "tp0p0t", "01230123", "pppppppp", "00000000", "tttttttt", "p0t01p00") {
		if okShape(s) {
			all = append(all, stepDoc(s, i), stepDoc(s, i*5+2))
		}
	}
	return all
})

// textsOf are the texts of a block, by cells.
func textsOf(b impl.Block) [][]impl.Sign {
	if b.Kind != impl.BlockTable {
		return [][]impl.Sign{b.Text}
	}
	var all [][]impl.Sign
	for _, c := range b.Table.Cells {
		all = append(all, c.Text)
	}
	return all
}

// places are all places of a document.
func places(d impl.Doc) []impl.Place {
	var all []impl.Place
	for block, b := range d.Blocks {
		for cell, text := range textsOf(b) {
			for at := range len(text) + 1 {
				all = append(all, impl.Place{Block: block, Cell: cell, At: at})
			}
		}
	}
	return all
}

// textOfPlace is the text that a place is in, of a document that has it.
func textOfPlace(d impl.Doc, p impl.Place) []impl.Sign {
	return textsOf(d.Blocks[p.Block])[p.Cell]
}

// signBehind is the sign behind a place, and whether there is one.
func signBehind(d impl.Doc, p impl.Place) (impl.Sign, bool) {
	text := textOfPlace(d, p)
	if p.At == len(text) {
		return impl.Sign{}, false
	}
	return text[p.At], true
}

// withTextAt is a document with another text where a place is.
func withTextAt(d impl.Doc, p impl.Place, text []impl.Sign) impl.Doc {
	d = copiedDoc(d)
	if b := &d.Blocks[p.Block]; b.Kind == impl.BlockTable {
		b.Table.Cells[p.Cell].Text = text
	} else {
		b.Text = text
	}
	return d
}

// newBlocks are blocks to be put in: of each kind and level, empty and full.
var newBlocks = sync.OnceValue(func() []impl.Block {
	return readDoc("p:\np:+1a-2b\ni0:c\ni1:\ni2:+3-1d\ni3:e f\nt12:\nc0011:\nc0111:g\nt22:\nc0021:h\nc0111:\nc1111:+2i\np:abcdefghijklmnopqrstuvwx\n").Blocks
})

// nearBlocks are blocks that are as one is but for one thing.
func nearBlocks(b impl.Block) []impl.Block {
	var all []impl.Block
	other := func(change func(*impl.Block)) {
		x := copiedDoc(impl.Doc{Blocks: []impl.Block{b}}).Blocks[0]
		change(&x)
		all = append(all, x)
	}
	switch b.Kind {
	case impl.BlockPara:
		other(func(x *impl.Block) { x.Kind = impl.BlockItem })
	case impl.BlockItem:
		other(func(x *impl.Block) { x.Kind, x.Level = impl.BlockPara, 0 })
		other(func(x *impl.Block) { x.Level = (x.Level + 1) % (impl.DocLevel + 1) })
	case impl.BlockTable:
		other(func(x *impl.Block) { x.Table = impl.TableTurn(x.Table) })
		other(func(x *impl.Block) { x.Table, _ = impl.TableRowIn(x.Table, 0) })
		for i, c := range b.Table.Cells {
			for _, text := range nearTexts(c.Text) {
				other(func(x *impl.Block) { x.Table.Cells[i].Text = text })
			}
		}
		return slices.DeleteFunc(all, func(x impl.Block) bool { return sameBlock(x, b) || !impl.TableOk(x.Table) })
	}
	for _, text := range nearTexts(b.Text) {
		other(func(x *impl.Block) { x.Text = text })
	}
	return all
}

// nearTexts are ok texts that are as one is but for one thing.
func nearTexts(t []impl.Sign) [][]impl.Sign {
	var all [][]impl.Sign
	if len(t) < impl.TextMax {
		all = append(all, append(slices.Clone(t), impl.Sign{Byte: 'z'}))
	}
	if len(t) == 0 {
		return all
	}
	all = append(all, t[1:], t[:len(t)-1])
	for _, at := range []int{0, len(t) - 1} {
		for _, s := range nearSigns(t[at]) {
			x := slices.Clone(t)
			x[at] = s
			all = append(all, x)
		}
	}
	return all
}

// nearSigns are ok signs that are as one is but for its byte, its In, or its Out.
func nearSigns(s impl.Sign) []impl.Sign {
	all := []impl.Sign{s, s, s}
	all[0].Byte = 'a' + (s.Byte+1)%26
	all[1].In = (s.In + 1) % 4
	all[2].Out = (s.Out + 1) % 4
	return slices.DeleteFunc(all, func(x impl.Sign) bool { return x == s || !impl.TextOk([]impl.Sign{x}) })
}

// someAts are the beginning, the end, places next to them and a middle one of a text of that size, and one past both ends.
func someAts(size int) []int {
	all := []int{-1, 0, 1, size / 2, size - 1, size, size + 1}
	slices.Sort(all)
	return slices.Compact(all)
}

// signSteps are steps of the first two kinds in a text of a document, such as can be done and such as cannot.
func signSteps(block, cell int, t []impl.Sign) []impl.Step {
	var all []impl.Step
	for _, at := range someAts(len(t)) {
		p := impl.Place{Block: block, Cell: cell, At: at}
		left := impl.TextMax - len(t)
		for _, size := range []int{1, 2, left, left + 1} { // the last ones just fit, and do not
			if 1 <= size && size <= impl.TextMax {
				all = append(all, impl.Step{Kind: impl.StepIn, Place: p, Text: (&signSource{from: 470}).text(size)})
			}
		}
		if at < 0 || at > len(t) {
			all = append(all, impl.Step{Kind: impl.StepOut, Place: p, Text: read("a")})
			continue
		}
		for _, end := range someAts(len(t)) {
			if at < end && end <= len(t) {
				all = append(all, impl.Step{Kind: impl.StepOut, Place: p, Text: slices.Clone(t[at:end])})
			}
		}
		for _, near := range nearTexts(t[at:]) {
			if len(near) > 0 {
				all = append(all, impl.Step{Kind: impl.StepOut, Place: p, Text: slices.Clone(near)})
			}
		}
	}
	return all
}

// blockSteps are steps of the other kinds at a block of a document, or behind all.
func blockSteps(d impl.Doc, block int) []impl.Step {
	var all []impl.Step
	for _, b := range newBlocks() {
		all = append(all, impl.Step{Kind: impl.StepPut, Place: in(block, 0), Now: b}, impl.Step{Kind: impl.StepTake, Place: in(block, 0), Was: b})
	}
	was, size := newBlocks()[0], 1
	if 0 <= block && block < len(d.Blocks) {
		was = d.Blocks[block]
		size = len(was.Text)
		all = append(all, impl.Step{Kind: impl.StepTake, Place: in(block, 0), Was: was}, impl.Step{Kind: impl.StepBe, Place: in(block, 0), Was: was, Now: was})
		for _, near := range nearBlocks(was) {
			all = append(all, impl.Step{Kind: impl.StepTake, Place: in(block, 0), Was: near}, impl.Step{Kind: impl.StepBe, Place: in(block, 0), Was: near, Now: was}, impl.Step{Kind: impl.StepBe, Place: in(block, 0), Was: was, Now: near})
		}
	}
	for _, b := range newBlocks() {
		all = append(all, impl.Step{Kind: impl.StepBe, Place: in(block, 0), Was: was, Now: b}, impl.Step{Kind: impl.StepBe, Place: in(block, 0), Was: b, Now: was})
	}
	for _, at := range someAts(size) {
		all = append(all, impl.Step{Kind: impl.StepPart, Place: in(block, at)}, impl.Step{Kind: impl.StepJoin, Place: in(block, at)})
	}
	return all
}

// stepsOf are steps of all kinds, each with just what its kind says: such as can be done to a document, and such as cannot.
func stepsOf(d impl.Doc) []impl.Step {
	var all []impl.Step
	for block := -1; block <= len(d.Blocks)+1; block++ {
		all = append(all, blockSteps(d, block)...)
		if block < 0 || block >= len(d.Blocks) {
			all = append(all, signSteps(block, 0, nil)...)
			continue
		}
		texts := textsOf(d.Blocks[block])
		for cell, t := range texts {
			all = append(all, signSteps(block, cell, t)...)
		}
		for _, cell := range []int{-1, len(texts), len(texts) + 1} {
			all = append(all, signSteps(block, cell, texts[0])...)
		}
	}
	return all
}

// stepCase is a step, whether it was done to a document, and what came of it.
type stepCase struct {
	d  impl.Doc
	s  impl.Step
	x  impl.Doc
	ok bool
}

// String is the case as documents are written, so that a test that fails can be read.
func (c stepCase) String() string {
	return fmt.Sprintf("%q, %+v: %q %v", impl.DocWrite(c.d), c.s, impl.DocWrite(c.x), c.ok)
}

// stepCases are all steps of all documents, done once; they are only read.
var stepCases = sync.OnceValue(func() []stepCase {
	var all []stepCase
	for _, d := range stepDocs() {
		for _, s := range stepsOf(d) {
			x, ok := impl.StepDo(d, s)
			all = append(all, stepCase{d, s, x, ok})
		}
	}
	return all
})

// doneCases are the cases of these kinds (of all, if none is named) that were done. There must be some of each.
func doneCases(t *testing.T, kinds ...int) []stepCase {
	t.Helper()
	if len(kinds) == 0 {
		kinds = allKinds
	}
	var all []stepCase
	met := map[int]int{}
	for _, c := range stepCases() {
		if c.ok && slices.Contains(kinds, c.s.Kind) {
			all = append(all, c)
			met[c.s.Kind]++
		}
	}
	for _, k := range kinds {
		if met[k] < 20 {
			t.Fatal("few steps were done of the kind", k, met[k])
		}
	}
	return all
}

// wantDone is what comes of a step that has what its kind says, by the words of the document.
func wantDone(d impl.Doc, s impl.Step) (impl.Doc, bool) {
	x, can := changedBy(copiedDoc(d), s)
	if !can || !impl.DocOk(x) {
		return impl.Doc{}, false
	}
	return x, true
}

// changedBy does a step to a document in place, and says whether it can be done. What comes of it need not be ok.
func changedBy(d impl.Doc, s impl.Step) (impl.Doc, bool) {
	block, at := s.Place.Block, s.Place.At
	is := 0 <= block && block < len(d.Blocks)
	isPlace := slices.Contains(places(d), s.Place)
	switch s.Kind {
	case impl.StepIn:
		if isPlace {
			return withTextAt(d, s.Place, slices.Insert(slices.Clone(textOfPlace(d, s.Place)), at, s.Text...)), true
		}
	case impl.StepOut:
		if isPlace && hasPrefix(textOfPlace(d, s.Place)[at:], s.Text) {
			return withTextAt(d, s.Place, slices.Delete(slices.Clone(textOfPlace(d, s.Place)), at, at+len(s.Text))), true
		}
	case impl.StepPut:
		if is || block == len(d.Blocks) {
			d.Blocks = slices.Insert(d.Blocks, block, s.Now)
			return d, true
		}
	case impl.StepTake:
		if is && sameBlock(d.Blocks[block], s.Was) {
			d.Blocks = slices.Delete(d.Blocks, block, block+1)
			return d, true
		}
	case impl.StepPart:
		if isPlace && d.Blocks[block].Kind != impl.BlockTable {
			d.Blocks = slices.Insert(d.Blocks, block, d.Blocks[block])
			d.Blocks[block].Text, d.Blocks[block+1].Text = d.Blocks[block].Text[:at], d.Blocks[block].Text[at:]
			return d, true
		}
	case impl.StepJoin:
		if is && block+1 < len(d.Blocks) && d.Blocks[block].Kind != impl.BlockTable && d.Blocks[block].Kind == d.Blocks[block+1].Kind && d.Blocks[block].Level == d.Blocks[block+1].Level && at == len(d.Blocks[block].Text) {
			d.Blocks[block].Text = slices.Concat(d.Blocks[block].Text, d.Blocks[block+1].Text)
			d.Blocks = slices.Delete(d.Blocks, block+1, block+2)
			return d, true
		}
	case impl.StepBe:
		if is && sameBlock(d.Blocks[block], s.Was) {
			d.Blocks[block] = s.Now
			return d, true
		}
	}
	return d, false
}

// hasPrefix says whether a text begins by another one.
func hasPrefix(t, first []impl.Sign) bool {
	return len(first) <= len(t) && slices.Equal(t[:len(first)], first)
}

// walk is a document, steps that can be done to it, one behind the other, and what comes of each.
type walk struct {
	d     impl.Doc
	steps []impl.Step
	docs  []impl.Doc
}

// walks are such, of up to twelve steps, drawn by numbers that follow from each other; all kinds come in turn, as far as they can be done.
var walks = sync.OnceValue(func() []walk {
	var all []walk
	seed := uint32(1)
	next := func(n int) int {
		seed = seed*1664525 + 1013904223
		return int(seed>>16) % n
	}
	for i, d := range stepDocs() {
		w := walk{d: d}
		for turn := range i % 13 {
			steps := slices.DeleteFunc(stepsOf(d), func(s impl.Step) bool { return s.Kind != allKinds[(turn+i)%len(allKinds)] })
			for range 50 {
				s := steps[next(len(steps))]
				if x, ok := wantDone(d, s); ok {
					w.steps, w.docs, d = append(w.steps, s), append(w.docs, x), x
					break
				}
			}
		}
		all = append(all, w)
	}
	return all
})

// turnedBack are the steps that undo others, the last one first.
func turnedBack(steps []impl.Step) []impl.Step {
	var all []impl.Step
	for _, s := range slices.Backward(steps) {
		all = append(all, impl.StepTurn(s))
	}
	return all
}

// extremes are very great and very small numbers, and such as are next to 0 or to a limit in fewer bits.
func extremes() []int {
	return []int{-1, -2, math.MaxInt, math.MaxInt - 1, math.MinInt, math.MinInt + 1, 1 << 31, -1 << 31, 1 << 32, 1<<32 + 1, 255, 256, 257, 1000}
}

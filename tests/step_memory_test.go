package tests

import (
	"slices"
	"testing"

	"loop.example/limner/impl"
)

// markStep is a step that no function makes: where it is lost something was written.
var markStep = impl.Step{Kind: -7, Place: impl.Place{Block: -8, Cell: -9, At: -10}}

// listsOfStep is a step's lists as those of a document, so that they are looked at in one way.
func listsOfStep(s impl.Step) impl.Doc {
	return impl.Doc{Blocks: []impl.Block{{Text: s.Text}, s.Was, s.Now}}
}

// roomyStep is a step whose lists have marks ahead of them and in their spare room, and all that memory.
func roomyStep(s impl.Step) (impl.Step, docRooms) {
	d, all := roomyDoc(listsOfStep(s))
	s.Text, s.Was, s.Now = d.Blocks[0].Text, d.Blocks[1], d.Blocks[2]
	return s, all
}

// roomyList is a list of steps with marks ahead of it and in its spare room, and all that memory.
func roomyList(list ...impl.Step) (steps, all []impl.Step) {
	all = slices.Concat([]impl.Step{markStep}, list, []impl.Step{markStep, markStep, markStep})
	return all[1 : 1+len(list)], all
}

// stepAnswers are all documents that are answered of a document and a step, and the lists of all other answers, anew.
func stepAnswers(d impl.Doc, s impl.Step) []impl.Doc {
	var all []impl.Doc
	add := func(x impl.Doc, _ bool) { all = append(all, x) }
	add(impl.StepDo(d, s))
	turned := impl.StepTurn(s)
	for _, list := range [][]impl.Step{nil, {s}, {s, s}, {s, s, s}, {s, turned}, {s, turned, s}} {
		steps, _ := roomyList(list...)
		add(impl.StepAll(d, steps))
	}
	all = append(all, listsOfStep(turned))
	for block := -1; block <= len(d.Blocks); block++ {
		for _, p := range []impl.Place{in(block, 0), in(block, 1), {Block: block, Cell: 1}, s.Place} {
			all = append(all, impl.Doc{Blocks: []impl.Block{{Text: impl.PlaceText(d, p)}}})
		}
	}
	return all
}

// memorySteps are some cases of each kind, done and refused, and such in which the step and the document share their lists.
func memorySteps() []stepCase {
	var all []stepCase
	met := map[int]int{}
	for _, c := range stepCases() {
		met[c.s.Kind]++
		if n := met[c.s.Kind]; c.ok && n%29 == 0 || n%401 == 0 || c.ok && c.s.Kind == impl.StepJoin {
			all = append(all, c)
		}
	}
	for i, s := range wrongSteps() {
		if i%211 == 0 {
			all = append(all, stepCase{d: readDoc(handDoc), s: s})
		}
	}
	for i, d := range wrongDocs() {
		if i%71 == 0 && len(d.Blocks) < 100 {
			all = append(all, stepCase{d: d, s: impl.Step{Kind: impl.StepPut, Now: newBlocks()[1]}})
		}
	}
	return append(all, sharedSteps()...)
}

// sharedSteps are cases in which all lists are pieces of one, within the document, within the step, and between them.
func sharedSteps() []stepCase {
	text := read("a+1b-2c")
	cells := []impl.Cell{{Down: 1, Right: 1, Text: text}, {Col: 1, Down: 1, Right: 1, Text: text}}
	para, item := impl.Block{Kind: impl.BlockPara, Text: text}, impl.Block{Kind: impl.BlockItem, Text: text}
	table := impl.Block{Kind: impl.BlockTable, Table: impl.Table{Rows: 1, Cols: 2, Cells: cells}}
	d := impl.Doc{Blocks: []impl.Block{para, para, table, table, item}}
	var all []stepCase
	for block, b := range d.Blocks {
		p := in(block, 0)
		all = append(all,
			stepCase{d: d, s: impl.Step{Kind: impl.StepIn, Place: p, Text: text}},
			stepCase{d: d, s: impl.Step{Kind: impl.StepOut, Place: p, Text: text}},
			stepCase{d: d, s: impl.Step{Kind: impl.StepOut, Place: p, Text: text[:1]}},
			stepCase{d: d, s: impl.Step{Kind: impl.StepPut, Place: p, Now: b}},
			stepCase{d: d, s: impl.Step{Kind: impl.StepTake, Place: p, Was: b}},
			stepCase{d: d, s: impl.Step{Kind: impl.StepPart, Place: in(block, 1)}},
			stepCase{d: d, s: impl.Step{Kind: impl.StepPart, Place: in(block, 3)}},
			stepCase{d: d, s: impl.Step{Kind: impl.StepJoin, Place: in(block, 3)}},
			stepCase{d: d, s: impl.Step{Kind: impl.StepBe, Place: p, Was: b, Now: b}},
			stepCase{d: d, s: impl.Step{Kind: impl.StepBe, Place: p, Was: b, Now: table}},
			stepCase{d: d, s: impl.Step{Kind: impl.StepBe, Place: p, Was: b, Now: para}},
		)
	}
	return all
}

func TestNothingIsWrittenIntoAStep(t *testing.T) {
	for _, c := range memorySteps() {
		doc, docRoom := roomyDoc(c.d)
		step, stepRoom := roomyStep(c.s)
		list, listRoom := roomyList(step, step)
		docBefore, stepBefore := docRoom.copied(), stepRoom.copied()
		stepAnswers(doc, step)
		impl.StepAll(doc, list)
		impl.PlaceOk(doc, step.Place)
		impl.StepMap(step, step.Place)
		sameDocRooms(t, docRoom, docBefore, "the document", c)
		sameDocRooms(t, stepRoom, stepBefore, "the step", c)
		for i, s := range []impl.Step{markStep, c.s, c.s, markStep, markStep, markStep} {
			if !sameStep(listRoom[i], s) {
				t.Fatal("the list", c, i)
			}
		}
	}
}

// An answer, its spare room too, may be written over without harm to the document, the step, or any other answer.
func TestStepAnswersAreNewMemory(t *testing.T) {
	for _, c := range memorySteps() {
		doc, docRoom := roomyDoc(c.d)
		step, stepRoom := roomyStep(c.s)
		docBefore, stepBefore := docRoom.copied(), stepRoom.copied()
		answers := stepAnswers(doc, step)
		want := stepAnswers(copiedDoc(c.d), copiedStep(c.s))
		for i, a := range answers {
			sameDoc(t, a, want[i], "an answer has changed", c, i)
			overwriteDoc(a)
			sameDocRooms(t, docRoom, docBefore, "an answer shares the document", c, i)
			sameDocRooms(t, stepRoom, stepBefore, "an answer shares the step", c, i)
		}
	}
}

// wipe writes over all of a document's room.
func (r docRooms) wipe() {
	for i := range r.texts {
		fill(r.texts[i], mark)
		for _, room := range r.tables[i].texts {
			fill(room, mark)
		}
		fill(r.tables[i].cells, markCell)
	}
	fill(r.blocks, markBlock)
}

// The document and the step may be written over, all their room, without harm to what was answered of them.
func TestStepAnswersOutliveTheirArguments(t *testing.T) {
	for _, c := range memorySteps() {
		doc, docRoom := roomyDoc(c.d)
		step, stepRoom := roomyStep(c.s)
		answers := stepAnswers(doc, step)
		docRoom.wipe()
		stepRoom.wipe()
		for i, want := range stepAnswers(c.d, c.s) {
			sameDoc(t, answers[i], want, "an answer shares an argument", c, i)
		}
	}
}

// The lists of one answer, their spare room too, are apart: each is written over by a number of its own, and keeps it. Spare blocks have none.
func TestListsOfOneStepAnswerAreApart(t *testing.T) {
	for _, c := range memorySteps() {
		for _, a := range stepAnswers(c.d, c.s) {
			for _, b := range a.Blocks[len(a.Blocks):cap(a.Blocks)] {
				if !sameBlock(b, impl.Block{}) || b.Text != nil || b.Table.Cells != nil {
					t.Fatal("a spare block has something", c, b)
				}
			}
			listsAreApart(t, a, c)
		}
	}
}

// Nothing is kept between two calls: whatever is done to the first answer, the second is what the first was.
func TestStepAnswersTwice(t *testing.T) {
	for _, c := range memorySteps() {
		one, two := stepAnswers(c.d, c.s), stepAnswers(c.d, c.s)
		for i := range one {
			before := copiedDoc(two[i])
			overwriteDoc(one[i])
			sameDoc(t, two[i], before, c, i)
		}
		for i, x := range stepAnswers(c.d, c.s) {
			sameDoc(t, x, two[i], c, i)
		}
	}
}

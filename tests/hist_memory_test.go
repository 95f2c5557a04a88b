package tests

import (
	"slices"
	"testing"

	"loop.example/limner/impl"
)

// listsOfHist is the texts, and the tables, of a history as those of a document, so that they are looked at in one way. The lists of steps are told by their spare room, too.
func listsOfHist(h impl.Hist) impl.Doc {
	blocks := slices.Clone(h.Doc.Blocks[:cap(h.Doc.Blocks)])
	for _, list := range [][]impl.Step{h.Done, h.Back} {
		for _, s := range list[:cap(list)] {
			blocks = append(blocks, listsOfStep(s).Blocks...)
		}
	}
	return impl.Doc{Blocks: blocks}
}

// histRooms is all the memory that a history was made in, its spare room too.
type histRooms struct {
	doc        docRooms
	steps      []docRooms
	done, back []impl.Step
}

// roomyHist is a history whose lists, and each list in them, have marks ahead of them and in their spare room, and all that memory.
func roomyHist(h impl.Hist) (impl.Hist, histRooms) {
	var all histRooms
	roomyAll := func(list []impl.Step) (steps, room []impl.Step) {
		for _, s := range list {
			x, stepRoom := roomyStep(s)
			steps, all.steps = append(steps, x), append(all.steps, stepRoom)
		}
		return roomyList(steps...)
	}
	var r impl.Hist
	r.Doc, all.doc = roomyDoc(h.Doc)
	r.Done, all.done = roomyAll(h.Done)
	r.Back, all.back = roomyAll(h.Back)
	return r, all
}

// copied is the same memory once more.
func (r histRooms) copied() histRooms {
	c := histRooms{doc: r.doc.copied(), done: copiedList(r.done), back: copiedList(r.back)}
	for _, x := range r.steps {
		c.steps = append(c.steps, x.copied())
	}
	return c
}

// wipe writes over all of a history's room.
func (r histRooms) wipe() {
	r.doc.wipe()
	for _, x := range r.steps {
		x.wipe()
	}
	fill(r.done, markStep)
	fill(r.back, markStep)
}

// sameHistRooms says that nothing was written.
func sameHistRooms(t *testing.T, got, want histRooms, what ...any) {
	t.Helper()
	sameDocRooms(t, got.doc, want.doc, what...)
	for i := range got.steps {
		sameDocRooms(t, got.steps[i], want.steps[i], what...)
	}
	if !slices.EqualFunc(got.done, want.done, sameStep) || !slices.EqualFunc(got.back, want.back, sameStep) {
		t.Fatal("a list of steps was written into", what)
	}
}

// overwriteHist writes over all of a history, its spare room too.
func overwriteHist(h impl.Hist) {
	overwriteDoc(listsOfHist(h))
	fill(h.Doc.Blocks, markBlock)
	fill(h.Done, markStep)
	fill(h.Back, markStep)
}

// histAnswers are all histories that are answered of one and a step, anew.
func histAnswers(h impl.Hist, s impl.Step) []impl.Hist {
	var all []impl.Hist
	add := func(x impl.Hist, _ bool) { all = append(all, x) }
	add(impl.HistDo(h, s))
	add(impl.HistUndo(h))
	add(impl.HistRedo(h))
	return all
}

// memoryMoments are some of all that happens, at each size of what is done and undone, such histories as are not ok, and such as share their lists within.
func memoryMoments() []moment {
	var all []moment
	for i, m := range moments() {
		if i%7 == 0 {
			all = append(all, m)
		}
	}
	w := chain(40)
	for done := range 14 {
		for _, back := range []int{0, 1, 12 - done, 13 - done} {
			if back >= 0 {
				all = append(all, moment{h: w.piece(20, done, back), s: w.steps[20]})
			}
		}
	}
	return append(all, sharedMoments()...)
}

// sharedMoments are such in which all lists are pieces of one, in the document, in what was done and undone, in what is new, and between them.
func sharedMoments() []moment {
	var all []moment
	for _, c := range sharedSteps() {
		x, ok := impl.StepDo(c.d, c.s)
		if !ok {
			continue
		}
		turned := impl.StepTurn(c.s)
		turned.Text, turned.Was, turned.Now = c.s.Text, c.s.Now, c.s.Was // in the same memory
		steps := slices.Repeat([]impl.Step{c.s, turned}, 7)
		for n := range 6 {
			all = append(all,
				moment{h: impl.Hist{Doc: c.d, Done: steps[:2*n], Back: steps[1 : 13-2*n]}, s: c.s},
				moment{h: impl.Hist{Doc: x, Done: steps[:2*n+1], Back: steps[1 : 12-2*n]}, s: turned},
			)
		}
	}
	return all
}

// Both the good and the refused come, of all three.
func TestMemoryMoments(t *testing.T) {
	var done, refused [3]int
	for _, m := range memoryMoments() {
		for i, x := range histAnswers(m.h, m.s) {
			if len(x.Doc.Blocks)+len(x.Done)+len(x.Back) > 0 {
				done[i]++
			} else {
				refused[i]++
			}
		}
	}
	for i := range done {
		if done[i] < 50 || refused[i] < 20 {
			t.Error(i, done, refused)
		}
	}
	shared := 0
	for _, m := range sharedMoments() {
		if impl.HistOk(m.h) {
			shared++
		}
	}
	if shared < 50 {
		t.Error("few that share are ok", shared)
	}
}

func TestNothingIsWrittenIntoAHist(t *testing.T) {
	for _, m := range memoryMoments() {
		hist, histRoom := roomyHist(m.h)
		step, stepRoom := roomyStep(m.s)
		histBefore, stepBefore := histRoom.copied(), stepRoom.copied()
		impl.HistOk(hist)
		histAnswers(hist, step)
		sameHistRooms(t, histRoom, histBefore, "the history", m)
		sameDocRooms(t, stepRoom, stepBefore, "the step", m)
		sameHist(t, hist, m.h)
	}
}

// An answer, its spare room too, may be written over without harm to the history, the step, or any other answer.
func TestHistAnswersAreNewMemory(t *testing.T) {
	for _, m := range memoryMoments() {
		hist, histRoom := roomyHist(m.h)
		step, stepRoom := roomyStep(m.s)
		histBefore, stepBefore := histRoom.copied(), stepRoom.copied()
		answers := histAnswers(hist, step)
		want := histAnswers(copiedHist(m.h), copiedStep(m.s))
		for i, a := range answers {
			sameHist(t, a, want[i], "an answer has changed", m, i)
			overwriteHist(a)
			sameHistRooms(t, histRoom, histBefore, "an answer shares the history", m, i)
			sameDocRooms(t, stepRoom, stepBefore, "an answer shares the step", m, i)
		}
	}
}

// The history and the step may be written over, all their room, without harm to what was answered of them.
func TestHistAnswersOutliveTheirArguments(t *testing.T) {
	for _, m := range memoryMoments() {
		hist, histRoom := roomyHist(m.h)
		step, stepRoom := roomyStep(m.s)
		answers := histAnswers(hist, step)
		histRoom.wipe()
		stepRoom.wipe()
		for i, want := range histAnswers(m.h, m.s) {
			sameHist(t, answers[i], want, "an answer shares an argument", m, i)
		}
	}
}

// Spare blocks and spare steps have no lists.
func spareIsEmpty(t *testing.T, h impl.Hist, what any) {
	t.Helper()
	blocks := slices.Clone(h.Doc.Blocks[len(h.Doc.Blocks):cap(h.Doc.Blocks)])
	for _, list := range [][]impl.Step{h.Done, h.Back} {
		for _, s := range list[len(list):cap(list)] {
			if s.Kind != 0 || s.Place != (impl.Place{}) {
				t.Fatal("a spare step has something", what, s)
			}
			blocks = append(blocks, listsOfStep(s).Blocks...)
		}
	}
	for _, b := range blocks {
		if !sameBlock(b, impl.Block{}) || b.Text != nil || b.Table.Cells != nil {
			t.Fatal("something spare has a list", what, b)
		}
	}
}

// The lists of one answer, their spare room too, are apart: each is written over by a number of its own, and keeps it.
func TestListsOfOneHistAreApart(t *testing.T) {
	for _, m := range memoryMoments() {
		for _, a := range histAnswers(m.h, m.s) {
			spareIsEmpty(t, a, m)
			listsAreApart(t, listsOfHist(a), m)
			done, back := a.Done[:cap(a.Done)], a.Back[:cap(a.Back)]
			fill(done, impl.Step{Kind: 100})
			fill(back, impl.Step{Kind: 200})
			if slices.ContainsFunc(done, func(s impl.Step) bool { return s.Kind != 100 }) || slices.ContainsFunc(back, func(s impl.Step) bool { return s.Kind != 200 }) {
				t.Fatal("done and undone share memory", m)
			}
		}
	}
}

// Nothing is kept between two calls: whatever is done to the first answer, the second is what the first was.
func TestHistAnswersTwice(t *testing.T) {
	for _, m := range memoryMoments() {
		one, two := histAnswers(m.h, m.s), histAnswers(m.h, m.s)
		for i := range one {
			before := copiedHist(two[i])
			overwriteHist(one[i])
			sameHist(t, two[i], before, m, i)
		}
		for i, x := range histAnswers(m.h, m.s) {
			sameHist(t, x, two[i], m, i)
		}
	}
}

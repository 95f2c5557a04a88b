package tests

import (
	"fmt"
	"slices"
	"sync"
	"testing"

	"loop.example/limner/impl"
)

// equalHists says whether two histories are the same value.
func equalHists(a, b impl.Hist) bool {
	return equalDocs(a.Doc, b.Doc) && slices.EqualFunc(a.Done, b.Done, sameStep) && slices.EqualFunc(a.Back, b.Back, sameStep)
}

// sameHist says that two histories are the same value.
func sameHist(t *testing.T, got, want impl.Hist, what ...any) {
	t.Helper()
	if !equalHists(got, want) {
		t.Fatalf("got %s, not %s, of %v", writeHist(got), writeHist(want), what)
	}
}

// writeHist is a history as documents are written, so that a test that fails can be read.
func writeHist(h impl.Hist) string {
	return fmt.Sprintf("%q, done %+v, back %+v", impl.DocWrite(h.Doc), h.Done, h.Back)
}

// mustHist is the history of an answer that has to be true.
func mustHist(t *testing.T, what ...any) func(impl.Hist, bool) impl.Hist {
	return func(got impl.Hist, ok bool) impl.Hist {
		t.Helper()
		if !ok || !impl.HistOk(got) {
			t.Fatal(ok, writeHist(got), what)
		}
		return got
	}
}

// refusedHist says that an answer is nothing and false.
func refusedHist(t *testing.T, what ...any) func(impl.Hist, bool) {
	return func(got impl.Hist, ok bool) {
		t.Helper()
		if ok || len(got.Doc.Blocks) != 0 || len(got.Done) != 0 || len(got.Back) != 0 {
			t.Fatal(ok, writeHist(got), what)
		}
	}
}

// copiedList is the same steps in memory of their own.
func copiedList(list []impl.Step) []impl.Step {
	list = slices.Clone(list)
	for i, s := range list {
		list[i] = copiedStep(s)
	}
	return list
}

// copiedHist is the same history in memory of its own.
func copiedHist(h impl.Hist) impl.Hist {
	return impl.Hist{Doc: copiedDoc(h.Doc), Done: copiedList(h.Done), Back: copiedList(h.Back)}
}

// lastFirst is a list the other way round.
func lastFirst(list []impl.Step) []impl.Step {
	list = slices.Clone(list)
	slices.Reverse(list)
	return list
}

// undoing is by the words of the document the step that undoes one.
func undoing(s impl.Step) impl.Step {
	s.Kind = map[int]int{1: 2, 2: 1, 3: 4, 4: 3, 5: 6, 6: 5, 7: 7}[s.Kind]
	s.Was, s.Now = s.Now, s.Was
	return s
}

// hasWhatItsKindSays says by the words of the document whether a step has that, and nothing else.
func hasWhatItsKindSays(s impl.Step) bool {
	isText, hasWas, hasNow := s.Kind == 1 || s.Kind == 2, s.Kind == 4 || s.Kind == 7, s.Kind == 3 || s.Kind == 7
	isPiece := s.Kind == 5 || s.Kind == 6
	asked := func(b impl.Block, has bool) bool {
		if !has {
			return sameBlock(b, impl.Block{})
		}
		if b.Kind == impl.BlockItem && 1 <= b.Level && b.Level <= 3 {
			b.Level = 0 // alone it would be too deep
		}
		return impl.DocOk(impl.Doc{Blocks: []impl.Block{b}})
	}
	return 1 <= s.Kind && s.Kind <= 7 &&
		(isText || s.Place.Cell == 0) && (isText || isPiece || s.Place.At == 0) &&
		isText == (len(s.Text) > 0) && impl.TextOk(s.Text) && asked(s.Was, hasWas) && asked(s.Now, hasNow)
}

// wantAll says by the words of the document whether steps can be done, one behind the other.
func wantAll(d impl.Doc, list []impl.Step) bool {
	for _, s := range list {
		x, ok := wantDone(d, s)
		if !ok {
			return false
		}
		d = x
	}
	return true
}

// wantHistOk says by the words of the document whether a history is ok.
func wantHistOk(h impl.Hist) bool {
	if !impl.DocOk(h.Doc) || len(h.Done)+len(h.Back) > 12 {
		return false
	}
	var undo []impl.Step
	for _, s := range slices.Concat(h.Done, h.Back) {
		if !hasWhatItsKindSays(s) {
			return false
		}
	}
	for _, s := range lastFirst(h.Done) {
		undo = append(undo, undoing(s))
	}
	return wantAll(h.Doc, undo) && wantAll(h.Doc, lastFirst(h.Back))
}

// tale is all that was done, told from the outside: each document that there was, and the steps between them.
type tale struct {
	docs  []impl.Doc
	steps []impl.Step
	first int // the first step that is remembered
	now   int // how many steps are done, from the beginning of the tale on
}

// hist is the history that ought to be there.
func (w tale) hist() impl.Hist {
	return impl.Hist{Doc: w.docs[w.now], Done: w.steps[w.first:w.now], Back: lastFirst(w.steps[w.now:])}
}

// did is the tale with something new, of which that document comes.
func (w tale) did(s impl.Step, x impl.Doc) tale {
	steps := append(slices.Clone(w.steps[:w.now]), s)
	docs := append(slices.Clone(w.docs[:w.now+1]), x)
	return tale{docs, steps, max(w.first, len(steps)-12), len(steps)}
}

// What can happen to a history.
const (
	doing = iota
	undone
	redone
)

// moment is a history, what happens to it, and what ought to come of that.
type moment struct {
	h    impl.Hist
	act  int
	s    impl.Step
	want impl.Hist
	ok   bool
}

// String is the moment so that a test that fails can be read.
func (m moment) String() string {
	return fmt.Sprintf("%s, act %d, %+v: %v %s", writeHist(m.h), m.act, m.s, m.ok, writeHist(m.want))
}

// answer is what the program answers.
func (m moment) answer() (impl.Hist, bool) {
	switch m.act {
	case undone:
		return impl.HistUndo(m.h)
	case redone:
		return impl.HistRedo(m.h)
	}
	return impl.HistDo(m.h, m.s)
}

// player draws what happens by numbers that follow from each other.
type player struct {
	seed  uint32
	turn  int
	plays []moment
}

func (p *player) next(n int) int {
	p.seed = p.seed*1664525 + 1013904223
	return int(p.seed>>16) % n
}

// do draws a step of the kind whose turn it is, such as can be done, if one is found, and others on the way.
func (p *player) do(w tale) tale {
	p.turn++
	d := w.docs[w.now]
	steps := slices.DeleteFunc(stepsOf(d), func(s impl.Step) bool { return s.Kind != allKinds[p.turn%len(allKinds)] })
	for try := range 50 {
		s := steps[p.next(len(steps))]
		x, ok := wantDone(d, s)
		if ok {
			after := w.did(s, x)
			p.plays = append(p.plays, moment{w.hist(), doing, s, after.hist(), true})
			return after
		}
		if try == 0 {
			p.plays = append(p.plays, moment{h: w.hist(), act: doing, s: s})
		}
	}
	return w
}

// undo takes the last step back, if there is one.
func (p *player) undo(w tale) tale {
	m := moment{h: w.hist(), act: undone}
	if w.now > w.first {
		w.now--
		m.want, m.ok = w.hist(), true
	}
	p.plays = append(p.plays, m)
	return w
}

// redo does again what was undone last, if there is such.
func (p *player) redo(w tale) tale {
	m := moment{h: w.hist(), act: redone}
	if w.now < len(w.steps) {
		w.now++
		m.want, m.ok = w.hist(), true
	}
	p.plays = append(p.plays, m)
	return w
}

// moments are what happens to documents: at first much is done, and then one thing some times, and another one some times. They are made once, and only read.
var moments = sync.OnceValue(func() []moment {
	p := &player{seed: 5}
	for i, d := range stepDocs() {
		if i%3 != 0 {
			continue
		}
		w := tale{docs: []impl.Doc{d}}
		acts := []func(tale) tale{p.do, p.undo, p.redo}
		for range p.next(16) {
			w = p.do(w)
		}
		for range 8 {
			act := acts[p.next(len(acts))]
			for range 1 + p.next(9) {
				w = act(w)
			}
		}
	}
	return p.plays
})

// actsOf are the moments of one thing that happens, done or refused. There must be some.
func actsOf(t *testing.T, act int, ok bool) []moment {
	t.Helper()
	var all []moment
	for _, m := range moments() {
		if m.act == act && m.ok == ok {
			all = append(all, m)
		}
	}
	if len(all) < 20 {
		t.Fatal("few moments", act, ok, len(all))
	}
	return all
}

// histories are those of all moments, with so many steps at least that were done, and undone. There must be some.
func histories(t *testing.T, done, back int) []impl.Hist {
	t.Helper()
	var all []impl.Hist
	for _, m := range moments() {
		if len(m.h.Done) >= done && len(m.h.Back) >= back {
			all = append(all, m.h)
		}
	}
	if len(all) < 20 {
		t.Fatal("few histories", done, back, len(all))
	}
	return all
}

// chain is a tale of so many steps of all kinds, of which all are done and none is forgotten, so that pieces of it are histories of any size.
func chain(size int) tale {
	w := tale{docs: []impl.Doc{readDoc("p:abc\n")}}
	one := func(s string) impl.Block { return readDoc(s).Blocks[0] }
	round := []impl.Step{
		{Kind: impl.StepIn, Place: in(0, 3), Text: read("+1d")},
		{Kind: impl.StepPart, Place: in(0, 2)},
		{Kind: impl.StepPut, Place: in(1, 0), Now: one("i0:q\n")},
		{Kind: impl.StepTake, Place: in(2, 0), Was: one("p:c+1d\n")},
		{Kind: impl.StepBe, Place: in(0, 0), Was: one("p:ab\n"), Now: one("i0:w\n")},
		{Kind: impl.StepJoin, Place: in(0, 1)},
		{Kind: impl.StepOut, Place: in(0, 0), Text: read("wq")},
		{Kind: impl.StepBe, Place: in(0, 0), Was: one("i0:\n"), Now: one("p:abc\n")},
	}
	for i := range size {
		s := round[i%len(round)]
		x, ok := wantDone(w.docs[i], s)
		if !ok {
			panic("the chain is torn")
		}
		w.docs, w.steps = append(w.docs, x), append(w.steps, s)
	}
	return w
}

// piece is the history in the midst of a chain, with so many steps done and undone.
func (w tale) piece(now, done, back int) impl.Hist {
	return impl.Hist{Doc: w.docs[now], Done: w.steps[now-done : now], Back: lastFirst(w.steps[now : now+back])}
}

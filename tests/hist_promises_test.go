package tests

import (
	"slices"
	"testing"

	"loop.example/limner/impl"
)

func TestPromise76LastIsUndoneFirst(t *testing.T) {
	for _, h := range histories(t, 1, 0) {
		end := len(h.Done) - 1
		x := mustHist(t, writeHist(h))(impl.HistUndo(h))
		want, ok := wantDone(h.Doc, undoing(h.Done[end]))
		if !ok {
			t.Fatal(writeHist(h))
		}
		sameHist(t, x, impl.Hist{Doc: want, Done: h.Done[:end], Back: append(slices.Clone(h.Back), h.Done[end])}, writeHist(h))
	}
	for _, w := range walks() {
		h := impl.Hist{Doc: w.d}
		for _, s := range w.steps {
			h = mustHist(t, s)(impl.HistDo(h, s))
		}
		for n := len(w.steps) - 1; n > 0; n-- {
			h = mustHist(t, n)(impl.HistUndo(h))
			sameDoc(t, h.Doc, w.docs[n-1], n)
		}
		if len(w.steps) > 0 {
			h = mustHist(t)(impl.HistUndo(h))
		}
		sameDoc(t, h.Doc, w.d)
		refusedHist(t)(impl.HistUndo(h))
	}
}

func TestPromise77UndoneIsDoneAgain(t *testing.T) {
	for _, h := range histories(t, 1, 0) {
		x := mustHist(t, writeHist(h))(impl.HistUndo(h))
		sameHist(t, mustHist(t, writeHist(h))(impl.HistRedo(x)), h)
	}
}

func TestPromise78DoneAgainIsUndoneAgain(t *testing.T) {
	for _, h := range histories(t, 0, 1) {
		x := mustHist(t, writeHist(h))(impl.HistRedo(h))
		sameHist(t, mustHist(t, writeHist(h))(impl.HistUndo(x)), h)
	}
}

// path is a history, and all that come of it by one thing that happens, as long as it can.
func path(t *testing.T, h impl.Hist, by func(impl.Hist) (impl.Hist, bool)) []impl.Hist {
	t.Helper()
	all := []impl.Hist{h}
	for range len(h.Done) + len(h.Back) + 1 {
		x, ok := by(h)
		if !ok {
			return all
		}
		all, h = append(all, x), x
	}
	t.Fatal("it goes on and on", writeHist(h))
	return nil
}

func TestPromise79AllThatIsRemembered(t *testing.T) {
	for i, h := range histories(t, 0, 0) {
		if i%3 != 0 { // those that follow each other are alike
			continue
		}
		down, up := path(t, h, impl.HistUndo), path(t, h, impl.HistRedo)
		if len(down) != len(h.Done)+1 || len(up) != len(h.Back)+1 {
			t.Fatal(writeHist(h), len(down), len(up))
		}
		first, last := down[len(down)-1], up[len(up)-1]
		if len(first.Done) != 0 || len(last.Back) != 0 {
			t.Fatal(writeHist(first), writeHist(last))
		}
		slices.Reverse(down)
		want := slices.Concat(down, up[1:]) // from the first one that is remembered on
		if !slices.EqualFunc(path(t, first, impl.HistRedo), want, equalHists) {
			t.Fatal("done again", writeHist(h))
		}
		slices.Reverse(want)
		if !slices.EqualFunc(path(t, last, impl.HistUndo), want, equalHists) {
			t.Fatal("undone again", writeHist(h))
		}
	}
}

func TestPromise80SomethingNew(t *testing.T) {
	forgotten := 0
	for _, m := range actsOf(t, doing, true) {
		x := mustHist(t, m)(impl.HistDo(m.h, m.s))
		if len(x.Back) != 0 {
			t.Fatal(m)
		}
		refusedHist(t, m)(impl.HistRedo(x))
		if len(m.h.Back) == 0 {
			continue
		}
		forgotten++
		back := mustHist(t, m)(impl.HistUndo(x)) // what can be done again then is the new thing alone
		if len(back.Back) != 1 || !sameStep(back.Back[0], m.s) {
			t.Fatal(m)
		}
		sameHist(t, mustHist(t, m)(impl.HistRedo(back)), x, m)
	}
	if forgotten < 20 {
		t.Fatal("few were forgotten", forgotten)
	}
}

func TestPromise81TheLastOnesAreRemembered(t *testing.T) {
	w := chain(40)
	h := impl.Hist{Doc: w.docs[0]}
	for i, s := range w.steps {
		h = mustHist(t, i)(impl.HistDo(h, s))
		sameHist(t, h, w.piece(i+1, min(i+1, 12), 0), i)
	}
	for _, m := range actsOf(t, doing, true) {
		x := mustHist(t, m)(impl.HistDo(m.h, m.s))
		all := append(slices.Clone(m.h.Done), m.s)
		if len(all) > 12 {
			all = all[len(all)-12:]
		}
		if !slices.EqualFunc(x.Done, all, sameStep) {
			t.Fatal(m)
		}
	}
	for _, m := range moments() {
		if x, _ := m.answer(); len(x.Done)+len(x.Back) > 12 {
			t.Fatal(m)
		}
	}
}

func TestPromise82RememberedStaysSo(t *testing.T) {
	for _, m := range moments() {
		if !impl.HistOk(m.h) {
			t.Fatal(m)
		}
		x, ok := m.answer()
		if ok != m.ok || ok && !impl.HistOk(x) {
			t.Fatal(m)
		}
	}
	for i, h := range histories(t, 0, 0) { // and of one more, of each kind
		if i%40 != 0 {
			continue
		}
		for j, s := range stepsOf(h.Doc) {
			if j%7 != 0 {
				continue
			}
			if x, ok := impl.HistDo(h, s); ok && !impl.HistOk(x) {
				t.Fatal(writeHist(h), s)
			}
		}
	}
}

func TestPromise83LastUndoneIsDoneAgainFirst(t *testing.T) {
	for _, h := range histories(t, 0, 1) {
		end := len(h.Back) - 1
		x := mustHist(t, writeHist(h))(impl.HistRedo(h))
		want, ok := wantDone(h.Doc, h.Back[end])
		if !ok {
			t.Fatal(writeHist(h))
		}
		sameHist(t, x, impl.Hist{Doc: want, Done: append(slices.Clone(h.Done), h.Back[end]), Back: h.Back[:end]}, writeHist(h))
	}
	for i, h := range histories(t, 2, 0) {
		if i%4 != 0 { // those that follow each other are alike
			continue
		}
		down := path(t, h, impl.HistUndo)
		for i := len(down) - 1; i > 0; i-- {
			sameHist(t, mustHist(t, i)(impl.HistRedo(down[i])), down[i-1], i, writeHist(h))
		}
	}
}

func TestPromise84UndoneAndDoneAgain(t *testing.T) {
	for i, h := range histories(t, 0, 0) {
		if i%5 != 0 { // those that follow each other are alike
			continue
		}
		for _, ways := range [][2]func(impl.Hist) (impl.Hist, bool){{impl.HistUndo, impl.HistRedo}, {impl.HistRedo, impl.HistUndo}} {
			most := len(path(t, h, ways[0])) - 1
			for _, n := range []int{most, most / 2, min(most, 1)} {
				x := h
				for range n {
					x = mustHist(t, writeHist(h))(ways[0](x))
				}
				for range n {
					x = mustHist(t, writeHist(h))(ways[1](x))
				}
				sameHist(t, x, h, n)
			}
		}
	}
}

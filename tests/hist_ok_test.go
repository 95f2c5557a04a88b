package tests

import (
	"slices"
	"strings"
	"testing"

	"loop.example/limner/impl"
)

func TestHistMax(t *testing.T) {
	if impl.HistMax != 12 {
		t.Fatal(impl.HistMax)
	}
}

// Whatever happens, what comes of it is what is told from the outside.
func TestHistByTheWords(t *testing.T) {
	for _, m := range moments() {
		x, ok := m.answer()
		if ok != m.ok {
			t.Fatal(m)
		}
		sameHist(t, x, m.want, m)
	}
	for act := doing; act <= redone; act++ {
		actsOf(t, act, true)
		actsOf(t, act, false)
	}
	met := map[int]int{}
	for _, m := range actsOf(t, doing, true) {
		met[m.s.Kind]++
	}
	for _, k := range allKinds {
		if met[k] < 20 {
			t.Fatal("few steps of the kind", k, met[k])
		}
	}
}

func TestHistByHand(t *testing.T) {
	one := func(s string) impl.Block { return readDoc(s).Blocks[0] }
	put := impl.Step{Kind: impl.StepPut, Now: one("p:a\n")}
	write := impl.Step{Kind: impl.StepIn, Place: in(0, 1), Text: read("+1b")}
	part := impl.Step{Kind: impl.StepPart, Place: in(0, 1)}
	become := impl.Step{Kind: impl.StepBe, Was: one("p:a+1b\n"), Now: one("i0:a+1b\n")}
	var h impl.Hist
	is := func(x impl.Hist, ok bool) func(doc string, done, back []impl.Step) {
		t.Helper()
		h = mustHist(t)(x, ok)
		return func(doc string, done, back []impl.Step) {
			t.Helper()
			if impl.DocWrite(h.Doc) != doc {
				t.Error(writeHist(h))
			}
			sameHist(t, impl.Hist{Done: h.Done, Back: h.Back}, impl.Hist{Done: done, Back: back})
		}
	}
	list := func(steps ...impl.Step) []impl.Step { return steps }
	is(impl.HistDo(h, put))("p:a\n", list(put), nil)
	is(impl.HistDo(h, write))("p:a+1b\n", list(put, write), nil)
	is(impl.HistDo(h, part))("p:a\np:+1b\n", list(put, write, part), nil)
	refusedHist(t)(impl.HistRedo(h))
	is(impl.HistUndo(h))("p:a+1b\n", list(put, write), list(part))
	is(impl.HistUndo(h))("p:a\n", list(put), list(part, write))
	refusedHist(t)(impl.HistDo(h, become))
	is(impl.HistRedo(h))("p:a+1b\n", list(put, write), list(part))
	is(impl.HistDo(h, become))("i0:a+1b\n", list(put, write, become), nil)
	refusedHist(t)(impl.HistRedo(h))
	is(impl.HistUndo(h))("p:a+1b\n", list(put, write), list(become))
	is(impl.HistUndo(h))("p:a\n", list(put), list(become, write))
	is(impl.HistUndo(h))("", nil, list(become, write, put))
	refusedHist(t)(impl.HistUndo(h))
	is(impl.HistRedo(h))("p:a\n", list(put), list(become, write))
	is(impl.HistRedo(h))("p:a+1b\n", list(put, write), list(become))
	is(impl.HistRedo(h))("i0:a+1b\n", list(put, write, become), nil)
	refusedHist(t)(impl.HistRedo(h))
}

// Of nothing done and nothing undone there is neither to undo nor to do again, be the lists nil or empty; something new can be done.
func TestNothingDone(t *testing.T) {
	para := readDoc("p:a\n").Blocks[0]
	for _, d := range append(okDocs(), impl.Doc{}, impl.Doc{Blocks: []impl.Block{}}) {
		for _, h := range []impl.Hist{{Doc: d}, {Doc: d, Done: []impl.Step{}, Back: []impl.Step{}}, {Doc: d, Done: make([]impl.Step, 0, 3), Back: make([]impl.Step, 0, 3)}} {
			if !impl.HistOk(h) {
				t.Fatal(writeHist(h))
			}
			refusedHist(t, writeHist(h))(impl.HistUndo(h))
			refusedHist(t, writeHist(h))(impl.HistRedo(h))
			s := impl.Step{Kind: impl.StepPut, Place: in(len(d.Blocks), 0), Now: para}
			if len(d.Blocks) == 8 {
				refusedHist(t, writeHist(h))(impl.HistDo(h, s))
				continue
			}
			x := mustHist(t, writeHist(h))(impl.HistDo(h, s))
			sameHist(t, x, impl.Hist{Doc: put(d, len(d.Blocks), para), Done: []impl.Step{s}})
		}
	}
}

// All that can be done and undone of a chain is a history, up to the most steps together; one more is refused, whatever is asked.
func TestTooManySteps(t *testing.T) {
	w := chain(60)
	for done := range 21 {
		for back := range 21 {
			for now := 25; now < 25+8; now++ { // each of the round's steps comes first
				h := w.piece(now, done, back)
				if impl.HistOk(h) != (done+back <= 12) {
					t.Fatal(done, back, now)
				}
				next := w.steps[now]
				if done+back > 12 {
					refusedHist(t, done, back)(impl.HistDo(h, next))
					refusedHist(t, done, back)(impl.HistUndo(h))
					refusedHist(t, done, back)(impl.HistRedo(h))
					continue
				}
				sameHist(t, mustHist(t, done, back)(impl.HistDo(h, next)), w.piece(now+1, min(done+1, 12), 0), done, back, now)
				if done > 0 {
					sameHist(t, mustHist(t, done, back)(impl.HistUndo(h)), w.piece(now-1, done-1, back+1), done, back, now)
				} else {
					refusedHist(t, done, back)(impl.HistUndo(h))
				}
				if back > 0 {
					sameHist(t, mustHist(t, done, back)(impl.HistRedo(h)), w.piece(now+1, done+1, back-1), done, back, now)
				} else {
					refusedHist(t, done, back)(impl.HistRedo(h))
				}
			}
		}
	}
}

// What cannot be done leaves no history, whatever there was; a step that has not what its kind says is such.
func TestNewStepsThatCannotBeDone(t *testing.T) {
	for _, m := range actsOf(t, doing, false) {
		refusedHist(t, m)(impl.HistDo(m.h, m.s))
	}
	d := readDoc(handDoc)
	first := impl.Step{Kind: impl.StepIn, Place: in(0, 3), Text: read("w")}
	second := impl.Step{Kind: impl.StepPart, Place: in(0, 1)}
	h := mustHist(t)(impl.HistDo(impl.Hist{Doc: d}, first))
	h = mustHist(t)(impl.HistDo(h, second))
	h = mustHist(t)(impl.HistUndo(mustHist(t)(impl.HistUndo(h))))
	for _, s := range goodSteps() {
		mustHist(t, s)(impl.HistDo(h, s))
	}
	for _, s := range wrongSteps() {
		refusedHist(t, s)(impl.HistDo(h, s))
		refusedHist(t, s)(impl.HistDo(impl.Hist{Doc: d}, s))
	}
}

// allAreRefused says that each of the three answers nothing and false of a history that is not ok.
func allAreRefused(t *testing.T, h impl.Hist, what ...any) {
	t.Helper()
	if impl.HistOk(h) {
		t.Fatal("it is ok", what)
	}
	refusedHist(t, what...)(impl.HistUndo(h))
	refusedHist(t, what...)(impl.HistRedo(h))
	steps := []impl.Step{{Kind: impl.StepPut, Now: readDoc("p:a\n").Blocks[0]}}
	if n := len(h.Doc.Blocks); 0 < n && n < 100 { // and such as would mend it
		steps = append(steps, impl.Step{Kind: impl.StepTake, Place: in(n-1, 0), Was: h.Doc.Blocks[n-1]})
	}
	for _, s := range steps {
		refusedHist(t, what...)(impl.HistDo(h, s))
	}
}

func TestHistoriesOfWrongDocs(t *testing.T) {
	put := impl.Step{Kind: impl.StepPut, Now: readDoc("p:a\n").Blocks[0]}
	for _, d := range wrongDocs() {
		allAreRefused(t, impl.Hist{Doc: d}, d)
		allAreRefused(t, impl.Hist{Doc: d, Back: []impl.Step{put}}, d)
		if n := len(d.Blocks); n < 100 {
			b := d.Blocks[n-1]
			allAreRefused(t, impl.Hist{Doc: d, Done: []impl.Step{{Kind: impl.StepPut, Place: in(n-1, 0), Now: b}}}, d)
			allAreRefused(t, impl.Hist{Doc: d, Back: []impl.Step{{Kind: impl.StepTake, Place: in(n-1, 0), Was: b}}}, d)
		}
	}
}

// A step that has not what its kind says was never done, nor undone, though all else about it is right, and wherever it is among others.
func TestHistoriesOfWrongSteps(t *testing.T) {
	d := readDoc(handDoc)
	good := goodSteps()
	var docs []impl.Doc
	for _, s := range good {
		x := mustDoc(t, s)(impl.StepDo(d, s))
		docs = append(docs, x)
		mustHist(t, s)(impl.Hist{Doc: x, Done: []impl.Step{s}}, true)
		mustHist(t, s)(impl.Hist{Doc: d, Back: []impl.Step{s}}, true)
	}
	more := impl.Step{Kind: impl.StepPut, Place: in(6, 0), Now: readDoc("p:m\n").Blocks[0]}
	after := mustDoc(t)(impl.StepDo(d, more))
	for _, s := range wrongSteps() {
		hists := []impl.Hist{
			{Doc: d, Back: []impl.Step{s}},
			{Doc: d, Back: []impl.Step{s, more}},
			{Doc: after, Done: []impl.Step{s, more}},
			{Doc: after, Done: []impl.Step{more}, Back: []impl.Step{s}},
		}
		for i, x := range docs {
			if good[i].Kind == s.Kind || good[i].Place == s.Place { // it may be that one, but for its fault
				hists = append(hists, impl.Hist{Doc: x, Done: []impl.Step{s}})
			}
		}
		for _, h := range hists {
			allAreRefused(t, h, h)
		}
	}
}

// Steps that were done are undone the last one first, and not in another order; so are steps that were undone done again.
func TestOrderOfSteps(t *testing.T) {
	one := func(s string) impl.Block { return readDoc(s).Blocks[0] }
	put := impl.Step{Kind: impl.StepPut, Now: one("p:a\n")}
	write := impl.Step{Kind: impl.StepIn, Place: in(0, 1), Text: read("b")}
	part := impl.Step{Kind: impl.StepPart, Place: in(0, 2)}
	lists := map[string][]impl.Step{"012": {put, write, part}, "021": {put, part, write}, "102": {write, put, part}, "120": {write, part, put}, "201": {part, put, write}, "210": {part, write, put}}
	for order, list := range lists {
		done := impl.Hist{Doc: readDoc("p:ab\np:\n"), Done: list}
		back := impl.Hist{Back: list}
		if impl.HistOk(done) != (order == "012") || impl.HistOk(back) != (order == "210") {
			t.Fatal(order)
		}
		if order != "012" {
			allAreRefused(t, done, order)
		}
		if order != "210" {
			allAreRefused(t, back, order)
		}
	}
	// two that are done in either order are a history in either
	other := impl.Step{Kind: impl.StepIn, Place: in(1, 0), Text: read("c")}
	first := impl.Step{Kind: impl.StepIn, Place: in(0, 0), Text: read("b")}
	for _, list := range [][]impl.Step{{first, other}, {other, first}} {
		mustHist(t)(impl.Hist{Doc: readDoc("p:ba\np:c\n"), Done: list}, true)
		mustHist(t)(impl.Hist{Doc: readDoc("p:a\np:\n"), Back: list}, true)
	}
}

// What was done is undone from the document, and what was undone is done again from it, and not from what came of the other.
func TestBothFromTheDocument(t *testing.T) {
	a := impl.Step{Kind: impl.StepIn, Text: read("a")}
	out := impl.Step{Kind: impl.StepOut, Text: read("a")}
	list := func(steps ...impl.Step) []impl.Step { return steps }
	for _, c := range []struct {
		done, back []impl.Step
		ok         bool
	}{
		{list(a), nil, true},
		{list(out), nil, true},
		{nil, list(a), true},
		{nil, list(out), true},
		{list(a), list(out), true}, // behind the undone one it could not be taken out any more
		{list(out, a, out, a), list(a, out, a, out), true},
		{list(a, a), nil, false},
		{nil, list(out, out), false},
		{list(a, a), list(a), false},       // though it could, were the other one done again first
		{list(out), list(out, out), false}, // though it could, were the other one undone first
	} {
		h := impl.Hist{Doc: readDoc("p:a\n"), Done: c.done, Back: c.back}
		if impl.HistOk(h) != c.ok {
			t.Error(writeHist(h), c.ok)
		}
		if !c.ok {
			allAreRefused(t, h, writeHist(h))
		}
	}
}

// Each document on the way has to be ok, and not only the last one.
func TestDocumentsOnTheWay(t *testing.T) {
	one := func(s string) impl.Block { return readDoc(s).Blocks[0] }
	deep := impl.Step{Kind: impl.StepPut, Place: in(1, 0), Now: one("i1:b\n")}
	head := impl.Step{Kind: impl.StepPut, Now: one("i0:a\n")}
	long := impl.Step{Kind: impl.StepIn, Text: read(strings.Repeat("a", 24))}
	short := impl.Step{Kind: impl.StepOut, Text: read("z")}
	for _, h := range []impl.Hist{
		{Doc: readDoc("i0:a\ni1:b\n"), Done: []impl.Step{head}},
		{Doc: readDoc("i0:a\ni1:b\n"), Done: []impl.Step{{Kind: impl.StepPut, Now: one("i1:b\n")}, head}},
		{Back: []impl.Step{head, {Kind: impl.StepPut, Now: one("i1:b\n")}}},
		{Doc: readDoc("p:z\n"), Back: []impl.Step{short, long}},
		{Doc: readDoc("p:" + strings.Repeat("a", 24) + "\n"), Done: []impl.Step{long, short}},
	} {
		allAreRefused(t, h, writeHist(h))
	}
	for _, h := range []impl.Hist{
		{Doc: readDoc("i0:a\ni1:b\n"), Done: []impl.Step{head, deep}},
		{Back: []impl.Step{deep, head}},
		{Doc: readDoc("p:z\n"), Back: []impl.Step{long, short}},
		{Doc: readDoc("p:" + strings.Repeat("a", 24) + "\n"), Done: []impl.Step{short, long}},
	} {
		mustHist(t)(h, true)
	}
}

// spoiled are histories that are as one is but for one thing, by what that is; some are ok still.
func spoiled(h impl.Hist) map[string][]impl.Hist {
	all := map[string][]impl.Hist{}
	add := func(what string, d impl.Doc, done, back []impl.Step) {
		all[what] = append(all[what], impl.Hist{Doc: d, Done: done, Back: back})
	}
	for i := range h.Done {
		add("one less done", h.Doc, slices.Delete(slices.Clone(h.Done), i, i+1), h.Back)
		add("one done twice", h.Doc, slices.Insert(slices.Clone(h.Done), i, h.Done[i]), h.Back)
		for j := range i {
			list := slices.Clone(h.Done)
			list[i], list[j] = list[j], list[i]
			add("two done changed for one another", h.Doc, list, h.Back)
		}
		for _, s := range nearSteps(h.Done[i]) {
			list := slices.Clone(h.Done)
			list[i] = s
			add("another one done", h.Doc, list, h.Back)
		}
	}
	for i := range h.Back {
		add("one less undone", h.Doc, h.Done, slices.Delete(slices.Clone(h.Back), i, i+1))
		add("one undone twice", h.Doc, h.Done, slices.Insert(slices.Clone(h.Back), i, h.Back[i]))
		for j := range i {
			list := slices.Clone(h.Back)
			list[i], list[j] = list[j], list[i]
			add("two undone changed for one another", h.Doc, h.Done, list)
		}
		for _, s := range nearSteps(h.Back[i]) {
			list := slices.Clone(h.Back)
			list[i] = s
			add("another one undone", h.Doc, h.Done, list)
		}
	}
	for i, b := range h.Doc.Blocks {
		for j, near := range nearBlocks(b) {
			if j%5 == 0 {
				d := copiedDoc(h.Doc)
				d.Blocks[i] = near
				add("another document", d, h.Done, h.Back)
			}
		}
	}
	add("the other way round", h.Doc, lastFirst(h.Done), lastFirst(h.Back))
	add("done for undone", h.Doc, h.Back, h.Done)
	add("no document", impl.Doc{}, h.Done, h.Back)
	return all
}

// nearSteps are steps that are as one is but for one thing, whether they have what their kind says or not.
func nearSteps(s impl.Step) []impl.Step {
	all := []impl.Step{undoing(s)}
	other := func(change func(*impl.Step)) {
		x := copiedStep(s)
		change(&x)
		all = append(all, x)
	}
	for _, by := range []int{-1, 1} {
		other(func(x *impl.Step) { x.Kind += by })
		other(func(x *impl.Step) { x.Place.Block += by })
		other(func(x *impl.Step) { x.Place.Cell += by })
		other(func(x *impl.Step) { x.Place.At += by })
	}
	for _, text := range nearTexts(s.Text) {
		other(func(x *impl.Step) { x.Text = text })
	}
	for i, b := range nearBlocks(s.Was) {
		if i%5 == 0 {
			other(func(x *impl.Step) { x.Was = b })
		}
	}
	for i, b := range nearBlocks(s.Now) {
		if i%5 == 0 {
			other(func(x *impl.Step) { x.Now = b })
		}
	}
	return all
}

// Of histories that are nearly such as can be, some are ok by the words of the document, and some are not.
func TestHistOkByTheWords(t *testing.T) {
	met := map[string][2]int{}
	for i, h := range histories(t, 0, 0) {
		if i%29 != 0 {
			continue
		}
		for what, list := range spoiled(h) {
			for _, x := range list {
				n, want := met[what], wantHistOk(x)
				if impl.HistOk(x) != want {
					t.Fatal(what, want, writeHist(x))
				}
				if !want {
					n[0]++
					refusedHist(t, what)(impl.HistUndo(x))
					refusedHist(t, what)(impl.HistRedo(x))
				} else {
					n[1]++
				}
				met[what] = n
			}
		}
	}
	if len(met) != 12 {
		t.Fatal(met)
	}
	for what, n := range met {
		if n[0] < 10 || n[1] < 1 {
			t.Error("few of", what, n)
		}
	}
}

// Huge arguments are answered, too.
func TestHistoriesOfHugeLists(t *testing.T) {
	steps := make([]impl.Step, 1<<16)
	put := impl.Step{Kind: impl.StepPut, Now: readDoc("p:a\n").Blocks[0]}
	turns := slices.Repeat([]impl.Step{put, impl.StepTurn(put)}, 1<<15)
	for _, list := range [][]impl.Step{steps, turns} {
		for _, h := range []impl.Hist{{Done: list}, {Back: list}, {Done: list, Back: list}, {Done: list[:12], Back: list}, {Done: list, Back: list[:12]}} {
			allAreRefused(t, h)
		}
	}
	text := make([]impl.Sign, 1<<18)
	huge := impl.Block{Kind: impl.BlockTable, Table: impl.Table{Rows: 5, Cols: 5, Cells: make([]impl.Cell, 1<<18)}}
	for _, k := range allKinds {
		for _, s := range []impl.Step{{Kind: k, Text: text}, {Kind: k, Was: huge, Now: huge}} {
			allAreRefused(t, impl.Hist{Done: []impl.Step{s}}, k)
			allAreRefused(t, impl.Hist{Back: []impl.Step{s}}, k)
			refusedHist(t, k)(impl.HistDo(impl.Hist{}, s))
		}
	}
}

package tests

import (
	"regexp"
	"slices"
	"strconv"
	"strings"
	"sync"
	"testing"

	"loop.example/limner/impl"
)

// lineWord is a word that a line begins with, and what stands behind it, a letter each: a block, a cell, a place at a sign, any number, a person, or a word.
type lineWord struct {
	word string
	args string
}

// lineWords are all that lines can begin with.
func lineWords() []lineWord {
	return []lineWord{
		{"para", "b"}, {"table", "bnn"}, {"in", "bcax"}, {"part", "ba"}, {"join", "b"},
		{"item", "b"}, {"sink", "b"}, {"lift", "b"}, {"sugin", "bcapx"}, {"sugout", "bcapn"}, {"take", "p"}, {"drop", "p"},
		{"undo", ""}, {"redo", ""}, {"show", ""},
		{"rowin", "bn"}, {"rowout", "bn"}, {"colin", "bn"}, {"colout", "bn"}, {"merge", "bnnnn"}, {"split", "bc"},
	}
}

// clerk does lines by the words of the document. Of all documents that it remembers one is there now; those ahead of it are come back to by undoing, those behind it by doing again.
type clerk struct {
	docs []impl.Doc
	now  int
}

// newClerk has a document without blocks, and nothing to undo.
func newClerk() clerk {
	return clerk{docs: []impl.Doc{{}}}
}

// clerkBehind is a clerk who has done some lines.
func clerkBehind(lines []string) clerk {
	k := newClerk()
	for _, line := range lines {
		k, _ = k.answer(line)
	}
	return k
}

// doc is the document that is there.
func (k clerk) doc() impl.Doc {
	return k.docs[k.now]
}

// did is the clerk behind a step.
func (k clerk) did(x impl.Doc) clerk {
	k.docs = append(slices.Clone(k.docs[:k.now+1]), x)
	if len(k.docs) > 13 {
		k.docs = k.docs[1:]
	}
	k.now = len(k.docs) - 1
	return k
}

// moved is the clerk at another one of the documents, if there is such.
func (k clerk) moved(by int) (clerk, string) {
	if k.now+by < 0 || k.now+by >= len(k.docs) {
		return k, "no\n"
	}
	k.now += by
	return k, "done\n"
}

// step does a step.
func (k clerk) step(s impl.Step) (clerk, string) {
	x, ok := wantDone(k.doc(), s)
	if !ok || !hasWhatItsKindSays(s) {
		return k, "no\n"
	}
	return k.did(x), "done\n"
}

// be makes other blocks of the blocks that are there, one by one, in the order of these places.
func (k clerk) be(x impl.Doc, ok bool, places []int) (clerk, string) {
	if !ok {
		return k, "no\n"
	}
	for _, i := range places {
		if i < len(x.Blocks) && !sameBlock(k.doc().Blocks[i], x.Blocks[i]) {
			y := copiedDoc(k.doc())
			y.Blocks[i] = x.Blocks[i]
			k = k.did(y)
		}
	}
	return k, "done\n"
}

// inOrder does that to the blocks from the first one on.
func (k clerk) inOrder(x impl.Doc, ok bool) (clerk, string) {
	return k.be(x, ok, []int{0, 1, 2, 3, 4, 5, 6, 7})
}

// beTable makes another table of a block, if that is one.
func (k clerk) beTable(block int, do func(impl.Table) (impl.Table, bool)) (clerk, string) {
	d := k.doc()
	if block < 0 || block >= len(d.Blocks) || d.Blocks[block].Kind != impl.BlockTable {
		return k, "no\n"
	}
	table, ok := do(d.Blocks[block].Table)
	if !ok {
		return k, "no\n"
	}
	x := copiedDoc(d)
	x.Blocks[block] = impl.Block{Kind: impl.BlockTable, Table: table}
	return k.did(x), "done\n"
}

// numberShape is how numbers are written.
var numberShape = regexp.MustCompile("^([0-9]|[1-9][0-9])$")

// numbers are what words are as numbers.
func numbers(words []string) []int {
	var all []int
	for _, w := range words {
		n := -1
		if numberShape.MatchString(w) {
			n, _ = strconv.Atoi(w)
		}
		all = append(all, n)
	}
	return all
}

// answer is the clerk behind a line, and what is answered to it.
func (k clerk) answer(line string) (clerk, string) {
	if line == "" {
		return k, ""
	}
	w := strings.Split(line, " ")
	if !slices.ContainsFunc(lineWords(), func(x lineWord) bool { return x.word == w[0] && len(x.args) == len(w)-1 }) {
		return k, "no\n"
	}
	n := numbers(w)
	switch w[0] {
	case "undo":
		return k.moved(-1)
	case "redo":
		return k.moved(1)
	case "show":
		return k, impl.DocWrite(k.doc()) + "end\n"
	case "take":
		return k.inOrder(wantTake(k.doc(), n[1]), isPerson(n[1]))
	case "drop":
		return k.inOrder(wantDrop(k.doc(), n[1]), isPerson(n[1]))
	case "item":
		return k.inOrder(impl.DocItem(k.doc(), n[1]))
	case "sink":
		return k.inOrder(impl.DocSink(k.doc(), n[1]))
	case "lift":
		x, ok := impl.DocLift(k.doc(), n[1])
		return k.be(x, ok, []int{7, 6, 5, 4, 3, 2, 1, 0})
	case "sugin":
		return k.inOrder(wantIn(k.doc(), impl.Place{Block: n[1], Cell: n[2], At: n[3]}, w[5], n[4]))
	case "sugout":
		return k.inOrder(wantOut(k.doc(), impl.Place{Block: n[1], Cell: n[2], At: n[3]}, n[5], n[4]))
	}
	return k.oneStep(w, n)
}

// oneStep does a line of those that are one step.
func (k clerk) oneStep(w []string, n []int) (clerk, string) {
	switch w[0] {
	case "para":
		return k.step(impl.Step{Kind: impl.StepPut, Place: in(n[1], 0), Now: impl.Block{Kind: impl.BlockPara}})
	case "table":
		return k.step(impl.Step{Kind: impl.StepPut, Place: in(n[1], 0), Now: impl.Block{Kind: impl.BlockTable, Table: impl.TableNew(n[2], n[3])}})
	case "in":
		return k.step(impl.Step{Kind: impl.StepIn, Place: impl.Place{Block: n[1], Cell: n[2], At: n[3]}, Text: impl.TextOf(w[4])})
	case "part":
		return k.step(impl.Step{Kind: impl.StepPart, Place: in(n[1], n[2])})
	case "join":
		size := 0
		if 0 <= n[1] && n[1] < len(k.doc().Blocks) {
			size = len(k.doc().Blocks[n[1]].Text)
		}
		return k.step(impl.Step{Kind: impl.StepJoin, Place: in(n[1], size)})
	case "merge":
		return k.beTable(n[1], func(t impl.Table) (impl.Table, bool) { return impl.TableMerge(t, n[2], n[3], n[4], n[5]) })
	}
	do := map[string]func(impl.Table, int) (impl.Table, bool){
		"rowin": impl.TableRowIn, "rowout": impl.TableRowOut, "colin": impl.TableColIn, "colout": impl.TableColOut, "split": impl.TableSplit,
	}[w[0]]
	return k.beTable(n[1], func(t impl.Table) (impl.Table, bool) { return do(t, n[2]) })
}

// textOfLines is lines as a text, each with a newline.
func textOfLines(lines ...[]string) string {
	s := ""
	for _, line := range slices.Concat(lines...) {
		s += line + "\n"
	}
	return s
}

// wantAnswers are the answers to lines by the words of the document, one a line; that to an empty one is empty.
func wantAnswers(lines []string) []string {
	var all []string
	k, said := newClerk(), ""
	for _, line := range lines {
		k, said = k.answer(line)
		all = append(all, said)
	}
	return all
}

// answersTo are the answers of the program to lines, one a line: to show it is all up to the end.
func answersTo(t *testing.T, lines ...[]string) []string {
	t.Helper()
	text := textOfLines(lines...)
	rest := impl.LinesRun(text)
	var all []string
	for _, line := range slices.Concat(lines...) {
		end := "\n"
		if line == "show" && !strings.HasPrefix(rest, "end\n") {
			end = "\nend\n"
		}
		if line == "" {
			end = ""
		}
		at := strings.Index(rest, end)
		if at < 0 {
			t.Fatalf("too few answers to %q: %q", text, impl.LinesRun(text))
		}
		all = append(all, rest[:at+len(end)])
		rest = rest[at+len(end):]
	}
	if rest != "" {
		t.Fatalf("too many answers to %q: %q", text, impl.LinesRun(text))
	}
	return all
}

// sameAnswers says that answers are just these.
func sameAnswers(t *testing.T, got, want []string, lines ...[]string) {
	t.Helper()
	for i := range max(len(got), len(want)) {
		if i >= len(got) || i >= len(want) || got[i] != want[i] {
			t.Fatalf("the answers from line %d on are %q, not %q, to %q", i+1, got[min(i, len(got)):], want[min(i, len(want)):], textOfLines(lines...))
		}
	}
}

// saysJust says that a text is answered by just that.
func saysJust(t *testing.T, text, want string) {
	t.Helper()
	if got := impl.LinesRun(text); got != want {
		t.Fatalf("%q is answered by\n%q, not by\n%q", text, got, want)
	}
}

// notBlank is a document of the same signs, blanks left out: none can be put in by a word of a line.
func notBlank(d impl.Doc) impl.Doc {
	return mapTexts(d, func(text []impl.Sign) []impl.Sign {
		return slices.DeleteFunc(slices.Clone(text), func(s impl.Sign) bool { return s.Byte == ' ' })
	})
}

// linesTo are lines that make a document, without blanks, of one without blocks.
func linesTo(d impl.Doc) []string {
	var all []string
	say := func(word string, n ...any) {
		all = append(all, sentence(word, n...))
	}
	for i, b := range d.Blocks {
		switch b.Kind {
		case impl.BlockPara:
			say("para", i)
		case impl.BlockItem:
			say("para", i)
			say("item", i)
			for range b.Level {
				say("sink", i)
			}
		case impl.BlockTable:
			say("table", i, b.Table.Rows, b.Table.Cols)
			for _, c := range b.Table.Cells {
				if c.Down*c.Right > 1 {
					say("merge", i, c.Row, c.Col, c.Down, c.Right)
				}
			}
		}
		for cell, text := range textsOf(b) {
			for at, s := range text {
				if s.In == 0 {
					say("in", i, cell, at, string(s.Byte))
				} else {
					say("sugin", i, cell, at, s.In, string(s.Byte))
				}
				if s.Out != 0 {
					say("sugout", i, cell, at, s.Out, 1)
				}
			}
		}
	}
	return all
}

// sentence is a line of a word, and what stands behind it.
func sentence(word string, behind ...any) string {
	for _, x := range behind {
		switch x := x.(type) {
		case int:
			word += " " + strconv.Itoa(x)
		case string:
			word += " " + x
		}
	}
	return word
}

// lineDocs are documents that lines can make which are short enough that more can stand behind them.
var lineDocs = sync.OnceValue(func() []impl.Doc {
	var all []impl.Doc
	for _, d := range sugDocs() {
		x := notBlank(d)
		if len(textOfLines(linesTo(x))) <= 2000 {
			all = append(all, x)
		}
	}
	return all
})

// noLines are lines that are none.
func noLines() []string {
	all := []string{
		" ", "  ", "-", "end", "done", "no", "what", "Show", "SHOW", "shows", "sho", "show ", " show", "show\r", "\tshow", "show\t", "show 0", "show show", "show;show",
		"undo ", " undo", "undo 1", "undo undo", "redo ", " redo", "redo 1", "undoredo", "para", "para ", "para 0 ", " para 0", "para  0", "para 0 0", "para\t0", "para0", "0 para", "para 0\r", "PARA 0",
		"paragraph 0", "table 0 1", "table 0 1 1 1", "table 0  1 1", "in 0 0 0", "in 0 0 0  a", "in 0 0 0 a ", "in 0 0 0 a b", "in 0 0 a", "out 0 0 0 a", "part 0", "part 0 0 0", "join", "join 0 0", "join 0 ",
		"item", "item 0 0", "sink", "sink 0 1", "lift", "lift 0 1", "lift  0", "sugin 0 0 0 1", "sugin 0 0 0 1 a b", "sugin 0 0 0 1 a ", "sugout 0 0 0 1", "sugout 0 0 0 1 1 1",
		"take", "take 1 2", "take ", "take  1", "drop", "drop 1 2", "drop 1 ", "rowin 0", "rowin 0 0 0", "rowout 0", "rowout 0 0 0", "colin 0", "colin 0 0 0", "colout 0", "colout 0 0 0",
		"merge 0 0 0 1", "merge 0 0 0 1 2 1", "split 0", "split 0 0 0", "\x00", "show\x00", "\xff", "sh\xffow", "é", "show\u00a0", "show\u2028show", "\ufeffshow", "pär 0", strings.Repeat("x", 200), strings.Repeat(" ", 200), strings.Repeat("show ", 40),
	}
	for _, w := range lineWords() {
		all = append(all, w.word+w.word+strings.Repeat(" 0", len(w.args)), "x"+w.word+strings.Repeat(" 0", len(w.args)), strings.ToUpper(w.word)+strings.Repeat(" 0", len(w.args)))
	}
	return all
}

// scribe draws lines by numbers that follow from each other. So many of the next ones undo and redo.
type scribe struct {
	seed uint32
	turn int
	back int
}

func (s *scribe) next(n int) int {
	s.seed = s.seed*1664525 + 1013904223
	return int(s.seed>>16) % n
}

// words are such as are put in: of one sign, of the most, and such as are none.
func (s *scribe) word() string {
	words := []string{"a", "b", "cd", "efg", "0", "19", "hijklmno", "0123456789", "abcdefghijklmnopqrstuvwx", "abcdefghijklmnopqrstuvwxy", "A", "a.b", "é"}
	return words[s.next(len(words))]
}

// behind draws what stands behind a word, near to what is there in the document.
func (s *scribe) behind(d impl.Doc, w lineWord) string {
	var p impl.Place
	line := w.word
	for _, kind := range w.args {
		n := s.next(4)
		switch kind {
		case 'b':
			p.Block = s.next(len(d.Blocks) + 1)
			n = p.Block
		case 'c':
			if p.Block < len(d.Blocks) {
				p.Cell = s.next(len(textsOf(d.Blocks[p.Block])))
			}
			n = p.Cell
		case 'a':
			if isPlace(d, p) {
				n = s.next(len(textOfPlace(d, p)) + 1)
			}
		case 'p':
			n = 1 + s.next(3)
		case 'x':
			line += " " + s.word()
			continue
		}
		line += " " + strconv.Itoa(n)
	}
	return line
}

// line draws a line whose word has its turn: such as is done, if one is found; at times any, one that is none, or one of some that undo and redo.
func (s *scribe) line(k clerk) string {
	if none := noLines(); s.next(12) == 0 {
		return none[s.next(len(none))]
	}
	if s.back > 0 {
		s.back--
		return []string{"undo", "undo", "redo", "redo", "show"}[s.next(5)]
	}
	words := lineWords()
	s.turn++
	w := words[(s.turn*8+s.next(2))%len(words)]
	if w.word == "undo" {
		s.back = s.next(16)
	}
	line := s.behind(k.doc(), w)
	for range s.next(30) {
		if _, said := k.answer(line); said != "no\n" {
			break
		}
		line = s.behind(k.doc(), w)
	}
	return line
}

// lineWalks are texts of lines: such as make a document, or none, with others behind them, drawn one by one. They are made once, and only read.
var lineWalks = sync.OnceValue(func() [][]string {
	var all [][]string
	for i, d := range append(lineDocs(), make([]impl.Doc, 60)...) {
		s := &scribe{seed: uint32(i)}
		lines := linesTo(d)
		k := clerkBehind(lines)
		for range 60 {
			line := s.line(k)
			if len(textOfLines(lines))+len(line) >= impl.LinesMax {
				break
			}
			k, _ = k.answer(line)
			lines = append(lines, line)
		}
		all = append(all, lines)
	}
	return all
})

// shortWalks are the texts of these that begin without a document, so that each of their lines can be looked at.
func shortWalks() [][]string {
	all := lineWalks()
	return all[len(all)-60:]
}

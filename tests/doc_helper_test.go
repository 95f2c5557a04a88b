package tests

import (
	"math"
	"slices"
	"strings"
	"sync"
	"testing"

	"loop.example/limner/impl"
)

// readDoc is a document as documents are written, read line by line.
func readDoc(s string) impl.Doc {
	var d impl.Doc
	for line := range strings.Lines(s) {
		head, text, _ := strings.Cut(strings.TrimSuffix(line, "\n"), ":")
		n := func(at int) int { return int(head[at] - '0') }
		switch head[0] {
		case 'p':
			d.Blocks = append(d.Blocks, impl.Block{Kind: impl.BlockPara, Text: read(text)})
		case 'i':
			d.Blocks = append(d.Blocks, impl.Block{Kind: impl.BlockItem, Level: n(1), Text: read(text)})
		case 't':
			d.Blocks = append(d.Blocks, impl.Block{Kind: impl.BlockTable, Table: impl.Table{Rows: n(1), Cols: n(2)}})
		case 'c':
			table := &d.Blocks[len(d.Blocks)-1].Table
			table.Cells = append(table.Cells, impl.Cell{Row: n(1), Col: n(2), Down: n(3), Right: n(4), Text: read(text)})
		}
	}
	return d
}

// sameBlock says whether two blocks are the same value: the empty and the nil list are.
func sameBlock(a, b impl.Block) bool {
	return a.Kind == b.Kind && a.Level == b.Level && slices.Equal(a.Text, b.Text) && equalTables(a.Table, b.Table)
}

// equalDocs says whether two documents are the same value.
func equalDocs(a, b impl.Doc) bool {
	return slices.EqualFunc(a.Blocks, b.Blocks, sameBlock)
}

// sameDoc says that two documents are the same value.
func sameDoc(t *testing.T, got, want impl.Doc, what ...any) {
	t.Helper()
	if !equalDocs(got, want) {
		t.Fatalf("got %v, not %v, of %v", got, want, what)
	}
}

// mustDoc is the document of an answer that has to be true.
func mustDoc(t *testing.T, what ...any) func(impl.Doc, bool) impl.Doc {
	return func(got impl.Doc, ok bool) impl.Doc {
		t.Helper()
		if !ok || !impl.DocOk(got) {
			t.Fatal(ok, got, what)
		}
		return got
	}
}

// refusedDoc says that an answer is nothing and false.
func refusedDoc(t *testing.T, what ...any) func(impl.Doc, bool) {
	return func(got impl.Doc, ok bool) {
		t.Helper()
		if ok || len(got.Blocks) != 0 {
			t.Fatal(ok, got, what)
		}
	}
}

// copiedDoc is the same document in memory of its own.
func copiedDoc(d impl.Doc) impl.Doc {
	d.Blocks = slices.Clone(d.Blocks)
	for i, b := range d.Blocks {
		d.Blocks[i].Text, d.Blocks[i].Table = slices.Clone(b.Text), copiedTable(b.Table)
	}
	return d
}

// docTexts are texts of all sizes: plain, with signs put in, taken out and both, and empty ones. They are made once, and copied where they are taken.
var docTexts = sync.OnceValue(func() [][]impl.Sign {
	all := [][]impl.Sign{read("a"), nil, read("+1b"), read("-2c"), read("+3-1d"), {}, read("a +1b-2c+2-3d0"), read(manyNames), read("  9")}
	return append(all, longTexts()[200:]...)
})

// docTables are tables of one square, of many, and with cells of several squares. They are made once, and copied where they are taken.
var docTables = sync.OnceValue(func() []impl.Table {
	all := []impl.Table{impl.TableNew(1, 1), readTable(2, 2, "0021:a+1b|0111:-2c|1111:"), readTable(5, 3, tall), impl.TableNew(1, 2), readTable(5, 5, "0055:+1-2z"), lettered(impl.TableNew(5, 5))}
	for i, x := range greatTables() {
		if i%31 == 0 {
			all = append(all, lettered(x))
		}
	}
	return all
})

// shaped is a document of one block a letter: p is a paragraph, t a table, a figure an item of that level. Texts and tables follow each other, from turn on.
func shaped(shape string, turn int) impl.Doc {
	texts, tables := docTexts(), docTables()
	var d impl.Doc
	for i, kind := range []byte(shape) {
		b := impl.Block{Kind: impl.BlockItem, Level: int(kind - '0'), Text: slices.Clone(texts[(turn+i)%len(texts)])}
		switch kind {
		case 'p':
			b.Kind, b.Level = impl.BlockPara, 0
		case 't':
			b = impl.Block{Kind: impl.BlockTable, Table: copiedTable(tables[(turn+i)%len(tables)])}
		}
		d.Blocks = append(d.Blocks, b)
	}
	return d
}

// shapeOf is the letters of a document's blocks.
func shapeOf(d impl.Doc) string {
	s := ""
	for _, b := range d.Blocks {
		s += map[int]string{impl.BlockPara: "p", impl.BlockTable: "t", impl.BlockItem: string(rune('0' + b.Level))}[b.Kind]
	}
	return s
}

// isItem says whether a letter is an item's.
func isItem(kind byte) bool {
	return '0' <= kind && kind <= '9'
}

// okShape says by the words of the document whether the levels are ok.
func okShape(shape string) bool {
	for i := range len(shape) {
		if !isItem(shape[i]) {
			continue
		}
		most := byte('0')
		if i > 0 && isItem(shape[i-1]) {
			most = shape[i-1] + 1
		}
		if shape[i] > most || shape[i] > '3' {
			return false
		}
	}
	return len(shape) <= 8
}

// allShapes are all rows of up to so many of these letters.
func allShapes(letters string, most int) []string {
	all := []string{""}
	for from := 0; len(all[from]) < most; from++ {
		for i := range len(letters) {
			all = append(all, all[from]+letters[i:i+1])
		}
	}
	return all
}

// okShapes are all that are ok of up to six blocks, and some of seven and eight, the most.
func okShapes() []string {
	all, last := []string{""}, []string{""}
	for size := 1; size <= impl.DocMax; size++ {
		var next []string
		for _, s := range last {
			for _, kind := range "pt0123" {
				if x := s + string(kind); okShape(x) {
					next = append(next, x)
				}
			}
		}
		for i, s := range next {
			if size <= 6 || i%29 == 0 {
				all = append(all, s)
			}
		}
		last = next
	}
	return append(all, "01230123", "00000000", "01232101", "0p0t0p01", "01t012p0", "pppppppp", "tttttttt", "01222222", "01233333", "0123p012", "0101t010")
}

// okDocs are documents of these shapes; blocks of one kind have other texts, or tables, from document to document.
func okDocs() []impl.Doc {
	var all []impl.Doc
	for i, s := range okShapes() {
		all = append(all, shaped(s, i))
	}
	return all
}

// belowEnd is by the words of the document the place behind all that is below the item at a place.
func belowEnd(shape string, at int) int {
	for i := at + 1; i < len(shape); i++ {
		if !isItem(shape[i]) || shape[i] <= shape[at] {
			return i
		}
	}
	return len(shape)
}

// shiftedBy is a document in which the blocks from a place up to another one have other levels by so many.
func shiftedBy(d impl.Doc, from, to, by int) impl.Doc {
	d = copiedDoc(d)
	for i := from; i < to; i++ {
		d.Blocks[i].Level += by
	}
	return d
}

// put is a document with one block more.
func put(d impl.Doc, at int, b impl.Block) impl.Doc {
	d = copiedDoc(d)
	d.Blocks = slices.Insert(d.Blocks, at, b)
	return d
}

// changes are the three ways to change a block of a document.
func changes() map[string]func(impl.Doc, int) (impl.Doc, bool) {
	return map[string]func(impl.Doc, int) (impl.Doc, bool){"sink": impl.DocSink, "lift": impl.DocLift, "item": impl.DocItem}
}

// wrongBlocks are blocks that are not ok, each by one fault alone.
func wrongBlocks() []impl.Block {
	para, item := impl.Block{Kind: impl.BlockPara, Text: read("a")}, impl.Block{Kind: impl.BlockItem, Text: read("b")}
	table := impl.Block{Kind: impl.BlockTable, Table: readTable(2, 2, "0012:a|1011:b|1111:c")}
	all := []impl.Block{{}, {Text: read("a")}, {Table: impl.TableNew(1, 1)}, {Level: 1}}
	for _, n := range []int{0, 4, 5, -1, -2, -3, 255, 256, 257, 258, 259, 1<<32 + 1, 1<<32 + 2, 1<<32 + 3, math.MaxInt, math.MinInt, math.MinInt + 1} {
		for _, b := range []impl.Block{para, item, table, {}} {
			b.Kind = n
			all = append(all, b)
		}
	}
	for _, n := range []int{1, 2, 3, 4, -1, 256, 1 << 32, math.MaxInt, math.MinInt, math.MaxInt - 1, math.MinInt + 1} {
		para.Level, table.Level = n, n
		all = append(all, para, table)
	}
	para.Level, table.Level = 0, 0
	for _, n := range []int{4, 5, -1, -2, 256, 1 << 32, 1<<32 + 1, math.MaxInt, math.MinInt, math.MaxInt - 1, math.MinInt + 1} {
		item.Level = n
		all = append(all, item)
	}
	item.Level = 0
	return append(all, mixedUp(para, item, table)...)
}

// mixedUp are blocks of each kind with a text, or a table, that is not ok, or not of that kind.
func mixedUp(para, item, table impl.Block) []impl.Block {
	var all []impl.Block
	for i, text := range wrongTexts() {
		if i%9 == 0 || len(text) > impl.TextMax {
			para.Text, item.Text = text, text
			all = append(all, para, item)
		}
	}
	para.Text, item.Text = read("a"), read("b")
	some := []impl.Table{table.Table, impl.TableNew(1, 1), {Rows: 1}, {Cols: 1}, {Rows: -1}, {Cols: math.MinInt}, {Rows: 1, Cols: -1}, {Cells: make([]impl.Cell, 1)}, {Cells: table.Table.Cells}}
	for _, x := range some {
		para.Table, item.Table = x, x
		all = append(all, para, item)
	}
	for _, text := range [][]impl.Sign{read("a"), read("+1b"), read("A"), make([]impl.Sign, 1), slices.Repeat(read("a"), impl.TextMax+1)} {
		table.Text = text
		all = append(all, table, impl.Block{Kind: impl.BlockTable, Text: text})
	}
	table.Text = nil
	for i, x := range wrongTables() {
		if i%7 == 0 {
			table.Table = x
			all = append(all, table)
		}
	}
	return all
}

// wrongDocs are documents that are not ok: with one wrong block, too many blocks, or an item that is too deep.
func wrongDocs() []impl.Doc {
	var all []impl.Doc
	good := readDoc("i0:a\ni1:b\np:c\nt12:\nc0012:+1d\n")
	for i, b := range wrongBlocks() {
		all = append(all, impl.Doc{Blocks: []impl.Block{b}}, put(good, i%5, b))
	}
	for _, size := range []int{9, 10, 16, 17, 1000} {
		for _, kind := range "pt0" {
			all = append(all, shaped(strings.Repeat(string(kind), size), size))
		}
	}
	for _, s := range []string{"1", "2", "3", "p1", "t1", "p2", "02", "03", "013", "01p1", "01t2", "0t1", "012p12", "0120p3", "0123tp12", "1p", "p00000t1", "00000013", "0123123t1"} {
		all = append(all, shaped(s, len(s)))
	}
	return all
}

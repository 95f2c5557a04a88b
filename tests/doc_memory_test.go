package tests

import (
	"slices"
	"testing"

	"loop.example/limner/impl"
)

// markBlock is a block that no function makes: where it is lost something was written.
var markBlock = impl.Block{Kind: -7, Level: -8}

// docRooms is all the memory that a document was made in, its spare room too.
type docRooms struct {
	blocks []impl.Block
	texts  [][]impl.Sign
	tables []rooms
}

// roomyDoc is a document whose list of blocks, and each list in them, has marks ahead of it and in its spare room, and all that memory.
func roomyDoc(d impl.Doc) (impl.Doc, docRooms) {
	var all docRooms
	blocks := slices.Clone(d.Blocks)
	for i, b := range blocks {
		text, room := roomy(b.Text)
		table, tableRoom := roomyTable(b.Table)
		blocks[i].Text, blocks[i].Table = text, table
		all.texts, all.tables = append(all.texts, room), append(all.tables, tableRoom)
	}
	all.blocks = slices.Concat([]impl.Block{markBlock}, blocks, []impl.Block{markBlock, markBlock, markBlock})
	return impl.Doc{Blocks: all.blocks[1 : 1+len(blocks)]}, all
}

// copied is the same memory once more.
func (r docRooms) copied() docRooms {
	c := docRooms{blocks: copiedDoc(impl.Doc{Blocks: r.blocks}).Blocks}
	for i := range r.texts {
		c.texts, c.tables = append(c.texts, slices.Clone(r.texts[i])), append(c.tables, r.tables[i].copied())
	}
	return c
}

// sameDocRooms says that nothing was written.
func sameDocRooms(t *testing.T, got, want docRooms, what ...any) {
	t.Helper()
	if !slices.EqualFunc(got.blocks, want.blocks, sameBlock) {
		t.Fatal("blocks were written into", what)
	}
	for i := range got.texts {
		same(t, got.texts[i], want.texts[i], "a text was written into", what)
		sameRooms(t, got.tables[i], want.tables[i], what...)
	}
}

// overwriteDoc writes over all of a document, its spare room too.
func overwriteDoc(d impl.Doc) {
	blocks := d.Blocks[:cap(d.Blocks)]
	for i, b := range blocks {
		fill(b.Text, mark)
		overwrite(b.Table)
		blocks[i] = markBlock
	}
}

// fill writes over all of a list, its spare room too.
func fill[T any](list []T, by T) {
	list = list[:cap(list)]
	for i := range list {
		list[i] = by
	}
}

// docAnswers are all documents that are answered of one, anew, and some that are refused.
func docAnswers(d impl.Doc) []impl.Doc {
	var all []impl.Doc
	add := func(x impl.Doc, _ bool) { all = append(all, x) }
	for at := -1; at <= len(d.Blocks); at++ {
		add(impl.DocSink(d, at))
		add(impl.DocLift(d, at))
		add(impl.DocItem(d, at))
	}
	return all
}

// memoryDocs are some documents of each shape, such as are not ok, and such as share their texts and tables within.
func memoryDocs() []impl.Doc {
	var all []impl.Doc
	for i, d := range okDocs() {
		if i%13 == 0 {
			all = append(all, d)
		}
	}
	for i, d := range wrongDocs() {
		if i%17 == 0 && len(d.Blocks) < 100 {
			all = append(all, d)
		}
	}
	full := shaped("p0tt0122", 6)
	shared := shaped("p0tt0122", 6)
	for i := range shared.Blocks {
		b := &shared.Blocks[i]
		if b.Kind == impl.BlockTable {
			b.Table = shared.Blocks[2].Table
		} else {
			b.Text = shared.Blocks[2].Table.Cells[0].Text
		}
	}
	return append(all, full, shared, shaped("pt00", 7), shaped("0tp", 8), impl.Doc{})
}

func TestNothingIsWrittenIntoADoc(t *testing.T) {
	for _, d := range memoryDocs() {
		doc, all := roomyDoc(d)
		before := all.copied()
		impl.DocOk(doc)
		impl.DocWrite(doc)
		impl.DocNums(doc)
		docAnswers(doc)
		sameDocRooms(t, all, before, d)
		sameDoc(t, doc, d)
	}
}

// An answer, its spare room too, may be written over without harm to the document, or to any other answer.
func TestDocAnswersAreNewMemory(t *testing.T) {
	for _, d := range memoryDocs() {
		doc, all := roomyDoc(d)
		before := all.copied()
		answers := docAnswers(doc)
		want := docAnswers(copiedDoc(d))
		for i, a := range answers {
			sameDoc(t, a, want[i], "an answer has changed", d, i)
			overwriteDoc(a)
			sameDocRooms(t, all, before, "an answer shares the document", d, i)
		}
	}
}

// A document may be written over, all its room, without harm to what was answered of it.
func TestDocAnswersOutliveTheDoc(t *testing.T) {
	for _, d := range memoryDocs() {
		doc, all := roomyDoc(d)
		answers, nums, text := docAnswers(doc), impl.DocNums(doc), impl.DocWrite(doc)
		for i := range all.texts {
			fill(all.texts[i], mark)
			for _, room := range all.tables[i].texts {
				fill(room, mark)
			}
			fill(all.tables[i].cells, markCell)
		}
		fill(all.blocks, markBlock)
		for i, want := range docAnswers(copiedDoc(d)) {
			sameDoc(t, answers[i], want, "an answer shares the document", d, i)
		}
		if text != impl.DocWrite(d) || !slices.EqualFunc(nums, impl.DocNums(d), slices.Equal) {
			t.Fatal(d, text, nums)
		}
	}
}

// listsOf are all texts, and all lists of cells, of a document, the lists' spare room included.
func listsOf(d impl.Doc) (texts [][]impl.Sign, cells [][]impl.Cell) {
	for _, b := range d.Blocks[:cap(d.Blocks)] {
		texts, cells = append(texts, b.Text[:cap(b.Text)]), append(cells, b.Table.Cells[:cap(b.Table.Cells)])
		for _, c := range b.Table.Cells[:cap(b.Table.Cells)] {
			texts = append(texts, c.Text[:cap(c.Text)])
		}
	}
	return texts, cells
}

// The lists of one answer, their spare room too, are apart: each is written over by a number of its own, and keeps it. Spare blocks have none.
func TestListsOfOneDocAreApart(t *testing.T) {
	for _, d := range memoryDocs() {
		for _, a := range docAnswers(d) {
			for _, b := range a.Blocks[len(a.Blocks):cap(a.Blocks)] {
				if !sameBlock(b, impl.Block{}) || b.Text != nil || b.Table.Cells != nil {
					t.Fatal("a spare block has something", d, b)
				}
			}
			listsAreApart(t, a, d)
		}
	}
}

// listsAreApart writes over each list of a document by a number of its own, and says that each keeps it.
func listsAreApart(t *testing.T, a impl.Doc, what any) {
	t.Helper()
	texts, cells := listsOf(a)
	for i := range texts {
		fill(texts[i], impl.Sign{In: i})
	}
	for i := range cells {
		fill(cells[i], impl.Cell{Row: i})
	}
	for i := range texts {
		same(t, texts[i], slices.Repeat([]impl.Sign{{In: i}}, len(texts[i])), "two texts share memory", what)
	}
	for i := range cells {
		if slices.ContainsFunc(cells[i], func(c impl.Cell) bool { return c.Row != i }) {
			t.Fatal("two lists of cells share memory", what)
		}
	}
}

// The same of lists of numbers.
func TestListsOfNumbersAreApart(t *testing.T) {
	for _, d := range memoryDocs() {
		nums := impl.DocNums(d)
		for _, spare := range nums[len(nums):cap(nums)] {
			if spare != nil {
				t.Fatal("a spare list has numbers", d)
			}
		}
		for i := range nums {
			fill(nums[i], -i)
		}
		for i, list := range nums {
			list = list[:cap(list)]
			same(t, list, slices.Repeat([]int{-i}, len(list)), "two lists share memory", d)
		}
	}
}

// Nothing is kept between two calls: whatever is done to the first answer, the second is what the first was.
func TestDocAnswersTwice(t *testing.T) {
	for _, d := range memoryDocs() {
		one, two := docAnswers(d), docAnswers(d)
		for i := range one {
			before := copiedDoc(two[i])
			overwriteDoc(one[i])
			sameDoc(t, two[i], before, d, i)
		}
		for i, x := range docAnswers(d) {
			sameDoc(t, x, two[i], d, i)
		}
		nums, again := impl.DocNums(d), impl.DocNums(d)
		for i := range nums {
			fill(nums[i], -9)
		}
		if !slices.EqualFunc(again, impl.DocNums(d), slices.Equal) {
			t.Fatal(d, again)
		}
	}
}

package tests

import (
	"slices"
	"testing"

	"loop.example/limner/impl"
)

// markCell is a cell that no function makes: where it is lost something was written.
var markCell = impl.Cell{Row: -7, Col: -8, Down: -9, Right: -10}

// rooms is all the memory that a table was made in, its spare room too.
type rooms struct {
	cells []impl.Cell
	texts [][]impl.Sign
}

// roomyTable is a table whose list of cells, and each text, has marks ahead of it and in its spare room, and all that memory.
func roomyTable(x impl.Table) (impl.Table, rooms) {
	var all rooms
	cells := slices.Clone(x.Cells)
	for i := range cells {
		text, room := roomy(cells[i].Text)
		cells[i].Text = text
		all.texts = append(all.texts, room)
	}
	all.cells = slices.Concat([]impl.Cell{markCell}, cells, []impl.Cell{markCell, markCell, markCell})
	x.Cells = all.cells[1 : 1+len(cells)]
	return x, all
}

// copied is the same memory once more.
func (r rooms) copied() rooms {
	c := rooms{cells: slices.Clone(r.cells)}
	for i := range c.cells {
		c.cells[i].Text = slices.Clone(c.cells[i].Text)
	}
	for _, room := range r.texts {
		c.texts = append(c.texts, slices.Clone(room))
	}
	return c
}

// sameRooms says that nothing was written.
func sameRooms(t *testing.T, got, want rooms, what ...any) {
	t.Helper()
	if !slices.EqualFunc(got.cells, want.cells, sameCell) {
		t.Fatal("cells were written into", what)
	}
	for i := range got.texts {
		same(t, got.texts[i], want.texts[i], "a text was written into", what)
	}
}

// overwrite writes over all of a table, its spare room too.
func overwrite(x impl.Table) {
	cells := x.Cells[:cap(x.Cells)]
	for i := range cells {
		text := cells[i].Text[:cap(cells[i].Text)]
		for at := range text {
			text[at] = mark
		}
		cells[i] = markCell
	}
}

// tableAnswers are all tables that are answered of one, anew, and some that are refused.
func tableAnswers(x impl.Table) []impl.Table {
	all := []impl.Table{impl.TableTurn(x)}
	add := func(y impl.Table, _ bool) { all = append(all, y) }
	for _, at := range []int{0, 1, x.Rows - 1, x.Rows, x.Cols, -1} {
		add(impl.TableRowIn(x, at))
		add(impl.TableRowOut(x, at))
		add(impl.TableColIn(x, at))
		add(impl.TableColOut(x, at))
	}
	if impl.TableOk(x) {
		for _, r := range areas(x) {
			add(impl.TableMerge(x, r.row, r.col, r.down, r.right))
		}
	}
	for i := -1; i <= len(x.Cells); i++ {
		add(impl.TableSplit(x, i))
	}
	return all
}

// memoryTables are some tables of each shape, and such as are not ok.
func memoryTables() []impl.Table {
	var all []impl.Table
	for i, x := range okTables() {
		if i%23 == 0 {
			all = append(all, x)
		}
	}
	for i, x := range wrongTables() {
		if i%11 == 0 && len(x.Cells) < 100 {
			all = append(all, x)
		}
	}
	return append(all, readTable(5, 3, tall), readTable(2, 2, "0022:ab"), readTable(2, 2, "0011:ab|0111:|1011:c|1111:d"), readTable(1, 1, "0011:a"))
}

// copiedTable is the same table in memory of its own.
func copiedTable(x impl.Table) impl.Table {
	x.Cells = slices.Clone(x.Cells)
	for i := range x.Cells {
		x.Cells[i].Text = slices.Clone(x.Cells[i].Text)
	}
	return x
}

func TestNothingIsWrittenIntoATable(t *testing.T) {
	for _, x := range memoryTables() {
		table, all := roomyTable(x)
		before := all.copied()
		impl.TableOk(table)
		for row := range 3 {
			impl.TableAt(table, row, 0)
		}
		tableAnswers(table)
		sameRooms(t, all, before, x)
		sameTable(t, table, x)
	}
}

// An answer, its spare room too, may be written over without harm to the table, or to any other answer.
func TestTableAnswersAreNewMemory(t *testing.T) {
	for _, x := range memoryTables() {
		table, all := roomyTable(x)
		before := all.copied()
		answers := tableAnswers(table)
		want := tableAnswers(copiedTable(x))
		for i, a := range answers {
			sameTable(t, a, want[i], "an answer has changed", x, i)
			overwrite(a)
			sameRooms(t, all, before, "an answer shares the table", x, i)
		}
	}
}

// A table may be written over, all its room, without harm to what was answered of it.
func TestTableAnswersOutliveTheTable(t *testing.T) {
	for _, x := range memoryTables() {
		table, all := roomyTable(x)
		answers := tableAnswers(table)
		for i := range all.cells {
			all.cells[i] = markCell
		}
		for _, room := range all.texts {
			for at := range room {
				room[at] = mark
			}
		}
		want := tableAnswers(copiedTable(x))
		for i, a := range answers {
			sameTable(t, a, want[i], "an answer shares the table", x, i)
		}
	}
}

// The texts of one answer, their spare room too, are apart: each is written over by a sign of its own, and keeps it. Spare cells have none.
func TestTextsOfOneTableAreApart(t *testing.T) {
	for _, x := range append(memoryTables(), impl.TableNew(5, 5)) {
		for _, a := range append(tableAnswers(x), impl.TableNew(x.Rows, x.Cols)) {
			for i, c := range a.Cells {
				room := c.Text[:cap(c.Text)]
				for at := range room {
					room[at].In = i
				}
			}
			for i, c := range a.Cells {
				for _, s := range c.Text[:cap(c.Text)] {
					if s.In != i {
						t.Fatal("two texts share memory", x, a, i)
					}
				}
			}
			for _, c := range a.Cells[len(a.Cells):cap(a.Cells)] {
				if c.Text != nil {
					t.Fatal("a spare cell has a text", x, a)
				}
			}
		}
	}
}

// Nothing is kept between two calls: whatever is done to the first answer, the second is what the first was.
func TestTableAnswersTwice(t *testing.T) {
	for rows := 1; rows <= impl.TableMax; rows++ {
		overwrite(impl.TableNew(rows, 3))
		sameTable(t, impl.TableNew(rows, 3), ones(impl.Table{Rows: rows, Cols: 3}))
	}
	for _, x := range memoryTables() {
		one, two := tableAnswers(x), tableAnswers(x)
		for i := range one {
			before := copiedTable(two[i])
			overwrite(one[i])
			sameTable(t, two[i], before, x, i)
		}
		for i, y := range tableAnswers(x) {
			sameTable(t, y, two[i], x, i)
		}
	}
}

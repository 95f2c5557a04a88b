package tests

import (
	"math"
	"slices"
	"strings"
	"testing"

	"loop.example/limner/impl"
)

// readTable is a table of so many rows and columns, whose cells are written ROWCOLDOWNRIGHT:TEXT, with a bar between two.
func readTable(rows, cols int, cells string) impl.Table {
	t := impl.Table{Rows: rows, Cols: cols}
	for _, s := range strings.Split(cells, "|") {
		n := func(at int) int { return int(s[at] - '0') }
		t.Cells = append(t.Cells, impl.Cell{Row: n(0), Col: n(1), Down: n(2), Right: n(3), Text: read(s[5:])})
	}
	return t
}

// sameCell says whether two cells are the same value.
func sameCell(a, b impl.Cell) bool {
	return rectOf(a) == rectOf(b) && slices.Equal(a.Text, b.Text)
}

// equalTables says whether two tables are the same value: the empty and the nil list are.
func equalTables(a, b impl.Table) bool {
	return a.Rows == b.Rows && a.Cols == b.Cols && slices.EqualFunc(a.Cells, b.Cells, sameCell)
}

// sameTable says that two tables are the same value.
func sameTable(t *testing.T, got, want impl.Table, what ...any) {
	t.Helper()
	if !equalTables(got, want) {
		t.Fatalf("got %v, not %v, of %v", got, want, what)
	}
}

// must is the table of an answer that has to be true.
func must(t *testing.T, what ...any) func(impl.Table, bool) impl.Table {
	return func(got impl.Table, ok bool) impl.Table {
		t.Helper()
		if !ok || !impl.TableOk(got) {
			t.Fatal(ok, got, what)
		}
		return got
	}
}

// refused says that an answer is nothing and false.
func refused(t *testing.T, what ...any) func(impl.Table, bool) {
	return func(got impl.Table, ok bool) {
		t.Helper()
		if ok || !equalTables(got, impl.Table{}) {
			t.Fatal(ok, got, what)
		}
	}
}

// area is a rectangle of squares.
type area struct{ row, col, down, right int }

// rectOf is the squares of a cell.
func rectOf(c impl.Cell) area {
	return area{c.Row, c.Col, c.Down, c.Right}
}

// has says whether a square is in the area.
func (a area) has(row, col int) bool {
	return a.row <= row && row < a.row+a.down && a.col <= col && col < a.col+a.right
}

// meets says whether two areas have a square in common.
func (a area) meets(b area) bool {
	return a.row < b.row+b.down && b.row < a.row+a.down && a.col < b.col+b.right && b.col < a.col+a.right
}

// holds says whether all of another area is in this one.
func (a area) holds(b area) bool {
	return a.row <= b.row && b.row+b.down <= a.row+a.down && a.col <= b.col && b.col+b.right <= a.col+a.right
}

// areas are all rectangles of squares of a table.
func areas(t impl.Table) []area {
	var all []area
	for row := range t.Rows {
		for col := range t.Cols {
			for down := 1; row+down <= t.Rows; down++ {
				for right := 1; col+right <= t.Cols; right++ {
					all = append(all, area{row, col, down, right})
				}
			}
		}
	}
	return all
}

// cellOf is the place of the cell of a square, found by looking through all cells.
func cellOf(t impl.Table, row, col int) int {
	for i, c := range t.Cells {
		if rectOf(c).has(row, col) {
			return i
		}
	}
	return -1
}

// textOf is what is written in the cell of a square.
func textOf(t impl.Table, row, col int) []impl.Sign {
	return t.Cells[cellOf(t, row, col)].Text
}

// written is all that is written in a table, cell by cell, in order.
func written(t impl.Table) []impl.Sign {
	var all []impl.Sign
	for _, c := range t.Cells {
		all = append(all, c.Text...)
	}
	return all
}

// sorted is signs in an order that does not tell where they were.
func sorted(x []impl.Sign) []impl.Sign {
	x = slices.Clone(x)
	slices.SortFunc(x, func(a, b impl.Sign) int {
		return (int(a.Byte)*16 + a.In*4 + a.Out) - (int(b.Byte)*16 + b.In*4 + b.Out)
	})
	return x
}

// tilings are all tables of that many rows and columns, without texts.
func tilings(rows, cols int) []impl.Table {
	var all []impl.Table
	var lay func(cells []impl.Cell)
	lay = func(cells []impl.Cell) {
		t := impl.Table{Rows: rows, Cols: cols, Cells: cells}
		row, col := firstFree(t)
		if row == rows {
			all = append(all, t)
			return
		}
		for down := 1; row+down <= rows; down++ {
			for right := 1; col+right <= cols; right++ {
				if fits(t, area{row, col, down, right}) {
					lay(append(slices.Clone(cells), impl.Cell{Row: row, Col: col, Down: down, Right: right}))
				}
			}
		}
	}
	lay(nil)
	return all
}

// firstFree is the first square that is of no cell; the row behind the last, if there is none.
func firstFree(t impl.Table) (int, int) {
	for row := range t.Rows {
		for col := range t.Cols {
			if cellOf(t, row, col) < 0 {
				return row, col
			}
		}
	}
	return t.Rows, 0
}

// fits says whether a cell that has just these squares lies over no other.
func fits(t impl.Table, a area) bool {
	return !slices.ContainsFunc(t.Cells, func(c impl.Cell) bool { return a.meets(rectOf(c)) })
}

// drawn is a table of that many rows and columns, whose cells are drawn by numbers that follow from seed.
func drawn(rows, cols int, seed uint32) impl.Table {
	next := func(n int) int {
		seed = seed*1664525 + 1013904223
		return int(seed>>16) % n
	}
	t := impl.Table{Rows: rows, Cols: cols}
	for row, col := firstFree(t); row < rows; row, col = firstFree(t) {
		a := area{row, col, 1 + next(rows-row), 1 + next(cols-col)}
		for !fits(t, a) { // one square always does
			a.down, a.right = max(1, a.down-next(2)), max(1, a.right-1)
		}
		t.Cells = append(t.Cells, impl.Cell{Row: a.row, Col: a.col, Down: a.down, Right: a.right})
	}
	return t
}

// lettered is a table with a sign of its own in each cell, of all names in turn.
func lettered(t impl.Table) impl.Table {
	names := allNames()
	t.Cells = slices.Clone(t.Cells)
	for i := range t.Cells {
		s := names[i%len(names)]
		s.Byte = goodBytes[i]
		t.Cells[i].Text = []impl.Sign{s}
	}
	return t
}

// mixed is a table in which each other cell has one of these texts, the rest up to three signs.
func mixed(t impl.Table, texts [][]impl.Sign, turn int) impl.Table {
	t.Cells = slices.Clone(t.Cells)
	for i := range t.Cells {
		t.Cells[i].Text = slices.Clone(texts[(turn*7+i*11)%len(texts)])
		if (turn+i)%2 == 0 {
			t.Cells[i].Text = read("xyz"[:(turn+i)/2%4])
		}
	}
	return t
}

// smallTables are all tilings of up to ten squares.
func smallTables() []impl.Table {
	var all []impl.Table
	for rows := 1; rows <= impl.TableMax; rows++ {
		for cols := 1; cols <= impl.TableMax; cols++ {
			if rows*cols <= 10 {
				all = append(all, tilings(rows, cols)...)
			}
		}
	}
	return all
}

// greatTables are tables of more squares, up to the greatest.
func greatTables() []impl.Table {
	var all []impl.Table
	for rows := 3; rows <= impl.TableMax; rows++ {
		for cols := 3; cols <= impl.TableMax; cols++ {
			for seed := range 40 {
				all = append(all, drawn(rows, cols, uint32(seed*1000+rows*10+cols)))
			}
			all = append(all, impl.TableNew(rows, cols))
		}
	}
	return all
}

// okTables are small and great tables, each with a sign a cell, and with texts of all sizes.
func okTables() []impl.Table {
	texts := append(longTexts(), nil, []impl.Sign{}, nil, read("+1a-2b c"), read("+3-1d"), read("  "))
	var all []impl.Table
	for i, t := range append(smallTables(), greatTables()...) {
		all = append(all, lettered(t), mixed(t, texts, i))
	}
	return all
}

// noPlaces are numbers that are no place, of n places.
func noPlaces(n int) []int {
	return []int{-1, -2, -n, -n - 1, n, n + 1, n + 2, 8, 63, 64, 255, 256, 257, 1 << 31, 1<<32 + 1, -1 << 31, math.MaxInt, math.MaxInt - 1, math.MinInt, math.MinInt + 1}
}

// noSizes are numbers of rows and columns that no table has.
func noSizes() []int {
	return []int{0, -1, -5, impl.TableMax + 1, impl.TableMax + 2, 100, 1 << 32, 1<<32 + 1, math.MaxInt, math.MaxInt - 1, math.MinInt, math.MinInt + 1}
}

// wrongTables are tables that are not ok, each by one fault alone.
func wrongTables() []impl.Table {
	all := []impl.Table{{}, {Rows: 1}, {Cols: 1}, {Rows: 1, Cols: 1}, {Rows: 5, Cols: 5}, {Cells: readTable(1, 1, "0011:a").Cells}}
	good := readTable(3, 3, "0012:a|0221:b|1011:c|1111:d|2013:e")
	for _, n := range noSizes() {
		all = append(all, impl.Table{Rows: n, Cols: 3, Cells: good.Cells}, impl.Table{Rows: 3, Cols: n, Cells: good.Cells}, impl.Table{Rows: n, Cols: n, Cells: good.Cells}, impl.Table{Rows: n, Cols: n})
	}
	for _, n := range []int{1, 2, 4, 5} { // sizes that a table may have, but not with these cells
		all = append(all, impl.Table{Rows: n, Cols: 3, Cells: good.Cells}, impl.Table{Rows: 3, Cols: n, Cells: good.Cells})
	}
	all = append(all, sizesPastTheMost()...)
	for i := range good.Cells {
		all = append(all, wrongCells(good, i)...)
	}
	return all
}

// sizesPastTheMost are tables that are ok but for one row, or column, more than TableMax.
func sizesPastTheMost() []impl.Table {
	var all []impl.Table
	for n := 1; n <= impl.TableMax+1; n++ {
		tall := impl.Table{Rows: impl.TableMax + 1, Cols: n}
		wide := impl.Table{Rows: n, Cols: impl.TableMax + 1}
		one := impl.Cell{Down: impl.TableMax + 1, Right: n}
		all = append(all, impl.Table{Rows: tall.Rows, Cols: n, Cells: []impl.Cell{one}})
		one.Down, one.Right = one.Right, one.Down
		all = append(all, impl.Table{Rows: n, Cols: wide.Cols, Cells: []impl.Cell{one}}, ones(tall), ones(wide))
	}
	return all
}

// ones is a table of cells of one square each.
func ones(t impl.Table) impl.Table {
	t.Cells = nil
	for row := range t.Rows {
		for col := range t.Cols {
			t.Cells = append(t.Cells, impl.Cell{Row: row, Col: col, Down: 1, Right: 1})
		}
	}
	return t
}

// wrongCells are tables in which the cell i of a good one, of five, is wrong.
func wrongCells(good impl.Table, i int) []impl.Table {
	var all []impl.Table
	change := func(f func(c *impl.Cell)) {
		bad := good
		bad.Cells = slices.Clone(good.Cells)
		f(&bad.Cells[i])
		if !sameCell(bad.Cells[i], good.Cells[i]) {
			all = append(all, bad)
		}
	}
	for _, n := range append(noPlaces(good.Rows), 0) {
		change(func(c *impl.Cell) { c.Down = n })
		change(func(c *impl.Cell) { c.Right = n })
		change(func(c *impl.Cell) { c.Down, c.Right = n, n })
		if n != 0 {
			change(func(c *impl.Cell) { c.Row = n })
			change(func(c *impl.Cell) { c.Col = n })
			change(func(c *impl.Cell) { c.Row, c.Down = n, -n }) // sums that wrap round, or are 0
			change(func(c *impl.Cell) { c.Row, c.Down = n, 1-n })
			change(func(c *impl.Cell) { c.Col, c.Right = n, 1-n })
		}
	}
	change(func(c *impl.Cell) { c.Down++ })
	change(func(c *impl.Cell) { c.Right++ })
	change(func(c *impl.Cell) { c.Row++ })
	change(func(c *impl.Cell) { c.Row-- })
	change(func(c *impl.Cell) { c.Col++ })
	change(func(c *impl.Cell) { c.Col-- })
	for _, text := range [][]impl.Sign{read("A"), slices.Repeat(read("a"), impl.TextMax+1), read("+1-1a"), read("+4a"), read("ok-9b"), {{Byte: 'a', In: -1}}, {{}}} {
		change(func(c *impl.Cell) { c.Text = text })
	}
	return append(all, wrongLists(good, i)...)
}

// wrongLists are tables in which a cell is left out, comes twice, or stands elsewhere.
func wrongLists(good impl.Table, i int) []impl.Table {
	var all []impl.Table
	with := func(cells []impl.Cell) {
		all = append(all, impl.Table{Rows: good.Rows, Cols: good.Cols, Cells: cells})
	}
	rest := slices.Delete(slices.Clone(good.Cells), i, i+1)
	with(rest)
	for at := range len(good.Cells) {
		with(slices.Insert(slices.Clone(good.Cells), at, good.Cells[i]))
		if at != i {
			with(slices.Insert(slices.Clone(rest), at, good.Cells[i]))
		}
	}
	for _, none := range []area{{0, 0, 0, 0}, {1, 1, 0, 1}, {1, 1, 1, 0}, {3, 0, 1, 1}, {0, 3, 1, 1}, {3, 3, 0, 0}, {1, 1, -1, -1}, {2, 0, 1, 1}} {
		with(slices.Insert(slices.Clone(good.Cells), i, impl.Cell{Row: none.row, Col: none.col, Down: none.down, Right: none.right}))
	}
	with(slices.Repeat(good.Cells, 1000))
	return all
}

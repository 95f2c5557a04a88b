package tests

import (
	"slices"
	"testing"

	"loop.example/limner/impl"
)

// changed are all tables that come of an ok one by one change.
func changed(x impl.Table) []impl.Table {
	all := []impl.Table{impl.TableTurn(x)}
	add := func(y impl.Table, ok bool) {
		if ok {
			all = append(all, y)
		}
	}
	for at := range impl.TableMax + 1 {
		add(impl.TableRowIn(x, at))
		add(impl.TableRowOut(x, at))
		add(impl.TableColIn(x, at))
		add(impl.TableColOut(x, at))
	}
	for _, r := range areas(x) {
		add(impl.TableMerge(x, r.row, r.col, r.down, r.right))
	}
	for i := range x.Cells {
		add(impl.TableSplit(x, i))
	}
	return all
}

// ofOneCell: each square is of just one cell, cells have as many squares as the table, and stand in order.
func ofOneCell(t *testing.T, x impl.Table) {
	t.Helper()
	squares := 0
	for i, c := range x.Cells {
		squares += c.Down * c.Right
		if i > 0 && (x.Cells[i-1].Row > c.Row || x.Cells[i-1].Row == c.Row && x.Cells[i-1].Col >= c.Col) {
			t.Fatal("not in order", x)
		}
	}
	if squares != x.Rows*x.Cols || squares == 0 {
		t.Fatal("squares", squares, x)
	}
	for row := range x.Rows {
		for col := range x.Cols {
			n := 0
			for _, c := range x.Cells {
				if rectOf(c).has(row, col) {
					n++
				}
			}
			if n != 1 {
				t.Fatal("cells of a square", n, row, col, x)
			}
		}
	}
}

func TestPromise15EachSquareIsOfACell(t *testing.T) {
	for _, x := range okTables() {
		ofOneCell(t, x)
		for _, y := range changed(x) {
			ofOneCell(t, y)
			if !impl.TableOk(y) {
				t.Fatal(x, y)
			}
		}
	}
}

func TestPromise16NewTables(t *testing.T) {
	for rows := 1; rows <= impl.TableMax; rows++ {
		for cols := 1; cols <= impl.TableMax; cols++ {
			x := impl.TableNew(rows, cols)
			if !impl.TableOk(x) || len(x.Cells) != rows*cols || x.Rows != rows || x.Cols != cols || len(written(x)) != 0 {
				t.Fatal(rows, cols, x)
			}
			for row := range rows {
				for col := range cols {
					if rectOf(x.Cells[row*cols+col]) != (area{row, col, 1, 1}) {
						t.Fatal(rows, cols, x)
					}
				}
			}
			sameTable(t, impl.TableTurn(x), impl.TableNew(cols, rows), rows, cols)
		}
	}
}

func TestPromise17TableAt(t *testing.T) {
	for _, x := range okTables() {
		for row := -2; row <= x.Rows+2; row++ {
			for col := -2; col <= x.Cols+2; col++ {
				if got := impl.TableAt(x, row, col); got != cellOf(x, row, col) {
					t.Fatal(x, row, col, got)
				}
			}
		}
	}
}

func TestPromise18Turned(t *testing.T) {
	for _, x := range okTables() {
		y := impl.TableTurn(x)
		sameTable(t, impl.TableTurn(y), x, "turned twice")
		if y.Rows != x.Cols || y.Cols != x.Rows || len(y.Cells) != len(x.Cells) || !impl.TableOk(y) {
			t.Fatal(x, y)
		}
		for _, c := range x.Cells {
			d := y.Cells[impl.TableAt(y, c.Col, c.Row)]
			if rectOf(d) != (area{c.Col, c.Row, c.Right, c.Down}) {
				t.Fatal(x, y)
			}
			same(t, d.Text, c.Text, x, y)
		}
	}
}

func TestPromise19RowInAndOut(t *testing.T) {
	for _, x := range okTables() {
		for at := range x.Rows + 1 {
			if y, ok := impl.TableRowIn(x, at); ok {
				sameTable(t, must(t, x, at)(impl.TableRowOut(y, at)), x, at)
			} else if x.Rows < impl.TableMax {
				t.Fatal(x, at)
			}
		}
	}
}

// moved: each square that stays is where to says, with its text, and two of them are of one cell just if they were.
func moved(t *testing.T, x, y impl.Table, to func(row, col int) (int, int, bool)) {
	t.Helper()
	now := map[int]int{}
	was := map[int]int{}
	for row := range x.Rows {
		for col := range x.Cols {
			r, c, stays := to(row, col)
			if !stays {
				continue
			}
			old, new := cellOf(x, row, col), cellOf(y, r, c)
			if new < 0 {
				t.Fatal("no cell", x, y, row, col)
			}
			same(t, y.Cells[new].Text, x.Cells[old].Text, "text", x, y, row, col)
			if got, ok := now[old]; ok && got != new {
				t.Fatal("a cell is two", x, y, row, col)
			}
			if got, ok := was[new]; ok && got != old {
				t.Fatal("two cells are one", x, y, row, col)
			}
			now[old], was[new] = new, old
		}
	}
}

// rowBehind is where squares are when a row is put in.
func rowBehind(at int) func(row, col int) (int, int, bool) {
	return func(row, col int) (int, int, bool) {
		if row >= at {
			row++
		}
		return row, col, true
	}
}

func TestPromise20RowInMoves(t *testing.T) {
	for _, x := range okTables() {
		for at := range x.Rows + 1 {
			y, ok := impl.TableRowIn(x, at)
			if ok != (x.Rows < impl.TableMax) {
				t.Fatal(x, at, ok)
			}
			if !ok {
				sameTable(t, y, impl.Table{}, x, at)
				continue
			}
			if y.Rows != x.Rows+1 || y.Cols != x.Cols {
				t.Fatal(x, at, y)
			}
			moved(t, x, y, rowBehind(at))
		}
	}
}

func TestPromise21RowOutMoves(t *testing.T) {
	for _, x := range okTables() {
		for at := range x.Rows {
			y, ok := impl.TableRowOut(x, at)
			if ok != (x.Rows > 1) {
				t.Fatal(x, at, ok)
			}
			if !ok {
				sameTable(t, y, impl.Table{}, x, at)
				continue
			}
			if y.Rows != x.Rows-1 || y.Cols != x.Cols {
				t.Fatal(x, at, y)
			}
			moved(t, x, y, func(row, col int) (int, int, bool) {
				if row > at {
					return row - 1, col, true
				}
				return row, col, row < at
			})
		}
	}
}

func TestPromise22ColumnsAreRowsTurned(t *testing.T) {
	for _, x := range okTables() {
		turned := impl.TableTurn(x)
		for at := -1; at <= impl.TableMax+1; at++ {
			in, ok := impl.TableRowIn(turned, at)
			got, yes := impl.TableColIn(x, at)
			sameTable(t, got, impl.TableTurn(in), "in", x, at)
			out, can := impl.TableRowOut(turned, at)
			less, may := impl.TableColOut(x, at)
			sameTable(t, less, impl.TableTurn(out), "out", x, at)
			if ok != yes || can != may {
				t.Fatal(x, at, ok, yes, can, may)
			}
			if ok != (at >= 0 && at <= x.Cols && x.Cols < impl.TableMax) || can != (at >= 0 && at < x.Cols && x.Cols > 1) {
				t.Fatal(x, at, ok, can)
			}
		}
	}
}

func TestPromise23ColumnInAndOut(t *testing.T) {
	for _, x := range okTables() {
		for at := range x.Cols + 1 {
			if y, ok := impl.TableColIn(x, at); ok {
				sameTable(t, must(t, x, at)(impl.TableColOut(y, at)), x, at)
			} else if x.Cols < impl.TableMax {
				t.Fatal(x, at)
			}
		}
	}
}

// inside is the cells that a rectangle holds, and whether it cuts one.
func inside(x impl.Table, r area) (cells []impl.Cell, cut bool) {
	for _, c := range x.Cells {
		if r.holds(rectOf(c)) {
			cells = append(cells, c)
		} else if r.meets(rectOf(c)) {
			cut = true
		}
	}
	return cells, cut
}

func TestPromise24MergedSquares(t *testing.T) {
	for _, x := range okTables() {
		for _, r := range areas(x) {
			y, ok := impl.TableMerge(x, r.row, r.col, r.down, r.right)
			cells, cut := inside(x, r)
			fit := impl.TextOk(written(impl.Table{Cells: cells}))
			if ok != (!cut && len(cells) > 1 && fit) {
				t.Fatal(x, r, ok)
			}
			if !ok {
				sameTable(t, y, impl.Table{}, x, r)
				continue
			}
			if rectOf(y.Cells[impl.TableAt(y, r.row, r.col)]) != r || len(y.Cells) != len(x.Cells)-len(cells)+1 || y.Rows != x.Rows || y.Cols != x.Cols {
				t.Fatal(x, r, y)
			}
			moved(t, x, y, func(row, col int) (int, int, bool) { return row, col, !r.has(row, col) })
		}
	}
}

func TestPromise25MergedText(t *testing.T) {
	for _, x := range okTables() {
		for _, r := range areas(x) {
			if y, ok := impl.TableMerge(x, r.row, r.col, r.down, r.right); ok {
				cells, _ := inside(x, r)
				same(t, textOf(y, r.row, r.col), written(impl.Table{Cells: cells}), x, r)
			}
		}
	}
}

func TestPromise26SplitCells(t *testing.T) {
	for _, x := range okTables() {
		for i, c := range x.Cells {
			y, ok := impl.TableSplit(x, i)
			if ok != (c.Down*c.Right > 1) {
				t.Fatal(x, i, ok)
			}
			if !ok {
				sameTable(t, y, impl.Table{}, x, i)
				continue
			}
			for row := range c.Down {
				for col := range c.Right {
					d := y.Cells[impl.TableAt(y, c.Row+row, c.Col+col)]
					var want []impl.Sign
					if row == 0 && col == 0 {
						want = c.Text
					}
					same(t, d.Text, want, x, i)
					if rectOf(d) != (area{c.Row + row, c.Col + col, 1, 1}) {
						t.Fatal(x, i, y)
					}
				}
			}
			moved(t, x, y, func(row, col int) (int, int, bool) { return row, col, !rectOf(c).has(row, col) })
		}
	}
}

func TestPromise27SplitAndMerged(t *testing.T) {
	for _, x := range okTables() {
		for i, c := range x.Cells {
			if y, ok := impl.TableSplit(x, i); ok {
				sameTable(t, must(t, x, i)(impl.TableMerge(y, c.Row, c.Col, c.Down, c.Right)), x, i)
			} else if c.Down*c.Right > 1 {
				t.Fatal(x, i)
			}
		}
	}
}

func TestPromise28NothingIsLost(t *testing.T) {
	for _, x := range okTables() {
		all := sorted(written(x))
		same(t, sorted(written(impl.TableTurn(x))), all, "turn", x)
		for at := range x.Rows + 1 {
			if y, ok := impl.TableRowIn(x, at); ok {
				same(t, sorted(written(y)), all, "row in", x, at)
			}
			if y, ok := impl.TableRowOut(x, at); ok {
				var left []impl.Sign
				for _, c := range x.Cells {
					if c.Row != at || c.Down > 1 {
						left = append(left, c.Text...)
					}
				}
				same(t, sorted(written(y)), sorted(left), "row out", x, at)
			}
		}
		for i := range x.Cells {
			if y, ok := impl.TableSplit(x, i); ok {
				same(t, sorted(written(y)), all, "split", x, i)
			}
		}
	}
}

func TestPromise29RowAndColumn(t *testing.T) {
	for _, x := range okTables() {
		if x.Rows == impl.TableMax || x.Cols == impl.TableMax {
			continue
		}
		for row := range x.Rows + 1 {
			for col := range x.Cols + 1 {
				one := must(t, x)(impl.TableColIn(must(t, x)(impl.TableRowIn(x, row)), col))
				two := must(t, x)(impl.TableRowIn(must(t, x)(impl.TableColIn(x, col)), row))
				sameTable(t, one, two, x, row, col)
			}
		}
	}
}

func TestPromise30MergeAndTurn(t *testing.T) {
	for _, x := range okTables() {
		turned := impl.TableTurn(x)
		for _, r := range areas(x) {
			a, ok := impl.TableMerge(x, r.row, r.col, r.down, r.right)
			b, yes := impl.TableMerge(turned, r.col, r.row, r.right, r.down)
			if ok != yes {
				t.Fatal(x, r, ok, yes)
			}
			if !ok {
				continue
			}
			a = impl.TableTurn(a)
			at := impl.TableAt(a, r.col, r.row)
			same(t, sorted(a.Cells[at].Text), sorted(b.Cells[at].Text), x, r)
			a.Cells[at].Text = b.Cells[at].Text
			sameTable(t, a, b, x, r)
		}
	}
}

func TestPromise31TwoRowsIn(t *testing.T) {
	for _, x := range okTables() {
		if x.Rows+2 > impl.TableMax {
			continue
		}
		for a := range x.Rows + 1 {
			for b := a; b <= x.Rows; b++ {
				one := must(t, x)(impl.TableRowIn(must(t, x)(impl.TableRowIn(x, a)), b+1))
				two := must(t, x)(impl.TableRowIn(must(t, x)(impl.TableRowIn(x, b)), a))
				sameTable(t, one, two, x, a, b)
			}
		}
	}
}

func TestPromise32TwoRowsOut(t *testing.T) {
	for _, x := range okTables() {
		if x.Rows < 3 {
			continue
		}
		for a := range x.Rows {
			for b := a + 1; b < x.Rows; b++ {
				one := must(t, x)(impl.TableRowOut(must(t, x)(impl.TableRowOut(x, a)), b-1))
				two := must(t, x)(impl.TableRowOut(must(t, x)(impl.TableRowOut(x, b)), a))
				sameTable(t, one, two, x, a, b)
			}
		}
	}
}

func TestPromise33AllSquaresOneCell(t *testing.T) {
	for _, x := range okTables() {
		y, ok := impl.TableMerge(x, 0, 0, x.Rows, x.Cols)
		if ok != (len(x.Cells) >= 2 && len(written(x)) <= impl.TextMax) {
			t.Fatal(x, ok)
		}
		want := impl.Table{}
		if ok {
			want = impl.Table{Rows: x.Rows, Cols: x.Cols, Cells: []impl.Cell{{Down: x.Rows, Right: x.Cols, Text: written(x)}}}
		}
		sameTable(t, y, want, x)
	}
}

func TestPromise34ColumnInMoves(t *testing.T) {
	for _, x := range okTables() {
		for at := range x.Cols + 1 {
			y, ok := impl.TableColIn(x, at)
			if ok != (x.Cols < impl.TableMax) {
				t.Fatal(x, at, ok)
			}
			if !ok {
				sameTable(t, y, impl.Table{}, x, at)
				continue
			}
			if y.Rows != x.Rows || y.Cols != x.Cols+1 {
				t.Fatal(x, at, y)
			}
			moved(t, x, y, func(row, col int) (int, int, bool) {
				col, row, _ = rowBehind(at)(col, row)
				return row, col, true
			})
		}
	}
}

func TestPromise35CellsOfARowPutIn(t *testing.T) {
	for _, x := range okTables() {
		for at := range x.Rows + 1 {
			y, ok := impl.TableRowIn(x, at)
			if !ok {
				continue
			}
			own := 0
			for col := range x.Cols {
				d := y.Cells[impl.TableAt(y, at, col)]
				i := slices.IndexFunc(x.Cells, func(c impl.Cell) bool {
					return c.Row < at && c.Row+c.Down > at && c.Col <= col && col < c.Col+c.Right
				})
				if i >= 0 {
					c := x.Cells[i]
					if rectOf(d) != (area{c.Row, c.Col, c.Down + 1, c.Right}) {
						t.Fatal(x, at, col, y)
					}
					same(t, d.Text, c.Text, x, at, col)
					continue
				}
				own++
				if rectOf(d) != (area{at, col, 1, 1}) || len(d.Text) != 0 {
					t.Fatal(x, at, col, y)
				}
			}
			if len(y.Cells) != len(x.Cells)+own {
				t.Fatal(x, at, y)
			}
		}
	}
}

func TestPromise36MergedOnce(t *testing.T) {
	for _, x := range okTables() {
		for _, r := range areas(x) {
			y, ok := impl.TableMerge(x, r.row, r.col, r.down, r.right)
			if !ok {
				continue
			}
			refused(t, x, r)(impl.TableMerge(y, r.row, r.col, r.down, r.right))
			cell := impl.TableAt(y, r.row, r.col)
			z := must(t, x, r)(impl.TableSplit(y, cell))
			if len(z.Cells) != len(y.Cells)+r.down*r.right-1 {
				t.Fatal(x, r, z)
			}
			for _, c := range z.Cells {
				if r.meets(rectOf(c)) && (c.Down != 1 || c.Right != 1) {
					t.Fatal(x, r, z)
				}
			}
			same(t, textOf(z, r.row, r.col), textOf(y, r.row, r.col), x, r)
		}
	}
}

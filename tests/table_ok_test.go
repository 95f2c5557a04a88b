package tests

import (
	"math"
	"slices"
	"testing"

	"loop.example/limner/impl"
)

func TestLimitsOfTables(t *testing.T) {
	if impl.TableMax != 5 {
		t.Fatal(impl.TableMax)
	}
}

func TestTableOkOrdinary(t *testing.T) {
	for _, x := range okTables() {
		if !impl.TableOk(x) {
			t.Fatal(x)
		}
	}
}

func TestTableOkSizes(t *testing.T) {
	for rows := -2; rows <= impl.TableMax+3; rows++ {
		for cols := -2; cols <= impl.TableMax+3; cols++ {
			want := rows >= 1 && cols >= 1 && rows <= 5 && cols <= 5
			x := impl.Table{Rows: rows, Cols: cols, Cells: []impl.Cell{{Down: rows, Right: cols, Text: read("a")}}}
			if impl.TableOk(x) != want || impl.TableOk(ones(impl.Table{Rows: max(rows, 0), Cols: max(cols, 0)})) != want {
				t.Fatal(rows, cols)
			}
		}
	}
}

func TestTableOkTextSizes(t *testing.T) {
	for size := range 3 * impl.TextMax {
		x := readTable(2, 2, "0011:a|0121:b|1011:c")
		x.Cells[size%3].Text = slices.Repeat(read("+1q"), size)
		if impl.TableOk(x) != (size <= impl.TextMax) {
			t.Fatal(size)
		}
	}
}

// Of all lists of two cells in a table of two squares just one tiles it.
func TestTableOkAllPairs(t *testing.T) {
	var cells []impl.Cell
	for code := range 4 * 4 * 4 * 4 {
		cells = append(cells, impl.Cell{Row: code%4 - 1, Col: code/4%4 - 1, Down: code/16%4 - 1, Right: code / 64 % 4})
	}
	ok := 0
	for _, a := range cells {
		for _, b := range cells {
			x := impl.Table{Rows: 1, Cols: 2, Cells: []impl.Cell{a, b}}
			want := rectOf(a) == area{0, 0, 1, 1} && rectOf(b) == area{0, 1, 1, 1}
			if impl.TableOk(x) != want {
				t.Fatal(x)
			}
			if want {
				ok++
			}
		}
	}
	if ok != 1 {
		t.Fatal(ok)
	}
}

func TestTableOkWrong(t *testing.T) {
	for _, x := range wrongTables() {
		if impl.TableOk(x) {
			t.Fatal(x)
		}
	}
}

// A table that is not ok has one answer everywhere, whatever else is given.
func TestWrongTablesAreNothing(t *testing.T) {
	for _, x := range wrongTables() {
		sameTable(t, impl.TableTurn(x), impl.Table{}, "turn", x)
		for _, at := range []int{0, 1, 2, 3, -1, math.MaxInt, math.MinInt} {
			if got := impl.TableAt(x, at, 0); got != -1 {
				t.Fatal(x, at, got)
			}
			if got := impl.TableAt(x, 0, at); got != -1 {
				t.Fatal(x, at, got)
			}
			refused(t, "row in", x, at)(impl.TableRowIn(x, at))
			refused(t, "row out", x, at)(impl.TableRowOut(x, at))
			refused(t, "col in", x, at)(impl.TableColIn(x, at))
			refused(t, "col out", x, at)(impl.TableColOut(x, at))
			refused(t, "split", x, at)(impl.TableSplit(x, at))
			for _, size := range []int{1, 2, 3, 0, -1, math.MaxInt, math.MinInt} {
				refused(t, "merge", x, at, size)(impl.TableMerge(x, at, 0, size, size))
				refused(t, "merge", x, at, size)(impl.TableMerge(x, 0, at, 2, size))
			}
		}
	}
}

func TestTableNewSizes(t *testing.T) {
	for rows := -2; rows <= impl.TableMax+3; rows++ {
		for cols := -2; cols <= impl.TableMax+3; cols++ {
			want := impl.Table{}
			if rows >= 1 && cols >= 1 && rows <= 5 && cols <= 5 {
				want = ones(impl.Table{Rows: rows, Cols: cols})
			}
			sameTable(t, impl.TableNew(rows, cols), want, rows, cols)
		}
	}
	for _, n := range noSizes() {
		sameTable(t, impl.TableNew(n, 1), impl.Table{}, n)
		sameTable(t, impl.TableNew(1, n), impl.Table{}, n)
		sameTable(t, impl.TableNew(n, n), impl.Table{}, n)
	}
}

// Places that are none have one answer, in tables of one row or column, of two and of the most.
func TestPlacesThatAreNone(t *testing.T) {
	for _, x := range []impl.Table{lettered(impl.TableNew(1, 1)), lettered(impl.TableNew(1, 5)), lettered(impl.TableNew(5, 1)), lettered(impl.TableNew(5, 5)), readTable(2, 3, "0021:a|0112:b|1111:c|1211:d")} {
		for _, row := range noPlaces(x.Rows) {
			if got := impl.TableAt(x, row, 0); got != -1 {
				t.Fatal(x, row, got)
			}
			refused(t, x, row)(impl.TableRowOut(x, row))
			if row != x.Rows {
				refused(t, x, row)(impl.TableRowIn(x, row))
			}
		}
		for _, col := range noPlaces(x.Cols) {
			if got := impl.TableAt(x, 0, col); got != -1 {
				t.Fatal(x, col, got)
			}
			refused(t, x, col)(impl.TableColOut(x, col))
			if col != x.Cols {
				refused(t, x, col)(impl.TableColIn(x, col))
			}
		}
		for _, cell := range noPlaces(len(x.Cells)) {
			if cell < 0 || cell >= len(x.Cells) {
				refused(t, x, cell)(impl.TableSplit(x, cell))
			}
		}
		if impl.TableAt(x, -1, -1) != -1 || impl.TableAt(x, x.Rows, x.Cols) != -1 {
			t.Fatal(x)
		}
	}
}

// Rectangles that are not of squares of the table, or of no squares.
func TestRectanglesThatAreNone(t *testing.T) {
	for _, x := range []impl.Table{lettered(impl.TableNew(1, 2)), lettered(impl.TableNew(2, 2)), lettered(impl.TableNew(5, 5)), readTable(3, 3, "0012:a|0221:b|1011:c|1111:d|2013:e")} {
		odd := append(noPlaces(x.Rows), 0, 1, 2, x.Rows-1, x.Cols-1)
		for _, a := range odd {
			for _, b := range odd {
				for _, r := range []area{{a, 0, b, 1}, {a, 0, b, x.Cols}, {0, a, 1, b}, {0, a, x.Rows, b}, {a, b, 2, 2}, {0, 0, a, b}, {a, a, b, b}, {b, a, a, b}} {
					if within(r, x) {
						continue
					}
					refused(t, x, r)(impl.TableMerge(x, r.row, r.col, r.down, r.right))
				}
			}
		}
	}
}

// within says whether a rectangle is one of squares of the table.
func within(r area, x impl.Table) bool {
	return slices.Contains(areas(x), r)
}

// tall is a table of five rows with tall cells: b is of the rows 1 to 3, d of 0 and 1, f of 3 and 4.
const tall = "0011:a|0121:d|0211:c|1031:b|1211:e|2112:g|3121:f|3211:h|4011:i|4211:j"

func TestRowsOutByHand(t *testing.T) {
	x := readTable(5, 3, tall)
	for at, want := range []string{
		"0031:b|0111:d|0211:e|1112:g|2121:f|2211:h|3011:i|3211:j",        // the only row of a and c, the first of d
		"0011:a|0111:d|0211:c|1021:b|1112:g|2121:f|2211:h|3011:i|3211:j", // the first of b, the last of d, the only one of e
		"0011:a|0121:d|0211:c|1021:b|1211:e|2121:f|2211:h|3011:i|3211:j", // one between of b, the only one of g
		"0011:a|0121:d|0211:c|1021:b|1211:e|2112:g|3011:i|3111:f|3211:j", // the last of b, the first of f
		"0011:a|0121:d|0211:c|1031:b|1211:e|2112:g|3111:f|3211:h",        // the last of f, the only one of i and j
	} {
		sameTable(t, must(t, at)(impl.TableRowOut(x, at)), readTable(4, 3, want), at)
	}
}

func TestRowsInByHand(t *testing.T) {
	x := readTable(4, 3, "0011:a|0121:d|0211:c|1021:b|1211:e|2112:g|3011:i|3112:f")
	for at, want := range []string{
		"0011:|0111:|0211:|1011:a|1121:d|1211:c|2021:b|2211:e|3112:g|4011:i|4112:f",
		"0011:a|0131:d|0211:c|1011:|1211:|2021:b|2211:e|3112:g|4011:i|4112:f", // through d, and at the first row of b
		"0011:a|0121:d|0211:c|1031:b|1211:e|2111:|2211:|3112:g|4011:i|4112:f", // behind the last row of d, and through b
		"0011:a|0121:d|0211:c|1021:b|1211:e|2112:g|3011:|3111:|3211:|4011:i|4112:f",
		"0011:a|0121:d|0211:c|1021:b|1211:e|2112:g|3011:i|3112:f|4011:|4111:|4211:",
	} {
		sameTable(t, must(t, at)(impl.TableRowIn(x, at)), readTable(5, 3, want), at)
	}
}

func TestColsByHand(t *testing.T) {
	x := readTable(2, 4, "0013:ab|0321:c|1011:d|1112:+1e")
	for at, want := range []string{
		"0011:|0113:ab|0421:c|1011:|1111:d|1212:+1e",
		"0014:ab|0421:c|1011:d|1111:|1212:+1e",
		"0014:ab|0421:c|1011:d|1113:+1e",
		"0013:ab|0311:|0421:c|1011:d|1112:+1e|1311:",
		"0013:ab|0321:c|0411:|1011:d|1112:+1e|1411:",
	} {
		sameTable(t, must(t, at)(impl.TableColIn(x, at)), readTable(2, 5, want), at)
	}
	for at, want := range []string{
		"0012:ab|0221:c|1012:+1e",
		"0012:ab|0221:c|1011:d|1111:+1e",
		"0012:ab|0221:c|1011:d|1111:+1e",
		"0013:ab|1011:d|1112:+1e",
	} {
		sameTable(t, must(t, at)(impl.TableColOut(x, at)), readTable(2, 3, want), at)
	}
}

// The most rows and columns are met, one more is refused; so is it to take the only one out.
func TestRowsAndColsAtTheLimits(t *testing.T) {
	x, y := lettered(impl.TableNew(1, 1)), lettered(impl.TableNew(1, 1))
	for n := 1; n <= impl.TableMax; n++ {
		if x.Rows != n || x.Cols != 1 || y.Rows != 1 || y.Cols != n {
			t.Fatal(n, x, y)
		}
		for at := range n + 1 {
			if n < impl.TableMax {
				must(t)(impl.TableRowIn(x, at))
				must(t)(impl.TableColIn(y, at))
			} else {
				refused(t)(impl.TableRowIn(x, at))
				refused(t)(impl.TableColIn(y, at))
			}
		}
		refused(t)(impl.TableColOut(x, 0))
		refused(t)(impl.TableRowOut(y, 0))
		if n < impl.TableMax {
			x, y = must(t)(impl.TableRowIn(x, n)), must(t)(impl.TableColIn(y, n))
		}
	}
	one := readTable(1, 1, "0011:a")
	refused(t)(impl.TableRowOut(one, 0))
	refused(t)(impl.TableColOut(one, 0))
	refused(t)(impl.TableMerge(one, 0, 0, 1, 1))
	refused(t)(impl.TableSplit(one, 0))
	sameTable(t, impl.TableTurn(one), one)
}

// A rectangle that a cell goes over on one side: above, on the left, on the right, below.
func TestMergeCutsNoCell(t *testing.T) {
	x := readTable(4, 4, "0014:a|1012:b|1212:c|2013:d|2321:e|3013:f")
	for _, r := range []area{{1, 1, 1, 2}, {0, 0, 1, 3}, {0, 1, 1, 3}, {0, 0, 2, 3}, {1, 0, 2, 2}, {1, 0, 2, 3}, {1, 1, 2, 3}, {2, 2, 1, 2}, {2, 0, 1, 4}, {3, 0, 1, 4}, {0, 0, 3, 4}, {3, 2, 1, 2}, {2, 1, 2, 3}, {1, 0, 3, 3}} {
		refused(t, r)(impl.TableMerge(x, r.row, r.col, r.down, r.right))
	}
	for r, want := range map[area]string{
		{0, 0, 2, 4}: "0024:abc|2013:d|2321:e|3013:f",
		{1, 0, 1, 4}: "0014:a|1014:bc|2013:d|2321:e|3013:f",
		{2, 0, 2, 3}: "0014:a|1012:b|1212:c|2023:df|2321:e",
		{2, 0, 2, 4}: "0014:a|1012:b|1212:c|2024:def",
		{1, 0, 3, 4}: "0014:a|1034:bcdef",
		{0, 0, 4, 4}: "0044:abcdef",
	} {
		sameTable(t, must(t, r)(impl.TableMerge(x, r.row, r.col, r.down, r.right)), readTable(4, 4, want), r)
	}
}

// Texts are joined in the order of the cells, as they are, suggestions too; empty ones are nothing between.
func TestMergeTextsByHand(t *testing.T) {
	x := readTable(3, 3, "0011:+1a-2b|0121:+3-1c|0211:|1011:d |1211:-3e|2011:|2112:+2f0")
	sameTable(t, must(t)(impl.TableMerge(x, 0, 0, 2, 3)), readTable(3, 3, "0023:+1a-2b+3-1cd -3e|2011:|2112:+2f0"))
	sameTable(t, must(t)(impl.TableMerge(x, 0, 0, 2, 2)), readTable(3, 3, "0022:+1a-2b+3-1cd |0211:|1211:-3e|2011:|2112:+2f0"))
	sameTable(t, must(t)(impl.TableMerge(x, 0, 1, 2, 2)), readTable(3, 3, "0011:+1a-2b|0122:+3-1c-3e|1011:d |2011:|2112:+2f0"))
	sameTable(t, must(t)(impl.TableMerge(x, 2, 0, 1, 3)), readTable(3, 3, "0011:+1a-2b|0121:+3-1c|0211:|1011:d |1211:-3e|2013:+2f0"))
}

func TestMergeTextSizes(t *testing.T) {
	for a := range impl.TextMax + 1 {
		for b := range impl.TextMax + 1 {
			for _, c := range []int{0, 1, impl.TextMax} {
				x := readTable(2, 2, "0011:|0111:|1012:")
				x.Cells[0].Text, x.Cells[1].Text, x.Cells[2].Text = slices.Repeat(read("-1a"), a), slices.Repeat(read("b"), b), slices.Repeat(read("+2c"), c)
				mergeFits(t, x, area{0, 0, 1, 2}, a+b)
				mergeFits(t, x, area{0, 0, 2, 2}, a+b+c)
			}
		}
	}
}

// mergeFits: a rectangle whose texts are so many signs is merged just if they are not too many.
func mergeFits(t *testing.T, x impl.Table, r area, size int) {
	t.Helper()
	if size > impl.TextMax {
		refused(t, x, r)(impl.TableMerge(x, r.row, r.col, r.down, r.right))
		return
	}
	got := must(t, x, r)(impl.TableMerge(x, r.row, r.col, r.down, r.right))
	same(t, got.Cells[0].Text, written(x)[:size], x, r)
}

func TestSplitByHand(t *testing.T) {
	x := readTable(3, 3, "0012:a+1b|0221:c|1022:d-2e|2211:f")
	sameTable(t, must(t)(impl.TableSplit(x, 0)), readTable(3, 3, "0011:a+1b|0111:|0221:c|1022:d-2e|2211:f"))
	sameTable(t, must(t)(impl.TableSplit(x, 1)), readTable(3, 3, "0012:a+1b|0211:c|1022:d-2e|1211:|2211:f"))
	sameTable(t, must(t)(impl.TableSplit(x, 2)), readTable(3, 3, "0012:a+1b|0221:c|1011:d-2e|1111:|2011:|2111:|2211:f"))
	refused(t)(impl.TableSplit(x, 3))
	refused(t)(impl.TableSplit(x, 4))
	refused(t)(impl.TableSplit(x, -1))
	whole := readTable(5, 5, "0055:z")
	want := impl.TableNew(5, 5)
	want.Cells[0].Text = read("z")
	sameTable(t, must(t)(impl.TableSplit(whole, 0)), want)
}

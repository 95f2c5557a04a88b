package tests

import (
	"math"
	"slices"
	"strings"
	"testing"

	"loop.example/limner/impl"
)

func TestLimitsOfDocuments(t *testing.T) {
	if impl.DocMax != 8 || impl.DocLevel != 3 || impl.BlockPara != 1 || impl.BlockItem != 2 || impl.BlockTable != 3 {
		t.Fatal(impl.DocMax, impl.DocLevel, impl.BlockPara, impl.BlockItem, impl.BlockTable)
	}
}

// Of all rows of blocks, items too deep among them, just those are ok that the words of the document say.
func TestDocOkLevels(t *testing.T) {
	for i, s := range allShapes("pt01234", 5) {
		if impl.DocOk(shaped(s, i)) != okShape(s) {
			t.Fatal(s)
		}
	}
	for _, d := range okDocs() {
		if !impl.DocOk(d) {
			t.Fatal(d)
		}
	}
}

func TestDocOkEdgesByHand(t *testing.T) {
	for s, want := range map[string]bool{"0": true, "1": false, "01": true, "02": false, "p0": true, "p1": false, "t0": true, "t1": false, "0123": true, "01234": false, "01233": true, "01230": true, "0120": true, "01202": false, "012p0": true, "012p1": false, "012p2": false, "012p3": false, "01t2": false, "01t0": true} {
		if impl.DocOk(shaped(s, 3)) != want {
			t.Error(s)
		}
	}
}

func TestDocOkSizes(t *testing.T) {
	for size := range 4 * impl.DocMax {
		for _, kind := range []string{"p", "t", "0"} {
			if impl.DocOk(shaped(strings.Repeat(kind, size), size)) != (size <= 8) {
				t.Fatal(kind, size)
			}
		}
	}
}

// Each kind has its own; what is not of it is nothing, be that a nil list or an empty one.
func TestDocOkKinds(t *testing.T) {
	text, table := read("a+1b"), readTable(2, 2, "0022:+1-2c")
	for kind := -1; kind <= 5; kind++ {
		for level := -1; level <= 5; level++ {
			for _, of := range [][]impl.Sign{nil, {}, make([]impl.Sign, 0, 3), text} {
				for _, at := range []impl.Table{{}, {Cells: []impl.Cell{}}, {Cells: make([]impl.Cell, 0, 3)}, table} {
					d := readDoc("i0:\ni1:\ni2:\ni3:\n")
					d.Blocks = append(d.Blocks, impl.Block{Kind: kind, Level: level, Text: of, Table: at})
					want := false
					switch kind {
					case 1:
						want = level == 0 && at.Rows == 0
					case 2:
						want = 0 <= level && level <= 3 && at.Rows == 0
					case 3:
						want = level == 0 && at.Rows == 2 && len(of) == 0
					}
					if impl.DocOk(d) != want {
						t.Fatal(kind, level, of, at)
					}
				}
			}
		}
	}
}

func TestDocOkTextSizes(t *testing.T) {
	for size := range 3 * impl.TextMax {
		for at := range 3 {
			d := readDoc("p:a\ni0:b\nt12:\nc0011:c\nc0111:d\n")
			text := slices.Repeat(read("+1-2q"), size)
			d.Blocks[at].Text = text
			if at == 2 {
				d.Blocks[2].Text, d.Blocks[2].Table.Cells[1].Text = nil, text
			}
			if impl.DocOk(d) != (size <= impl.TextMax) {
				t.Fatal(at, size)
			}
		}
	}
}

func TestDocOkWrong(t *testing.T) {
	for _, d := range wrongDocs() {
		if impl.DocOk(d) {
			t.Fatal(d)
		}
	}
}

// A document that is not ok has one answer everywhere, whatever place is given, also where what came of it would be ok.
func TestWrongDocsAreNothing(t *testing.T) {
	docs := append(wrongDocs(), shiftedBy(readDoc("i0:a\ni1:b\n"), 0, 2, -1), shiftedBy(readDoc("i0:a\n"), 0, 1, 1), shiftedBy(readDoc("i0:a\ni0:b\n"), 1, 2, -1))
	for _, d := range docs {
		if impl.DocWrite(d) != "" || len(impl.DocNums(d)) != 0 {
			t.Fatal(d, impl.DocWrite(d), impl.DocNums(d))
		}
		for name, do := range changes() {
			for _, at := range []int{0, 1, 2, 3, 4, 5, 8, -1, math.MaxInt, math.MinInt} {
				refusedDoc(t, name, d, at)(do(d, at))
			}
		}
	}
}

func TestDocPlacesThatAreNone(t *testing.T) {
	for _, s := range []string{"", "p", "0", "t", "00", "p0", "01230123", "pppppppp", "00000000"} {
		d := shaped(s, 4)
		for _, at := range noPlaces(len(s)) {
			if 0 <= at && at < len(s) {
				continue
			}
			for name, do := range changes() {
				refusedDoc(t, name, s, at)(do(d, at))
			}
		}
	}
}

func TestDocsWithoutBlocks(t *testing.T) {
	for _, d := range []impl.Doc{{}, {Blocks: []impl.Block{}}, {Blocks: make([]impl.Block, 0, 9)}} {
		if !impl.DocOk(d) || impl.DocWrite(d) != "" || len(impl.DocNums(d)) != 0 {
			t.Fatal(d)
		}
	}
}

func TestDocWriteByHand(t *testing.T) {
	d := impl.Doc{Blocks: []impl.Block{
		{Kind: 1, Text: []impl.Sign{{Byte: 'a'}, {Byte: ' '}, {Byte: 'b', In: 1}, {Byte: 'c', Out: 2}, {Byte: '0', In: 3, Out: 1}}},
		{Kind: 2, Text: []impl.Sign{{Byte: ' ', Out: 3}}},
		{Kind: 2, Level: 1},
		{Kind: 2, Level: 2, Text: []impl.Sign{{Byte: '9'}, {Byte: '7', In: 2}}},
		{Kind: 2, Level: 3, Text: []impl.Sign{}},
		{Kind: 1},
		{Kind: 3, Table: impl.Table{Rows: 3, Cols: 5, Cells: []impl.Cell{{Down: 2, Right: 4, Text: []impl.Sign{{Byte: 'x', In: 1, Out: 2}, {Byte: 'y'}}}, {Col: 4, Down: 3, Right: 1}, {Row: 2, Down: 1, Right: 4, Text: []impl.Sign{{Byte: 'z', Out: 1}}}}}},
		{Kind: 3, Table: impl.Table{Rows: 1, Cols: 1, Cells: []impl.Cell{{Down: 1, Right: 1}}}},
	}}
	want := "p:a +1b-2c+3-10\ni0:-3 \ni1:\ni2:9+27\ni3:\np:\nt35:\nc0024:+1-2xy\nc0431:\nc2014:-1z\nt11:\nc0011:\n"
	if got := impl.DocWrite(d); got != want {
		t.Fatalf("%q", got)
	}
	if got := impl.DocWrite(impl.Doc{Blocks: []impl.Block{{Kind: 1, Text: read(manyNames)}}}); got != "p:"+manyNames+"\n" {
		t.Fatalf("%q", got)
	}
}

// numsOf writes how items are numbered: a point between two levels, a bar behind each block.
func numsOf(d impl.Doc) string {
	s := ""
	for _, nums := range impl.DocNums(d) {
		for i, n := range nums {
			s += strings.Repeat(".", min(i, 1)) + string(rune('0'+n))
		}
		s += "|"
	}
	return s
}

func TestDocNumsByHand(t *testing.T) {
	for s, want := range map[string]string{
		"":         "",
		"p":        "|",
		"t":        "|",
		"0":        "1|",
		"00000000": "1|2|3|4|5|6|7|8|",
		"0121010":  "1|1.1|1.1.1|1.2|2|2.1|3|",
		"01230123": "1|1.1|1.1.1|1.1.1.1|2|2.1|2.1.1|2.1.1.1|",
		"01232323": "1|1.1|1.1.1|1.1.1.1|1.1.2|1.1.2.1|1.1.3|1.1.3.1|",
		"01233212": "1|1.1|1.1.1|1.1.1.1|1.1.1.2|1.1.2|1.2|1.2.1|",
		"0120112":  "1|1.1|1.1.1|2|2.1|2.2|2.2.1|",
		"00p00t00": "1|2||1|2||1|2|",
		"01p01t01": "1|1.1||1|1.1||1|1.1|",
		"0112p012": "1|1.1|1.2|1.2.1||1|1.1|1.1.1|",
		"pt0tp001": "||1|||1|2|2.1|",
	} {
		if got := numsOf(shaped(s, 5)); got != want {
			t.Error(s, got)
		}
	}
}

// shapeBy is the shape of what comes of a change to a block; no, if it is refused.
func shapeBy(do func(impl.Doc, int) (impl.Doc, bool), shape string, at int) string {
	d, ok := do(shaped(shape, len(shape)), at)
	if !ok {
		return "no"
	}
	return shapeOf(d)
}

func TestSinkByHand(t *testing.T) {
	for _, c := range []struct {
		shape string
		at    int
		want  string
	}{
		{"0", 0, "no"}, {"00", 0, "no"}, {"00", 1, "01"}, {"01", 1, "no"}, {"010", 2, "011"}, {"011", 2, "012"}, {"0120", 3, "0121"},
		{"p0", 1, "no"}, {"t0", 1, "no"}, {"p00", 2, "p01"}, {"00p0", 3, "no"}, {"00t0", 3, "no"}, {"012p00", 4, "no"}, {"012p00", 5, "012p01"}, // the first item of a list is not sunk
		{"0012", 1, "0123"}, {"00123", 1, "no"}, {"001232", 1, "no"}, {"001220", 1, "012330"}, {"0001210", 1, "0101210"}, {"0001210", 2, "0012320"}, // with some below, the last of them at DocLevel
		{"0012p12", 1, "no"}, {"001p0", 1, "012p0"}, {"001t01", 1, "012t01"}, {"00101", 1, "01201"}, {"001001", 1, "012001"}, // up to another block, or an item as deep
		{"0123", 3, "no"}, {"01233", 4, "no"}, {"01232", 4, "01233"}, {"012222", 5, "012223"}, {"01111", 2, "01211"},
		{"p", 0, "no"}, {"t", 0, "no"}, {"0p", 1, "no"}, {"0t", 1, "no"}, {"0123p", 4, "no"}, {"", 0, "no"}, {"00", 2, "no"}, {"00", -1, "no"},
	} {
		if got := shapeBy(impl.DocSink, c.shape, c.at); got != c.want {
			t.Error(c, got)
		}
	}
}

func TestLiftByHand(t *testing.T) {
	for _, c := range []struct {
		shape string
		at    int
		want  string
	}{
		{"0", 0, "p"}, {"00", 0, "p0"}, {"00", 1, "0p"}, {"01", 1, "00"}, {"01", 0, "no"}, {"012", 0, "no"}, {"0p", 0, "pp"}, {"0t01", 0, "pt01"}, {"0101", 2, "no"}, {"01p01", 3, "no"}, {"01p0", 3, "01pp"}, {"01t0t", 3, "01tpt"},
		{"0123", 1, "0012"}, {"0123", 2, "0112"}, {"0123", 3, "0122"}, {"01232", 2, "01122"}, {"01223", 2, "01123"}, {"012301", 1, "001201"}, {"0123p0", 1, "0012p0"}, {"0123t0", 1, "0012t0"}, {"012312", 1, "001212"},
		{"0111", 1, "0011"}, {"0122", 2, "0112"}, {"01233", 3, "01223"}, {"0121", 1, "0011"}, {"01233", 2, "01122"}, // the one behind is as deep as it may be then
		{"p", 0, "no"}, {"t", 0, "no"}, {"0p", 1, "no"}, {"0t", 1, "no"}, {"", 0, "no"}, {"00", 2, "no"}, {"00", -1, "no"},
	} {
		if got := shapeBy(impl.DocLift, c.shape, c.at); got != c.want {
			t.Error(c, got)
		}
	}
}

func TestItemByHand(t *testing.T) {
	for _, c := range []struct {
		shape string
		at    int
		want  string
	}{
		{"p", 0, "0"}, {"pp", 0, "0p"}, {"pp", 1, "p0"}, {"p01", 0, "001"}, {"0123p0", 4, "012300"}, {"tpt", 1, "t0t"}, {"01p01", 2, "01001"}, {"pppppppp", 7, "ppppppp0"},
		{"0", 0, "no"}, {"01", 1, "no"}, {"t", 0, "no"}, {"pt", 1, "no"}, {"p0", 1, "no"}, {"", 0, "no"}, {"p", 1, "no"}, {"p", -1, "no"},
	} {
		if got := shapeBy(impl.DocItem, c.shape, c.at); got != c.want {
			t.Error(c, got)
		}
	}
}

package tests

import (
	"slices"
	"strings"
	"testing"

	"loop.example/limner/impl"
)

// Where each place of a text is, now and as it was, and the least one of each place now; a figure each, and - where there is none.
func TestSpotsByHand(t *testing.T) {
	for text, want := range map[string][3]string{
		"":                {"0", "0", "0-"},
		"abc":             {"0123", "0123", "0123-"},
		"+1a":             {"01", "00", "01-"},
		"-1a":             {"00", "01", "0-"},
		"+1-2a":           {"00", "00", "0-"},
		"+1ab":            {"012", "001", "012-"},
		"-1ab":            {"001", "012", "02-"},
		"a+3b":            {"012", "011", "012-"},
		"a-3b":            {"011", "012", "01-"},
		"a+2bc":           {"0123", "0112", "0123-"},
		"a-2bc":           {"0112", "0123", "013-"},
		"a+1-2bc":         {"0112", "0112", "013-"},
		"-1a-2b-3c":       {"0000", "0123", "0--"},
		"+1a+2b+3c":       {"0123", "0000", "0123-"},
		"+1-2a+2-3b+3-1c": {"0000", "0000", "0--"},
		"+1a-2b":          {"011", "001", "01-"},
		"-2b+1a":          {"001", "011", "02-"},
		"a+1b-2c+1-2d+3e": {"012223", "011222", "0125-"},
		"a-1b+2x+2y-1cd":  {"0112334", "0122234", "01346-"},
		"-1a-2b+1c+2-1d":  {"00011", "01222", "03-"},
	} {
		docs, places := spotFrames()
		for i, d := range docs {
			d = withTextAt(d, places[i], read(text))
			for at := range len(want[0]) {
				p := atOf(places[i], at)
				sameSpot(t, impl.SpotNow(d, p), atOf(p, int(want[0][at]-'0')), "now", text, at)
				sameSpot(t, impl.SpotWas(d, p), atOf(p, int(want[1][at]-'0')), "was", text, at)
			}
			noSpot(t, d, atOf(places[i], len(want[0])), text)
			for at, least := range []byte(want[2]) {
				p := atOf(places[i], at)
				if least == '-' {
					noRaw(t, d, p, text)
				} else if q, ok := impl.SpotRaw(d, p); !ok || q != atOf(p, int(least-'0')) {
					t.Fatal(text, p, q, ok)
				}
			}
		}
	}
}

// All texts of a document: a place is told of its own one alone.
func TestSpotsOfOneDocByHand(t *testing.T) {
	d := readDoc("p:a+1b-2c\ni0:+2x\nt22:\nc0012:-1q\nc1011:\nc1111:r+3-1s-2t+1u\n")
	cell := func(cell, at int) impl.Place { return impl.Place{Block: 2, Cell: cell, At: at} }
	for _, c := range []struct{ p, now, was impl.Place }{
		{in(0, 0), in(0, 0), in(0, 0)}, {in(0, 1), in(0, 1), in(0, 1)}, {in(0, 2), in(0, 2), in(0, 1)}, {in(0, 3), in(0, 2), in(0, 2)},
		{in(1, 0), in(1, 0), in(1, 0)}, {in(1, 1), in(1, 1), in(1, 0)},
		{cell(0, 0), cell(0, 0), cell(0, 0)}, {cell(0, 1), cell(0, 0), cell(0, 1)},
		{cell(1, 0), cell(1, 0), cell(1, 0)},
		{cell(2, 0), cell(2, 0), cell(2, 0)}, {cell(2, 1), cell(2, 1), cell(2, 1)}, {cell(2, 2), cell(2, 1), cell(2, 1)}, {cell(2, 3), cell(2, 1), cell(2, 2)}, {cell(2, 4), cell(2, 2), cell(2, 2)},
	} {
		sameSpot(t, impl.SpotNow(d, c.p), c.now, "now", c)
		sameSpot(t, impl.SpotWas(d, c.p), c.was, "was", c)
	}
	for _, c := range []struct{ p, raw impl.Place }{
		{in(0, 0), in(0, 0)}, {in(0, 1), in(0, 1)}, {in(0, 2), in(0, 2)}, {in(1, 0), in(1, 0)}, {in(1, 1), in(1, 1)},
		{cell(0, 0), cell(0, 0)}, {cell(1, 0), cell(1, 0)}, {cell(2, 0), cell(2, 0)}, {cell(2, 1), cell(2, 1)}, {cell(2, 2), cell(2, 4)},
	} {
		if q, ok := impl.SpotRaw(d, c.p); !ok || q != c.raw {
			t.Error(c, q, ok)
		}
	}
	for _, p := range []impl.Place{in(0, 3), in(1, 2), cell(0, 1), cell(1, 1), cell(2, 3), cell(2, 4)} {
		noRaw(t, d, p)
	}
	for _, p := range []impl.Place{in(0, 4), in(0, -1), in(1, 2), in(1, -1), cell(0, 2), cell(1, 1), cell(2, 5), cell(3, 0), cell(-1, 0), {Cell: 1}, {Block: 1, Cell: 1}, {Block: 1, Cell: 2}, in(3, 0), in(-1, 0)} {
		noSpot(t, d, p)
	}
}

// All documents with suggestions, all texts of them.
func TestSpotsByTheWords(t *testing.T) {
	for _, d := range sugDocs() {
		for _, begin := range beginnings(d) {
			spotsByTheWords(t, d, begin)
		}
	}
}

// All small texts, and some of all sizes up to the most; they stand in all kinds of blocks in turn.
func TestSpotsOfAllTexts(t *testing.T) {
	docs, places := spotFrames()
	for i, text := range okTexts() {
		at := i % len(docs)
		spotsByTheWords(t, withTextAt(docs[at], places[at], text), places[at])
	}
}

// Texts of which nothing is left now, or of which nothing was: all their places are the beginning there, and it is the only one.
func TestSpotsWhereNothingIsLeft(t *testing.T) {
	docs, places := spotFrames()
	for size := range impl.TextMax + 1 {
		for i, begin := range places {
			for sign, left := range map[string][2]int{"-1a": {0, 1}, "-3a": {0, 1}, "+2a": {1, 0}, "+3a": {1, 0}, "+2-1a": {0, 0}, "+1-3a": {0, 0}, "a": {1, 1}} {
				d := withTextAt(docs[i], begin, read(strings.Repeat(sign, size)))
				for at := range size + 1 {
					p := atOf(begin, at)
					sameSpot(t, impl.SpotNow(d, p), atOf(p, at*left[0]), "now", sign, size)
					sameSpot(t, impl.SpotWas(d, p), atOf(p, at*left[1]), "was", sign, size)
					q, ok := impl.SpotRaw(d, p)
					if is := at == 0 || left[0] == 1; ok != is || is && q != p || !is && q != (impl.Place{}) {
						t.Fatal(sign, size, p, q, ok)
					}
				}
				noSpot(t, d, atOf(begin, size+1), sign, size)
			}
		}
	}
}

// Ahead of, within and behind one suggestion, at the beginning, in the middle and at the end of a text.
func TestSpotsAroundOneSuggestion(t *testing.T) {
	docs, places := spotFrames()
	for i, begin := range places {
		d := withTextAt(docs[i], begin, read("abcdef"))
		for from := range 7 {
			for _, who := range people() {
				x := mustDoc(t)(impl.SugIn(d, atOf(begin, from), "xyz", who))
				for at := range 10 {
					p := atOf(begin, at)
					sameSpot(t, impl.SpotNow(x, p), p, "put in", from)
					sameSpot(t, impl.SpotWas(x, p), atOf(p, at-max(0, min(at-from, 3))), "put in", from)
					if q, ok := impl.SpotRaw(x, p); !ok || q != p {
						t.Fatal(from, p, q, ok)
					}
				}
				for n := 1; n <= 6-from; n++ {
					x := mustDoc(t)(impl.SugOut(d, atOf(begin, from), n, who))
					for at := range 7 {
						p := atOf(begin, at)
						now := atOf(p, at-max(0, min(at-from, n)))
						sameSpot(t, impl.SpotNow(x, p), now, "taken out", from, n)
						sameSpot(t, impl.SpotWas(x, p), p, "taken out", from, n)
						if from < at && at <= from+n { // the place ahead of what is taken out is the least
							now, p = atOf(p, from), atOf(p, from)
						}
						if q, ok := impl.SpotRaw(x, now); !ok || q != p {
							t.Fatal(from, n, now, q, ok)
						}
					}
					for at := 7 - n; at < 9; at++ {
						noRaw(t, x, atOf(begin, at), from, n)
					}
				}
			}
		}
	}
}

// The most blocks, cells and signs: of the last text all places are told, and none behind it.
func TestSpotsAtTheLimits(t *testing.T) {
	full := strings.Repeat("+1a-2b+2-3cd", 6)
	table := impl.Block{Kind: impl.BlockTable, Table: impl.TableNew(5, 5)}
	for i := range table.Table.Cells {
		table.Table.Cells[i].Text = read(full)
	}
	d := impl.Doc{Blocks: slices.Repeat([]impl.Block{table}, 8)}
	for _, begin := range []impl.Place{{}, {Cell: 24}, {Block: 7}, {Block: 7, Cell: 12}, {Block: 7, Cell: 24}} {
		for at := range 25 {
			p := atOf(begin, at)
			sameSpot(t, impl.SpotNow(d, p), atOf(p, at/4*2+[]int{0, 1, 1, 1}[at%4]), "now", p)
			sameSpot(t, impl.SpotWas(d, p), atOf(p, at/4*2+[]int{0, 0, 1, 1}[at%4]), "was", p)
			if at > 12 {
				noRaw(t, d, p)
			} else if q, ok := impl.SpotRaw(d, p); !ok || q != atOf(p, at/2*4+at%2) {
				t.Fatal(p, q, ok)
			}
		}
		noSpot(t, d, atOf(begin, 25))
	}
	noSpot(t, d, impl.Place{Block: 7, Cell: 25})
	noSpot(t, d, impl.Place{Block: 8})
	d.Blocks = append(d.Blocks, readDoc("p:a\n").Blocks[0])
	noSpot(t, d, impl.Place{})
	noSpot(t, d, impl.Place{Block: 7, Cell: 24, At: 2})
	d.Blocks = []impl.Block{{Kind: impl.BlockPara, Text: read(full + "+1a")}}
	noSpot(t, d, impl.Place{})
	noSpot(t, d, in(0, 5))
}

// Without blocks there is no place, not even the one that nothing is told by.
func TestSpotsOfNoBlocks(t *testing.T) {
	for _, d := range []impl.Doc{{}, {Blocks: []impl.Block{}}} {
		for _, p := range []impl.Place{{}, in(0, 1), in(1, 0), {Cell: 1}, in(0, -1), in(-1, 0)} {
			noSpot(t, d, p)
		}
	}
}

// A place that is none, next to those that are, and far away, in any part of one.
func TestSpotsAtNoPlace(t *testing.T) {
	for _, d := range append(sugDocs()[:60:60], readDoc(sugHand)) {
		for _, p := range append(spots(d), impl.Place{}) {
			for _, n := range extremes() {
				for _, q := range []impl.Place{{Block: n, Cell: p.Cell, At: p.At}, {Block: p.Block, Cell: n, At: p.At}, {Block: p.Block, Cell: p.Cell, At: n}, {Block: n, Cell: n, At: n}} {
					noSpot(t, d, q, impl.DocWrite(d))
				}
			}
		}
		for block := -1; block <= len(d.Blocks)+1; block++ {
			for cell := -1; cell <= 26; cell++ {
				if p := (impl.Place{Block: block, Cell: cell}); !isPlace(d, p) {
					noSpot(t, d, p, impl.DocWrite(d))
					noSpot(t, d, atOf(p, 1), impl.DocWrite(d))
				}
			}
		}
	}
}

// A place that is one, but none now: SpotRaw has nothing to tell of it, though there are signs.
func TestPlacesThatAreNoneNow(t *testing.T) {
	met := 0
	for _, d := range sugDocs() {
		now := impl.SugNow(d)
		for _, p := range places(d) {
			if !isPlace(now, p) {
				noRaw(t, d, p, impl.DocWrite(d))
				met++
			}
		}
	}
	if met < 1000 {
		t.Fatal("few places", met)
	}
}

// A document that is not ok has one answer everywhere, also at places that it would have.
func TestSpotsOfWrongDocs(t *testing.T) {
	for _, d := range wrongDocs() {
		noSpot(t, d, impl.Place{})
		for block, b := range d.Blocks[:min(len(d.Blocks), 9)] {
			for cell := range max(1, min(len(b.Table.Cells), 3)) {
				for at := range 3 {
					noSpot(t, d, impl.Place{Block: block, Cell: cell, At: at}, d)
				}
			}
			noSpot(t, d, in(block, len(b.Text)), d)
		}
	}
}

// Huge lists are refused, too.
func TestSpotsOfHugeLists(t *testing.T) {
	text := slices.Repeat(read("+1a"), 1<<20)
	noSpot(t, impl.Doc{Blocks: []impl.Block{{Kind: impl.BlockPara, Text: text}}}, in(0, 1))
	noSpot(t, impl.Doc{Blocks: slices.Repeat(readDoc("p:ab\n").Blocks, 1<<16)}, in(0, 1))
	noSpot(t, impl.Doc{Blocks: []impl.Block{{Kind: impl.BlockTable, Table: impl.Table{Rows: 5, Cols: 5, Cells: make([]impl.Cell, 1<<20)}}}}, in(0, 0))
}

// Where a place is hangs on who is told of its text's signs alone: not on their bytes, nor on which person it is, nor on other texts.
func TestSpotsHangOnTheirTextAlone(t *testing.T) {
	turn := func(who int) int {
		if who == 0 {
			return 0
		}
		return who%3 + 1
	}
	for _, d := range sugDocs() {
		other := mapTexts(d, func(text []impl.Sign) []impl.Sign {
			text = slices.Clone(text)
			for i, s := range text {
				text[i] = impl.Sign{Byte: goodBytes[i], In: turn(s.In), Out: turn(s.Out)}
			}
			return text
		})
		for _, begin := range spots(d) {
			text := textOfPlace(d, begin)
			alone := withTextAt(plainDoc(d), begin, text)
			for at := range len(text) + 1 {
				p := atOf(begin, at)
				for _, x := range []impl.Doc{other, alone} {
					sameSpot(t, impl.SpotNow(x, p), impl.SpotNow(d, p), "now", impl.DocWrite(d))
					sameSpot(t, impl.SpotWas(x, p), impl.SpotWas(d, p), "was", impl.DocWrite(d))
					q, ok := impl.SpotRaw(x, p)
					if want, is := impl.SpotRaw(d, p); ok != is || q != want {
						t.Fatal(p, q, ok, want, is, impl.DocWrite(d))
					}
				}
			}
		}
	}
}

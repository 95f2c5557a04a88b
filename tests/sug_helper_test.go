package tests

import (
	"fmt"
	"slices"
	"sync"
	"testing"

	"loop.example/limner/impl"
)

// mapTexts is a document in which each text, of blocks and of cells, is changed.
func mapTexts(d impl.Doc, change func([]impl.Sign) []impl.Sign) impl.Doc {
	d = copiedDoc(d)
	for i, b := range d.Blocks {
		if b.Kind != impl.BlockTable {
			d.Blocks[i].Text = change(b.Text)
			continue
		}
		for j, c := range b.Table.Cells {
			b.Table.Cells[j].Text = change(c.Text)
		}
	}
	return d
}

// squares is what a document is beside its texts.
func squares(d impl.Doc) impl.Doc {
	return mapTexts(d, func([]impl.Sign) []impl.Sign { return nil })
}

// nameSets are who may have suggested something in a document: all; nobody; of suggestions alone, put in, taken out and both; one person; two; one who puts in and one who takes out.
func nameSets() [][]impl.Sign {
	has := func(sets ...func(s impl.Sign) bool) [][]impl.Sign {
		var all [][]impl.Sign
		for _, keep := range sets {
			all = append(all, slices.DeleteFunc(allNames(), func(s impl.Sign) bool { return !keep(s) }))
		}
		return all
	}
	return has(
		func(s impl.Sign) bool { return true },
		func(s impl.Sign) bool { return s.In == 0 && s.Out == 0 },
		func(s impl.Sign) bool { return s.In != 0 },
		func(s impl.Sign) bool { return s.In == 0 && s.Out != 0 },
		func(s impl.Sign) bool { return s.In != 0 || s.Out != 0 },
		func(s impl.Sign) bool { return s.In != 0 && s.Out != 0 },
		func(s impl.Sign) bool { return s.In+s.Out == 2 && s.In != s.Out || s.In+s.Out == 0 },
		func(s impl.Sign) bool { return s.In != 2 && s.Out != 2 },
		func(s impl.Sign) bool { return s.In <= 1 && s.Out != 1 && s.Out != 3 },
	)
}

// namer gives signs names by numbers that follow from each other.
type namer struct {
	names []impl.Sign
	seed  uint32
}

// text is a text of the same bytes, whose signs have other names.
func (n *namer) text(t []impl.Sign) []impl.Sign {
	t = slices.Clone(t)
	for i, s := range t {
		n.seed = n.seed*1664525 + 1013904223
		name := n.names[int(n.seed>>16)%len(n.names)]
		t[i] = impl.Sign{Byte: s.Byte, In: name.In, Out: name.Out}
	}
	return t
}

// sugDocs are documents of all ok shapes of up to three blocks, and some of more, up to the most, each with everybody's suggestions mixed and with one of the other sets of names, and such as are empty. They are made once, and only read.
var sugDocs = sync.OnceValue(func() []impl.Doc {
	all := []impl.Doc{{}, {Blocks: []impl.Block{}}, readDoc("p:\n"), readDoc("i0:\ni1:\n"), readDoc("t12:\nc0011:\nc0111:\n")}
	sets := nameSets()
	for i, d := range stepDocs() {
		for _, names := range [][]impl.Sign{sets[0], sets[1+i%(len(sets)-1)]} {
			all = append(all, mapTexts(d, (&namer{names, uint32(i)}).text))
		}
	}
	return all
})

// spots are the beginnings of texts of a document: of all blocks, and of the first, a middle and the last cell of tables.
func spots(d impl.Doc) []impl.Place {
	var all []impl.Place
	for block, b := range d.Blocks {
		last := len(textsOf(b)) - 1
		cells := slices.Compact([]int{0, last / 2, last})
		for _, cell := range cells {
			all = append(all, impl.Place{Block: block, Cell: cell})
		}
	}
	return all
}

// isPlace says by the words of the document whether there is such a place.
func isPlace(d impl.Doc, p impl.Place) bool {
	if p.Block < 0 || p.Block >= len(d.Blocks) {
		return false
	}
	texts := textsOf(d.Blocks[p.Block])
	return 0 <= p.Cell && p.Cell < len(texts) && 0 <= p.At && p.At <= len(texts[p.Cell])
}

// isPerson says whether a number is a person's.
func isPerson(who int) bool {
	return who == 1 || who == 2 || who == 3
}

// putIn is the signs of plain bytes that somebody suggests to put in.
func putIn(s string, who int) []impl.Sign {
	var t []impl.Sign
	for i := range len(s) {
		t = append(t, impl.Sign{Byte: s[i], In: who})
	}
	return t
}

// wantIn is by the words of the document what comes of a suggestion to put bytes in.
func wantIn(d impl.Doc, p impl.Place, s string, who int) (impl.Doc, bool) {
	if !isPlace(d, p) || !isPerson(who) || len(s) < 1 || len(s) > 24 {
		return impl.Doc{}, false
	}
	x := withTextAt(d, p, slices.Insert(slices.Clone(textOfPlace(d, p)), p.At, putIn(s, who)...))
	if !impl.DocOk(x) {
		return impl.Doc{}, false
	}
	return x, true
}

// fate is by the words of the document what is left of a sign that somebody suggests to take out.
func fate(s impl.Sign, who int) []impl.Sign {
	if s.Out != 0 {
		return []impl.Sign{s}
	}
	if s.In == who {
		return nil
	}
	return []impl.Sign{{Byte: s.Byte, In: s.In, Out: who}}
}

// wantOut is by the words of the document what comes of a suggestion to take signs out.
func wantOut(d impl.Doc, p impl.Place, n, who int) (impl.Doc, bool) {
	if !isPlace(d, p) || !isPerson(who) || n < 1 || n > len(textOfPlace(d, p))-p.At {
		return impl.Doc{}, false
	}
	var text []impl.Sign
	for at, s := range textOfPlace(d, p) {
		if p.At <= at && at < p.At+n {
			text = append(text, fate(s, who)...)
		} else {
			text = append(text, s)
		}
	}
	return withTextAt(d, p, text), true
}

// wantTake is by the words of the document a document where what one suggested is taken.
func wantTake(d impl.Doc, who int) impl.Doc {
	return mapTexts(d, func(t []impl.Sign) []impl.Sign {
		var left []impl.Sign
		for _, s := range t {
			if s.Out == who {
				continue
			}
			if s.In == who {
				s.In = 0
			}
			left = append(left, s)
		}
		return left
	})
}

// wantDrop is by the words of the document a document where what one suggested is dropped.
func wantDrop(d impl.Doc, who int) impl.Doc {
	return mapTexts(d, func(t []impl.Sign) []impl.Sign {
		var left []impl.Sign
		for _, s := range t {
			if s.In == who {
				continue
			}
			if s.Out == who {
				s.Out = 0
			}
			left = append(left, s)
		}
		return left
	})
}

// ofAll is a document where what all people suggested is settled, one behind the other.
func ofAll(d impl.Doc, settle func(impl.Doc, int) impl.Doc) impl.Doc {
	for _, who := range people() {
		d = settle(d, who)
	}
	return d
}

// told is by the words of the document who has suggested something, ascending.
func told(d impl.Doc) []int {
	var all []int
	mapTexts(d, func(t []impl.Sign) []impl.Sign {
		for _, s := range t {
			all = append(all, s.In, s.Out)
		}
		return t
	})
	slices.Sort(all)
	return slices.DeleteFunc(slices.Compact(all), func(who int) bool { return who == 0 })
}

// withoutOne is a list of people without one.
func withoutOne(list []int, who int) []int {
	return slices.DeleteFunc(slices.Clone(list), func(x int) bool { return x == who })
}

// others are all people but one.
func others(who int) []int {
	return withoutOne(people(), who)
}

// settlingsOfDocs are to take and to drop.
func settlingsOfDocs() map[string]func(impl.Doc, int) impl.Doc {
	return map[string]func(impl.Doc, int) impl.Doc{"take": impl.SugTake, "drop": impl.SugDrop}
}

// sugCase is something that one suggests of a document, to put s in or to take n out, and what came of it.
type sugCase struct {
	d   impl.Doc
	p   impl.Place
	s   string
	n   int
	who int
	x   impl.Doc
	ok  bool
}

// String is the case as documents are written, so that a test that fails can be read.
func (c sugCase) String() string {
	return fmt.Sprintf("%q, %+v, in %q, out %d, by %d: %q %v", impl.DocWrite(c.d), c.p, c.s, c.n, c.who, impl.DocWrite(c.x), c.ok)
}

// text is the text of which something is suggested, as it was ahead of that.
func (c sugCase) text() []impl.Sign {
	return textOfPlace(c.d, c.p)
}

// went is how many signs are gone.
func (c sugCase) went() int {
	return len(c.text()) - len(textOfPlace(c.x, c.p))
}

// sugIns are suggestions to put something in, at the ends and in the middle of texts, of one sign up to all that there is room for, and one more, by each person. They are made once, and only read.
var sugIns = sync.OnceValue(func() []sugCase {
	var all []sugCase
	for _, d := range sugDocs() {
		for _, p := range spots(d) {
			left := impl.TextMax - len(textOfPlace(d, p))
			sizes := []int{1, 2, left, left + 1}
			slices.Sort(sizes)
			for _, p.At = range someAts(len(textOfPlace(d, p))) {
				for _, size := range slices.Compact(sizes) {
					for _, who := range people() {
						c := sugCase{d: d, p: p, s: goodBytes[len(all)%10:][:size], who: who}
						c.x, c.ok = impl.SugIn(c.d, c.p, c.s, c.who)
						all = append(all, c)
					}
				}
			}
		}
	}
	return all
})

// sugOuts are suggestions to take something out, at the ends and in the middle of texts, of one sign up to all that are there, and one more, by each person. They are made once, and only read.
var sugOuts = sync.OnceValue(func() []sugCase {
	var all []sugCase
	for _, d := range sugDocs() {
		for _, p := range spots(d) {
			size := len(textOfPlace(d, p))
			for _, p.At = range someAts(size) {
				for _, n := range someAts(size - p.At) {
					for _, who := range people() {
						c := sugCase{d: d, p: p, n: n, who: who}
						c.x, c.ok = impl.SugOut(c.d, c.p, c.n, c.who)
						all = append(all, c)
					}
				}
			}
		}
	}
	return all
})

// made are the suggestions that were made, and such as a test asks for, of each person. There must be some.
func made(t *testing.T, cases []sugCase, asked func(c sugCase) bool) []sugCase {
	t.Helper()
	var all []sugCase
	var by [4]int
	for _, c := range cases {
		if c.ok && asked(c) {
			all = append(all, c)
			by[c.who]++
		}
	}
	if min(by[1], by[2], by[3]) < 50 {
		t.Fatal("few suggestions", by)
	}
	return all
}

// anyCase asks for nothing more.
func anyCase(sugCase) bool {
	return true
}

// allMade are the suggestions of both kinds that were made.
func allMade(t *testing.T) []sugCase {
	t.Helper()
	return slices.Concat(made(t, sugIns(), anyCase), made(t, sugOuts(), anyCase))
}

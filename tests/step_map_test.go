package tests

import (
	"math"
	"slices"
	"testing"

	"loop.example/limner/impl"
)

// spot is a sign, or the end of a text, with the places that are just ahead of it.
type spot struct{ places []impl.Place }

// spotted is a document as spots, by blocks and their texts.
type spotted [][][]spot

// spotsOf is a document with each of its places at its spot.
func spotsOf(d impl.Doc) spotted {
	var all spotted
	for block, b := range d.Blocks {
		var texts [][]spot
		for cell, text := range textsOf(b) {
			var spots []spot
			for at := range len(text) + 1 {
				spots = append(spots, spot{[]impl.Place{{Block: block, Cell: cell, At: at}}})
			}
			texts = append(texts, spots)
		}
		all = append(all, texts)
	}
	return all
}

// bare is a block as spots without places.
func bare(b impl.Block) [][]spot {
	all := spotsOf(impl.Doc{Blocks: []impl.Block{b}})[0]
	for _, spots := range all {
		for i := range spots {
			spots[i].places = nil
		}
	}
	return all
}

// step does a step to the spots, which take their places with them, and tells which places are gone with theirs.
func (x spotted) step(s impl.Step) (spotted, []spot) {
	block, cell, at := s.Place.Block, s.Place.Cell, s.Place.At
	switch s.Kind {
	case impl.StepIn:
		x[block][cell] = slices.Insert(x[block][cell], at, make([]spot, len(s.Text))...)
	case impl.StepOut:
		gone := slices.Clone(x[block][cell][at : at+len(s.Text)])
		x[block][cell] = slices.Delete(x[block][cell], at, at+len(s.Text))
		return x, gone
	case impl.StepPut:
		return slices.Insert(x, block, bare(s.Now)), nil
	case impl.StepTake:
		gone := slices.Concat(x[block]...)
		return slices.Delete(x, block, block+1), gone
	case impl.StepPart:
		first, second := append(slices.Clone(x[block][0][:at]), spot{}), slices.Clone(x[block][0][at:])
		x[block] = [][]spot{first}
		return slices.Insert(x, block+1, [][]spot{second}), nil
	case impl.StepJoin:
		first, second := x[block][0], x[block+1][0]
		second[0].places = append(second[0].places, first[at].places...) // one end is none any more
		x[block] = [][]spot{append(first[:at:at], second...)}
		return slices.Delete(x, block+1, block+2), nil
	case impl.StepBe:
		gone := slices.Concat(x[block]...)
		x[block] = bare(s.Now)
		return x, gone
	}
	return x, nil
}

// Each place of a document is behind a step where its sign, or its end, is; where that is gone it is told so.
func TestStepMapByTheSpots(t *testing.T) {
	for _, c := range doneCases(t) {
		x, gone := spotsOf(c.d).step(c.s)
		met := 0
		for block, texts := range x {
			for cell, spots := range texts {
				for at, s := range spots {
					for _, p := range s.places {
						met++
						if q, stays := impl.StepMap(c.s, p); q != (impl.Place{Block: block, Cell: cell, At: at}) || !stays {
							t.Fatal(c, p, q, stays)
						}
					}
				}
			}
		}
		want := c.s.Place
		if c.s.Kind != impl.StepOut {
			want = in(c.s.Place.Block, 0)
		}
		for _, s := range gone {
			for _, p := range s.places {
				met++
				if q, stays := impl.StepMap(c.s, p); q != want || stays {
					t.Fatal(c, p, q, stays)
				}
			}
		}
		if met != len(places(c.d)) {
			t.Fatal(c, met)
		}
	}
}

// mapHand is a step, a place, and where it is behind the step, by hand.
type mapHand struct {
	s     impl.Step
	p     impl.Place
	want  impl.Place
	stays bool
}

// at is a place.
func at(block, cell, at int) impl.Place {
	return impl.Place{Block: block, Cell: cell, At: at}
}

// signMaps are those of signs: three put in, and taken out, at 2 of a text.
func signMaps(block, cell int) []mapHand {
	put := impl.Step{Kind: impl.StepIn, Place: at(block, cell, 2), Text: read("x+1yz")}
	take := impl.Step{Kind: impl.StepOut, Place: at(block, cell, 2), Text: read("x+1yz")}
	return []mapHand{
		{put, at(block, cell, 0), at(block, cell, 0), true},
		{put, at(block, cell, 1), at(block, cell, 1), true},
		{put, at(block, cell, 2), at(block, cell, 5), true},
		{put, at(block, cell, 3), at(block, cell, 6), true},
		{put, at(block, cell, 21), at(block, cell, 24), true},
		{put, at(block, cell+1, 2), at(block, cell+1, 2), true},
		{put, at(block, cell-1, 2), at(block, cell-1, 2), true},
		{put, at(block+1, cell, 2), at(block+1, cell, 2), true},
		{put, at(block-1, cell, 2), at(block-1, cell, 2), true},
		{take, at(block, cell, 0), at(block, cell, 0), true},
		{take, at(block, cell, 1), at(block, cell, 1), true},
		{take, at(block, cell, 2), at(block, cell, 2), false},
		{take, at(block, cell, 3), at(block, cell, 2), false},
		{take, at(block, cell, 4), at(block, cell, 2), false},
		{take, at(block, cell, 5), at(block, cell, 2), true},
		{take, at(block, cell, 6), at(block, cell, 3), true},
		{take, at(block, cell, 24), at(block, cell, 21), true},
		{take, at(block, cell+1, 3), at(block, cell+1, 3), true},
		{take, at(block, cell-1, 3), at(block, cell-1, 3), true},
		{take, at(block+1, cell, 3), at(block+1, cell, 3), true},
		{take, at(block-1, cell, 3), at(block-1, cell, 3), true},
	}
}

// blockMaps are those of blocks.
func blockMaps() []mapHand {
	b := readDoc("p:abc\n").Blocks[0]
	put := impl.Step{Kind: impl.StepPut, Place: in(3, 0), Now: b}
	take := impl.Step{Kind: impl.StepTake, Place: in(3, 0), Was: b}
	be := impl.Step{Kind: impl.StepBe, Place: in(3, 0), Was: b, Now: b}
	part := impl.Step{Kind: impl.StepPart, Place: in(3, 2)}
	join := impl.Step{Kind: impl.StepJoin, Place: in(3, 2)}
	return []mapHand{
		{put, at(2, 4, 9), at(2, 4, 9), true}, {put, at(3, 4, 9), at(4, 4, 9), true}, {put, at(4, 0, 0), at(5, 0, 0), true}, {put, at(0, 0, 0), at(0, 0, 0), true},
		{take, at(2, 4, 9), at(2, 4, 9), true}, {take, at(3, 0, 0), at(3, 0, 0), false}, {take, at(3, 4, 9), at(3, 0, 0), false}, {take, at(4, 4, 9), at(3, 4, 9), true}, {take, at(7, 0, 1), at(6, 0, 1), true},
		{be, at(2, 4, 9), at(2, 4, 9), true}, {be, at(3, 0, 0), at(3, 0, 0), false}, {be, at(3, 4, 9), at(3, 0, 0), false}, {be, at(4, 4, 9), at(4, 4, 9), true},
		{part, at(2, 4, 9), at(2, 4, 9), true}, {part, at(3, 0, 0), at(3, 0, 0), true}, {part, at(3, 0, 1), at(3, 0, 1), true}, {part, at(3, 0, 2), at(4, 0, 0), true}, {part, at(3, 0, 3), at(4, 0, 1), true}, {part, at(3, 0, 24), at(4, 0, 22), true}, {part, at(4, 0, 0), at(5, 0, 0), true}, {part, at(4, 4, 9), at(5, 4, 9), true},
		{part, at(3, 5, 2), at(4, 0, 0), true}, {part, at(3, 5, 7), at(4, 0, 5), true}, {part, at(3, 5, 1), at(3, 5, 1), true},
		{join, at(2, 4, 9), at(2, 4, 9), true}, {join, at(3, 0, 0), at(3, 0, 0), true}, {join, at(3, 0, 2), at(3, 0, 2), true}, {join, at(4, 0, 0), at(3, 0, 2), true}, {join, at(4, 0, 7), at(3, 0, 9), true}, {join, at(5, 0, 0), at(4, 0, 0), true}, {join, at(5, 4, 9), at(4, 4, 9), true},
		{join, at(4, 5, 7), at(3, 0, 9), true}, {join, at(3, 5, 7), at(3, 5, 7), true},
	}
}

// looseMaps are those of steps that have not what their kind says, or have no kind: it is not asked for.
func looseMaps() []mapHand {
	p := at(3, 4, 9)
	all := []mapHand{
		{impl.Step{Kind: impl.StepPut, Place: at(3, 0, 0)}, p, at(4, 4, 9), true},
		{impl.Step{Kind: impl.StepPut, Place: at(3, 7, 7), Text: read("a")}, p, at(4, 4, 9), true},
		{impl.Step{Kind: impl.StepTake, Place: at(3, 0, 0)}, p, at(3, 0, 0), false},
		{impl.Step{Kind: impl.StepTake, Place: at(3, 7, 7)}, p, at(3, 0, 0), false},
		{impl.Step{Kind: impl.StepBe, Place: at(3, 7, 7)}, p, at(3, 0, 0), false},
		{impl.Step{Kind: impl.StepIn, Place: at(3, 4, 9)}, p, p, true},
		{impl.Step{Kind: impl.StepOut, Place: at(3, 4, 9)}, p, p, true},
		{impl.Step{Kind: impl.StepIn, Place: at(3, 4, 9), Text: make([]impl.Sign, 100)}, p, at(3, 4, 109), true},
		{impl.Step{Kind: impl.StepOut, Place: at(3, 4, -91), Text: make([]impl.Sign, 100)}, p, at(3, 4, -91), true},
		{impl.Step{Kind: impl.StepOut, Place: at(3, 4, -90), Text: make([]impl.Sign, 100)}, p, at(3, 4, -90), false},
		{impl.Step{Kind: impl.StepPart, Place: at(3, 7, 9)}, p, at(4, 0, 0), true},
		{impl.Step{Kind: impl.StepJoin, Place: at(2, 7, 5)}, p, at(2, 0, 14), true},
	}
	for _, k := range []int{0, -1, 8, 9, 255, 256, 257, 263, 1<<32 + 1, -7, math.MaxInt, math.MinInt, math.MinInt + 1} {
		for _, q := range []impl.Place{p, {}, at(-1, -1, -1), at(4, 0, 0)} {
			all = append(all, mapHand{impl.Step{Kind: k, Place: q, Text: read("ab")}, p, p, true}, mapHand{impl.Step{Kind: k, Place: p, Text: read("ab")}, q, q, true})
		}
	}
	return all
}

// farMaps are those of very great and very small numbers, which are compared as they are, whatever their sum.
func farMaps() []mapHand {
	most, least := math.MaxInt, math.MinInt
	text := read("abc")
	return []mapHand{
		{impl.Step{Kind: impl.StepIn, Place: at(0, 0, least), Text: text}, at(0, 0, least), at(0, 0, least+3), true},
		{impl.Step{Kind: impl.StepIn, Place: at(0, 0, most), Text: text}, at(0, 0, most-1), at(0, 0, most-1), true},
		{impl.Step{Kind: impl.StepIn, Place: at(most, least, 0), Text: text}, at(most, least, most-3), at(most, least, most), true},
		{impl.Step{Kind: impl.StepOut, Place: at(0, 0, most-1), Text: text}, at(0, 0, most-2), at(0, 0, most-2), true},
		{impl.Step{Kind: impl.StepOut, Place: at(0, 0, most-1), Text: text}, at(0, 0, most-1), at(0, 0, most-1), false},
		{impl.Step{Kind: impl.StepOut, Place: at(0, 0, most-1), Text: text}, at(0, 0, most), at(0, 0, most-1), false},
		{impl.Step{Kind: impl.StepOut, Place: at(0, 0, most-3), Text: text}, at(0, 0, most), at(0, 0, most-3), true},
		{impl.Step{Kind: impl.StepOut, Place: at(0, 0, most), Text: text}, at(0, 0, least), at(0, 0, least), true},
		{impl.Step{Kind: impl.StepOut, Place: at(0, 0, least), Text: text}, at(0, 0, least+2), at(0, 0, least), false},
		{impl.Step{Kind: impl.StepOut, Place: at(0, 0, least), Text: text}, at(0, 0, least+3), at(0, 0, least), true},
		{impl.Step{Kind: impl.StepOut, Place: at(0, 0, least), Text: text}, at(0, 0, most), at(0, 0, most-3), true},
		{impl.Step{Kind: impl.StepOut, Place: at(0, 0, least), Text: text}, at(0, 0, 0), at(0, 0, -3), true},
		{impl.Step{Kind: impl.StepPut, Place: in(most, 0)}, at(most-1, 1, 2), at(most-1, 1, 2), true},
		{impl.Step{Kind: impl.StepPut, Place: in(least, 0)}, at(least, 1, 2), at(least+1, 1, 2), true},
		{impl.Step{Kind: impl.StepPut, Place: in(least, 0)}, at(most-1, 1, 2), at(most, 1, 2), true},
		{impl.Step{Kind: impl.StepTake, Place: in(least, 0)}, at(least, 1, 2), at(least, 0, 0), false},
		{impl.Step{Kind: impl.StepTake, Place: in(least, 0)}, at(least+1, 1, 2), at(least, 1, 2), true},
		{impl.Step{Kind: impl.StepTake, Place: in(least, 0)}, at(most, 1, 2), at(most-1, 1, 2), true},
		{impl.Step{Kind: impl.StepTake, Place: in(most, 0)}, at(least, 1, 2), at(least, 1, 2), true},
		{impl.Step{Kind: impl.StepTake, Place: in(most, 0)}, at(most, 1, 2), at(most, 0, 0), false},
		{impl.Step{Kind: impl.StepPart, Place: in(most, 3)}, at(most, 1, 2), at(most, 1, 2), true},
		{impl.Step{Kind: impl.StepPart, Place: in(0, most)}, at(0, 0, most), at(1, 0, 0), true},
		{impl.Step{Kind: impl.StepPart, Place: in(0, least)}, at(0, 0, least), at(1, 0, 0), true},
		{impl.Step{Kind: impl.StepPart, Place: in(0, least)}, at(0, 0, -1), at(1, 0, most), true},
		{impl.Step{Kind: impl.StepPart, Place: in(least, 0)}, at(most-1, 1, 2), at(most, 1, 2), true},
		{impl.Step{Kind: impl.StepJoin, Place: in(most, 3)}, at(least, 1, 2), at(least, 1, 2), true},
		{impl.Step{Kind: impl.StepJoin, Place: in(most, 3)}, at(most, 1, 2), at(most, 1, 2), true},
		{impl.Step{Kind: impl.StepJoin, Place: in(most-1, 3)}, at(most, 1, 2), at(most-1, 0, 5), true},
		{impl.Step{Kind: impl.StepJoin, Place: in(least, 3)}, at(least+1, 1, 2), at(least, 0, 5), true},
		{impl.Step{Kind: impl.StepJoin, Place: in(least, 3)}, at(most, 1, 2), at(most-1, 1, 2), true},
		{impl.Step{Kind: impl.StepBe, Place: in(most, 0)}, at(most, 1, 2), at(most, 0, 0), false},
		{impl.Step{Kind: impl.StepBe, Place: in(most, 0)}, at(least, 1, 2), at(least, 1, 2), true},
	}
}

func TestStepMapByHand(t *testing.T) {
	for i, h := range slices.Concat(signMaps(3, 0), signMaps(0, 1), signMaps(7, 24), blockMaps(), looseMaps(), farMaps()) {
		if q, stays := impl.StepMap(h.s, h.p); q != h.want || stays != h.stays {
			t.Errorf("%d %+v: %v %v", i, h, q, stays)
		}
	}
}

// Whatever is given, there is an answer.
func TestStepMapOfAnything(t *testing.T) {
	numbers := append(extremes(), 0, 1, 2)
	for _, s := range append(wrongSteps(), goodSteps()...) {
		for i, n := range numbers {
			p := at(n, numbers[(i+5)%len(numbers)], numbers[(i+11)%len(numbers)])
			impl.StepMap(s, p)
			s.Place = p
			impl.StepMap(s, at(n, p.Cell, 0))
		}
	}
}

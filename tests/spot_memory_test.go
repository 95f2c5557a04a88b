package tests

import (
	"slices"
	"testing"

	"loop.example/limner/impl"
)

// spotAnswers are the places that are told of some places of a document, of such as are none too, anew; where there is none its Block is marked.
func spotAnswers(d impl.Doc) []impl.Place {
	var all []impl.Place
	for block := -1; block <= min(len(d.Blocks), 9); block++ {
		for _, cell := range []int{-1, 0, 1, 3, 24} {
			for _, at := range []int{-1, 0, 1, 2, 5, 12, 24, 25} {
				p := impl.Place{Block: block, Cell: cell, At: at}
				q, ok := impl.SpotRaw(d, p)
				if !ok {
					q.Block = -9
				}
				all = append(all, impl.SpotNow(d, p), impl.SpotWas(d, p), q)
			}
		}
	}
	return all
}

// memorySpots are some documents with suggestions, some that are not ok, and such as share their lists within.
func memorySpots() []impl.Doc {
	all := slices.Clone(sugDocs())
	for _, c := range memorySugs() {
		if !impl.DocOk(c.d) {
			all = append(all, c.d)
		}
	}
	return append(all, sharedSteps()[0].d)
}

func TestNothingIsWrittenIntoADocOfSpots(t *testing.T) {
	for _, d := range memorySpots() {
		doc, all := roomyDoc(d)
		before := all.copied()
		spotAnswers(doc)
		sameDocRooms(t, all, before, d)
		sameDoc(t, doc, d)
	}
}

// A document may be written over, all its room, without harm to what was told of it.
func TestSpotsOutliveTheDoc(t *testing.T) {
	for _, d := range memorySpots() {
		doc, all := roomyDoc(d)
		answers := spotAnswers(doc)
		all.wipe()
		same(t, answers, spotAnswers(d), d)
	}
}

// What is behind the end of a list, or whether an empty one is nil, is no matter.
func TestSpotsHangOnNoSpareRoom(t *testing.T) {
	for _, d := range memorySpots() {
		want := spotAnswers(d)
		roomy, _ := roomyDoc(d)
		same(t, spotAnswers(roomy), want, d)
		empty := copiedDoc(d)
		for i := range empty.Blocks {
			b := &empty.Blocks[i]
			b.Text = append([]impl.Sign{}, b.Text...)
			b.Table.Cells = append([]impl.Cell{}, b.Table.Cells...)
			for j, c := range b.Table.Cells {
				b.Table.Cells[j].Text = append([]impl.Sign{}, c.Text...)
			}
		}
		same(t, spotAnswers(empty), want, d)
	}
}

// Nothing is kept between two calls, of one document or of others between them.
func TestSpotsTwice(t *testing.T) {
	docs := memorySpots()
	var first [][]impl.Place
	for _, d := range docs {
		first = append(first, spotAnswers(d))
	}
	for i, d := range slices.Backward(docs) {
		same(t, spotAnswers(d), first[i], d)
		same(t, spotAnswers(d), first[i], d)
	}
}

package tests

import (
	"slices"
	"testing"

	"loop.example/limner/impl"
)

// sugAnswers are all documents that are answered of a document and what is suggested, anew, and some that are refused.
func sugAnswers(c sugCase) []impl.Doc {
	var all []impl.Doc
	add := func(x impl.Doc, _ bool) { all = append(all, x) }
	s, n := c.s+"y", max(c.n, 1) // both kinds, whichever the case is of
	for _, who := range []int{c.who, 1 + c.who%3, 0} {
		add(impl.SugIn(c.d, c.p, s[:max(1, len(c.s))], who))
		add(impl.SugIn(c.d, c.p, "A", who))
		add(impl.SugOut(c.d, c.p, n, who))
		add(impl.SugOut(c.d, c.p, impl.TextMax+1, who))
		all = append(all, impl.SugTake(c.d, who), impl.SugDrop(c.d, who))
	}
	return append(all, impl.SugNow(c.d), impl.SugWas(c.d))
}

// memorySugs are some suggestions of each kind, made and refused, such of documents that are not ok, and such in which the document shares its lists within.
func memorySugs() []sugCase {
	var all []sugCase
	for i, c := range slices.Concat(sugIns(), sugOuts()) {
		if i%37 == 0 {
			all = append(all, c)
		}
	}
	for i, d := range wrongDocs() {
		if i%17 == 0 && len(d.Blocks) < 100 {
			all = append(all, sugCase{d: d, s: "y", n: 1, who: 1 + i%3})
		}
	}
	for i, c := range sharedSteps() {
		for cell := range 2 {
			all = append(all, sugCase{d: c.d, p: impl.Place{Block: i % 6, Cell: cell, At: i % 4}, s: "y", n: 1 + i%3, who: 1 + i%3})
		}
	}
	return append(all, sugCase{d: impl.Doc{}, s: "y", n: 1, who: 1})
}

// Both the good and the refused come, of each answer that may be either.
func TestMemorySugs(t *testing.T) {
	met := map[int][2]int{}
	for _, c := range memorySugs() {
		for i, x := range sugAnswers(c) {
			n := met[i]
			n[min(1, len(x.Blocks))]++
			met[i] = n
		}
	}
	for i, n := range met {
		always := i == 1 || i == 3 || i == 7 || i == 9 || 12 <= i && i <= 15 // wrong bytes, too many signs, nobody
		if n[0] < 20 || always != (n[1] == 0) || !always && n[1] < 50 {
			t.Error(i, n)
		}
	}
}

// withDoc is the case of another document.
func (c sugCase) withDoc(d impl.Doc) sugCase {
	c.d = d
	return c
}

func TestNothingIsWrittenIntoASuggestedDoc(t *testing.T) {
	for _, c := range memorySugs() {
		doc, all := roomyDoc(c.d)
		before := all.copied()
		sugAnswers(c.withDoc(doc))
		impl.SugBy(doc)
		sameDocRooms(t, all, before, c)
		sameDoc(t, doc, c.d, c)
	}
}

// An answer, its spare room too, may be written over without harm to the document, or to any other answer.
func TestSugAnswersAreNewMemory(t *testing.T) {
	for _, c := range memorySugs() {
		doc, all := roomyDoc(c.d)
		before := all.copied()
		answers := sugAnswers(c.withDoc(doc))
		want := sugAnswers(c.withDoc(copiedDoc(c.d)))
		for i, a := range answers {
			sameDoc(t, a, want[i], "an answer has changed", c, i)
			overwriteDoc(a)
			sameDocRooms(t, all, before, "an answer shares the document", c, i)
		}
	}
}

// A document may be written over, all its room, without harm to what was answered of it.
func TestSugAnswersOutliveTheDoc(t *testing.T) {
	for _, c := range memorySugs() {
		doc, all := roomyDoc(c.d)
		answers, by := sugAnswers(c.withDoc(doc)), impl.SugBy(doc)
		all.wipe()
		for i, want := range sugAnswers(c) {
			sameDoc(t, answers[i], want, "an answer shares the document", c, i)
		}
		same(t, by, impl.SugBy(c.d), c)
	}
}

// The lists of one answer, their spare room too, are apart: each is written over by a number of its own, and keeps it. Spare blocks have none.
func TestListsOfOneSugAnswerAreApart(t *testing.T) {
	for _, c := range memorySugs() {
		for _, a := range sugAnswers(c) {
			spareIsEmpty(t, impl.Hist{Doc: a}, c)
			listsAreApart(t, a, c)
		}
	}
}

// Nothing is kept between two calls: whatever is done to the first answer, the second is what the first was.
func TestSugAnswersTwice(t *testing.T) {
	for _, c := range memorySugs() {
		one, two := sugAnswers(c), sugAnswers(c)
		for i := range one {
			before := copiedDoc(two[i])
			overwriteDoc(one[i])
			sameDoc(t, two[i], before, c, i)
		}
		for i, x := range sugAnswers(c) {
			sameDoc(t, x, two[i], c, i)
		}
		by, again := impl.SugBy(c.d), impl.SugBy(c.d)
		before := slices.Clone(again)
		fill(by, -9)
		same(t, again, before, c)
		same(t, impl.SugBy(c.d), before, c)
	}
}

package tests

import (
	"slices"
	"strings"
	"testing"

	"loop.example/limner/impl"
)

// someLines are the places in a text of lines at which others are put in: not all, so that it does not take long.
func someLines(lines []string) []int {
	all := []int{0, len(lines)}
	for at := 1; at < len(lines); at += 3 {
		all = append(all, at)
	}
	return all
}

// changesNothing says that the answers to a text are the same with lines put in at a place, whose own answers are left out; those it gives back.
func changesNothing(t *testing.T, lines []string, at int, in ...string) []string {
	t.Helper()
	with := slices.Insert(slices.Clone(lines), at, in...)
	got := answersTo(t, with)
	sameAnswers(t, slices.Delete(slices.Clone(got), at, at+len(in)), answersTo(t, lines), with)
	return got[at : at+len(in)]
}

func TestPromise107FirstLinesSayWhatTheySayWithoutTheRest(t *testing.T) {
	for _, lines := range lineWalks() {
		firstSayTheSame(t, lines, len(lines)/3, len(lines)*2/3)
	}
	for _, lines := range shortWalks() {
		for at := range lines {
			firstSayTheSame(t, lines, at)
		}
	}
}

// firstSayTheSame says that so many lines of a text say what they say without the rest.
func firstSayTheSame(t *testing.T, lines []string, sizes ...int) {
	t.Helper()
	all := impl.LinesRun(textOfLines(lines))
	for _, n := range sizes {
		if first := impl.LinesRun(textOfLines(lines[:n])); !strings.HasPrefix(all, first) {
			t.Fatalf("%q says\n%q, of which its first %d lines say\n%q", textOfLines(lines), all, n, first)
		}
	}
}

func TestPromise108LinesWithoutWordsSayNothing(t *testing.T) {
	for n := range 20 {
		saysJust(t, strings.Repeat("\n", n), "")
	}
	for i, lines := range lineWalks() {
		want := impl.LinesRun(textOfLines(lines))
		wide := "\n\n"
		for j, line := range lines {
			wide += line + strings.Repeat("\n", 1+(i+j)%4)
		}
		if len(wide) <= impl.LinesMax {
			saysJust(t, wide, want)
		}
	}
	for _, lines := range shortWalks() {
		for _, at := range someLines(lines) {
			changesNothing(t, lines, at, "")
			changesNothing(t, lines, at, "", "", "")
		}
	}
}

func TestPromise109ParagraphPutInAndUndoneChangesNothingOfWhatIsShown(t *testing.T) {
	done := 0
	for _, lines := range shortWalks() {
		for _, at := range someLines(lines) {
			first := lines[:at]
			shown := answersTo(t, first, []string{"show"})[at]
			for block := range impl.DocMax + 2 {
				got := answersTo(t, first, []string{sentence("para", block), "undo", "show"})[at:]
				if got[0] == "done\n" {
					done++
					sameAnswers(t, got[1:], []string{"done\n", shown}, first)
				}
			}
		}
	}
	if done < 1000 {
		t.Fatal("few paragraphs", done)
	}
}

func TestPromise110ToShowChangesNothing(t *testing.T) {
	for _, lines := range shortWalks() {
		for _, at := range someLines(lines) {
			said := changesNothing(t, lines, at, "show", "show")
			sameAnswers(t, said[1:], said[:1], lines)
		}
	}
}

// Beside lines that are none also such as are known, but can be done nowhere.
func TestPromise111LineThatIsNoneChangesNothing(t *testing.T) {
	nones := slices.Concat(noLines(), nowhere())
	for i, lines := range shortWalks() {
		for j, at := range someLines(lines) {
			none := nones[(i*7+j)%len(nones)]
			sameAnswers(t, changesNothing(t, lines, at, none), []string{"no\n"}, lines, []string{none})
		}
	}
	lines := shortWalks()[7]
	for _, none := range nones {
		for _, at := range []int{0, len(lines) / 2, len(lines)} {
			sameAnswers(t, changesNothing(t, lines, at, none), []string{"no\n"}, lines, []string{none})
		}
	}
}

// Also what is undone, and done again, after that; and what is shown on the way there and back.
func TestPromise112WhatIsUndoneAndDoneAgainIsAsItWas(t *testing.T) {
	back := 0
	for _, lines := range shortWalks() {
		for _, at := range someLines(lines) {
			for _, n := range []int{1, 2, impl.HistMax} {
				if !allDone(answersTo(t, lines[:at], slices.Repeat([]string{"undo"}, n))[at:]) {
					break
				}
				back++
				there := slices.Concat([]string{"show"}, slices.Repeat([]string{"undo", "show"}, n))
				again := slices.Repeat([]string{"redo", "show"}, n)
				said := changesNothing(t, lines, at, slices.Concat(there, again)...)
				shown := slices.DeleteFunc(said, func(s string) bool { return s == "done\n" })
				if len(shown) != 2*n+1 {
					t.Fatalf("%q behind %q", said, lines[:at])
				}
				for i := range n {
					sameAnswers(t, shown[2*n-i:2*n-i+1], shown[i:i+1], lines[:at], there, again)
				}
			}
		}
	}
	if back < 500 {
		t.Fatal("little was undone", back)
	}
}

// allDone says whether all answers are that it is done.
func allDone(answers []string) bool {
	return !slices.ContainsFunc(answers, func(s string) bool { return s != "done\n" })
}

// Every word comes in the texts that the promises are tested on, often done and often not, and lines that change several blocks.
func TestLineWalks(t *testing.T) {
	done, not, several := map[string]int{}, map[string]int{}, map[string]int{}
	for _, lines := range lineWalks() {
		k := newClerk()
		for _, line := range lines {
			word, _, _ := strings.Cut(line, " ")
			was := k.doc()
			after, said := k.answer(line)
			if said == "no\n" {
				not[word]++
			} else {
				done[word]++
			}
			k = after
			if len(changedBlocks(was, k.doc())) > 1 && len(was.Blocks) == len(k.doc().Blocks) {
				several[word]++
			}
		}
	}
	for _, w := range lineWords() {
		if done[w.word] < 20 || not[w.word] < 20 {
			t.Error("few lines of", w.word, done[w.word], not[w.word])
		}
	}
	for _, word := range []string{"take", "drop", "sink", "lift"} {
		if several[word] < 10 {
			t.Error("few lines that change several blocks of", word, several[word])
		}
	}
}

// changedBlocks are the places of all blocks of a document that are other ones in another document.
func changedBlocks(was, now impl.Doc) []int {
	var all []int
	for i, b := range now.Blocks {
		if i >= len(was.Blocks) || !sameBlock(was.Blocks[i], b) {
			all = append(all, i)
		}
	}
	return all
}

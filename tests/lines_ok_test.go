package tests

import (
	"slices"
	"strings"
	"testing"

	"loop.example/limner/impl"
)

// nowhere are lines that are known, but whose numbers are such that they can be done nowhere.
func nowhere() []string {
	return []string{
		"para 9", "para 99", "para -1", "para x", "para 100", "table 9 1 1", "table 0 0 1", "table 0 1 0", "table 0 6 1", "table 0 1 6", "table 0 10 10", "table x 1 1", "table 0 x 1", "table 0 1 -1",
		"in 8 0 0 a", "in 0 25 0 a", "in 0 0 25 a", "in -1 0 0 a", "in 0 -1 0 a", "in 0 0 -1 a", "in x 0 0 a", "in 0 0 0 A", "in 0 0 0 a-b", "in 0 0 0 ", "in 0 0 0 \t", "in 0 0 0 é", "in 0 0 0 abcdefghijklmnopqrstuvwxy",
		"part 8 0", "part 0 25", "part -1 0", "part 0 -1", "part x 0", "part 0 x", "join 7", "join 8", "join 99", "join -1", "join x",
		"item 8", "item -1", "item x", "sink 0", "sink 8", "sink -1", "sink x", "lift 8", "lift -1", "lift x",
		"sugin 8 0 0 1 a", "sugin 0 25 0 1 a", "sugin 0 0 25 1 a", "sugin 0 0 0 0 a", "sugin 0 0 0 4 a", "sugin 0 0 0 x a", "sugin 0 0 0 -1 a", "sugin 0 0 0 1 A", "sugin 0 0 0 1 ", "sugin 0 0 0 1 abcdefghijklmnopqrstuvwxy",
		"sugout 8 0 0 1 1", "sugout 0 25 0 1 1", "sugout 0 0 24 1 1", "sugout 0 0 0 0 1", "sugout 0 0 0 4 1", "sugout 0 0 0 x 1", "sugout 0 0 0 1 0", "sugout 0 0 0 1 25", "sugout 0 0 0 1 -1", "sugout 0 0 0 1 x",
		"take 0", "take 4", "take 10", "take 99", "take -1", "take +1", "take x", "take 01", "take 1.0", "drop 0", "drop 4", "drop 12", "drop -2", "drop x", "drop 03",
		"rowin 8 0", "rowin 0 6", "rowin -1 0", "rowin 0 -1", "rowin x 0", "rowin 0 x", "rowout 8 0", "rowout 0 5", "rowout -1 0", "rowout 0 -1", "rowout x 0", "rowout 0 x",
		"colin 8 0", "colin 0 6", "colin -1 0", "colin 0 -1", "colin x 0", "colin 0 x", "colout 8 0", "colout 0 5", "colout -1 0", "colout 0 -1", "colout x 0", "colout 0 x",
		"merge 8 0 0 1 2", "merge 0 5 0 1 1", "merge 0 0 5 1 1", "merge 0 0 0 6 1", "merge 0 0 0 1 6", "merge 0 0 0 0 0", "merge 0 0 0 1 1", "merge x 0 0 1 2", "merge 0 -1 0 2 1", "split 8 0", "split 0 25", "split -1 0", "split 0 -1", "split 0 x",
	}
}

// dialogue says that each line is answered by what stands behind it, each line ended by a comma in what is shown.
func dialogue(t *testing.T, said ...string) {
	t.Helper()
	var lines, want []string
	for _, s := range said {
		line, answer, _ := strings.Cut(s, " = ")
		lines = append(lines, line)
		want = append(want, strings.ReplaceAll(answer, ",", "\n")+"\n")
	}
	sameAnswers(t, answersTo(t, lines), want, lines)
}

func TestLinesByTheWords(t *testing.T) {
	for _, lines := range lineWalks() {
		sameAnswers(t, answersTo(t, lines), wantAnswers(lines), lines)
	}
}

func TestLinesOfBlocksAndTexts(t *testing.T) {
	dialogue(t,
		"show = end", "para 0 = done", "show = p:,end", "in 0 0 0 abcd = done", "in 0 0 4 ef = done", "in 0 0 2 0 = done", "in 0 0 8 x = no", "in 0 1 0 x = no", "in 1 0 0 x = no", "show = p:ab0cdef,end",
		"part 0 3 = done", "part 1 4 = done", "part 0 0 = done", "part 0 1 = no", "part 4 0 = no", "show = p:,p:ab0,p:cdef,p:,end", "join 0 = done", "join 1 = done", "show = p:ab0,p:cdef,end",
		"join 1 = no", "join 0 = done", "join 0 = no", "show = p:ab0cdef,end", "para 2 = no", "para 1 = done", "para 0 = done", "in 2 0 0 z = done", "show = p:,p:ab0cdef,p:z,end",
		"table 1 2 3 = done", "in 1 5 0 f = done", "in 1 0 0 a = done", "in 1 6 0 g = no", "part 1 0 = no", "join 0 = no", "join 1 = no",
		"show = p:,t23:,c0011:a,c0111:,c0211:,c1011:,c1111:,c1211:f,p:ab0cdef,p:z,end", "table 4 1 1 = done", "table 6 1 1 = no", "join 4 = no", "join 3 = no", "item 2 = done", "join 2 = no", "item 3 = done", "join 2 = done", "show = p:,t23:,c0011:a,c0111:,c0211:,c1011:,c1111:,c1211:f,i0:ab0cdefz,t11:,c0011:,end",
	)
}

func TestLinesOfItems(t *testing.T) {
	dialogue(t,
		"item 0 = no", "para 0 = done", "para 1 = done", "para 2 = done", "sink 0 = no", "lift 0 = no", "item 1 = done", "item 1 = no", "item 2 = done", "show = p:,i0:,i0:,end",
		"sink 1 = no", "sink 2 = done", "sink 2 = no", "show = p:,i0:,i1:,end", "lift 1 = no", "item 0 = done", "sink 1 = done", "show = i0:,i1:,i2:,end", "join 1 = no", "sink 1 = no", "lift 1 = done", "show = i0:,i0:,i1:,end",
		"lift 2 = done", "join 1 = done", "show = i0:,i0:,end", "lift 1 = done", "lift 1 = no", "show = i0:,p:,end", "lift 0 = done", "show = p:,p:,end", "item 2 = no", "sink 2 = no", "lift 2 = no",
		"table 2 1 1 = done", "item 2 = no", "sink 2 = no", "lift 2 = no",
	)
}

func TestLinesOfSuggestions(t *testing.T) {
	dialogue(t,
		"take 1 = done", "drop 3 = done", "para 0 = done", "in 0 0 0 abcd = done", "sugin 0 0 2 1 xy = done", "sugout 0 0 1 2 2 = done", "show = p:a-2b+1-2x+1ycd,end", "sugout 0 0 2 1 3 = done", "show = p:a-2b+1-2x-1cd,end",
		"sugout 0 0 1 3 2 = done", "show = p:a-2b+1-2x-1cd,end", "undo = done", "show = p:a-2b+1-2x+1ycd,end", "redo = done", "take 3 = done", "drop 3 = done", "show = p:a-2b+1-2x-1cd,end",
		"sugin 0 0 5 1 e = done", "sugin 0 0 7 1 e = no", "sugin 0 1 0 1 e = no", "sugin 1 0 0 1 e = no", "sugout 0 0 6 1 1 = no", "sugout 0 0 5 1 2 = no", "show = p:a-2b+1-2x-1cd+1e,end", "take 1 = done", "show = p:a-2b-2xde,end",
		"drop 2 = done", "show = p:abxde,end", "sugin 0 0 0 3 99 = done", "sugout 0 0 2 3 1 = done", "drop 3 = done", "show = p:abxde,end", "undo = done", "show = p:+39+39-3abxde,end", "take 3 = done", "show = p:99bxde,end",
		"table 1 1 2 = done", "sugin 1 1 0 2 b = done", "sugout 1 1 0 1 1 = done", "show = p:99bxde,t12:,c0011:,c0111:+2-1b,end", "take 2 = done", "show = p:99bxde,t12:,c0011:,c0111:-1b,end", "take 1 = done", "show = p:99bxde,t12:,c0011:,c0111:,end",
	)
}

func TestLinesOfTables(t *testing.T) {
	dialogue(t,
		"rowin 0 0 = no", "table 0 2 2 = done", "in 0 0 0 a = done", "in 0 2 0 c = done", "merge 0 0 0 2 1 = done", "show = t22:,c0021:ac,c0111:,c1111:,end", "merge 0 0 0 2 1 = no", "merge 0 0 0 1 2 = no",
		"rowin 0 1 = done", "show = t32:,c0031:ac,c0111:,c1111:,c2111:,end", "rowin 0 4 = no", "rowin 0 3 = done", "show = t42:,c0031:ac,c0111:,c1111:,c2111:,c3011:,c3111:,end", "rowin 0 0 = done", "rowin 0 0 = no",
		"rowout 0 5 = no", "rowout 0 0 = done", "rowout 0 3 = done", "rowout 0 2 = done", "show = t22:,c0021:ac,c0111:,c1111:,end", "colin 0 3 = no", "colin 0 1 = done", "show = t23:,c0021:ac,c0111:,c0211:,c1111:,c1211:,end",
		"colout 0 3 = no", "colout 0 2 = done", "split 0 1 = no", "split 0 3 = no", "split 0 0 = done", "show = t22:,c0011:ac,c0111:,c1011:,c1111:,end", "colout 0 0 = done", "colout 0 0 = no", "rowout 0 1 = done", "rowout 0 0 = no", "show = t11:,c0011:,end",
		"merge 0 0 0 1 1 = no", "undo = done", "undo = done", "undo = done", "show = t22:,c0021:ac,c0111:,c1111:,end",
		"para 0 = done", "rowin 0 0 = no", "rowout 0 0 = no", "colin 0 0 = no", "colout 0 0 = no", "merge 0 0 0 1 1 = no", "split 0 0 = no", "rowin 2 0 = no", "item 0 = done", "rowin 0 0 = no", "split 1 0 = done",
		"show = i0:,t22:,c0011:ac,c0111:,c1011:,c1111:,end", "merge 1 0 0 2 2 = done", "show = i0:,t22:,c0022:ac,end",
	)
}

// All that is refused leaves what was undone, and all that is done but changes nothing; a step does not.
func TestLinesOfWhatWasDone(t *testing.T) {
	dialogue(t,
		"undo = no", "redo = no", "para 0 = done", "redo = no", "undo = done", "undo = no", "show = end", "redo = done", "redo = no", "show = p:,end", "in 0 0 0 ab = done", "undo = done", "redo = done", "undo = done", "undo = done",
		"para 1 = no", "undo 1 = no", "take 1 = done", "drop 2 = done", "take 4 = no", "show = end", "redo = done", "join 0 = no", "sink 0 = no", "rowin 0 0 = no", "redo = done", "redo = no", "show = p:ab,end",
		"undo = done", "para 0 = done", "redo = no", "show = p:,p:,end", "undo = done", "undo = done", "undo = no", "show = end",
	)
}

// In order; of lift the last one first: each is undone alone, the last one first.
func TestLinesThatChangeSeveralBlocks(t *testing.T) {
	dialogue(t,
		"para 0 = done", "para 1 = done", "para 2 = done", "para 3 = done", "item 0 = done", "item 1 = done", "sink 1 = done", "item 2 = done", "sink 2 = done", "sink 2 = done", "item 3 = done",
		"lift 1 = done", "show = i0:,i0:,i1:,i0:,end", "undo = done", "show = i0:,i1:,i1:,i0:,end", "undo = done", "show = i0:,i1:,i2:,i0:,end", "redo = done", "show = i0:,i1:,i1:,i0:,end", "redo = done", "redo = no", "show = i0:,i0:,i1:,i0:,end",
		"sink 1 = done", "show = i0:,i1:,i2:,i0:,end", "undo = done", "show = i0:,i1:,i1:,i0:,end", "undo = done", "show = i0:,i0:,i1:,i0:,end", "redo = done", "show = i0:,i1:,i1:,i0:,end", "redo = done", "redo = no", "show = i0:,i1:,i2:,i0:,end",
	)
	dialogue(t,
		"para 0 = done", "para 0 = done", "table 2 1 2 = done", "sugin 0 0 0 1 a = done", "sugin 1 0 0 2 b = done", "sugin 2 0 0 1 c = done", "sugin 2 1 0 1 d = done", "show = p:+1a,p:+2b,t12:,c0011:+1c,c0111:+1d,end",
		"take 1 = done", "show = p:a,p:+2b,t12:,c0011:c,c0111:d,end", "undo = done", "show = p:a,p:+2b,t12:,c0011:+1c,c0111:+1d,end", "undo = done", "show = p:+1a,p:+2b,t12:,c0011:+1c,c0111:+1d,end", "redo = done", "show = p:a,p:+2b,t12:,c0011:+1c,c0111:+1d,end",
		"undo = done", "drop 1 = done", "redo = no", "show = p:,p:+2b,t12:,c0011:,c0111:,end", "undo = done", "show = p:,p:+2b,t12:,c0011:+1c,c0111:+1d,end", "undo = done", "show = p:+1a,p:+2b,t12:,c0011:+1c,c0111:+1d,end", "redo = done", "redo = done", "redo = no", "show = p:,p:+2b,t12:,c0011:,c0111:,end",
	)
}

// All blocks there may be are other ones at once: these are eight of the twelve steps that are remembered.
func TestLinesThatChangeAllBlocks(t *testing.T) {
	var lines []string
	for i := range impl.DocMax {
		lines = append(lines, sentence("para", i), sentence("sugin", i, 0, 0, 1, "a"))
	}
	want := []string{"done\n"}
	for taken := impl.DocMax; taken >= 0; taken-- {
		want = append(want, strings.Repeat("p:a\n", taken)+strings.Repeat("p:+1a\n", impl.DocMax-taken)+"end\n", "done\n")
	}
	for _, last := range []string{"p:+1a\np:\n", "p:+1a\n", "p:\n", ""} {
		want = append(want, strings.Repeat("p:+1a\n", 6)+last+"end\n", "done\n")
	}
	want[len(want)-1] = "no\n"
	got := answersTo(t, lines, []string{"take 1"}, slices.Repeat([]string{"show", "undo"}, 13))
	sameAnswers(t, got[len(lines):], want, lines)
	again := answersTo(t, lines, []string{"take 1"}, slices.Repeat([]string{"undo"}, 12), slices.Repeat([]string{"show", "redo"}, 13))
	for i := range 13 {
		sameAnswers(t, again[len(again)-26+2*i:][:1], want[25-2*i:][:1], lines)
	}
	sameAnswers(t, again[len(again)-1:], []string{"no\n"}, lines)
}

// eachIsAStep says that a line makes one document of another one block by block, each by a step of its own, in the order of the list: they are undone one by one, and done again.
func eachIsAStep(t *testing.T, d impl.Doc, line string, x impl.Doc, order []int) {
	t.Helper()
	lines := linesTo(d)
	shown := []string{impl.DocWrite(d) + "end\n"}
	for _, i := range order {
		d = copiedDoc(d)
		d.Blocks[i] = x.Blocks[i]
		shown = append(shown, impl.DocWrite(d)+"end\n")
	}
	sameDoc(t, d, x, line)
	want := []string{shown[0], "done\n"}
	for i := len(order); i > 0; i-- {
		want = append(want, shown[i], "done\n")
	}
	for i := range order {
		want = append(want, shown[i], "done\n")
	}
	want = append(want, shown[len(order)], "no\n")
	undos, redos := slices.Repeat([]string{"show", "undo"}, len(order)), slices.Repeat([]string{"show", "redo"}, len(order)+1)
	got := answersTo(t, lines, []string{"show", line}, undos, redos)[len(lines):]
	if len(order) == 0 { // it may still be that something is done again
		got, want = got[:3], want[:3]
	}
	sameAnswers(t, got, want, lines, []string{line})
}

func TestSinkAndLiftAreAStepABlock(t *testing.T) {
	several := 0
	for i, shape := range okShapes() {
		if len(shape) > 4 && i%5 != 0 {
			continue
		}
		d := plainShape(shape)
		for at := range d.Blocks {
			if x, ok := impl.DocSink(d, at); ok {
				eachIsAStep(t, d, sentence("sink", at), x, changedBlocks(d, x))
			}
			if x, ok := impl.DocLift(d, at); ok {
				order := changedBlocks(d, x)
				slices.Reverse(order)
				eachIsAStep(t, d, sentence("lift", at), x, order)
				if len(order) > 1 {
					several++
				}
			}
		}
	}
	if several < 100 {
		t.Fatal("few are lifted with some below", several)
	}
}

// plainShape is a document of that shape, whose texts are a sign each.
func plainShape(shape string) impl.Doc {
	d := shaped(shape, 0)
	for i, b := range d.Blocks {
		if b.Kind == impl.BlockTable {
			d.Blocks[i].Table = impl.TableNew(1, 2)
		} else {
			d.Blocks[i].Text = impl.TextOf("abcdefgh"[i : i+1])
		}
	}
	return d
}

func TestTakeAndDropAreAStepABlock(t *testing.T) {
	var met [9]int
	for _, d := range lineDocs() {
		for _, who := range people() {
			taken, dropped := wantTake(d, who), wantDrop(d, who)
			eachIsAStep(t, d, sentence("take", who), taken, changedBlocks(d, taken))
			eachIsAStep(t, d, sentence("drop", who), dropped, changedBlocks(d, dropped))
			met[len(changedBlocks(d, taken))]++
		}
	}
	for n := range 4 {
		if met[n] < 10 {
			t.Fatal("few documents of which so many blocks are other ones", n, met)
		}
	}
}

// Documents that are made by lines are shown just as they are written.
func TestLinesMakeDocuments(t *testing.T) {
	for _, d := range lineDocs() {
		said := answersTo(t, linesTo(d), []string{"show"})
		end := len(said) - 1
		if !allDone(said[:end]) {
			t.Fatal(linesTo(d), said)
		}
		sameAnswers(t, said[end:], []string{impl.DocWrite(d) + "end\n"}, linesTo(d))
	}
}

// fixture is a document at which something can be done by every word; the last step is undone.
func fixture() []string {
	return append(linesTo(readDoc("p:ab+1c-2d\ni0:e\ni0:f\np:g\np:h\nt22:\nc0021:i\nc0111:\nc1111:\n")), "para 0", "undo")
}

// goodLines are lines of every word that are done there.
func goodLines() []string {
	return []string{
		"para 0", "para 6", "table 6 1 2", "in 0 0 1 a", "in 5 2 0 a", "part 0 1", "part 2 0", "join 3", "item 3", "sink 2", "lift 1", "sugin 0 0 4 3 z", "sugout 0 0 1 1 2", "take 1", "drop 2",
		"undo", "redo", "show", "rowin 5 2", "rowout 5 0", "colin 5 1", "colout 5 1", "merge 5 0 1 2 1", "split 5 0",
	}
}

// isRefusedThere says that a line is answered by no, and changes nothing of the fixture: what was undone is still there too.
func isRefusedThere(t *testing.T, line string) {
	t.Helper()
	lines := fixture()
	want := answersTo(t, lines, []string{"show", "redo", "undo", "undo", "show"})[len(lines):]
	got := answersTo(t, lines, []string{line, "show", "redo", "undo", "undo", "show"})[len(lines):]
	sameAnswers(t, got, slices.Concat([]string{"no\n"}, want), lines, []string{line})
}

func TestGoodLines(t *testing.T) {
	words := map[string]bool{}
	for _, line := range goodLines() {
		word, _, _ := strings.Cut(line, " ")
		words[word] = true
		lines := append(fixture(), line)
		if said := answersTo(t, lines); !allDone(said[:len(said)-1]) || said[len(said)-1] == "no\n" {
			t.Error(line, said)
		}
		sameAnswers(t, answersTo(t, lines, []string{"show"}), wantAnswers(append(lines, "show")), lines)
	}
	if len(words) != len(lineWords()) {
		t.Error(words)
	}
}

// Numbers that are written otherwise are none, wherever they stand, also if they are the same ones.
func TestNumbersThatAreNone(t *testing.T) {
	for _, line := range goodLines() {
		words := strings.Split(line, " ")
		for i, n := range words {
			if i == 0 || !numberShape.MatchString(n) {
				continue
			}
			if words[0] == "in" && i == 4 || words[0] == "sugin" && i == 5 {
				continue // a word, which may be of figures
			}
			others := []string{"", "0" + n, "00" + n, "+" + n, "-" + n, n + ".", n + ".0", n + "e0", "0x" + n, "0b" + n, "0o" + n, n + "_", "_" + n, "'" + n, n + "\r", n + "\t", n + "\x00", "10" + n, "x", "-1", "100", "999", "18446744073709551616", strings.Repeat("9", 40), string(rune(0xff10 + int(n[0]-'0'))), string(rune(0x660 + int(n[0]-'0')))}
			for _, other := range others {
				isRefusedThere(t, strings.Join(slices.Concat(words[:i], []string{other}, words[i+1:]), " "))
			}
		}
	}
}

func TestWordsThatAreNone(t *testing.T) {
	for _, line := range goodLines() {
		words := strings.Split(line, " ")
		for i := range words {
			isRefusedThere(t, strings.Join(slices.Concat(words[:i], []string{""}, words[i:]), " ")) // two blanks together, or one at the beginning
			isRefusedThere(t, strings.Join(slices.Concat(words[:i], []string{"0"}, words[i:]), " "))
			isRefusedThere(t, strings.Join(slices.Concat(words[:i], []string{"show"}, words[i:]), " "))
			if i > 0 {
				isRefusedThere(t, strings.Join(slices.Concat(words[:i], words[i+1:]), " "))
				isRefusedThere(t, strings.Join(words[:i], " ")+"\t"+strings.Join(words[i:], " "))
				isRefusedThere(t, strings.Join(words[:i], " ")+strings.Join(words[i:], " "))
				isRefusedThere(t, strings.Join(words[:i], " ")+"\u00a0"+strings.Join(words[i:], " "))
			}
		}
		for _, other := range []string{line + " ", line + " 0", line + " a", line + "\r", line + "\t", line + "\x00", line + ";", "\ufeff" + line, strings.ToUpper(line), strings.ToUpper(line[:1]) + line[1:], "x" + line, line[1:]} {
			isRefusedThere(t, other)
		}
	}
}

func TestLinesThatAreNone(t *testing.T) {
	for _, line := range slices.Concat(noLines(), nowhere()) {
		saysJust(t, line, "no\n")
		saysJust(t, line+"\n", "no\n")
		saysJust(t, "show\n\n"+line+"\n\nshow", "end\nno\nend\n")
		isRefusedThere(t, line)
	}
	for b := range 256 {
		word := string([]byte{byte(b)})
		if b == '\n' {
			saysJust(t, word, "")
			continue
		}
		saysJust(t, word, "no\n")
		isRefusedThere(t, word)
		said := "no"
		if b >= 'a' && b <= 'z' || b >= '0' && b <= '9' {
			said = "done"
		}
		saysJust(t, "para 0\nin 0 0 0 "+word+"\nsugin 0 0 0 1 "+word+"\n", "done\n"+said+"\n"+said+"\n")
		saysJust(t, "para 0\nin 0 0 0 a"+word+"c\n", "done\n"+said+"\n")
		isRefusedThere(t, "para "+word+"0")
		isRefusedThere(t, "undo"+word)
	}
}

// Of all blocks of a document those that are no table are none to whom something is done by a word of tables, and tables by one of items and texts.
func TestLinesOfOtherKinds(t *testing.T) {
	for _, block := range []int{0, 1, 3} {
		for _, word := range []string{"rowin", "rowout", "colin", "colout", "split"} {
			isRefusedThere(t, sentence(word, block, 0))
		}
		isRefusedThere(t, sentence("merge", block, 0, 0, 1, 1))
		isRefusedThere(t, sentence("merge", block, 0, 0, 2, 1))
	}
	for _, line := range []string{"part 5 0", "join 5", "join 4", "join 0", "join 2", "item 5", "sink 5", "lift 5", "item 1", "sink 0", "lift 0", "sink 1", "lift 3"} {
		isRefusedThere(t, line)
	}
}

func TestNumbersOfTwoFigures(t *testing.T) {
	dialogue(t,
		"para 0 = done", "in 0 0 0 abcdefghijkl = done", "in 0 0 12 mnopqrstuvw = done", "in 0 0 10 0 = done", "show = p:abcdefghij0klmnopqrstuvw,end", "in 0 0 24 y = no", "sugin 0 0 24 1 y = no", "sugin 0 0 12 1 y = no",
		"sugout 0 0 23 1 1 = done", "sugout 0 0 23 1 2 = no", "sugout 0 0 13 2 11 = done", "sugout 0 0 13 2 12 = no", "show = p:abcdefghij0kl-2m-2n-2o-2p-2q-2r-2s-2t-2u-2v-1w,end",
		"part 0 25 = no", "part 0 24 = done", "undo = done", "part 0 13 = done", "show = p:abcdefghij0kl,p:-2m-2n-2o-2p-2q-2r-2s-2t-2u-2v-1w,end", "part 0 11 = done", "show = p:abcdefghij0,p:kl,p:-2m-2n-2o-2p-2q-2r-2s-2t-2u-2v-1w,end",
		"para 10 = no", "join 10 = no", "take 10 = no", "take 2 = done", "show = p:abcdefghij0,p:kl,p:-1w,end",
	)
	cells, want := []string{"table 0 5 5", "in 0 24 0 z", "in 0 10 0 k", "in 0 9 0 j", "in 0 25 0 y", "sugin 0 11 0 1 l", "split 0 24", "merge 0 3 0 2 1", "split 0 15", "show"}, "t55:\n"
	for i := range 25 {
		text := map[int]string{24: "z", 10: "k", 9: "j", 11: "+1l"}[i]
		want += sentence("c"+string(rune('0'+i/5))+string(rune('0'+i%5))+"11:"+text) + "\n"
	}
	sameAnswers(t, answersTo(t, cells), []string{"done\n", "done\n", "done\n", "done\n", "no\n", "done\n", "no\n", "done\n", "done\n", want + "end\n"}, cells)
}

// As many blocks, signs, rows and columns as there may be; and one more.
func TestLinesAtTheLimits(t *testing.T) {
	var full []string
	for i := range impl.DocMax {
		full = append(full, sentence("para", i))
	}
	shown := strings.Repeat("p:\n", impl.DocMax) + "end\n"
	got := answersTo(t, full, []string{"para 0", "para 8", "table 0 1 1", "part 0 0", "show", "in 7 0 0 abcdefghijklmnopqrstuvwx", "in 6 0 0 a", "join 6", "undo", "join 6", "part 0 0", "part 0 0", "undo", "para 8"})[impl.DocMax:]
	sameAnswers(t, got, []string{"no\n", "no\n", "no\n", "no\n", shown, "done\n", "done\n", "no\n", "done\n", "done\n", "done\n", "no\n", "done\n", "no\n"}, full)
	dialogue(t,
		"table 0 5 5 = done", "rowin 0 0 = no", "colin 0 5 = no", "in 0 0 0 abcdefghijkl = done", "in 0 1 0 mnopqrstuvwx = done", "in 0 2 0 y = done", "merge 0 0 0 1 3 = no", "merge 0 0 0 1 2 = done", "in 0 0 24 z = no", "merge 0 0 0 2 3 = no",
		"merge 0 1 0 4 5 = done", "show = t55:,c0012:abcdefghijklmnopqrstuvwx,c0211:y,c0311:,c0411:,c1045:,end", "para 0 = done", "item 0 = done", "para 1 = done", "item 1 = done", "sink 1 = done", "sink 1 = no", "para 2 = done", "item 2 = done", "sink 2 = done", "sink 2 = done", "sink 2 = no",
		"para 3 = done", "item 3 = done", "sink 3 = done", "sink 3 = done", "sink 3 = done", "sink 3 = no", "lift 0 = no", "sink 1 = no", "lift 1 = done", "sink 1 = done", "sink 1 = no",
	)
}

// The last steps are remembered, and no more of them than a history keeps; of those each is done again.
func TestMoreStepsThanAreRemembered(t *testing.T) {
	for _, more := range []int{0, 1, 2, 11} {
		size := impl.HistMax + more
		lines := []string{"para 0"}
		for i := range size - 1 {
			lines = append(lines, sentence("in", 0, 0, i, string(rune('a'+i))))
		}
		undos, redos := slices.Repeat([]string{"undo", "show"}, impl.HistMax+2), slices.Repeat([]string{"redo", "show"}, impl.HistMax+2)
		got := answersTo(t, lines, undos, redos)[len(lines):]
		shown := func(steps int) string {
			if steps == 0 {
				return "end\n"
			}
			return "p:" + "abcdefghijklmnopqrstuvwxyz"[:steps-1] + "\nend\n"
		}
		var want []string
		for n := 1; n <= impl.HistMax; n++ {
			want = append(want, "done\n", shown(size-n))
		}
		want = append(want, "no\n", shown(more), "no\n", shown(more))
		for n := 1; n <= impl.HistMax; n++ {
			want = append(want, "done\n", shown(more+n))
		}
		want = append(want, "no\n", shown(size), "no\n", shown(size))
		sameAnswers(t, got, want, lines)
	}
}

func TestTextsOfLinesOfAnySize(t *testing.T) {
	saysJust(t, "", "")
	saysJust(t, "\n", "")
	saysJust(t, "show", "end\n")
	saysJust(t, "\nshow", "end\n")
	saysJust(t, "para 0\nshow", "done\np:\nend\n")
	saysJust(t, "para 0\r\nshow\r\n", "no\nno\n")
	saysJust(t, "para 0\rshow", "no\n")
	shows := strings.Repeat("show\n", impl.LinesMax/5)
	saysJust(t, shows, strings.Repeat("end\n", impl.LinesMax/5))
	saysJust(t, shows[1:], "no\n"+strings.Repeat("end\n", impl.LinesMax/5-1))
	saysJust(t, shows[:len(shows)-1], strings.Repeat("end\n", impl.LinesMax/5))
	first := "para 0\nin 0 0 0 a\nshow\n"
	for _, c := range []struct{ text, want string }{
		{strings.Repeat("\n", impl.LinesMax), ""},
		{strings.Repeat(" ", impl.LinesMax), "no\n"},
		{strings.Repeat("\x00", impl.LinesMax), "no\n"},
		{strings.Repeat("x", impl.LinesMax), "no\n"},
		{strings.Repeat("x\n", impl.LinesMax/2), strings.Repeat("no\n", impl.LinesMax/2)},
		{first + strings.Repeat("\n", impl.LinesMax-len(first)), "done\ndone\np:a\nend\n"},
		{strings.Repeat("\n", impl.LinesMax-len(first)) + first, "done\ndone\np:a\nend\n"},
		{first + strings.Repeat("é", (impl.LinesMax-len(first))/2) + strings.Repeat("\n", (impl.LinesMax-len(first))%2), "done\ndone\np:a\nend\nno\n"},
	} {
		if len(c.text) != impl.LinesMax {
			t.Fatal(len(c.text), c.text)
		}
		saysJust(t, c.text, c.want)
		for _, more := range []string{"\n", " ", "x", "\x00", "\nshow", strings.Repeat("\n", impl.LinesMax)} {
			saysJust(t, c.text+more, "too long\n")
			saysJust(t, more+c.text, "too long\n")
		}
	}
	saysJust(t, strings.Repeat("show\n", 1<<20), "too long\n")
}

// A last line needs no newline.
func TestLastLineWithoutANewline(t *testing.T) {
	for _, lines := range lineWalks() {
		text := textOfLines(lines)
		saysJust(t, strings.TrimSuffix(text, "\n"), impl.LinesRun(text))
	}
}

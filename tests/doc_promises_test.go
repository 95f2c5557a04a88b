package tests

import (
	"slices"
	"testing"

	"loop.example/limner/impl"
)

// cut is the blocks of a document from a place up to another one.
func cut(d impl.Doc, from, to int) impl.Doc {
	return impl.Doc{Blocks: d.Blocks[from:to]}
}

func TestPromise37FirstBlocks(t *testing.T) {
	if !impl.DocOk(impl.Doc{}) {
		t.Fatal("nothing is not ok")
	}
	for _, d := range okDocs() {
		for n := range len(d.Blocks) + 1 {
			if !impl.DocOk(cut(d, 0, n)) {
				t.Fatal(d, n)
			}
		}
	}
}

// nearDocs are ok documents that differ from each other by one thing alone.
func nearDocs() []impl.Doc {
	var all []impl.Doc
	for _, s := range []string{"p:\n", "i0:\n", "p:a\n", "i0:a\n", "p:b\n", "p:aa\n", "p:a \n", "p: a\n", "p:+1a\n", "p:+2a\n", "p:-1a\n", "p:+1-2a\n", "p:+2-1a\n", "p:1a\n", "p:+11a\n", "p:-11a\n", "p:0\n", "p:a\np:\n", "p:\np:a\n", "p:a\ni0:\n", "i0:a\ni0:a\n", "i0:a\ni1:a\n", "i0:a\ni0:a\ni0:a\n", "i0:a\ni1:a\ni0:a\n", "i0:a\ni1:a\ni1:a\n", "i0:a\ni1:a\ni2:a\n",
		"t11:\nc0011:\n", "t11:\nc0011:a\n", "t12:\nc0012:\n", "t12:\nc0011:\nc0111:\n", "t21:\nc0021:\n", "t21:\nc0011:\nc1011:\n", "t12:\nc0011:a\nc0111:\n", "t12:\nc0011:\nc0111:a\n", "t12:\nc0011:\nc0111:+1a\n", "t22:\nc0012:\nc1012:\n", "t22:\nc0021:\nc0121:\n", "t22:\nc0022:\n", "t11:\nc0011:\nt11:\nc0011:\n", "t11:\nc0011:a\nt11:\nc0011:\n", "t11:\nc0011:\nt11:\nc0011:a\n", "t11:\nc0011:\np:\n"} {
		all = append(all, readDoc(s))
	}
	return all
}

func TestPromise38SameTexts(t *testing.T) {
	met := map[string]impl.Doc{"": {}}
	for _, d := range append(okDocs(), nearDocs()...) {
		s := impl.DocWrite(d)
		if (s == "") != (len(d.Blocks) == 0) {
			t.Fatalf("%v %q", d, s)
		}
		sameDoc(t, readDoc(s), d, "what is read again", s)
		if other, ok := met[s]; ok {
			sameDoc(t, d, other, "two of one text", s)
		}
		met[s] = d
		if impl.DocWrite(copiedDoc(d)) != s {
			t.Fatal("one document, two texts", d)
		}
	}
	near := nearDocs()
	for i, a := range near {
		for j, b := range near {
			if !impl.DocOk(a) || (impl.DocWrite(a) == impl.DocWrite(b)) != (i == j) {
				t.Fatal(a, b)
			}
		}
	}
}

func TestPromise39FirstBlocksAndRest(t *testing.T) {
	for _, d := range okDocs() {
		for n := range len(d.Blocks) + 1 {
			if !okShape(shapeOf(d)[n:]) {
				continue
			}
			if impl.DocWrite(d) != impl.DocWrite(cut(d, 0, n))+impl.DocWrite(cut(d, n, len(d.Blocks))) {
				t.Fatal(d, n)
			}
		}
	}
}

func TestPromise40ANumberALevel(t *testing.T) {
	for _, d := range okDocs() {
		nums := impl.DocNums(d)
		if len(nums) != len(d.Blocks) {
			t.Fatal(d, nums)
		}
		for i, b := range d.Blocks {
			want := 0
			if b.Kind == impl.BlockItem {
				want = b.Level + 1
			}
			if len(nums[i]) != want || want > 0 && slices.Min(nums[i]) < 1 {
				t.Fatal(d, i, nums)
			}
		}
	}
}

// countedTo is, by the words of the document, how many items of a level there are up to a place.
func countedTo(shape string, at int, level byte) int {
	n := 0
	for i := at; i >= 0 && isItem(shape[i]) && shape[i] >= level; i-- {
		if shape[i] == level {
			n++
		}
	}
	return n
}

// hostOf is the place of the item of that level that an item is below, or the item itself.
func hostOf(shape string, at int, level byte) int {
	for shape[at] != level {
		at--
	}
	return at
}

func TestPromise41WhatNumbersCount(t *testing.T) {
	for _, d := range okDocs() {
		shape, nums := shapeOf(d), impl.DocNums(d)
		for i := range d.Blocks {
			if !isItem(shape[i]) {
				continue
			}
			if last := nums[i][len(nums[i])-1]; last != countedTo(shape, i, shape[i]) {
				t.Fatal(shape, i, nums)
			}
			for level, n := range nums[i] {
				host := hostOf(shape, i, byte('0'+level))
				if n != countedTo(shape, i, byte('0'+level)) || n != nums[host][level] || belowEnd(shape, host) <= i {
					t.Fatal(shape, i, nums)
				}
			}
		}
	}
}

func TestPromise42NumbersAscend(t *testing.T) {
	for _, d := range okDocs() {
		shape, nums := shapeOf(d), impl.DocNums(d)
		for i := range max(0, len(shape)-1) {
			if isItem(shape[i]) && isItem(shape[i+1]) && slices.Compare(nums[i], nums[i+1]) >= 0 {
				t.Fatal(shape, i, nums)
			}
		}
	}
}

func TestPromise43SunkAndLifted(t *testing.T) {
	sunk := 0
	for _, d := range okDocs() {
		for at := range d.Blocks {
			if x, ok := impl.DocSink(d, at); ok {
				sameDoc(t, mustDoc(t, d, at)(impl.DocLift(x, at)), d, at)
				sunk++
			}
		}
	}
	if sunk == 0 {
		t.Fatal("nothing was sunk")
	}
}

func TestPromise44Sinking(t *testing.T) {
	for _, d := range okDocs() {
		shape := shapeOf(d)
		for at := range d.Blocks {
			want := shiftedBy(d, at, belowEnd(shape, at), 1)
			if isItem(shape[at]) && okShape(shapeOf(want)) {
				sameDoc(t, mustDoc(t, d, at)(impl.DocSink(d, at)), want, d, at)
			} else {
				refusedDoc(t, d, at)(impl.DocSink(d, at))
			}
		}
	}
}

func TestPromise45Lifting(t *testing.T) {
	for _, d := range okDocs() {
		shape := shapeOf(d)
		for at := range d.Blocks {
			end := belowEnd(shape, at)
			want := shiftedBy(d, at, end, -1)
			if shape[at] == '0' {
				want.Blocks[at].Kind, want.Blocks[at].Level = impl.BlockPara, 0
			}
			if isItem(shape[at]) && (shape[at] > '0' || end == at+1) {
				sameDoc(t, mustDoc(t, d, at)(impl.DocLift(d, at)), want, d, at)
			} else {
				refusedDoc(t, d, at)(impl.DocLift(d, at))
			}
		}
	}
}

func TestPromise46ItemAndLifted(t *testing.T) {
	for _, d := range okDocs() {
		for at, b := range d.Blocks {
			if b.Kind != impl.BlockPara {
				refusedDoc(t, d, at)(impl.DocItem(d, at))
				continue
			}
			want := copiedDoc(d)
			want.Blocks[at].Kind = impl.BlockItem
			x := mustDoc(t, d, at)(impl.DocItem(d, at))
			sameDoc(t, x, want, d, at)
			sameDoc(t, mustDoc(t, d, at)(impl.DocLift(x, at)), d, at)
		}
	}
}

func TestPromise47NoTextChanges(t *testing.T) {
	for _, d := range okDocs() {
		for at := range d.Blocks {
			for name, do := range changes() {
				x, ok := do(d, at)
				if !ok {
					continue
				}
				if len(x.Blocks) != len(d.Blocks) {
					t.Fatal(name, d, at, x)
				}
				for i, b := range d.Blocks {
					same(t, x.Blocks[i].Text, b.Text, name, d, at, i)
					sameTable(t, x.Blocks[i].Table, b.Table, name, d, at, i)
				}
			}
		}
	}
}

func TestPromise48ParagraphPutIn(t *testing.T) {
	para := impl.Block{Kind: impl.BlockPara, Text: read("+1new")}
	for _, d := range okDocs() {
		was := impl.DocNums(d)
		for at := range len(d.Blocks) + 1 {
			x := put(d, at, para)
			shape := shapeOf(x)
			if impl.DocOk(x) != okShape(shape) {
				t.Fatal(d, at)
			}
			if !impl.DocOk(x) {
				continue
			}
			nums := impl.DocNums(x)
			if at < len(d.Blocks) && isItem(shape[at+1]) {
				same(t, nums[at+1], []int{1}, shape, at)
			}
			for i := range at {
				same(t, nums[i], was[i], shape, at)
			}
		}
	}
}

func TestPromise49AnItemMore(t *testing.T) {
	for _, d := range okDocs() {
		was := impl.DocNums(d)
		for at, b := range d.Blocks {
			if b.Kind != impl.BlockItem || len(d.Blocks) == impl.DocMax {
				continue
			}
			x := put(d, at+1, impl.Block{Kind: impl.BlockItem, Level: b.Level, Text: read("more")})
			want := slices.Clone(was[at])
			want[b.Level]++
			nums := impl.DocNums(x)
			if !impl.DocOk(x) || len(nums) != len(was)+1 {
				t.Fatal(d, at, nums)
			}
			same(t, nums[at+1], want, d, at)
			for i := range at + 1 {
				same(t, nums[i], was[i], d, at)
			}
		}
	}
}

func TestPromise50WhatIsSunk(t *testing.T) {
	for _, d := range okDocs() {
		shape := shapeOf(d)
		for at := range d.Blocks {
			_, ok := impl.DocSink(d, at)
			behind := at > 0 && isItem(shape[at]) && isItem(shape[at-1]) && shape[at-1] >= shape[at]
			if ok && !behind {
				t.Fatal(shape, at)
			}
			if behind && ok != (slices.Max([]byte(shape[at:belowEnd(shape, at)])) < '3') {
				t.Fatal(shape, at, ok)
			}
		}
	}
}

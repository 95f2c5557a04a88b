package tests

import (
	"math"
	"slices"
	"strings"
	"testing"

	"loop.example/limner/impl"
)

// goodBytes are all bytes that a sign may have.
const goodBytes = "abcdefghijklmnopqrstuvwxyz0123456789 "

// read is the signs of a text as documents write them: +IN, -OUT, then the byte.
func read(s string) []impl.Sign {
	var t []impl.Sign
	var x impl.Sign
	for i := 0; i < len(s); i++ {
		switch s[i] {
		case '+':
			i++
			x.In = int(s[i] - '0')
		case '-':
			i++
			x.Out = int(s[i] - '0')
		default:
			x.Byte = s[i]
			t = append(t, x)
			x = impl.Sign{}
		}
	}
	return t
}

// bytesOf is the bytes of all signs, whoever suggested them.
func bytesOf(t []impl.Sign) string {
	var b strings.Builder
	for _, s := range t {
		b.WriteByte(s.Byte)
	}
	return b.String()
}

// allNames are all pairs of In and Out that a sign of an ok text may have.
func allNames() []impl.Sign {
	var all []impl.Sign
	for in := 0; in <= impl.TextWhos; in++ {
		for out := 0; out <= impl.TextWhos; out++ {
			if in == 0 || in != out {
				all = append(all, impl.Sign{In: in, Out: out})
			}
		}
	}
	return all
}

// okTexts are all texts of up to three signs whose bytes tell their places, and some of more, up to TextMax signs.
func okTexts() [][]impl.Sign {
	all := [][]impl.Sign{nil, {}}
	last := [][]impl.Sign{nil}
	for at := range 3 {
		var next [][]impl.Sign
		for _, t := range last {
			for _, s := range allNames() {
				s.Byte = goodBytes[at]
				next = append(next, append(slices.Clone(t), s))
			}
		}
		all = append(all, next...)
		last = next
	}
	return append(all, longTexts()...)
}

// longTexts are texts of all sizes from four signs to TextMax in which all pairs of names meet others.
func longTexts() [][]impl.Sign {
	names := allNames()
	var all [][]impl.Sign
	for size := 4; size <= impl.TextMax; size++ {
		for step := 1; step < len(names); step++ {
			var t []impl.Sign
			for at := range size {
				s := names[(at*step+size)%len(names)]
				s.Byte = goodBytes[(at+size)%len(goodBytes)]
				t = append(t, s)
			}
			all = append(all, t)
		}
	}
	return all
}

// strangers are numbers that are no person's: next to the people, and such as a bit would wrap round to one.
func strangers() []int {
	return []int{0, -1, -2, -3, impl.TextWhos + 1, 5, 7, 8, 9, 31, 32, 33, 63, 64, 65, 66, 255, 256, 257, 1<<32 + 1, math.MinInt, math.MinInt + 1, math.MinInt + 2, math.MaxInt}
}

// people are all who can suggest.
func people() []int {
	var all []int
	for who := 1; who <= impl.TextWhos; who++ {
		all = append(all, who)
	}
	return all
}

// wrongTexts are texts that are not ok, each by one fault alone, at its beginning, its middle and its end.
func wrongTexts() [][]impl.Sign {
	all := [][]impl.Sign{make([]impl.Sign, 1), slices.Repeat(read("+1a"), impl.TextMax+1), slices.Repeat(read("a"), impl.TextMax+1), slices.Repeat(read("-3 "), 2*impl.TextMax), slices.Repeat(read("z"), 1000)}
	for _, bad := range wrongSigns() {
		all = append(all, []impl.Sign{bad})
		for at := range 3 {
			all = append(all, slices.Insert(read("a+1b"), at, bad))
		}
	}
	return all
}

// wrongSigns are signs that no ok text has.
func wrongSigns() []impl.Sign {
	var all []impl.Sign
	for b := range 256 {
		if strings.IndexByte(goodBytes, byte(b)) < 0 {
			all = append(all, impl.Sign{Byte: byte(b)})
		}
	}
	for _, who := range strangers()[1:] {
		all = append(all, impl.Sign{Byte: 'x', In: who}, impl.Sign{Byte: 'x', Out: who}, impl.Sign{Byte: 'x', In: who, Out: 1}, impl.Sign{Byte: 'x', In: 1, Out: who}, impl.Sign{Byte: 'x', In: who, Out: who})
	}
	for _, who := range people() {
		all = append(all, impl.Sign{Byte: 'x', In: who, Out: who})
	}
	return all
}

// same says that two lists are the same value: the empty and the nil list are.
func same[T comparable](t *testing.T, got, want []T, what ...any) {
	t.Helper()
	if !slices.Equal(got, want) {
		t.Fatalf("got %v, not %v, of %v", got, want, what)
	}
}

// settling is a way to settle what one person suggested.
type settling struct {
	name string
	do   func(t []impl.Sign, who int) []impl.Sign
}

// settlings are to take and to drop.
func settlings() []settling {
	return []settling{{"take", impl.TextTake}, {"drop", impl.TextDrop}}
}

// settleAll settles what all people suggested, one behind the other.
func settleAll(t []impl.Sign, do func(t []impl.Sign, who int) []impl.Sign) []impl.Sign {
	for _, who := range people() {
		t = do(t, who)
	}
	return t
}

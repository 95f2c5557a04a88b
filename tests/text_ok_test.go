package tests

import (
	"slices"
	"strings"
	"testing"

	"loop.example/limner/impl"
)

func TestLimitsOfTexts(t *testing.T) {
	if impl.TextMax != 24 || impl.TextWhos != 3 {
		t.Fatal(impl.TextMax, impl.TextWhos)
	}
}

func TestTextOkOrdinary(t *testing.T) {
	for _, x := range okTexts() {
		if !impl.TextOk(x) {
			t.Fatal(x)
		}
	}
	for i := range len(goodBytes) {
		if !impl.TextOk([]impl.Sign{{Byte: goodBytes[i]}}) {
			t.Fatal(goodBytes[i])
		}
	}
}

func TestTextOkSizes(t *testing.T) {
	for size := range 4 * impl.TextMax {
		for _, sign := range []string{"a", "+1a", "-3a", "+2-1a"} {
			if impl.TextOk(slices.Repeat(read(sign), size)) != (size <= impl.TextMax) {
				t.Fatal(sign, size)
			}
		}
	}
}

func TestTextOkNames(t *testing.T) {
	for in := -2; in <= impl.TextWhos+2; in++ {
		for out := -2; out <= impl.TextWhos+2; out++ {
			want := in >= 0 && out >= 0 && in <= 3 && out <= 3 && (in != out || in == 0)
			if impl.TextOk([]impl.Sign{{Byte: '7', In: in, Out: out}}) != want {
				t.Fatal(in, out)
			}
		}
	}
}

func TestTextOkWrong(t *testing.T) {
	for _, x := range wrongTexts() {
		if impl.TextOk(x) {
			t.Fatal(x)
		}
	}
}

// A text that is not ok has one answer everywhere, also where who is no person.
func TestWrongTextsAreNothing(t *testing.T) {
	for _, x := range wrongTexts() {
		if impl.TextNow(x) != "" || impl.TextWas(x) != "" || len(impl.TextBy(x)) != 0 {
			t.Fatal(x, impl.TextNow(x), impl.TextWas(x), impl.TextBy(x))
		}
		for _, how := range settlings() {
			for _, who := range append(people(), strangers()...) {
				same(t, how.do(x, who), nil, how.name, x, who)
			}
		}
	}
}

func TestEmptyTexts(t *testing.T) {
	for _, x := range [][]impl.Sign{nil, {}, make([]impl.Sign, 0, 5)} {
		if !impl.TextOk(x) || impl.TextNow(x) != "" || impl.TextWas(x) != "" || len(impl.TextBy(x)) != 0 {
			t.Fatal(x)
		}
		for _, how := range settlings() {
			for _, who := range append(people(), strangers()...) {
				same(t, how.do(x, who), nil, how.name, who)
			}
		}
	}
}

// A sign of each pair of names; the letters tell them apart.
const manyNames = "a+1b-1c+2d-2e+1-2f+2-1g+3-1h+1-3i+2-3j+3-2k+3l-3m"

func TestTextsByHand(t *testing.T) {
	x := read(manyNames)
	if impl.TextNow(x) != "abdl" || impl.TextWas(x) != "acem" {
		t.Error(impl.TextNow(x), impl.TextWas(x))
	}
	same(t, impl.TextBy(x), []int{1, 2, 3})
	same(t, impl.TextTake(x, 1), read("ab+2d-2e-2f-3i+2-3j+3-2k+3l-3m"), "take 1")
	same(t, impl.TextTake(x, 2), read("a+1b-1cd-1g+3-1h+1-3i-3j+3l-3m"), "take 2")
	same(t, impl.TextTake(x, 3), read("a+1b-1c+2d-2e+1-2f+2-1g-1h-2kl"), "take 3")
	same(t, impl.TextDrop(x, 1), read("ac+2d-2e+2g+3h+2-3j+3-2k+3l-3m"), "drop 1")
	same(t, impl.TextDrop(x, 2), read("a+1b-1ce+1f+3-1h+1-3i+3k+3l-3m"), "drop 2")
	same(t, impl.TextDrop(x, 3), read("a+1b-1c+2d-2e+1-2f+2-1g+1i+2jm"), "drop 3")
	same(t, impl.TextBy(read("a-3b+1c")), []int{1, 3})
	same(t, impl.TextBy(read("-2a")), []int{2})
	same(t, impl.TextBy(read("+3-2a+3b")), []int{2, 3})
}

func TestTextOfSizes(t *testing.T) {
	for size := range 4 * impl.TextMax {
		want := 0
		if size <= impl.TextMax {
			want = size
		}
		if got := impl.TextOf(strings.Repeat("q", size)); len(got) != want {
			t.Fatal(size, len(got))
		}
	}
}

func TestTextOfWrongBytes(t *testing.T) {
	for b := range 256 {
		good := strings.IndexByte(goodBytes, byte(b)) >= 0
		for at := range 4 {
			s := "a 0"[:at] + string([]byte{byte(b)}) + "a 0"[at:]
			want := 0
			if good {
				want = len(s)
			}
			if got := impl.TextOf(s); len(got) != want {
				t.Fatalf("%q %v", s, got)
			}
		}
	}
	for _, s := range []string{"é", "a\n", "\xff", "a\x00b", "A", "a-b", "ａ", "_"} {
		same(t, impl.TextOf(s), nil, s)
	}
}

package tests

import (
	"slices"
	"strings"
	"testing"

	"loop.example/limner/impl"
)

func TestPromise1PlainBytes(t *testing.T) {
	words := []string{"", "a", "z", "0", "9", " ", "  ", "ab c", " a0 ", goodBytes[:impl.TextMax], goodBytes[len(goodBytes)-impl.TextMax:], strings.Repeat(" ", impl.TextMax)}
	for i := range len(goodBytes) {
		words = append(words, goodBytes[i:i+1])
	}
	for _, s := range words {
		x := impl.TextOf(s)
		var want []impl.Sign
		for i := range len(s) {
			want = append(want, impl.Sign{Byte: s[i]})
		}
		same(t, x, want, s)
		if !impl.TextOk(x) || impl.TextNow(x) != s || impl.TextWas(x) != s || len(impl.TextBy(x)) != 0 {
			t.Fatalf("%q %q %q", s, impl.TextNow(x), impl.TextWas(x))
		}
	}
}

func TestPromise2NowIsAllTaken(t *testing.T) {
	for _, x := range okTexts() {
		all := settleAll(x, impl.TextTake)
		if impl.TextNow(x) != bytesOf(all) || len(impl.TextBy(all)) != 0 {
			t.Fatal(x, impl.TextNow(x), all)
		}
	}
}

func TestPromise3WasIsAllDropped(t *testing.T) {
	for _, x := range okTexts() {
		all := settleAll(x, impl.TextDrop)
		if impl.TextWas(x) != bytesOf(all) || len(impl.TextBy(all)) != 0 {
			t.Fatal(x, impl.TextWas(x), all)
		}
	}
}

func TestPromise4WhoIsTaken(t *testing.T) {
	settledHasNothing(t, settlings()[0])
}

func TestPromise5WhoIsDropped(t *testing.T) {
	settledHasNothing(t, settlings()[1])
}

// settledHasNothing: who is settled is named nowhere then; each other one just where they were on signs that are left.
func settledHasNothing(t *testing.T, how settling) {
	for _, x := range okTexts() {
		for _, who := range people() {
			got := how.do(x, who)
			if !impl.TextOk(got) || slices.Contains(impl.TextBy(got), who) {
				t.Fatal(how.name, x, who, got)
			}
			for _, other := range impl.TextBy(got) {
				if !slices.Contains(impl.TextBy(x), other) {
					t.Fatal(how.name, x, who, other)
				}
			}
			for _, other := range people() {
				if other != who && (namesOf(got, other) > namesOf(x, other)) {
					t.Fatal(how.name, x, who, other)
				}
			}
			leftAsItWas(t, how, x, who, got)
		}
	}
}

// namesOf is how often a person is named.
func namesOf(t []impl.Sign, who int) int {
	n := 0
	for _, s := range t {
		if s.In == who {
			n++
		}
		if s.Out == who {
			n++
		}
	}
	return n
}

// leftAsItWas: what is left are the signs that do not go, in order, changed by nothing but that who is settled is nobody.
func leftAsItWas(t *testing.T, how settling, x []impl.Sign, who int, got []impl.Sign) {
	t.Helper()
	var want []impl.Sign
	for _, s := range x {
		switch {
		case how.name == "take" && s.Out == who, how.name == "drop" && s.In == who:
			continue
		case s.In == who:
			s.In = 0
		case s.Out == who:
			s.Out = 0
		}
		want = append(want, s)
	}
	same(t, got, want, how.name, x, who)
}

func TestPromise6OrderOfPeople(t *testing.T) {
	for _, x := range okTexts() {
		for _, a := range people() {
			for _, b := range people() {
				if a == b {
					continue
				}
				for _, one := range settlings() {
					for _, two := range settlings() {
						same(t, two.do(one.do(x, a), b), one.do(two.do(x, b), a), one.name, a, two.name, b, x)
					}
				}
			}
		}
	}
}

func TestPromise7NowAndWasStay(t *testing.T) {
	for _, x := range okTexts() {
		for _, who := range append(people(), strangers()...) {
			if impl.TextNow(impl.TextTake(x, who)) != impl.TextNow(x) || impl.TextWas(impl.TextDrop(x, who)) != impl.TextWas(x) {
				t.Fatal(x, who)
			}
		}
	}
}

func TestPromise8TwiceIsOnce(t *testing.T) {
	for _, x := range okTexts() {
		for _, who := range append(people(), strangers()...) {
			taken, dropped := impl.TextTake(x, who), impl.TextDrop(x, who)
			same(t, impl.TextTake(taken, who), taken, "taken twice", x, who)
			same(t, impl.TextDrop(dropped, who), dropped, "dropped twice", x, who)
			same(t, impl.TextDrop(taken, who), taken, "dropped behind taken", x, who)
		}
	}
}

func TestPromise9Nobody(t *testing.T) {
	for _, x := range okTexts() {
		for _, who := range strangers() {
			for _, how := range settlings() {
				same(t, how.do(x, who), x, how.name, who)
			}
		}
	}
}

func TestPromise10WhoIsTold(t *testing.T) {
	for _, x := range okTexts() {
		var want []int
		for _, who := range people() {
			if namesOf(x, who) > 0 {
				want = append(want, who)
			}
		}
		by := impl.TextBy(x)
		same(t, by, want, x)
		all := bytesOf(x)
		if (len(by) == 0) != (impl.TextNow(x) == all && impl.TextWas(x) == all) {
			t.Fatal(x, by)
		}
	}
}

func TestPromise11Pieces(t *testing.T) {
	for _, x := range okTexts() {
		for cut := range len(x) + 1 {
			a, b := x[:cut], x[cut:]
			if impl.TextNow(x) != impl.TextNow(a)+impl.TextNow(b) || impl.TextWas(x) != impl.TextWas(a)+impl.TextWas(b) {
				t.Fatal(x, cut)
			}
		}
	}
}

func TestPromise12APieceIsAText(t *testing.T) {
	for _, x := range okTexts() {
		for from := range len(x) + 1 {
			for to := from; to <= len(x); to++ {
				if !impl.TextOk(x[from:to]) {
					t.Fatal(x, from, to)
				}
			}
		}
	}
}

func TestPromise13HowMany(t *testing.T) {
	for _, x := range okTexts() {
		now, was := "", ""
		for _, s := range x {
			if s.Out == 0 {
				now += string([]byte{s.Byte})
			}
			if s.In == 0 {
				was += string([]byte{s.Byte})
			}
		}
		if impl.TextNow(x) != now || impl.TextWas(x) != was || len(impl.TextNow(x)) != len(now) || len(impl.TextWas(x)) != len(was) {
			t.Fatal(x, impl.TextNow(x), impl.TextWas(x))
		}
	}
}

func TestPromise14TwoTextsTogether(t *testing.T) {
	texts := append(longTexts(), nil, read("a"), read("+1b"), read("-2c"), read("+3-1d"), read("+1a-2b c"))
	for _, a := range texts {
		for _, b := range texts {
			both := slices.Concat(a, b)
			fits := len(a)+len(b) <= impl.TextMax
			now, was := "", ""
			if fits {
				now, was = impl.TextNow(a)+impl.TextNow(b), impl.TextWas(a)+impl.TextWas(b)
			}
			if impl.TextOk(both) != fits || impl.TextNow(both) != now || impl.TextWas(both) != was {
				t.Fatal(a, b)
			}
		}
	}
}

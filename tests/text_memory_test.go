package tests

import (
	"slices"
	"testing"

	"loop.example/limner/impl"
)

// mark is a sign that no function makes: where it is lost something was written.
var mark = impl.Sign{Byte: '#', In: 77, Out: 88}

// roomy is a text with marks ahead of it and in its spare room, and all that memory.
func roomy(x []impl.Sign) (text, all []impl.Sign) {
	all = slices.Concat([]impl.Sign{mark, mark}, x, []impl.Sign{mark, mark, mark, mark})
	return all[2 : 2+len(x)], all
}

// signAnswers is all lists of signs that are answered of a text, anew.
func signAnswers(x []impl.Sign) [][]impl.Sign {
	var all [][]impl.Sign
	for _, how := range settlings() {
		for _, who := range append(people(), 0, -1, impl.TextWhos+1) {
			all = append(all, how.do(x, who))
		}
	}
	return all
}

// memoryTexts are texts of which some, or all, or nothing comes back; some are not ok.
func memoryTexts() [][]impl.Sign {
	return append(okTexts(), wrongTexts()...)
}

func TestNothingIsWrittenIntoAText(t *testing.T) {
	for _, x := range memoryTexts() {
		text, all := roomy(x)
		before := slices.Clone(all)
		impl.TextOk(text)
		impl.TextNow(text)
		impl.TextWas(text)
		impl.TextBy(text)
		signAnswers(text)
		same(t, all, before, "an argument was written into")
	}
}

// An answer, its spare room too, may be written over without harm to the text, or to any other answer.
func TestAnswersAreNewMemory(t *testing.T) {
	for _, x := range memoryTexts() {
		text, all := roomy(x)
		before := slices.Clone(all)
		answers := signAnswers(text)
		want := signAnswers(slices.Clone(text))
		for i, a := range answers {
			same(t, a, want[i], "an answer has changed", x, i)
			a = a[:cap(a)]
			for at := range a {
				a[at] = mark
			}
			same(t, all, before, "an answer shares the text", x, i)
		}
	}
}

// A text may be written over, all its room, without harm to what was answered of it.
func TestAnswersOutliveTheText(t *testing.T) {
	for _, x := range memoryTexts() {
		text, all := roomy(x)
		want := signAnswers(slices.Clone(x))
		answers, by, now, was := signAnswers(text), impl.TextBy(text), impl.TextNow(text), impl.TextWas(text)
		for at := range all {
			all[at] = mark
		}
		for i, a := range answers {
			same(t, a, want[i], "an answer shares the text", x, i)
		}
		same(t, by, impl.TextBy(x))
		if now != impl.TextNow(x) || was != impl.TextWas(x) {
			t.Fatal(x, now, was)
		}
	}
}

// Nothing is kept between two calls: whatever is done to the first answer, the second is what the first was.
func TestAnswersTwice(t *testing.T) {
	for _, s := range []string{"", "a", "ab c", goodBytes[:impl.TextMax], "A"} {
		one, two := impl.TextOf(s), impl.TextOf(s)
		before := slices.Clone(two)
		one = one[:cap(one)]
		for at := range one {
			one[at] = mark
		}
		same(t, two, before, s)
		same(t, impl.TextOf(s), before, s)
	}
	for _, x := range okTexts() {
		one, two := impl.TextBy(x), impl.TextBy(x)
		before := slices.Clone(two)
		one = one[:cap(one)]
		for at := range one {
			one[at] = -9
		}
		same(t, two, before, x)
		same(t, impl.TextBy(x), before, x)
	}
}

package tests

import (
	"runtime"
	"slices"
	"strings"
	"sync"
	"testing"
	"time"
	"unsafe"

	"loop.example/limner/impl"
)

// memoryLines are texts of lines of all sizes, of such as are none, and some that are too long.
func memoryLines() []string {
	all := []string{"", "\n", "show", "para 0\nshow\n", "undo\nredo\n", strings.Repeat("x\n", 1500), strings.Repeat("\n", 3001), strings.Repeat("show\n", 600), textOfLines(noLines()), textOfLines(fixture(), goodLines())}
	for i, lines := range lineWalks() {
		if i%4 == 0 {
			all = append(all, textOfLines(lines))
		}
	}
	return all
}

// Nothing is kept between two calls, of one text or of others between them.
func TestLinesTwice(t *testing.T) {
	texts := memoryLines()
	var first []string
	for _, text := range texts {
		first = append(first, impl.LinesRun(text))
	}
	for i, text := range slices.Backward(texts) {
		saysJust(t, text, first[i])
		saysJust(t, text, first[i])
	}
	saysJust(t, "para 0\nin 0 0 0 a\n", "done\ndone\n")
	saysJust(t, "show\nundo\nredo\n", "end\nno\nno\n")
}

// The memory that a text is made of is not written into, and may be written over without harm to what was answered.
func TestAnswersOutliveTheLines(t *testing.T) {
	for _, text := range memoryLines() {
		if text == "" {
			continue
		}
		want := impl.LinesRun(text)
		room := []byte(text)
		got := impl.LinesRun(unsafe.String(&room[0], len(room)))
		if string(room) != text {
			t.Fatalf("%q was written into: %q", text, room)
		}
		clear(room)
		if got != want {
			t.Fatalf("%q, not %q, of %q", got, want, text)
		}
	}
}

// Many may ask at one time, each of its own text or all of one.
func TestLinesOfManyAtOnce(t *testing.T) {
	texts := memoryLines()
	var want []string
	for _, text := range texts {
		want = append(want, impl.LinesRun(text))
	}
	var all sync.WaitGroup
	for from := range 8 {
		all.Go(func() {
			for i := range texts {
				for _, j := range []int{i, (i + from*7) % len(texts)} {
					if got := impl.LinesRun(texts[j]); got != want[j] {
						t.Errorf("%q, not %q, of %q", got, want[j], texts[j])
					}
				}
			}
		})
	}
	all.Wait()
}

// No goroutine is left when a text is answered. One that has ended may still be counted for a moment, which is waited for.
func TestNoGoroutineIsLeft(t *testing.T) {
	texts := memoryLines()
	before := runtime.NumGoroutine()
	for range 3 {
		for _, text := range texts {
			impl.LinesRun(text)
		}
	}
	for range 200 {
		if runtime.NumGoroutine() <= before {
			return
		}
		time.Sleep(10 * time.Millisecond)
	}
	t.Fatal("goroutines are left", runtime.NumGoroutine(), before)
}

package tests

import (
	"slices"
	"testing"

	"loop.example/limner/impl"
)

// spotWay is a way to look at a document with suggestions: which signs stay there by the words of the document, what is then, and where places are.
type spotWay struct {
	name  string
	stays func(s impl.Sign) bool
	doc   func(impl.Doc) impl.Doc
	spot  func(impl.Doc, impl.Place) impl.Place
}

// nowWay and wasWay are the two ways.
var (
	nowWay = spotWay{"now", func(s impl.Sign) bool { return s.Out == 0 }, impl.SugNow, impl.SpotNow}
	wasWay = spotWay{"was", func(s impl.Sign) bool { return s.In == 0 }, impl.SugWas, impl.SpotWas}
)

// left is the signs of a text that stay, by nobody.
func (w spotWay) left(text []impl.Sign) []impl.Sign {
	var all []impl.Sign
	for _, s := range text {
		if w.stays(s) {
			all = append(all, impl.Sign{Byte: s.Byte})
		}
	}
	return all
}

// count is how many signs of a text stay.
func (w spotWay) count(text []impl.Sign) int {
	return len(w.left(text))
}

// want is by the words of the document where a place is.
func (w spotWay) want(d impl.Doc, p impl.Place) impl.Place {
	if !isPlace(d, p) {
		return impl.Place{}
	}
	return atOf(p, w.count(textOfPlace(d, p)[:p.At]))
}

// wantRaw is by the words of the document the least place of which a place now is told.
func wantRaw(d impl.Doc, p impl.Place) (impl.Place, bool) {
	begin := atOf(p, 0)
	if !isPlace(d, begin) {
		return impl.Place{}, false
	}
	for at := range len(textOfPlace(d, begin)) + 1 {
		if nowWay.want(d, atOf(p, at)) == p {
			return atOf(p, at), true
		}
	}
	return impl.Place{}, false
}

// atOf is the place in the same text ahead of that sign.
func atOf(p impl.Place, at int) impl.Place {
	return impl.Place{Block: p.Block, Cell: p.Cell, At: at}
}

// beginnings are the first places of all texts of a document.
func beginnings(d impl.Doc) []impl.Place {
	return slices.DeleteFunc(places(d), func(p impl.Place) bool { return p.At > 0 })
}

// sameSpot says that two places are the same.
func sameSpot(t *testing.T, got, want impl.Place, what ...any) {
	t.Helper()
	if got != want {
		t.Fatalf("got %+v, not %+v, of %+v", got, want, what)
	}
}

// noSpot says that all three answers at a place are the fixed ones.
func noSpot(t *testing.T, d impl.Doc, p impl.Place, what ...any) {
	t.Helper()
	sameSpot(t, impl.SpotNow(d, p), impl.Place{}, "now", p, what)
	sameSpot(t, impl.SpotWas(d, p), impl.Place{}, "was", p, what)
	noRaw(t, d, p, what)
}

// noRaw says that a place is none now.
func noRaw(t *testing.T, d impl.Doc, p impl.Place, what ...any) {
	t.Helper()
	if q, ok := impl.SpotRaw(d, p); ok || q != (impl.Place{}) {
		t.Fatal(q, ok, "raw", p, what)
	}
}

// spotsByTheWords says that all three answers are what the words of the document say, at all places of a text, and past both its ends.
func spotsByTheWords(t *testing.T, d impl.Doc, begin impl.Place) {
	t.Helper()
	for at := -2; at <= len(textOfPlace(d, begin))+2; at++ {
		p := atOf(begin, at)
		for _, w := range []spotWay{nowWay, wasWay} {
			sameSpot(t, w.spot(d, p), w.want(d, p), w.name, p, impl.DocWrite(d))
		}
		q, ok := impl.SpotRaw(d, p)
		want, is := wantRaw(d, p)
		if ok != is || q != want {
			t.Fatal("raw", p, q, ok, want, is, impl.DocWrite(d))
		}
	}
}

// spotFrames are documents with a text of each kind, an empty one, and where that is: in a paragraph, an item that is deep, and the last one of several cells. All other texts have suggestions.
func spotFrames() (docs []impl.Doc, texts []impl.Place) {
	docs = []impl.Doc{readDoc("p:\np:+1a-2b\n"), readDoc("i0:-3b\ni1:\n"), readDoc("p:+1a\nt22:\nc0012:c+2e\nc1011:-2d+1d\nc1111:\np:-1a\n")}
	return docs, []impl.Place{{}, {Block: 1}, {Block: 1, Cell: 2}}
}

// plainDoc is a document in which nobody has suggested anything, with the same bytes.
func plainDoc(d impl.Doc) impl.Doc {
	return mapTexts(d, func(text []impl.Sign) []impl.Sign { return impl.TextOf(bytesOf(text)) })
}

// someMoved says that there are some suggestions that were made at places that are elsewhere now, and as it was.
func someMoved(t *testing.T, cases []sugCase) {
	t.Helper()
	made(t, cases, func(c sugCase) bool {
		return nowWay.want(c.d, c.p) != c.p && wasWay.want(c.d, c.p) != c.p
	})
}

// Package impl: what is written, in tables and lists, suggested and taken or dropped.
package impl

// Limits of texts.
const (
	TextMax  = 24
	TextWhos = 3
)

// Sign is a byte of a text: by whom it was suggested to put it in, and to take it out (0: by nobody).
type Sign struct {
	Byte byte
	In   int
	Out  int
}

// people is a set of people, a bit each. Nobody has no bit, and so is in no set.
type people uint8

// everybody is all who can suggest.
const everybody people = 1<<TextWhos - 1

// TextOk says whether a text is ok.
func TextOk(t []Sign) bool {
	if len(t) > TextMax {
		return false
	}
	for _, s := range t {
		if !signOk(s) {
			return false
		}
	}
	return true
}

// TextOf is a text of plain bytes.
func TextOf(s string) []Sign {
	if len(s) > TextMax { // ahead of all else, so that nothing of a huge one is copied
		return nil
	}
	var t []Sign
	for i := 0; i < len(s); i++ {
		t = append(t, Sign{Byte: s[i]})
	}
	if !TextOk(t) {
		return nil
	}
	return t
}

// TextNow is what a text would be, if all was taken.
func TextNow(t []Sign) string {
	return textBytes(settle(t, everybody, notTakenOut))
}

// TextWas is what a text was, as if all was dropped.
func TextWas(t []Sign) string {
	return textBytes(settle(t, everybody, notPutIn))
}

// TextTake is a text where all that one has suggested is taken.
func TextTake(t []Sign, who int) []Sign {
	return settle(t, person(who), notTakenOut)
}

// TextDrop is a text where all that one has suggested is dropped.
func TextDrop(t []Sign, who int) []Sign {
	return settle(t, person(who), notPutIn)
}

// TextBy is who has suggested something in a text.
func TextBy(t []Sign) []int {
	if !TextOk(t) {
		return nil
	}
	return namedIn(t).list()
}

// settle is an ok text of which only the signs stay that keep says, and in which those people have suggested nothing any more.
// One rule serves to take and to drop: of a sign that stays their name can only be on the side that keep does not ask for.
func settle(t []Sign, by people, keep func(Sign, people) bool) []Sign {
	if !TextOk(t) {
		return nil
	}
	var left []Sign
	for _, s := range t {
		if keep(s, by) {
			left = append(left, Sign{Byte: s.Byte, In: by.without(s.In), Out: by.without(s.Out)})
		}
	}
	return left
}

// notTakenOut keeps what none of these people suggested to take out.
func notTakenOut(s Sign, by people) bool {
	return !by.has(s.Out)
}

// notPutIn keeps what none of these people suggested to put in.
func notPutIn(s Sign, by people) bool {
	return !by.has(s.In)
}

// namedIn is all whose name some sign has.
func namedIn(t []Sign) people {
	var by people
	for _, s := range t {
		by |= person(s.In) | person(s.Out)
	}
	return by
}

// textBytes is the bytes of all signs.
func textBytes(t []Sign) string {
	var b []byte
	for _, s := range t {
		b = append(b, s.Byte)
	}
	return string(b)
}

// signOk says whether a sign may stand in a text: nobody suggests to take out what they only suggest to put in.
func signOk(s Sign) bool {
	return byteOk(s.Byte) && whoOk(s.In) && whoOk(s.Out) && person(s.In)&person(s.Out) == 0
}

// byteOk says whether a byte may stand in a text.
func byteOk(b byte) bool {
	return 'a' <= b && b <= 'z' || '0' <= b && b <= '9' || b == ' '
}

// whoOk says whether a number is that of a person, or nobody's.
func whoOk(who int) bool {
	return 0 <= who && who <= TextWhos
}

// person is the set of that one person; the empty one, if there is no such person.
func person(who int) people {
	if who == 0 || !whoOk(who) {
		return 0
	}
	return 1 << (who - 1)
}

// has says whether a person is in the set.
func (p people) has(who int) bool {
	return p&person(who) != 0
}

// without is that person, but nobody where they are in the set.
func (p people) without(who int) int {
	if p.has(who) {
		return 0
	}
	return who
}

// list is the numbers of all in the set, ascending.
func (p people) list() []int {
	var whos []int
	for who := 1; who <= TextWhos; who++ {
		if p.has(who) {
			whos = append(whos, who)
		}
	}
	return whos
}

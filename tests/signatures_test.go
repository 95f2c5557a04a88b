package tests

import "loop.example/limner/impl"

// The signatures that the document's chapter 1 gives: another one would not compile.
var (
	_ func([]impl.Sign) bool             = impl.TextOk
	_ func(string) []impl.Sign           = impl.TextOf
	_ func([]impl.Sign) string           = impl.TextNow
	_ func([]impl.Sign) string           = impl.TextWas
	_ func([]impl.Sign, int) []impl.Sign = impl.TextTake
	_ func([]impl.Sign, int) []impl.Sign = impl.TextDrop
	_ func([]impl.Sign) []int            = impl.TextBy
	_ struct {
		Byte byte
		In   int
		Out  int
	} = impl.Sign{}
)

package tests

import "loop.example/limner/impl"

// The signatures that the document's chapter 1 gives: another one would not compile.
var (
	_ func([]impl.Sign) bool             = impl.TextOk
	_ func(string) []impl.Sign           = impl.TextOf
	_ func([]impl.Sign) string           = impl.TextNow
	_ func([]impl.Sign) string           = impl.TextWas
	_ func([]impl.Sign, int) []impl.Sign = impl.TextTake
	_ func([]impl.Sign, int) []impl.Sign = impl.TextDrop
	_ func([]impl.Sign) []int            = impl.TextBy
	_ struct {
		Byte byte
		In   int
		Out  int
	} = impl.Sign{}
)

// Those of chapter 2.
var (
	_ func(impl.Table) bool                                   = impl.TableOk
	_ func(int, int) impl.Table                               = impl.TableNew
	_ func(impl.Table, int, int) int                          = impl.TableAt
	_ func(impl.Table) impl.Table                             = impl.TableTurn
	_ func(impl.Table, int) (impl.Table, bool)                = impl.TableRowIn
	_ func(impl.Table, int) (impl.Table, bool)                = impl.TableRowOut
	_ func(impl.Table, int) (impl.Table, bool)                = impl.TableColIn
	_ func(impl.Table, int) (impl.Table, bool)                = impl.TableColOut
	_ func(impl.Table, int, int, int, int) (impl.Table, bool) = impl.TableMerge
	_ func(impl.Table, int) (impl.Table, bool)                = impl.TableSplit
	_ struct {
		Row   int
		Col   int
		Down  int
		Right int
		Text  []impl.Sign
	} = impl.Cell{}
	_ struct {
		Rows  int
		Cols  int
		Cells []impl.Cell
	} = impl.Table{}
)

// Those of chapter 3.
var (
	_ func(impl.Doc) bool                  = impl.DocOk
	_ func(impl.Doc) string                = impl.DocWrite
	_ func(impl.Doc) [][]int               = impl.DocNums
	_ func(impl.Doc, int) (impl.Doc, bool) = impl.DocSink
	_ func(impl.Doc, int) (impl.Doc, bool) = impl.DocLift
	_ func(impl.Doc, int) (impl.Doc, bool) = impl.DocItem
	_ struct {
		Kind  int
		Level int
		Text  []impl.Sign
		Table impl.Table
	} = impl.Block{}
	_ struct{ Blocks []impl.Block } = impl.Doc{}
)

// Those of chapter 11.
var (
	_ func(impl.Doc, impl.Place) bool                = impl.PlaceOk
	_ func(impl.Doc, impl.Place) []impl.Sign         = impl.PlaceText
	_ func(impl.Doc, impl.Step) (impl.Doc, bool)     = impl.StepDo
	_ func(impl.Step) impl.Step                      = impl.StepTurn
	_ func(impl.Step, impl.Place) (impl.Place, bool) = impl.StepMap
	_ func(impl.Doc, []impl.Step) (impl.Doc, bool)   = impl.StepAll
	_ struct {
		Block int
		Cell  int
		At    int
	} = impl.Place{}
	_ struct {
		Kind  int
		Place impl.Place
		Text  []impl.Sign
		Was   impl.Block
		Now   impl.Block
	} = impl.Step{}
)

// Those of chapter 12.
var (
	_ func(impl.Hist) bool                         = impl.HistOk
	_ func(impl.Hist, impl.Step) (impl.Hist, bool) = impl.HistDo
	_ func(impl.Hist) (impl.Hist, bool)            = impl.HistUndo
	_ func(impl.Hist) (impl.Hist, bool)            = impl.HistRedo
	_ struct {
		Doc  impl.Doc
		Done []impl.Step
		Back []impl.Step
	} = impl.Hist{}
)

// Those of chapter 21.
var (
	_ func(impl.Doc, impl.Place, string, int) (impl.Doc, bool) = impl.SugIn
	_ func(impl.Doc, impl.Place, int, int) (impl.Doc, bool)    = impl.SugOut
	_ func(impl.Doc, int) impl.Doc                             = impl.SugTake
	_ func(impl.Doc, int) impl.Doc                             = impl.SugDrop
	_ func(impl.Doc) impl.Doc                                  = impl.SugNow
	_ func(impl.Doc) impl.Doc                                  = impl.SugWas
	_ func(impl.Doc) []int                                     = impl.SugBy
)

// Those of chapter 22.
var (
	_ func(impl.Doc, impl.Place) impl.Place         = impl.SpotNow
	_ func(impl.Doc, impl.Place) impl.Place         = impl.SpotWas
	_ func(impl.Doc, impl.Place) (impl.Place, bool) = impl.SpotRaw
)

// That of chapter 31, and its limit.
var (
	_ func(string) string = impl.LinesRun
	_ [3000]struct{}      = [impl.LinesMax]struct{}{}
)

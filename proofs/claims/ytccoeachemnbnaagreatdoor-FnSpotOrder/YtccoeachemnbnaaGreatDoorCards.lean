/-
  DERIVED. GIVEN WITH THE SEED: THE CARDS: each row of YtccoeachemnbnaaGreatDoorRows.lean that lists a variable, with what it lists TIED to the program's text (the seventh form; the later family's looks); each row that meets fmt, with fmt's text TOLD by the authors' own Lean function (tested against real Go, not proved from fmt's source: count such statements apart). THE CARD IS WHAT COUNTS. Prove the row's statement (the work); the ties are given (YtccoeachemnbnaaGreatDoorTie.lean); close each card by the builder's one call (the guide's Derived/Test/ToyasCard.lean, 'card_holds'). Laid BY PROGRAM, IN A SANDBOX (cutbox-door.mjs). By AI agents, Wed Nov 11 2026. No macro, syntax, notation, axiom, sorry.
-/
import Derived.Test.YtccoeachemnbnaaGreatDoorRows
import GoSem.ClaimSeven
namespace Go.Proofs.YtccoeachemnbnaaGreatDoor
namespace Rows

/-- THE TIED CARD OF 'laws.FnSpotOrder'. -/
def fnSpotOrderCard : Claim7 := { stood := { row := fnSpotOrderRow, standIns := [], harness := (true, "dc80a6834882c7012588833b518638a7530e0f0f09d94a1f8bbce60f372983eb"), looks := true }, kinds := [], alts := [], laidByText := true, laidKinds := [.sentinel], laidTests := true, laidLooks := .later }
def FnSpotOrderCardSaid : Prop := Claim7.holds Tryz.pinned (.plain (OpenSpec.ofChange fnSpotOrderSpec)) fnSpotOrderCard

/-- THE TIED CARD OF 'laws.FnExactSpotNow'. -/
def fnExactSpotNowCard : Claim7 := { stood := { row := fnExactSpotNowRow, standIns := [], harness := (true, "dc80a6834882c7012588833b518638a7530e0f0f09d94a1f8bbce60f372983eb"), looks := true }, kinds := [], alts := [], laidByText := true, laidKinds := [.sentinel], laidTests := true, laidLooks := .later }
def FnExactSpotNowCardSaid : Prop := Claim7.holds Tryz.pinned (.plain (OpenSpec.ofChange fnExactSpotNowSpec)) fnExactSpotNowCard

/-- THE TIED CARD OF 'laws.FnExactSpotWas'. -/
def fnExactSpotWasCard : Claim7 := { stood := { row := fnExactSpotWasRow, standIns := [], harness := (true, "dc80a6834882c7012588833b518638a7530e0f0f09d94a1f8bbce60f372983eb"), looks := true }, kinds := [], alts := [], laidByText := true, laidKinds := [.sentinel], laidTests := true, laidLooks := .later }
def FnExactSpotWasCardSaid : Prop := Claim7.holds Tryz.pinned (.plain (OpenSpec.ofChange fnExactSpotWasSpec)) fnExactSpotWasCard

/-- THE TIED CARD OF 'laws.FnExactSpotRaw'. -/
def fnExactSpotRawCard : Claim7 := { stood := { row := fnExactSpotRawRow, standIns := [], harness := (true, "dc80a6834882c7012588833b518638a7530e0f0f09d94a1f8bbce60f372983eb"), looks := true }, kinds := [], alts := [], laidByText := true, laidKinds := [.sentinel], laidTests := true, laidLooks := .later }
def FnExactSpotRawCardSaid : Prop := Claim7.holds Tryz.pinned (.plain (OpenSpec.ofChange fnExactSpotRawSpec)) fnExactSpotRawCard

/-- THE SECOND FORM's CARD OF 'laws.FnSpotOrder'. -/
def fnSpotOrderUptoCard : Claim7 := { stood := { row := fnSpotOrderUptoRow, standIns := [], harness := (true, "dc80a6834882c7012588833b518638a7530e0f0f09d94a1f8bbce60f372983eb"), looks := true }, kinds := [], alts := [], laidByText := true, laidKinds := [.sentinel], laidTests := true, laidLooks := .later }
def FnSpotOrderUptoCardSaid : Prop := Claim7.holds Tryz.pinned (.plain (OpenSpec.upto fnSpotOrderSpec)) fnSpotOrderUptoCard

/-- THE SECOND FORM's CARD OF 'laws.FnExactSpotNow'. -/
def fnExactSpotNowUptoCard : Claim7 := { stood := { row := fnExactSpotNowUptoRow, standIns := [], harness := (true, "dc80a6834882c7012588833b518638a7530e0f0f09d94a1f8bbce60f372983eb"), looks := true }, kinds := [], alts := [], laidByText := true, laidKinds := [.sentinel], laidTests := true, laidLooks := .later }
def FnExactSpotNowUptoCardSaid : Prop := Claim7.holds Tryz.pinned (.plain (OpenSpec.upto fnExactSpotNowSpec)) fnExactSpotNowUptoCard

/-- THE SECOND FORM's CARD OF 'laws.FnExactSpotWas'. -/
def fnExactSpotWasUptoCard : Claim7 := { stood := { row := fnExactSpotWasUptoRow, standIns := [], harness := (true, "dc80a6834882c7012588833b518638a7530e0f0f09d94a1f8bbce60f372983eb"), looks := true }, kinds := [], alts := [], laidByText := true, laidKinds := [.sentinel], laidTests := true, laidLooks := .later }
def FnExactSpotWasUptoCardSaid : Prop := Claim7.holds Tryz.pinned (.plain (OpenSpec.upto fnExactSpotWasSpec)) fnExactSpotWasUptoCard

/-- THE SECOND FORM's CARD OF 'laws.FnExactSpotRaw'. -/
def fnExactSpotRawUptoCard : Claim7 := { stood := { row := fnExactSpotRawUptoRow, standIns := [], harness := (true, "dc80a6834882c7012588833b518638a7530e0f0f09d94a1f8bbce60f372983eb"), looks := true }, kinds := [], alts := [], laidByText := true, laidKinds := [.sentinel], laidTests := true, laidLooks := .later }
def FnExactSpotRawUptoCardSaid : Prop := Claim7.holds Tryz.pinned (.plain (OpenSpec.upto fnExactSpotRawSpec)) fnExactSpotRawUptoCard
end Rows
end Go.Proofs.YtccoeachemnbnaaGreatDoor

/-
  DERIVED. GIVEN WITH THE SEED: THE CARDS: each row of YthihpggjglghoaaGreatDoorRows.lean that lists a variable, with what it lists TIED to the program's text (the seventh form; the later family's looks); each row that meets fmt, with fmt's text TOLD by the authors' own Lean function (tested against real Go, not proved from fmt's source: count such statements apart). THE CARD IS WHAT COUNTS. Prove the row's statement (the work); the ties are given (YthihpggjglghoaaGreatDoorTie.lean); close each card by the builder's one call (the guide's Derived/Test/ToyasCard.lean, 'card_holds'). Laid BY PROGRAM, IN A SANDBOX (cutbox-door.mjs). By AI agents, Wed Nov 11 2026. No macro, syntax, notation, axiom, sorry.
-/
import Derived.Test.YthihpggjglghoaaGreatDoorRows
import GoSem.ClaimSeven
namespace Go.Proofs.YthihpggjglghoaaGreatDoor
namespace Rows

/-- THE TIED CARD OF 'stearinlaw01.WaxTexts'. -/
def waxTextsCard : Claim7 := { stood := { row := waxTextsRow, standIns := [], harness := (true, "9c459b4ec1be74fb1fd2b8cd9830c02648e61320030aa2aebbffefd79c52d273"), looks := true }, kinds := [], alts := [], laidByText := true, laidKinds := [.data, .data, .data, .data, .sentinel, .sentinel, .pinned], laidTests := true, laidLooks := .later }
def WaxTextsCardSaid : Prop := Claim7.holds Tryz.pinned (.plain (OpenSpec.ofChange waxTextsSpec)) waxTextsCard

/-- THE TIED CARD OF 'stearinlaw01.WaxMore'. -/
def waxMoreCard : Claim7 := { stood := { row := waxMoreRow, standIns := [], harness := (true, "9c459b4ec1be74fb1fd2b8cd9830c02648e61320030aa2aebbffefd79c52d273"), looks := true }, kinds := [], alts := [], laidByText := true, laidKinds := [.data, .data, .data, .data, .sentinel, .sentinel, .pinned], laidTests := true, laidLooks := .later }
def WaxMoreCardSaid : Prop := Claim7.holds Tryz.pinned (.plain (OpenSpec.ofChange waxMoreSpec)) waxMoreCard

/-- THE SECOND FORM's CARD OF 'stearinlaw01.WaxTexts'. -/
def waxTextsUptoCard : Claim7 := { stood := { row := waxTextsUptoRow, standIns := [], harness := (true, "9c459b4ec1be74fb1fd2b8cd9830c02648e61320030aa2aebbffefd79c52d273"), looks := true }, kinds := [], alts := [], laidByText := true, laidKinds := [.data, .data, .data, .data, .sentinel, .sentinel, .pinned], laidTests := true, laidLooks := .later }
def WaxTextsUptoCardSaid : Prop := Claim7.holds Tryz.pinned (.plain (OpenSpec.upto waxTextsSpec)) waxTextsUptoCard

/-- THE SECOND FORM's CARD OF 'stearinlaw01.WaxMore'. -/
def waxMoreUptoCard : Claim7 := { stood := { row := waxMoreUptoRow, standIns := [], harness := (true, "9c459b4ec1be74fb1fd2b8cd9830c02648e61320030aa2aebbffefd79c52d273"), looks := true }, kinds := [], alts := [], laidByText := true, laidKinds := [.data, .data, .data, .data, .sentinel, .sentinel, .pinned], laidTests := true, laidLooks := .later }
def WaxMoreUptoCardSaid : Prop := Claim7.holds Tryz.pinned (.plain (OpenSpec.upto waxMoreSpec)) waxMoreUptoCard
end Rows
end Go.Proofs.YthihpggjglghoaaGreatDoor

/-
  DERIVED. GIVEN WITH THE SEED: THE CARDS: each row of YtkncamggdfmlnaaGreatDoorRows.lean that lists a variable, with what it lists TIED to the program's text (the seventh form; the later family's looks); each row that meets fmt, with fmt's text TOLD by the authors' own Lean function (tested against real Go, not proved from fmt's source: count such statements apart). THE CARD IS WHAT COUNTS. Prove the row's statement (the work); the ties are given (YtkncamggdfmlnaaGreatDoorTie.lean); close each card by the builder's one call (the guide's Derived/Test/ToyasCard.lean, 'card_holds'). Laid BY PROGRAM, IN A SANDBOX (cutbox-door.mjs). By AI agents, Wed Nov 11 2026. No macro, syntax, notation, axiom, sorry.
-/
import Derived.Test.YtkncamggdfmlnaaGreatDoorRows
import GoSem.ClaimSeven
namespace Go.Proofs.YtkncamggdfmlnaaGreatDoor
namespace Rows

/-- THE TIED CARD OF 'askancelaw.PlanKeys'. -/
def planKeysCard : Claim7 := { stood := { row := planKeysRow, standIns := [], harness := (true, "d198b48170c9e8d584e72f9e1058f49804bc428d7db82822a043027d8bdaa59b"), looks := false }, kinds := [], alts := [], laidByText := true, laidKinds := [.data, .pinned], laidTests := true, laidLooks := .later }
def PlanKeysCardSaid : Prop := Claim7.holds Tryz.pinned (.plain (OpenSpec.ofChange planKeysSpec)) planKeysCard

/-- THE SECOND FORM's CARD OF 'askancelaw.PlanKeys'. -/
def planKeysUptoCard : Claim7 := { stood := { row := planKeysUptoRow, standIns := [], harness := (true, "d198b48170c9e8d584e72f9e1058f49804bc428d7db82822a043027d8bdaa59b"), looks := false }, kinds := [], alts := [], laidByText := true, laidKinds := [.data, .pinned], laidTests := true, laidLooks := .later }
def PlanKeysUptoCardSaid : Prop := Claim7.holds Tryz.pinned (.plain (OpenSpec.upto planKeysSpec)) planKeysUptoCard
end Rows
end Go.Proofs.YtkncamggdfmlnaaGreatDoor

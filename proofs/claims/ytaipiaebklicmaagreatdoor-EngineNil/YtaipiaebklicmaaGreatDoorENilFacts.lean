/-
  Closed facts on the program of an engine that is nil, one by one.
-/
import Derived.Test.YtaipiaebklicmaaGreatDoorENil
import Derived.Test.YtaipiaebklicmaaGreatDoorRows
import Derived.ProofKit
import Derived.JoinedCond
namespace Go.Proofs.YtaipiaebklicmaaGreatDoor
open Go.RowKit

theorem engineNil_laidOut : laidOutB Tryz.prog = true := by kernel_rfl
theorem en_maps : mapsRowed Tryz.prog = true := by kernel_rfl
theorem en_place : (Rows.engineNilRow.inPlace == Tryz.prog.inPlace 3) = true := by kernel_rfl
theorem en_unfollowed : (Rows.engineNilRow.unfollowed == Tryz.prog.unfollowed 3) = true := by kernel_rfl
theorem en_recurses : (Rows.engineNilRow.recurses == Tryz.prog.recurses 3) = true := by kernel_rfl
theorem en_named : (Rows.engineNilRow.named == Tryz.prog.varsNamed 3) = true := by kernel_rfl
theorem en_keys : (Rows.engineNilRow.plainKeys == Tryz.prog.plainKeys) = true := by kernel_rfl
theorem en_heard : Tryz.prog.stopsHeard = true := by kernel_rfl
theorem en_enter : Tryz.prog.mayEnter = true := by kernel_rfl
theorem engineNil_closed : joinedFacts Tryz.prog 3 Tryz.f3 (OpenSpec.ofChange Rows.engineNilSpec).bare Rows.engineNilRow = true := by
  unfold joinedFacts
  rw [engineNil_laidOut, en_maps, en_place, en_unfollowed, en_recurses, en_named, en_keys, en_heard, en_enter]
  kernel_rfl

end Go.Proofs.YtaipiaebklicmaaGreatDoor

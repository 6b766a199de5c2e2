/-
  An engine that is nil answers as P7.1 says.
-/
import Derived.Test.YtaipiaebklicmaaGreatDoorMem
import Derived.Test.YtaipiaebklicmaaGreatDoorRows
import Derived.WalkKit
import Derived.WalkSpells
import Derived.WalkLawsBesides
import Derived.Deep.RegionHeld3
namespace Go.Proofs.YtaipiaebklicmaaGreatDoor
open Go.RowKit

theorem blockTwo (w : World) (o1 o2 : Obj) : ((w.alloc o1).alloc o2).heap[w.heap.size + 1]? = some o2 := by
  have h := block_alloc_at (w.alloc o1) o2
  rwa [show (w.alloc o1).heap.size = w.heap.size + 1 by simp] at h

set_option maxHeartbeats 4000000 in
theorem nilDo (t : ByteArray) (w : World) : Calls Tryz.prog 5 #[.pointer none, .agg #[.string t]] w fun e w' => e = .returned (.agg #[.int .i64 3, .int .i64 0, .slice none 0 0]) ∧ Below w.heap.size w w' := by
  go_enter Tryz.func5, Tryz.ntmps5
  go_wp2
  exact bodyPost_ret (v := .agg #[.int .i64 3, .int .i64 0, .slice none 0 0]) (results_cell_row Tryz.results5 _ _ (w.heap.size + 1) 29 #[.int .i64 3, .int .i64 0, .slice none 0 0] _ _ rfl (blockTwo _ _ _) Tryz.underlying29 rfl (by kernel_rfl)) rfl ⟨rfl, ((Below.refl _ _).alloc (Nat.le_refl _) _).alloc (by simp) _⟩

set_option maxHeartbeats 4000000 in
theorem nilCatalog (w : World) : Calls Tryz.prog 6 #[.pointer none] w fun e w' => e = .returned (.agg #[.slice none 0 0, .slice none 0 0]) ∧ Below w.heap.size w w' := by
  go_enter Tryz.func6, Tryz.ntmps6
  go_wp2
  exact bodyPost_ret (v := .agg #[.slice none 0 0, .slice none 0 0]) (results_cell_row Tryz.results6 _ _ w.heap.size 34 #[.slice none 0 0, .slice none 0 0] _ _ rfl (block_alloc_at _ _) Tryz.underlying34 rfl (by kernel_rfl)) rfl ⟨rfl, (Below.refl _ _).alloc (Nat.le_refl _) _⟩

set_option maxHeartbeats 4000000 in
theorem nilTree (w : World) : Calls Tryz.prog 7 #[.pointer none] w fun e w' => e = .returned (.agg #[.slice none 0 0]) ∧ Below w.heap.size w w' := by
  go_enter Tryz.func7, Tryz.ntmps7
  go_wp2
  exact bodyPost_ret (v := .agg #[.slice none 0 0]) (results_cell_row Tryz.results7 _ _ w.heap.size 38 #[.slice none 0 0] _ _ rfl (block_alloc_at _ _) Tryz.underlying38 rfl (by kernel_rfl)) rfl ⟨rfl, (Below.refl _ _).alloc (Nat.le_refl _) _⟩

set_option maxHeartbeats 4000000 in
theorem sameRows_nil (w : World) : Calls Tryz.prog 8 #[.slice none 0 0, .slice none 0 0] w fun e w' => e = .returned (.bool true) ∧ w' = w := by
  go_enter Tryz.func8, Tryz.ntmps8
  go_wp2
  go_loopw [13] (fun i wr => i = .int .i64 0 ∧ Hid (w = wr)) (fun _ _ => 0)
  case atStart => exact ⟨rfl, rfl⟩
  case round =>
    obtain ⟨rfl, hw⟩ := hrel
    go_wp2
    go_ret
    exact ⟨rfl, hw.out.symm⟩

set_option maxHeartbeats 4000000 in
theorem sameReply_none (w : World) : Calls Tryz.prog 4 #[.agg #[.int .i64 3, .int .i64 0, .slice none 0 0], .agg #[.int .i64 3, .int .i64 0, .slice none 0 0]] w fun e w' => e = .returned (.bool true) ∧ Below w.heap.size w w' := by
  go_enter Tryz.func4, Tryz.ntmps4
  go_wp2_with (first | (go_at_call 8; refine (sameRows_nil _).mono ?_; rintro e w1 ⟨rfl, rfl⟩))
  go_ret
  exact ⟨rfl, ((Below.refl _ _).alloc (Nat.le_refl _) _).alloc (by simp) _⟩

set_option maxRecDepth 100000 in
set_option maxHeartbeats 4000000 in
theorem engineNil_walk (t : ByteArray) (w : World) : Calls Tryz.prog 3 #[.agg #[.string t]] w fun e w' => e = .returned (.bool true) ∧ Below w.heap.size w w' := by
  have f1 : ∀ w : World, (Instr.field 34 (.agg #[.slice none 0 0, .slice none 0 0]) 0).run Tryz.prog w = .ok (.slice none 0 0) w := fun w => by kernel_rfl
  have f2 : ∀ w : World, (Instr.field 38 (.agg #[.slice none 0 0]) 0).run Tryz.prog w = .ok (.slice none 0 0) w := fun w => by kernel_rfl
  go_enter Tryz.func3, Tryz.ntmps3
  go_wp2_with (first
    | (go_at_call 5; refine (nilDo _ _).mono ?_; rintro e w1 ⟨rfl, hb1⟩)
    | (go_at_call 4; refine (sameReply_none _).mono ?_; rintro e w2 ⟨rfl, hb2⟩)
    | (go_at_call 6; refine (nilCatalog _).mono ?_; rintro e w3 ⟨rfl, hb3⟩)
    | (go_at_call 7; refine (nilTree _).mono ?_; rintro e w4 ⟨rfl, hb4⟩))
  go_ret
  have b0 : Below w.heap.size w (w.alloc (.cells #[.string t] 23)) := (Below.refl _ _).alloc (Nat.le_refl _) _
  exact ⟨rfl, bthen (bthen (bthen (bthen b0 hb1) hb2) hb3) hb4⟩

end Go.Proofs.YtaipiaebklicmaaGreatDoor

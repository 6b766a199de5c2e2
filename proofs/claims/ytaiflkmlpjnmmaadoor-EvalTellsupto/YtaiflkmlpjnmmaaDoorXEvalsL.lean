/-
  Contract of the statements' evals: eval answers.
-/
import Derived.Test.YtaiflkmlpjnmmaaDoorXWithin
namespace Go.Proofs.YtaiflkmlpjnmmaaDoor
open Go.RowKit

def exE : E := .mk 3 zero noW noW 0 [.mk 2 zero noW noW 1 [], .mk 1 ⟨1, 2, noW⟩ noW noW 0 []]
def exRow : List V := [zero, ⟨1, 5, noW⟩]
theorem ex_ev : ev exRow exE = ⟨1, 7, noW⟩ := by rfl
theorem ex_fit : fitE exE := by simp [exE, fitE, fitL, zero, ByteArray.size]

theorem ex_small : ∀ v ∈ exRow, v.s.size ≤ maxLen := by
  intro v hv
  rcases List.mem_cons.1 hv with rfl | hv
  · exact Nat.zero_le _
  · rcases List.mem_cons.1 hv with rfl | hv
    · exact Nat.zero_le _
    · cases hv
set_option maxRecDepth 100000 in
set_option maxHeartbeats 2000000 in
theorem evals_any (w : World) : Calls Tryd.prog 21 #[] w fun r w' => r = .returned (.bool true) ∧ Below w.heap.size w w' := by
  have hb := bel3 w (.cells #[.int .i64 2, .int .i64 0, .int .i64 0, .string noW, .string noW, .string noW, .int .i64 1, .slice none 0 0, .int .i64 1, .int .i64 1, .int .i64 2, .string noW, .string noW, .string noW, .int .i64 0, .slice none 0 0] 32) (.cells (eArr 3 zero noW noW 0 (.slice (some ⟨w.heap.size, 0, none⟩) 2 2)) 32) (.cells #[.int .i64 0, .int .i64 0, .string noW, .int .i64 1, .int .i64 5, .string noW] 23)
  generalize hW : ((w.alloc (.cells #[.int .i64 2, .int .i64 0, .int .i64 0, .string noW, .string noW, .string noW, .int .i64 1, .slice none 0 0, .int .i64 1, .int .i64 1, .int .i64 2, .string noW, .string noW, .string noW, .int .i64 0, .slice none 0 0] 32)).alloc (.cells (eArr 3 zero noW noW 0 (.slice (some ⟨w.heap.size, 0, none⟩) 2 2)) 32)).alloc (.cells #[.int .i64 0, .int .i64 0, .string noW, .int .i64 1, .int .i64 5, .string noW] 23) = W at hb
  have hbl : W.heap[w.heap.size]? = some (.cells #[.int .i64 2, .int .i64 0, .int .i64 0, .string noW, .string noW, .string noW, .int .i64 1, .slice none 0 0, .int .i64 1, .int .i64 1, .int .i64 2, .string noW, .string noW, .string noW, .int .i64 0, .slice none 0 0] 32) := by
    rw [← hW]; exact block_alloc_of (block_alloc_of (block_alloc_at _ _) _) _
  have hbr : W.heap[w.heap.size + 2]? = some (.cells #[.int .i64 0, .int .i64 0, .string noW, .int .i64 1, .int .i64 5, .string noW] 23) := by
    rw [← hW]; exact block3 _ _ _ _
  have he : IsE (fun k => k < W.heap.size) W exE (.agg (eArr 3 zero noW noW 0 (.slice (some ⟨w.heap.size, 0, none⟩) 2 2))) := by
    refine isE_mk ⟨[.int .i64 2, .int .i64 0, .int .i64 0, .string noW, .string noW, .string noW, .int .i64 1, .slice none 0 0, .int .i64 1, .int .i64 1, .int .i64 2, .string noW, .string noW, .string noW, .int .i64 0, .slice none 0 0], ⟨rfl, .inr ⟨by decide, w.heap.size, 0, 2, rfl, lt_of_block hbl, lt_of_block hbl, Nat.le_refl _, by decide, fun j u hj => ?_⟩⟩, ?_⟩
    · exact cell_of_block hbl (by simpa using hj)
    · exact allE_append (allE_one (c := [.int .i64 2, .int .i64 0, .int .i64 0, .string noW, .string noW, .string noW, .int .i64 1, .slice none 0 0]) rfl (isE_mk (IsEs.nil _ _))) (allE_one (c := [.int .i64 1, .int .i64 1, .int .i64 2, .string noW, .string noW, .string noW, .int .i64 0, .slice none 0 0]) rfl (isE_mk (x := ⟨1, 2, noW⟩) (IsEs.nil _ _)))
  have hr : IsVals W (.slice (some ⟨w.heap.size + 2, 0, none⟩) 2 2) exRow := by
    refine .inr ⟨w.heap.size + 2, 0, 2, rfl, lt_of_block hbr, fun i v hi => ?_⟩
    match i, hi with
    | 0, hi => cases hi; exact ⟨cell_of_block hbr rfl, cell_of_block hbr rfl, cell_of_block hbr rfl⟩
    | 1, hi => cases hi; exact ⟨cell_of_block hbr rfl, cell_of_block hbr rfl, cell_of_block hbr rfl⟩
    | i + 2, hi => simp [exRow] at hi
  have hev := eval_any exE _ _ exRow W.heap.size W he (Nat.le_refl _) (by decide) ex_fit hr ex_small (by decide)
  rw [ex_ev] at hev
  simp only [V.val] at hev
  subst hW
  go_enter Tryd.func21, Tryd.ntmps21
  go_wp2_with (first | (go_at_call 16; go_fit hev; rintro r1 w1 ⟨rfl, hb1⟩))
  go_ret
  exact ⟨rfl, bthen hb hb1⟩

end Go.Proofs.YtaiflkmlpjnmmaaDoor

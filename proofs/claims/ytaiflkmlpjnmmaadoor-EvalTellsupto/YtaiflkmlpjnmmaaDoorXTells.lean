/-
  The walk of EvalTells: Eval, Of and Truth answer as the document's own answer does.
-/
import Derived.Test.YtaiflkmlpjnmmaaDoorXEvalsL
import Derived.Test.YtaiflkmlpjnmmaaDoorXRef8
import Derived.Test.YtaiflkmlpjnmmaaDoorSteps
namespace Go.Proofs.YtaiflkmlpjnmmaaDoor
open Go.RowKit

/-- The three blocks stay. -/
theorem tell_keep {W W' : World} {g : Nat} {a0 a1 a2 a3 a4 a5 a6 a7 b0 b1 b2 c0 c1 c2 : Value}
    (h : W.cell? ⟨g, 0, none⟩ = some a0 ∧ W.cell? ⟨g, 1, none⟩ = some a1 ∧ W.cell? ⟨g, 2, none⟩ = some a2 ∧ W.cell? ⟨g, 3, none⟩ = some a3 ∧ W.cell? ⟨g, 4, none⟩ = some a4 ∧ W.cell? ⟨g, 5, none⟩ = some a5 ∧ W.cell? ⟨g, 6, none⟩ = some a6 ∧ W.cell? ⟨g, 7, none⟩ = some a7 ∧ W.cell? ⟨g + 1, 0, none⟩ = some b0 ∧ W.cell? ⟨g + 1, 1, none⟩ = some b1 ∧ W.cell? ⟨g + 1, 2, none⟩ = some b2 ∧ W.cell? ⟨g + 1 + 1, 0, none⟩ = some c0 ∧ W.cell? ⟨g + 1 + 1, 1, none⟩ = some c1 ∧ W.cell? ⟨g + 1 + 1, 2, none⟩ = some c2)
    (hb : Below W.heap.size W W') (hg : g + 3 ≤ W.heap.size) :
    W'.cell? ⟨g, 0, none⟩ = some a0 ∧ W'.cell? ⟨g, 1, none⟩ = some a1 ∧ W'.cell? ⟨g, 2, none⟩ = some a2 ∧ W'.cell? ⟨g, 3, none⟩ = some a3 ∧ W'.cell? ⟨g, 4, none⟩ = some a4 ∧ W'.cell? ⟨g, 5, none⟩ = some a5 ∧ W'.cell? ⟨g, 6, none⟩ = some a6 ∧ W'.cell? ⟨g, 7, none⟩ = some a7 ∧ W'.cell? ⟨g + 1, 0, none⟩ = some b0 ∧ W'.cell? ⟨g + 1, 1, none⟩ = some b1 ∧ W'.cell? ⟨g + 1, 2, none⟩ = some b2 ∧ W'.cell? ⟨g + 1 + 1, 0, none⟩ = some c0 ∧ W'.cell? ⟨g + 1 + 1, 1, none⟩ = some c1 ∧ W'.cell? ⟨g + 1 + 1, 2, none⟩ = some c2 := by
  have kc : ∀ b o, b < W.heap.size → W'.cell? ⟨b, o, none⟩ = W.cell? ⟨b, o, none⟩ := fun b o hh => hb.cell (p := ⟨b, o, none⟩) hh
  obtain ⟨h0, h1, h2, h3, h4, h5, h6, h7, h8, h9, h10, h11, h12, h13⟩ := h
  exact ⟨(kc _ _ (by omega)).trans h0, (kc _ _ (by omega)).trans h1, (kc _ _ (by omega)).trans h2, (kc _ _ (by omega)).trans h3, (kc _ _ (by omega)).trans h4, (kc _ _ (by omega)).trans h5, (kc _ _ (by omega)).trans h6, (kc _ _ (by omega)).trans h7, (kc _ _ (by omega)).trans h8, (kc _ _ (by omega)).trans h9, (kc _ _ (by omega)).trans h10, (kc _ _ (by omega)).trans h11, (kc _ _ (by omega)).trans h12, (kc _ _ (by omega)).trans h13⟩

/-- The three blocks, as they are laid. -/
theorem tell_start (w : World) (op xk xn : Int) (xs s name : Wd) (n : Int) (ao : Option Addr) (k c : Nat) (uk un : Int) (us : ByteArray) (Q0 Q1 : Int) (W : World)
    (hW : ((w.alloc (.cells (eArr op ⟨xk, xn, xs⟩ s name n (.slice ao k c)) 32)).alloc (.cells #[.int .i64 uk, .int .i64 un, .string us] 23)).alloc (.cells #[.int .i64 Q0, .int .i64 Q1, .string noW] 23) = W) :
    (W.cell? ⟨w.heap.size, 0, none⟩ = some (.int .i64 op) ∧ W.cell? ⟨w.heap.size, 1, none⟩ = some (.int .i64 xk) ∧ W.cell? ⟨w.heap.size, 2, none⟩ = some (.int .i64 xn) ∧ W.cell? ⟨w.heap.size, 3, none⟩ = some (.string xs) ∧ W.cell? ⟨w.heap.size, 4, none⟩ = some (.string s) ∧ W.cell? ⟨w.heap.size, 5, none⟩ = some (.string name) ∧ W.cell? ⟨w.heap.size, 6, none⟩ = some (.int .i64 n) ∧ W.cell? ⟨w.heap.size, 7, none⟩ = some (.slice ao k c) ∧ W.cell? ⟨w.heap.size + 1, 0, none⟩ = some (.int .i64 uk) ∧ W.cell? ⟨w.heap.size + 1, 1, none⟩ = some (.int .i64 un) ∧ W.cell? ⟨w.heap.size + 1, 2, none⟩ = some (.string us) ∧ W.cell? ⟨w.heap.size + 1 + 1, 0, none⟩ = some (.int .i64 Q0) ∧ W.cell? ⟨w.heap.size + 1 + 1, 1, none⟩ = some (.int .i64 Q1) ∧ W.cell? ⟨w.heap.size + 1 + 1, 2, none⟩ = some (.string noW)) ∧ w.heap.size + 3 ≤ W.heap.size := by
  have b0 : W.heap[w.heap.size]? = some (.cells (eArr op ⟨xk, xn, xs⟩ s name n (.slice ao k c)) 32) := by rw [← hW]; exact block_alloc_of (block_alloc_of (block_alloc_at _ _) _) _
  have b1 : W.heap[w.heap.size + 1]? = some (.cells #[.int .i64 uk, .int .i64 un, .string us] 23) := by rw [← hW]; exact block_alloc_of (block2 _ _ _) _
  have b2 : W.heap[w.heap.size + 1 + 1]? = some (.cells #[.int .i64 Q0, .int .i64 Q1, .string noW] 23) := by rw [← hW]; exact block3 _ _ _ _
  exact ⟨⟨cell_of_block b0 rfl, cell_of_block b0 rfl, cell_of_block b0 rfl, cell_of_block b0 rfl, cell_of_block b0 rfl, cell_of_block b0 rfl, cell_of_block b0 rfl, cell_of_block b0 rfl, cell_of_block b1 rfl, cell_of_block b1 rfl, cell_of_block b1 rfl, cell_of_block b2 rfl, cell_of_block b2 rfl, cell_of_block b2 rfl⟩, lt_of_block b2⟩

set_option maxRecDepth 100000 in
set_option maxHeartbeats 8000000 in
theorem tells_at (e : E) (v rv : Value) (row : List V) (u : V) (m q0 q1 : Int) (qs : Wd) (hm : m = 0 ∧ q0 = 3 ∧ q1 = 0 ∧ qs = noW ∨ m = 1 ∧ q0 = 3 ∧ q1 = 1 ∧ qs = noW ∨ (m ≠ 0 ∧ m ≠ 1) ∧ q0 = 0 ∧ q1 = 0 ∧ qs = noW) (C : Nat) (w : World) (he : IsE (fun k => k < C) w e v) (hC : C ≤ w.heap.size) (hn : e.nodes ≤ 1048576) (hf : fitE e) (hr : IsVals w rv row) (hrs : ∀ v ∈ row, v.s.size ≤ maxLen) (hrl : row.length ≤ 1048576) (ht : TruthsLie w) (hg : 0 < w.heap.size) :
    Calls Tryd.prog 4 #[v, rv, u.val, .int .i64 m] w fun r w' => r = .returned (.bool true) ∧ Below w.heap.size w w' := by
  have hrl' : row.length ≤ maxLen := Nat.le_trans hrl (by decide)
  obtain ⟨op, ⟨xk, xn, xs⟩, s, name, n, ao, k, c, rfl⟩ := he.shape
  have hTr : ∀ w, Calls Tryd.prog 20 #[.int .i64 m] w fun e w' => e = .returned (.agg #[.int .i64 q0, .int .i64 q1, .string qs]) ∧ Below w.heap.size w w' := fun w => by
    refine (truth_any m w).mono fun e w' ⟨h1, h2⟩ => ⟨?_, h2⟩
    rw [h1]
    rcases hm with ⟨rfl, rfl, rfl, rfl⟩ | ⟨rfl, rfl, rfl, rfl⟩ | ⟨⟨h3, h4⟩, rfl, rfl, rfl⟩
    · rfl
    · rfl
    · simp [truthV, h3, h4, V.val, zero]
  have hEv := fun (rv' : Value) (W : World) (hb : Below w.heap.size w W) (h : IsVals W rv' row) => eval_any e _ rv' row C W (IsE.keep (keepsC (hb.mono hC)) e _ he) (Nat.le_trans hC hb.size) (by omega) hf h hrs hrl'
  have hEo := fun (W : World) (hb : Below w.heap.size w W) => evalOf_any e _ rv row C W (IsE.keep (keepsC (hb.mono hC)) e _ he) (Nat.le_trans hC hb.size) hf (hr.below hb) hrs hrl' (ht.later hg hb) (Nat.lt_of_lt_of_le hg hb.size)
  have hO := fun w => of_any u w
  have hTo := fun w => truthOf_any u w
  generalize ofV u = o at hO hTo
  generalize ev row e = z at hEv hEo
  obtain ⟨zk, zn, zs⟩ := z
  obtain ⟨uk, un, us⟩ := u
  simp only [V.val] at hEv hEo hO hTo
  show Calls Tryd.prog 4 #[_, _, .agg #[.int .i64 uk, .int .i64 un, .string us], _] w _
  have hb3 := bel3 w (.cells (eArr op ⟨xk, xn, xs⟩ s name n (.slice ao k c)) 32) (.cells #[.int .i64 uk, .int .i64 un, .string us] 23) (.cells #[.int .i64 q0, .int .i64 q1, .string qs] 23)
  have hr3 := hr.below hb3.drew
  have hrs0 := hr.shape
  obtain ⟨ro, rc, rfl⟩ := hrs0
  clear he hr ht
  rcases hm with ⟨rfl, rfl, rfl, rfl⟩ | ⟨rfl, rfl, rfl, rfl⟩ | ⟨⟨h3, h4⟩, rfl, rfl, rfl⟩
  · go_enter Tryd.func4, Tryd.ntmps4
    go_wp2_with fail
    obtain ⟨S0, z0⟩ := tell_start w op xk xn xs s name n ao k c uk un us 3 0 _ rfl
    generalize ((w.alloc (.cells (eArr op ⟨xk, xn, xs⟩ s name n (.slice ao k c)) 32)).alloc (.cells #[.int .i64 uk, .int .i64 un, .string us] 23)).alloc (.cells #[.int .i64 3, .int .i64 0, .string noW] 23) = W0 at hb3 hr3 S0 z0 ⊢
    go_region_held3 (fun w' => w'.cell? ⟨w.heap.size, 0, none⟩ = some (.int .i64 op) ∧ w'.cell? ⟨w.heap.size, 1, none⟩ = some (.int .i64 xk) ∧ w'.cell? ⟨w.heap.size, 2, none⟩ = some (.int .i64 xn) ∧ w'.cell? ⟨w.heap.size, 3, none⟩ = some (.string xs) ∧ w'.cell? ⟨w.heap.size, 4, none⟩ = some (.string s) ∧ w'.cell? ⟨w.heap.size, 5, none⟩ = some (.string name) ∧ w'.cell? ⟨w.heap.size, 6, none⟩ = some (.int .i64 n) ∧ w'.cell? ⟨w.heap.size, 7, none⟩ = some (.slice ao k c) ∧ w'.cell? ⟨w.heap.size + 1, 0, none⟩ = some (.int .i64 uk) ∧ w'.cell? ⟨w.heap.size + 1, 1, none⟩ = some (.int .i64 un) ∧ w'.cell? ⟨w.heap.size + 1, 2, none⟩ = some (.string us) ∧ w'.cell? ⟨w.heap.size + 1 + 1, 0, none⟩ = some (.int .i64 3) ∧ w'.cell? ⟨w.heap.size + 1 + 1, 1, none⟩ = some (.int .i64 0) ∧ w'.cell? ⟨w.heap.size + 1 + 1, 2, none⟩ = some (.string noW))
      (first | assumption | exact S0)
      (first | (refine step_copy_vals (by rfl) _ _ (by rfl) (by rfl) _ row (by rfl) hr3 hrl ?_; intro bo bc w1 hv1 hb1; have S1 := tell_keep (W := W0.drew) S0 hb1 z0; have z1 := Nat.le_trans z0 hb1.size; have B1 := bthen hb3.drew hb1) | (go_at_call 16; go_fit (hEv _ _ B1 hv1); rintro r2 w2 ⟨rfl, hb2⟩; have S2 := tell_keep S1 hb2 z1; have z2 := Nat.le_trans z1 hb2.size; have B2 := bthen B1 hb2) | (go_at_call 17; go_fit (hEo _ B2); rintro r3 w3 ⟨rfl, hb3'⟩; have S3 := tell_keep S2 hb3' z2; have z3 := Nat.le_trans z2 hb3'.size; have B3 := bthen B2 hb3') | (go_at_call 18; go_fit (hO _); rintro r4 w4 ⟨rfl, hb4⟩; have S4 := tell_keep S3 hb4 z3; have z4 := Nat.le_trans z3 hb4.size; have B4 := bthen B3 hb4) | (go_at_call 19; go_fit (hTo _); rintro r5 w5 ⟨rfl, hb5⟩; have S5 := tell_keep S4 hb5 z4; have z5 := Nat.le_trans z4 hb5.size; have B5 := bthen B4 hb5) | (go_at_call 20; go_fit (hTr _); rintro r6 w6 ⟨rfl, hb6⟩; have S6 := tell_keep S5 hb6 z5; have z6 := Nat.le_trans z5 hb6.size; have B6 := bthen B5 hb6) | (go_at_call 21; go_fit (evals_any _); rintro r7 w7 ⟨rfl, hb7⟩; have S7 := tell_keep S6 hb7 z6; have B7 := bthen B6 hb7))
    go_wp2
    go_ret
    exact ⟨rfl, B7⟩
  · go_enter Tryd.func4, Tryd.ntmps4
    go_wp2_with fail
    obtain ⟨S0, z0⟩ := tell_start w op xk xn xs s name n ao k c uk un us 3 1 _ rfl
    generalize ((w.alloc (.cells (eArr op ⟨xk, xn, xs⟩ s name n (.slice ao k c)) 32)).alloc (.cells #[.int .i64 uk, .int .i64 un, .string us] 23)).alloc (.cells #[.int .i64 3, .int .i64 1, .string noW] 23) = W0 at hb3 hr3 S0 z0 ⊢
    go_region_held3 (fun w' => w'.cell? ⟨w.heap.size, 0, none⟩ = some (.int .i64 op) ∧ w'.cell? ⟨w.heap.size, 1, none⟩ = some (.int .i64 xk) ∧ w'.cell? ⟨w.heap.size, 2, none⟩ = some (.int .i64 xn) ∧ w'.cell? ⟨w.heap.size, 3, none⟩ = some (.string xs) ∧ w'.cell? ⟨w.heap.size, 4, none⟩ = some (.string s) ∧ w'.cell? ⟨w.heap.size, 5, none⟩ = some (.string name) ∧ w'.cell? ⟨w.heap.size, 6, none⟩ = some (.int .i64 n) ∧ w'.cell? ⟨w.heap.size, 7, none⟩ = some (.slice ao k c) ∧ w'.cell? ⟨w.heap.size + 1, 0, none⟩ = some (.int .i64 uk) ∧ w'.cell? ⟨w.heap.size + 1, 1, none⟩ = some (.int .i64 un) ∧ w'.cell? ⟨w.heap.size + 1, 2, none⟩ = some (.string us) ∧ w'.cell? ⟨w.heap.size + 1 + 1, 0, none⟩ = some (.int .i64 3) ∧ w'.cell? ⟨w.heap.size + 1 + 1, 1, none⟩ = some (.int .i64 1) ∧ w'.cell? ⟨w.heap.size + 1 + 1, 2, none⟩ = some (.string noW))
      (first | assumption | exact S0)
      (first | (refine step_copy_vals (by rfl) _ _ (by rfl) (by rfl) _ row (by rfl) hr3 hrl ?_; intro bo bc w1 hv1 hb1; have S1 := tell_keep (W := W0.drew) S0 hb1 z0; have z1 := Nat.le_trans z0 hb1.size; have B1 := bthen hb3.drew hb1) | (go_at_call 16; go_fit (hEv _ _ B1 hv1); rintro r2 w2 ⟨rfl, hb2⟩; have S2 := tell_keep S1 hb2 z1; have z2 := Nat.le_trans z1 hb2.size; have B2 := bthen B1 hb2) | (go_at_call 17; go_fit (hEo _ B2); rintro r3 w3 ⟨rfl, hb3'⟩; have S3 := tell_keep S2 hb3' z2; have z3 := Nat.le_trans z2 hb3'.size; have B3 := bthen B2 hb3') | (go_at_call 18; go_fit (hO _); rintro r4 w4 ⟨rfl, hb4⟩; have S4 := tell_keep S3 hb4 z3; have z4 := Nat.le_trans z3 hb4.size; have B4 := bthen B3 hb4) | (go_at_call 19; go_fit (hTo _); rintro r5 w5 ⟨rfl, hb5⟩; have S5 := tell_keep S4 hb5 z4; have z5 := Nat.le_trans z4 hb5.size; have B5 := bthen B4 hb5) | (go_at_call 20; go_fit (hTr _); rintro r6 w6 ⟨rfl, hb6⟩; have S6 := tell_keep S5 hb6 z5; have z6 := Nat.le_trans z5 hb6.size; have B6 := bthen B5 hb6) | (go_at_call 21; go_fit (evals_any _); rintro r7 w7 ⟨rfl, hb7⟩; have S7 := tell_keep S6 hb7 z6; have B7 := bthen B6 hb7))
    go_wp2
    go_ret
    exact ⟨rfl, B7⟩
  · have e0 : (m == 0) = false := by simpa using h3
    have e1 : (m == 1) = false := by simpa using h4
    go_enter Tryd.func4, Tryd.ntmps4
    go_wp2_with fail
    obtain ⟨S0, z0⟩ := tell_start w op xk xn xs s name n ao k c uk un us 0 0 _ rfl
    generalize ((w.alloc (.cells (eArr op ⟨xk, xn, xs⟩ s name n (.slice ao k c)) 32)).alloc (.cells #[.int .i64 uk, .int .i64 un, .string us] 23)).alloc (.cells #[.int .i64 0, .int .i64 0, .string noW] 23) = W0 at hb3 hr3 S0 z0 ⊢
    go_region_held3 (fun w' => w'.cell? ⟨w.heap.size, 0, none⟩ = some (.int .i64 op) ∧ w'.cell? ⟨w.heap.size, 1, none⟩ = some (.int .i64 xk) ∧ w'.cell? ⟨w.heap.size, 2, none⟩ = some (.int .i64 xn) ∧ w'.cell? ⟨w.heap.size, 3, none⟩ = some (.string xs) ∧ w'.cell? ⟨w.heap.size, 4, none⟩ = some (.string s) ∧ w'.cell? ⟨w.heap.size, 5, none⟩ = some (.string name) ∧ w'.cell? ⟨w.heap.size, 6, none⟩ = some (.int .i64 n) ∧ w'.cell? ⟨w.heap.size, 7, none⟩ = some (.slice ao k c) ∧ w'.cell? ⟨w.heap.size + 1, 0, none⟩ = some (.int .i64 uk) ∧ w'.cell? ⟨w.heap.size + 1, 1, none⟩ = some (.int .i64 un) ∧ w'.cell? ⟨w.heap.size + 1, 2, none⟩ = some (.string us) ∧ w'.cell? ⟨w.heap.size + 1 + 1, 0, none⟩ = some (.int .i64 0) ∧ w'.cell? ⟨w.heap.size + 1 + 1, 1, none⟩ = some (.int .i64 0) ∧ w'.cell? ⟨w.heap.size + 1 + 1, 2, none⟩ = some (.string noW))
      (first | assumption | exact S0)
      (first | (refine step_copy_vals (by rfl) _ _ (by rfl) (by rfl) _ row (by rfl) hr3 hrl ?_; intro bo bc w1 hv1 hb1; have S1 := tell_keep (W := W0.drew) S0 hb1 z0; have z1 := Nat.le_trans z0 hb1.size; have B1 := bthen hb3.drew hb1) | (go_at_call 16; go_fit (hEv _ _ B1 hv1); rintro r2 w2 ⟨rfl, hb2⟩; have S2 := tell_keep S1 hb2 z1; have z2 := Nat.le_trans z1 hb2.size; have B2 := bthen B1 hb2) | (go_at_call 17; go_fit (hEo _ B2); rintro r3 w3 ⟨rfl, hb3'⟩; have S3 := tell_keep S2 hb3' z2; have z3 := Nat.le_trans z2 hb3'.size; have B3 := bthen B2 hb3') | (go_at_call 18; go_fit (hO _); rintro r4 w4 ⟨rfl, hb4⟩; have S4 := tell_keep S3 hb4 z3; have z4 := Nat.le_trans z3 hb4.size; have B4 := bthen B3 hb4) | (go_at_call 19; go_fit (hTo _); rintro r5 w5 ⟨rfl, hb5⟩; have S5 := tell_keep S4 hb5 z4; have z5 := Nat.le_trans z4 hb5.size; have B5 := bthen B4 hb5) | (go_at_call 20; go_fit (hTr _); rintro r6 w6 ⟨rfl, hb6⟩; have S6 := tell_keep S5 hb6 z5; have z6 := Nat.le_trans z5 hb6.size; have B6 := bthen B5 hb6) | (go_at_call 21; go_fit (evals_any _); rintro r7 w7 ⟨rfl, hb7⟩; have S7 := tell_keep S6 hb7 z6; have B7 := bthen B6 hb7))
    go_wp2
    go_ret
    exact ⟨rfl, B7⟩

/-- THE WALK. -/
theorem evalTells_walk (e : E) (v rv : Value) (row : List V) (u : V) (m : Int) (C : Nat) (w : World) (he : IsE (fun k => k < C) w e v) (hC : C ≤ w.heap.size) (hn : e.nodes ≤ 1048576) (hf : fitE e) (hr : IsVals w rv row) (hrs : ∀ v ∈ row, v.s.size ≤ maxLen) (hrl : row.length ≤ 1048576) (ht : TruthsLie w) (hg : 0 < w.heap.size) :
    Calls Tryd.prog 4 #[v, rv, u.val, .int .i64 m] w fun r w' => r = .returned (.bool true) ∧ Below w.heap.size w w' := by
  by_cases h0 : m = 0
  · exact tells_at e v rv row u m 3 0 noW (.inl ⟨h0, rfl, rfl, rfl⟩) C w he hC hn hf hr hrs hrl ht hg
  by_cases h1 : m = 1
  · exact tells_at e v rv row u m 3 1 noW (.inr (.inl ⟨h1, rfl, rfl, rfl⟩)) C w he hC hn hf hr hrs hrl ht hg
  exact tells_at e v rv row u m 0 0 noW (.inr (.inr ⟨⟨h0, h1⟩, rfl, rfl, rfl⟩)) C w he hC hn hf hr hrs hrl ht hg

end Go.Proofs.YtaiflkmlpjnmmaaDoor

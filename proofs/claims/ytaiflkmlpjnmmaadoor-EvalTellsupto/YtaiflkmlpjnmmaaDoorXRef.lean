/-
  Contracts of the statements' own TruthOf, valueOf and EvalOf's argument: P5.1, P5.2.
-/
import Derived.Test.YtaiflkmlpjnmmaaDoorXWithin
import Derived.Test.YtaiflkmlpjnmmaaDoorIsValue
import Derived.Test.YtaiflkmlpjnmmaaDoorTables
namespace Go.Proofs.YtaiflkmlpjnmmaaDoor
open Go.RowKit

set_option maxHeartbeats 400000 in
theorem truthOf_any (v : V) (w : World) : Calls Tryd.prog 19 #[v.val] w fun e w' => e = .returned (.int .i64 (ofV v)) ∧ Below w.heap.size w w' := by
  obtain ⟨k, n, s⟩ := v
  show Calls Tryd.prog 19 #[.agg #[.int .i64 k, .int .i64 n, .string s]] w _
  by_cases h : k = 3
  all_goals
    go_enter Tryd.func19, Tryd.ntmps19
    go_wp2
    go_ret
    refine ⟨ret_int ?_, (Below.refl _ _).alloc (Nat.le_refl _) _⟩
    simp [ofV, h, bit_one]

set_option maxHeartbeats 400000 in
theorem valueOf_any (n : Int) (hn : n = 0 ∨ n = 1 ∨ n = 2) (w : World) : Calls Tryd.prog 31 #[.int .i64 n] w fun e w' => e = .returned (truthV n).val ∧ Below w.heap.size w w' := by
  rcases hn with rfl | rfl | rfl
  · go_enter Tryd.func31, Tryd.ntmps31
    go_wp2
    exact bodyPost_ret (v := .agg #[.int .i64 3, .int .i64 0, .string noW]) (by simp [results, Tryd.results31, go_sem]) rfl ⟨rfl, (Below.refl _ _).alloc (Nat.le_refl _) _⟩
  · go_enter Tryd.func31, Tryd.ntmps31
    go_wp2
    exact bodyPost_ret (v := .agg #[.int .i64 3, .int .i64 1, .string noW]) (by simp [results, Tryd.results31, go_sem]) rfl ⟨rfl, (Below.refl _ _).alloc (Nat.le_refl _) _⟩
  · go_enter Tryd.func31, Tryd.ntmps31
    go_wp2
    exact bodyPost_ret (v := .agg #[.int .i64 0, .int .i64 0, .string noW]) (by simp [results, Tryd.results31, go_sem]) rfl ⟨rfl, (Below.refl _ _).alloc (Nat.le_refl _) _⟩

theorem three_not (a : Int) : tNot a = 0 ∨ tNot a = 1 ∨ tNot a = 2 := by
  unfold tNot
  repeat' split
  all_goals decide
theorem three_and (a b : Int) : tAnd a b = 0 ∨ tAnd a b = 1 ∨ tAnd a b = 2 := by
  unfold tAnd
  repeat' split
  all_goals decide
theorem three_or (a b : Int) : tOr a b = 0 ∨ tOr a b = 1 ∨ tOr a b = 2 := by
  unfold tOr
  repeat' split
  all_goals decide

/-- What EvalOf promises of an expression. -/
def OfSays (e : E) : Prop := ∀ (v rv : Value) (row : List V) (C : Nat) (w : World), IsE (fun k => k < C) w e v → C ≤ w.heap.size → fitE e → IsVals w rv row → (∀ v ∈ row, v.s.size ≤ maxLen) → row.length ≤ maxLen → TruthsLie w → 0 < w.heap.size →
    Calls Tryd.prog 17 #[v, rv] w fun r w' => r = .returned (ev row e).val ∧ Below w.heap.size w w'

theorem TruthsLie.later {w w' : World} (h : TruthsLie w) (hg : 0 < w.heap.size) (hb : Below w.heap.size w w') : TruthsLie w' :=
  ⟨(hb.cell (p := ⟨0, 0, none⟩) hg).trans h.1, (hb.cell (p := ⟨0, 1, none⟩) hg).trans h.2.1, (hb.cell (p := ⟨0, 2, none⟩) hg).trans h.2.2⟩

set_option maxRecDepth 100000 in
set_option maxHeartbeats 4000000 in
theorem arg_any (i : Nat) (e1 e2 : Nat) (op xk xn : Int) (xs s name : Wd) (n : Int) (ao : Option Addr) (c : Nat) (l : List E) (y : E) (rv : Value) (row : List V) (C : Nat) (w : World)
    (hy : l[i]? = some y) (hs : OfSays y) (hE : w.heap[e1]? = some (.cells (eArr op ⟨xk, xn, xs⟩ s name n (.slice ao l.length c)) 32)) (hR : w.heap[e2]? = some (.cells #[rv] 33))
    (he : IsEs (fun k => k < C) w (.slice ao l.length c) l) (hC : C ≤ w.heap.size) (hf : fitE y) (hr : IsVals w rv row) (hrs : ∀ v ∈ row, v.s.size ≤ maxLen) (hrl : row.length ≤ maxLen) (ht : TruthsLie w) (hg : 0 < w.heap.size) :
    Calls Tryd.prog 30 #[.int .i64 (i : Int), .pointer (some ⟨e1, 0, none⟩), .pointer (some ⟨e2, 0, none⟩)] w fun r w' => r = .returned (ev row y).val ∧ Below w.heap.size w w' := by
  have hil : i < l.length := (List.getElem?_eq_some_iff.1 hy).1
  obtain ⟨cs, hrB, haE⟩ := he
  obtain ⟨kb, kf, rfl⟩ : ∃ kb kf, ao = some ⟨kb, kf, none⟩ := by
    rcases hrB.2 with ⟨h1, _⟩ | ⟨_, kb, kf, kc', h2, _⟩
    · omega
    · cases h2; exact ⟨kb, kf, rfl⟩
  have hkb : kb < w.heap.size := by
    rcases hrB.2 with ⟨h1, _⟩ | ⟨_, kb, kf, kc', h2, _, h3, _⟩
    · omega
    · cases h2; exact h3
  have hlm : l.length ≤ maxLen := by
    rcases hrB.2 with ⟨h1, _⟩ | ⟨_, kb, kf, kc', h2, _, _, h4, h5, _⟩
    · omega
    · omega
  obtain ⟨yo, yk, yn, yt, ys, ym, yi, ya, yl, yc, hye, hyc⟩ := row_elem hrB haE hy
  obtain ⟨ro, rc, rfl⟩ := hr.shape
  have hb1 := bel1 w (.cells #[.int .i64 0, .int .i64 0, .string noW] 23)
  obtain ⟨c0, c1, c2, c3, c4, c5, c6, c7⟩ := hyc _ hb1
  have hbd := hb1.drew
  have hW := hs _ _ row C _ (IsE.keep (keepsC (hbd.mono hC)) y _ hye) (Nat.le_trans hC hbd.size) hf (hr.below hbd) hrs hrl (ht.later hg hbd) (Nat.lt_of_lt_of_le hg hbd.size)
  have hl1 := lt_of_block hE
  have hl2 := lt_of_block hR
  have d7 : (w.alloc (.cells #[.int .i64 0, .int .i64 0, .string noW] 23)).cell? ⟨e1, 7, none⟩ = some (.slice (some ⟨kb, kf, none⟩) l.length c) := cell_of_block ((hb1.block _ hl1).trans hE) rfl
  have d8 : (w.alloc (.cells #[.int .i64 0, .int .i64 0, .string noW] 23)).cell? ⟨e2, 0, none⟩ = some (.slice ro row.length rc) := cell_of_block ((hb1.block _ hl2).trans hR) rfl
  have hres : (w.alloc (.cells #[.int .i64 0, .int .i64 0, .string noW] 23)).heap[w.heap.size]? = some (.cells #[.int .i64 0, .int .i64 0, .string noW] 23) := block_alloc_at _ _
  have i0 : (0 : Int) ≤ (i : Int) := by omega
  have i1 : (i : Int) < (l.length : Int) := by omega
  generalize ev row y = z at hW ⊢
  obtain ⟨zk, zn, zs⟩ := z
  simp only [V.val] at hW
  clear hyc hrB haE hye hr ht hy hs
  go_enter Tryd.func30, Tryd.ntmps30
  go_wp2_with fail
  go_region_held3 (fun w' => w'.cell? ⟨e1, 7, none⟩ = some (.slice (some ⟨kb, kf, none⟩) l.length c) ∧ w'.cell? ⟨e2, 0, none⟩ = some (.slice ro row.length rc) ∧ w'.cell? ⟨kb, kf + i * 8, none⟩ = some (.int .i64 yo) ∧ w'.cell? ⟨kb, kf + i * 8 + 1, none⟩ = some (.int .i64 yk) ∧ w'.cell? ⟨kb, kf + i * 8 + 2, none⟩ = some (.int .i64 yn) ∧ w'.cell? ⟨kb, kf + i * 8 + 3, none⟩ = some (.string yt) ∧ w'.cell? ⟨kb, kf + i * 8 + 4, none⟩ = some (.string ys) ∧ w'.cell? ⟨kb, kf + i * 8 + 5, none⟩ = some (.string ym) ∧ w'.cell? ⟨kb, kf + i * 8 + 6, none⟩ = some (.int .i64 yi) ∧ w'.cell? ⟨kb, kf + i * 8 + 7, none⟩ = some (.slice ya yl yc)) (first | (go_keep; done) | ((try dsimp only); (repeat' apply And.intro) <;> (rw [cell_set_ne (by omega), cell_set_ne (by omega), cell_set_ne (by omega)]; first | assumption | go_keep | simp_all)))
    (first | (go_at_call 17; go_fit hW; rintro e9 w3 ⟨rfl, hb3⟩; obtain ⟨q1, q2, q3, q4⟩ := four (a := e1) (b := e2) (g := w.heap.size) hb3 (Nat.lt_of_lt_of_le hl1 hb1.size) (Nat.lt_of_lt_of_le hl2 hb1.size) (lt_of_block hres); obtain ⟨q5, _⟩ := four (a := kb) (b := e2) (g := w.heap.size) hb3 (Nat.lt_of_lt_of_le hkb hb1.size) (Nat.lt_of_lt_of_le hl2 hb1.size) (lt_of_block hres)))
  go_wp2
  exact end_val ⟨zk, zn, zs⟩ Tryd.results30 rfl rfl ((hb3.block _ (lt_of_block hres)).trans hres) (bthen hbd hb3) (Nat.le_refl _)

end Go.Proofs.YtaiflkmlpjnmmaaDoor

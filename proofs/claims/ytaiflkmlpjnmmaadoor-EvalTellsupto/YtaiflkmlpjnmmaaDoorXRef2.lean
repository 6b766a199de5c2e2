/-
  Contract of the statements' own EvalOf: the operations of one argument, and those of none.
-/
import Derived.Test.YtaiflkmlpjnmmaaDoorXRef
namespace Go.Proofs.YtaiflkmlpjnmmaaDoor
open Go.RowKit

/-- EvalOf's three blocks. -/
abbrev ofW (w : World) (op : Int) (x : V) (s name : Wd) (n : Int) (sv rv : Value) : World :=
  ((w.alloc (.cells (eArr op x s name n sv) 32)).alloc (.cells #[rv] 33)).alloc (.cells #[.int .i64 0, .int .i64 0, .string noW] 23)
/-- An argument, in every later world. -/
theorem arg_later (i : Nat) (op xk xn : Int) (xs s name : Wd) (n : Int) (ao : Option Addr) (c : Nat) (l : List E) (y : E) (rv : Value) (row : List V) (C : Nat) (w : World)
    (hy : l[i]? = some y) (hs : OfSays y) (he : IsEs (fun k => k < C) w (.slice ao l.length c) l) (hC : C ≤ w.heap.size) (hf : fitE y) (hr : IsVals w rv row) (hrs : ∀ v ∈ row, v.s.size ≤ maxLen) (hrl : row.length ≤ maxLen) (ht : TruthsLie w) (hg : 0 < w.heap.size) (W : World) (hW : Below (ofW w op ⟨xk, xn, xs⟩ s name n (.slice ao l.length c) rv).heap.size (ofW w op ⟨xk, xn, xs⟩ s name n (.slice ao l.length c) rv) W) :
    Calls Tryd.prog 30 #[.int .i64 (i : Int), .pointer (some ⟨w.heap.size, 0, none⟩), .pointer (some ⟨w.heap.size + 1, 0, none⟩)] W fun r w' => r = .returned (.agg #[.int .i64 (ev row y).k, .int .i64 (ev row y).n, .string (ev row y).s]) ∧ Below W.heap.size W w' := by
  have hb3 := bel3 w (.cells (eArr op ⟨xk, xn, xs⟩ s name n (.slice ao l.length c)) 32) (.cells #[rv] 33) (.cells #[.int .i64 0, .int .i64 0, .string noW] 23)
  have hbW : Below w.heap.size w W := bthen hb3 hW
  have h1 := (hW.block _ (by simp [ofW]; omega)).trans (block_alloc_of (block_alloc_of (block_alloc_at w (.cells (eArr op ⟨xk, xn, xs⟩ s name n (.slice ao l.length c)) 32)) (.cells #[rv] 33)) (.cells #[.int .i64 0, .int .i64 0, .string noW] 23))
  have h2 := (hW.block _ (by simp [ofW])).trans (block_alloc_of (block2 w (.cells (eArr op ⟨xk, xn, xs⟩ s name n (.slice ao l.length c)) 32) (.cells #[rv] 33)) (.cells #[.int .i64 0, .int .i64 0, .string noW] 23))
  exact arg_any i w.heap.size (w.heap.size + 1) op xk xn xs s name n ao c l y rv row C W hy hs h1 h2 (he.keep (keepsC (hbW.mono hC))) (Nat.le_trans hC hbW.size) hf (hr.below hbW) hrs hrl (ht.later hg hbW) (Nat.lt_of_lt_of_le hg hbW.size)

set_option maxRecDepth 100000 in
set_option maxHeartbeats 4000000 in
theorem evalOf_not (x : V) (s name : Wd) (n : Int) (y : E) (hs : OfSays y) : OfSays (.mk 9 x s name n [y]) := by
  intro v rv row C w he hC hf hr hrs hrl ht hg
  obtain ⟨sv, rfl, hes⟩ := he.open
  obtain ⟨ao, c, rfl⟩ := hes.shape
  obtain ⟨xk, xn, xs⟩ := x
  have hfy : fitE y := by rw [fitE, fitL] at hf; exact hf.2.1
  have E : Hid (ev row (.mk 9 ⟨xk, xn, xs⟩ s name n [y]) = truthV (tNot (ofV (ev row y)))) := by show _ = _; rw [ev_kids]; rfl
  have hA := arg_later 0 9 xk xn xs s name n ao c [y] y rv row C w rfl hs hes hC hfy hr hrs hrl ht hg
  obtain ⟨ro, rc, rfl⟩ := hr.shape
  have hb0 := bel3 w (.cells (eArr 9 ⟨xk, xn, xs⟩ s name n (.slice ao [y].length c)) 32) (.cells #[.slice ro row.length rc] 33) (.cells #[.int .i64 0, .int .i64 0, .string noW] 23)
  have htL := ht.later hg hb0
  have hgL := Nat.lt_of_lt_of_le hg hb0.size
  have hO := fun w => truthOf_any (ev row y) w
  generalize ofV (ev row y) = o at E hO
  generalize ev row y = z at hA hO
  obtain ⟨zk, zn, zs⟩ := z
  simp only [V.val] at hA hO
  generalize ev row (.mk 9 ⟨xk, xn, xs⟩ s name n [y]) = r at E
  clear hes he hf
  go_enter Tryd.func17, Tryd.ntmps17
  go_wp2_with (first | (go_at_call 30; go_fit (hA _ (Below.refl _ _)); rintro r1 w1 ⟨rfl, hb1⟩) | (go_at_call 19; go_fit (hO _); rintro r2 w2 ⟨rfl, hb2⟩) | (go_at_call 12; go_fit (notOf_any _ _ (htL.later hgL (bthen hb1 hb2))); rintro r3 w3 ⟨rfl, rfl⟩) | (go_at_call 31; go_fit (valueOf_any _ (three_not _) _); rintro r4 w4 ⟨rfl, hb4⟩; simp only [V.val]; obtain ⟨hcc, hff⟩ := bcell (bthen (bthen hb1 hb2) hb4)))
  rw [E.out]
  exact end_val _ Tryd.results17 rfl rfl (((bthen (bthen hb1 hb2) hb4).block _ (by simp)).trans (block3 _ _ _ _)) (bthen hb0 (bthen (bthen hb1 hb2) hb4)) (by omega)

end Go.Proofs.YtaiflkmlpjnmmaaDoor

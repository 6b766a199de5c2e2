/-
  Contracts of package eval's small functions: Of, Truth, whether, number, known, argumentCount, arguments.
-/
import Derived.Test.YtaiflkmlpjnmmaaDoorXMath
import Derived.Test.YtaiflkmlpjnmmaaDoorXMem
import Derived.Test.YtaiflkmlpjnmmaaDoorVals
import Derived.Test.YtaiflkmlpjnmmaaDoorGood
import Derived.Test.YtaiflkmlpjnmmaaDoorRows
import Derived.WalkKit
import Derived.WalkSpells
import Derived.WalkLawsBesides
import Derived.Deep.RegionHeld3
import Derived.Laws.Bits64b
namespace Go.Proofs.YtaiflkmlpjnmmaaDoor
open Go.RowKit

theorem set_at {w : World} {g : Nat} {arr : Array Value} {t : TypeId} {fr : Nat × Nat} (h : w.heap[g]? = some (.cells arr t fr)) (j : Nat) (x : Value) : (w.setCell ⟨g, j, none⟩ x).heap[g]? = some (.cells (arr.setIfInBounds j x) t fr) := by
  simp only [World.setCell, Array.getElem?_modify, if_true, h, Option.map_some]
  rfl
theorem set3 {w : World} {g : Nat} {a b c x y z : Value} {t : TypeId} {fr : Nat × Nat} (h : w.heap[g]? = some (.cells #[a, b, c] t fr)) :
    (((w.setCell ⟨g, 0, none⟩ x).setCell ⟨g, 1, none⟩ y).setCell ⟨g, 2, none⟩ z).heap[g]? = some (.cells #[x, y, z] t fr) := set_at (set_at (set_at h 0 x) 1 y) 2 z
/-- A value is answered: from the result's own block. -/
theorem end_val {fn : Func} {p : Tmp} {w0 w : World} {g : Nat} {a : Act} {c0 c1 c2 : Value} {t : TypeId} {fr : Nat × Nat} (v : V) (hr : fn.results = #[.cell p 23]) (hp : a.tmps.getD p undef = .pointer (some ⟨g, 0, none⟩)) (hd : a.defers = [])
    (hg : w.heap[g]? = some (.cells #[c0, c1, c2] t fr)) (hb : Below w0.heap.size w0 w) (hlt : w0.heap.size ≤ g) :
    bodyPost Tryd.prog fn (fun e w' => e = .returned v.val ∧ Below w0.heap.size w0 w') .ret a (((w.setCell ⟨g, 0, none⟩ (.int .i64 v.k)).setCell ⟨g, 1, none⟩ (.int .i64 v.n)).setCell ⟨g, 2, none⟩ (.string v.s)) :=
  bodyPost_ret (results_cell_row hr a.tmps _ g t _ fr _ hp (set3 hg) Tryd.underlying23 rfl (by kernel_rfl)) hd ⟨rfl, ((hb.setCell hlt _).setCell hlt _).setCell hlt _⟩

theorem bit_one (n : Int) : bits .and .i64 n 1 = n % 2 := by
  show IntKind.i64.wrap ((BitVec.ofInt 64 n &&& BitVec.ofInt 64 1).toNat : Int) = _
  have h1 : (BitVec.ofInt 64 1).toNat = 1 := by decide
  rw [BitVec.toNat_and, h1, Nat.and_one_is_mod, BitVec.toNat_ofInt, IntKind.wrap_i64]
  omega

set_option maxHeartbeats 400000 in
theorem of_any (v : V) (w : World) : Calls Tryd.prog 18 #[v.val] w fun e w' => e = .returned (.int .i64 (ofV v)) ∧ Below w.heap.size w w' := by
  obtain ⟨k, n, s⟩ := v
  show Calls Tryd.prog 18 #[.agg #[.int .i64 k, .int .i64 n, .string s]] w _
  by_cases h : k = 3
  all_goals
    go_enter Tryd.func18, Tryd.ntmps18
    go_wp2
    go_ret
    refine ⟨ret_int ?_, (Below.refl _ _).alloc (Nat.le_refl _) _⟩
    simp [ofV, h, bit_one]

set_option maxHeartbeats 400000 in
theorem truth_any (n : Int) (w : World) : Calls Tryd.prog 20 #[.int .i64 n] w fun e w' => e = .returned (truthV n).val ∧ Below w.heap.size w w' := by
  by_cases h : n = 0
  · subst h
    go_enter Tryd.func20, Tryd.ntmps20
    go_wp2
    exact bodyPost_ret (v := .agg #[.int .i64 3, .int .i64 0, .string noW]) (by simp [results, Tryd.results20, go_sem]) rfl ⟨rfl, (Below.refl _ _).alloc (Nat.le_refl _) _⟩
  by_cases h1 : n = 1
  · subst h1
    go_enter Tryd.func20, Tryd.ntmps20
    go_wp2
    exact bodyPost_ret (v := .agg #[.int .i64 3, .int .i64 1, .string noW]) (by simp [results, Tryd.results20, go_sem]) rfl ⟨rfl, (Below.refl _ _).alloc (Nat.le_refl _) _⟩
  have E : Hid (truthV n = zero) := by show _ = _; simp [truthV, h, h1]
  have e1 : (n != 0) = true := by simpa using h
  have e2 : (n != 1) = true := by simpa using h1
  go_enter Tryd.func20, Tryd.ntmps20
  go_wp2
  exact bodyPost_ret (v := .agg #[.int .i64 0, .int .i64 0, .string noW]) (by simp [results, Tryd.results20, go_sem]) rfl ⟨by rw [E.out]; rfl, (Below.refl _ _).alloc (Nat.le_refl _) _⟩

set_option maxHeartbeats 400000 in
theorem whether_any (b : Bool) (w : World) : Calls Tryd.prog 48 #[.bool b] w fun e w' => e = .returned (whV b).val ∧ Below w.heap.size w w' := by
  cases b
  all_goals
    go_enter Tryd.func48, Tryd.ntmps48
    go_wp2_with (go_at_call 20; refine (truth_any _ _).mono ?_; rintro e w1 ⟨rfl, hb1⟩; simp only [V.val]; obtain ⟨hcc, hff⟩ := bcell hb1)
    exact end_val (whV _) Tryd.results48 rfl rfl ((hb1.block _ (by simp)).trans (block_alloc_at _ _)) (bthen ((Below.refl _ _).alloc (Nat.le_refl _) _) hb1) (Nat.le_refl _)

set_option maxHeartbeats 400000 in
theorem number_any (n : Int) (w : World) : Calls Tryd.prog 52 #[.int .i64 n] w fun e w' => e = .returned (numV n).val ∧ Below w.heap.size w w' := by
  have hg := fun w => good_any ⟨1, n, noW⟩ w (by simp [ByteArray.size])
  have E : Hid (numV n = if good ⟨1, n, noW⟩ then ⟨1, n, noW⟩ else zero) := rfl
  generalize good ⟨1, n, noW⟩ = b at hg E
  cases b
  · go_enter Tryd.func52, Tryd.ntmps52
    go_wp2_with (go_at_call 5; refine (hg _).mono ?_; rintro e w1 ⟨rfl, rfl⟩)
    rw [E.out]
    exact bodyPost_ret (v := .agg #[.int .i64 0, .int .i64 0, .string noW]) (by simp [results, Tryd.results52, go_sem]) rfl ⟨rfl, (((Below.refl _ _).alloc (Nat.le_refl _) _).alloc (by simp) _).alloc (by simp; omega) _⟩
  · go_enter Tryd.func52, Tryd.ntmps52
    go_wp2_with (go_at_call 5; refine (hg _).mono ?_; rintro e w1 ⟨rfl, rfl⟩)
    rw [E.out]
    exact bodyPost_ret (v := .agg #[.int .i64 1, .int .i64 n, .string noW]) (by simp [results, Tryd.results52, go_sem]) rfl ⟨rfl, (((Below.refl _ _).alloc (Nat.le_refl _) _).alloc (by simp) _).alloc (by simp; omega) _⟩

set_option maxHeartbeats 400000 in
theorem known_any (v : V) (w : World) (hs : v.s.size ≤ maxLen) : Calls Tryd.prog 49 #[v.val] w fun e w' => e = .returned (.bool (knownV v)) ∧ Below w.heap.size w w' := by
  have hg := fun w => good_any v w hs
  have E : Hid (knownV v = (!decide (v.k = 0) && good v)) := rfl
  generalize good v = b at hg E
  generalize knownV v = r at E
  clear hs
  obtain ⟨k, n, s⟩ := v
  simp only [V.val] at hg ⊢
  by_cases h : k = 0
  · subst h
    go_enter Tryd.func49, Tryd.ntmps49
    go_wp2
    go_ret
    exact ⟨ret_bool (by rw [E.out]; rfl), (Below.refl _ _).alloc (Nat.le_refl _) _⟩
  · have h1 : (k != 0) = true := by simpa using h
    go_enter Tryd.func49, Tryd.ntmps49
    go_wp2_with (go_at_call 5; refine (hg _).mono ?_; rintro e w1 ⟨rfl, rfl⟩)
    go_ret
    exact ⟨ret_bool (by rw [E.out]; simp [h]), ((Below.refl _ _).alloc (Nat.le_refl _) _).alloc (by simp) _⟩

theorem argc_int (op : Int) : (argc op : Int) = if op = 9 ∨ op = 10 then 1 else if 3 ≤ op ∧ op ≤ 8 then 2 else 0 := by
  unfold argc
  split
  · rfl
  · split <;> rfl
set_option maxHeartbeats 400000 in
theorem argumentCount_any (op : Int) (w : World) : Calls Tryd.prog 43 #[.int .i64 op] w fun e w' => e = .returned (.int .i64 (argc op : Int)) ∧ w' = w := by
  by_cases h9 : op = 9 <;> by_cases h10 : op = 10 <;> by_cases h3 : op = 3 <;> by_cases h4 : op = 4 <;> by_cases h5 : op = 5 <;> by_cases h6 : op = 6 <;> by_cases h7 : op = 7 <;> by_cases h8 : op = 8
  all_goals (try omega)
  all_goals
    have E : Hid ((argc op : Int) = if op = 9 ∨ op = 10 then 1 else if 3 ≤ op ∧ op ≤ 8 then 2 else 0) := argc_int op
    go_enter Tryd.func43, Tryd.ntmps43
    go_wp2
    go_ret
    refine ⟨ret_int ?_, rfl⟩
    rw [E.out]
    first | (rw [if_pos (by omega)]; done) | (rw [if_neg (by omega), if_pos (by omega)]; done) | (rw [if_neg (by omega), if_neg (by omega)]; done)

set_option maxHeartbeats 1000000 in
theorem arguments_any (op : Int) (x : V) (s name : Wd) (n : Int) (ao : Option Addr) (k c : Nat) (w : World) :
    Calls Tryd.prog 38 #[.agg (eArr op x s name n (.slice ao k c))] w fun e w' => e = .returned (if k = argc op then .slice ao k c else .slice none 0 0) ∧ Below w.heap.size w w' := by
  obtain ⟨xk, xn, xs⟩ := x
  by_cases h : k = argc op
  · have h1 : ((k : Int) != (argc op : Int)) = false := by rw [h]; simp
    rw [if_pos h]
    clear h
    go_enter Tryd.func38, Tryd.ntmps38
    go_wp2
    go_region_held3 (fun w' => w'.cell? ⟨w.heap.size, 0, none⟩ = some (.int .i64 op) ∧ w'.cell? ⟨w.heap.size, 7, none⟩ = some (.slice ao k c)) (go_keep)
      (first | (go_at_call 43; refine (argumentCount_any _ _).mono ?_; rintro e w' ⟨rfl, rfl⟩))
    go_wp2
    go_ret
    refine ⟨rfl, ?_⟩
    repeat first | exact Below.refl _ _ | apply Below.drew | refine Below.alloc ?_ (by simp; try omega) _
  · have h1 : ((k : Int) != (argc op : Int)) = true := by simp; omega
    rw [if_neg h]
    clear h
    go_enter Tryd.func38, Tryd.ntmps38
    go_wp2
    go_region_held3 (fun w' => w'.cell? ⟨w.heap.size, 0, none⟩ = some (.int .i64 op) ∧ w'.cell? ⟨w.heap.size, 7, none⟩ = some (.slice ao k c)) (go_keep)
      (first | (go_at_call 43; refine (argumentCount_any _ _).mono ?_; rintro e w' ⟨rfl, rfl⟩))
    go_wp2
    go_ret
    refine ⟨rfl, ?_⟩
    repeat first | exact Below.refl _ _ | apply Below.drew | refine Below.alloc ?_ (by simp; try omega) _

end Go.Proofs.YtaiflkmlpjnmmaaDoor

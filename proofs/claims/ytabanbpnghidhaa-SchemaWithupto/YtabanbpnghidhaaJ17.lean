/-
  7 texts of this proof in one, in build order: OpenL, Truth, XMath, XOps, XPtr, XWith, XOps2.
-/
import Derived.ProofKit
import Derived.ChangeSame
import Derived.Test.YtabanbpnghidhaaRows
import Derived.WalkKit
import Derived.WalkSpells
import Derived.WalkLawsBesides
import Derived.Deep.RegionHeld3
import Derived.Laws.Bits64b
import Derived.OwnWalk
import Derived.Test.YtabanbpnghidhaaJ01
import Derived.Test.YtabanbpnghidhaaJ03
import Derived.Test.YtabanbpnghidhaaJ05
import Derived.Test.YtabanbpnghidhaaJ06
import Derived.Test.YtabanbpnghidhaaJ16
namespace Go.Proofs.Ytabanbpnghidhaa
open Go.RowKit Go.Deep Go.ChangeShapes

section
variable {H : Type} {enc : TypeId × Value → H} {w : World} {base : Nat} {spare : Nat → Bool} {held : Bool}

theorem bulk_app (a b : List (DataW H)) : Rows.uptoBulkAll (a ++ b) = Rows.uptoBulkAll a + Rows.uptoBulkAll b := by
  induction a with
  | nil => simp [Rows.uptoBulkAll]
  | cons x r ih => simp only [List.cons_append, Rows.uptoBulkAll, ih]; omega
theorem bulk_el {D : Nat → DataW H} : ∀ (n i : Nat), i < n → Rows.uptoBulk (D i) ≤ Rows.uptoBulkAll ((List.range n).map D)
  | n + 1, i, h => by
    rw [List.range_succ, List.map_append, bulk_app]
    rcases Nat.lt_or_eq_of_le (Nat.lt_succ_iff.1 h) with h1 | h1
    · have := bulk_el (D := D) n i h1; omega
    · subst h1; simp [Rows.uptoBulkAll]
theorem all_range {α : Type} {K : Elem α} {F : Nat → Prop} {f : Nat → α} {g : Nat → List Value} : ∀ n : Nat, (∀ i, i < n → K.R F w (f i) (g i)) → All K F w ((List.range n).map f) ((List.range n).flatMap g)
  | 0, _ => rfl
  | n + 1, h => by
    rw [List.range_succ, List.map_append, List.flatMap_append]
    refine All.append (all_range n fun i hi => h i (by omega)) ?_
    have := All.one (h n (by omega))
    simpa using this
theorem flat_len {g : Nat → List Value} {s : Nat} : ∀ (n : Nat), (∀ i, i < n → (g i).length = s) → ((List.range n).flatMap g).length = n * s
  | 0, _ => by simp
  | n + 1, h => by
    rw [List.range_succ, List.flatMap_append, List.length_append, flat_len n fun i hi => h i (by omega)]
    simp [h n (by omega), Nat.add_mul]
theorem flat_get {g : Nat → List Value} {s : Nat} : ∀ (n i : Nat), (∀ i, i < n → (g i).length = s) → i < n → ∀ j, j < s → ((List.range n).flatMap g)[i * s + j]? = (g i)[j]?
  | n + 1, i, h, hi, j, hj => by
    have hl := flat_len (g := g) n fun i hi => h i (by omega)
    rw [List.range_succ, List.flatMap_append]
    rcases Nat.lt_or_eq_of_le (Nat.lt_succ_iff.1 hi) with h1 | h1
    · rw [List.getElem?_append_left (by rw [hl]; have := Nat.mul_le_mul_right s (show i + 1 ≤ n from h1); rw [Nat.add_mul] at this; omega)]
      exact flat_get n i (fun i hi => h i (by omega)) h1 j hj
    · subst h1
      rw [List.getElem?_append_right (by rw [hl]; omega), hl]
      simp

theorem open_list {α : Type} (d0 : α) (K : Elem α) (t et : TypeId) (hu : Try.prog.underlying t = some (.slice et)) (hc : Try.prog.cellsOf et = K.size) (hK : 0 < K.size) (B : Nat) (Q : α → Prop)
    (each : ∀ (fuel : Nat) (cs : List Value) (x : DataW H × List MemPlace), Rows.uptoBulk x.1 ≤ B → DataW.trod enc Try.prog w base spare held fuel et cs = some x → ∃ a, K.R (fun k => k < w.heap.size) w a cs ∧ Q a)
    {fuel : Nat} {sv : Value} {x : DataW H × List MemPlace} (hB : Rows.uptoBulk x.1 ≤ B) (h : DataW.trod enc Try.prog w base spare held fuel t [sv] = some x) :
    ∃ l : List α, IsL K (fun k => k < w.heap.size) w sv l ∧ (∀ a ∈ l, Q a) ∧ l.length ≤ Rows.uptoBulk x.1 := by
  rcases open_slice hu h with ⟨hcs, rfl⟩ | ⟨ad, len, cap, m, n5, D, Pl, hcs, hb, hlc, hm, hmm, rfl, hxx⟩
  · simp only [List.cons.injEq, and_true] at hcs
    subst hcs
    exact ⟨[], IsL.nil K _ w, by simp, Nat.zero_le _⟩
  · simp only [List.cons.injEq, and_true] at hcs
    subst hcs
    have hlm : len ≤ m := by rw [hmm]; split <;> omega
    have hbD : Rows.uptoBulkAll ((List.range len).map D) ≤ B := by simp only [Rows.uptoBulk] at hB; omega
    have hll : len ≤ Rows.uptoBulkAll ((List.range len).map D) := by have := bulk_length ((List.range len).map D); simpa using this
    have e1 : ∀ i, i < len → ∃ r : α × List Value, K.R (fun k => k < w.heap.size) w r.1 r.2 ∧ Q r.1 ∧ ∀ j u, r.2[j]? = some u → w.cell? (ad.add (i * K.size + j)) = some u := by
      intro i hi
      obtain ⟨cs', h1, h2⟩ := hxx i (by omega)
      rw [hc] at h1
      obtain ⟨_, hlen, hcell⟩ := World.cells?_some h1
      obtain ⟨a, ha, hq⟩ := each n5 cs' (D i, Pl i) (Nat.le_trans (bulk_el len i hi) hbD) h2
      refine ⟨(a, cs'), ha, hq, fun j u hj => ?_⟩
      have hjl := (List.getElem?_eq_some_iff.1 hj).1
      simp only at hjl
      have := hcell j (by omega)
      rw [add_add] at this
      rw [this]
      exact hj
    have : Inhabited (α × List Value) := ⟨(d0, [])⟩
    obtain ⟨f, hf⟩ := choose_lt e1
    refine ⟨(List.range len).map fun i => (f i).1, ⟨(List.range len).flatMap fun i => (f i).2, ?_, all_range len fun i hi => (hf i hi).1⟩, ?_, ?_⟩
    · have hle : ∀ i, i < len → (f i).2.length = K.size := fun i hi => K.len (hf i hi).1
      refine ⟨by rw [flat_len len hle]; simp, ?_⟩
      rcases Nat.eq_zero_or_pos len with rfl | hpos
      · exact .inl ⟨by simp, _, cap, rfl, fun h => by cases h⟩
      · obtain ⟨b, off, spot⟩ := ad
        obtain ⟨u0, hu0⟩ : ∃ u, (f 0).2[0]? = some u := ⟨_, List.getElem?_eq_getElem (by rw [hle 0 hpos]; exact hK)⟩
        have hc0 := (hf 0 hpos).2.2 0 u0 hu0
        have hspot : spot = none := by simpa [Addr.add] using World.cell?_spot hc0
        subst hspot
        have hlt : b < w.heap.size := by have := block_lt_of_cell hc0; simpa [Addr.add] using this
        refine .inr ⟨by simpa using hpos, b, off, cap, by simp, hlt, hlt, by simpa using hlc, hm, fun j u hj => ?_⟩
        have hjl := (List.getElem?_eq_some_iff.1 hj).1
        rw [flat_len len hle] at hjl
        have hi : j / K.size < len := Nat.div_lt_of_lt_mul (by rw [Nat.mul_comm]; exact hjl)
        have hj2 : j % K.size < K.size := Nat.mod_lt _ hK
        have ej : j / K.size * K.size + j % K.size = j := by rw [Nat.mul_comm]; exact Nat.div_add_mod j K.size
        rw [← ej, flat_get len _ hle hi _ hj2] at hj
        have := (hf _ hi).2.2 _ u hj
        rw [Addr.add_lit, ej] at this
        exact this
    · intro a ha
      obtain ⟨i, hi, rfl⟩ := List.mem_map.1 ha
      exact (hf i (List.mem_range.1 hi)).2.1
    · simp only [Rows.uptoBulk, List.length_map, List.length_range]; omega

theorem cells_slice1 : Try.prog.cellsOf 48 = 1 := by kernel_rfl
theorem cells_bool : Try.prog.cellsOf 4 = 1 := by kernel_rfl
theorem cells_col : Try.prog.cellsOf 56 = 3 := by kernel_rfl
theorem cells_cols : Try.prog.cellsOf 26 = 1 := by kernel_rfl
theorem cells_tab : Try.prog.cellsOf 43 = 2 := by kernel_rfl
theorem cells_tabs : Try.prog.cellsOf 22 = 1 := by kernel_rfl
theorem cells_idx : Try.prog.cellsOf 63 = 3 := by kernel_rfl
theorem cells_idxs : Try.prog.cellsOf 23 = 1 := by kernel_rfl
theorem cells_cat : Try.prog.cellsOf 25 = 2 := by kernel_rfl
theorem und_col : ∃ f0 f1 f2 : Field, Try.prog.underlying 56 = some (.struct #[f0, f1, f2]) ∧ f0.offset = 0 ∧ f1.offset = 1 ∧ f2.offset = 2 ∧ f0.type = 9 ∧ f1.type = 3 ∧ f2.type = 4 :=
  ⟨_, _, _, Try.underlying56, rfl, rfl, rfl, rfl, rfl, rfl⟩
theorem und_idx : ∃ f0 f1 f2 : Field, Try.prog.underlying 63 = some (.struct #[f0, f1, f2]) ∧ f0.offset = 0 ∧ f1.offset = 1 ∧ f2.offset = 2 ∧ f0.type = 9 ∧ f1.type = 9 ∧ f2.type = 9 :=
  ⟨_, _, _, Try.underlying63, rfl, rfl, rfl, rfl, rfl, rfl⟩
theorem und_tab : ∃ f0 f1 : Field, Try.prog.underlying 43 = some (.struct #[f0, f1]) ∧ f0.offset = 0 ∧ f1.offset = 1 ∧ f0.type = 9 ∧ f1.type = 26 :=
  ⟨_, _, Try.underlying43, rfl, rfl, rfl, rfl⟩
theorem und_cat : ∃ f0 f1 : Field, Try.prog.underlying 25 = some (.struct #[f0, f1]) ∧ f0.offset = 0 ∧ f1.offset = 1 ∧ f0.type = 22 ∧ f1.type = 23 :=
  ⟨_, _, Try.underlying25, rfl, rfl, rfl, rfl⟩

theorem open_col {fuel : Nat} {cs : List Value} {x : DataW H × List MemPlace} (h : DataW.trod enc Try.prog w base spare held fuel 56 cs = some x) (F : Nat → Prop) : ∃ a : ColD, kCol.R F w a cs ∧ a.name.size ≤ maxLen := by
  obtain ⟨f0, f1, f2, hu, o0, o1, o2, t0, t1, t2⟩ := und_col
  obtain ⟨y0, y1, y2, n, rfl, hl, h0, h1, h2⟩ := trod_struct3 hu h
  rw [cells_col] at hl
  rw [o0, t0, cells_string] at h0
  rw [o1, t1, cells_int] at h1
  rw [o2, t2, cells_bool] at h2
  match cs, hl with
  | [c0, c1, c2], _ =>
    simp only [List.drop_zero, List.take_succ_cons, List.take_zero, List.drop_succ_cons] at h0 h1 h2
    obtain ⟨s, e0, _, hs⟩ := DataW.trod_string Try.underlying9 h0
    obtain ⟨b, e1, _, _⟩ := DataW.trod_int Try.underlying3 h1
    obtain ⟨m, e2, _⟩ := DataW.trod_bool Try.underlying4 h2
    simp only [List.cons.injEq, and_true] at e0 e1 e2
    subst e0 e1 e2
    exact ⟨⟨s, b, m⟩, rfl, hs⟩

theorem open_idx {fuel : Nat} {cs : List Value} {x : DataW H × List MemPlace} (h : DataW.trod enc Try.prog w base spare held fuel 63 cs = some x) (F : Nat → Prop) : ∃ a : IdxD, kIdx.R F w a cs ∧ a.name.size ≤ maxLen ∧ a.table.size ≤ maxLen ∧ a.col.size ≤ maxLen := by
  obtain ⟨f0, f1, f2, hu, o0, o1, o2, t0, t1, t2⟩ := und_idx
  obtain ⟨y0, y1, y2, n, rfl, hl, h0, h1, h2⟩ := trod_struct3 hu h
  rw [cells_idx] at hl
  rw [o0, t0, cells_string] at h0
  rw [o1, t1, cells_string] at h1
  rw [o2, t2, cells_string] at h2
  match cs, hl with
  | [c0, c1, c2], _ =>
    simp only [List.drop_zero, List.take_succ_cons, List.take_zero, List.drop_succ_cons] at h0 h1 h2
    obtain ⟨s, e0, _, hs⟩ := DataW.trod_string Try.underlying9 h0
    obtain ⟨b, e1, _, hb⟩ := DataW.trod_string Try.underlying9 h1
    obtain ⟨m, e2, _, hm⟩ := DataW.trod_string Try.underlying9 h2
    simp only [List.cons.injEq, and_true] at e0 e1 e2
    subst e0 e1 e2
    exact ⟨⟨s, b, m⟩, rfl, hs, hb, hm⟩

theorem open_tab {fuel : Nat} {cs : List Value} {x : DataW H × List MemPlace} (h : DataW.trod enc Try.prog w base spare held fuel 43 cs = some x) : ∃ a : TabD, kTab.R (fun k => k < w.heap.size) w a cs ∧ fitTab a := by
  obtain ⟨f0, f1, hu, o0, o1, t0, t1⟩ := und_tab
  obtain ⟨y0, y1, n, rfl, hl, h0, h1⟩ := trod_struct2 hu h
  rw [cells_tab] at hl
  rw [o0, t0, cells_string] at h0
  rw [o1, t1, cells_cols] at h1
  match cs, hl with
  | [c0, c1], _ =>
    simp only [List.drop_zero, List.take_succ_cons, List.take_zero, List.drop_succ_cons] at h0 h1
    obtain ⟨s, e0, _, hs⟩ := DataW.trod_string Try.underlying9 h0
    obtain ⟨l, hl, hq, _⟩ := open_list (⟨noW, 0, false⟩ : ColD) kCol 26 56 Try.underlying26 cells_col (by decide) _ (fun a => a.name.size ≤ maxLen) (fun fuel cs x _ hx => open_col hx _) (Nat.le_refl _) h1
    simp only [List.cons.injEq, and_true] at e0
    subst e0
    exact ⟨⟨s, l⟩, ⟨c1, rfl, hl⟩, hs, hq⟩

theorem open_cat {fuel : Nat} {cs : List Value} {x : DataW H × List MemPlace} (h : DataW.trod enc Try.prog w base spare held fuel 25 cs = some x) : ∃ c : CatD, IsCat (fun k => k < w.heap.size) w c (.agg cs.toArray) ∧ fitCat c := by
  obtain ⟨f0, f1, hu, o0, o1, t0, t1⟩ := und_cat
  obtain ⟨y0, y1, n, rfl, hl, h0, h1⟩ := trod_struct2 hu h
  rw [cells_cat] at hl
  rw [o0, t0, cells_tabs] at h0
  rw [o1, t1, cells_idxs] at h1
  match cs, hl with
  | [c0, c1], _ =>
    simp only [List.drop_zero, List.take_succ_cons, List.take_zero, List.drop_succ_cons] at h0 h1
    obtain ⟨l, hl, hq, _⟩ := open_list (⟨noW, []⟩ : TabD) kTab 22 43 Try.underlying22 cells_tab (by decide) _ fitTab (fun fuel cs x _ hx => open_tab hx) (Nat.le_refl _) h0
    obtain ⟨m, hm, hr, _⟩ := open_list (⟨noW, noW, noW⟩ : IdxD) kIdx 23 63 Try.underlying23 cells_idx (by decide) _ (fun a => a.name.size ≤ maxLen ∧ a.table.size ≤ maxLen ∧ a.col.size ≤ maxLen) (fun fuel cs x _ hx => open_idx hx _) (Nat.le_refl _) h1
    exact ⟨⟨l, m⟩, ⟨c0, c1, rfl, hl, hm⟩, hq, hr⟩

/-- Rows: their texts fit, and none is long. -/
def fitRow (B : Nat) (r : List V) : Prop := (∀ v ∈ r, v.s.size ≤ maxLen) ∧ r.length ≤ B
theorem open_row {B fuel : Nat} {cs : List Value} {x : DataW H × List MemPlace} (hB : Rows.uptoBulk x.1 ≤ B) (h : DataW.trod enc Try.prog w base spare held fuel 48 cs = some x) : ∃ r : List V, kVals.R (fun k => k < w.heap.size) w r cs ∧ fitRow B r := by
  obtain ⟨sv, rfl⟩ : ∃ sv, cs = [sv] := by
    rcases open_slice Try.underlying48 h with ⟨hcs, _⟩ | ⟨ad, len, cap, m, n5, D, Pl, hcs, _⟩
    · exact ⟨_, hcs⟩
    · exact ⟨_, hcs⟩
  obtain ⟨l, hl, hq, hn⟩ := open_list zero kVal 48 32 Try.underlying48 cells_value (by decide) _ (fun v => v.s.size ≤ maxLen) (fun fuel cs x _ hx => by
    obtain ⟨v, h1, h2, _⟩ := open_value hx
    exact ⟨v, h1, h2⟩) (Nat.le_refl _) h
  exact ⟨l, ⟨sv, rfl, hl⟩, hq, Nat.le_trans hn hB⟩
end
end Go.Proofs.Ytabanbpnghidhaa

namespace Go.Proofs.Ytabanbpnghidhaa
open Go.RowKit

def tAnd (a b : Int) : Int := if a = 0 ∨ b = 0 then 0 else if a = 1 ∧ b = 1 then 1 else 2
def tOr (a b : Int) : Int := if a = 1 ∨ b = 1 then 1 else if a = 0 ∧ b = 0 then 0 else 2
def tNot (a : Int) : Int := if a = 0 then 1 else if a = 1 then 0 else 2


set_option maxHeartbeats 400000 in
theorem and_any (a b : Int) (w : World) : Calls Try.prog 110 #[.int .i64 a, .int .i64 b] w fun e w' => e = .returned (.int .i64 (tAnd a b)) ∧ w' = w := by
  by_cases ha0 : a = 0 <;> by_cases hb0 : b = 0 <;> by_cases ha1 : a = 1 <;> by_cases hb1 : b = 1
  all_goals
    go_enter Try.func110, Try.ntmps110
    go_wp2
    all_goals
      go_ret
      exact ⟨ret_int (by simp_all [tAnd]), rfl⟩

set_option maxHeartbeats 400000 in
theorem or_any (a b : Int) (w : World) : Calls Try.prog 111 #[.int .i64 a, .int .i64 b] w fun e w' => e = .returned (.int .i64 (tOr a b)) ∧ w' = w := by
  by_cases ha0 : a = 0 <;> by_cases hb0 : b = 0 <;> by_cases ha1 : a = 1 <;> by_cases hb1 : b = 1
  all_goals
    go_enter Try.func111, Try.ntmps111
    go_wp2
    all_goals
      go_ret
      exact ⟨ret_int (by simp_all [tOr]), rfl⟩

set_option maxHeartbeats 400000 in
theorem not_any (a : Int) (w : World) : Calls Try.prog 107 #[.int .i64 a] w fun e w' => e = .returned (.int .i64 (tNot a)) ∧ w' = w := by
  by_cases ha0 : a = 0 <;> by_cases ha1 : a = 1
  all_goals
    go_enter Try.func107, Try.ntmps107
    go_wp2
    all_goals
      go_ret
      exact ⟨ret_int (by simp_all [tNot]), rfl⟩

end Go.Proofs.Ytabanbpnghidhaa

namespace Go.Proofs.Ytabanbpnghidhaa

/-- How many arguments an operation has. -/
def argc (op : Int) : Nat := if op = 9 ∨ op = 10 then 1 else if 3 ≤ op ∧ op ≤ 8 then 2 else 0
theorem argc_le (op : Int) : argc op ≤ 2 := by
  unfold argc
  split
  · decide
  · split <;> decide
/-- The arguments that count. -/
def kidsOf (op : Int) (l : List E) : List E := if l.length = argc op then l else []
def E.kids : E → List E
  | .mk op _ _ _ _ l => kidsOf op l
theorem kids_le (e : E) : e.kids.length ≤ 2 := by
  cases e with
  | mk op v s name n l =>
    simp only [E.kids, kidsOf]
    split
    · rename_i h; rw [h]; exact argc_le op
    · decide
/-- P5.1 -/
def ofV (v : V) : Int := if v.k = 3 then v.n % 2 else 2
def truthV (n : Int) : V := if n = 0 ∨ n = 1 then ⟨3, n, noW⟩ else zero
def whV (b : Bool) : V := ⟨3, if b then 1 else 0, noW⟩
def numV (n : Int) : V := if good ⟨1, n, noW⟩ then ⟨1, n, noW⟩ else zero
def rowV (row : List V) (n : Int) : V := if 0 ≤ n then (row[n.toNat]?).getD zero else zero
def noneV (op : Int) (x : V) (n : Int) (row : List V) : V := if op = 1 then x else if op = 2 then rowV row n else zero
def uniV (op : Int) (a : V) : V := if op = 9 then truthV (tNot (ofV a)) else if op = 10 then whV (decide (a.k = 0)) else zero
def knownV (v : V) : Bool := !decide (v.k = 0) && good v
/-- Of two known values of one kind. -/
def knV (op : Int) (a b : V) : V :=
  if op = 5 then whV (decide (cmpV a b = 0)) else if op = 6 then whV (decide (cmpV a b < 0)) else if a.k = 1 then (if op = 3 then numV (a.n + b.n) else if op = 4 then numV (a.n - b.n) else zero) else zero
def twoV (op : Int) (a b : V) : V :=
  if op = 7 then truthV (tAnd (ofV a) (ofV b)) else if op = 8 then truthV (tOr (ofV a) (ofV b)) else if knownV a = true ∧ knownV b = true ∧ a.k = b.k then knV op a b else zero
/-- What an expression comes to, by what its arguments came to. -/
def appV (op : Int) (x : V) (n : Int) (cs row : List V) : V :=
  match cs with
  | [a] => uniV op a
  | [a, b] => twoV op a b
  | _ => noneV op x n row
mutual
/-- P5.2, P5.3: what an expression comes to. -/
def ev (row : List V) : E → V
  | .mk op x _ _ n l => appV op x n (if l.length = argc op then evs row l else []) row
def evs (row : List V) : List E → List V
  | [] => []
  | e :: l => ev row e :: evs row l
end
theorem evs_map (row : List V) : ∀ l : List E, evs row l = l.map (ev row)
  | [] => by rw [evs]; rfl
  | e :: l => by rw [evs, evs_map row l]; rfl
theorem ev_kids (row : List V) (op : Int) (x : V) (s name : Wd) (n : Int) (l : List E) : ev row (.mk op x s name n l) = appV op x n ((kidsOf op l).map (ev row)) row := by
  rw [ev, kidsOf]
  split
  · rw [evs_map]
  · rfl

mutual
/-- How many there are at all. -/
def E.nodes : E → Nat
  | .mk _ _ _ _ _ l => nodesL l + 1
def nodesL : List E → Nat
  | [] => 0
  | e :: l => e.nodes + nodesL l
end
theorem nodesL_append : ∀ a b : List E, nodesL (a ++ b) = nodesL a + nodesL b
  | [], b => by simp [nodesL]
  | e :: a, b => by simp [nodesL, nodesL_append a b]; omega
theorem nodes_pos (e : E) : 0 < e.nodes := by cases e; simp [E.nodes]
theorem nodesL_len : ∀ l : List E, l.length ≤ nodesL l
  | [] => by simp [nodesL]
  | e :: l => by have := nodesL_len l; have := nodes_pos e; simp [nodesL]; omega
theorem nodes_kids (e : E) : nodesL e.kids + 1 ≤ e.nodes := by
  cases e with
  | mk op v s name n l =>
    simp only [E.kids, kidsOf, E.nodes]
    split
    · exact Nat.le_refl _
    · simp [nodesL]

/-- All that is below an expression, level by level, of which the first i are done. -/
structure Queue (e : E) (L : List E) (i : Nat) : Prop where
  eq : L = e :: (L.take i).flatMap E.kids
  le : i ≤ L.length
  few : i + nodesL (L.drop i) ≤ e.nodes
  ahead : ∀ j, j < i → j < 1 + ((L.take j).flatMap E.kids).length
  all : ∀ P : E → Prop, P e → (∀ y, P y → ∀ z ∈ y.kids, P z) → ∀ x ∈ L, P x
theorem queue_start (e : E) : Queue e [e] 0 := ⟨rfl, by simp, by simp [nodesL], fun j h => absurd h (by omega), fun P h _ x hx => by simp at hx; subst hx; exact h⟩
theorem Queue.len {e : E} {L : List E} {i : Nat} (h : Queue e L i) : L.length ≤ e.nodes := by
  have := nodesL_len (L.drop i)
  have := h.few
  rw [List.length_drop] at *
  omega
theorem Queue.step {e : E} {L : List E} {i : Nat} (h : Queue e L i) {x : E} (hx : L[i]? = some x) : Queue e (L ++ x.kids) (i + 1) := by
  have hi : i < L.length := by rw [List.getElem?_eq_some_iff] at hx; exact hx.1
  have ht : (L ++ x.kids).take (i + 1) = L.take i ++ [x] := by
    rw [List.take_append_of_le_length (by omega), List.take_add_one, hx]; rfl
  have hd : L.drop i = x :: L.drop (i + 1) := by
    rw [List.drop_eq_getElem_cons hi]
    rw [List.getElem?_eq_getElem hi] at hx
    simp at hx
    rw [hx]
  refine ⟨?_, by rw [List.length_append]; omega, ?_, fun j hj => ?_, fun P h1 h2 y hy => ?_⟩
  · rw [ht, List.flatMap_append]
    conv => lhs; rw [h.eq]
    simp
  · have h1 := h.few
    have h2 := nodes_kids x
    rw [hd] at h1
    rw [List.drop_append_of_le_length (by omega), nodesL_append]
    simp only [nodesL] at h1
    omega
  · rw [List.take_append_of_le_length (by omega)]
    rcases Nat.lt_or_eq_of_le (Nat.lt_succ_iff.mp hj) with h1 | h1
    · exact h.ahead j h1
    · subst h1
      have : L.length = 1 + ((L.take j).flatMap E.kids).length := by
        conv => lhs; rw [h.eq]
        simp; omega
      omega
  · rcases List.mem_append.1 hy with hy | hy
    · exact h.all P h1 h2 y hy
    · exact h2 x (h.all P h1 h2 x (List.mem_of_getElem? hx)) y hy
/-- Where the arguments of the i-th begin. -/
def beg (L : List E) (i : Nat) : Nat := 1 + ((L.take i).flatMap E.kids).length
theorem beg_succ {L : List E} {i : Nat} {x : E} (hx : L[i]? = some x) : beg L (i + 1) = beg L i + x.kids.length := by
  unfold beg
  rw [List.take_add_one, hx, List.flatMap_append]
  simp; omega
theorem Queue.whole {e : E} {L : List E} (h : Queue e L L.length) : beg L L.length = L.length := by
  unfold beg
  conv => rhs; rw [h.eq]
  simp; omega
theorem Queue.own {e : E} {L : List E} (h : Queue e L L.length) {i : Nat} {x : E} (hx : L[i]? = some x) : (L.drop (beg L i)).take x.kids.length = x.kids := by
  have hi : i < L.length := by rw [List.getElem?_eq_some_iff] at hx; exact hx.1
  have hL := h.eq
  rw [List.take_length] at hL
  have hd : L.drop i = x :: L.drop (i + 1) := by
    rw [List.drop_eq_getElem_cons hi]
    rw [List.getElem?_eq_getElem hi] at hx
    simp at hx
    rw [hx]
  have hsplit : L.flatMap E.kids = (L.take i).flatMap E.kids ++ (x.kids ++ (L.drop (i + 1)).flatMap E.kids) := by
    conv => lhs; rw [← List.take_append_drop i L, hd]
    simp
  conv => lhs; rw [hL]
  rw [show beg (e :: L.flatMap E.kids) i = ((L.take i).flatMap E.kids).length + 1 from by
    unfold beg
    rw [← hL]; omega]
  rw [List.drop_succ_cons, hsplit, List.drop_left, List.take_left]
theorem Queue.behind {e : E} {L : List E} (h : Queue e L L.length) {i : Nat} (hi : i < L.length) : i < beg L i := h.ahead i hi
theorem Queue.at {e : E} {L : List E} (h : Queue e L L.length) {i : Nat} {x : E} (hx : L[i]? = some x) {j : Nat} {y : E} (hy : x.kids[j]? = some y) : L[beg L i + j]? = some y := by
  rw [← h.own hx, List.getElem?_take] at hy
  split at hy
  · rwa [List.getElem?_drop] at hy
  · cases hy
theorem Queue.beg_le {e : E} {L : List E} (h : Queue e L L.length) (i : Nat) : beg L i ≤ L.length := by
  rw [← h.whole]
  unfold beg
  rw [List.take_length]
  conv => rhs; rw [← List.take_append_drop i L]
  rw [List.flatMap_append, List.length_append]
  omega
theorem Queue.first {e : E} {L : List E} {i : Nat} (h : Queue e L i) : L[0]? = some e := by rw [h.eq]; rfl

end Go.Proofs.Ytabanbpnghidhaa

namespace Go.Proofs.Ytabanbpnghidhaa
open Go.RowKit

/-- A value is answered: from the result's own block. -/
theorem end_val {fn : Func} {p : Tmp} {w0 w : World} {g : Nat} {a : Act} {c0 c1 c2 : Value} {t : TypeId} {fr : Nat × Nat} (v : V) (hr : fn.results = #[.cell p 32]) (hp : a.tmps.getD p undef = .pointer (some ⟨g, 0, none⟩)) (hd : a.defers = [])
    (hg : w.heap[g]? = some (.cells #[c0, c1, c2] t fr)) (hb : Below w0.heap.size w0 w) (hlt : w0.heap.size ≤ g) :
    bodyPost Try.prog fn (fun e w' => e = .returned v.val ∧ Below w0.heap.size w0 w') .ret a (((w.setCell ⟨g, 0, none⟩ (.int .i64 v.k)).setCell ⟨g, 1, none⟩ (.int .i64 v.n)).setCell ⟨g, 2, none⟩ (.string v.s)) :=
  bodyPost_ret (results_cell_row hr a.tmps _ g t _ fr _ hp (set3 hg) Try.underlying32 rfl (by kernel_rfl)) hd ⟨rfl, ((hb.setCell hlt _).setCell hlt _).setCell hlt _⟩

theorem bit_one (n : Int) : bits .and .i64 n 1 = n % 2 := by
  show IntKind.i64.wrap ((BitVec.ofInt 64 n &&& BitVec.ofInt 64 1).toNat : Int) = _
  have h1 : (BitVec.ofInt 64 1).toNat = 1 := by decide
  rw [BitVec.toNat_and, h1, Nat.and_one_is_mod, BitVec.toNat_ofInt, IntKind.wrap_i64]
  omega

set_option maxHeartbeats 400000 in
theorem of_any (v : V) (w : World) : Calls Try.prog 108 #[v.val] w fun e w' => e = .returned (.int .i64 (ofV v)) ∧ Below w.heap.size w w' := by
  obtain ⟨k, n, s⟩ := v
  show Calls Try.prog 108 #[.agg #[.int .i64 k, .int .i64 n, .string s]] w _
  by_cases h : k = 3
  all_goals
    go_enter Try.func108, Try.ntmps108
    go_wp2
    go_ret
    refine ⟨ret_int ?_, (Below.refl _ _).alloc (Nat.le_refl _) _⟩
    simp [ofV, h, bit_one]

set_option maxHeartbeats 400000 in
theorem truth_any (n : Int) (w : World) : Calls Try.prog 106 #[.int .i64 n] w fun e w' => e = .returned (truthV n).val ∧ Below w.heap.size w w' := by
  by_cases h : n = 0
  · subst h
    go_enter Try.func106, Try.ntmps106
    go_wp2
    exact bodyPost_ret (v := .agg #[.int .i64 3, .int .i64 0, .string noW]) (by simp [results, Try.results106, go_sem]) rfl ⟨rfl, (Below.refl _ _).alloc (Nat.le_refl _) _⟩
  by_cases h1 : n = 1
  · subst h1
    go_enter Try.func106, Try.ntmps106
    go_wp2
    exact bodyPost_ret (v := .agg #[.int .i64 3, .int .i64 1, .string noW]) (by simp [results, Try.results106, go_sem]) rfl ⟨rfl, (Below.refl _ _).alloc (Nat.le_refl _) _⟩
  have E : Hid (truthV n = zero) := by show _ = _; simp [truthV, h, h1]
  have e1 : (n != 0) = true := by simpa using h
  have e2 : (n != 1) = true := by simpa using h1
  go_enter Try.func106, Try.ntmps106
  go_wp2
  exact bodyPost_ret (v := .agg #[.int .i64 0, .int .i64 0, .string noW]) (by simp [results, Try.results106, go_sem]) rfl ⟨by rw [E.out]; rfl, (Below.refl _ _).alloc (Nat.le_refl _) _⟩

set_option maxHeartbeats 400000 in
theorem whether_any (b : Bool) (w : World) : Calls Try.prog 109 #[.bool b] w fun e w' => e = .returned (whV b).val ∧ Below w.heap.size w w' := by
  cases b
  all_goals
    go_enter Try.func109, Try.ntmps109
    go_wp2_with (go_at_call 106; refine (truth_any _ _).mono ?_; rintro e w1 ⟨rfl, hb1⟩; simp only [V.val]; obtain ⟨hcc, hff⟩ := bcell hb1)
    exact end_val (whV _) Try.results109 rfl rfl ((hb1.block _ (by simp)).trans (block_alloc_at _ _)) (bthen ((Below.refl _ _).alloc (Nat.le_refl _) _) hb1) (Nat.le_refl _)

set_option maxHeartbeats 400000 in
theorem numberV_any (n : Int) (w : World) : Calls Try.prog 121 #[.int .i64 n] w fun e w' => e = .returned (numV n).val ∧ Below w.heap.size w w' := by
  have hg := fun w => good_any ⟨1, n, noW⟩ w (by simp [ByteArray.size])
  have E : Hid (numV n = if good ⟨1, n, noW⟩ then ⟨1, n, noW⟩ else zero) := rfl
  generalize good ⟨1, n, noW⟩ = b at hg E
  cases b
  · go_enter Try.func121, Try.ntmps121
    go_wp2_with (go_at_call 13; refine (hg _).mono ?_; rintro e w1 ⟨rfl, rfl⟩)
    rw [E.out]
    exact bodyPost_ret (v := .agg #[.int .i64 0, .int .i64 0, .string noW]) (by simp [results, Try.results121, go_sem]) rfl ⟨rfl, (((Below.refl _ _).alloc (Nat.le_refl _) _).alloc (by simp) _).alloc (by simp; omega) _⟩
  · go_enter Try.func121, Try.ntmps121
    go_wp2_with (go_at_call 13; refine (hg _).mono ?_; rintro e w1 ⟨rfl, rfl⟩)
    rw [E.out]
    exact bodyPost_ret (v := .agg #[.int .i64 1, .int .i64 n, .string noW]) (by simp [results, Try.results121, go_sem]) rfl ⟨rfl, (((Below.refl _ _).alloc (Nat.le_refl _) _).alloc (by simp) _).alloc (by simp; omega) _⟩

set_option maxHeartbeats 400000 in
theorem known_any (v : V) (w : World) (hs : v.s.size ≤ maxLen) : Calls Try.prog 112 #[v.val] w fun e w' => e = .returned (.bool (knownV v)) ∧ Below w.heap.size w w' := by
  have hg := fun w => good_any v w hs
  have E : Hid (knownV v = (!decide (v.k = 0) && good v)) := rfl
  generalize good v = b at hg E
  generalize knownV v = r at E
  clear hs
  obtain ⟨k, n, s⟩ := v
  simp only [V.val] at hg ⊢
  by_cases h : k = 0
  · subst h
    go_enter Try.func112, Try.ntmps112
    go_wp2
    go_ret
    exact ⟨ret_bool (by rw [E.out]; rfl), (Below.refl _ _).alloc (Nat.le_refl _) _⟩
  · have h1 : (k != 0) = true := by simpa using h
    go_enter Try.func112, Try.ntmps112
    go_wp2_with (go_at_call 13; refine (hg _).mono ?_; rintro e w1 ⟨rfl, rfl⟩)
    go_ret
    exact ⟨ret_bool (by rw [E.out]; simp [h]), ((Below.refl _ _).alloc (Nat.le_refl _) _).alloc (by simp) _⟩

theorem argc_int (op : Int) : (argc op : Int) = if op = 9 ∨ op = 10 then 1 else if 3 ≤ op ∧ op ≤ 8 then 2 else 0 := by
  unfold argc
  split
  · rfl
  · split <;> rfl
set_option maxHeartbeats 400000 in
theorem argumentCount_any (op : Int) (w : World) : Calls Try.prog 92 #[.int .i64 op] w fun e w' => e = .returned (.int .i64 (argc op : Int)) ∧ w' = w := by
  by_cases h9 : op = 9 <;> by_cases h10 : op = 10 <;> by_cases h3 : op = 3 <;> by_cases h4 : op = 4 <;> by_cases h5 : op = 5 <;> by_cases h6 : op = 6 <;> by_cases h7 : op = 7 <;> by_cases h8 : op = 8
  all_goals (try omega)
  all_goals
    have E : Hid ((argc op : Int) = if op = 9 ∨ op = 10 then 1 else if 3 ≤ op ∧ op ≤ 8 then 2 else 0) := argc_int op
    go_enter Try.func92, Try.ntmps92
    go_wp2
    go_ret
    refine ⟨ret_int ?_, rfl⟩
    rw [E.out]
    first | (rw [if_pos (by omega)]; done) | (rw [if_neg (by omega), if_pos (by omega)]; done) | (rw [if_neg (by omega), if_neg (by omega)]; done)

set_option maxHeartbeats 1000000 in
theorem arguments_any (op : Int) (x : V) (s name : Wd) (n : Int) (ao : Option Addr) (k c : Nat) (w : World) :
    Calls Try.prog 65 #[.agg (eArr op x s name n (.slice ao k c))] w fun e w' => e = .returned (if k = argc op then .slice ao k c else .slice none 0 0) ∧ Below w.heap.size w w' := by
  obtain ⟨xk, xn, xs⟩ := x
  by_cases h : k = argc op
  · have h1 : ((k : Int) != (argc op : Int)) = false := by rw [h]; simp
    rw [if_pos h]
    clear h
    go_enter Try.func65, Try.ntmps65
    go_wp2
    go_region_held3 (fun w' => w'.cell? ⟨w.heap.size, 0, none⟩ = some (.int .i64 op) ∧ w'.cell? ⟨w.heap.size, 7, none⟩ = some (.slice ao k c)) (go_keep)
      (first | (go_at_call 92; refine (argumentCount_any _ _).mono ?_; rintro e w' ⟨rfl, rfl⟩))
    go_wp2
    go_ret
    refine ⟨rfl, ?_⟩
    repeat first | exact Below.refl _ _ | apply Below.drew | refine Below.alloc ?_ (by simp; try omega) _
  · have h1 : ((k : Int) != (argc op : Int)) = true := by simp; omega
    rw [if_neg h]
    clear h
    go_enter Try.func65, Try.ntmps65
    go_wp2
    go_region_held3 (fun w' => w'.cell? ⟨w.heap.size, 0, none⟩ = some (.int .i64 op) ∧ w'.cell? ⟨w.heap.size, 7, none⟩ = some (.slice ao k c)) (go_keep)
      (first | (go_at_call 92; refine (argumentCount_any _ _).mono ?_; rintro e w' ⟨rfl, rfl⟩))
    go_wp2
    go_ret
    refine ⟨rfl, ?_⟩
    repeat first | exact Below.refl _ _ | apply Below.drew | refine Below.alloc ?_ (by simp; try omega) _

end Go.Proofs.Ytabanbpnghidhaa

namespace Go.Proofs.Ytabanbpnghidhaa
open Go.RowKit

/-- A place that holds an expression, all of it in blocks below C. -/
def IsPtr (C : Nat) (w : World) (e : E) (p : Value) : Prop :=
  ∃ (b o : Nat) (op xk xn : Int) (xs s name : Wd) (n : Int) (ao : Option Addr) (c : Nat) (l : List E), p = .pointer (some ⟨b, o, none⟩) ∧ b < C ∧ e = .mk op ⟨xk, xn, xs⟩ s name n l ∧
    (w.cell? ⟨b, o, none⟩ = some (.int .i64 op) ∧ w.cell? ⟨b, o + 1, none⟩ = some (.int .i64 xk) ∧ w.cell? ⟨b, o + 2, none⟩ = some (.int .i64 xn) ∧ w.cell? ⟨b, o + 3, none⟩ = some (.string xs) ∧ w.cell? ⟨b, o + 4, none⟩ = some (.string s) ∧ w.cell? ⟨b, o + 5, none⟩ = some (.string name) ∧ w.cell? ⟨b, o + 6, none⟩ = some (.int .i64 n) ∧ w.cell? ⟨b, o + 7, none⟩ = some (.slice ao l.length c)) ∧
    IsEs (fun k => k < C) w (.slice ao l.length c) l
theorem IsPtr.keep {C : Nat} {w w' : World} {e : E} {p : Value} (h : IsPtr C w e p) (hb : Below C w w') : IsPtr C w' e p := by
  obtain ⟨b, o, op, xk, xn, xs, s, name, n, ao, c, l, h1, h2, h3, ⟨c0, c1, c2, c3, c4, c5, c6, c7⟩, h4⟩ := h
  have g : ∀ o, w'.cell? ⟨b, o, none⟩ = w.cell? ⟨b, o, none⟩ := fun o => hb.cell (p := ⟨b, o, none⟩) h2
  exact ⟨b, o, op, xk, xn, xs, s, name, n, ao, c, l, h1, h2, h3, ⟨(g _).trans c0, (g _).trans c1, (g _).trans c2, (g _).trans c3, (g _).trans c4, (g _).trans c5, (g _).trans c6, (g _).trans c7⟩, h4.keep (keepsC hb)⟩
/-- Places that hold expressions. -/
def Ptrs (C : Nat) (w : World) (L : List E) (P : List Value) : Prop := ∀ (i : Nat) (e : E), L[i]? = some e → ∃ p, P[i]? = some p ∧ IsPtr C w e p
theorem Ptrs.keep {C : Nat} {w w' : World} {L : List E} {P : List Value} (h : Ptrs C w L P) (hb : Below C w w') : Ptrs C w' L P := fun i e hi => by
  obtain ⟨p, h1, h2⟩ := h i e hi
  exact ⟨p, h1, h2.keep hb⟩
theorem Ptrs.snoc {C : Nat} {w : World} {L : List E} {P : List Value} (h : Ptrs C w L P) (hl : P.length = L.length) {e : E} {p : Value} (hp : IsPtr C w e p) : Ptrs C w (L ++ [e]) (P ++ [p]) := fun i x hi => by
  rcases Nat.lt_trichotomy i L.length with h1 | h1 | h1
  · rw [List.getElem?_append_left h1] at hi
    obtain ⟨q, h2, h3⟩ := h i x hi
    exact ⟨q, by rw [List.getElem?_append_left (by omega)]; exact h2, h3⟩
  · subst h1
    rw [List.getElem?_append_right (Nat.le_refl _)] at hi
    simp at hi
    subst hi
    exact ⟨p, by rw [← hl, List.getElem?_append_right (Nat.le_refl _)]; simp, hp⟩
  · rw [List.getElem?_eq_none (by simp; omega)] at hi; cases hi
/-- An element's place. -/
theorem ptr_elem {C : Nat} {w : World} {b off cap : Nat} {l : List E} (h : IsEs (fun k => k < C) w (.slice (some ⟨b, off, none⟩) l.length cap) l) {k : Nat} {e : E} (hk : l[k]? = some e) : IsPtr C w e (.pointer (some ⟨b, off + k * 8, none⟩)) := by
  obtain ⟨cs, hr, ha⟩ := h
  obtain ⟨xo, xk, xn, xs2, xs, xm, xi, xa, xl, xc, he, hc⟩ := row_elem hr ha hk
  have h0 : 0 < l.length := by have := (List.getElem?_eq_some_iff.1 hk).1; omega
  have hb : b < C := by
    rcases hr.2 with ⟨h1, _⟩ | ⟨_, b', o', c', hh, hF, _⟩
    · omega
    · cases hh; exact hF
  cases e with
  | mk op x s name n l' =>
    obtain ⟨sv, h1, h2⟩ := he.open
    obtain ⟨ao, c, rfl⟩ := h2.shape
    obtain ⟨yk, yn, ys⟩ := x
    simp only [eArr, Value.agg.injEq, Array.mk.injEq, List.cons.injEq, Value.int.injEq, Value.string.injEq, Value.slice.injEq, true_and, and_true] at h1
    obtain ⟨rfl, rfl, rfl, rfl, rfl, rfl, rfl, rfl, rfl, rfl⟩ := h1
    exact ⟨b, off + k * 8, xo, xk, xn, xs2, xs, xm, xi, xa, xc, l', rfl, hb, rfl, hc w (Below.refl _ _), h2⟩
/-- The arguments that count. -/
theorem arguments_kids {C : Nat} (op : Int) (x : V) (s name : Wd) (n : Int) (ao : Option Addr) (c : Nat) (l : List E) (w : World) (h : IsEs (fun k => k < C) w (.slice ao l.length c) l) (hC : C ≤ w.heap.size) :
    Calls Try.prog 65 #[.agg (eArr op x s name n (.slice ao l.length c))] w fun e w' => ∃ ko kc, e = .returned (.slice ko (kidsOf op l).length kc) ∧ IsEs (fun k => k < C) w' (.slice ko (kidsOf op l).length kc) (kidsOf op l) ∧ Below w.heap.size w w' := by
  refine (arguments_any op x s name n ao l.length c w).mono ?_
  rintro e w' ⟨rfl, hb⟩
  unfold kidsOf
  split
  · exact ⟨ao, c, rfl, h.keep (keepsC (hb.mono hC)), hb⟩
  · exact ⟨none, 0, rfl, IsEs.nil _ _, hb⟩
theorem info_ptr : (Try.prog.info? 126).map (fun i => (i.zero, i.size, i.bytes)) = some (some (.pointer none), 1, 8) := by kernel_rfl

end Go.Proofs.Ytabanbpnghidhaa

namespace Go.Proofs.Ytabanbpnghidhaa
open Go.RowKit

theorem take_snoc' {α : Type} {L : List α} {i : Nat} {x : α} (h : L[i]? = some x) : L.take (i + 1) = L.take i ++ [x] := by rw [List.take_add_one, h]; rfl
theorem bel_grow {w0 w w' : World} {z : Value} {n : Nat} {xs : List Value} {C : Nat} (h : Below C w0 w) (hown : w.ownsRow C 126 1 z n xs) (hC : C ≤ w.heap.size) (hg : w.grownBy w' z.ownBlock) : Below C w0 w' := h.trans (below_append hown hC hg)

set_option maxRecDepth 100000 in
set_option maxHeartbeats 4000000 in
theorem withArguments_any (e : E) (v : Value) (C : Nat) (w : World) (he : IsE (fun k => k < C) w e v) (hC : C ≤ w.heap.size) (hn : e.nodes ≤ 16777216) :
    Calls Try.prog 91 #[v] w fun r w' => ∃ zv L P, r = .returned zv ∧ IsRow 1 w' zv L.length P ∧ Ptrs (w.heap.size + 1) w' L P ∧ Queue e L L.length ∧ Below w.heap.size w w' ∧ w.heap.size + 1 ≤ w'.heap.size := by
  obtain ⟨i0, hi, hz0, hz1, hz2⟩ := info_parts info_ptr
  have H0 : ∃ op xk xn xs s name n ao c l, e = .mk op ⟨xk, xn, xs⟩ s name n l ∧ v = .agg (eArr op ⟨xk, xn, xs⟩ s name n (.slice ao l.length c)) ∧ IsEs (fun k => k < C) w (.slice ao l.length c) l := by
    cases e with
    | mk op x s name n l =>
      obtain ⟨sv, h1, h2⟩ := he.open
      obtain ⟨ao, c, rfl⟩ := h2.shape
      obtain ⟨xk, xn, xs⟩ := x
      exact ⟨op, xk, xn, xs, s, name, n, ao, c, l, rfl, h1, h2⟩
  obtain ⟨op, xk, xn, xs, s, name, n, ao, c, l, rfl, rfl, hes⟩ := H0
  clear he
  have hb1 : Below w.heap.size w (w.alloc (.cells (eArr op ⟨xk, xn, xs⟩ s name n (.slice ao l.length c)) 34)) := (Below.refl _ _).alloc (Nat.le_refl _) _
  have hb2 : Below w.heap.size w ((w.alloc (.cells (eArr op ⟨xk, xn, xs⟩ s name n (.slice ao l.length c)) 34)).alloc (.cells #[.pointer (some ⟨w.heap.size, 0, none⟩)] 126)) := hb1.alloc (by simp) _
  have hp0 : IsPtr (w.heap.size + 1) ((w.alloc (.cells (eArr op ⟨xk, xn, xs⟩ s name n (.slice ao l.length c)) 34)).alloc (.cells #[.pointer (some ⟨w.heap.size, 0, none⟩)] 126)) (.mk op ⟨xk, xn, xs⟩ s name n l) (.pointer (some ⟨w.heap.size, 0, none⟩)) := by
    have hbl : ((w.alloc (.cells (eArr op ⟨xk, xn, xs⟩ s name n (.slice ao l.length c)) 34)).alloc (.cells #[.pointer (some ⟨w.heap.size, 0, none⟩)] 126)).heap[w.heap.size]? = some (.cells (eArr op ⟨xk, xn, xs⟩ s name n (.slice ao l.length c)) 34) := block_alloc_of (block_alloc_at w _) _
    refine ⟨w.heap.size, 0, op, xk, xn, xs, s, name, n, ao, c, l, rfl, by omega, rfl, ⟨cell_of_block hbl rfl, cell_of_block hbl rfl, cell_of_block hbl rfl, cell_of_block hbl rfl, cell_of_block hbl rfl, cell_of_block hbl rfl, cell_of_block hbl rfl, cell_of_block hbl rfl⟩, ?_⟩
    exact (hes.keep (keepsC (hb2.mono hC))).mono fun k _ hk => by omega
  have hown0 : ((w.alloc (.cells (eArr op ⟨xk, xn, xs⟩ s name n (.slice ao l.length c)) 34)).alloc (.cells #[.pointer (some ⟨w.heap.size, 0, none⟩)] 126)).ownsRow (w.heap.size + 1) 126 1 (.slice (some ⟨w.heap.size + 1, 0, none⟩) 1 1) 1 [.pointer (some ⟨w.heap.size, 0, none⟩)] := by
    refine ⟨rfl, .inr ⟨w.heap.size + 1, 1, #[.pointer (some ⟨w.heap.size, 0, none⟩)], rfl, Nat.le_refl _, ?_, Nat.le_refl _, by decide, rfl, rfl⟩⟩
    have := block_alloc_at (w.alloc (.cells (eArr op ⟨xk, xn, xs⟩ s name n (.slice ao l.length c)) 34)) (.cells #[.pointer (some ⟨w.heap.size, 0, none⟩)] 126)
    rwa [World.size_alloc] at this
  have HQ := queue_start (.mk op ⟨xk, xn, xs⟩ s name n l)
  generalize hE : E.mk op ⟨xk, xn, xs⟩ s name n l = e at hp0 HQ hn ⊢
  clear hE
  go_enter Try.func91, Try.ntmps91
  go_wp2
  go_loopw [3, 4] (fun z i wr => ∃ (j : Nat) (L : List E) (P : List Value), i = .int .i64 j ∧ wr.ownsRow (w.heap.size + 1) 126 1 z L.length P ∧ Hid (Queue e L j) ∧ Ptrs (w.heap.size + 1) wr L P ∧ Below w.heap.size w wr ∧ w.heap.size + 1 ≤ wr.heap.size) (fun _ i _ => e.nodes - (intOf i).toNat)
  case atStart => exact ⟨0, [e], [.pointer (some ⟨w.heap.size, 0, none⟩)], rfl, hown0, HQ, fun i x hi => by
      match i, hi with
      | 0, hi => simp at hi; subst hi; exact ⟨_, rfl, hp0⟩
      | i + 1, hi => simp at hi, hb2, by simp⟩
  case round =>
    obtain ⟨j, L, P, rfl, hown, HQj, hP, hbel, hsz⟩ := hrel
    have hrow := IsRow.of_own hown
    have hlen := HQj.out.len
    have hPl : P.length = L.length := by have := hown.1; omega
    by_cases hlt : j < L.length
    · obtain ⟨x, hx⟩ : ∃ x, L[j]? = some x := ⟨_, List.getElem?_eq_getElem hlt⟩
      obtain ⟨p, hp, hptr⟩ := hP j x hx
      obtain ⟨b, o, op, xk, xn, xs, s, name, n, ao, c, l, rfl, hbC, rfl, ⟨c0, c1, c2, c3, c4, c5, c6, c7⟩, hes⟩ := hptr
      have HX : Hid (L[j]? = some (.mk op ⟨xk, xn, xs⟩ s name n l)) := hx
      clear hx
      rcases hrow.2 with ⟨h1, _⟩ | ⟨_, zb, zo, zc, rfl, _, _, _, h3⟩
      · omega
      have hzb := h3 j _ hp
      clear h3
      have j0 : (0 : Int) ≤ (j : Int) := by omega
      have j1 : (j : Int) < (L.length : Int) := by omega
      have ha := arguments_kids op ⟨xk, xn, xs⟩ s name n ao c l wr hes hsz
      clear hp
      go_wp2_with (first | (go_at_call 65; refine ha.mono ?_; rintro e1 w1 ⟨ko, kc, rfl, hk1, hbk⟩))
      have hbw : Below w.heap.size w w1 := hbel.trans (hbk.mono hbel.size)
      have hsz1 : w.heap.size + 1 ≤ w1.heap.size := Nat.le_trans hsz hbk.size
      have hown1 := ownsRow_below hown hbk
      have hP1 := hP.keep (hbk.mono hsz)
      have hKl : (kidsOf op l).length ≤ 2 := kids_le (.mk op ⟨xk, xn, xs⟩ s name n l)
      have HS : Hid (Queue e (L ++ kidsOf op l) (j + 1)) := HQj.out.step HX.out
      have hlen2 : (L ++ kidsOf op l).length ≤ e.nodes := HS.out.len
      rw [List.length_append] at hlen2
      clear hown hP hes ha hbk hbel hsz HX HQj c0 c1 c2 c3 c4 c5 c6 c7 hrow hzb hb1 hb2 hown0 hp0 HQ hbC
      generalize kidsOf op l = K at hk1 HS hlen2 hKl
      go_loopw [3, 23] (fun z k wr => ∃ (m : Nat) (P' : List Value), m ≤ K.length ∧ k = .int .i64 m ∧ wr.ownsRow (w.heap.size + 1) 126 1 z (L ++ K.take m).length P' ∧ Ptrs (w.heap.size + 1) wr (L ++ K.take m) P' ∧ Below w.heap.size w wr ∧ w.heap.size + 1 ≤ wr.heap.size ∧ IsEs (fun k => k < w.heap.size + 1) wr (.slice ko K.length kc) K) (fun _ k _ => K.length - (intOf k).toNat)
      case atStart => exact ⟨0, P, Nat.zero_le _, rfl, by simpa using hown1, by simpa using hP1, hbw, hsz1, hk1⟩
      case round =>
        obtain ⟨m, P', hm, rfl, hown, hP, hbel, hsz, hk⟩ := hrel
        have hPl' : Hid (P'.length = (L ++ K.take m).length) := by show _ = _; have := hown.1; omega
        have hLm : Hid ((L ++ K.take m).length = L.length + m) := by show _ = _; rw [List.length_append, List.length_take, Nat.min_eq_left hm]
        rw [hLm.out] at hown
        by_cases hmk : m < K.length
        · obtain ⟨y, hy⟩ : ∃ y, K[m]? = some y := ⟨_, List.getElem?_eq_getElem hmk⟩
          obtain ⟨kb, kf, rfl⟩ : ∃ kb kf, ko = some ⟨kb, kf, none⟩ := by
            obtain ⟨cs, hr, _⟩ := hk
            rcases hr.2 with ⟨h1, _⟩ | ⟨_, kb, kf, kc', h2, _⟩
            · omega
            · cases h2; exact ⟨kb, kf, rfl⟩
          have hptr := ptr_elem hk hy
          have HY : Hid (L ++ K.take (m + 1) = (L ++ K.take m) ++ [y]) := by show _ = _; rw [take_snoc' hy, List.append_assoc]
          have m0 : (0 : Int) ≤ (m : Int) := by omega
          have m1 : (m : Int) < (K.length : Int) := by omega
          obtain ⟨zo, zc, rfl⟩ := (IsRow.of_own hown).shape
          have hown2 := hown.alloc (.cells #[.pointer (some ⟨kb, kf + m * 8, none⟩)] 126)
          have hB1 : Below w.heap.size w (wr.alloc (.cells #[.pointer (some ⟨kb, kf + m * 8, none⟩)] 126)) := hbel.alloc hbel.size _
          have hB2 : Below (w.heap.size + 1) wr (wr.alloc (.cells #[.pointer (some ⟨kb, kf + m * 8, none⟩)] 126)) := (Below.refl _ _).alloc hsz _
          have hbase : w.heap.size + 1 ≤ (wr.alloc (.cells #[.pointer (some ⟨kb, kf + m * 8, none⟩)] 126)).heap.size := by rw [World.size_alloc]; omega
          have hnew := cells_new wr [.pointer (some ⟨kb, kf + m * 8, none⟩)] 126
          clear hy
          go_wp2_with (at_builtin; go_must (refine wpList_append_own _ rfl _ _ 124 rfl (w.heap.size + 1) 126 i0 (.pointer none) 1 8 Try.underlying124 hi hz0 hz1 hz2 rfl (by decide) _ _ _ rfl hown2 ⟨wr.heap.size, 0, none⟩ 1 1 [.pointer (some ⟨kb, kf + m * 8, none⟩)] rfl rfl hnew (by simp; rfl) (by simp only [maxLen]; omega) (by omega) hbase ?_))
          intro z2 w2 hown3 hg2 _
          have hap := below_append hown2 hbase hg2
          have hb3 : Below (w.heap.size + 1) wr w2 := hB2.trans hap
          go_wp2
          go_roundw
          case rel =>
            refine ⟨m + 1, P' ++ [.pointer (some ⟨kb, kf + m * 8, none⟩)], by omega, by go_num, ?_, ?_, hbel.trans (hb3.mono (by omega)), Nat.le_trans hbase hap.size, hk.keep (keepsC hb3)⟩
            · rw [HY.out, List.length_append, hLm.out]; exact hown3
            · rw [HY.out]; exact (hP.snoc hPl'.out hptr).keep hb3
          case measure => simp [intOf]; omega
        · have hmK : m = K.length := by omega
          subst hmK
          rw [← hLm.out, List.take_length] at hown
          rw [List.take_length] at hP
          go_wp2
          go_roundw
          case rel => exact ⟨j + 1, L ++ K, P', by go_num, hown, HS, hP, hbel, hsz⟩
          case measure => simp [intOf]; omega
    · obtain ⟨zo, zc, rfl⟩ := hrow.shape
      have hle := HQj.out.le
      have hj : j = L.length := by omega
      subst hj
      go_wp2
      go_ret
      exact ⟨_, L, P, rfl, hrow, hP, HQj.out, hbel, hsz⟩

end Go.Proofs.Ytabanbpnghidhaa

namespace Go.Proofs.Ytabanbpnghidhaa
open Go.RowKit

set_option maxRecDepth 100000 in
set_option maxHeartbeats 1000000 in
theorem ofNone_any (op : Int) (x : V) (s name : Wd) (n : Int) (sv rv : Value) (row : List V) (w : World) (hr : IsVals w rv row) (hn : row.length ≤ maxLen) (hsv : ∃ ao k c, sv = .slice ao k c) :
    Calls Try.prog 95 #[.agg (eArr op x s name n sv), rv] w fun e w' => e = .returned (noneV op x n row).val ∧ Below w.heap.size w w' := by
  obtain ⟨ao, k, c, rfl⟩ := hsv
  by_cases h1 : op = 1
  · subst h1
    obtain ⟨ro, rc, rfl⟩ := hr.shape
    obtain ⟨xk, xn, xs⟩ := x
    go_enter Try.func95, Try.ntmps95
    go_wp2
    exact bodyPost_ret (v := .agg #[.int .i64 xk, .int .i64 xn, .string xs]) (by simp [results, Try.results95, go_sem]) rfl ⟨rfl, ((Below.refl _ _).alloc (Nat.le_refl _) _).alloc (by simp) _⟩
  by_cases h2 : op = 2
  · subst h2
    by_cases h0 : 0 ≤ n
    · obtain ⟨m, rfl⟩ : ∃ m : Nat, n = m := ⟨n.toNat, by omega⟩
      by_cases hm : m < row.length
      · obtain ⟨v, hv⟩ : ∃ v, row[m]? = some v := ⟨_, List.getElem?_eq_getElem hm⟩
        have E : Hid (noneV 2 x m row = v) := by show _ = _; simp [noneV, rowV, hv]
        rcases hr with ⟨_, rfl⟩ | ⟨b, off, cap, rfl, hb, hh⟩
        · simp at hm
        obtain ⟨c0, c1, c2⟩ := hh m v hv
        clear hh hv
        obtain ⟨vk, vn, vs⟩ := v
        obtain ⟨xk, xn, xs⟩ := x
        go_enter Try.func95, Try.ntmps95
        go_wp2
        rw [E.out]
        exact bodyPost_ret (v := .agg #[.int .i64 vk, .int .i64 vn, .string vs]) (by simp [results, Try.results95, go_sem]) rfl ⟨rfl, ((Below.refl _ _).alloc (Nat.le_refl _) _).alloc (by simp) _⟩
      · have E : Hid (noneV 2 x m row = zero) := by show _ = _; simp [noneV, rowV, List.getElem?_eq_none (by omega : row.length ≤ m)]
        obtain ⟨ro, rc, rfl⟩ := hr.shape
        obtain ⟨xk, xn, xs⟩ := x
        go_enter Try.func95, Try.ntmps95
        go_wp2
        rw [E.out]
        exact bodyPost_ret (v := .agg #[.int .i64 0, .int .i64 0, .string noW]) (by simp [results, Try.results95, go_sem]) rfl ⟨rfl, ((Below.refl _ _).alloc (Nat.le_refl _) _).alloc (by simp) _⟩
    · have E : Hid (noneV 2 x n row = zero) := by show _ = _; simp [noneV, rowV, h0]
      obtain ⟨ro, rc, rfl⟩ := hr.shape
      obtain ⟨xk, xn, xs⟩ := x
      go_enter Try.func95, Try.ntmps95
      go_wp2
      rw [E.out]
      exact bodyPost_ret (v := .agg #[.int .i64 0, .int .i64 0, .string noW]) (by simp [results, Try.results95, go_sem]) rfl ⟨rfl, ((Below.refl _ _).alloc (Nat.le_refl _) _).alloc (by simp) _⟩
  have E : Hid (noneV op x n row = zero) := by show _ = _; simp [noneV, h1, h2]
  obtain ⟨ro, rc, rfl⟩ := hr.shape
  obtain ⟨xk, xn, xs⟩ := x
  go_enter Try.func95, Try.ntmps95
  go_wp2
  rw [E.out]
  exact bodyPost_ret (v := .agg #[.int .i64 0, .int .i64 0, .string noW]) (by simp [results, Try.results95, go_sem]) rfl ⟨rfl, ((Below.refl _ _).alloc (Nat.le_refl _) _).alloc (by simp) _⟩

set_option maxRecDepth 100000 in
set_option maxHeartbeats 1000000 in
theorem ofOne_any (op : Int) (a : V) (w : World) : Calls Try.prog 93 #[.int .i64 op, a.val] w fun e w' => e = .returned (uniV op a).val ∧ Below w.heap.size w w' := by
  have ho := fun w => of_any a w
  by_cases h9 : op = 9
  · subst h9
    have E : Hid (uniV 9 a = truthV (tNot (ofV a))) := rfl
    generalize ofV a = o at E ho
    generalize uniV 9 a = r at E
    obtain ⟨k, n, s⟩ := a
    simp only [V.val] at ho
    show Calls Try.prog 93 #[.int .i64 9, .agg #[.int .i64 k, .int .i64 n, .string s]] w _
    go_enter Try.func93, Try.ntmps93
    go_wp2_with (first | (go_at_call 108; refine (ho _).mono ?_; rintro e w1 ⟨rfl, hb1⟩) | (go_at_call 107; refine (not_any _ _).mono ?_; rintro e w2 ⟨rfl, rfl⟩) | (go_at_call 106; refine (truth_any _ _).mono ?_; rintro e w3 ⟨rfl, hb3⟩; simp only [V.val]; obtain ⟨hcc, hff⟩ := bcell (bthen hb1 hb3)))
    rw [E.out]
    exact end_val _ Try.results93 rfl rfl (((bthen hb1 hb3).block _ (by simp)).trans (block2 _ _ _)) (bthen (bel2 _ _ _) (bthen hb1 hb3)) (Nat.le_succ _)
  by_cases h10 : op = 10
  · subst h10
    have E : Hid (uniV 10 a = whV (decide (a.k = 0))) := rfl
    generalize uniV 10 a = r at E
    clear ho
    obtain ⟨k, n, s⟩ := a
    show Calls Try.prog 93 #[.int .i64 10, .agg #[.int .i64 k, .int .i64 n, .string s]] w _
    go_enter Try.func93, Try.ntmps93
    go_wp2_with (first | (go_at_call 109; refine (whether_any _ _).mono ?_; rintro e w3 ⟨rfl, hb3⟩; simp only [V.val]; obtain ⟨hcc, hff⟩ := bcell hb3))
    rw [E.out]
    exact end_val _ Try.results93 rfl rfl ((hb3.block _ (by simp)).trans (block2 _ _ _)) (bthen (bel2 _ _ _) hb3) (Nat.le_succ _)
  have E : Hid (uniV op a = zero) := by show _ = _; simp [uniV, h9, h10]
  generalize uniV op a = r at E
  clear ho
  obtain ⟨k, n, s⟩ := a
  show Calls Try.prog 93 #[.int .i64 op, .agg #[.int .i64 k, .int .i64 n, .string s]] w _
  go_enter Try.func93, Try.ntmps93
  go_wp2
  rw [E.out]
  exact bodyPost_ret (v := .agg #[.int .i64 0, .int .i64 0, .string noW]) (by simp [results, Try.results93, go_sem]) rfl ⟨rfl, bel2 _ _ _⟩

/-- Of numbers that a row may have. -/
theorem add_fits {a b : Int} (h1 : -1000000 ≤ a) (h2 : a ≤ 1000000) (h3 : -1000000 ≤ b) (h4 : b ≤ 1000000) : IntKind.i64.wrap (a + b) = a + b ∧ IntKind.i64.wrap (a - b) = a - b := by
  rw [IntKind.wrap_i64, IntKind.wrap_i64]
  omega

set_option maxRecDepth 100000 in
set_option maxHeartbeats 1000000 in
theorem ofKnown_any (op : Int) (a b : V) (w : World) (ha : knownV a = true) (hb : knownV b = true) (hk : a.k = b.k) : Calls Try.prog 113 #[.int .i64 op, a.val, b.val] w fun e w' => e = .returned (knV op a b).val ∧ Below w.heap.size w w' := by
  have hc := fun w => compare_any a b w
  by_cases h5 : op = 5
  · subst h5
    have E : Hid (knV 5 a b = whV (decide (cmpV a b = 0))) := rfl
    generalize cmpV a b = c at E hc
    generalize knV 5 a b = r at E
    clear ha hb hk
    obtain ⟨k, n, s⟩ := a
    obtain ⟨k', n', s'⟩ := b
    simp only [V.val] at hc
    show Calls Try.prog 113 #[.int .i64 5, .agg #[.int .i64 k, .int .i64 n, .string s], .agg #[.int .i64 k', .int .i64 n', .string s']] w _
    go_enter Try.func113, Try.ntmps113
    go_wp2_with (first | (go_at_call 120; refine (hc _).mono ?_; rintro e w1 ⟨rfl, hb1⟩) | (go_at_call 109; refine (whether_any _ _).mono ?_; rintro e w3 ⟨rfl, hb3⟩; simp only [V.val]; obtain ⟨hcc, hff⟩ := bcell (bthen hb1 hb3)))
    rw [E.out]
    exact end_val _ Try.results113 rfl rfl (((bthen hb1 hb3).block _ (by simp)).trans (block3 _ _ _ _)) (bthen (bel3 _ _ _ _) (bthen hb1 hb3)) (by omega)
  by_cases h6 : op = 6
  · subst h6
    have E : Hid (knV 6 a b = whV (decide (cmpV a b < 0))) := rfl
    generalize cmpV a b = c at E hc
    generalize knV 6 a b = r at E
    clear ha hb hk
    obtain ⟨k, n, s⟩ := a
    obtain ⟨k', n', s'⟩ := b
    simp only [V.val] at hc
    show Calls Try.prog 113 #[.int .i64 6, .agg #[.int .i64 k, .int .i64 n, .string s], .agg #[.int .i64 k', .int .i64 n', .string s']] w _
    go_enter Try.func113, Try.ntmps113
    go_wp2_with (first | (go_at_call 120; refine (hc _).mono ?_; rintro e w1 ⟨rfl, hb1⟩) | (go_at_call 109; refine (whether_any _ _).mono ?_; rintro e w3 ⟨rfl, hb3⟩; simp only [V.val]; obtain ⟨hcc, hff⟩ := bcell (bthen hb1 hb3)))
    rw [E.out]
    exact end_val _ Try.results113 rfl rfl (((bthen hb1 hb3).block _ (by simp)).trans (block3 _ _ _ _)) (bthen (bel3 _ _ _ _) (bthen hb1 hb3)) (by omega)
  clear hc
  by_cases h1 : a.k = 1
  · have hn : -1000000 ≤ a.n ∧ a.n ≤ 1000000 := by have := ha; simp [knownV, good, h1] at this; exact ⟨this.1.1, this.1.2⟩
    have hn' : -1000000 ≤ b.n ∧ b.n ≤ 1000000 := by have := hb; rw [h1] at hk; simp [knownV, good, ← hk] at this; exact ⟨this.1.1, this.1.2⟩
    obtain ⟨e1, e2⟩ := add_fits hn.1 hn.2 hn'.1 hn'.2
    clear hn hn' ha hb hk
    by_cases h3 : op = 3
    · subst h3
      have E : Hid (knV 3 a b = numV (a.n + b.n)) := by show _ = _; simp [knV, h1]
      generalize knV 3 a b = r at E
      obtain ⟨k, n, s⟩ := a
      obtain ⟨k', n', s'⟩ := b
      simp only at h1 e1 e2
      subst h1
      show Calls Try.prog 113 #[.int .i64 3, .agg #[.int .i64 1, .int .i64 n, .string s], .agg #[.int .i64 k', .int .i64 n', .string s']] w _
      go_enter Try.func113, Try.ntmps113
      go_wp2_with (first | (go_at_call 121; refine (numberV_any _ _).mono ?_; rintro e w3 ⟨rfl, hb3⟩; simp only [V.val]; obtain ⟨hcc, hff⟩ := bcell hb3))
      rw [E.out]
      exact end_val _ Try.results113 rfl rfl ((hb3.block _ (by simp)).trans (block3 _ _ _ _)) (bthen (bel3 _ _ _ _) hb3) (by omega)
    by_cases h4 : op = 4
    · subst h4
      have E : Hid (knV 4 a b = numV (a.n - b.n)) := by show _ = _; simp [knV, h1]
      generalize knV 4 a b = r at E
      obtain ⟨k, n, s⟩ := a
      obtain ⟨k', n', s'⟩ := b
      simp only at h1 e1 e2
      subst h1
      show Calls Try.prog 113 #[.int .i64 4, .agg #[.int .i64 1, .int .i64 n, .string s], .agg #[.int .i64 k', .int .i64 n', .string s']] w _
      go_enter Try.func113, Try.ntmps113
      go_wp2_with (first | (go_at_call 121; refine (numberV_any _ _).mono ?_; rintro e w3 ⟨rfl, hb3⟩; simp only [V.val]; obtain ⟨hcc, hff⟩ := bcell hb3))
      rw [E.out]
      exact end_val _ Try.results113 rfl rfl ((hb3.block _ (by simp)).trans (block3 _ _ _ _)) (bthen (bel3 _ _ _ _) hb3) (by omega)
    have E : Hid (knV op a b = zero) := by show _ = _; simp [knV, h3, h4, h5, h6]
    generalize knV op a b = r at E
    obtain ⟨k, n, s⟩ := a
    obtain ⟨k', n', s'⟩ := b
    simp only at h1
    subst h1
    show Calls Try.prog 113 #[.int .i64 op, .agg #[.int .i64 1, .int .i64 n, .string s], .agg #[.int .i64 k', .int .i64 n', .string s']] w _
    go_enter Try.func113, Try.ntmps113
    go_wp2
    rw [E.out]
    exact bodyPost_ret (v := .agg #[.int .i64 0, .int .i64 0, .string noW]) (by simp [results, Try.results113, go_sem]) rfl ⟨rfl, bel3 _ _ _ _⟩
  have E : Hid (knV op a b = zero) := by show _ = _; simp [knV, h1, h5, h6]
  generalize knV op a b = r at E
  clear ha hb hk
  obtain ⟨k, n, s⟩ := a
  obtain ⟨k', n', s'⟩ := b
  simp only at h1
  have h1' : (k != 1) = true := by simpa using h1
  show Calls Try.prog 113 #[.int .i64 op, .agg #[.int .i64 k, .int .i64 n, .string s], .agg #[.int .i64 k', .int .i64 n', .string s']] w _
  go_enter Try.func113, Try.ntmps113
  go_wp2
  rw [E.out]
  exact bodyPost_ret (v := .agg #[.int .i64 0, .int .i64 0, .string noW]) (by simp [results, Try.results113, go_sem]) rfl ⟨rfl, bel3 _ _ _ _⟩

end Go.Proofs.Ytabanbpnghidhaa


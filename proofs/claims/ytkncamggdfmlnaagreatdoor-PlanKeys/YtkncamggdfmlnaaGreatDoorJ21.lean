/-
  2 texts of this proof in one, in build order: OpenL, KVar.
-/
import Derived.ProofKit
import Derived.ChangeSame
import Derived.Shelf.Strings.SlTrimAscii
import Derived.Shelf.Strings.Search3
import Derived.Shelf.LaysM
import Derived.Test.YtkncamggdfmlnaaGreatDoorProg
import Derived.Test.YtkncamggdfmlnaaGreatDoorJ09
import Derived.Test.YtkncamggdfmlnaaGreatDoorJ11
import Derived.Test.YtkncamggdfmlnaaGreatDoorJ20
namespace Go.Proofs.YtkncamggdfmlnaaGreatDoor
open Go.RowKit Go.Deep Go.ChangeShapes

section
variable {H : Type} {enc : TypeId × Value → H} {w : World} {base : Nat} {spare : Nat → Bool} {held : Bool}

theorem bulk_app (a b : List (DataW H)) : Rows.uptoBulkAll (a ++ b) = Rows.uptoBulkAll a + Rows.uptoBulkAll b := by
  induction a with
  | nil => simp [Rows.uptoBulkAll]
  | cons x r ih => simp only [List.cons_append, Rows.uptoBulkAll, ih]; omega
theorem bulk_el {D : Nat → DataW H} : ∀ (n i : Nat), i < n → Rows.uptoBulk (D i) ≤ Rows.uptoBulkAll ((List.range n).map D)
  | n + 1, i, h => by
    rw [List.range_succ, List.map_append, bulk_app]
    rcases Nat.lt_or_eq_of_le (Nat.lt_succ_iff.1 h) with h1 | h1
    · have := bulk_el (D := D) n i h1; omega
    · subst h1; simp [Rows.uptoBulkAll]
theorem all_range {α : Type} {K : Elem α} {F : Nat → Prop} {f : Nat → α} {g : Nat → List Value} : ∀ n : Nat, (∀ i, i < n → K.R F w (f i) (g i)) → All K F w ((List.range n).map f) ((List.range n).flatMap g)
  | 0, _ => rfl
  | n + 1, h => by
    rw [List.range_succ, List.map_append, List.flatMap_append]
    refine All.append (all_range n fun i hi => h i (by omega)) ?_
    have := All.one (h n (by omega))
    simpa using this
theorem flat_len {g : Nat → List Value} {s : Nat} : ∀ (n : Nat), (∀ i, i < n → (g i).length = s) → ((List.range n).flatMap g).length = n * s
  | 0, _ => by simp
  | n + 1, h => by
    rw [List.range_succ, List.flatMap_append, List.length_append, flat_len n fun i hi => h i (by omega)]
    simp [h n (by omega), Nat.add_mul]
theorem flat_get {g : Nat → List Value} {s : Nat} : ∀ (n i : Nat), (∀ i, i < n → (g i).length = s) → i < n → ∀ j, j < s → ((List.range n).flatMap g)[i * s + j]? = (g i)[j]?
  | n + 1, i, h, hi, j, hj => by
    have hl := flat_len (g := g) n fun i hi => h i (by omega)
    rw [List.range_succ, List.flatMap_append]
    rcases Nat.lt_or_eq_of_le (Nat.lt_succ_iff.1 hi) with h1 | h1
    · rw [List.getElem?_append_left (by rw [hl]; have := Nat.mul_le_mul_right s (show i + 1 ≤ n from h1); rw [Nat.add_mul] at this; omega)]
      exact flat_get n i (fun i hi => h i (by omega)) h1 j hj
    · subst h1
      rw [List.getElem?_append_right (by rw [hl]; omega), hl]
      simp

theorem open_list {α : Type} (d0 : α) (K : Elem α) (t et : TypeId) (hu : Tryz.prog.underlying t = some (.slice et)) (hc : Tryz.prog.cellsOf et = K.size) (hK : 0 < K.size) (B : Nat) (Q : α → Prop)
    (each : ∀ (fuel : Nat) (cs : List Value) (x : DataW H × List MemPlace), Rows.uptoBulk x.1 ≤ B → DataW.trod enc Tryz.prog w base spare held fuel et cs = some x → ∃ a, K.R (fun k => k < w.heap.size) w a cs ∧ Q a)
    {fuel : Nat} {sv : Value} {x : DataW H × List MemPlace} (hB : Rows.uptoBulk x.1 ≤ B) (h : DataW.trod enc Tryz.prog w base spare held fuel t [sv] = some x) :
    ∃ l : List α, IsL K (fun k => k < w.heap.size) w sv l ∧ (∀ a ∈ l, Q a) ∧ l.length ≤ Rows.uptoBulk x.1 := by
  rcases open_slice hu h with ⟨hcs, rfl⟩ | ⟨ad, len, cap, m, n5, D, Pl, hcs, hb, hlc, hm, hmm, rfl, hxx⟩
  · simp only [List.cons.injEq, and_true] at hcs
    subst hcs
    exact ⟨[], IsL.nil K _ w, by simp, Nat.zero_le _⟩
  · simp only [List.cons.injEq, and_true] at hcs
    subst hcs
    have hlm : len ≤ m := by rw [hmm]; split <;> omega
    have hbD : Rows.uptoBulkAll ((List.range len).map D) ≤ B := by simp only [Rows.uptoBulk] at hB; omega
    have hll : len ≤ Rows.uptoBulkAll ((List.range len).map D) := by have := bulk_length ((List.range len).map D); simpa using this
    have e1 : ∀ i, i < len → ∃ r : α × List Value, K.R (fun k => k < w.heap.size) w r.1 r.2 ∧ Q r.1 ∧ ∀ j u, r.2[j]? = some u → w.cell? (ad.add (i * K.size + j)) = some u := by
      intro i hi
      obtain ⟨cs', h1, h2⟩ := hxx i (by omega)
      rw [hc] at h1
      obtain ⟨_, hlen, hcell⟩ := World.cells?_some h1
      obtain ⟨a, ha, hq⟩ := each n5 cs' (D i, Pl i) (Nat.le_trans (bulk_el len i hi) hbD) h2
      refine ⟨(a, cs'), ha, hq, fun j u hj => ?_⟩
      have hjl := (List.getElem?_eq_some_iff.1 hj).1
      simp only at hjl
      have := hcell j (by omega)
      rw [add_add] at this
      rw [this]
      exact hj
    have : Inhabited (α × List Value) := ⟨(d0, [])⟩
    obtain ⟨f, hf⟩ := choose_lt e1
    refine ⟨(List.range len).map fun i => (f i).1, ⟨(List.range len).flatMap fun i => (f i).2, ?_, all_range len fun i hi => (hf i hi).1⟩, ?_, ?_⟩
    · have hle : ∀ i, i < len → (f i).2.length = K.size := fun i hi => K.len (hf i hi).1
      refine ⟨by rw [flat_len len hle]; simp, ?_⟩
      rcases Nat.eq_zero_or_pos len with rfl | hpos
      · exact .inl ⟨by simp, _, cap, rfl, fun h => by cases h⟩
      · obtain ⟨b, off, spot⟩ := ad
        obtain ⟨u0, hu0⟩ : ∃ u, (f 0).2[0]? = some u := ⟨_, List.getElem?_eq_getElem (by rw [hle 0 hpos]; exact hK)⟩
        have hc0 := (hf 0 hpos).2.2 0 u0 hu0
        have hspot : spot = none := by simpa [Addr.add] using World.cell?_spot hc0
        subst hspot
        have hlt : b < w.heap.size := by have := block_lt_of_cell hc0; simpa [Addr.add] using this
        refine .inr ⟨by simpa using hpos, b, off, cap, by simp, hlt, hlt, by simpa using hlc, hm, fun j u hj => ?_⟩
        have hjl := (List.getElem?_eq_some_iff.1 hj).1
        rw [flat_len len hle] at hjl
        have hi : j / K.size < len := Nat.div_lt_of_lt_mul (by rw [Nat.mul_comm]; exact hjl)
        have hj2 : j % K.size < K.size := Nat.mod_lt _ hK
        have ej : j / K.size * K.size + j % K.size = j := by rw [Nat.mul_comm]; exact Nat.div_add_mod j K.size
        rw [← ej, flat_get len _ hle hi _ hj2] at hj
        have := (hf _ hi).2.2 _ u hj
        rw [Addr.add_lit, ej] at this
        exact this
    · intro a ha
      obtain ⟨i, hi, rfl⟩ := List.mem_map.1 ha
      exact (hf i (List.mem_range.1 hi)).2.1
    · simp only [Rows.uptoBulk, List.length_map, List.length_range]; omega

theorem cells_slice1 : Tryz.prog.cellsOf 29 = 1 := by kernel_rfl
theorem cells_bool : Tryz.prog.cellsOf 4 = 1 := by kernel_rfl
theorem cells_col : Tryz.prog.cellsOf 62 = 3 := by kernel_rfl
theorem cells_cols : Tryz.prog.cellsOf 26 = 1 := by kernel_rfl
theorem cells_tab : Tryz.prog.cellsOf 28 = 2 := by kernel_rfl
theorem cells_tabs : Tryz.prog.cellsOf 22 = 1 := by kernel_rfl
theorem cells_idx : Tryz.prog.cellsOf 46 = 3 := by kernel_rfl
theorem cells_idxs : Tryz.prog.cellsOf 23 = 1 := by kernel_rfl
theorem cells_cat : Tryz.prog.cellsOf 25 = 2 := by kernel_rfl
theorem und_col : ∃ f0 f1 f2 : Field, Tryz.prog.underlying 62 = some (.struct #[f0, f1, f2]) ∧ f0.offset = 0 ∧ f1.offset = 1 ∧ f2.offset = 2 ∧ f0.type = 9 ∧ f1.type = 3 ∧ f2.type = 4 :=
  ⟨_, _, _, Tryz.underlying62, rfl, rfl, rfl, rfl, rfl, rfl⟩
theorem und_idx : ∃ f0 f1 f2 : Field, Tryz.prog.underlying 46 = some (.struct #[f0, f1, f2]) ∧ f0.offset = 0 ∧ f1.offset = 1 ∧ f2.offset = 2 ∧ f0.type = 9 ∧ f1.type = 9 ∧ f2.type = 9 :=
  ⟨_, _, _, Tryz.underlying46, rfl, rfl, rfl, rfl, rfl, rfl⟩
theorem und_tab : ∃ f0 f1 : Field, Tryz.prog.underlying 28 = some (.struct #[f0, f1]) ∧ f0.offset = 0 ∧ f1.offset = 1 ∧ f0.type = 9 ∧ f1.type = 26 :=
  ⟨_, _, Tryz.underlying28, rfl, rfl, rfl, rfl⟩
theorem und_cat : ∃ f0 f1 : Field, Tryz.prog.underlying 25 = some (.struct #[f0, f1]) ∧ f0.offset = 0 ∧ f1.offset = 1 ∧ f0.type = 22 ∧ f1.type = 23 :=
  ⟨_, _, Tryz.underlying25, rfl, rfl, rfl, rfl⟩

theorem open_col {fuel : Nat} {cs : List Value} {x : DataW H × List MemPlace} (h : DataW.trod enc Tryz.prog w base spare held fuel 62 cs = some x) (F : Nat → Prop) : ∃ a : ColD, kCol.R F w a cs ∧ a.name.size ≤ maxLen := by
  obtain ⟨f0, f1, f2, hu, o0, o1, o2, t0, t1, t2⟩ := und_col
  obtain ⟨y0, y1, y2, n, rfl, hl, h0, h1, h2⟩ := trod_struct3 hu h
  rw [cells_col] at hl
  rw [o0, t0, cells_string] at h0
  rw [o1, t1, cells_int] at h1
  rw [o2, t2, cells_bool] at h2
  match cs, hl with
  | [c0, c1, c2], _ =>
    simp only [List.drop_zero, List.take_succ_cons, List.take_zero, List.drop_succ_cons] at h0 h1 h2
    obtain ⟨s, e0, _, hs⟩ := DataW.trod_string Tryz.underlying9 h0
    obtain ⟨b, e1, _, _⟩ := DataW.trod_int Tryz.underlying3 h1
    obtain ⟨m, e2, _⟩ := DataW.trod_bool Tryz.underlying4 h2
    simp only [List.cons.injEq, and_true] at e0 e1 e2
    subst e0 e1 e2
    exact ⟨⟨s, b, m⟩, rfl, hs⟩

theorem open_idx {fuel : Nat} {cs : List Value} {x : DataW H × List MemPlace} (h : DataW.trod enc Tryz.prog w base spare held fuel 46 cs = some x) (F : Nat → Prop) : ∃ a : IdxD, kIdx.R F w a cs ∧ a.name.size ≤ maxLen ∧ a.table.size ≤ maxLen ∧ a.col.size ≤ maxLen := by
  obtain ⟨f0, f1, f2, hu, o0, o1, o2, t0, t1, t2⟩ := und_idx
  obtain ⟨y0, y1, y2, n, rfl, hl, h0, h1, h2⟩ := trod_struct3 hu h
  rw [cells_idx] at hl
  rw [o0, t0, cells_string] at h0
  rw [o1, t1, cells_string] at h1
  rw [o2, t2, cells_string] at h2
  match cs, hl with
  | [c0, c1, c2], _ =>
    simp only [List.drop_zero, List.take_succ_cons, List.take_zero, List.drop_succ_cons] at h0 h1 h2
    obtain ⟨s, e0, _, hs⟩ := DataW.trod_string Tryz.underlying9 h0
    obtain ⟨b, e1, _, hb⟩ := DataW.trod_string Tryz.underlying9 h1
    obtain ⟨m, e2, _, hm⟩ := DataW.trod_string Tryz.underlying9 h2
    simp only [List.cons.injEq, and_true] at e0 e1 e2
    subst e0 e1 e2
    exact ⟨⟨s, b, m⟩, rfl, hs, hb, hm⟩

theorem open_tab {fuel : Nat} {cs : List Value} {x : DataW H × List MemPlace} (h : DataW.trod enc Tryz.prog w base spare held fuel 28 cs = some x) : ∃ a : TabD, kTab.R (fun k => k < w.heap.size) w a cs ∧ fitTab a := by
  obtain ⟨f0, f1, hu, o0, o1, t0, t1⟩ := und_tab
  obtain ⟨y0, y1, n, rfl, hl, h0, h1⟩ := trod_struct2 hu h
  rw [cells_tab] at hl
  rw [o0, t0, cells_string] at h0
  rw [o1, t1, cells_cols] at h1
  match cs, hl with
  | [c0, c1], _ =>
    simp only [List.drop_zero, List.take_succ_cons, List.take_zero, List.drop_succ_cons] at h0 h1
    obtain ⟨s, e0, _, hs⟩ := DataW.trod_string Tryz.underlying9 h0
    obtain ⟨l, hl, hq, _⟩ := open_list (⟨noW, 0, false⟩ : ColD) kCol 26 62 Tryz.underlying26 cells_col (by decide) _ (fun a => a.name.size ≤ maxLen) (fun fuel cs x _ hx => open_col hx _) (Nat.le_refl _) h1
    simp only [List.cons.injEq, and_true] at e0
    subst e0
    exact ⟨⟨s, l⟩, ⟨c1, rfl, hl⟩, hs, hq⟩

theorem open_cat {fuel : Nat} {cs : List Value} {x : DataW H × List MemPlace} (h : DataW.trod enc Tryz.prog w base spare held fuel 25 cs = some x) : ∃ c : CatD, IsCat (fun k => k < w.heap.size) w c (.agg cs.toArray) ∧ fitCat c := by
  obtain ⟨f0, f1, hu, o0, o1, t0, t1⟩ := und_cat
  obtain ⟨y0, y1, n, rfl, hl, h0, h1⟩ := trod_struct2 hu h
  rw [cells_cat] at hl
  rw [o0, t0, cells_tabs] at h0
  rw [o1, t1, cells_idxs] at h1
  match cs, hl with
  | [c0, c1], _ =>
    simp only [List.drop_zero, List.take_succ_cons, List.take_zero, List.drop_succ_cons] at h0 h1
    obtain ⟨l, hl, hq, _⟩ := open_list (⟨noW, []⟩ : TabD) kTab 22 28 Tryz.underlying22 cells_tab (by decide) _ fitTab (fun fuel cs x _ hx => open_tab hx) (Nat.le_refl _) h0
    obtain ⟨m, hm, hr, _⟩ := open_list (⟨noW, noW, noW⟩ : IdxD) kIdx 23 46 Tryz.underlying23 cells_idx (by decide) _ (fun a => a.name.size ≤ maxLen ∧ a.table.size ≤ maxLen ∧ a.col.size ≤ maxLen) (fun fuel cs x _ hx => open_idx hx _) (Nat.le_refl _) h1
    exact ⟨⟨l, m⟩, ⟨c0, c1, rfl, hl, hm⟩, hq, hr⟩

/-- Rows: their texts fit, and none is long. -/
def fitRow (B : Nat) (r : List V) : Prop := (∀ v ∈ r, v.s.size ≤ maxLen) ∧ r.length ≤ B
theorem open_row {B fuel : Nat} {cs : List Value} {x : DataW H × List MemPlace} (hB : Rows.uptoBulk x.1 ≤ B) (h : DataW.trod enc Tryz.prog w base spare held fuel 29 cs = some x) : ∃ r : List V, kVals.R (fun k => k < w.heap.size) w r cs ∧ fitRow B r := by
  obtain ⟨sv, rfl⟩ : ∃ sv, cs = [sv] := by
    rcases open_slice Tryz.underlying29 h with ⟨hcs, _⟩ | ⟨ad, len, cap, m, n5, D, Pl, hcs, _⟩
    · exact ⟨_, hcs⟩
    · exact ⟨_, hcs⟩
  obtain ⟨l, hl, hq, hn⟩ := open_list zero kVal 29 36 Tryz.underlying29 cells_value (by decide) _ (fun v => v.s.size ≤ maxLen) (fun fuel cs x _ hx => by
    obtain ⟨v, h1, h2, _⟩ := open_value hx
    exact ⟨v, h1, h2⟩) (Nat.le_refl _) h
  exact ⟨l, ⟨sv, rfl, hl⟩, hq, Nat.le_trans hn hB⟩
theorem open_rows {fuel : Nat} {sv : Value} {x : DataW H × List MemPlace} (h : DataW.trod enc Tryz.prog w base spare held fuel 63 [sv] = some x) : ∃ l : List (List V), IsL kVals (fun k => k < w.heap.size) w sv l ∧ (∀ r ∈ l, fitRow (Rows.uptoBulk x.1) r) ∧ l.length ≤ Rows.uptoBulk x.1 :=
  open_list ([] : List V) kVals 63 29 Tryz.underlying63 cells_slice1 (by decide) _ (fitRow (Rows.uptoBulk x.1)) (fun fuel cs y hy hx => open_row hy hx) (Nat.le_refl _) h

end
end Go.Proofs.YtkncamggdfmlnaaGreatDoor

namespace Go.Proofs
open Go.Shelf
def Tryz.laysM144_ren : Go.Shelf.Ren := ⟨fun | 144 => 31 | 143 => 55 | 219 => 77 | 217 => 96 | 225 => 97 | 224 => 98 | 267 => 99 | 266 => 116 | 314 => 117 | n => n, fun | 9 => 9 | 4 => 4 | 3 => 3 | 5 => 5 | 46 => 131 | 146 => 159 | 51 => 134 | n => n, fun | 1 => 0 | n => n⟩
theorem Tryz.laysM144 : Go.Proofs.LaysM.n144 Tryz.prog Tryz.laysM144_ren := {
  mixed := by kernel_rfl
  f143 := Tryz.func55.trans (congrArg some (by kernel_rfl))
  f144 := Tryz.func31.trans (congrArg some (by kernel_rfl))
  f217 := Tryz.func96.trans (congrArg some (by kernel_rfl))
  f219 := Tryz.func77.trans (congrArg some (by kernel_rfl))
  f224 := Tryz.func98.trans (congrArg some (by kernel_rfl))
  f225 := Tryz.func97.trans (congrArg some (by kernel_rfl))
  f266 := Tryz.func116.trans (congrArg some (by kernel_rfl))
  f267 := Tryz.func99.trans (congrArg some (by kernel_rfl))
  f314 := Tryz.func117.trans (congrArg some (by kernel_rfl))
  t3 := Tryz.underlying3
  a3 := Tryz.isAgg3
  z3 := Tryz.sizeOf3
  v3 := Tryz.zeroValue3
  t4 := Tryz.underlying4
  a4 := Tryz.isAgg4
  z4 := Tryz.sizeOf4
  v4 := Tryz.zeroValue4
  t5 := Tryz.underlying5
  a5 := Tryz.isAgg5
  z5 := Tryz.sizeOf5
  v5 := Tryz.zeroValue5
  t9 := Tryz.underlying9
  a9 := Tryz.isAgg9
  z9 := Tryz.sizeOf9
  v9 := Tryz.zeroValue9
  t46 := Tryz.underlying131
  a46 := Tryz.isAgg131
  z46 := Tryz.sizeOf131
  v46 := Tryz.zeroValue131
  t51 := Tryz.underlying134
  a51 := Tryz.isAgg134
  z51 := Tryz.sizeOf134
  v51 := Tryz.zeroValue134
  t146 := Tryz.underlying159
  a146 := Tryz.isAgg159
  z146 := Tryz.sizeOf159
  v146 := Tryz.zeroValue159
  g1 := by kernel_rfl
  i3 := by kernel_rfl
  i4 := by kernel_rfl
  i5 := by kernel_rfl
  i9 := by kernel_rfl
  i46 := by kernel_rfl
  i51 := by kernel_rfl
  i146 := by kernel_rfl
  m1 := by kernel_rfl
  s1_3 := fun w h => Go.Proofs.cell_of_shapedOpen_int (zero := #[.int .i64 0]) (t := 3) h (of_decide_eq_true (by kernel_rfl)) (by kernel_rfl) rfl (by kernel_rfl) (by kernel_rfl) Tryz.underlying3 }
end Go.Proofs


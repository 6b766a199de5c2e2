/-
  6 texts of this proof in one, in build order: YRise, YIndexB, YCat, YCat2, PKept, PApp.
-/
import Derived.Deep.RegionHeld3
import Derived.Laws.Append
import Derived.Test.YtkncamggdfmlnaaGreatJ06
import Derived.Test.YtkncamggdfmlnaaGreatJ07
import Derived.Test.YtkncamggdfmlnaaGreatJ11
import Derived.Test.YtkncamggdfmlnaaGreatJ12
import Derived.Test.YtkncamggdfmlnaaGreatJ13
namespace Go.Proofs.YtkncamggdfmlnaaGreat
open Go.RowKit Go.Maps

theorem anyI_step (p : Nat → Bool) (k n : Nat) (h : k < n) : anyI p k (n - k) = (p k || anyI p (k + 1) (n - (k + 1))) := by
  rw [show n - k = (n - (k + 1)) + 1 from by omega, anyI]
/-- Is a name not ahead of the next? -/
def stands (l : List Wd) (i : Nat) : Bool := match l[i]?, l[i + 1]? with
  | some a, some b => !Op.bytesLess a.toList b.toList
  | _, _ => false
/-- Do names rise? -/
def riseB (l : List Wd) : Bool := !anyI (stands l) 0 (l.length - 1)

set_option maxHeartbeats 400000 in
theorem tableName_any (nmv : Wd) (ao : Option Addr) (n c : Nat) (w : World) : Calls Tryz.prog 42 #[.agg #[.string nmv, .slice ao n c]] w fun e w' => e = .returned (.string nmv) ∧ Below w.heap.size w w' := by
  go_enter Tryz.func42, Tryz.ntmps42
  go_wp2
  go_ret
  exact ⟨rfl, bel1 _ _⟩
set_option maxHeartbeats 400000 in
theorem indexName_any (nmv t c : Wd) (w : World) : Calls Tryz.prog 48 #[.agg #[.string nmv, .string t, .string c]] w fun e w' => e = .returned (.string nmv) ∧ Below w.heap.size w w' := by
  go_enter Tryz.func48, Tryz.ntmps48
  go_wp2
  go_ret
  exact ⟨rfl, bel1 _ _⟩

theorem rise_keep_tab {W W' : World} {b off k : Nat} {a0 a1 a2 a3 : Value} (h : W.cell? ⟨b, off + k * 2, none⟩ = some a0 ∧ W.cell? ⟨b, off + k * 2 + 1, none⟩ = some a1 ∧ W.cell? ⟨b, off + (k + 1) * 2, none⟩ = some a2 ∧ W.cell? ⟨b, off + (k + 1) * 2 + 1, none⟩ = some a3) (hb : Below W.heap.size W W') (hl : b < W.heap.size) : W'.cell? ⟨b, off + k * 2, none⟩ = some a0 ∧ W'.cell? ⟨b, off + k * 2 + 1, none⟩ = some a1 ∧ W'.cell? ⟨b, off + (k + 1) * 2, none⟩ = some a2 ∧ W'.cell? ⟨b, off + (k + 1) * 2 + 1, none⟩ = some a3 := by
  have kc : ∀ o, W'.cell? ⟨b, o, none⟩ = W.cell? ⟨b, o, none⟩ := fun o => hb.cell (p := ⟨b, o, none⟩) hl
  obtain ⟨h0, h1, h2, h3⟩ := h
  exact ⟨(kc _).trans h0, (kc _).trans h1, (kc _).trans h2, (kc _).trans h3⟩

set_option maxRecDepth 100000 in
set_option maxHeartbeats 4000000 in
theorem rise_tab (l : List TabD) (sv : Value) (C : Nat) (w : World) (hl : IsL kTab (fun k => k < C) w sv l) (hC : C ≤ w.heap.size) :
    Calls Tryz.prog 41 #[sv, .func (.func 42) #[] #[]] w fun e w' => e = .returned (.bool (riseB (l.map TabD.name))) ∧ Below w.heap.size w w' := by
  obtain ⟨ao, c, rfl⟩ := hl.shape
  have hlm := (isL_len hl).2
  unfold maxLen at hlm
  have E : Hid (riseB (l.map TabD.name) = !anyI (stands (l.map TabD.name)) 0 (l.length - 1)) := by show _ = _; rw [riseB, List.length_map]
  generalize riseB (l.map TabD.name) = r at E
  go_enter Tryz.func41, Tryz.ntmps41
  go_wp2
  go_loopw [5] (fun i wr => ∃ k : Nat, k ≤ l.length - 1 ∧ i = .int .i64 ((k : Int) + 1) ∧ Below w.heap.size w wr ∧ Hid (anyI (stands (l.map TabD.name)) 0 (l.length - 1) = anyI (stands (l.map TabD.name)) k (l.length - 1 - k))) (fun i _ => l.length - (intOf i).toNat)
  case atStart => exact ⟨0, Nat.zero_le _, rfl, Below.refl _ _, rfl⟩
  case round =>
    obtain ⟨k, hk, rfl, hbel, HP⟩ := hrel
    by_cases hlt : k + 1 < l.length
    · obtain ⟨x, hx⟩ : ∃ x, l[k]? = some x := ⟨_, List.getElem?_eq_getElem (by omega)⟩
      obtain ⟨y, hy⟩ : ∃ y, l[k + 1]? = some y := ⟨_, List.getElem?_eq_getElem hlt⟩
      have hlr := hl.keep (keepsC (hbel.mono hC))
      obtain ⟨b, off, cs0, rfl, _, hb, hR0, hcell0⟩ := isL_get hlr hx
      obtain ⟨b', off', cs1, hbe, _, _, hR1, hcell1⟩ := isL_get hlr hy
      simp only [Option.some.injEq, Addr.mk.injEq, and_true] at hbe
      obtain ⟨rfl, rfl⟩ := hbe
      obtain ⟨sv0, rfl, hsv0⟩ := hR0
      obtain ⟨so0, sc0, rfl⟩ := hsv0.shape
      obtain ⟨sv1, rfl, hsv1⟩ := hR1
      obtain ⟨so1, sc1, rfl⟩ := hsv1.shape
      have d0 := hcell0 0 _ rfl
      have d1 := hcell0 1 _ rfl
      have e0 := hcell1 0 _ rfl
      have e1 := hcell1 1 _ rfl
      simp only [kTab, Nat.add_zero] at d0 d1 e0 e1
      have hst : Hid (anyI (stands (l.map TabD.name)) k (l.length - 1 - k) = (!Op.bytesLess x.name.toList y.name.toList || anyI (stands (l.map TabD.name)) (k + 1) (l.length - 1 - (k + 1)))) := by
        show _ = _
        rw [anyI_step _ k _ (by omega), stands, List.getElem?_map, List.getElem?_map, hx, hy]
        rfl
      have k0 : (0 : Int) ≤ (k : Int) + 1 := by omega
      have k1 : (k : Int) + 1 < (l.length : Int) := by omega
      have k2 : wrap64 ((k : Int) + 1 - 1) = (k : Int) := by unfold wrap64; omega
      have k3 : (0 : Int) ≤ (k : Int) := by omega
      have k4 : (k : Int) < (l.length : Int) := by omega
      have k5 : ((k : Int) + 1).toNat = k + 1 := by omega
      have k6 : IntKind.i64.wrap (k : Int) = (k : Int) := by rw [IntKind.wrap_i64]; omega
      have S0 := (show wr.cell? ⟨b, off + k * 2, none⟩ = some (.string x.name) ∧ wr.cell? ⟨b, off + k * 2 + 1, none⟩ = some (.slice so0 x.cols.length sc0) ∧ wr.cell? ⟨b, off + (k + 1) * 2, none⟩ = some (.string y.name) ∧ wr.cell? ⟨b, off + (k + 1) * 2 + 1, none⟩ = some (.slice so1 y.cols.length sc1) from ⟨d0, d1, e0, e1⟩)
      clear hcell0 hcell1 hx hy hlr
      cases hq : Op.bytesLess x.name.toList y.name.toList
      · have hst2 : Hid (anyI (stands (l.map TabD.name)) k (l.length - 1 - k) = true) := by show _ = _; rw [hst.out, hq]; rfl
        clear hst
        go_wp2_with fail
        go_region_held3 (fun w' => w'.cell? ⟨b, off + k * 2, none⟩ = some (.string x.name) ∧ w'.cell? ⟨b, off + k * 2 + 1, none⟩ = some (.slice so0 x.cols.length sc0) ∧ w'.cell? ⟨b, off + (k + 1) * 2, none⟩ = some (.string y.name) ∧ w'.cell? ⟨b, off + (k + 1) * 2 + 1, none⟩ = some (.slice so1 y.cols.length sc1)) (first | assumption | exact S0)
          (first | (go_at_call_of 42 (Value.agg #[.string x.name, .slice so0 x.cols.length sc0]); go_fit (tableName_any x.name so0 x.cols.length sc0 _); rintro r0 w2 ⟨rfl, hb0⟩; have S1 := rise_keep_tab (W := wr.drew) S0 hb0 hb; have z1 := Nat.lt_of_lt_of_le hb hb0.size) | (go_at_call_of 42 (Value.agg #[.string y.name, .slice so1 y.cols.length sc1]); go_fit (tableName_any y.name so1 y.cols.length sc1 _); rintro r1 w3 ⟨rfl, hb1⟩; have S2 := rise_keep_tab S1 hb1 z1; have z2 := Nat.lt_of_lt_of_le z1 hb1.size))
        go_wp2
        go_ret
        exact ⟨ret_bool (by rw [E.out, HP.out, hst2.out]; rfl), hbel.trans ((bthen (bthen (Below.refl _ _).drew hb0) hb1).mono hbel.size)⟩
      · have hst2 : Hid (anyI (stands (l.map TabD.name)) k (l.length - 1 - k) = anyI (stands (l.map TabD.name)) (k + 1) (l.length - 1 - (k + 1))) := by show _ = _; rw [hst.out, hq]; rfl
        clear hst
        go_wp2_with fail
        go_region_held3 (fun w' => w'.cell? ⟨b, off + k * 2, none⟩ = some (.string x.name) ∧ w'.cell? ⟨b, off + k * 2 + 1, none⟩ = some (.slice so0 x.cols.length sc0) ∧ w'.cell? ⟨b, off + (k + 1) * 2, none⟩ = some (.string y.name) ∧ w'.cell? ⟨b, off + (k + 1) * 2 + 1, none⟩ = some (.slice so1 y.cols.length sc1)) (first | assumption | exact S0)
          (first | (go_at_call_of 42 (Value.agg #[.string x.name, .slice so0 x.cols.length sc0]); go_fit (tableName_any x.name so0 x.cols.length sc0 _); rintro r0 w2 ⟨rfl, hb0⟩; have S1 := rise_keep_tab (W := wr.drew) S0 hb0 hb; have z1 := Nat.lt_of_lt_of_le hb hb0.size) | (go_at_call_of 42 (Value.agg #[.string y.name, .slice so1 y.cols.length sc1]); go_fit (tableName_any y.name so1 y.cols.length sc1 _); rintro r1 w3 ⟨rfl, hb1⟩; have S2 := rise_keep_tab S1 hb1 z1; have z2 := Nat.lt_of_lt_of_le z1 hb1.size))
        go_wp2
        go_roundw
        case rel => exact ⟨k + 1, by omega, by go_num, hbel.trans ((bthen (bthen (Below.refl _ _).drew hb0) hb1).mono hbel.size), HP.out.trans hst2.out⟩
        case measure => simp [intOf]; omega
    · have HE : Hid (anyI (stands (l.map TabD.name)) k (l.length - 1 - k) = false) := by show _ = _; rw [show l.length - 1 - k = 0 from by omega]; rfl
      have k1 : ¬ (k : Int) + 1 < (l.length : Int) := by omega
      go_wp2
      go_ret
      exact ⟨ret_bool (by rw [E.out, HP.out, HE.out]; rfl), hbel⟩

theorem rise_keep_idx {W W' : World} {b off k : Nat} {a0 a1 a2 a3 a4 a5 : Value} (h : W.cell? ⟨b, off + k * 3, none⟩ = some a0 ∧ W.cell? ⟨b, off + k * 3 + 1, none⟩ = some a1 ∧ W.cell? ⟨b, off + k * 3 + 2, none⟩ = some a2 ∧ W.cell? ⟨b, off + (k + 1) * 3, none⟩ = some a3 ∧ W.cell? ⟨b, off + (k + 1) * 3 + 1, none⟩ = some a4 ∧ W.cell? ⟨b, off + (k + 1) * 3 + 2, none⟩ = some a5) (hb : Below W.heap.size W W') (hl : b < W.heap.size) : W'.cell? ⟨b, off + k * 3, none⟩ = some a0 ∧ W'.cell? ⟨b, off + k * 3 + 1, none⟩ = some a1 ∧ W'.cell? ⟨b, off + k * 3 + 2, none⟩ = some a2 ∧ W'.cell? ⟨b, off + (k + 1) * 3, none⟩ = some a3 ∧ W'.cell? ⟨b, off + (k + 1) * 3 + 1, none⟩ = some a4 ∧ W'.cell? ⟨b, off + (k + 1) * 3 + 2, none⟩ = some a5 := by
  have kc : ∀ o, W'.cell? ⟨b, o, none⟩ = W.cell? ⟨b, o, none⟩ := fun o => hb.cell (p := ⟨b, o, none⟩) hl
  obtain ⟨h0, h1, h2, h3, h4, h5⟩ := h
  exact ⟨(kc _).trans h0, (kc _).trans h1, (kc _).trans h2, (kc _).trans h3, (kc _).trans h4, (kc _).trans h5⟩

set_option maxRecDepth 100000 in
set_option maxHeartbeats 4000000 in
theorem rise_idx (l : List IdxD) (sv : Value) (C : Nat) (w : World) (hl : IsL kIdx (fun k => k < C) w sv l) (hC : C ≤ w.heap.size) :
    Calls Tryz.prog 47 #[sv, .func (.func 48) #[] #[]] w fun e w' => e = .returned (.bool (riseB (l.map IdxD.name))) ∧ Below w.heap.size w w' := by
  obtain ⟨ao, c, rfl⟩ := hl.shape
  have hlm := (isL_len hl).2
  unfold maxLen at hlm
  have E : Hid (riseB (l.map IdxD.name) = !anyI (stands (l.map IdxD.name)) 0 (l.length - 1)) := by show _ = _; rw [riseB, List.length_map]
  generalize riseB (l.map IdxD.name) = r at E
  go_enter Tryz.func47, Tryz.ntmps47
  go_wp2
  go_loopw [5] (fun i wr => ∃ k : Nat, k ≤ l.length - 1 ∧ i = .int .i64 ((k : Int) + 1) ∧ Below w.heap.size w wr ∧ Hid (anyI (stands (l.map IdxD.name)) 0 (l.length - 1) = anyI (stands (l.map IdxD.name)) k (l.length - 1 - k))) (fun i _ => l.length - (intOf i).toNat)
  case atStart => exact ⟨0, Nat.zero_le _, rfl, Below.refl _ _, rfl⟩
  case round =>
    obtain ⟨k, hk, rfl, hbel, HP⟩ := hrel
    by_cases hlt : k + 1 < l.length
    · obtain ⟨x, hx⟩ : ∃ x, l[k]? = some x := ⟨_, List.getElem?_eq_getElem (by omega)⟩
      obtain ⟨y, hy⟩ : ∃ y, l[k + 1]? = some y := ⟨_, List.getElem?_eq_getElem hlt⟩
      have hlr := hl.keep (keepsC (hbel.mono hC))
      obtain ⟨b, off, cs0, rfl, _, hb, hR0, hcell0⟩ := isL_get hlr hx
      obtain ⟨b', off', cs1, hbe, _, _, hR1, hcell1⟩ := isL_get hlr hy
      simp only [Option.some.injEq, Addr.mk.injEq, and_true] at hbe
      obtain ⟨rfl, rfl⟩ := hbe
      obtain rfl := hR0
      obtain rfl := hR1
      have d0 := hcell0 0 _ rfl
      have d1 := hcell0 1 _ rfl
      have d2 := hcell0 2 _ rfl
      have e0 := hcell1 0 _ rfl
      have e1 := hcell1 1 _ rfl
      have e2 := hcell1 2 _ rfl
      simp only [kIdx, Nat.add_zero] at d0 d1 d2 e0 e1 e2
      have hst : Hid (anyI (stands (l.map IdxD.name)) k (l.length - 1 - k) = (!Op.bytesLess x.name.toList y.name.toList || anyI (stands (l.map IdxD.name)) (k + 1) (l.length - 1 - (k + 1)))) := by
        show _ = _
        rw [anyI_step _ k _ (by omega), stands, List.getElem?_map, List.getElem?_map, hx, hy]
        rfl
      have k0 : (0 : Int) ≤ (k : Int) + 1 := by omega
      have k1 : (k : Int) + 1 < (l.length : Int) := by omega
      have k2 : wrap64 ((k : Int) + 1 - 1) = (k : Int) := by unfold wrap64; omega
      have k3 : (0 : Int) ≤ (k : Int) := by omega
      have k4 : (k : Int) < (l.length : Int) := by omega
      have k5 : ((k : Int) + 1).toNat = k + 1 := by omega
      have k6 : IntKind.i64.wrap (k : Int) = (k : Int) := by rw [IntKind.wrap_i64]; omega
      have S0 := (show wr.cell? ⟨b, off + k * 3, none⟩ = some (.string x.name) ∧ wr.cell? ⟨b, off + k * 3 + 1, none⟩ = some (.string x.table) ∧ wr.cell? ⟨b, off + k * 3 + 2, none⟩ = some (.string x.col) ∧ wr.cell? ⟨b, off + (k + 1) * 3, none⟩ = some (.string y.name) ∧ wr.cell? ⟨b, off + (k + 1) * 3 + 1, none⟩ = some (.string y.table) ∧ wr.cell? ⟨b, off + (k + 1) * 3 + 2, none⟩ = some (.string y.col) from ⟨d0, d1, d2, e0, e1, e2⟩)
      clear hcell0 hcell1 hx hy hlr
      cases hq : Op.bytesLess x.name.toList y.name.toList
      · have hst2 : Hid (anyI (stands (l.map IdxD.name)) k (l.length - 1 - k) = true) := by show _ = _; rw [hst.out, hq]; rfl
        clear hst
        go_wp2_with fail
        go_region_held3 (fun w' => w'.cell? ⟨b, off + k * 3, none⟩ = some (.string x.name) ∧ w'.cell? ⟨b, off + k * 3 + 1, none⟩ = some (.string x.table) ∧ w'.cell? ⟨b, off + k * 3 + 2, none⟩ = some (.string x.col) ∧ w'.cell? ⟨b, off + (k + 1) * 3, none⟩ = some (.string y.name) ∧ w'.cell? ⟨b, off + (k + 1) * 3 + 1, none⟩ = some (.string y.table) ∧ w'.cell? ⟨b, off + (k + 1) * 3 + 2, none⟩ = some (.string y.col)) (first | assumption | exact S0)
          (first | (go_at_call_of 48 (Value.agg #[.string x.name, .string x.table, .string x.col]); go_fit (indexName_any x.name x.table x.col _); rintro r0 w2 ⟨rfl, hb0⟩; have S1 := rise_keep_idx (W := wr.drew) S0 hb0 hb; have z1 := Nat.lt_of_lt_of_le hb hb0.size) | (go_at_call_of 48 (Value.agg #[.string y.name, .string y.table, .string y.col]); go_fit (indexName_any y.name y.table y.col _); rintro r1 w3 ⟨rfl, hb1⟩; have S2 := rise_keep_idx S1 hb1 z1; have z2 := Nat.lt_of_lt_of_le z1 hb1.size))
        go_wp2
        go_ret
        exact ⟨ret_bool (by rw [E.out, HP.out, hst2.out]; rfl), hbel.trans ((bthen (bthen (Below.refl _ _).drew hb0) hb1).mono hbel.size)⟩
      · have hst2 : Hid (anyI (stands (l.map IdxD.name)) k (l.length - 1 - k) = anyI (stands (l.map IdxD.name)) (k + 1) (l.length - 1 - (k + 1))) := by show _ = _; rw [hst.out, hq]; rfl
        clear hst
        go_wp2_with fail
        go_region_held3 (fun w' => w'.cell? ⟨b, off + k * 3, none⟩ = some (.string x.name) ∧ w'.cell? ⟨b, off + k * 3 + 1, none⟩ = some (.string x.table) ∧ w'.cell? ⟨b, off + k * 3 + 2, none⟩ = some (.string x.col) ∧ w'.cell? ⟨b, off + (k + 1) * 3, none⟩ = some (.string y.name) ∧ w'.cell? ⟨b, off + (k + 1) * 3 + 1, none⟩ = some (.string y.table) ∧ w'.cell? ⟨b, off + (k + 1) * 3 + 2, none⟩ = some (.string y.col)) (first | assumption | exact S0)
          (first | (go_at_call_of 48 (Value.agg #[.string x.name, .string x.table, .string x.col]); go_fit (indexName_any x.name x.table x.col _); rintro r0 w2 ⟨rfl, hb0⟩; have S1 := rise_keep_idx (W := wr.drew) S0 hb0 hb; have z1 := Nat.lt_of_lt_of_le hb hb0.size) | (go_at_call_of 48 (Value.agg #[.string y.name, .string y.table, .string y.col]); go_fit (indexName_any y.name y.table y.col _); rintro r1 w3 ⟨rfl, hb1⟩; have S2 := rise_keep_idx S1 hb1 z1; have z2 := Nat.lt_of_lt_of_le z1 hb1.size))
        go_wp2
        go_roundw
        case rel => exact ⟨k + 1, by omega, by go_num, hbel.trans ((bthen (bthen (Below.refl _ _).drew hb0) hb1).mono hbel.size), HP.out.trans hst2.out⟩
        case measure => simp [intOf]; omega
    · have HE : Hid (anyI (stands (l.map IdxD.name)) k (l.length - 1 - k) = false) := by show _ = _; rw [show l.length - 1 - k = 0 from by omega]; rfl
      have k1 : ¬ (k : Int) + 1 < (l.length : Int) := by omega
      go_wp2
      go_ret
      exact ⟨ret_bool (by rw [E.out, HP.out, HE.out]; rfl), hbel⟩

end Go.Proofs.YtkncamggdfmlnaaGreat

namespace Go.Proofs.YtkncamggdfmlnaaGreat
open Go.RowKit

set_option maxRecDepth 100000 in
set_option maxHeartbeats 2000000 in
theorem index_goodTables (l : List (TabD)) (F : Nat → Prop) (ao : Option Addr) (n c : Nat) (p : Nat → Bool) (St : Nat → World → Prop) (En : World → Prop) (w : World) (hEn : ∀ i W, St i W → En W) (hIs : ∀ i W, St i W → IsL kTab F W (.slice ao n c) l)
    (hcall : ∀ i x cs W, l[i]? = some x → St i W → kTab.R F W x cs → Calls Tryz.prog 38 #[.agg cs.toArray] W fun e W' => e = .returned (.bool (p i)) ∧ En W' ∧ (p i = false → St (i + 1) W')) (h0 : St 0 w) :
    Calls Tryz.prog 14 #[.slice ao n c, .func (.func 38) #[] #[]] w fun e W' => e = .returned (.int .i64 (firstI p 0 l.length)) ∧ En W' := by
  obtain ⟨hn, hlm⟩ := isL_len (hIs 0 w h0)
  subst hn
  unfold maxLen at hlm
  go_enter Tryz.func14, Tryz.ntmps14
  go_wp2
  go_loopw [8] (fun i wr => ∃ k : Nat, k ≤ l.length ∧ i = .int .i64 k ∧ St k wr ∧ Hid (firstI p 0 l.length = firstI p k (l.length - k))) (fun i _ => l.length - (intOf i).toNat)
  case atStart => exact ⟨0, Nat.zero_le _, rfl, h0, rfl⟩
  case round =>
    obtain ⟨k, hk, rfl, hSt, HP⟩ := hrel
    by_cases hlt : k < l.length
    · obtain ⟨x, hx⟩ : ∃ x, l[k]? = some x := ⟨_, List.getElem?_eq_getElem hlt⟩
      obtain ⟨b, off, cs, rfl, _, hb, hR, hcell⟩ := isL_get (hIs k wr hSt) hx
      have HC := hcall k x cs wr hx hSt hR
      obtain ⟨sv, rfl, hsv⟩ := hR
      obtain ⟨ao1, c1, rfl⟩ := hsv.shape
      have d0 := hcell 0 _ rfl
      have d1 := hcell 1 _ rfl
      simp only [kTab, Nat.add_zero] at d0 d1
      have k0 : (0 : Int) ≤ (k : Int) := by omega
      have k1 : (k : Int) < (l.length : Int) := by omega
      have hst : Hid (firstI p k (l.length - k) = if p k then (k : Int) else firstI p (k + 1) (l.length - (k + 1))) := firstI_step p k l.length hlt
      clear hcell hx
      generalize hq : p k = q at HC hst
      clear hq
      cases q
      · go_wp2_with (go_at_call 38; go_must (go_fit HC; rintro e W' ⟨rfl, _, hS1⟩))
        go_roundw
        case rel => exact ⟨k + 1, by omega, by go_num, hS1 (by first | rfl | trivial), by rw [HP.out, hst.out]; rfl⟩
        case measure => simp [intOf]; omega
      · go_wp2_with (go_at_call 38; go_must (go_fit HC; rintro e W' ⟨rfl, hS1, _⟩))
        go_ret
        exact ⟨ret_int (by rw [HP.out, hst.out]; rfl), hS1⟩
    · have HE : Hid (firstI p k (l.length - k) = -1) := by show _ = _; rw [show l.length - k = 0 from by omega, firstI]
      go_wp2
      go_ret
      exact ⟨ret_int (by rw [HP.out, HE.out]), hEn k _ hSt⟩

set_option maxHeartbeats 2000000 in
theorem contains_goodTables (l : List (TabD)) (F : Nat → Prop) (ao : Option Addr) (n c : Nat) (p : Nat → Bool) (St : Nat → World → Prop) (En : World → Prop) (w : World) (hEn : ∀ i W, St i W → En W) (hIs : ∀ i W, St i W → IsL kTab F W (.slice ao n c) l)
    (hcall : ∀ i x cs W, l[i]? = some x → St i W → kTab.R F W x cs → Calls Tryz.prog 38 #[.agg cs.toArray] W fun e W' => e = .returned (.bool (p i)) ∧ En W' ∧ (p i = false → St (i + 1) W')) (h0 : St 0 w) :
    Calls Tryz.prog 40 #[.slice ao n c, .func (.func 38) #[] #[]] w fun e W' => e = .returned (.bool (anyI p 0 l.length)) ∧ En W' := by
  have HI := index_goodTables l F ao n c p St En w hEn hIs hcall h0
  have HA : Hid (anyI p 0 l.length = decide (0 ≤ firstI p 0 l.length)) := anyI_eq p l.length 0
  generalize anyI p 0 l.length = r at HA
  generalize firstI p 0 l.length = q at HI HA
  clear hIs hcall h0 hEn
  go_enter Tryz.func40, Tryz.ntmps40
  go_wp2_with (go_at_call 14; go_must (go_fit HI; rintro e W' ⟨rfl, hS1⟩))
  go_ret
  exact ⟨ret_bool (by rw [HA.out]), hS1⟩

set_option maxRecDepth 100000 in
set_option maxHeartbeats 2000000 in
theorem index_goodIndexes (l : List (IdxD)) (F : Nat → Prop) (ao : Option Addr) (n c : Nat) (f0 : Value) (p : Nat → Bool) (St : Nat → World → Prop) (En : World → Prop) (w : World) (hEn : ∀ i W, St i W → En W) (hIs : ∀ i W, St i W → IsL kIdx F W (.slice ao n c) l)
    (hcall : ∀ i x cs W, l[i]? = some x → St i W → kIdx.R F W x cs → Calls Tryz.prog 43 #[.agg cs.toArray, f0] W fun e W' => e = .returned (.bool (p i)) ∧ En W' ∧ (p i = false → St (i + 1) W')) (h0 : St 0 w) :
    Calls Tryz.prog 73 #[.slice ao n c, .func (.func 43) #[] #[f0]] w fun e W' => e = .returned (.int .i64 (firstI p 0 l.length)) ∧ En W' := by
  obtain ⟨hn, hlm⟩ := isL_len (hIs 0 w h0)
  subst hn
  unfold maxLen at hlm
  go_enter Tryz.func73, Tryz.ntmps73
  go_wp2
  go_loopw [8] (fun i wr => ∃ k : Nat, k ≤ l.length ∧ i = .int .i64 k ∧ St k wr ∧ Hid (firstI p 0 l.length = firstI p k (l.length - k))) (fun i _ => l.length - (intOf i).toNat)
  case atStart => exact ⟨0, Nat.zero_le _, rfl, h0, rfl⟩
  case round =>
    obtain ⟨k, hk, rfl, hSt, HP⟩ := hrel
    by_cases hlt : k < l.length
    · obtain ⟨x, hx⟩ : ∃ x, l[k]? = some x := ⟨_, List.getElem?_eq_getElem hlt⟩
      obtain ⟨b, off, cs, rfl, _, hb, hR, hcell⟩ := isL_get (hIs k wr hSt) hx
      have HC := hcall k x cs wr hx hSt hR
      obtain rfl := hR
      have d0 := hcell 0 _ rfl
      have d1 := hcell 1 _ rfl
      have d2 := hcell 2 _ rfl
      simp only [kIdx, Nat.add_zero] at d0 d1 d2
      have k0 : (0 : Int) ≤ (k : Int) := by omega
      have k1 : (k : Int) < (l.length : Int) := by omega
      have hst : Hid (firstI p k (l.length - k) = if p k then (k : Int) else firstI p (k + 1) (l.length - (k + 1))) := firstI_step p k l.length hlt
      clear hcell hx
      generalize hq : p k = q at HC hst
      clear hq
      cases q
      · go_wp2_with (go_at_call 43; go_must (go_fit HC; rintro e W' ⟨rfl, _, hS1⟩))
        go_roundw
        case rel => exact ⟨k + 1, by omega, by go_num, hS1 (by first | rfl | trivial), by rw [HP.out, hst.out]; rfl⟩
        case measure => simp [intOf]; omega
      · go_wp2_with (go_at_call 43; go_must (go_fit HC; rintro e W' ⟨rfl, hS1, _⟩))
        go_ret
        exact ⟨ret_int (by rw [HP.out, hst.out]; rfl), hS1⟩
    · have HE : Hid (firstI p k (l.length - k) = -1) := by show _ = _; rw [show l.length - k = 0 from by omega, firstI]
      go_wp2
      go_ret
      exact ⟨ret_int (by rw [HP.out, HE.out]), hEn k _ hSt⟩

set_option maxHeartbeats 2000000 in
theorem contains_goodIndexes (l : List (IdxD)) (F : Nat → Prop) (ao : Option Addr) (n c : Nat) (f0 : Value) (p : Nat → Bool) (St : Nat → World → Prop) (En : World → Prop) (w : World) (hEn : ∀ i W, St i W → En W) (hIs : ∀ i W, St i W → IsL kIdx F W (.slice ao n c) l)
    (hcall : ∀ i x cs W, l[i]? = some x → St i W → kIdx.R F W x cs → Calls Tryz.prog 43 #[.agg cs.toArray, f0] W fun e W' => e = .returned (.bool (p i)) ∧ En W' ∧ (p i = false → St (i + 1) W')) (h0 : St 0 w) :
    Calls Tryz.prog 46 #[.slice ao n c, .func (.func 43) #[] #[f0]] w fun e W' => e = .returned (.bool (anyI p 0 l.length)) ∧ En W' := by
  have HI := index_goodIndexes l F ao n c f0 p St En w hEn hIs hcall h0
  have HA : Hid (anyI p 0 l.length = decide (0 ≤ firstI p 0 l.length)) := anyI_eq p l.length 0
  generalize anyI p 0 l.length = r at HA
  generalize firstI p 0 l.length = q at HI HA
  clear hIs hcall h0 hEn
  go_enter Tryz.func46, Tryz.ntmps46
  go_wp2_with (go_at_call 73; go_must (go_fit HI; rintro e W' ⟨rfl, hS1⟩))
  go_ret
  exact ⟨ret_bool (by rw [HA.out]), hS1⟩

end Go.Proofs.YtkncamggdfmlnaaGreat

namespace Go.Proofs.YtkncamggdfmlnaaGreat
open Go.RowKit Go.Maps

def firstMust : List ColD → Bool
  | x :: _ => x.must
  | [] => false
/-- P4.1: a table. -/
def tabB (t : TabD) : Bool := nm t.name && decide (1 ≤ t.cols.length) && decide (t.cols.length ≤ 4) && firstMust t.cols && colsB t.cols
def fitTab (t : TabD) : Prop := t.name.size ≤ maxLen ∧ fitCols t.cols

set_option maxRecDepth 100000 in
set_option maxHeartbeats 4000000 in
theorem goodTable_any (t : TabD) (sv : Value) (C : Nat) (w : World) (hl : IsL kCol (fun k => k < C) w sv t.cols) (hC : C ≤ w.heap.size) (hf : fitTab t) :
    Calls Tryz.prog 39 #[.agg #[.string t.name, sv]] w fun e w' => e = .returned (.bool (tabB t)) ∧ Below w.heap.size w w' := by
  obtain ⟨name, cols⟩ := t
  simp only at hl ⊢
  obtain ⟨ao, c, rfl⟩ := hl.shape
  have hN := fun w => named_any name w hf.1
  have hbx := bel1 w (.cells #[.string name, .slice ao cols.length c] 29)
  have hG := fun (h : cols.length ≤ 16777215) => goodCols_any cols (.slice ao cols.length c) C (w.alloc (.cells #[.string name, .slice ao cols.length c] 29)) (hl.keep (keepsC (hbx.mono hC))) (Nat.le_trans hC hbx.size) hf.2 h
  have E : Hid (tabB ⟨name, cols⟩ = (nm name && decide (1 ≤ cols.length) && decide (cols.length ≤ 4) && firstMust cols && colsB cols)) := rfl
  generalize tabB ⟨name, cols⟩ = r at E
  generalize nm name = b at hN E
  generalize colsB cols = g at hG E
  have hlm := (isL_len hl).2
  cases b
  · clear hl hG hf
    go_enter Tryz.func39, Tryz.ntmps39
    go_wp2_with (go_at_call 44; go_fit (hN _); rintro e w1 ⟨rfl, rfl⟩)
    go_ret
    exact ⟨ret_bool (by rw [E.out]; rfl), hbx⟩
  by_cases h1 : 1 ≤ cols.length
  rotate_left
  · have q1 : ¬ (1 : Int) ≤ (cols.length : Int) := by omega
    have E2 : Hid (r = false) := by show _ = _; rw [E.out]; simp [h1]
    clear hl hG hf E
    go_enter Tryz.func39, Tryz.ntmps39
    go_wp2_with (go_at_call 44; go_fit (hN _); rintro e w1 ⟨rfl, rfl⟩)
    go_ret
    exact ⟨ret_bool (by rw [E2.out]), hbx⟩
  by_cases h4 : cols.length ≤ 4
  rotate_left
  · have q1 : (1 : Int) ≤ (cols.length : Int) := by omega
    have q2 : ¬ (cols.length : Int) ≤ 4 := by omega
    have E2 : Hid (r = false) := by show _ = _; rw [E.out]; simp [h4]
    clear hl hG hf E
    go_enter Tryz.func39, Tryz.ntmps39
    go_wp2_with (go_at_call 44; go_fit (hN _); rintro e w1 ⟨rfl, rfl⟩)
    go_ret
    exact ⟨ret_bool (by rw [E2.out]), hbx⟩
  obtain ⟨x, hx⟩ : ∃ x, cols[0]? = some x := ⟨_, List.getElem?_eq_getElem (by omega)⟩
  obtain ⟨b, off, cs, rfl, _, hb, hR, hcell⟩ := isL_get (hl.keep (keepsC (hbx.mono hC))) hx
  obtain rfl := hR
  have d2 := hcell 2 _ rfl
  simp only [kCol, Nat.zero_mul, Nat.add_zero] at d2
  have hm : firstMust cols = x.must := by
    match cols, hx with
    | y :: r, hx => simp at hx; subst hx; rfl
  have q1 : (1 : Int) ≤ (cols.length : Int) := by omega
  have q2 : (cols.length : Int) ≤ 4 := by omega
  have q3 : (0 : Int) < (cols.length : Int) := by omega
  have HG := hG (by omega)
  have E2 : Hid (r = (x.must && g)) := by show _ = _; rw [E.out, hm]; simp [h1, h4]
  clear hl hG hf E hm hx hcell
  generalize x.must = m at d2 E2
  cases m
  · go_enter Tryz.func39, Tryz.ntmps39
    go_wp2_with (go_at_call 44; go_fit (hN _); rintro e w1 ⟨rfl, rfl⟩)
    go_ret
    exact ⟨ret_bool (by rw [E2.out]; rfl), hbx⟩
  · go_enter Tryz.func39, Tryz.ntmps39
    go_wp2_with (first | (go_at_call 44; go_fit (hN _); rintro e w1 ⟨rfl, rfl⟩) | (go_at_call 68; go_fit HG; rintro e w2 ⟨rfl, hb2⟩))
    go_ret
    exact ⟨ret_bool (by rw [E2.out]; simp), bthen hbx hb2⟩

set_option maxHeartbeats 1000000 in
theorem goodTables1_any (t : TabD) (sv : Value) (C : Nat) (w : World) (hl : IsL kCol (fun k => k < C) w sv t.cols) (hC : C ≤ w.heap.size) (hf : fitTab t) :
    Calls Tryz.prog 38 #[.agg #[.string t.name, sv]] w fun e w' => e = .returned (.bool (!tabB t)) ∧ Below w.heap.size w w' := by
  obtain ⟨ao, c, rfl⟩ := hl.shape
  have hbx := bel1 w (.cells #[.string t.name, .slice ao t.cols.length c] 29)
  have HG := goodTable_any t (.slice ao t.cols.length c) C _ (hl.keep (keepsC (hbx.mono hC))) (Nat.le_trans hC hbx.size) hf
  generalize tabB t = r at HG
  clear hl hf
  go_enter Tryz.func38, Tryz.ntmps38
  go_wp2_with (go_at_call 39; go_fit HG; rintro e w2 ⟨rfl, hb2⟩)
  go_ret
  exact ⟨rfl, bthen hbx hb2⟩

/-- P4.3: tables. -/
def tabsB (T : List TabD) : Bool := !anyI (atI T fun t => !tabB t) 0 T.length && riseB (T.map TabD.name)
def fitTabs (T : List TabD) : Prop := ∀ t ∈ T, fitTab t

set_option maxRecDepth 100000 in
set_option maxHeartbeats 2000000 in
theorem goodTables_any (T : List TabD) (sv : Value) (C : Nat) (w : World) (hl : IsL kTab (fun k => k < C) w sv T) (hC : C ≤ w.heap.size) (hf : fitTabs T) :
    Calls Tryz.prog 16 #[sv] w fun e w' => e = .returned (.bool (tabsB T)) ∧ Below w.heap.size w w' := by
  obtain ⟨ao, c, rfl⟩ := hl.shape
  have HC := contains_goodTables T (fun k => k < C) ao T.length c (atI T fun t => !tabB t) (fun _ W => Below w.heap.size w W) (fun W => Below w.heap.size w W) w (fun i W h => h) (fun i W h => hl.keep (keepsC (h.mono hC)))
    (by
      rintro i x cs W hx h1 ⟨sv, rfl, hsv⟩
      refine (goodTables1_any x sv C W hsv (Nat.le_trans hC h1.size) (hf x (List.mem_of_getElem? hx))).mono ?_
      rintro e W' ⟨rfl, hb⟩
      exact ⟨by rw [atI_get hx], h1.trans (hb.mono h1.size), fun _ => h1.trans (hb.mono h1.size)⟩)
    (Below.refl _ _)
  have HR := fun w' (h : Below w.heap.size w w') => rise_tab T (.slice ao T.length c) C w' (hl.keep (keepsC (h.mono hC))) (Nat.le_trans hC h.size)
  have E : Hid (tabsB T = (!anyI (atI T fun t => !tabB t) 0 T.length && riseB (T.map TabD.name))) := rfl
  generalize tabsB T = r at E
  generalize anyI (atI T fun t => !tabB t) 0 T.length = q at E HC
  generalize riseB (T.map TabD.name) = r2 at E HR
  clear hl hf
  cases q
  · go_enter Tryz.func16, Tryz.ntmps16
    go_wp2_with (first | (go_at_call 40; go_fit HC; rintro e w1 ⟨rfl, hb1⟩) | (go_at_call 41; go_fit (HR _ hb1); rintro e w2 ⟨rfl, hb2⟩))
    go_ret
    exact ⟨ret_bool (by rw [E.out]; rfl), bthen hb1 hb2⟩
  · go_enter Tryz.func16, Tryz.ntmps16
    go_wp2_with (first | (go_at_call 40; go_fit HC; rintro e w1 ⟨rfl, hb1⟩))
    go_ret
    exact ⟨ret_bool (by rw [E.out]; rfl), hb1⟩

end Go.Proofs.YtkncamggdfmlnaaGreat

namespace Go.Proofs.YtkncamggdfmlnaaGreat
open Go.RowKit Go.Maps

theorem findTable_some {T : List TabD} {t : TabD} {s : Wd} (h : tabOf T s = some t) (tv iv : Value) (hiv : IsSl iv) (C : Nat) (w : World) (hl : IsL kTab (fun k => k < C) w tv T) (hC : C ≤ w.heap.size) :
    Calls Tryz.prog 4 #[.agg #[tv, iv], .string s] w fun e w' => ∃ ao n c, e = .returned (.tuple #[.agg #[.string t.name, .slice ao n c], .bool true]) ∧ IsL kCol (fun k => k < C) w' (.slice ao n c) t.cols ∧ Below w.heap.size w w' := by
  refine (findTable_any T tv iv hiv s C w hl hC).mono ?_
  rintro e w' ⟨nmv, ao, n, c, there, rfl, hm, hb⟩
  rw [h] at hm
  obtain ⟨rfl, rfl, hL⟩ := hm
  exact ⟨ao, n, c, rfl, hL, hb⟩
theorem findTable_none {T : List TabD} {s : Wd} (h : tabOf T s = none) (tv iv : Value) (hiv : IsSl iv) (C : Nat) (w : World) (hl : IsL kTab (fun k => k < C) w tv T) (hC : C ≤ w.heap.size) :
    Calls Tryz.prog 4 #[.agg #[tv, iv], .string s] w fun e w' => e = .returned (.tuple #[.agg #[.string noW, .slice none 0 0], .bool false]) ∧ Below w.heap.size w w' := by
  refine (findTable_any T tv iv hiv s C w hl hC).mono ?_
  rintro e w' ⟨nmv, ao, n, c, there, rfl, hm, hb⟩
  rw [h] at hm
  obtain ⟨rfl, rfl, rfl, rfl, rfl⟩ := hm
  exact ⟨rfl, hb⟩

/-- Is there such a table, with such a column? -/
def hasB (T : List TabD) (tb cl : Wd) : Bool := match tabOf T tb with
  | some t => decide (0 ≤ colAt t.cols cl)
  | none => false

set_option maxRecDepth 100000 in
set_option maxHeartbeats 2000000 in
theorem hasCol_any (T : List TabD) (tv iv : Value) (hiv : IsSl iv) (tb cl : Wd) (C : Nat) (w : World) (hl : IsL kTab (fun k => k < C) w tv T) (hC : C ≤ w.heap.size) :
    Calls Tryz.prog 45 #[.agg #[tv, iv], .string tb, .string cl] w fun e w' => e = .returned (.bool (hasB T tb cl)) ∧ Below w.heap.size w w' := by
  obtain ⟨ao, c, rfl⟩ := hl.shape
  have hbx := bel1 w (.cells #[.slice ao T.length c, iv] 25)
  have hl1 := hl.keep (keepsC (hbx.mono hC))
  have hC1 := Nat.le_trans hC hbx.size
  cases h : tabOf T tb with
  | none =>
    have HF := findTable_none h (.slice ao T.length c) iv hiv C _ hl1 hC1
    have E : Hid (hasB T tb cl = false) := by show _ = _; simp [hasB, h]
    generalize hasB T tb cl = r at E
    obtain ⟨io, il, ic, rfl⟩ := hiv
    clear hl hl1 h
    go_enter Tryz.func45, Tryz.ntmps45
    go_wp2_with (go_at_call 4; go_fit HF; rintro e w1 ⟨rfl, hb1⟩)
    go_ret
    exact ⟨ret_bool (by rw [E.out]), (bthen hbx hb1).alloc (Nat.le_trans hbx.size hb1.size) _⟩
  | some t =>
    have HF := findTable_some h (.slice ao T.length c) iv hiv C _ hl1 hC1
    have E : Hid (hasB T tb cl = decide (0 ≤ colAt t.cols cl)) := by show _ = _; simp [hasB, h]
    generalize hasB T tb cl = r at E
    have HCo := fun w' sv (h : IsL kCol (fun k => k < C) w' sv t.cols) (hh : C ≤ w'.heap.size) => findCol_any t.cols t.name sv cl C w' h hh
    generalize colAt t.cols cl = q at E HCo
    obtain ⟨io, il, ic, rfl⟩ := hiv
    clear hl hl1 h
    go_enter Tryz.func45, Tryz.ntmps45
    go_wp2_with (first | (go_at_call 4; go_fit HF; rintro e w1 ⟨so, sn, sc, rfl, hL, hb1⟩; have hb2 := bel1 w1 (.cells #[.string t.name, .slice so sn sc] 29); have hC2 := Nat.le_trans hC1 hb1.size) | (go_at_call 72; go_fit (HCo _ _ (hL.keep (keepsC (hb2.mono hC2))) (Nat.le_trans hC2 hb2.size)); rintro e w2 ⟨rfl, hb3⟩))
    go_ret
    exact ⟨ret_bool (by rw [E.out]), bthen (bthen hbx hb1) (bthen hb2 hb3)⟩

def idxBad (T : List TabD) (x : IdxD) : Bool := !nm x.name || !hasB T x.table x.col

set_option maxRecDepth 100000 in
set_option maxHeartbeats 2000000 in
theorem goodIndexes1_any (T : List TabD) (x : IdxD) (tv iv : Value) (hiv : IsSl iv) (pb C : Nat) (w : World) (hl : IsL kTab (fun k => k < C) w tv T) (hC : C ≤ w.heap.size) (hs : x.name.size ≤ maxLen) (p0 : w.cell? ⟨pb, 0, none⟩ = some tv) (p1 : w.cell? ⟨pb, 1, none⟩ = some iv) (hpb : pb < w.heap.size) :
    Calls Tryz.prog 43 #[.agg #[.string x.name, .string x.table, .string x.col], .pointer (some ⟨pb, 0, none⟩)] w fun e w' => e = .returned (.bool (idxBad T x)) ∧ Below w.heap.size w w' := by
  obtain ⟨name, tb, cl⟩ := x
  obtain ⟨ao, c, rfl⟩ := hl.shape
  simp only at hs ⊢
  have hbx := bel1 w (.cells #[.string name, .string tb, .string cl] 87)
  have hN := fun w => named_any name w hs
  have HH := hasCol_any T (.slice ao T.length c) iv hiv tb cl C _ (hl.keep (keepsC (hbx.mono hC))) (Nat.le_trans hC hbx.size)
  have E : Hid (idxBad T ⟨name, tb, cl⟩ = (!nm name || !hasB T tb cl)) := rfl
  generalize idxBad T ⟨name, tb, cl⟩ = r at E
  generalize nm name = b at hN E
  generalize hasB T tb cl = h at HH E
  obtain ⟨io, il, ic, rfl⟩ := hiv
  have p0' := (hbx.cell (p := ⟨pb, 0, none⟩) hpb).trans p0
  have p1' := (hbx.cell (p := ⟨pb, 1, none⟩) hpb).trans p1
  clear hl hs
  cases b
  · go_enter Tryz.func43, Tryz.ntmps43
    go_wp2_with (go_at_call 44; go_fit (hN _); rintro e w1 ⟨rfl, rfl⟩)
    go_ret
    exact ⟨ret_bool (by rw [E.out]; rfl), hbx⟩
  · go_enter Tryz.func43, Tryz.ntmps43
    go_wp2_with (first | (go_at_call 44; go_fit (hN _); rintro e w1 ⟨rfl, rfl⟩) | (go_at_call 45; go_fit HH; rintro e w2 ⟨rfl, hb2⟩))
    go_ret
    exact ⟨ret_bool (by rw [E.out]; rfl), bthen hbx hb2⟩

/-- P4.3: indexes. -/
def idxsB (T : List TabD) (I : List IdxD) : Bool := !anyI (atI I (idxBad T)) 0 I.length && riseB (I.map IdxD.name)
def fitIdxs (I : List IdxD) : Prop := ∀ x ∈ I, x.name.size ≤ maxLen ∧ x.table.size ≤ maxLen ∧ x.col.size ≤ maxLen

set_option maxRecDepth 100000 in
set_option maxHeartbeats 2000000 in
theorem goodIndexes_any (T : List TabD) (I : List IdxD) (tv iv : Value) (C : Nat) (w : World) (hl : IsL kTab (fun k => k < C) w tv T) (hi : IsL kIdx (fun k => k < C) w iv I) (hC : C ≤ w.heap.size) (hf : fitIdxs I) :
    Calls Tryz.prog 17 #[.agg #[tv, iv]] w fun e w' => e = .returned (.bool (idxsB T I)) ∧ Below w.heap.size w w' := by
  obtain ⟨to', tc, rfl⟩ := hl.shape
  obtain ⟨ao, c, rfl⟩ := hi.shape
  have hbx := bel1 w (.cells #[.slice to' T.length tc, .slice ao I.length c] 25)
  have hbl : (w.alloc (.cells #[.slice to' T.length tc, .slice ao I.length c] 25)).heap[w.heap.size]? = some (.cells #[.slice to' T.length tc, .slice ao I.length c] 25) := block_alloc_at _ _
  have HC := contains_goodIndexes I (fun k => k < C) ao I.length c (.pointer (some ⟨w.heap.size, 0, none⟩)) (atI I (idxBad T))
    (fun _ W => Below (w.heap.size + 1) (w.alloc (.cells #[.slice to' T.length tc, .slice ao I.length c] 25)) W) (fun W => Below (w.heap.size + 1) (w.alloc (.cells #[.slice to' T.length tc, .slice ao I.length c] 25)) W)
    (w.alloc (.cells #[.slice to' T.length tc, .slice ao I.length c] 25)) (fun i W h => h) (fun i W h => hi.keep (keepsC ((hbx.mono hC).trans (h.mono (by omega)))))
    (by
      rintro i x cs W hx h1 rfl
      have hsz := h1.size
      rw [World.size_alloc] at hsz
      have hbW : Below w.heap.size w W := hbx.trans (h1.mono (by omega))
      have hB := (h1.block w.heap.size (by omega)).trans hbl
      refine (goodIndexes1_any T x (.slice to' T.length tc) (.slice ao I.length c) (isSl _ _ _) w.heap.size C W (hl.keep (keepsC (hbW.mono hC))) (Nat.le_trans hC hbW.size) (hf x (List.mem_of_getElem? hx)).1 (cell_of_block hB rfl) (cell_of_block hB rfl) (by omega)).mono ?_
      rintro e W' ⟨rfl, hb⟩
      have hT := h1.trans (hb.mono hsz)
      exact ⟨by rw [atI_get hx], hT, fun _ => hT⟩)
    (Below.refl _ _)
  have HR := fun w' (h : Below w.heap.size w w') => rise_idx I (.slice ao I.length c) C w' (hi.keep (keepsC (h.mono hC))) (Nat.le_trans hC h.size)
  have E : Hid (idxsB T I = (!anyI (atI I (idxBad T)) 0 I.length && riseB (I.map IdxD.name))) := rfl
  generalize idxsB T I = r at E
  generalize anyI (atI I (idxBad T)) 0 I.length = q at E HC
  generalize riseB (I.map IdxD.name) = r2 at E HR
  clear hl hi hf
  cases q
  · go_enter Tryz.func17, Tryz.ntmps17
    go_wp2_with (first | (go_at_call 46; go_fit HC; rintro e w1 ⟨rfl, hb1⟩; have hbw : Below w.heap.size w w1 := hbx.trans (hb1.mono (by omega)); have g1 := (hb1.cell (p := ⟨w.heap.size, 1, none⟩) (show w.heap.size < w.heap.size + 1 by omega)).trans (cell_of_block hbl rfl)) | (go_at_call 47; go_fit (HR _ hbw); rintro e w2 ⟨rfl, hb2⟩))
    go_ret
    exact ⟨ret_bool (by rw [E.out]; rfl), bthen hbw hb2⟩
  · go_enter Tryz.func17, Tryz.ntmps17
    go_wp2_with (first | (go_at_call 46; go_fit HC; rintro e w1 ⟨rfl, hb1⟩; have hbw : Below w.heap.size w w1 := hbx.trans (hb1.mono (by omega))))
    go_ret
    exact ⟨ret_bool (by rw [E.out]; rfl), hbw⟩

/-- A catalog: api.Catalog; P4.3. -/
structure CatD where
  tables : List TabD
  indexes : List IdxD
def catB (c : CatD) : Bool := decide (c.tables.length ≤ 3) && decide (c.indexes.length ≤ 4) && tabsB c.tables && idxsB c.tables c.indexes
/-- A catalog in memory. -/
def IsCat (F : Nat → Prop) (w : World) (c : CatD) (v : Value) : Prop := ∃ tv iv, v = .agg #[tv, iv] ∧ IsL kTab F w tv c.tables ∧ IsL kIdx F w iv c.indexes
def fitCat (c : CatD) : Prop := fitTabs c.tables ∧ fitIdxs c.indexes
theorem IsCat.keep {F : Nat → Prop} {w w' : World} {c : CatD} {v : Value} (h : IsCat F w c v) (hk : Keeps F w w') : IsCat F w' c v := by
  obtain ⟨tv, iv, h1, h2, h3⟩ := h
  exact ⟨tv, iv, h1, h2.keep hk, h3.keep hk⟩

set_option maxRecDepth 100000 in
set_option maxHeartbeats 2000000 in
theorem good_cat (ct : CatD) (v : Value) (C : Nat) (w : World) (h : IsCat (fun k => k < C) w ct v) (hC : C ≤ w.heap.size) (hf : fitCat ct) :
    Calls Tryz.prog 5 #[v] w fun e w' => e = .returned (.bool (catB ct)) ∧ Below w.heap.size w w' := by
  obtain ⟨T, I⟩ := ct
  obtain ⟨tv, iv, rfl, hl, hi⟩ := h
  simp only at hl hi
  obtain ⟨to', tc, rfl⟩ := hl.shape
  obtain ⟨ao, c, rfl⟩ := hi.shape
  have hbx := bel1 w (.cells #[.slice to' T.length tc, .slice ao I.length c] 25)
  have HT := goodTables_any T (.slice to' T.length tc) C _ (hl.keep (keepsC (hbx.mono hC))) (Nat.le_trans hC hbx.size) hf.1
  have HI := fun w' (h : Below w.heap.size w w') => goodIndexes_any T I (.slice to' T.length tc) (.slice ao I.length c) C w' (hl.keep (keepsC (h.mono hC))) (hi.keep (keepsC (h.mono hC))) (Nat.le_trans hC h.size) hf.2
  have E : Hid (catB ⟨T, I⟩ = (decide (T.length ≤ 3) && decide (I.length ≤ 4) && tabsB T && idxsB T I)) := rfl
  generalize catB ⟨T, I⟩ = r at E
  generalize tabsB T = g at HT E
  generalize idxsB T I = g2 at HI E
  have hlm := (isL_len hl).2
  have hlm2 := (isL_len hi).2
  unfold maxLen at hlm hlm2
  clear hl hi hf
  by_cases h3 : T.length ≤ 3
  rotate_left
  · have q1 : ¬ (T.length : Int) ≤ 3 := by omega
    have E2 : Hid (r = false) := by show _ = _; rw [E.out]; simp [h3]
    clear HT HI E
    go_enter Tryz.func5, Tryz.ntmps5
    go_wp2_with fail
    go_ret
    exact ⟨ret_bool (by rw [E2.out]), hbx⟩
  have q1 : (T.length : Int) ≤ 3 := by omega
  by_cases h4 : I.length ≤ 4
  rotate_left
  · have q2 : ¬ (I.length : Int) ≤ 4 := by omega
    have E2 : Hid (r = false) := by show _ = _; rw [E.out]; simp [h4]
    clear HT HI E
    go_enter Tryz.func5, Tryz.ntmps5
    go_wp2_with fail
    go_ret
    exact ⟨ret_bool (by rw [E2.out]), hbx⟩
  have q2 : (I.length : Int) ≤ 4 := by omega
  have E2 : Hid (r = (g && g2)) := by show _ = _; rw [E.out]; simp [h3, h4]
  clear E
  cases g
  · go_enter Tryz.func5, Tryz.ntmps5
    go_wp2_with (go_at_call 16; go_fit HT; rintro e w1 ⟨rfl, hb1⟩)
    go_ret
    exact ⟨ret_bool (by rw [E2.out]; rfl), bthen hbx hb1⟩
  · go_enter Tryz.func5, Tryz.ntmps5
    go_wp2_with (first | (go_at_call 16; go_fit HT; rintro e w1 ⟨rfl, hb1⟩; obtain ⟨hcc, hff⟩ := bcell hb1) | (go_at_call 17; go_fit (HI _ (bthen hbx hb1)); rintro e w2 ⟨rfl, hb2⟩))
    go_ret
    exact ⟨ret_bool (by rw [E2.out]; rfl), bthen (bthen hbx hb1) hb2⟩

end Go.Proofs.YtkncamggdfmlnaaGreat

namespace Go.Proofs.YtkncamggdfmlnaaGreat
open Go.RowKit

set_option maxHeartbeats 1000000 in
theorem first_any (r : List V) (rv : Value) (w : World) (hr : IsVals w rv r) : Calls Tryz.prog 21 #[rv] w fun e w' => e = .returned (r.headD zero).val ∧ Below w.heap.size w w' := by
  rcases hr with ⟨⟨ao, cap, rfl, _⟩, rfl⟩ | ⟨b, off, cap, rfl, hb, hR⟩
  · go_enter Tryz.func21, Tryz.ntmps21
    go_wp2
    refine bodyPost_ret (v := zero.val) (by simp [results, zero, V.val, Tryz.results21, go_sem, *]) rfl ⟨rfl, bel1 w _⟩
  · cases r with
    | nil =>
      go_enter Tryz.func21, Tryz.ntmps21
      go_wp2
      refine bodyPost_ret (v := zero.val) (by simp [results, zero, V.val, Tryz.results21, go_sem, *]) rfl ⟨rfl, bel1 w _⟩
    | cons u r =>
      obtain ⟨f0, f1, f2⟩ := hR 0 u rfl
      simp only [Nat.zero_mul, Nat.add_zero] at f0 f1 f2
      have hb1 := bel1 w (.cells #[.int .i64 0, .int .i64 0, .string noW] 47)
      have g0 := (hb1.cell (p := ⟨b, off, none⟩) hb).trans f0
      have g1 := (hb1.cell (p := ⟨b, off + 1, none⟩) hb).trans f1
      have g2 := (hb1.cell (p := ⟨b, off + 2, none⟩) hb).trans f2
      obtain ⟨uk, un, us⟩ := u
      simp only at g0 g1 g2
      have hq : ((r.length : Int) + 1 == 0) = false := by simp; omega
      have hq1 : (0 : Int) < (r.length : Int) + 1 := by omega
      simp only [List.headD_cons, List.length_cons]
      generalize r.length = m at *
      go_enter Tryz.func21, Tryz.ntmps21
      go_wp2
      refine bodyPost_ret (v := V.val ⟨uk, un, us⟩) (by simp [results, V.val, Tryz.results21, go_sem, *]) rfl ⟨rfl, ?_⟩
      exact bel1 w _

/-- A variable with a tree, and blocks that stay. -/
structure TrG (w : World) (g : Nat) (B : List (Nat × Obj)) (ao : Option Addr) (k c : Nat) (T : List Pg) (wx : World) : Prop where
  blk : wx.heap[g]? = some (.cells #[.slice ao k c] 36)
  pgs : IsPages wx (.slice ao k c) T
  good : GoodT T
  old : ∀ p ∈ B, wx.heap[p.1]? = some p.2 ∧ p.1 ≠ g
  bel : Below w.heap.size w wx
  le : w.heap.size ≤ g
theorem TrG.below {w : World} {g : Nat} {B : List (Nat × Obj)} {ao : Option Addr} {k c : Nat} {T : List Pg} {W V : World} (h : TrG w g B ao k c T W) (hb : Below W.heap.size W V) : TrG w g B ao k c T V :=
  ⟨(hb.block _ (lt_of_block h.blk)).trans h.blk, h.pgs.below hb, h.good, fun p hp => ⟨(hb.block _ (lt_of_block (h.old p hp).1)).trans (h.old p hp).1, (h.old p hp).2⟩, h.bel.trans (hb.mono h.bel.size), h.le⟩
theorem TrG.store {w : World} {g : Nat} {B : List (Nat × Obj)} {ao ao' : Option Addr} {k c k' c' : Nat} {T T' : List Pg} {W V : World} (h : TrG w g B ao k c T W) (hb : Below W.heap.size W V) (hp : IsPages V (.slice ao' k' c') T') (hg : GoodT T') :
    TrG w g B ao' k' c' T' (V.setCell ⟨g, 0, none⟩ (.slice ao' k' c')) := by
  have hV := h.below hb
  exact ⟨by have := set_at hV.blk 0 (.slice ao' k' c'); simpa using this, pages_set2 hp hV.blk _, hg, fun p hp => ⟨(block_set_ne (hV.old p hp).2 _ _).trans (hV.old p hp).1, (hV.old p hp).2⟩, hV.bel.setCell hV.le _, hV.le⟩
theorem TrG.grown {w : World} {g : Nat} {B : List (Nat × Obj)} {ao : Option Addr} {k c : Nat} {T : List Pg} {W V : World} {base : Nat} {z : Option Nat} (h : TrG w g B ao k c T W) (hg : W.grownBy V z) (hz : ∀ j, z = some j → base ≤ j) (hp : IsPages V (.slice ao k c) T) (h1 : g < base) (h2 : ∀ p ∈ B, p.1 < base) (h3 : w.heap.size ≤ base) : TrG w g B ao k c T V :=
  ⟨(hg.block _ (lt_of_block h.blk) (fun e => by have := hz g e.symm; omega)).trans h.blk, hp, h.good, fun p hp => ⟨(hg.block _ (lt_of_block (h.old p hp).1) (fun e => by have := hz p.1 e.symm; have := h2 p hp; omega)).trans (h.old p hp).1, (h.old p hp).2⟩, h.bel.grown hg h.bel.size (fun j hj => by have := hz j hj; omega), h.le⟩

theorem TrG.fst {w : World} {g a : Nat} {o : Obj} {B : List (Nat × Obj)} {ao : Option Addr} {k c : Nat} {T : List Pg} {W : World} (h : TrG w g ((a, o) :: B) ao k c T W) : W.heap[a]? = some o := (h.old (a, o) (by simp)).1
theorem TrG.snd {w : World} {g a : Nat} {o : Obj} {p : Nat × Obj} {B : List (Nat × Obj)} {ao : Option Addr} {k c : Nat} {T : List Pg} {W : World} (h : TrG w g (p :: (a, o) :: B) ao k c T W) : W.heap[a]? = some o := (h.old (a, o) (by simp)).1
theorem TrG.trd {w : World} {g a : Nat} {o : Obj} {p q : Nat × Obj} {B : List (Nat × Obj)} {ao : Option Addr} {k c : Nat} {T : List Pg} {W : World} (h : TrG w g (p :: q :: (a, o) :: B) ao k c T W) : W.heap[a]? = some o := (h.old (a, o) (by simp)).1

end Go.Proofs.YtkncamggdfmlnaaGreat

namespace Go.Proofs.YtkncamggdfmlnaaGreat
open Go.RowKit

/-- Behind the n-th element nothing lies. -/
def SpareZ (w : World) (v : Value) (n : Nat) : Prop := ∀ g cap cur t fr, v = .slice (some ⟨g, 0, none⟩) n cap → w.heap[g]? = some (.cells cur t fr) → ∀ (j : Nat) (u : Value), n ≤ j → cur[j]? = some u → u = .slice none 0 0

theorem zeroCells_one {k j : Nat} {u : Value} (h : (Builtin.zeroCells (Value.cells (.slice none 0 0)) k)[j]? = some u) : u = .slice none 0 0 := by
  have hc : Value.cells (.slice none 0 0) = #[.slice none 0 0] := rfl
  rw [hc] at h
  simp only [Builtin.zeroCells, Array.getElem?_map] at h
  obtain ⟨i, _, rfl⟩ := Option.map_eq_some_iff.1 h
  simp [Nat.mod_one]

theorem spareZ_nil (w : World) : SpareZ w (.slice none 0 0) 0 := fun g cap cur t fr h => by cases h

theorem append_spare {w w' : World} {base n c : Nat} {t ty e : TypeId} {i : TypeInfo} (ht : Tryz.prog.underlying t = some (.slice e)) (hi : Tryz.prog.info? e = some i) (hz : i.zero = some (.slice none 0 0)) (hsize : i.size = 1)
    {v v' x : Value} {xs : List Value} (hown : w.ownsRow base e 1 v n xs) (hsp : SpareZ w v n) {a : Addr} (hx : w.cell? a = some x) (hx1 : x.oneCell' = true) (h63 : n + 1 ≤ maxLen) (hbytes : (n + 1) * i.bytes ≤ 140737488355328)
    (hr : (Builtin.append_ #[t, t] ty #[v, .slice (some a) 1 c]).run Tryz.prog w = .ok v' w') : SpareZ w' v' (n + 1) := by
  have hnews : ∀ j u, [x][j]? = some u → w.cell? (a.add j) = some u := fun j u hj => by
    match j, hj with
    | 0, hj => simp at hj; subst hj; simpa [Addr.add] using hx
  have hsmall : n + 1 ≤ 9223372036854775807 := by simp only [maxLen] at h63; omega
  have big : ∀ (olds : List Value) (k : Nat) (V : World), olds.length = n + 1 → SpareZ (V.alloc (.cells (olds.toArray ++ Builtin.zeroCells (Value.cells (.slice none 0 0)) k) e)) (.slice (some ⟨V.heap.size, 0, none⟩) (n + 1) (n + 1 + k)) (n + 1) := by
    intro olds k V ho g cap cur t' fr hv hg j u hj hu
    obtain ⟨⟨rfl⟩, _⟩ : V.heap.size = g ∧ _ := by simpa using hv
    rw [block_alloc_at] at hg
    obtain ⟨rfl, _, _⟩ : olds.toArray ++ Builtin.zeroCells (Value.cells (.slice none 0 0)) k = cur ∧ _ := by simpa using hg
    rw [Array.getElem?_append_right (by simpa [ho] using hj)] at hu
    exact zeroCells_one hu
  rcases hown.2 with ⟨rfl, rfl⟩ | ⟨g, cap, cur, rfl, hbg, hg, hnc, hcm, hcs, htake⟩
  · have h2 := run_append_nil (P := Tryz.prog) w t ty e i _ ht hi hz a 1 c [x] (by simp [hsize]) hnews (by omega) (by omega) (by omega)
    rw [hr] at h2
    simp only [Result.ok.injEq] at h2
    obtain ⟨rfl, rfl⟩ := h2
    have h3 := big [x] (grownCap w 1 0 e - 1) w.drew rfl
    intro g cap cur t' fr hv hg j u hj hu
    refine h3 g (1 + (grownCap w 1 0 e - 1)) cur t' fr ?_ hg j u hj hu
    simp only [Value.slice.injEq] at hv ⊢
    exact ⟨hv.1, by simp⟩
  · by_cases hroom : n + 1 ≤ cap
    · have h2 := run_append_room (P := Tryz.prog) w t ty e i ht hi g n cap cur hg a 1 c [x] (by simp [hsize]) hnews (by simpa using hx1) hroom (by rw [hsize]; simp; omega)
      rw [hr] at h2
      simp only [Result.ok.injEq] at h2
      obtain ⟨rfl, rfl⟩ := h2
      intro g' cap' cur' t' fr hv hg' j u hj hu
      simp only [Value.slice.injEq, Option.some.injEq, Addr.mk.injEq] at hv
      obtain ⟨⟨rfl, _⟩, _, _⟩ := hv
      rw [block_row hg] at hg'
      simp only [Option.some.injEq, Obj.cells.injEq] at hg'
      obtain ⟨rfl, _⟩ := hg'
      simp only [hsize, Nat.mul_one, List.length_cons, List.length_nil, List.getElem?_toArray] at hu
      rw [List.getElem?_append_right (by simp; omega), List.getElem?_drop] at hu
      have hl : (cur.toList.take n ++ [x]).length = n + 1 := by simp; omega
      rw [hl, show n + (0 + 1) + (j - (n + 1)) = j from by omega] at hu
      exact hsp g cap cur e (0, 0) rfl hg j u (by omega) (by simpa using hu)
    · have holds : ∀ j u, xs[j]? = some u → w.cell? ((⟨g, 0, none⟩ : Addr).add j) = some u := hown.cells (g := g) rfl
      have h2 := run_append_grow (P := Tryz.prog) w t ty e i _ ht hi hz ⟨g, 0, none⟩ n cap xs (by rw [hsize]; exact hown.1) holds a 1 c [x] (by simp [hsize]) hnews (by omega) (by omega) (growslice_fits (by omega) hbytes)
      rw [hr] at h2
      simp only [Result.ok.injEq] at h2
      obtain ⟨rfl, rfl⟩ := h2
      have h3 := big (xs ++ [x]) (grownCap w (n + 1) cap e - (n + 1)) w.drew (by have := hown.1; simp; omega)
      intro g cap' cur t' fr hv hg j u hj hu
      refine h3 g (n + 1 + (grownCap w (n + 1) cap e - (n + 1))) cur t' fr ?_ (by simpa using hg) j u hj hu
      simp only [Value.slice.injEq] at hv ⊢
      exact ⟨hv.1, by simp⟩

theorem wpList_append_spare {w : World} {ops : Array Oper} {rest : List Oper} {o : Oper} {a : Act} {Q : Exit → Act → World → Prop} (hgd : o.guard = none) (s x : Operand) (t : TypeId)
    (ho : o.op = .call { callee := .builtin .append, args := #[s, x], argTypes := #[t, t] })
    (base : Nat) (e : TypeId) (i : TypeInfo) (ht : Tryz.prog.underlying t = some (.slice e)) (hi : Tryz.prog.info? e = some i) (hz : i.zero = some (.slice none 0 0)) (hsize : i.size = 1)
    (v : Value) (n : Nat) (xs : List Value) (hs : a.eval s = v) (hown : w.ownsRow base e 1 v n xs) (hsp : SpareZ w v n)
    (ad : Addr) (c : Nat) (y : Value) (hx : a.eval x = .slice (some ad) 1 c) (hy : w.cell? ad = some y) (h1 : y.oneCell' = true)
    (h63 : n + 1 ≤ maxLen) (hbytes : (n + 1) * i.bytes ≤ 140737488355328) (hbase : base ≤ w.heap.size)
    (h : ∀ v' w', w'.ownsRow base e 1 v' (n + 1) (xs ++ [y]) → SpareZ w' v' (n + 1) → w.grownBy w' v.ownBlock → (v'.ownBlock = v.ownBlock ∨ v'.ownBlock = some w.heap.size) → wpList Tryz.prog ops Q rest (a.put o.dst v') w') :
    wpList Tryz.prog ops Q (o :: rest) a w := by
  refine wpList_plain hgd fun K hK => ?_
  obtain ⟨v', w', hr, h2, h3, _, h5⟩ := run_append_own_at (P := Tryz.prog) w base t o.type e i _ 1 i.bytes ht hi hz hsize rfl rfl (by decide) v n xs hown ad 1 c [y] rfl (fun j u hj => by
    match j, hj with
    | 0, hj => simp at hj; subst hj; simpa [Addr.add] using hy) (by simpa using h1) h63 hbytes hbase
  have hsp' := append_spare ht hi hz hsize hown hsp hy h1 h63 hbytes hr
  unfold Oper.wp execOp
  simp only [ho, resolve, invoke, builtin, Sem.run_bind, Sem.run_pure, Result.andThen_ok, List.map_toArray, List.map_cons, List.map_nil, hs, hx, hr]
  exact hK _ _ (h v' w' h2 hsp' h3 h5)

/-- Each cell of a list is nothing, or a list that begins with a number. -/
def NumRows (w : World) (xs : List Value) : Prop := ∀ u ∈ xs, ∃ a n c k i, u = .slice (some a) n c ∧ w.cell? a = some (.int k i)

/-- A tree's pages do not lie there. -/
theorem strs_not {w : World} {g : Nat} {cur : Array Value} {t : TypeId} {fr : Nat × Nat} {sv : Value} {L : List ByteArray} (hg : w.heap[g]? = some (.cells cur t fr)) (hc : ∀ (j : Nat) (u : Value), cur[j]? = some u → ∃ ao n c, u = .slice ao n c) (h : IsStrs w sv L) : L = [] ∨ sv.ownBlock ≠ some g := by
  rcases Nat.eq_zero_or_pos L.length with h0 | h0
  · exact .inl (List.eq_nil_of_length_eq_zero h0)
  · refine .inr fun e => ?_
    obtain ⟨b, off, cap, rfl, _, _, _, hcell⟩ := h.at h0
    obtain rfl : b = g := by simpa [Value.ownBlock] using e
    obtain ⟨x, hx⟩ : ∃ x, L[0]? = some x := ⟨_, List.getElem?_eq_getElem h0⟩
    have := hcell 0 x hx
    simp only [World.cell?, hg, Nat.add_zero] at this
    have h2 : cur[off]? = some (.string x) := by simpa using this
    obtain ⟨ao, n, c, h3⟩ := hc _ _ h2
    cases h3

theorem row_grown {size : Nat} {w w' : World} {sv : Value} {n : Nat} {cs : List Value} {z : Option Nat} (h : IsRow size w sv n cs) (hg : w.grownBy w' z) (hn : n = 0 ∨ sv.ownBlock ≠ z ∨ z = none) : IsRow size w' sv n cs := by
  refine ⟨h.1, ?_⟩
  rcases h.2 with h2 | ⟨h0, b, off, cap, rfl, hlt, hc, hm, hcell⟩
  · exact .inl h2
  · refine .inr ⟨h0, b, off, cap, rfl, Nat.lt_of_lt_of_le hlt hg.size, hc, hm, fun j u hj => ?_⟩
    have hne : some b ≠ z := by
      rcases hn with h1 | h1 | h1
      · omega
      · intro e; exact h1 (by simp [Value.ownBlock, ← e])
      · rw [h1]; simp
    have hblk : w'.heap[b]? = w.heap[b]? := hg.block b hlt hne
    rw [World.cell?_of_block (a := ⟨b, off + j, none⟩) hblk]
    exact hcell j u hj

theorem pages_grown {w w' : World} {sv z : Value} {T : List Pg} {base n : Nat} {xs : List Value} (h : IsPages w sv T) (hT : GoodT T) (hown : w.ownsRow base 44 1 z n xs) (hsp : SpareZ w z n) (hnum : NumRows w xs) (hg : w.grownBy w' z.ownBlock) : IsPages w' sv T := by
  rcases hown.2 with ⟨rfl, _⟩ | ⟨g, cap, cur, rfl, _, hgg, hnc, _, hcs, htake⟩
  · obtain ⟨rows, h1, h2⟩ := h
    refine ⟨rows, row_grown h1 hg (.inr (.inr rfl)), ?_⟩
    clear h1 hT
    induction rows generalizing T with
    | nil => cases T with
      | nil => trivial
      | cons _ _ => exact h2.elim
    | cons r rows ih => cases T with
      | nil => exact h2.elim
      | cons p T => exact ⟨row_grown h2.1 hg (.inr (.inr rfl)), row_grown h2.2.1 hg (.inr (.inr rfl)), ih h2.2.2⟩
  · have hz : (Value.slice (some ⟨g, 0, none⟩) n cap).ownBlock = some g := rfl
    rw [hz] at hg
    have hcur : ∀ (j : Nat) (u : Value), cur[j]? = some u → u = .slice none 0 0 ∨ ∃ a m c k i, u = .slice (some a) m c ∧ w.cell? a = some (.int k i) := by
      intro j u hj
      by_cases hjn : j < n
      · refine .inr (hnum u ?_)
        rw [← htake]
        have : (cur.toList.take (n * 1))[j]? = some u := by rw [List.getElem?_take]; simp [hjn, hj]
        exact List.mem_of_getElem? this
      · exact .inl (hsp g cap cur _ _ rfl hgg j u (by omega) hj)
    have hsl : ∀ (j : Nat) (u : Value), cur[j]? = some u → ∃ ao m c, u = .slice ao m c := fun j u hj => by
      rcases hcur j u hj with rfl | ⟨a, m, c, _, _, rfl, _⟩
      · exact ⟨_, _, _, rfl⟩
      · exact ⟨_, _, _, rfl⟩
    have hstr : ∀ {v : Value} {L : List ByteArray}, IsStrs w v L → IsStrs w' v L := fun {v L} hv => by
      rcases strs_not hgg hsl hv with rfl | h1
      · exact row_grown hv hg (.inl rfl)
      · exact row_grown hv hg (.inr (.inl h1))
    obtain ⟨rows, h1, h2⟩ := h
    have hp : Pgs w' rows T := by
      clear h1 hT
      induction rows generalizing T with
      | nil => cases T with
        | nil => trivial
        | cons _ _ => exact h2.elim
      | cons r rows ih => cases T with
        | nil => exact h2.elim
        | cons p T => exact ⟨hstr h2.1, hstr h2.2.1, ih h2.2.2⟩
    refine ⟨rows, row_grown h1 hg ?_, hp⟩
    rcases Nat.eq_zero_or_pos T.length with h0 | h0
    · exact .inl h0
    · refine .inr (.inl fun e => ?_)
      rcases h1.2 with ⟨h3, _⟩ | ⟨_, b, off, bc, rfl, _, _, _, hcell⟩
      · omega
      · obtain rfl : b = g := by simpa [Value.ownBlock] using e
        obtain ⟨p, hp0⟩ : ∃ p, T[0]? = some p := ⟨_, List.getElem?_eq_getElem h0⟩
        obtain ⟨r, hr, hK, _⟩ := h2.at hp0
        have hok := hT.1 p (List.mem_of_getElem? hp0)
        have c0 := hcell _ _ (pcells_at rows 0 r hr).1
        simp only [World.cell?, hgg, Nat.zero_mul, Nat.add_zero] at c0
        have c1 : cur[off]? = some r.1 := by simpa using c0
        obtain ⟨kb, ko, kc, hk1, _, _, _, hkc⟩ := hK.at hok.1
        obtain ⟨x, hx⟩ : ∃ x, p.K[0]? = some x := ⟨_, List.getElem?_eq_getElem hok.1⟩
        have c2 := hkc 0 x hx
        rcases hcur _ _ c1 with e1 | ⟨a, m, c, k, i, e1, e2⟩
        · rw [hk1] at e1; cases e1
        · rw [hk1] at e1
          cases e1
          rw [Nat.add_zero] at c2
          rw [c2] at e2
          cases e2

end Go.Proofs.YtkncamggdfmlnaaGreat


/-
  3 texts of this proof in one, in build order: KCat2, KSame, Vals.
-/
import Derived.Test.YtkncamggdfmlnaaGreatDoorRows
import Derived.Laws.AppendOwn
import Derived.Test.YtkncamggdfmlnaaGreatDoorJ01
import Derived.Test.YtkncamggdfmlnaaGreatDoorJ05
import Derived.Test.YtkncamggdfmlnaaGreatDoorJ08
import Derived.Test.YtkncamggdfmlnaaGreatDoorJ09
namespace Go.Proofs.YtkncamggdfmlnaaGreatDoor
open Go.RowKit

/-- The name ahead of the k-th. -/
def lastN (l : List Wd) : Nat → Wd
  | 0 => noW
  | k + 1 => l.getD k noW
def catAcc1 (T : List TabD) (n : Nat) : Nat → Bool
  | 0 => decide (T.length < 4) && decide (n < 5)
  | k + 1 => catAcc1 T n k && match T[k]? with
    | some t => isTabR t && Op.bytesLess (lastN (T.map TabD.name) k).toList t.name.toList
    | none => true
def idxStep (T : List TabD) (la : Wd) (x : IdxD) : Bool := match tabOf T x.table with
  | none => false
  | some t => nm x.name && Op.bytesLess la.toList x.name.toList && decide (0 ≤ colAt t.cols x.col)
def catAcc2 (T : List TabD) (I : List IdxD) : Nat → Bool
  | 0 => catAcc1 T I.length T.length
  | k + 1 => catAcc2 T I k && match I[k]? with
    | some x => idxStep T (lastN (I.map IdxD.name) k) x
    | none => true
def isCatR (c : CatD) : Bool := catAcc2 c.tables c.indexes c.indexes.length

theorem catAcc1_all {T : List TabD} {n : Nat} : ∀ {k : Nat}, catAcc1 T n k = true → (T.length < 4 ∧ n < 5) ∧ ∀ j t, j < k → T[j]? = some t → isTabR t = true
  | 0, h => by
    simp only [catAcc1, Bool.and_eq_true, decide_eq_true_eq] at h
    exact ⟨h, fun j t hj => absurd hj (Nat.not_lt_zero _)⟩
  | k + 1, h => by
    rw [catAcc1, Bool.and_eq_true] at h
    obtain ⟨h1, h2⟩ := catAcc1_all h.1
    refine ⟨h1, fun j t hj ht => ?_⟩
    rcases Nat.lt_succ_iff_lt_or_eq.1 hj with hh | hh
    · exact h2 j t hh ht
    · have := h.2
      rw [← hh, ht] at this
      simp only [Bool.and_eq_true] at this
      exact this.1
theorem catAcc2_all {T : List TabD} {I : List IdxD} : ∀ {k : Nat}, catAcc2 T I k = true → catAcc1 T I.length T.length = true ∧ ∀ j x, j < k → I[j]? = some x → nm x.name = true
  | 0, h => ⟨h, fun j x hj => absurd hj (Nat.not_lt_zero _)⟩
  | k + 1, h => by
    rw [catAcc2, Bool.and_eq_true] at h
    obtain ⟨h1, h2⟩ := catAcc2_all h.1
    refine ⟨h1, fun j x hj hx => ?_⟩
    rcases Nat.lt_succ_iff_lt_or_eq.1 hj with hh | hh
    · exact h2 j x hh hx
    · have := h.2
      rw [← hh, hx] at this
      simp only [idxStep] at this
      split at this
      · cases this
      · simp only [Bool.and_eq_true] at this
        exact this.1.1
theorem gt_str (a b : Wd) : (!Op.bytesLess a.toList b.toList && !(a.toList == b.toList)) = Op.bytesLess b.toList a.toList := by
  have h1 : Op.bytesLess a.toList b.toList = klt a b := rfl
  have h2 : Op.bytesLess b.toList a.toList = klt b a := rfl
  rw [h1, h2, beq_str]
  cases hk : klt b a with
  | true => rw [klt_asymm hk, decide_eq_false (klt_ne hk).symm]; rfl
  | false =>
    rcases klt_tri hk with rfl | h3
    · simp
    · rw [h3]; rfl
theorem nm_size {s : Wd} (h : nm s = true) : s.size ≤ 8 := by
  simp only [nm, Bool.and_eq_true, decide_eq_true_eq] at h
  exact h.1.1.2
theorem isCatR_facts {c : CatD} (h : isCatR c = true) : c.indexes.length ≤ 4 ∧ (∀ x ∈ c.indexes, x.name.size ≤ 8) ∧ ∀ t ∈ c.tables, t.name.size ≤ 8 ∧ 0 < t.cols.length ∧ t.cols.length ≤ 4 := by
  obtain ⟨h1, h2⟩ := catAcc2_all h
  obtain ⟨h3, h4⟩ := catAcc1_all h1
  refine ⟨by omega, fun x hx => ?_, fun t ht => ?_⟩
  · obtain ⟨j, hj, rfl⟩ := List.getElem_of_mem hx
    exact nm_size (h2 j _ hj (List.getElem?_eq_getElem hj))
  · obtain ⟨j, hj, rfl⟩ := List.getElem_of_mem ht
    obtain ⟨a, b, c⟩ := isTabR_facts (h4 j _ hj (List.getElem?_eq_getElem hj))
    exact ⟨nm_size a, b, c⟩

set_option maxRecDepth 100000 in
set_option maxHeartbeats 8000000 in
theorem isCatalog_any (ct : CatD) (v : Value) (C : Nat) (w : World) (h : IsCat (fun k => k < C) w ct v) (hC : C ≤ w.heap.size) (he : EnvM w) :
    Calls Tryz.prog 4 #[v] w fun e w' => e = .returned (.bool (isCatR ct)) ∧ Below w.heap.size w w' := by
  obtain ⟨T, I⟩ := ct
  obtain ⟨tv, iv, rfl, hl, hi⟩ := h
  simp only at hl hi
  obtain ⟨to', tc, rfl⟩ := hl.shape
  obtain ⟨io, ic, rfl⟩ := hi.shape
  have hlm := (isL_len hl).2
  have him := (isL_len hi).2
  unfold maxLen at hlm him
  have HT0 : Hid (∀ (k : Nat) (x : TabD), T[k]? = some x → ∃ b off so sc, to' = some ⟨b, off, none⟩ ∧ b < w.heap.size ∧ w.cell? ⟨b, off + k * 2, none⟩ = some (.string x.name) ∧ w.cell? ⟨b, off + k * 2 + 1, none⟩ = some (.slice so x.cols.length sc) ∧ IsL kCol (fun k => k < C) w (.slice so x.cols.length sc) x.cols) := fun k x hx => by
    obtain ⟨b, off, cs, hso, hbC, hbl, ⟨sv, rfl, hsv⟩, hcell⟩ := isL_get hl hx
    obtain ⟨so, sc, rfl⟩ := hsv.shape
    exact ⟨b, off, so, sc, hso, hbl, hcell 0 _ rfl, hcell 1 _ rfl, hsv⟩
  have HI0 : Hid (∀ (k : Nat) (x : IdxD), I[k]? = some x → ∃ b off, io = some ⟨b, off, none⟩ ∧ b < w.heap.size ∧ w.cell? ⟨b, off + k * 3, none⟩ = some (.string x.name) ∧ w.cell? ⟨b, off + k * 3 + 1, none⟩ = some (.string x.table) ∧ w.cell? ⟨b, off + k * 3 + 2, none⟩ = some (.string x.col)) := fun k x hx => by
    obtain ⟨b, off, cs, hso, hbC, hbl, hR1, hcell⟩ := isL_get hi hx
    obtain rfl := hR1
    exact ⟨b, off, hso, hbl, hcell 0 _ rfl, hcell 1 _ rfl, hcell 2 _ rfl⟩
  have HTo0 := fun s W (h : Below w.heap.size w W) => tableOf_any T (.slice to' T.length tc) (.slice io I.length ic) (isSl _ _ _) s C W (hl.keep (keepsC (h.mono hC))) (Nat.le_trans hC h.size)
  have hb1 := bel1 w (.cells #[.slice to' T.length tc, .slice io I.length ic] 25)
  have bC := block_alloc_at w (.cells #[.slice to' T.length tc, .slice io I.length ic] 25)
  generalize hW : w.alloc (.cells #[.slice to' T.length tc, .slice io I.length ic] 25) = W1 at hb1 bC
  have HW : Hid _ := hW
  clear hW hl hi
  have c0 := cell_of_block bC (j := 0) rfl
  have c1 := cell_of_block bC (j := 1) rfl
  have E : Hid (isCatR ⟨T, I⟩ = catAcc2 T I I.length) := rfl
  generalize isCatR ⟨T, I⟩ = q at E
  have E0 : Hid (catAcc1 T I.length 0 = (decide (T.length < 4) && decide (I.length < 5))) := rfl
  have EA : Hid (∀ k x, T[k]? = some x → catAcc1 T I.length (k + 1) = (catAcc1 T I.length k && (isTabR x && Op.bytesLess (lastN (T.map TabD.name) k).toList x.name.toList)) ∧ lastN (T.map TabD.name) (k + 1) = x.name) := fun k x hx => ⟨by rw [catAcc1, hx], by simp [lastN, List.getD_eq_getElem?_getD, hx]⟩
  have EB : Hid (∀ k x, I[k]? = some x → catAcc2 T I (k + 1) = (catAcc2 T I k && (match tabOf T x.table with | none => false | some t => nm x.name && Op.bytesLess (lastN (I.map IdxD.name) k).toList x.name.toList && decide (0 ≤ colAt t.cols x.col))) ∧ lastN (I.map IdxD.name) (k + 1) = x.name) := fun k x hx => ⟨by rw [catAcc2, hx]; rfl, by simp [lastN, List.getD_eq_getElem?_getD, hx]⟩
  go_enter Tryz.func4, Tryz.ntmps4
  go_upto_region 1 with fail
  rw [HW.out]
  go_cut [3] from 11 (fun s3 wx => s3 = .bool (catAcc1 T I.length 0) ∧ Hid (W1 = wx))
  case first =>
    by_cases h4 : T.length < 4
    · by_cases h5 : I.length < 5
      · have q0 : (T.length : Int) < 4 := by omega
        have q1 : (I.length : Int) < 5 := by omega
        go_wp2
        go_meet
        case rel => exact ⟨by rw [E0.out, decide_eq_true h4, decide_eq_true h5]; rfl, hid (by first | exact rfl | exact trivial)⟩
      · have q0 : (T.length : Int) < 4 := by omega
        have q1 : ¬ (I.length : Int) < 5 := by omega
        go_wp2
        go_meet
        case rel => exact ⟨by rw [E0.out, decide_eq_false h5]; simp; try omega, hid (by first | exact rfl | exact trivial)⟩
    · have q0 : ¬ (T.length : Int) < 4 := by omega
      go_wp2
      go_meet
      case rel => exact ⟨by rw [E0.out, decide_eq_false h4]; rfl, hid (by first | exact rfl | exact trivial)⟩
  case rest =>
    obtain ⟨rfl, HWc⟩ := hcut
    have hwc := HWc.out
    subst hwc
    clear HWc E0
    go_wp2
    go_loopw [3, 4, 24] (fun okv lv i wr => ∃ k : Nat, k ≤ T.length ∧ i = .int .i64 k ∧ okv = .bool (catAcc1 T I.length k) ∧ lv = .string (lastN (T.map TabD.name) k) ∧ Below W1.heap.size W1 wr) (fun _ _ i _ => T.length - (intOf i).toNat)
    case atStart => exact ⟨0, Nat.zero_le _, rfl, rfl, rfl, Below.refl _ _⟩
    case round =>
      obtain ⟨k, hk, rfl, rfl, rfl, hbel⟩ := hrel
      have hbw : Below w.heap.size w wr := hb1.trans (hbel.mono hb1.size)
      have hs1 := hb1.size
      have hsz := hbel.size
      by_cases hlt : k < T.length
      · obtain ⟨x, hx⟩ : ∃ x, T[k]? = some x := ⟨_, List.getElem?_eq_getElem hlt⟩
        obtain ⟨b, off, so, sc, hso, hbl, g0, g1, hcol⟩ := HT0.out k x hx
        cases hso
        have d0 := (hbw.cell (p := ⟨b, off + k * 2, none⟩) hbl).trans g0
        have d1 := (hbw.cell (p := ⟨b, off + k * 2 + 1, none⟩) hbl).trans g1
        have hbx := bel1 wr (.cells #[.string x.name, .slice so x.cols.length sc] 28)
        have bX := block_alloc_at wr (.cells #[.string x.name, .slice so x.cols.length sc] 28)
        have hbwx : Below w.heap.size w (wr.alloc (.cells #[.string x.name, .slice so x.cols.length sc] 28)) := hbw.alloc (by omega) _
        have HTx := isTable_any x (.slice so x.cols.length sc) C (wr.alloc (.cells #[.string x.name, .slice so x.cols.length sc] 28)) (hcol.keep (keepsC (hbwx.mono hC))) (Nat.le_trans hC hbwx.size) (he.next hbwx)
        have v0 : (0 : Int) ≤ (k : Int) := by omega
        have v1 : (k : Int) < (T.length : Int) := by omega
        have hEK := (EA.out k x hx).1
        have HLN : Hid _ := (EA.out k x hx).2
        obtain ⟨r, hrr⟩ : ∃ r, catAcc1 T I.length (k + 1) = r := ⟨_, rfl⟩
        rw [hrr] at hEK
        have HR0 : Hid _ := hrr
        have HEK : Hid _ := hEK
        clear hrr hEK hx g0 g1 hcol
        generalize catAcc1 T I.length k = ok at HEK
        generalize lastN (T.map TabD.name) k = la at HEK
        generalize isTabR x = b1 at HTx HEK
        obtain ⟨xn, xcols⟩ := x
        simp only at *
        generalize xcols.length = xl at *
        cases ok
        · have x0 := cell_of_block bX (j := 0) rfl
          have HR : Hid (r = false) := by show _ = _; rw [HEK.out]; rfl
          clear HEK
          go_wp2
          go_roundw
          case rel => exact ⟨k + 1, by omega, by go_num, by rw [HR0.out, HR.out], by rw [HLN.out], hbel.trans (hbx.mono hsz)⟩
          case measure => simp [intOf]; omega
        cases b1
        · have HR : Hid (r = false) := by show _ = _; rw [HEK.out]; rfl
          clear HEK
          go_wp2_with (first | (go_at_call 19; go_fit HTx; rintro e w2 ⟨rfl, hb2⟩; have hB2 : Below wr.heap.size wr w2 := bthen hbx hb2; have bX2 := (hb2.block _ (lt_of_block bX)).trans bX; have x0 := cell_of_block bX2 (j := 0) rfl; have x1 := cell_of_block bX2 (j := 1) rfl))
          go_roundw
          case rel => exact ⟨k + 1, by omega, by go_num, by rw [HR0.out, HR.out], by rw [HLN.out], hbel.trans (hB2.mono hsz)⟩
          case measure => simp [intOf]; omega
        have HR : Hid (r = Op.bytesLess la.toList xn.toList) := by show _ = _; rw [HEK.out]; rfl
        clear HEK
        go_wp2_with (first | (go_at_call 19; go_fit HTx; rintro e w2 ⟨rfl, hb2⟩; have hB2 : Below wr.heap.size wr w2 := bthen hbx hb2; have bX2 := (hb2.block _ (lt_of_block bX)).trans bX; have x0 := cell_of_block bX2 (j := 0) rfl; have x1 := cell_of_block bX2 (j := 1) rfl))
        go_roundw
        case rel => exact ⟨k + 1, by omega, by go_num, by rw [HR0.out, HR.out, gt_str], by rw [HLN.out], hbel.trans (hB2.mono hsz)⟩
        case measure => simp [intOf]; omega
      · have hkn : k = T.length := by omega
        subst hkn
        have v1 : ¬ ((T.length : Int) < (T.length : Int)) := by omega
        have bC' := (hbel.block _ (lt_of_block bC)).trans bC
        have e1 := cell_of_block bC' (j := 1) rfl
        clear EA HT0
        go_wp2
        go_loopw [3, 4, 45] (fun okv lv i wr => ∃ k : Nat, k ≤ I.length ∧ i = .int .i64 k ∧ okv = .bool (catAcc2 T I k) ∧ lv = .string (lastN (I.map IdxD.name) k) ∧ Below W1.heap.size W1 wr) (fun _ _ i _ => I.length - (intOf i).toNat)
        case atStart => exact ⟨0, Nat.zero_le _, rfl, rfl, rfl, hbel⟩
        case round =>
          obtain ⟨k, hk, rfl, rfl, rfl, hbel⟩ := hrel
          have hbw : Below w.heap.size w wr := hb1.trans (hbel.mono hb1.size)
          have hsz := hbel.size
          by_cases hlt : k < I.length
          · obtain ⟨x, hx⟩ : ∃ x, I[k]? = some x := ⟨_, List.getElem?_eq_getElem hlt⟩
            obtain ⟨b, off, hso, hbl, g0, g1, g2⟩ := HI0.out k x hx
            cases hso
            have d0 := (hbw.cell (p := ⟨b, off + k * 3, none⟩) hbl).trans g0
            have d1 := (hbw.cell (p := ⟨b, off + k * 3 + 1, none⟩) hbl).trans g1
            have d2 := (hbw.cell (p := ⟨b, off + k * 3 + 2, none⟩) hbl).trans g2
            have hbx := bel1 wr (.cells #[.string x.name, .string x.table, .string x.col] 46)
            have bX := block_alloc_at wr (.cells #[.string x.name, .string x.table, .string x.col] 46)
            have hbwx : Below w.heap.size w (wr.alloc (.cells #[.string x.name, .string x.table, .string x.col] 46)) := hbw.alloc (by omega) _
            have bCx := (hbx.block _ (lt_of_block ((hbel.block _ (lt_of_block bC)).trans bC))).trans ((hbel.block _ (lt_of_block bC)).trans bC)
            have f0 := cell_of_block bCx (j := 0) rfl
            have f1 := cell_of_block bCx (j := 1) rfl
            have HTo := HTo0 x.table _ hbwx
            unfold FindPost at HTo
            have HNx := fun W (h : Below w.heap.size w W) => isName_any x.name W (he.next h)
            have v0 : (0 : Int) ≤ (k : Int) := by omega
            have v1 : (k : Int) < (I.length : Int) := by omega
            have hEK := (EB.out k x hx).1
            have HLN : Hid _ := (EB.out k x hx).2
            obtain ⟨r, hrr⟩ : ∃ r, catAcc2 T I (k + 1) = r := ⟨_, rfl⟩
            rw [hrr] at hEK
            have HR0 : Hid _ := hrr
            have HEK := hEK
            clear hrr hEK hx g0 g1 g2
            generalize catAcc2 T I k = ok at HEK
            generalize lastN (I.map IdxD.name) k = la at HEK
            generalize nm x.name = b1 at HNx HEK
            obtain ⟨xn, xt, xc⟩ := x
            simp only at *
            cases hto : tabOf T xt
            · rw [hto] at HTo
              simp only at HTo
              cases ok
              · have HR : Hid (r = false) := by show _ = _; rw [HEK]; rfl
                clear HEK hto
                go_wp2_with (first | (go_at_call 6; go_fit HTo; rintro e w2 ⟨nmv, so, sn, sc, th, rfl, ⟨rfl, rfl, rfl, rfl, rfl⟩, hb2⟩; have hB2 : Below wr.heap.size wr w2 := bthen hbx hb2; have bX2 := (hb2.block _ (lt_of_block bX)).trans bX; have hbt := bel1 w2 (.cells #[.string noW, .slice none 0 0] 28); have bX3 := (hbt.block _ (lt_of_block bX2)).trans bX2; have x0 := cell_of_block bX3 (j := 0) rfl; have x2 := cell_of_block bX3 (j := 2) rfl; have hB3 := bthen hB2 hbt))
                go_roundw
                case rel => exact ⟨k + 1, by omega, by go_num, by rw [HR0.out, HR.out], by rw [HLN.out], hbel.trans (hB3.mono hsz)⟩
                case measure => simp [intOf]; omega
              · have HR : Hid (r = false) := by show _ = _; rw [HEK]; rw [hto]; rfl
                clear HEK hto
                go_wp2_with (first | (go_at_call 6; go_fit HTo; rintro e w2 ⟨nmv, so, sn, sc, th, rfl, ⟨rfl, rfl, rfl, rfl, rfl⟩, hb2⟩; have hB2 : Below wr.heap.size wr w2 := bthen hbx hb2; have bX2 := (hb2.block _ (lt_of_block bX)).trans bX; have hbt := bel1 w2 (.cells #[.string noW, .slice none 0 0] 28); have bX3 := (hbt.block _ (lt_of_block bX2)).trans bX2; have x0 := cell_of_block bX3 (j := 0) rfl; have x2 := cell_of_block bX3 (j := 2) rfl; have hB3 := bthen hB2 hbt))
                go_roundw
                case rel => exact ⟨k + 1, by omega, by go_num, by rw [HR0.out, HR.out], by rw [HLN.out], hbel.trans (hB3.mono hsz)⟩
                case measure => simp [intOf]; omega
            · rename_i t
              rw [hto] at HTo
              simp only at HTo
              rw [hto] at HEK
              simp only at HEK
              have HCx := fun W sv hl => colOf_any t.cols t.name sv xc C W hl
              generalize colAt t.cols xc = ca at HEK HCx
              clear hto
              cases ok
              · have HR : Hid (r = false) := by show _ = _; rw [HEK]; rfl
                clear HEK
                go_wp2_with (first | (go_at_call 6; go_fit HTo; rintro e w2 ⟨nmv, so, sn, sc, th, rfl, ⟨rfl, rfl, hl2⟩, hb2⟩; have hB2 : Below wr.heap.size wr w2 := bthen hbx hb2; have bX2 := (hb2.block _ (lt_of_block bX)).trans bX; have hbt := bel1 w2 (.cells #[.string t.name, .slice so sn sc] 28); have bt := block_alloc_at w2 (.cells #[.string t.name, .slice so sn sc] 28); have bX3 := (hbt.block _ (lt_of_block bX2)).trans bX2; have x0 := cell_of_block bX3 (j := 0) rfl; have x2 := cell_of_block bX3 (j := 2) rfl; have hB3 := bthen hB2 hbt))
                go_roundw
                case rel => exact ⟨k + 1, by omega, by go_num, by rw [HR0.out, HR.out], by rw [HLN.out], hbel.trans (hB3.mono hsz)⟩
                case measure => simp [intOf]; omega
              cases b1
              · have HR : Hid (r = false) := by show _ = _; rw [HEK]; rfl
                clear HEK
                go_wp2_with (first | (go_at_call 6; go_fit HTo; rintro e w2 ⟨nmv, so, sn, sc, th, rfl, ⟨rfl, rfl, hl2⟩, hb2⟩; have hB2 : Below wr.heap.size wr w2 := bthen hbx hb2; have bX2 := (hb2.block _ (lt_of_block bX)).trans bX; have hbt := bel1 w2 (.cells #[.string t.name, .slice so sn sc] 28); have bt := block_alloc_at w2 (.cells #[.string t.name, .slice so sn sc] 28); have bX3 := (hbt.block _ (lt_of_block bX2)).trans bX2; have x0 := cell_of_block bX3 (j := 0) rfl; have x2 := cell_of_block bX3 (j := 2) rfl; have hB3 := bthen hB2 hbt) | (go_at_call 20; go_fit (HNx _ (hbw.trans (hB3.mono (by omega)))); rintro e w4 ⟨rfl, hb4⟩; have hB4 := bthen hB3 hb4; have bX4 := (hb4.block _ (lt_of_block bX3)).trans bX3; have y0 := cell_of_block bX4 (j := 0) rfl; have y2 := cell_of_block bX4 (j := 2) rfl; have bt4 := (hb4.block _ (lt_of_block bt)).trans bt; have z0 := cell_of_block bt4 (j := 0) rfl; have z1 := cell_of_block bt4 (j := 1) rfl))
                go_roundw
                case rel => exact ⟨k + 1, by omega, by go_num, by rw [HR0.out, HR.out], by rw [HLN.out], hbel.trans (hB4.mono hsz)⟩
                case measure => simp [intOf]; omega
              have hgs := gt_str xn la
              cases hgt : Op.bytesLess la.toList xn.toList
              · rw [hgt] at hgs
                have HR : Hid (r = false) := by show _ = _; rw [HEK]; rw [hgt]; rfl
                clear HEK hgt
                go_wp2_with (first | (go_at_call 6; go_fit HTo; rintro e w2 ⟨nmv, so, sn, sc, th, rfl, ⟨rfl, rfl, hl2⟩, hb2⟩; have hB2 : Below wr.heap.size wr w2 := bthen hbx hb2; have bX2 := (hb2.block _ (lt_of_block bX)).trans bX; have hbt := bel1 w2 (.cells #[.string t.name, .slice so sn sc] 28); have bt := block_alloc_at w2 (.cells #[.string t.name, .slice so sn sc] 28); have bX3 := (hbt.block _ (lt_of_block bX2)).trans bX2; have x0 := cell_of_block bX3 (j := 0) rfl; have x2 := cell_of_block bX3 (j := 2) rfl; have hB3 := bthen hB2 hbt) | (go_at_call 20; go_fit (HNx _ (hbw.trans (hB3.mono (by omega)))); rintro e w4 ⟨rfl, hb4⟩; have hB4 := bthen hB3 hb4; have bX4 := (hb4.block _ (lt_of_block bX3)).trans bX3; have y0 := cell_of_block bX4 (j := 0) rfl; have y2 := cell_of_block bX4 (j := 2) rfl; have bt4 := (hb4.block _ (lt_of_block bt)).trans bt; have z0 := cell_of_block bt4 (j := 0) rfl; have z1 := cell_of_block bt4 (j := 1) rfl))
                go_roundw
                case rel => exact ⟨k + 1, by omega, by go_num, by rw [HR0.out, HR.out], by rw [HLN.out], hbel.trans (hB4.mono hsz)⟩
                case measure => simp [intOf]; omega
              rw [hgt] at hgs
              by_cases hca : 0 ≤ ca
              · have HR : Hid (r = true) := by show _ = _; rw [HEK]; rw [hgt, decide_eq_true hca]; rfl
                clear HEK hgt
                go_wp2_with (first | (go_at_call 6; go_fit HTo; rintro e w2 ⟨nmv, so, sn, sc, th, rfl, ⟨rfl, rfl, hl2⟩, hb2⟩; have hB2 : Below wr.heap.size wr w2 := bthen hbx hb2; have bX2 := (hb2.block _ (lt_of_block bX)).trans bX; have hbt := bel1 w2 (.cells #[.string t.name, .slice so sn sc] 28); have bt := block_alloc_at w2 (.cells #[.string t.name, .slice so sn sc] 28); have bX3 := (hbt.block _ (lt_of_block bX2)).trans bX2; have x0 := cell_of_block bX3 (j := 0) rfl; have x2 := cell_of_block bX3 (j := 2) rfl; have hB3 := bthen hB2 hbt) | (go_at_call 20; go_fit (HNx _ (hbw.trans (hB3.mono (by omega)))); rintro e w4 ⟨rfl, hb4⟩; have hB4 := bthen hB3 hb4; have bX4 := (hb4.block _ (lt_of_block bX3)).trans bX3; have y0 := cell_of_block bX4 (j := 0) rfl; have y2 := cell_of_block bX4 (j := 2) rfl; have bt4 := (hb4.block _ (lt_of_block bt)).trans bt; have z0 := cell_of_block bt4 (j := 0) rfl; have z1 := cell_of_block bt4 (j := 1) rfl) | (go_at_call 11; go_fit (HCx _ _ (IsL.keep (IsL.keep hl2 (keepsB hbt)) (keepsB hb4))); rintro e w5 ⟨rfl, hb5⟩; have hB5 := bthen hB4 hb5; have bX5 := (hb5.block _ (lt_of_block bX4)).trans bX4; have a0 := cell_of_block bX5 (j := 0) rfl))
                go_roundw
                case rel => exact ⟨k + 1, by omega, by go_num, by rw [HR0.out, HR.out], by rw [HLN.out], hbel.trans (hB5.mono hsz)⟩
                case measure => simp [intOf]; omega
              · have HR : Hid (r = false) := by show _ = _; rw [HEK]; rw [hgt, decide_eq_false hca]; rfl
                clear HEK hgt
                go_wp2_with (first | (go_at_call 6; go_fit HTo; rintro e w2 ⟨nmv, so, sn, sc, th, rfl, ⟨rfl, rfl, hl2⟩, hb2⟩; have hB2 : Below wr.heap.size wr w2 := bthen hbx hb2; have bX2 := (hb2.block _ (lt_of_block bX)).trans bX; have hbt := bel1 w2 (.cells #[.string t.name, .slice so sn sc] 28); have bt := block_alloc_at w2 (.cells #[.string t.name, .slice so sn sc] 28); have bX3 := (hbt.block _ (lt_of_block bX2)).trans bX2; have x0 := cell_of_block bX3 (j := 0) rfl; have x2 := cell_of_block bX3 (j := 2) rfl; have hB3 := bthen hB2 hbt) | (go_at_call 20; go_fit (HNx _ (hbw.trans (hB3.mono (by omega)))); rintro e w4 ⟨rfl, hb4⟩; have hB4 := bthen hB3 hb4; have bX4 := (hb4.block _ (lt_of_block bX3)).trans bX3; have y0 := cell_of_block bX4 (j := 0) rfl; have y2 := cell_of_block bX4 (j := 2) rfl; have bt4 := (hb4.block _ (lt_of_block bt)).trans bt; have z0 := cell_of_block bt4 (j := 0) rfl; have z1 := cell_of_block bt4 (j := 1) rfl) | (go_at_call 11; go_fit (HCx _ _ (IsL.keep (IsL.keep hl2 (keepsB hbt)) (keepsB hb4))); rintro e w5 ⟨rfl, hb5⟩; have hB5 := bthen hB4 hb5; have bX5 := (hb5.block _ (lt_of_block bX4)).trans bX4; have a0 := cell_of_block bX5 (j := 0) rfl))
                go_roundw
                case rel => exact ⟨k + 1, by omega, by go_num, by rw [HR0.out, HR.out, decide_eq_false (show ¬ 0 ≤ ca by omega)], by rw [HLN.out], hbel.trans (hB5.mono hsz)⟩
                case measure => simp [intOf]; omega
          · have hkn : k = I.length := by omega
            subst hkn
            have v1 : ¬ ((I.length : Int) < (I.length : Int)) := by omega
            go_wp2
            go_ret
            exact ⟨ret_bool (by rw [E.out]), hb1.trans (hbel.mono hb1.size)⟩

end Go.Proofs.YtkncamggdfmlnaaGreatDoor

namespace Go.Proofs.YtkncamggdfmlnaaGreatDoor
open Go.RowKit

/-- What SameCatalog answers, as far as lengths go. -/
def SameSays (A B : CatD) (w w' : World) (e : Ending) : Prop := ∃ b, e = .returned (.bool b) ∧ (b = true → ∀ (j : Nat) (x y : TabD), A.tables[j]? = some x → B.tables[j]? = some y → x.cols.length = y.cols.length) ∧ Below w.heap.size w w'

/-- Where tables, columns and indexes lie. -/
def TabsAt (w : World) (ao : Option Addr) (T : List TabD) : Prop := ∀ (k : Nat) (x : TabD), T[k]? = some x → ∃ b off so sc, ao = some ⟨b, off, none⟩ ∧ b < w.heap.size ∧ w.cell? ⟨b, off + k * 2, none⟩ = some (.string x.name) ∧ w.cell? ⟨b, off + k * 2 + 1, none⟩ = some (.slice so x.cols.length sc) ∧ ∀ (j : Nat) (c : ColD), x.cols[j]? = some c → ∃ b' off', so = some ⟨b', off', none⟩ ∧ b' < w.heap.size ∧ w.cell? ⟨b', off' + j * 3, none⟩ = some (.string c.name) ∧ w.cell? ⟨b', off' + j * 3 + 1, none⟩ = some (.int .i64 c.ty) ∧ w.cell? ⟨b', off' + j * 3 + 2, none⟩ = some (.bool c.must)
theorem tabsAt {F : Nat → Prop} {w : World} {ao : Option Addr} {n c : Nat} {T : List TabD} (h : IsL kTab F w (.slice ao n c) T) : TabsAt w ao T := fun k x hx => by
  obtain ⟨b, off, cs, hso, _, hbl, ⟨sv, rfl, hsv⟩, hcell⟩ := isL_get h hx
  obtain ⟨so, sc, rfl⟩ := hsv.shape
  refine ⟨b, off, so, sc, hso, hbl, hcell 0 _ rfl, hcell 1 _ rfl, fun j y hy => ?_⟩
  obtain ⟨b', off', cs', hso', _, hbl', hR, hcell'⟩ := isL_get hsv hy
  obtain rfl := hR
  exact ⟨b', off', hso', hbl', hcell' 0 _ rfl, hcell' 1 _ rfl, hcell' 2 _ rfl⟩
def IdxsAt (w : World) (ao : Option Addr) (I : List IdxD) : Prop := ∀ (k : Nat) (x : IdxD), I[k]? = some x → ∃ b off, ao = some ⟨b, off, none⟩ ∧ b < w.heap.size ∧ w.cell? ⟨b, off + k * 3, none⟩ = some (.string x.name) ∧ w.cell? ⟨b, off + k * 3 + 1, none⟩ = some (.string x.table) ∧ w.cell? ⟨b, off + k * 3 + 2, none⟩ = some (.string x.col)
theorem idxsAt {F : Nat → Prop} {w : World} {ao : Option Addr} {n c : Nat} {I : List IdxD} (h : IsL kIdx F w (.slice ao n c) I) : IdxsAt w ao I := fun k x hx => by
  obtain ⟨b, off, cs, hso, _, hbl, hR1, hcell⟩ := isL_get h hx
  obtain rfl := hR1
  exact ⟨b, off, hso, hbl, hcell 0 _ rfl, hcell 1 _ rfl, hcell 2 _ rfl⟩

set_option maxRecDepth 100000 in
set_option maxHeartbeats 8000000 in
theorem sameCat_any (A B : CatD) (va vb : Value) (F G : Nat → Prop) (w : World) (ha : IsCat F w A va) (hb : IsCat G w B vb) :
    Calls Tryz.prog 7 #[va, vb] w fun e w' => SameSays A B w w' e := by
  obtain ⟨T, I⟩ := A
  obtain ⟨U, J⟩ := B
  obtain ⟨tv, iv, rfl, hl, hi⟩ := ha
  obtain ⟨uv, jv, rfl, hu, hj⟩ := hb
  simp only at hl hi hu hj
  obtain ⟨to', tc, rfl⟩ := hl.shape
  obtain ⟨io, ic, rfl⟩ := hi.shape
  obtain ⟨uo, uc, rfl⟩ := hu.shape
  obtain ⟨jo, jc, rfl⟩ := hj.shape
  have hlm := (isL_len hl).2
  have him := (isL_len hi).2
  unfold maxLen at hlm him
  have HT : Hid _ := tabsAt hl
  have HU : Hid _ := tabsAt hu
  have HI : Hid _ := idxsAt hi
  have HJ : Hid _ := idxsAt hj
  have HXL : Hid (∀ x ∈ T, x.cols.length ≤ 9223372036854775807) := fun x hx => by
    obtain ⟨k, hk, rfl⟩ := List.getElem_of_mem hx
    obtain ⟨b, off, cs, hso, _, hbl, ⟨sv, rfl, hsv⟩, hcell⟩ := isL_get hl (List.getElem?_eq_getElem hk)
    obtain ⟨so, sc, rfl⟩ := hsv.shape
    have := (isL_len hsv).2
    unfold maxLen at this
    omega
  have hb2 := bel2 w (.cells #[.slice to' T.length tc, .slice io I.length ic] 25) (.cells #[.slice uo U.length uc, .slice jo J.length jc] 25)
  have bA := block_alloc_of (block_alloc_at w (.cells #[.slice to' T.length tc, .slice io I.length ic] 25)) (.cells #[.slice uo U.length uc, .slice jo J.length jc] 25)
  have bB := block2 w (.cells #[.slice to' T.length tc, .slice io I.length ic] 25) (.cells #[.slice uo U.length uc, .slice jo J.length jc] 25)
  generalize hW : (w.alloc (.cells #[.slice to' T.length tc, .slice io I.length ic] 25)).alloc (.cells #[.slice uo U.length uc, .slice jo J.length jc] 25) = W2 at hb2 bA bB
  have HW : Hid _ := hW
  clear hW hl hi hu hj
  have a0 := cell_of_block bA (j := 0) rfl
  have a1 := cell_of_block bA (j := 1) rfl
  have b0 := cell_of_block bB (j := 0) rfl
  have b1 := cell_of_block bB (j := 1) rfl
  have no : ∀ W, Below w.heap.size w W → SameSays ⟨T, I⟩ ⟨U, J⟩ w W (.returned (.bool false)) := fun W h => ⟨false, rfl, fun h => (by cases h), h⟩
  have NO : Hid _ := no
  clear no
  by_cases hTU : T.length = U.length
  rotate_left
  · have q0 : ((T.length : Int) != (U.length : Int)) = true := by simp; omega
    clear hTU
    go_enter Tryz.func7, Tryz.ntmps7
    go_upto_region 1 with fail
    rw [HW.out]
    go_wp2
    go_ret
    exact NO.out _ hb2
  have q0 : ((T.length : Int) != (U.length : Int)) = false := by simp; omega
  by_cases hIJ : I.length = J.length
  rotate_left
  · have q1 : ((I.length : Int) != (J.length : Int)) = true := by simp; omega
    clear hTU hIJ
    go_enter Tryz.func7, Tryz.ntmps7
    go_upto_region 1 with fail
    rw [HW.out]
    go_wp2
    go_ret
    exact NO.out _ hb2
  have q1 : ((I.length : Int) != (J.length : Int)) = false := by simp; omega
  have HTU : Hid _ := hTU
  have HIJ : Hid _ := hIJ
  clear hTU hIJ
  go_enter Tryz.func7, Tryz.ntmps7
  go_upto_region 1 with fail
  rw [HW.out]
  go_wp2
  go_loopw [28] (fun i wr => ∃ k : Nat, k ≤ T.length ∧ i = .int .i64 k ∧ Hid (∀ (j : Nat) (x y : TabD), j < k → T[j]? = some x → U[j]? = some y → x.cols.length = y.cols.length) ∧ Below W2.heap.size W2 wr) (fun i _ => T.length - (intOf i).toNat)
  case atStart => exact ⟨0, Nat.zero_le _, rfl, hid (fun j x y h => absurd h (Nat.not_lt_zero _)), Below.refl _ _⟩
  case round =>
    obtain ⟨k, hk, rfl, HK, hbel⟩ := hrel
    obtain ⟨wo, hwo⟩ : ∃ wo, wo = wr := ⟨_, rfl⟩
    subst hwo
    have hbw : Below w.heap.size w wo := hb2.trans (hbel.mono hb2.size)
    have hs2 := hb2.size
    have hsz := hbel.size
    have bA' := (hbel.block _ (lt_of_block bA)).trans bA
    have bB' := (hbel.block _ (lt_of_block bB)).trans bB
    by_cases hlt : k < T.length
    · obtain ⟨x, hx⟩ : ∃ x, T[k]? = some x := ⟨_, List.getElem?_eq_getElem hlt⟩
      obtain ⟨y, hy⟩ : ∃ y, U[k]? = some y := ⟨_, List.getElem?_eq_getElem (by rw [← HTU.out]; exact hlt)⟩
      obtain ⟨b, off, so, sc, hso, hbl, g0, g1, hxc⟩ := HT.out k x hx
      cases hso
      obtain ⟨d, off2, so2, sc2, hso, hdl, h0, h1, hyc⟩ := HU.out k y hy
      cases hso
      have hbx := bel1 wo (.cells #[.string x.name, .slice so x.cols.length sc] 28)
      have bX := block_alloc_at wo (.cells #[.string x.name, .slice so x.cols.length sc] 28)
      have hbwx : Below w.heap.size w (wo.alloc (.cells #[.string x.name, .slice so x.cols.length sc] 28)) := hbw.alloc (by omega) _
      have d0 := (hbw.cell (p := ⟨b, off + k * 2, none⟩) hbl).trans g0
      have d1 := (hbw.cell (p := ⟨b, off + k * 2 + 1, none⟩) hbl).trans g1
      have e0 := (hbwx.cell (p := ⟨d, off2 + k * 2, none⟩) hdl).trans h0
      have e1 := (hbwx.cell (p := ⟨d, off2 + k * 2 + 1, none⟩) hdl).trans h1
      have bB2 := (hbx.block _ (lt_of_block bB')).trans bB'
      have f0 := cell_of_block bB2 (j := 0) rfl
      have f1 := cell_of_block bX (j := 0) rfl
      have f2 := cell_of_block bX (j := 1) rfl
      have v0 : (0 : Int) ≤ (k : Int) := by omega
      have v1 : (k : Int) < (T.length : Int) := by omega
      have v2 : (k : Int) < (U.length : Int) := by have := HTU.out; omega
      have v3 : k < U.length := by have := HTU.out; omega
      have hxl := HXL.out x (List.mem_of_getElem? hx)
      have HXC : Hid _ := hxc
      have HYC : Hid _ := hyc
      have HXX : Hid _ := hx
      have HYY : Hid _ := hy
      clear hxc hyc hx hy g0 g1 h0 h1
      by_cases hn : x.name = y.name
      rotate_left
      · have hq : (x.name.toList == y.name.toList) = false := by rw [beq_str]; simp [hn]
        clear hn
        go_wp2_with fail
        go_quiet (fail)
        go_wp2
        go_ret
        exact NO.out _ (below_drewN hbwx _)
      have hq : (x.name.toList == y.name.toList) = true := by rw [beq_str]; simp [hn]
      by_cases hcl : x.cols.length = y.cols.length
      rotate_left
      · have hq2 : ((x.cols.length : Int) != (y.cols.length : Int)) = true := by simp; omega
        clear hn hcl
        go_wp2_with fail
        go_quiet (fail)
        go_wp2
        go_ret
        exact NO.out _ (below_drewN hbwx _)
      have hq2 : ((x.cols.length : Int) != (y.cols.length : Int)) = false := by simp; omega
      have HCL : Hid _ := hcl
      clear hn hcl
      generalize hWx : wo.alloc (.cells #[.string x.name, .slice so x.cols.length sc] 28) = Wx at *
      go_wp2_with fail
      try rw [hWx]
      have hWs : Wx.heap.size = wo.heap.size + 1 := by rw [← hWx]; simp
      have hbelx : Below W2.heap.size W2 Wx := hbel.trans (hbx.mono hsz)
      have HWX : Hid _ := hWs
      clear hWs
      go_quiet (fail)
      go_wp2
      go_loopw [58] (fun i wr => ∃ k2 : Nat, k2 ≤ x.cols.length ∧ i = .int .i64 k2 ∧ Below Wx.heap.size Wx wr) (fun i _ => x.cols.length - (intOf i).toNat)
      case atStart => exact ⟨0, Nat.zero_le _, rfl, below_drewN (Below.refl _ _) _⟩
      case round =>
        obtain ⟨k2, hk2, rfl, hbel2⟩ := hrel
        have hbwr : Below w.heap.size w wr := hbwx.trans (hbel2.mono hbwx.size)
        by_cases hlt2 : k2 < x.cols.length
        · obtain ⟨p, hp⟩ : ∃ p, x.cols[k2]? = some p := ⟨_, List.getElem?_eq_getElem hlt2⟩
          obtain ⟨q, hq'⟩ : ∃ q, y.cols[k2]? = some q := ⟨_, List.getElem?_eq_getElem (by rw [← HCL.out]; exact hlt2)⟩
          obtain ⟨pb, po, hso, hpl, p0, p1, p2⟩ := HXC.out k2 p hp
          cases hso
          obtain ⟨qb, qo, hso, hql, q3, q4, q5⟩ := HYC.out k2 q hq'
          cases hso
          have m0 := (hbwr.cell (p := ⟨pb, po + k2 * 3, none⟩) hpl).trans p0
          have m1 := (hbwr.cell (p := ⟨pb, po + k2 * 3 + 1, none⟩) hpl).trans p1
          have m2 := (hbwr.cell (p := ⟨pb, po + k2 * 3 + 2, none⟩) hpl).trans p2
          have m3 := (hbwr.cell (p := ⟨qb, qo + k2 * 3, none⟩) hql).trans q3
          have m4 := (hbwr.cell (p := ⟨qb, qo + k2 * 3 + 1, none⟩) hql).trans q4
          have m5 := (hbwr.cell (p := ⟨qb, qo + k2 * 3 + 2, none⟩) hql).trans q5
          have bX2 := (hbel2.block _ (lt_of_block bX)).trans bX
          have bB3 := (hbel2.block _ (lt_of_block bB2)).trans bB2
          have r0 := cell_of_block bX2 (j := 1) rfl
          have r1 := cell_of_block bB3 (j := 0) rfl
          have r2 := (hbel2.cell (p := ⟨d, off2 + k * 2 + 1, none⟩) (Nat.lt_of_lt_of_le hdl hbwx.size)).trans e1
          have u0 : (0 : Int) ≤ (k2 : Int) := by omega
          have u1 : (k2 : Int) < (x.cols.length : Int) := by omega
          have u2 : (k2 : Int) < (y.cols.length : Int) := by have := HCL.out; omega
          have u3 : k2 < y.cols.length := by have := HCL.out; omega
          clear hp hq' p0 p1 p2 q3 q4 q5
          obtain ⟨pn, pt, pm⟩ := p
          obtain ⟨qn, qt, qm⟩ := q
          simp only at m0 m1 m2 m3 m4 m5
          by_cases en : pn = qn
          rotate_left
          · have hz : (pn.toList == qn.toList) = false := by rw [beq_str]; simp [en]
            go_wp2_with fail
            go_quiet (fail)
            go_wp2
            go_ret
            exact NO.out _ (below_drewN hbwr _)
          subst en
          by_cases et : pt = qt
          rotate_left
          · have hz : (pt == qt) = false := by simp [et]
            go_wp2_with fail
            go_quiet (fail)
            go_wp2
            go_ret
            exact NO.out _ (below_drewN hbwr _)
          subst et
          by_cases em : pm = qm
          rotate_left
          · have hz : (pm == qm) = false := by simp [em]
            go_wp2_with fail
            go_quiet (fail)
            go_wp2
            go_ret
            exact NO.out _ (below_drewN hbwr _)
          subst em
          go_wp2_with fail
          go_quiet (fail)
          go_wp2
          go_roundw
          case rel => exact ⟨k2 + 1, by omega, by go_num, below_drewN hbel2 _⟩
          case measure => simp [intOf]; omega
        · have hkn : k2 = x.cols.length := by omega
          subst hkn
          have u1 : ¬ ((x.cols.length : Int) < (x.cols.length : Int)) := by omega
          go_wp2
          go_roundw
          case rel => exact ⟨k + 1, by omega, by go_num, hid (fun j x' y' hj hx' hy' => by
            rcases Nat.lt_succ_iff_lt_or_eq.1 hj with h | h
            · exact HK.out j x' y' h hx' hy'
            · rw [h] at hx' hy'
              rw [HXX.out] at hx'
              rw [HYY.out] at hy'
              cases hx'
              cases hy'
              exact HCL.out), hbelx.trans (hbel2.mono hbelx.size)⟩
          case measure => simp [intOf]; omega
    · have hkn : k = T.length := by omega
      subst hkn
      have v1 : ¬ ((T.length : Int) < (T.length : Int)) := by omega
      have e0 := cell_of_block bA' (j := 1) rfl
      have hall : Hid (∀ (j : Nat) (x y : TabD), T[j]? = some x → U[j]? = some y → x.cols.length = y.cols.length) := fun j x y hx hy => HK.out j x y (List.getElem?_eq_some_iff.1 hx).1 hx hy
      clear HK HT HU HXL
      go_wp2
      go_loopw [81] (fun i wr => ∃ k : Nat, k ≤ I.length ∧ i = .int .i64 k ∧ Below W2.heap.size W2 wr) (fun i _ => I.length - (intOf i).toNat)
      case atStart => exact ⟨0, Nat.zero_le _, rfl, hbel⟩
      case round =>
        obtain ⟨k, hk, rfl, hbel2⟩ := hrel
        have hbwr : Below w.heap.size w wr := hb2.trans (hbel2.mono hb2.size)
        have bA3 := (hbel2.block _ (lt_of_block bA)).trans bA
        have bB3 := (hbel2.block _ (lt_of_block bB)).trans bB
        by_cases hlt : k < I.length
        · obtain ⟨x, hx⟩ : ∃ x, I[k]? = some x := ⟨_, List.getElem?_eq_getElem hlt⟩
          obtain ⟨y, hy⟩ : ∃ y, J[k]? = some y := ⟨_, List.getElem?_eq_getElem (by rw [← HIJ.out]; exact hlt)⟩
          obtain ⟨pb, po, hso, hpl, p0, p1, p2⟩ := HI.out k x hx
          cases hso
          obtain ⟨qb, qo, hso, hql, q3, q4, q5⟩ := HJ.out k y hy
          cases hso
          have m0 := (hbwr.cell (p := ⟨pb, po + k * 3, none⟩) hpl).trans p0
          have m1 := (hbwr.cell (p := ⟨pb, po + k * 3 + 1, none⟩) hpl).trans p1
          have m2 := (hbwr.cell (p := ⟨pb, po + k * 3 + 2, none⟩) hpl).trans p2
          have m3 := (hbwr.cell (p := ⟨qb, qo + k * 3, none⟩) hql).trans q3
          have m4 := (hbwr.cell (p := ⟨qb, qo + k * 3 + 1, none⟩) hql).trans q4
          have m5 := (hbwr.cell (p := ⟨qb, qo + k * 3 + 2, none⟩) hql).trans q5
          have r0 := cell_of_block bA3 (j := 1) rfl
          have r1 := cell_of_block bB3 (j := 1) rfl
          have u0 : (0 : Int) ≤ (k : Int) := by omega
          have u1 : (k : Int) < (I.length : Int) := by omega
          have u2 : (k : Int) < (J.length : Int) := by have := HIJ.out; omega
          have u3 : k < J.length := by have := HIJ.out; omega
          clear hx hy p0 p1 p2 q3 q4 q5
          obtain ⟨pn, pt, pm⟩ := x
          obtain ⟨qn, qt, qm⟩ := y
          simp only at m0 m1 m2 m3 m4 m5
          by_cases en : pn = qn
          rotate_left
          · have hz : (pn.toList == qn.toList) = false := by rw [beq_str]; simp [en]
            go_wp2_with fail
            go_quiet (fail)
            go_wp2
            go_ret
            exact NO.out _ (below_drewN hbwr _)
          subst en
          by_cases et : pt = qt
          rotate_left
          · have hz : (pt.toList == qt.toList) = false := by rw [beq_str]; simp [et]
            go_wp2_with fail
            go_quiet (fail)
            go_wp2
            go_ret
            exact NO.out _ (below_drewN hbwr _)
          subst et
          by_cases em : pm = qm
          rotate_left
          · have hz : (pm.toList == qm.toList) = false := by rw [beq_str]; simp [em]
            go_wp2_with fail
            go_quiet (fail)
            go_wp2
            go_ret
            exact NO.out _ (below_drewN hbwr _)
          subst em
          go_wp2_with fail
          go_quiet (fail)
          go_wp2
          go_roundw
          case rel => exact ⟨k + 1, by omega, by go_num, below_drewN hbel2 _⟩
          case measure => simp [intOf]; omega
        · have hkn : k = I.length := by omega
          subst hkn
          have v1 : ¬ ((I.length : Int) < (I.length : Int)) := by omega
          go_wp2
          go_ret
          exact ⟨true, rfl, fun _ => hall.out, hbwr⟩

end Go.Proofs.YtkncamggdfmlnaaGreatDoor

namespace Go.Proofs.YtkncamggdfmlnaaGreatDoor
open Go.RowKit

/-- The slice v has the values L. -/
def IsVals (w : World) (v : Value) (L : List V) : Prop :=
  ((∃ ao cap, v = .slice ao 0 cap ∧ (ao = none → cap = 0)) ∧ L = []) ∨ ∃ b off cap, v = .slice (some ⟨b, off, none⟩) L.length cap ∧ b < w.heap.size ∧ HoldsV w b off L

theorem IsVals.below {w w' : World} {v : Value} {L : List V} (h : IsVals w v L) (hb : Below w.heap.size w w') : IsVals w' v L := by
  rcases h with h | ⟨b, off, cap, h1, h2, h3⟩
  · exact .inl h
  · exact .inr ⟨b, off, cap, h1, Nat.lt_of_lt_of_le h2 hb.size, h3.below hb h2⟩

theorem IsVals.shape {w : World} {v : Value} {L : List V} (h : IsVals w v L) : ∃ ao cap, v = .slice ao L.length cap := by
  rcases h with ⟨⟨ao, cap, rfl, _⟩, rfl⟩ | ⟨b, off, cap, rfl, _, _⟩
  · exact ⟨ao, cap, rfl⟩
  · exact ⟨_, cap, rfl⟩

/-- Values as cells. -/
def vcells (L : List V) : List Value := L.flatMap V.cells
theorem vcells_snoc (L : List V) (v : V) : vcells (L ++ [v]) = vcells L ++ v.cells := by simp [vcells]
theorem vcells_at : ∀ (L : List V) (i : Nat) (v : V), L[i]? = some v → (vcells L)[i * 3]? = some (.int .i64 v.k) ∧ (vcells L)[i * 3 + 1]? = some (.int .i64 v.n) ∧ (vcells L)[i * 3 + 2]? = some (.string v.s)
  | x :: L, 0, v, h => by
    simp at h; subst h
    simp [vcells, V.cells]
  | x :: L, i + 1, v, h => by
    have := vcells_at L i v (by simpa using h)
    have e : vcells (x :: L) = .int .i64 x.k :: .int .i64 x.n :: .string x.s :: vcells L := by simp [vcells, V.cells]
    rw [e, show (i + 1) * 3 = i * 3 + 1 + 1 + 1 from by omega]
    exact this

/-- What Values has made is a list of values. -/
theorem IsVals.of_own {w : World} {base : Nat} {lv : Value} {L : List V} (h : w.ownsRow base 36 3 lv L.length (vcells L)) : IsVals w lv L := by
  rcases h.2 with ⟨rfl, h0⟩ | ⟨g, cap, cur, rfl, _, hg, _⟩
  · exact .inl ⟨⟨none, 0, rfl, fun _ => rfl⟩, List.eq_nil_of_length_eq_zero h0⟩
  · refine .inr ⟨g, 0, cap, rfl, lt_of_block hg, fun i v hi => ?_⟩
    obtain ⟨h0, h1, h2⟩ := vcells_at L i v hi
    have c0 := h.cells (g := g) rfl _ _ h0
    have c1 := h.cells (g := g) rfl _ _ h1
    have c2 := h.cells (g := g) rfl _ _ h2
    rw [Addr.add_lit] at c0 c1 c2
    exact ⟨c0, by rw [Nat.add_assoc]; exact c1, by rw [Nat.add_assoc]; exact c2⟩

theorem HoldsV.cells {w : World} {b off : Nat} : ∀ {L : List V}, HoldsV w b off L → ∀ j u, (vcells L)[j]? = some u → w.cell? ((⟨b, off, none⟩ : Addr).add j) = some u := by
  intro L h j u hj
  have hl : (vcells L).length = L.length * 3 := by
    clear h hj
    induction L with
    | nil => rfl
    | cons x L ih => simp [vcells, V.cells] at ih ⊢; omega
  have hjl := (List.getElem?_eq_some_iff.1 hj).1
  obtain ⟨v, hv⟩ : ∃ v, L[j / 3]? = some v := ⟨_, List.getElem?_eq_getElem (by omega)⟩
  obtain ⟨a0, a1, a2⟩ := vcells_at L _ _ hv
  obtain ⟨c0, c1, c2⟩ := h _ _ hv
  rw [Addr.add_lit]
  rcases (show j = j / 3 * 3 ∨ j = j / 3 * 3 + 1 ∨ j = j / 3 * 3 + 2 from by omega) with e | e | e
  · rw [e] at hj ⊢
    rw [a0] at hj; simp at hj; subst hj; exact c0
  · rw [e] at hj ⊢
    rw [a1] at hj; simp at hj; subst hj; rw [← Nat.add_assoc]; exact c1
  · rw [e] at hj ⊢
    rw [a2] at hj; simp at hj; subst hj; rw [← Nat.add_assoc]; exact c2
theorem vcells_length (L : List V) : (vcells L).length = L.length * 3 := by
  induction L with
  | nil => rfl
  | cons x L ih => simp [vcells, V.cells] at ih ⊢; omega
theorem vcells_one (L : List V) : ∀ u ∈ vcells L, u.oneCell' = true := by
  intro u hu
  simp only [vcells, List.mem_flatMap] at hu
  obtain ⟨v, _, hu⟩ := hu
  simp [V.cells] at hu
  rcases hu with rfl | rfl | rfl <;> rfl

end Go.Proofs.YtkncamggdfmlnaaGreatDoor


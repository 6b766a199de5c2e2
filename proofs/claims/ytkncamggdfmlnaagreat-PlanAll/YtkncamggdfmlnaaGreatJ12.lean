/-
  1 texts of this proof in one, in build order: PRows.
-/
import Derived.Test.YtkncamggdfmlnaaGreatJ11
namespace Go.Proofs.YtkncamggdfmlnaaGreat
open Go.RowKit

theorem info_vals : (Tryz.prog.info? 44).map (fun i => (i.zero, i.size, i.bytes)) = some (some (.slice none 0 0), 1, 24) := by kernel_rfl

/-- Rows that are gathered, in a row of the call's own. -/
def RowsAt (base : Nat) (z : Value) (A : List (List V)) (w : World) : Prop := ∃ cs, w.ownsRow base 44 1 z A.length cs ∧ All kVals (FO base z) w A cs
theorem rowsAt_nil (base : Nat) (w : World) : RowsAt base (.slice none 0 0) [] w := ⟨[], World.ownsRow_nil _ _ _ _, rfl⟩
theorem rowsAt_push {base : Nat} {z z' sv : Value} {A : List (List V)} {cs : List Value} {L : List V} {W w3 : World} (own3 : w3.ownsRow base 44 1 z' (A.length + 1) (cs ++ [sv])) (hall : All kVals (FO base z) W A cs) (hL : IsL kVal (FO base z) W sv L) (gr : W.grownBy w3 z.ownBlock) (at3 : z'.ownBlock = z.ownBlock ∨ z'.ownBlock = some W.heap.size) :
    RowsAt base z' (A ++ [L]) w3 := by
  have h1 : All kVals (fun k => FO base z k ∧ k < W.heap.size) W (A ++ [L]) (cs ++ [sv]) := All.append (hall.mono fun k hk h => ⟨h, hk⟩) (All.one ⟨sv, rfl, hL.mono fun k hk h => ⟨h, hk⟩⟩)
  have h2 := h1.keep ((keeps_grown (n := base) gr).mono fun k h => h.1)
  refine ⟨cs ++ [sv], by rw [List.length_append]; exact own3, h2.mono fun k _ h => fo_next at3 k h.2 h.1⟩
theorem RowsAt.isL {base : Nat} {z : Value} {A : List (List V)} {w : World} (h : RowsAt base z A w) {F : Nat → Prop} (hF : ∀ k, base ≤ k → F k) : IsL kVals F w z A := by
  obtain ⟨cs, h1, h2⟩ := h
  exact ⟨cs, IsRowB.of_own h1 hF, h2.mono fun k _ h => hF k h.1⟩
theorem RowsAt.below {base : Nat} {z : Value} {A : List (List V)} {w w' : World} (h : RowsAt base z A w) (hb : Below w.heap.size w w') : RowsAt base z A w' := by
  obtain ⟨cs, h1, h2⟩ := h
  exact ⟨cs, ownsRow_below h1 hb, h2.keep (keepsB hb)⟩

/-- The rows that texts are. -/
def textsR (n : Nat) (X : List Wd) : List (List V) := X.filterMap (rowOf n)
theorem textsR_take {n : Nat} {X : List Wd} {k : Nat} {x : Wd} (h : X[k]? = some x) : textsR n (X.take (k + 1)) = textsR n (X.take k) ++ (rowOf n x).toList := by
  rw [List.take_add_one, h]
  simp only [textsR, List.filterMap_append, Option.toList_some]
  cases hx : rowOf n x <;> simp [hx]
theorem textsR_length (n : Nat) (X : List Wd) : (textsR n X).length ≤ X.length := List.length_filterMap_le _ _

/-- Rows are answered. -/
def RowsAns (w w' : World) (e : Ending) (A : List (List V)) : Prop := ∃ rv, e = .returned rv ∧ IsL kVals (fun k => w.heap.size ≤ k) w' rv A ∧ Below w.heap.size w w'

set_option maxRecDepth 100000 in
set_option maxHeartbeats 4000000 in
theorem rowsAll_any (nmv : Wd) (T : List Pg) (pv : Value) (so : Option Addr) (n sc : Nat) (lo hi : Wd) (w : World) (hp : IsTree w pv T) (hg : GoodT T) (hT : T.length ≤ 100000) (hx : ∀ x ∈ rng T lo hi, x.2.size ≤ 1000000) :
    Calls Tryz.prog 8 #[pv, .agg #[.string nmv, .slice so n sc], wayV noW lo hi] w fun e w' => RowsAns w w' e (rowsOf n (rng T lo hi)) := by
  obtain ⟨psv, rfl, hpp⟩ := hp
  obtain ⟨po, pc, rfl⟩ := pages_shape hpp
  obtain ⟨i0, hi0, hz0, hz1, hz2⟩ := info_parts info_vals
  have hb3 := bel3 w (.cells #[.slice po T.length pc] 36) (.cells #[.string nmv, .slice so n sc] 29) (.cells #[.string noW, .string lo, .string hi] 41)
  have bT := block_alloc_of (block2 w (.cells #[.slice po T.length pc] 36) (.cells #[.string nmv, .slice so n sc] 29)) (.cells #[.string noW, .string lo, .string hi] 41)
  have bW := block3 w (.cells #[.slice po T.length pc] 36) (.cells #[.string nmv, .slice so n sc] 29) (.cells #[.string noW, .string lo, .string hi] 41)
  have HR := range_any true T ⟨fun _ => hg, fun _ => rfl⟩ (.agg #[.slice po T.length pc]) lo hi _ ⟨_, rfl, hpp.below hb3⟩ (by omega)
  rw [show rans true T lo hi = rng T lo hi from rfl] at HR
  have hrl : (rng T lo hi).length ≤ 400000 := by
    have h1 := rans_length true T ⟨fun _ => hg, fun _ => rfl⟩ (lo := lo) (hi := hi)
    rw [show rans true T lo hi = rng T lo hi from rfl] at h1
    omega
  have ER : Hid (rowsOf n (rng T lo hi) = textsR n ((rng T lo hi).map Prod.snd)) := rfl
  rw [ER.out]
  clear ER
  have hxl : ((rng T lo hi).map Prod.snd).length ≤ 400000 := by rw [List.length_map]; exact hrl
  have HX : Hid (∀ x ∈ (rng T lo hi).map Prod.snd, x.size ≤ 1000000) := fun x hh => by obtain ⟨y, hy, rfl⟩ := List.mem_map.1 hh; exact hx y hy
  clear hx hrl
  unfold RangeSays at HR
  generalize (rng T lo hi).map Prod.fst = Y at HR
  generalize (rng T lo hi).map Prod.snd = X at HR hxl HX ⊢
  generalize hW : ((w.alloc (.cells #[.slice po T.length pc] 36)).alloc (.cells #[.string nmv, .slice so n sc] 29)).alloc (.cells #[.string noW, .string lo, .string hi] 41) = W3 at hb3 HR bT bW
  have bP : W3.heap[w.heap.size]? = some (.cells #[.slice po T.length pc] 36) := by rw [← hW]; exact block_alloc_of (block_alloc_of (block_alloc_at w _) _) _
  have HW : Hid _ := hW
  clear hW
  have c0 := cell_of_block bP (j := 0) rfl
  have c1 := cell_of_block bW (j := 0) rfl
  have c2 := cell_of_block bW (j := 1) rfl
  have c3 := cell_of_block bW (j := 2) rfl
  unfold wayV
  go_enter Tryz.func8, Tryz.ntmps8
  go_upto_region 1 with fail
  rw [HW.out]
  go_wp2_with (go_at_call 23; go_fit HR; rintro e w1 ⟨kv, vv, rfl, hk1, hv1, hb1⟩; obtain ⟨vo, vc, rfl⟩ := IsRow.shape hv1; have c1' := cell_of_block ((hb1.block _ (lt_of_block bW)).trans bW) (j := 0) rfl)
  have bT1 := (hb1.block _ (lt_of_block bT)).trans bT
  have hW1 : Below w.heap.size w w1 := hb3.trans (hb1.mono hb3.size)
  clear hk1 HR hpp
  go_loopw [9, 36] (fun zv i wr => ∃ k : Nat, k ≤ X.length ∧ i = .int .i64 k ∧ RowsAt w1.heap.size zv (textsR n (X.take k)) wr ∧ Below w1.heap.size w1 wr) (fun _ i _ => X.length - (intOf i).toNat)
  case atStart => exact ⟨0, Nat.zero_le _, rfl, rowsAt_nil _ _, Below.refl _ _⟩
  case round =>
    obtain ⟨k, hk, rfl, ⟨cs, hown, hall⟩, hbel⟩ := hrel
    by_cases hlt : k < X.length
    · obtain ⟨x, hx⟩ : ∃ x, X[k]? = some x := ⟨_, List.getElem?_eq_getElem hlt⟩
      obtain ⟨b, off, cap, hsl, hb, _, _, hcell⟩ := hv1.at (by omega)
      cases hsl
      have d0 := (hbel.cell (p := ⟨b, off + k, none⟩) hb).trans (hcell k x hx)
      have HV := fun W => values_any x W (by have := HX.out x (List.mem_of_getElem? hx); omega)
      have HXI : Hid (textsR n (X.take (k + 1)) = textsR n (X.take k) ++ (rowOf n x).toList) := textsR_take hx
      have v0 : (0 : Int) ≤ (k : Int) := by omega
      have v1 : (k : Int) < (X.length : Int) := by omega
      have hsz := hbel.size
      have ho0 := hown.lt
      have bT2 := (hbel.block _ (lt_of_block bT1)).trans bT1
      have hal : (textsR n (X.take k)).length ≤ 400000 := Nat.le_trans (textsR_length _ _) (by simp; omega)
      clear hx hcell
      unfold ValuesSays at HV
      cases hvx : vals x.data.toList with
      | none =>
        have E2 : Hid (textsR n (X.take (k + 1)) = textsR n (X.take k)) := by show _ = _; rw [HXI.out, rowOf, hvx]; simp
        rw [hvx] at HV
        simp only at HV
        go_wp2_with (go_at_call 26; go_fit (HV _); rintro e w2 ⟨rfl, hb2⟩)
        go_roundw
        case rel => exact ⟨k + 1, by omega, by go_num, by rw [E2.out]; exact RowsAt.below ⟨cs, hown, hall⟩ hb2, hbel.trans (hb2.mono hsz)⟩
        case measure => simp [intOf]; omega
      | some L =>
        rw [hvx] at HV
        simp only at HV
        have t0 := cell_of_block bT2 (j := 0) rfl
        have t1 := cell_of_block bT2 (j := 1) rfl
        have HF := fun ao c W => planFits_any nmv so n sc ao L.length c W
        by_cases hf : 0 < L.length ∧ L.length = n
        · have E2 : Hid (textsR n (X.take (k + 1)) = textsR n (X.take k) ++ [L]) := by show _ = _; rw [HXI.out, rowOf, hvx]; simp only; rw [if_pos hf]; rfl
          rw [show (decide (0 < L.length) && decide (L.length = n)) = true by rw [decide_eq_true hf.1, decide_eq_true hf.2]; rfl] at HF
          clear hf HXI
          go_wp2_with (first
            | (go_at_call 26; go_fit (HV _); rintro e w2 ⟨⟨lv, rfl, hl2⟩, hb2⟩; obtain ⟨lo2, lc2, rfl⟩ := IsRow.shape (IsRow.of_own hl2); have t2 := cell_of_block ((hb2.block _ (lt_of_block bT2)).trans bT2) (j := 0) rfl; have t3 := cell_of_block ((hb2.block _ (lt_of_block bT2)).trans bT2) (j := 1) rfl)
            | (go_at_call 27; go_fit (HF _ _ _); rintro e w3 ⟨rfl, hb3'⟩; have hB3 : Below wr.heap.size wr (w3.alloc (.cells [.slice lo2 L.length lc2].toArray 44)) := (bthen hb2 hb3').alloc (bthen hb2 hb3').size _; have hown3 := ownsRow_below hown hB3; have hnew := cells_new w3 [.slice lo2 L.length lc2] 44; have hbase : w1.heap.size ≤ (w3.alloc (.cells [.slice lo2 L.length lc2].toArray 44)).heap.size := Nat.le_trans hsz hB3.size)
            | (at_builtin; go_must (refine wpList_append_own_at _ rfl _ _ 26 rfl w1.heap.size 44 i0 (.slice none 0 0) 1 24 Tryz.underlying26 hi0 hz0 hz1 hz2 rfl (by decide) _ _ _ rfl hown3 ⟨w3.heap.size, 0, none⟩ 1 1 [.slice lo2 L.length lc2] rfl rfl hnew ?h1 (by simp only [maxLen]; omega) (by omega) hbase ?h2)))
          case h1 => simp only [List.forall_mem_cons]; repeat (first | exact fun _ h => absurd h List.not_mem_nil | refine ⟨rfl, ?_⟩)
          case h2 =>
            intro z2 w4 hown4 hg4 _ hat
            have hat' : z2.ownBlock = u9.ownBlock ∨ z2.ownBlock = some (w3.alloc (.cells [.slice lo2 L.length lc2].toArray 44)).heap.size := by rw [World.size_alloc]; exact hat
            have hLf : IsL kVal (FO w1.heap.size u9) (w3.alloc (.cells [.slice lo2 L.length lc2].toArray 44)) (.slice lo2 L.length lc2) L :=
              (isL_own hl2 fun k hk => ⟨Nat.le_trans hsz hk, fun e => by have := (ho0 k e.symm).2; omega⟩).keep (keepsB ((bthen hb3' (bel1 _ _))))
            have hst := rowsAt_push hown4 (hall.keep (keepsB hB3)) hLf hg4 hat'
            have hbb : Below w1.heap.size w1 w4 := (hbel.trans (hB3.mono hsz)).grown hg4 hbase fun k hk => (ho0 k hk).1
            go_wp2_with fail
            go_roundw
            case rel => exact ⟨k + 1, by omega, by go_num, by rw [E2.out]; exact hst, hbb⟩
            case measure => simp [intOf]; omega
        · have E2 : Hid (textsR n (X.take (k + 1)) = textsR n (X.take k)) := by show _ = _; rw [HXI.out, rowOf, hvx]; simp only; rw [if_neg hf]; simp
          rw [show (decide (0 < L.length) && decide (L.length = n)) = false by rw [Bool.and_eq_false_iff, decide_eq_false_iff_not, decide_eq_false_iff_not]; omega] at HF
          go_wp2_with (first | (go_at_call 26; go_fit (HV _); rintro e w2 ⟨⟨lv, rfl, hl2⟩, hb2⟩; obtain ⟨lo2, lc2, rfl⟩ := IsRow.shape (IsRow.of_own hl2); have t2 := cell_of_block ((hb2.block _ (lt_of_block bT2)).trans bT2) (j := 0) rfl; have t3 := cell_of_block ((hb2.block _ (lt_of_block bT2)).trans bT2) (j := 1) rfl) | (go_at_call 27; go_fit (HF _ _ _); rintro e w3 ⟨rfl, hb3'⟩))
          go_roundw
          case rel => exact ⟨k + 1, by omega, by go_num, by rw [E2.out]; exact RowsAt.below (RowsAt.below ⟨cs, hown, hall⟩ hb2) hb3', (hbel.trans (hb2.mono hsz)).trans (hb3'.mono (by have := hb2.size; omega))⟩
          case measure => simp [intOf]; omega
    · have hkn : k = X.length := by omega
      subst hkn
      have v1 : ¬ ((X.length : Int) < (X.length : Int)) := by omega
      rw [List.take_length] at hown hall
      go_wp2
      go_ret
      exact ⟨_, rfl, RowsAt.isL ⟨cs, hown, hall⟩ fun k hk => Nat.le_trans hW1.size hk, hW1.trans (hbel.mono hW1.size)⟩

end Go.Proofs.YtkncamggdfmlnaaGreat


/-
  4 texts of this proof in one, in build order: YTypes, YSchemas, XWithin, PMem.
-/
import Derived.Test.YtabanbpnghidhaaJ01
import Derived.Test.YtabanbpnghidhaaJ05
import Derived.Test.YtabanbpnghidhaaJ12
import Derived.Test.YtabanbpnghidhaaJ13
namespace Go.Proofs.Ytabanbpnghidhaa

mutual
theorem bindR_keeps (S : List TabD) : ∀ (e : E) (r : E × Int), bindR S e = .ok r → r.1.nodes = e.nodes ∧ (fitE e → fitE r.1)
  | .mk op x s name n l, r, h => by
    rw [bindR] at h
    split at h
    · obtain rfl := Except.ok.inj h
      exact ⟨rfl, id⟩
    · split at h
      · split at h
        · obtain rfl := Except.ok.inj h
          exact ⟨rfl, fun hf => by rw [fitE] at hf ⊢; exact hf⟩
        · cases h
      · cases hl : bindsR S l with
        | error j => rw [hl] at h; cases h
        | ok rs =>
          rw [hl] at h
          simp only at h
          obtain ⟨h1, h2⟩ := bindsR_keeps S l rs hl
          split at h
          · obtain rfl := Except.ok.inj h
            exact ⟨by simp only [E.nodes, h1], fun hf => by rw [fitE] at hf ⊢; exact ⟨hf.1, h2 hf.2⟩⟩
          · cases h
theorem bindsR_keeps (S : List TabD) : ∀ (l : List E) (rs : List (E × Int)), bindsR S l = .ok rs → nodesL (rs.map Prod.fst) = nodesL l ∧ (fitL l → fitL (rs.map Prod.fst))
  | [], rs, h => by
    rw [bindsR] at h
    obtain rfl := Except.ok.inj h
    exact ⟨rfl, id⟩
  | e :: l, rs, h => by
    rw [bindsR] at h
    cases he : bindR S e with
    | error j => rw [he] at h; cases h
    | ok r =>
      rw [he] at h
      simp only at h
      cases hl : bindsR S l with
      | error j => rw [hl] at h; cases h
      | ok rs' =>
        rw [hl] at h
        obtain rfl := Except.ok.inj h
        obtain ⟨h1, h2⟩ := bindR_keeps S e r he
        obtain ⟨h3, h4⟩ := bindsR_keeps S l rs' hl
        exact ⟨by simp only [List.map_cons, nodesL, h1, h3], fun hf => by rw [fitL] at hf; rw [List.map_cons, fitL]; exact ⟨h2 hf.1, h4 hf.2⟩⟩
end
/-- A row that fits is one of the table's columns. -/
theorem fitsRow_of {t : TabD} {row : List V} (h : fitsRow t row = true) : RowOf t.cols row := by
  simp only [fitsRow, Bool.and_eq_true, decide_eq_true_eq, Bool.not_eq_true'] at h
  refine ⟨h.1, fun i c v hc hv => ?_⟩
  have hi := (List.getElem?_eq_some_iff.1 hc).1
  have := anyI_false h.2 i (Nat.zero_le _) (by omega)
  unfold fitsI at this
  rw [hc, hv] at this
  simp only [Bool.not_eq_false', fitV, Bool.and_eq_true, Bool.or_eq_true, decide_eq_true_eq, Bool.not_eq_true'] at this
  exact ⟨this.1, this.2.elim .inr (fun h => .inl h.2)⟩
/-- What must be of a type comes to it, or to nothing. -/
theorem asR_sound {t : TabD} {row : List V} (hr : RowOf t.cols row) {ty : Int} {d : Nat} {e e' : E} (h : asR [t] ty e = .ok e') (hg : geB d e = true) : OfTy ty (ev row e') ∧ e'.nodes = e.nodes ∧ (fitE e → fitE e') := by
  unfold asR at h
  cases hb : bindR [t] e with
  | error m => rw [hb] at h; cases h
  | ok r =>
    rw [hb] at h
    simp only at h
    split at h
    · rename_i hcb
      obtain rfl := Except.ok.inj h
      have h1 := type_sound (S := [t]) (by simpa [colsOf] using hr) hb hg
      obtain ⟨h2, h3⟩ := bindR_keeps [t] e r hb
      refine ⟨⟨?_, h1.2⟩, h2, h3⟩
      simp only [countsB, Bool.or_eq_true, decide_eq_true_eq] at hcb
      rcases h1.1 with h | h
      · exact .inl h
      · rcases hcb with hc | hc
        · exact .inr (h.trans hc)
        · exact .inl (h.trans hc)
    · cases h
theorem setsR_mem {t : TabD} : ∀ {seen : List Wd} {l rs : List (Wd × E)}, setsR t seen l = .ok rs → ∀ q ∈ rs, ∃ p ∈ l, q.1 = p.1 ∧ 0 ≤ colAt t.cols q.1 ∧ asR [t] (tyAt t.cols q.1) p.2 = .ok q.2
  | seen, [], rs, h, q, hq => by
    simp only [setsR, Except.ok.injEq] at h
    subst h
    cases hq
  | seen, x :: l, rs, h, q, hq => by
    simp only [setsR] at h
    cases hx : setR t seen x with
    | error j => rw [hx] at h; cases h
    | ok r =>
      rw [hx] at h
      simp only at h
      cases hl : setsR t (seen ++ [x.1]) l with
      | error j => rw [hl] at h; cases h
      | ok rs' =>
        rw [hl] at h
        simp only [Except.ok.injEq] at h
        subst h
        rcases List.mem_cons.1 hq with rfl | hq
        · refine ⟨x, List.mem_cons_self, ?_⟩
          unfold setR at hx
          split at hx
          · cases hx
          · split at hx
            · cases hx
            · cases ha : asR [t] (tyAt t.cols x.1) x.2 with
              | error k => rw [ha] at hx; cases hx
              | ok e =>
                rw [ha] at hx
                obtain rfl := Except.ok.inj hx
                exact ⟨rfl, by show 0 ≤ colAt t.cols x.1; omega, ha⟩
        · obtain ⟨p, hp, h1⟩ := setsR_mem hl q hq
          exact ⟨p, List.mem_cons_of_mem _ hp, h1⟩
/-- What a bound update is. -/
theorem bound_update {ct : CatD} {st st2 : Stm} (h : bindStm ct st = .ok st2) (hk : st.kind = 6) : catB ct = true ∧ exprsB st = true ∧ ∃ t, tabOf ct.tables st.table = some t ∧ setsR t [] st.sets = .ok st2.sets ∧ whR [t] st.wher = .ok st2.wher := by
  unfold bindStm at h
  split at h
  · cases h
  · rename_i hn
    have h1 : catB ct = true := by cases hc : catB ct with | true => rfl | false => exact absurd (.inl hc) hn
    have h2 : exprsB st = true := by cases hc : exprsB st with | true => rfl | false => exact absurd (.inr hc) hn
    refine ⟨h1, h2, ?_⟩
    unfold kindR at h
    rw [if_neg (by omega), if_neg (by omega), if_neg (by omega), if_pos (by omega)] at h
    unfold changeR at h
    cases ht : tabOf ct.tables st.table with
    | none => rw [ht] at h; cases h
    | some t =>
      rw [ht] at h
      simp only at h
      cases hr : rowsR t.cols st.rows with
      | error k => rw [hr] at h; cases h
      | ok r =>
        rw [hr] at h
        simp only at h
        cases hs : setsR t [] st.sets with
        | error k => rw [hs] at h; cases h
        | ok q =>
          rw [hs] at h
          simp only at h
          cases hw : whR [t] st.wher with
          | error k => rw [hw] at h; cases h
          | ok e =>
            rw [hw] at h
            obtain rfl := Except.ok.inj h
            exact ⟨t, rfl, hs, hw⟩
/-- A condition comes to a truth, or to nothing. -/
theorem wh_sound {t : TabD} {row : List V} (hr : RowOf t.cols row) {e e' : E} (h : whR [t] e = .ok e') (hg : e.opn ≠ 0 → geB 40 e = true) : ((ev row e').k = 0 ∨ (ev row e').k = 3) ∧ e'.nodes = e.nodes ∧ (fitE e → fitE e') := by
  unfold whR at h
  split at h
  · rename_i h0
    obtain rfl := Except.ok.inj h
    refine ⟨.inl ?_, rfl, id⟩
    obtain ⟨op, x, s, name, n, l⟩ := e
    simp only [E.opn] at h0
    subst h0
    rw [ev_kids]
    have : kidsOf 0 l = [] := by
      unfold kidsOf
      split
      · rename_i h
        exact List.eq_nil_of_length_eq_zero h
      · rfl
    rw [this]
    rfl
  · rename_i h0
    have := asR_sound hr h (hg h0)
    exact ⟨this.1.1, this.2⟩
theorem cat_types {ct : CatD} (h : catB ct = true) {s : Wd} {t : TabD} (ht : tabOf ct.tables s = some t) : ∀ c ∈ t.cols, c.ty = 1 ∨ c.ty = 2 := by
  simp only [catB, Bool.and_eq_true, tabsB, Bool.not_eq_true', decide_eq_true_eq] at h
  obtain ⟨⟨_, h2, _⟩, _⟩ := h
  rw [anyI_list] at h2
  have := (List.any_eq_false.1 h2) t (tabOf_mem ht)
  simp only [Bool.not_eq_true', Bool.not_eq_false, tabB, Bool.and_eq_true, decide_eq_true_eq, colsB] at this
  intro c hc
  obtain ⟨i, hi, rfl⟩ := List.getElem_of_mem hc
  have h3 := anyI_false (by simpa using this.2) i (Nat.zero_le _) (by omega)
  simp only [colBad, List.getElem?_eq_getElem hi] at h3
  simp only [Bool.or_eq_false_iff, Bool.not_eq_false', colOK, Bool.and_eq_true, Bool.or_eq_true, decide_eq_true_eq] at h3
  exact h3.1.2

end Go.Proofs.Ytabanbpnghidhaa

namespace Go.Proofs.Ytabanbpnghidhaa
open Go.RowKit Go.Maps

abbrev wA : Wd := ⟨#[97]⟩
abbrev wT : Wd := ⟨#[116]⟩
def tT : TabD := ⟨wT, [⟨wA, 1, true⟩]⟩
def cT : CatD := ⟨[tT], []⟩
def sT : Stm := ⟨7, noW, noW, noW, [], [], [], [wT], [], .mk 0 zero noW noW 0 [], [], false, -1⟩
theorem good_cT : catB cT = true := by kernel_rfl
theorem bind_sT : bindStm cT sT = .ok { sT with out := [.mk 2 zero wT wA 0 []] } := by kernel_rfl
theorem one_cols {W : World} {q : Nat} {x : ColD} {ty : TypeId} (hq : W.heap[q]? = some (.cells #[.string x.name, .int .i64 x.ty, .bool x.must] ty)) : IsL kCol (fun k => k < W.heap.size) W (.slice (some ⟨q, 0, none⟩) 1 1) [x] := by
  refine ⟨[.string x.name, .int .i64 x.ty, .bool x.must], ⟨rfl, .inr ⟨Nat.one_pos, q, 0, 1, rfl, lt_of_block hq, lt_of_block hq, Nat.le_refl _, by decide, fun j u hj => ?_⟩⟩, All.one rfl⟩
  rw [Nat.zero_add]
  exact cell_of_block hq (by simpa using hj)
theorem one_strs {W : World} {q : Nat} {x : Wd} {ty : TypeId} (hq : W.heap[q]? = some (.cells #[.string x] ty)) : IsL kStr (fun k => k < W.heap.size) W (.slice (some ⟨q, 0, none⟩) 1 1) [x] := by
  refine ⟨[.string x], ⟨rfl, .inr ⟨Nat.one_pos, q, 0, 1, rfl, lt_of_block hq, lt_of_block hq, Nat.le_refl _, by decide, fun j u hj => ?_⟩⟩, All.one rfl⟩
  rw [Nat.zero_add]
  exact cell_of_block hq (by simpa using hj)
theorem fit_cT : fitCat cT := by
  refine ⟨fun t ht => ?_, fun x hx => by cases hx⟩
  obtain rfl : t = tT := by simpa [cT] using ht
  exact ⟨by decide, fun x hx => by
    obtain rfl : x = ⟨wA, 1, true⟩ := by simpa [tT] using hx
    decide⟩
theorem frm_sT : ∀ x ∈ sT.frm, x.size ≤ maxLen := by
  intro x hx
  obtain rfl : x = wT := by simpa [sT] using hx
  decide
theorem fit_sT : FitB sT where
  fs := ⟨fun r hr => (by cases hr), fun r hr => (by cases hr), trivial, trivial, ⟨by decide, by decide, by decide, trivial⟩, by decide, by decide, by decide, fun x hx => (by cases hx), frm_sT⟩
  nm := by decide
  cols := fun x hx => by cases hx
  rows := by decide
  row := fun r hr => by cases hr
  sets := by decide
  set := fun r hr => by cases hr
  out := by decide
  order := by decide
  frm := frm_sT

set_option maxRecDepth 100000 in
set_option maxHeartbeats 8000000 in
theorem schemas_any (w : World) : Calls Try.prog 6 #[] w fun e w' => e = .returned (.bool true) ∧ Below w.heap.size w w' := by
  have hb4 : Below w.heap.size w ((((w.alloc (.cells #[.string wA, .int .i64 1, .bool true] 56)).alloc (.cells #[.string wT, .slice (some ⟨w.heap.size, 0, none⟩) 1 1] 43)).alloc (.cells #[.slice (some ⟨w.heap.size + 1, 0, none⟩) 1 1, .slice none 0 0] 25)).alloc (.cells #[.string wT] 9)) := (bel3 w _ _ _).alloc (by simp; omega) _
  have B0 : ((((w.alloc (.cells #[.string wA, .int .i64 1, .bool true] 56)).alloc (.cells #[.string wT, .slice (some ⟨w.heap.size, 0, none⟩) 1 1] 43)).alloc (.cells #[.slice (some ⟨w.heap.size + 1, 0, none⟩) 1 1, .slice none 0 0] 25)).alloc (.cells #[.string wT] 9)).heap[w.heap.size]? = some (.cells #[.string wA, .int .i64 1, .bool true] 56) := block_alloc_of (block_alloc_of (block_alloc_of (block_alloc_at _ _) _) _) _
  have B1 : ((((w.alloc (.cells #[.string wA, .int .i64 1, .bool true] 56)).alloc (.cells #[.string wT, .slice (some ⟨w.heap.size, 0, none⟩) 1 1] 43)).alloc (.cells #[.slice (some ⟨w.heap.size + 1, 0, none⟩) 1 1, .slice none 0 0] 25)).alloc (.cells #[.string wT] 9)).heap[w.heap.size + 1]? = some (.cells #[.string wT, .slice (some ⟨w.heap.size, 0, none⟩) 1 1] 43) := block_alloc_of (block_alloc_of (block2 _ _ _) _) _
  have B2 : ((((w.alloc (.cells #[.string wA, .int .i64 1, .bool true] 56)).alloc (.cells #[.string wT, .slice (some ⟨w.heap.size, 0, none⟩) 1 1] 43)).alloc (.cells #[.slice (some ⟨w.heap.size + 1, 0, none⟩) 1 1, .slice none 0 0] 25)).alloc (.cells #[.string wT] 9)).heap[w.heap.size + 1 + 1]? = some (.cells #[.slice (some ⟨w.heap.size + 1, 0, none⟩) 1 1, .slice none 0 0] 25) := block_alloc_of (block3 _ _ _ _) _
  have B3 : ((((w.alloc (.cells #[.string wA, .int .i64 1, .bool true] 56)).alloc (.cells #[.string wT, .slice (some ⟨w.heap.size, 0, none⟩) 1 1] 43)).alloc (.cells #[.slice (some ⟨w.heap.size + 1, 0, none⟩) 1 1, .slice none 0 0] 25)).alloc (.cells #[.string wT] 9)).heap[w.heap.size + 1 + 1 + 1]? = some (.cells #[.string wT] 9) := by
    have h := block_alloc_at (((w.alloc (.cells #[.string wA, .int .i64 1, .bool true] 56)).alloc (.cells #[.string wT, .slice (some ⟨w.heap.size, 0, none⟩) 1 1] 43)).alloc (.cells #[.slice (some ⟨w.heap.size + 1, 0, none⟩) 1 1, .slice none 0 0] 25)) (.cells #[.string wT] 9)
    rwa [show (((w.alloc (.cells #[.string wA, .int .i64 1, .bool true] 56)).alloc (.cells #[.string wT, .slice (some ⟨w.heap.size, 0, none⟩) 1 1] 43)).alloc (.cells #[.slice (some ⟨w.heap.size + 1, 0, none⟩) 1 1, .slice none 0 0] 25)).heap.size = w.heap.size + 1 + 1 + 1 by simp] at h
  generalize hW : ((((w.alloc (.cells #[.string wA, .int .i64 1, .bool true] 56)).alloc (.cells #[.string wT, .slice (some ⟨w.heap.size, 0, none⟩) 1 1] 43)).alloc (.cells #[.slice (some ⟨w.heap.size + 1, 0, none⟩) 1 1, .slice none 0 0] 25)).alloc (.cells #[.string wT] 9)) = W at hb4 B0 B1 B2 B3
  have hcat : IsCat (fun k => k < W.heap.size) W cT (.agg #[.slice (some ⟨w.heap.size + 1, 0, none⟩) 1 1, .slice none 0 0]) := ⟨_, _, rfl, one_tab B1 (one_cols (x := ⟨wA, 1, true⟩) B0), IsL.nil _ _ _⟩
  have hstm : kStm.R (fun k => k < W.heap.size) W sT (sA 7 noW noW noW (.slice none 0 0) (.slice none 0 0) (.slice none 0 0) (.slice (some ⟨w.heap.size + 1 + 1 + 1, 0, none⟩) 1 1) (.slice none 0 0) 0 0 0 noW noW noW 0 (.slice none 0 0) (.slice none 0 0) false (-1)).toList := isS_mk (IsL.nil _ _ _) (IsL.nil _ _ _) (IsL.nil _ _ _) (one_strs B3) (IsL.nil _ _ _) (isE_leaf (op := 0) (x := zero) (s := noW) (name := noW) (n := 0) (ao := none) (c := 0) fun _ => rfl) (IsL.nil _ _ _)
  have HB := bindS_any cT _ sT _ W.heap.size W hcat hstm (Nat.le_refl _) fit_cT fit_sT
  have HG := fun (V : World) (h : Below W.heap.size W V) => good_cat cT _ W.heap.size V (hcat.keep (keepsC h)) h.size fit_cT
  rw [good_cT] at HG
  rw [bind_sT] at HB
  have HB2 := HB.mono (R' := fun r w' => ∃ o1 k1 c1 o2 k2 c2 o3 k3 c3 o4 k4 c4 b5 off5 c5 op xk xn xs s nmv n8 o6 k6 c6 o7 k7 c7 d n, r = .returned (.tuple #[.agg (sA 7 noW noW noW (.slice o1 k1 c1) (.slice o2 k2 c2) (.slice o3 k3 c3) (.slice o4 k4 c4) (.slice (some ⟨b5, off5, none⟩) 1 c5) op xk xn xs s nmv n8 (.slice o6 k6 c6) (.slice o7 k7 c7) d n), .int .i64 0]) ∧ w'.cell? ⟨b5, off5 + 5, none⟩ = some (.string wA) ∧ b5 < w'.heap.size ∧ Below W.heap.size W w') (by
    rintro r w' ⟨⟨v, rfl, arr, rfl, ha1, ha2, hR⟩, hb'⟩
    obtain ⟨o1, c1, o2, c2, o3, c3, o4, c4, o5, c5, op, xk, xn, xs, s, nmv, n8, o6, k6, c6, o7, c7, harr, i1, i2, i3, i4, i5, i6, i7⟩ := stm_shape hR
    obtain rfl := Array.toList_inj.1 harr
    obtain ⟨b, off, cs, rfl, hbC, hb, hRe, hcell⟩ := isL_get i5 (i := 0) rfl
    obtain ⟨hl8, hE⟩ := hRe
    obtain ⟨op', x', s', name', n', ao', k', c', hq, _⟩ := e_shape hE
    obtain ⟨sv, hq2, _⟩ := hE.open
    have hcs : cs = (eArr 2 zero wT wA 0 sv).toList := by
      have := congrArg Array.toList (Value.agg.inj hq2)
      simpa using this
    subst hcs
    have h5 := hcell 5 _ rfl
    simp only [kExpr, Nat.zero_mul, Nat.add_zero] at h5
    exact ⟨o1, _, c1, o2, _, c2, o3, _, c3, o4, _, c4, b, off, c5, op, xk, xn, xs, s, nmv, n8, o6, k6, c6, o7, _, c7, _, _, rfl, h5, hb, hb'⟩)
  have HW : Hid _ := hW
  clear hW HB hcat hstm
  have c20 := cell_of_block B2 (j := 0) rfl
  have c21 := cell_of_block B2 (j := 1) rfl
  have hlt2 := lt_of_block B2
  go_enter Try.func6, Try.ntmps6
  go_wp2_with (first
    | (go_at_call 5; rw [HW.out]; refine HB2.mono ?_; rintro r w1 ⟨o1, k1, c1, o2, k2, c2, o3, k3, c3, o4, k4, c4, b5, off5, c5, op, xk, xn, xs, s, nmv, n8, o6, k6, c6, o7, k7, c7, d, n, rfl, h5, hb5, hb1⟩; have hnew := block_alloc_at w1 (.cells sZero 36); have hone : (sA 7 noW noW noW (.slice o1 k1 c1) (.slice o2 k2 c2) (.slice o3 k3 c3) (.slice o4 k4 c4) (.slice (some ⟨b5, off5, none⟩) 1 c5) op xk xn xs s nmv n8 (.slice o6 k6 c6) (.slice o7 k7 c7) d n).all (·.oneCell') = true := one_sA (isSl _ _ _) (isSl _ _ _) (isSl _ _ _) (isSl _ _ _) (isSl _ _ _) (isSl _ _ _) (isSl _ _ _); have hbV : Below W.heap.size W ((w1.alloc (.cells sZero 36)).setRow w1.heap.size (sA 7 noW noW noW (.slice o1 k1 c1) (.slice o2 k2 c2) (.slice o3 k3 c3) (.slice o4 k4 c4) (.slice (some ⟨b5, off5, none⟩) 1 c5) op xk xn xs s nmv n8 (.slice o6 k6 c6) (.slice o7 k7 c7) d n)) := Below.row (hb1.alloc hb1.size _) hb1.size _; have y0 := (hbV.cell (p := ⟨w.heap.size + 1 + 1, 0, none⟩) hlt2).trans c20; have y1 := (hbV.cell (p := ⟨w.heap.size + 1 + 1, 1, none⟩) hlt2).trans c21; have hbox := block_row (cells := (sA 7 noW noW noW (.slice o1 k1 c1) (.slice o2 k2 c2) (.slice o3 k3 c3) (.slice o4 k4 c4) (.slice (some ⟨b5, off5, none⟩) 1 c5) op xk xn xs s nmv n8 (.slice o6 k6 c6) (.slice o7 k7 c7) d n)) hnew; have hb5' : ((w1.alloc (.cells sZero 36)).setRow w1.heap.size (sA 7 noW noW noW (.slice o1 k1 c1) (.slice o2 k2 c2) (.slice o3 k3 c3) (.slice o4 k4 c4) (.slice (some ⟨b5, off5, none⟩) 1 c5) op xk xn xs s nmv n8 (.slice o6 k6 c6) (.slice o7 k7 c7) d n)).cell? ⟨b5, off5 + 5, none⟩ = some (.string wA) := ((Below.row ((Below.refl w1.heap.size w1).alloc (Nat.le_refl _) _) (Nat.le_refl _) _).cell (p := ⟨b5, off5 + 5, none⟩) hb5).trans h5; have HG1 := HG _ hbV)
    | (refine wpList_store_row rfl 36 _ _ rfl w1.heap.size (sA 7 noW noW noW (.slice o1 k1 c1) (.slice o2 k2 c2) (.slice o3 k3 c3) (.slice o4 k4 c4) (.slice (some ⟨b5, off5, none⟩) 1 c5) op xk xn xs s nmv n8 (.slice o6 k6 c6) (.slice o7 k7 c7) d n) ?_ ?_ 36 sZero ?_ ?_ ?_ ?_ ?_; exact rfl; exact rfl; exact hnew; exact size_stm; exact rfl; exact hone)
    | (go_at_call 9; go_fit HG1; rintro e w3 ⟨rfl, hb3⟩; have z8 := cell_of_block ((hb3.block _ (lt_of_block hbox)).trans hbox) (j := 8) rfl; have z5 := (hb3.cell (p := ⟨b5, off5 + 5, none⟩) (Nat.lt_of_lt_of_le hb5 (by simp [World.setRow]))).trans hb5'))
  go_ret
  exact ⟨rfl, bthen hb4 (bthen hbV hb3)⟩

end Go.Proofs.Ytabanbpnghidhaa

namespace Go.Proofs.Ytabanbpnghidhaa
open Go.RowKit

/-- What the first arguments came to. -/
def Had (row : List V) (K : List E) (r : Nat) (w : World) (g : Nat) : Prop :=
  ∃ arr : Array Value, w.heap[g]? = some (.cells arr 97 (0, 0)) ∧ arr.size = 6 ∧
    ∀ (j : Nat) (x : E), j < r → K[j]? = some x → arr[j * 3]? = some (.int .i64 (ev row x).k) ∧ arr[j * 3 + 1]? = some (.int .i64 (ev row x).n) ∧ arr[j * 3 + 2]? = some (.string (ev row x).s)
theorem Had.keep {row : List V} {K : List E} {r : Nat} {w w' : World} {g : Nat} (h : Had row K r w g) (hb : w'.heap[g]? = w.heap[g]?) : Had row K r w' g := by
  obtain ⟨arr, h1, h2⟩ := h
  exact ⟨arr, hb.trans h1, h2⟩
theorem Had.lt {row : List V} {K : List E} {r : Nat} {w : World} {g : Nat} (h : Had row K r w g) : g < w.heap.size := by
  obtain ⟨arr, h1, _⟩ := h
  exact lt_of_block h1
theorem Had.cell {row : List V} {K : List E} {r : Nat} {w : World} {g : Nat} (h : Had row K r w g) {j : Nat} (hj : j < 6) : ∃ u, w.cell? ⟨g, j, none⟩ = some u := by
  obtain ⟨arr, h1, h2, _⟩ := h
  exact ⟨_, cell_of_block h1 (Array.getElem?_eq_getElem (by omega : j < arr.size))⟩
theorem Had.free {row : List V} {K : List E} {r : Nat} {w : World} {g : Nat} (h : Had row K r w g) (o : Nat) : w.frozen? ⟨g, o, none⟩ = false := by
  obtain ⟨arr, h1, _⟩ := h
  simp [World.frozen?, h1]
theorem Had.set {row : List V} {K : List E} {r : Nat} {w : World} {g : Nat} (h : Had row K r w g) {x : E} (hx : K[r]? = some x) (hr : r < 2) (v : V) (hv : v = ev row x) :
    Had row K (r + 1) (((w.setCell ⟨g, r * 3, none⟩ (.int .i64 v.k)).setCell ⟨g, r * 3 + 1, none⟩ (.int .i64 v.n)).setCell ⟨g, r * 3 + 2, none⟩ (.string v.s)) g := by
  obtain ⟨arr, h1, h2, h3⟩ := h
  refine ⟨_, set_at (set_at (set_at h1 _ _) _ _) _ _, by simp [h2], fun j y hj hy => ?_⟩
  by_cases hjr : j = r
  · subst hjr
    rw [hx] at hy
    cases hy
    subst hv
    refine ⟨?_, ?_, ?_⟩
    all_goals simp [Array.getElem?_setIfInBounds, h2]; try omega
  · obtain ⟨a0, a1, a2⟩ := h3 j y (by omega) hy
    have n0 : r * 3 ≠ j * 3 := by omega
    have n1 : r * 3 + 1 ≠ j * 3 := by omega
    have n2 : r * 3 + 2 ≠ j * 3 := by omega
    have n3 : r * 3 ≠ j * 3 + 1 := by omega
    have n4 : r * 3 + 1 ≠ j * 3 + 1 := by omega
    have n5 : r * 3 + 2 ≠ j * 3 + 1 := by omega
    have n6 : r * 3 ≠ j * 3 + 2 := by omega
    have n7 : r * 3 + 1 ≠ j * 3 + 2 := by omega
    have n8 : r * 3 + 2 ≠ j * 3 + 2 := by omega
    refine ⟨?_, ?_, ?_⟩
    · rw [Array.getElem?_setIfInBounds_ne n2, Array.getElem?_setIfInBounds_ne n1, Array.getElem?_setIfInBounds_ne n0]; exact a0
    · rw [Array.getElem?_setIfInBounds_ne n5, Array.getElem?_setIfInBounds_ne n4, Array.getElem?_setIfInBounds_ne n3]; exact a1
    · rw [Array.getElem?_setIfInBounds_ne n8, Array.getElem?_setIfInBounds_ne n7, Array.getElem?_setIfInBounds_ne n6]; exact a2
theorem Had.vals {row : List V} {K : List E} {w : World} {g : Nat} (h : Had row K K.length w g) : IsVals w (.slice (some ⟨g, 0, none⟩) K.length 2) (K.map (ev row)) := by
  refine .inr ⟨g, 0, 2, by rw [List.length_map], h.lt, fun i v hi => ?_⟩
  obtain ⟨arr, h1, h2, h3⟩ := h
  rw [List.getElem?_map] at hi
  cases hk : K[i]? with
  | none => rw [hk] at hi; cases hi
  | some y =>
    rw [hk] at hi
    simp at hi
    subst hi
    obtain ⟨a0, a1, a2⟩ := h3 i y (List.getElem?_eq_some_iff.1 hk).1 hk
    rw [Nat.zero_add]
    exact ⟨cell_of_block h1 a0, cell_of_block h1 a1, cell_of_block h1 a2⟩
theorem heap_set3 {w : World} {g k : Nat} (h : k ≠ g) (a b c : Nat) (x y z : Value) : (((w.setCell ⟨g, a, none⟩ x).setCell ⟨g, b, none⟩ y).setCell ⟨g, c, none⟩ z).heap[k]? = w.heap[k]? := by
  rw [Below.heap_setCell _ _ _ _ h, Below.heap_setCell _ _ _ _ h, Below.heap_setCell _ _ _ _ h]
theorem size_set3 (w : World) (g a b c : Nat) (x y z : Value) : (((w.setCell ⟨g, a, none⟩ x).setCell ⟨g, b, none⟩ y).setCell ⟨g, c, none⟩ z).heap.size = w.heap.size := by simp [World.setCell]
theorem nodesL_mem : ∀ {l : List E} {x : E}, x ∈ l → x.nodes ≤ nodesL l
  | y :: l, x, h => by
    rw [nodesL]
    rcases List.mem_cons.1 h with rfl | h
    · omega
    · have := nodesL_mem h; omega
theorem nodes_mem {e x : E} (h : x ∈ e.kids) : x.nodes ≤ e.nodes := by
  have := nodesL_mem h
  have := nodes_kids e
  omega

/-- What evalWithin promises, with so many calls within each other. -/
def WithinSays (m : Nat) : Prop := ∀ (e : E) (v rv : Value) (row : List V) (C : Nat) (w : World), IsE (fun k => k < C) w e v → C ≤ w.heap.size → e.nodes ≤ 16777216 → fitE e → IsVals w rv row → (∀ v ∈ row, v.s.size ≤ maxLen) → row.length ≤ maxLen →
    Calls Try.prog 30 #[v, rv, .int .i64 (m : Int)] w fun r w' => r = .returned (ev row e).val ∧ Below w.heap.size w w'

set_option maxRecDepth 100000 in
set_option maxHeartbeats 4000000 in
theorem within_zero : WithinSays 0 := by
  intro e v rv row C w he hC hn hf hr hrs hrl
  obtain ⟨op, ⟨xk, xn, xs⟩, s, name, n, ao, k, c, rfl⟩ := he.shape
  obtain ⟨ro, rc, rfl⟩ := hr.shape
  have hb2 : Below w.heap.size w ((w.alloc (.cells (eArr op ⟨xk, xn, xs⟩ s name n (.slice ao k c)) 34)).alloc (.cells #[.int .i64 0, .int .i64 0, .string noW] 32)) := bel2 _ _ _
  have hW := evalFlat_any e _ _ row C _ (IsE.keep (keepsC (hb2.mono hC)) e _ he) (Nat.le_trans hC hb2.size) hn hf (hr.below hb2) hrs hrl
  generalize ev row e = z at hW ⊢
  obtain ⟨zk, zn, zs⟩ := z
  simp only [V.val] at hW
  show Calls Try.prog 30 #[_, _, .int .i64 0] w _
  go_enter Try.func30, Try.ntmps30
  go_wp2_with (first | (go_at_call 64; refine hW.mono ?_; rintro r1 w1 ⟨rfl, hb1⟩; obtain ⟨hcc, hff⟩ := bcell hb1))
  exact end_val ⟨zk, zn, zs⟩ Try.results30 rfl rfl ((hb1.block _ (by simp)).trans (block2 _ _ _)) (bthen (bel2 _ _ _) hb1) (by omega)

set_option maxRecDepth 100000 in
set_option maxHeartbeats 4000000 in
theorem within_succ (m : Nat) (hm : m < 1000) (ih : WithinSays m) : WithinSays (m + 1) := by
  intro e v rv row C w he hC hn hf hr hrs hrl
  have H0 : ∃ op xk xn xs s name n ao c l, e = .mk op ⟨xk, xn, xs⟩ s name n l ∧ v = .agg (eArr op ⟨xk, xn, xs⟩ s name n (.slice ao l.length c)) ∧ IsEs (fun k => k < C) w (.slice ao l.length c) l := by
    cases e with
    | mk op x s name n l =>
      obtain ⟨sv, h1, h2⟩ := he.open
      obtain ⟨ao, c, rfl⟩ := h2.shape
      obtain ⟨xk, xn, xs⟩ := x
      exact ⟨op, xk, xn, xs, s, name, n, ao, c, l, rfl, h1, h2⟩
  obtain ⟨op, xk, xn, xs, s, name, n, ao, c, l, rfl, rfl, hes⟩ := H0
  obtain ⟨ro, rc, rfl⟩ := hr.shape
  clear he
  have hb3 : Below w.heap.size w (((w.alloc (.cells (eArr op ⟨xk, xn, xs⟩ s name n (.slice ao l.length c)) 34)).alloc (.cells #[.int .i64 0, .int .i64 0, .string noW] 32)).alloc (.cells #[.int .i64 0, .int .i64 0, .string noW, .int .i64 0, .int .i64 0, .string noW] 97)) := bel3 _ _ _ _
  have ha := arguments_kids op ⟨xk, xn, xs⟩ s name n ao c l _ (hes.keep (keepsC (hb3.mono hC))) (Nat.le_trans hC hb3.size)
  have hkl : (kidsOf op l).length ≤ 2 := kids_le (.mk op ⟨xk, xn, xs⟩ s name n l)
  have hkn : Hid (∀ x ∈ kidsOf op l, x.nodes ≤ 16777216 ∧ fitE x) := fun x hx => ⟨Nat.le_trans (nodes_mem (e := .mk op ⟨xk, xn, xs⟩ s name n l) hx) hn, fitE_kids hf x hx⟩
  have HEV : Hid (ev row (.mk op ⟨xk, xn, xs⟩ s name n l) = appV op ⟨xk, xn, xs⟩ n ((kidsOf op l).map (ev row)) row) := ev_kids _ _ _ _ _ _ _
  generalize kidsOf op l = K at ha hkl hkn HEV
  have m0 : (0 : Int) < (m : Int) + 1 := by omega
  have m1 : IntKind.i64.wrap ((m : Int) + 1 - 1) = (m : Int) := by rw [IntKind.wrap_i64]; omega
  rw [show ((m + 1 : Nat) : Int) = (m : Int) + 1 from by omega]
  go_enter Try.func30, Try.ntmps30
  go_wp2_with (first | (go_at_call 65; refine ha.mono ?_; rintro e1 w1 ⟨ko, kc, rfl, hk1, hb1⟩))
  have hbw : Below w.heap.size w w1 := bthen hb3 hb1
  have hE1 : w1.heap[w.heap.size]? = some (.cells (eArr op ⟨xk, xn, xs⟩ s name n (.slice ao l.length c)) 34) := (hb1.block _ (by simp; omega)).trans (block_alloc_of (block_alloc_of (block_alloc_at _ _) _) _)
  have hR1 : w1.heap[w.heap.size + 1]? = some (.cells #[.int .i64 0, .int .i64 0, .string noW] 32) := (hb1.block _ (by simp)).trans (block_alloc_of (block2 _ _ _) _)
  have hG1 : Had row K 0 w1 (w.heap.size + 1 + 1) := ⟨_, (hb1.block _ (by simp)).trans (block3 _ _ _ _), rfl, fun j x hj => absurd hj (by omega)⟩
  clear hb1 ha hb3 hes
  go_loopw [20] (fun i wr => ∃ j : Nat, j ≤ K.length ∧ i = .int .i64 j ∧ Had row K j wr (w.heap.size + 1 + 1) ∧ wr.heap[w.heap.size]? = some (.cells (eArr op ⟨xk, xn, xs⟩ s name n (.slice ao l.length c)) 34) ∧ wr.heap[w.heap.size + 1]? = some (.cells #[.int .i64 0, .int .i64 0, .string noW] 32) ∧ Below w.heap.size w wr ∧ w1.heap.size ≤ wr.heap.size) (fun i _ => K.length - (intOf i).toNat)
  case atStart => exact ⟨0, Nat.zero_le _, rfl, hG1, hE1, hR1, hbw, Nat.le_refl _⟩
  case round =>
    obtain ⟨j, hj, rfl, hG, hE, hR, hbel, hsz⟩ := hrel
    have hkr : IsEs (fun k => k < C) wr (.slice ko K.length kc) K := hk1.keep ⟨hsz, fun k hk _ => (hbel.block k (by omega)).trans (hbw.block k (by omega)).symm⟩
    clear hE1 hR1 hG1
    by_cases hjk : j < K.length
    · obtain ⟨y, hy⟩ : ∃ y, K[j]? = some y := ⟨_, List.getElem?_eq_getElem hjk⟩
      obtain ⟨hyn, hyf⟩ := hkn.out y (List.mem_of_getElem? hy)
      obtain ⟨cs, hrB, haE⟩ := hkr
      obtain ⟨kb, kf, rfl⟩ : ∃ kb kf, ko = some ⟨kb, kf, none⟩ := by
        rcases hrB.2 with ⟨h1, _⟩ | ⟨_, kb, kf, kc', h2, _⟩
        · omega
        · cases h2; exact ⟨kb, kf, rfl⟩
      obtain ⟨yo, yk, yn, yt, ys, ym, yi, ya, yl, yc, hye, hyc⟩ := row_elem hrB haE hy
      obtain ⟨c0, c1, c2, c3, c4, c5, c6, c7⟩ := hyc wr (Below.refl _ _)
      have j0 : (0 : Int) ≤ (j : Int) := by omega
      have j1 : (j : Int) < (K.length : Int) := by omega
      have j2 : (j : Int) < 2 := by omega
      have HY : Hid (K[j]? = some y) := hy
      clear hy hyc hrB haE
      have hba : Below wr.heap.size wr (wr.alloc (.cells #[.int .i64 yo, .int .i64 yk, .int .i64 yn, .string yt, .string ys, .string ym, .int .i64 yi, .slice ya yl yc] 34)) := bel1 _ _
      have hW := ih y _ _ row C _ (IsE.keep (keepsC (hba.mono (Nat.le_trans hC hbel.size))) y _ hye) (Nat.le_trans (Nat.le_trans hC hbel.size) hba.size) hyn hyf ((hr.below hbel).below hba) hrs hrl
      generalize hz : ev row y = z at hW
      obtain ⟨zk, zn, zs⟩ := z
      simp only [V.val] at hW
      have hglt := hG.lt
      have hG2 := hG.keep (hba.block _ hglt)
      obtain ⟨u0, hu0⟩ := hG2.cell (j := j * 3) (by omega)
      obtain ⟨u1, hu1⟩ := hG2.cell (j := j * 3 + 1) (by omega)
      obtain ⟨u2, hu2⟩ := hG2.cell (j := j * 3 + 2) (by omega)
      have huf := hG2.free
      have hglt2 := hG2.lt
      go_wp2_with (first | (go_at_call 30; refine hW.mono ?_; rintro r1 w2 ⟨rfl, hb2⟩; have q1 := (fun o => hb2.cell (p := ⟨w.heap.size + 1 + 1, o, none⟩) hglt2); have q2 := (fun o => hb2.frozen (p := ⟨w.heap.size + 1 + 1, o, none⟩) hglt2)))
      have hbw2 : Below w.heap.size w w2 := hbel.trans ((bthen hba hb2).mono hbel.size)
      have hlt0 := lt_of_block hE
      have hlt1 := lt_of_block hR
      go_roundw
      case rel =>
        refine ⟨j + 1, by omega, by go_num, (hG2.keep (hb2.block _ hglt2)).set HY.out (by omega) ⟨zk, zn, zs⟩ hz.symm, ?_, ?_, ?_, ?_⟩
        · rw [heap_set3 (by omega)]; exact ((bthen hba hb2).block _ hlt0).trans hE
        · rw [heap_set3 (by omega)]; exact ((bthen hba hb2).block _ hlt1).trans hR
        · exact ((hbw2.setCell (show w.heap.size ≤ w.heap.size + 1 + 1 by omega) _).setCell (show w.heap.size ≤ w.heap.size + 1 + 1 by omega) _).setCell (show w.heap.size ≤ w.heap.size + 1 + 1 by omega) _
        · rw [size_set3]; exact Nat.le_trans hsz (bthen hba hb2).size
      case measure => simp [intOf]; omega
    · have hjK : j = K.length := by omega
      subst hjK
      have hcs := hG.vals
      have hsm : ∀ v ∈ K.map (ev row), v.s.size ≤ maxLen := by
        intro v hv
        obtain ⟨y, hy, rfl⟩ := List.mem_map.1 hv
        exact small_ev row hrs y (hkn.out y hy).2
      have hap := fun W (hW : Below wr.heap.size wr W) => apply_any op ⟨xk, xn, xs⟩ s name n ao l.length c _ (.slice ro row.length rc) _ row W (hcs.below hW) hsm ((hr.below hbel).below hW) hrl
      rw [← HEV.out] at hap
      have c0 := cell_of_block hE (j := 0) rfl
      have c1 := cell_of_block hE (j := 1) rfl
      have c2 := cell_of_block hE (j := 2) rfl
      have c3 := cell_of_block hE (j := 3) rfl
      have c4 := cell_of_block hE (j := 4) rfl
      have c5 := cell_of_block hE (j := 5) rfl
      have c6 := cell_of_block hE (j := 6) rfl
      have c7 := cell_of_block hE (j := 7) rfl
      have r0 := cell_of_block hR (j := 0) rfl
      have r1 := cell_of_block hR (j := 1) rfl
      have r2 := cell_of_block hR (j := 2) rfl
      have rf : ∀ o, wr.frozen? ⟨w.heap.size + 1, o, none⟩ = false := fun o => by simp [World.frozen?, hR]
      have hlt0 := lt_of_block hE
      have hlt1 := lt_of_block hR
      have s0 : (0 : Int) ≤ (K.length : Int) := by omega
      have s1 : (K.length : Int) ≤ 2 := by omega
      generalize hz : ev row (.mk op ⟨xk, xn, xs⟩ s name n l) = z at hap
      obtain ⟨zk, zn, zs⟩ := z
      simp only [V.val] at hap
      clear hcs hsm hkr hk1 HEV hE
      go_wp2
      go_region_held3 (fun w' => w'.cell? ⟨w.heap.size, 0, none⟩ = some (.int .i64 op) ∧ w'.cell? ⟨w.heap.size, 1, none⟩ = some (.int .i64 xk) ∧ w'.cell? ⟨w.heap.size, 2, none⟩ = some (.int .i64 xn) ∧ w'.cell? ⟨w.heap.size, 3, none⟩ = some (.string xs) ∧ w'.cell? ⟨w.heap.size, 4, none⟩ = some (.string s) ∧ w'.cell? ⟨w.heap.size, 5, none⟩ = some (.string name) ∧ w'.cell? ⟨w.heap.size, 6, none⟩ = some (.int .i64 n) ∧ w'.cell? ⟨w.heap.size, 7, none⟩ = some (.slice ao l.length c)) (first | (go_keep; done) | ((try dsimp only); (repeat' apply And.intro) <;> (rw [cell_set_ne (by omega), cell_set_ne (by omega), cell_set_ne (by omega)]; first | assumption | go_keep | simp_all)))
        (first | (go_at_call 66; go_fit (hap _ (Below.refl _ _).drew); rintro e2 w3 ⟨rfl, hb3⟩; obtain ⟨q1, q2, q3, q4⟩ := four (a := w.heap.size) (b := w.heap.size) (g := w.heap.size + 1) hb3 hlt0 hlt0 hlt1))
      go_wp2
      rw [hz]
      exact end_val ⟨zk, zn, zs⟩ Try.results30 rfl rfl ((hb3.block _ hlt1).trans hR) (hbel.drew.trans (hb3.mono hbel.size)) (by omega)

theorem within_any : ∀ m : Nat, m ≤ 1000 → WithinSays m
  | 0, _ => within_zero
  | m + 1, h => within_succ m (by omega) (within_any m (by omega))

set_option maxRecDepth 100000 in
set_option maxHeartbeats 4000000 in
/-- P5.2, P5.3: Eval. -/
theorem eval_any (e : E) (v rv : Value) (row : List V) (C : Nat) (w : World) (he : IsE (fun k => k < C) w e v) (hC : C ≤ w.heap.size) (hn : e.nodes ≤ 16777216) (hf : fitE e) (hr : IsVals w rv row) (hrs : ∀ v ∈ row, v.s.size ≤ maxLen) (hrl : row.length ≤ maxLen) :
    Calls Try.prog 12 #[v, rv] w fun r w' => r = .returned (ev row e).val ∧ Below w.heap.size w w' := by
  obtain ⟨op, ⟨xk, xn, xs⟩, s, name, n, ao, k, c, rfl⟩ := he.shape
  obtain ⟨ro, rc, rfl⟩ := hr.shape
  have hb2 : Below w.heap.size w ((w.alloc (.cells (eArr op ⟨xk, xn, xs⟩ s name n (.slice ao k c)) 34)).alloc (.cells #[.int .i64 0, .int .i64 0, .string noW] 32)) := bel2 _ _ _
  have hW : Calls Try.prog 30 #[.agg (eArr op ⟨xk, xn, xs⟩ s name n (.slice ao k c)), .slice ro row.length rc, .int .i64 1000] _ _ := within_any 1000 (Nat.le_refl _) e _ _ row C _ (IsE.keep (keepsC (hb2.mono hC)) e _ he) (Nat.le_trans hC hb2.size) hn hf (hr.below hb2) hrs hrl
  generalize ev row e = z at hW ⊢
  obtain ⟨zk, zn, zs⟩ := z
  simp only [V.val] at hW
  go_enter Try.func12, Try.ntmps12
  go_wp2_with (first | (go_at_call 30; refine hW.mono ?_; rintro r1 w1 ⟨rfl, hb1⟩; obtain ⟨hcc, hff⟩ := bcell hb1))
  exact end_val ⟨zk, zn, zs⟩ Try.results12 rfl rfl ((hb1.block _ (by simp)).trans (block2 _ _ _)) (bthen (bel2 _ _ _) hb1) (by omega)

end Go.Proofs.Ytabanbpnghidhaa

namespace Go.Proofs.Ytabanbpnghidhaa
open Go.RowKit

/-- A value; a row of values. -/
def kVal : Elem V where
  size := 3
  R _ _ v c := c = v.cells
  len h := by subst h; rfl
  keep _ h := h
  mono _ h := h
def kVals : Elem (List V) where
  size := 1
  R F w l c := ∃ sv, c = [sv] ∧ IsL kVal F w sv l
  len h := by obtain ⟨sv, rfl, _⟩ := h; rfl
  keep hk h := by obtain ⟨sv, h1, h2⟩ := h; exact ⟨sv, h1, h2.keep hk⟩
  mono hk h := by obtain ⟨sv, h1, h2⟩ := h; exact ⟨sv, h1, h2.mono hk⟩
theorem all_vals {F : Nat → Prop} {w : World} : ∀ {l : List V} {cs : List Value}, All kVal F w l cs ↔ cs = vcells l
  | [], cs => Iff.rfl
  | v :: l, cs => by
    have e : vcells (v :: l) = v.cells ++ vcells l := by simp [vcells]
    rw [e]
    constructor
    · rintro ⟨c, rest, rfl, h2, h3⟩
      rw [all_vals.1 h3, show c = v.cells from h2]
    · rintro rfl
      exact ⟨v.cells, vcells l, rfl, rfl, all_vals.2 rfl⟩
theorem isL_vals {F : Nat → Prop} {w : World} {sv : Value} {l : List V} (h : IsL kVal F w sv l) : IsVals w sv l := by
  obtain ⟨cs, h1, h2⟩ := h
  have := all_vals.1 h2
  subst this
  rcases h1.2 with ⟨h0, ao, cap, rfl, hc⟩ | ⟨h0, b, off, cap, rfl, _, hb, _, _, hcell⟩
  · exact .inl ⟨⟨ao, cap, rfl, hc⟩, List.eq_nil_of_length_eq_zero h0⟩
  · refine .inr ⟨b, off, cap, rfl, hb, fun i v hi => ?_⟩
    obtain ⟨a0, a1, a2⟩ := vcells_at l i v hi
    exact ⟨hcell _ _ a0, by rw [Nat.add_assoc]; exact hcell _ _ a1, by rw [Nat.add_assoc]; exact hcell _ _ a2⟩
theorem isL_own {F : Nat → Prop} {w : World} {base : Nat} {lv : Value} {L : List V} (h : w.ownsRow base 32 3 lv L.length (vcells L)) (hF : ∀ k, base ≤ k → F k) : IsL kVal F w lv L :=
  ⟨vcells L, IsRowB.of_own h hF, all_vals.2 rfl⟩

end Go.Proofs.Ytabanbpnghidhaa


/-
  1 texts of this proof in one, in build order: OpenS.
-/
import Derived.Test.YtabanbpnghidhaaJ13
import Derived.Test.YtabanbpnghidhaaJ17
import Derived.Test.YtabanbpnghidhaaJ18
namespace Go.Proofs.Ytabanbpnghidhaa
open Go.RowKit Go.Deep Go.ChangeShapes

theorem cells_rowsE : Try.prog.cellsOf 27 = 1 := by kernel_rfl
theorem cells_sets : Try.prog.cellsOf 28 = 1 := by kernel_rfl
theorem cells_set : Try.prog.cellsOf 51 = 9 := by kernel_rfl
theorem cells_strs : Try.prog.cellsOf 29 = 1 := by kernel_rfl
theorem cells_stm : Try.prog.cellsOf 36 = 20 := by kernel_rfl
theorem und_set : ∃ f0 f1 : Field, Try.prog.underlying 51 = some (.struct #[f0, f1]) ∧ f0.offset = 0 ∧ f1.offset = 1 ∧ f0.type = 9 ∧ f1.type = 34 :=
  ⟨_, _, Try.underlying51, rfl, rfl, rfl, rfl⟩
theorem und_stm : ∃ f0 f1 f2 f3 f4 f5 f6 f7 f8 f9 f10 f11 f12 : Field, Try.prog.underlying 36 = some (.struct #[f0, f1, f2, f3, f4, f5, f6, f7, f8, f9, f10, f11, f12]) ∧ (f0.offset = 0 ∧ f1.offset = 1 ∧ f2.offset = 2 ∧ f3.offset = 3 ∧ f4.offset = 4 ∧ f5.offset = 5 ∧ f6.offset = 6 ∧ f7.offset = 7 ∧ f8.offset = 8 ∧ f9.offset = 9 ∧ f10.offset = 17 ∧ f11.offset = 18 ∧ f12.offset = 19) ∧ (f0.type = 3 ∧ f1.type = 9 ∧ f2.type = 9 ∧ f3.type = 9 ∧ f4.type = 26 ∧ f5.type = 27 ∧ f6.type = 28 ∧ f7.type = 29 ∧ f8.type = 30 ∧ f9.type = 34 ∧ f10.type = 30 ∧ f11.type = 4 ∧ f12.type = 3) :=
  ⟨_, _, _, _, _, _, _, _, _, _, _, _, _, Try.underlying36, ⟨rfl, rfl, rfl, rfl, rfl, rfl, rfl, rfl, rfl, rfl, rfl, rfl, rfl⟩, ⟨rfl, rfl, rfl, rfl, rfl, rfl, rfl, rfl, rfl, rfl, rfl, rfl, rfl⟩⟩

theorem fitX_range {f : Nat → E} : ∀ n : Nat, (∀ i, i < n → fitX (f i)) → fitXs ((List.range n).map f) := fun n h => by
  have : ∀ l : List E, (∀ e ∈ l, fitX e) → fitXs l := fun l => by
    induction l with
    | nil => intro _; rw [fitXs]; trivial
    | cons e l ih => intro h; rw [fitXs]; exact ⟨h e (by simp), ih fun x hx => h x (by simp [hx])⟩
  refine this _ fun e he => ?_
  obtain ⟨i, hi, rfl⟩ := List.mem_map.1 he
  exact h i (List.mem_range.1 hi)
theorem fitXs_all : ∀ {l : List E}, (∀ e ∈ l, fitX e) → fitXs l
  | [], _ => by rw [fitXs]; trivial
  | e :: l, h => by rw [fitXs]; exact ⟨h e (by simp), fitXs_all fun x hx => h x (by simp [hx])⟩

section
variable {H : Type} {enc : TypeId × Value → H} {w : World} {base : Nat} {spare : Nat → Bool} {held : Bool}

theorem fields13 {t : TypeId} {f0 f1 f2 f3 f4 f5 f6 f7 f8 f9 f10 f11 f12 : Field} {fuel : Nat} {cs : List Value} {x : DataW H × List MemPlace} (ht : Try.prog.underlying t = some (.struct #[f0, f1, f2, f3, f4, f5, f6, f7, f8, f9, f10, f11, f12])) (h : DataW.trod enc Try.prog w base spare held fuel t cs = some x) :
    ∃ y0 y1 y2 y3 y4 y5 y6 y7 y8 y9 y10 y11 y12 n, x.1 = .agg [y0.1, y1.1, y2.1, y3.1, y4.1, y5.1, y6.1, y7.1, y8.1, y9.1, y10.1, y11.1, y12.1] ∧ cs.length = Try.prog.cellsOf t ∧ DataW.trod enc Try.prog w base spare held n f0.type ((cs.drop f0.offset).take (Try.prog.cellsOf f0.type)) = some y0 ∧ DataW.trod enc Try.prog w base spare held n f1.type ((cs.drop f1.offset).take (Try.prog.cellsOf f1.type)) = some y1 ∧ DataW.trod enc Try.prog w base spare held n f2.type ((cs.drop f2.offset).take (Try.prog.cellsOf f2.type)) = some y2 ∧ DataW.trod enc Try.prog w base spare held n f3.type ((cs.drop f3.offset).take (Try.prog.cellsOf f3.type)) = some y3 ∧ DataW.trod enc Try.prog w base spare held n f4.type ((cs.drop f4.offset).take (Try.prog.cellsOf f4.type)) = some y4 ∧ DataW.trod enc Try.prog w base spare held n f5.type ((cs.drop f5.offset).take (Try.prog.cellsOf f5.type)) = some y5 ∧ DataW.trod enc Try.prog w base spare held n f6.type ((cs.drop f6.offset).take (Try.prog.cellsOf f6.type)) = some y6 ∧ DataW.trod enc Try.prog w base spare held n f7.type ((cs.drop f7.offset).take (Try.prog.cellsOf f7.type)) = some y7 ∧ DataW.trod enc Try.prog w base spare held n f8.type ((cs.drop f8.offset).take (Try.prog.cellsOf f8.type)) = some y8 ∧ DataW.trod enc Try.prog w base spare held n f9.type ((cs.drop f9.offset).take (Try.prog.cellsOf f9.type)) = some y9 ∧ DataW.trod enc Try.prog w base spare held n f10.type ((cs.drop f10.offset).take (Try.prog.cellsOf f10.type)) = some y10 ∧ DataW.trod enc Try.prog w base spare held n f11.type ((cs.drop f11.offset).take (Try.prog.cellsOf f11.type)) = some y11 ∧ DataW.trod enc Try.prog w base spare held n f12.type ((cs.drop f12.offset).take (Try.prog.cellsOf f12.type)) = some y12 := by
  obtain ⟨xs, n, _, rfl, hl, hlen, hf⟩ := DataW.trod_struct ht h
  match xs, hlen with
  | [y0, y1, y2, y3, y4, y5, y6, y7, y8, y9, y10, y11, y12], _ => exact ⟨y0, y1, y2, y3, y4, y5, y6, y7, y8, y9, y10, y11, y12, n, by simp, hl, by simpa using hf 0 f0 rfl, by simpa using hf 1 f1 rfl, by simpa using hf 2 f2 rfl, by simpa using hf 3 f3 rfl, by simpa using hf 4 f4 rfl, by simpa using hf 5 f5 rfl, by simpa using hf 6 f6 rfl, by simpa using hf 7 f7 rfl, by simpa using hf 8 f8 rfl, by simpa using hf 9 f9 rfl, by simpa using hf 10 f10 rfl, by simpa using hf 11 f11 rfl, by simpa using hf 12 f12 rfl⟩

set_option maxHeartbeats 1000000 in
theorem open_exprX : ∀ (N fuel : Nat) (cs : List Value) (x : DataW H × List MemPlace), Rows.uptoBulk x.1 ≤ N → DataW.trod enc Try.prog w base spare held fuel 34 cs = some x →
    ∃ e : E, cs.length = 8 ∧ IsE (fun k => k < w.heap.size) w e (.agg cs.toArray) ∧ (fitE e ∧ fitX e) ∧ e.nodes ≤ Rows.uptoBulk x.1 := by
  intro N
  induction N with
  | zero => intro fuel cs x h; have := bulk_pos x.1; omega
  | succ N ih =>
    intro fuel cs x hN h
    obtain ⟨f0, f1, f2, f3, f4, f5, hu, ⟨o0, o1, o2, o3, o4, o5⟩, ⟨t0, t1, t2, t3, t4, t5⟩⟩ := und_expr
    obtain ⟨y0, y1, y2, y3, y4, y5, n, hx, hl, h0, h1, h2, h3, h4, h5⟩ := six_fields hu h
    rw [cells_expr] at hl
    rw [o0, t0, cells_int] at h0
    rw [o1, t1, cells_value] at h1
    rw [o2, t2, cells_string] at h2
    rw [o3, t3, cells_string] at h3
    rw [o4, t4, cells_int] at h4
    rw [o5, t5, cells_exprs] at h5
    match cs, hl with
    | [c0, c1, c2, c3, c4, c5, c6, c7], _ =>
      simp only [List.drop_zero, List.take_succ_cons, List.take_zero, List.drop_succ_cons] at h0 h1 h2 h3 h4 h5
      obtain ⟨a, e0, _, _⟩ := DataW.trod_int Try.underlying3 h0
      obtain ⟨v, e1, hvs, _⟩ := open_value h1
      obtain ⟨s, e2, _, hs2⟩ := DataW.trod_string Try.underlying9 h2
      obtain ⟨nm, e3, _, hs3⟩ := DataW.trod_string Try.underlying9 h3
      obtain ⟨q, e4, _, _⟩ := DataW.trod_int Try.underlying3 h4
      obtain ⟨vk, vn, vs⟩ := v
      simp only [V.cells, List.cons.injEq, and_true] at e0 e1 e2 e3 e4
      obtain ⟨e10, e11, e12⟩ := e1
      subst e0 e10 e11 e12 e2 e3 e4
      have hb5 : Rows.uptoBulk y5.1 + 1 ≤ Rows.uptoBulk x.1 := by rw [hx]; simp only [Rows.uptoBulk, Rows.uptoBulkAll]; omega
      rcases open_slice Try.underlying30 h5 with ⟨hcs, rfl⟩ | ⟨ad, len, cap, m, n5, D, Pl, hcs, hb, hlc, hm, hmm, rfl, hxx⟩
      · simp only [List.cons.injEq, and_true] at hcs
        subst hcs
        exact ⟨.mk a ⟨vk, vn, vs⟩ s nm q [], rfl, isE_mk (x := ⟨vk, vn, vs⟩) (IsEs.nil _ _), ⟨by rw [fitE, fitL]; exact ⟨hvs, trivial⟩, by rw [fitX, fitXs]; exact ⟨hvs, hs2, hs3, trivial⟩⟩, by simp only [E.nodes, nodesL]; have := bulk_pos x.1; omega⟩
      · simp only [List.cons.injEq, and_true] at hcs
        subst hcs
        have hlm : len ≤ m := by rw [hmm]; split <;> omega
        have hbD : Rows.uptoBulkAll ((List.range len).map D) + 2 ≤ Rows.uptoBulk x.1 := by simp only [Rows.uptoBulk] at hb5; omega
        have each : ∀ i, i < len → ∃ r : E × List Value, r.2.length = 8 ∧ IsE (fun k => k < w.heap.size) w r.1 (.agg r.2.toArray) ∧ (fitE r.1 ∧ fitX r.1) ∧ r.1.nodes ≤ Rows.uptoBulk (D i) ∧ ∀ j u, r.2[j]? = some u → w.cell? (ad.add (i * 8 + j)) = some u := by
          intro i hi
          obtain ⟨cs', k1, k2⟩ := hxx i (by omega)
          rw [cells_expr] at k1
          obtain ⟨_, hlen, hcell⟩ := World.cells?_some k1
          have hbi := bulk_at (D := D) len i hi
          obtain ⟨e, r1, r2, r3, r4⟩ := ih n5 cs' (D i, Pl i) (by simp only; omega) k2
          refine ⟨(e, cs'), r1, r2, r3, r4, fun j u hj => ?_⟩
          have hj8 : j < 8 := by have := (List.getElem?_eq_some_iff.1 hj).1; simp only at this; omega
          have := hcell j (by omega)
          rw [add_add] at this
          rw [this]; exact hj
        have : Inhabited (E × List Value) := ⟨(E.nil, [])⟩
        obtain ⟨f, hf⟩ := choose_lt each
        refine ⟨.mk a ⟨vk, vn, vs⟩ s nm q ((List.range len).map fun i => (f i).1), rfl, ?_, ?_, ?_⟩
        · refine isE_mk (x := ⟨vk, vn, vs⟩) ⟨(List.range len).flatMap fun i => (f i).2, ?_, allE_range len fun i hi => ⟨(hf i hi).1, (hf i hi).2.1⟩⟩
          have hall := allE_length (allE_range (w := w) (F := fun k => k < w.heap.size) (f := fun i => (f i).1) (g := fun i => (f i).2) len fun i hi => ⟨(hf i hi).1, (hf i hi).2.1⟩)
          refine ⟨hall, ?_⟩
          rcases Nat.eq_zero_or_pos len with rfl | hpos
          · exact .inl ⟨by simp, some ad, cap, rfl, fun h => by cases h⟩
          · obtain ⟨b, off, spot⟩ := ad
            obtain ⟨u0, hu0⟩ : ∃ u, (f 0).2[0]? = some u := ⟨_, List.getElem?_eq_getElem (by rw [(hf 0 hpos).1]; omega)⟩
            have hc := (hf 0 hpos).2.2.2.2 0 u0 hu0
            have hspot : spot = none := by simpa [Addr.add] using World.cell?_spot hc
            subst hspot
            have hblt : b < w.heap.size := by have := lt_of_cell hc; simpa [Addr.add] using this
            refine .inr ⟨by simpa using hpos, b, off, cap, by simp, hblt, hblt, by simpa using hlc, hm, fun j u hj => ?_⟩
            have hjl : j < len * 8 := by
              have := (List.getElem?_eq_some_iff.1 hj).1
              rw [hall] at this; simpa using this
            have hfe := flat_eight (g := fun i => (f i).2) len (j / 8) (fun i hi => (hf i hi).1) (by omega) (j % 8) (by omega)
            rw [show j / 8 * 8 + j % 8 = j from by omega] at hfe
            rw [hfe] at hj
            have := (hf (j / 8) (by omega)).2.2.2.2 (j % 8) u hj
            rw [show j / 8 * 8 + j % 8 = j from by omega, Addr.add_lit] at this
            exact this
        · exact ⟨by rw [fitE]; exact ⟨hvs, fit_range len fun i hi => (hf i hi).2.2.1.1⟩, by rw [fitX]; exact ⟨hvs, hs2, hs3, fitX_range len fun i hi => (hf i hi).2.2.1.2⟩⟩
        · have := bulk_nodes (D := D) (f := fun i => (f i).1) len fun i hi => (hf i hi).2.2.2.1
          simp only [E.nodes]
          omega


/-- An expression: its texts fit, and it is not great. -/
def QE (B : Nat) (e : E) : Prop := (fitE e ∧ fitX e) ∧ e.nodes ≤ B
theorem open_exprsX {B fuel : Nat} {sv : Value} {x : DataW H × List MemPlace} (hB : Rows.uptoBulk x.1 ≤ B) (h : DataW.trod enc Try.prog w base spare held fuel 30 [sv] = some x) : ∃ l : List E, IsL kExpr (fun k => k < w.heap.size) w sv l ∧ (∀ a ∈ l, QE B a) ∧ l.length ≤ Rows.uptoBulk x.1 :=
  open_list E.nil kExpr 30 34 Try.underlying30 cells_expr (by decide) B (QE B) (fun fuel cs y hy hx => by
    obtain ⟨e, h1, h2, h3, h4⟩ := open_exprX _ fuel cs y (Nat.le_refl _) hx
    exact ⟨e, ⟨h1, h2⟩, h3, Nat.le_trans h4 hy⟩) hB h
theorem one_cell {t et : TypeId} (hu : Try.prog.underlying t = some (.slice et)) {fuel : Nat} {cs : List Value} {x : DataW H × List MemPlace} (h : DataW.trod enc Try.prog w base spare held fuel t cs = some x) : ∃ sv, cs = [sv] := by
  rcases open_slice hu h with ⟨hcs, _⟩ | ⟨ad, len, cap, m, n5, D, Pl, hcs, _⟩
  · exact ⟨_, hcs⟩
  · exact ⟨_, hcs⟩
theorem open_set {B fuel : Nat} {cs : List Value} {x : DataW H × List MemPlace} (hB : Rows.uptoBulk x.1 ≤ B) (h : DataW.trod enc Try.prog w base spare held fuel 51 cs = some x) : ∃ a : Wd × E, kSetE.R (fun k => k < w.heap.size) w a cs ∧ a.1.size ≤ maxLen ∧ QE B a.2 := by
  obtain ⟨f0, f1, hu, o0, o1, t0, t1⟩ := und_set
  obtain ⟨y0, y1, n, rfl, hl, h0, h1⟩ := trod_struct2 hu h
  rw [cells_set] at hl
  rw [o0, t0, cells_string] at h0
  rw [o1, t1, cells_expr] at h1
  match cs, hl with
  | c0 :: d, hl =>
    simp only [List.drop_zero, List.take_succ_cons, List.take_zero, List.drop_succ_cons] at h0 h1
    rw [List.take_of_length_le (by simp at hl; omega)] at h1
    obtain ⟨s, e0, _, hs⟩ := DataW.trod_string Try.underlying9 h0
    obtain ⟨e, r1, r2, r3, r4⟩ := open_exprX _ _ d y1 (Nat.le_refl _) h1
    simp only [List.cons.injEq, and_true] at e0
    subst e0
    refine ⟨(s, e), ⟨d, rfl, r1, r2⟩, hs, r3, Nat.le_trans r4 (Nat.le_trans ?_ hB)⟩
    simp only [Rows.uptoBulk, Rows.uptoBulkAll]
    omega

set_option maxHeartbeats 2000000 in
theorem open_stm {fuel : Nat} {cs : List Value} {x : DataW H × List MemPlace} (hx : Rows.uptoBulk x.1 ≤ 16777216) (h : DataW.trod enc Try.prog w base spare held fuel 36 cs = some x) :
    ∃ st : Stm, kStm.R (fun k => k < w.heap.size) w st cs ∧ FitB st ∧ (∀ p ∈ st.sets, p.2.nodes ≤ 16777216 ∧ fitE p.2) ∧ (st.wher.nodes ≤ 16777216 ∧ fitE st.wher) := by
  obtain ⟨f0, f1, f2, f3, f4, f5, f6, f7, f8, f9, f10, f11, f12, hu, ⟨o0, o1, o2, o3, o4, o5, o6, o7, o8, o9, o10, o11, o12⟩, ⟨t0, t1, t2, t3, t4, t5, t6, t7, t8, t9, t10, t11, t12⟩⟩ := und_stm
  obtain ⟨y0, y1, y2, y3, y4, y5, y6, y7, y8, y9, y10, y11, y12, n, hxx, hl, h0, h1, h2, h3, h4, h5, h6, h7, h8, h9, h10, h11, h12⟩ := fields13 hu h
  rw [cells_stm] at hl
  rw [o0, t0, cells_int] at h0
  rw [o1, t1, cells_string] at h1
  rw [o2, t2, cells_string] at h2
  rw [o3, t3, cells_string] at h3
  rw [o4, t4, cells_cols] at h4
  rw [o5, t5, cells_rowsE] at h5
  rw [o6, t6, cells_sets] at h6
  rw [o7, t7, cells_strs] at h7
  rw [o8, t8, cells_exprs] at h8
  rw [o9, t9, cells_expr] at h9
  rw [o10, t10, cells_exprs] at h10
  rw [o11, t11, cells_bool] at h11
  rw [o12, t12, cells_int] at h12
  rw [hxx] at hx
  simp only [Rows.uptoBulk, Rows.uptoBulkAll] at hx
  match cs, hl with
  | [c0, c1, c2, c3, c4, c5, c6, c7, c8, c9, c10, c11, c12, c13, c14, c15, c16, c17, c18, c19], _ =>
    simp only [List.drop_zero, List.take_succ_cons, List.take_zero, List.drop_succ_cons] at h0 h1 h2 h3 h4 h5 h6 h7 h8 h9 h10 h11 h12
    obtain ⟨k, e0, _, _⟩ := DataW.trod_int Try.underlying3 h0
    obtain ⟨nm, e1, _, s1⟩ := DataW.trod_string Try.underlying9 h1
    obtain ⟨tb, e2, _, s2⟩ := DataW.trod_string Try.underlying9 h2
    obtain ⟨cl, e3, _, s3⟩ := DataW.trod_string Try.underlying9 h3
    obtain ⟨lc, l4, q4, n4⟩ := open_list (⟨noW, 0, false⟩ : ColD) kCol 26 56 Try.underlying26 cells_col (by decide) _ (fun a => a.name.size ≤ maxLen) (fun fuel cs x _ hx => open_col hx _) (Nat.le_refl _) h4
    obtain ⟨lr, l5, q5, n5⟩ := open_list ([] : List E) kRow 27 30 Try.underlying27 cells_exprs (by decide) _ (fun r => (∀ a ∈ r, QE 16777216 a) ∧ r.length ≤ 16777216) (fun fuel cs y hy hx2 => by
      obtain ⟨sv, rfl⟩ := one_cell Try.underlying30 hx2
      obtain ⟨l, r1, r2, r3⟩ := open_exprsX (B := 16777216) (Nat.le_trans hy (by omega)) hx2
      exact ⟨l, ⟨sv, rfl, r1⟩, r2, Nat.le_trans r3 (Nat.le_trans hy (by omega))⟩) (Nat.le_refl _) h5
    obtain ⟨ls, l6, q6, n6⟩ := open_list ((noW, E.nil) : Wd × E) kSetE 28 51 Try.underlying28 cells_set (by decide) _ (fun a => a.1.size ≤ maxLen ∧ QE 16777216 a.2) (fun fuel cs y hy hx2 => open_set (Nat.le_trans hy (by omega)) hx2) (Nat.le_refl _) h6
    obtain ⟨lf, l7, q7, n7⟩ := open_list (noW : Wd) kStr 29 9 Try.underlying29 cells_string (by decide) _ (fun a => a.size ≤ maxLen) (fun fuel cs y _ hx2 => by
      obtain ⟨s, r1, _, r2⟩ := DataW.trod_string Try.underlying9 hx2
      exact ⟨s, r1, r2⟩) (Nat.le_refl _) h7
    obtain ⟨lo, l8, q8, n8⟩ := open_exprsX (B := 16777216) (by omega) h8
    obtain ⟨wh, r1, r2, r3, r4⟩ := open_exprX _ _ _ y9 (Nat.le_refl _) h9
    obtain ⟨ld, l10, q10, n10⟩ := open_exprsX (B := 16777216) (by omega) h10
    obtain ⟨dn, e11, _⟩ := DataW.trod_bool Try.underlying4 h11
    obtain ⟨nn, e12, _, _⟩ := DataW.trod_int Try.underlying3 h12
    simp only [List.cons.injEq, and_true] at e0 e1 e2 e3 e11 e12
    subst e0 e1 e2 e3 e11 e12
    obtain ⟨op, xk, xn, xs, s, nmv, m8, ao, kk, cap, he8⟩ := shape_Expr (F := fun k => k < w.heap.size) (w := w) (e := wh) ⟨r1, r2⟩
    simp only [List.cons.injEq, and_true] at he8
    obtain ⟨rfl, rfl, rfl, rfl, rfl, rfl, rfl, rfl⟩ := he8
    refine ⟨⟨k, nm, tb, cl, lc, lr, ls, lf, lo, wh, ld, dn, nn⟩, isS_mk l4 l5 l6 l7 l8 r2 l10, ?_, fun p hp => ⟨(q6 p hp).2.2, (q6 p hp).2.1.1⟩, ⟨Nat.le_trans r4 (by omega), r3.1⟩⟩
    exact ⟨⟨fun r hr => fitXs_all fun e he => ((q5 r hr).1 e he).1.2, fun p hp => ⟨(q6 p hp).2.1.2, (q6 p hp).1⟩, fitXs_all fun e he => (q8 e he).1.2, fitXs_all fun e he => (q10 e he).1.2, r3.2, s1, s2, s3, q4, q7⟩, s1, q4, Nat.le_trans n5 (by omega), fun r hr => (q5 r hr).2, Nat.le_trans n6 (by omega), fun p hp => (q6 p hp).1, Nat.le_trans n8 (by omega), Nat.le_trans n10 (by omega), q7⟩

end
end Go.Proofs.Ytabanbpnghidhaa


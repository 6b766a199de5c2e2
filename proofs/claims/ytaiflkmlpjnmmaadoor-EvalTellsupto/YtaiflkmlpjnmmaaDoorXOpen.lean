/-
  What an expression that came in is: from its reading to cells.
-/
import Derived.Test.YtaiflkmlpjnmmaaDoorXMem
import Derived.Test.YtaiflkmlpjnmmaaDoorXFlat
import Derived.Test.YtaiflkmlpjnmmaaDoorOpenVals
import Derived.Test.YtaiflkmlpjnmmaaDoorBulk
import Derived.ProofKit
import Derived.ChangeSame
namespace Go.Proofs.YtaiflkmlpjnmmaaDoor
open Go.RowKit Go.Deep Go.ChangeShapes

theorem cells_expr : Tryd.prog.cellsOf 32 = 8 := by kernel_rfl
theorem cells_exprs : Tryd.prog.cellsOf 30 = 1 := by kernel_rfl
theorem und_expr : ∃ f0 f1 f2 f3 f4 f5 : Field, Tryd.prog.underlying 32 = some (.struct #[f0, f1, f2, f3, f4, f5]) ∧ (f0.offset = 0 ∧ f1.offset = 1 ∧ f2.offset = 4 ∧ f3.offset = 5 ∧ f4.offset = 6 ∧ f5.offset = 7) ∧
    (f0.type = 3 ∧ f1.type = 23 ∧ f2.type = 9 ∧ f3.type = 9 ∧ f4.type = 3 ∧ f5.type = 30) :=
  ⟨_, _, _, _, _, _, Tryd.underlying32, ⟨rfl, rfl, rfl, rfl, rfl, rfl⟩, ⟨rfl, rfl, rfl, rfl, rfl, rfl⟩⟩

section
variable {H : Type} {enc : TypeId × Value → H} {w : World} {base : Nat} {spare : Nat → Bool} {held : Bool}

theorem six_fields {t : TypeId} {f0 f1 f2 f3 f4 f5 : Field} {fuel : Nat} {cs : List Value} {x : DataW H × List MemPlace} (ht : Tryd.prog.underlying t = some (.struct #[f0, f1, f2, f3, f4, f5])) (h : DataW.trod enc Tryd.prog w base spare held fuel t cs = some x) :
    ∃ y0 y1 y2 y3 y4 y5 n, x.1 = .agg [y0.1, y1.1, y2.1, y3.1, y4.1, y5.1] ∧ cs.length = Tryd.prog.cellsOf t ∧
      DataW.trod enc Tryd.prog w base spare held n f0.type ((cs.drop f0.offset).take (Tryd.prog.cellsOf f0.type)) = some y0 ∧ DataW.trod enc Tryd.prog w base spare held n f1.type ((cs.drop f1.offset).take (Tryd.prog.cellsOf f1.type)) = some y1 ∧
      DataW.trod enc Tryd.prog w base spare held n f2.type ((cs.drop f2.offset).take (Tryd.prog.cellsOf f2.type)) = some y2 ∧ DataW.trod enc Tryd.prog w base spare held n f3.type ((cs.drop f3.offset).take (Tryd.prog.cellsOf f3.type)) = some y3 ∧
      DataW.trod enc Tryd.prog w base spare held n f4.type ((cs.drop f4.offset).take (Tryd.prog.cellsOf f4.type)) = some y4 ∧ DataW.trod enc Tryd.prog w base spare held n f5.type ((cs.drop f5.offset).take (Tryd.prog.cellsOf f5.type)) = some y5 := by
  obtain ⟨xs, n, _, rfl, hl, hlen, hf⟩ := DataW.trod_struct ht h
  match xs, hlen with
  | [y0, y1, y2, y3, y4, y5], _ => exact ⟨y0, y1, y2, y3, y4, y5, n, by simp, hl, by simpa using hf 0 f0 rfl, by simpa using hf 1 f1 rfl, by simpa using hf 2 f2 rfl, by simpa using hf 3 f3 rfl, by simpa using hf 4 f4 rfl, by simpa using hf 5 f5 rfl⟩

theorem bulk_at {D : Nat → DataW H} : ∀ (n i : Nat), i < n → Rows.uptoBulk (D i) ≤ Rows.uptoBulkAll ((List.range n).map D)
  | n + 1, i, h => by
    rw [List.range_succ, List.map_append]
    have app : ∀ a b : List (DataW H), Rows.uptoBulkAll (a ++ b) = Rows.uptoBulkAll a + Rows.uptoBulkAll b := fun a b => by
      induction a with
      | nil => simp [Rows.uptoBulkAll]
      | cons x r ih => simp only [List.cons_append, Rows.uptoBulkAll, ih]; omega
    rw [app]
    rcases Nat.lt_or_eq_of_le (Nat.lt_succ_iff.1 h) with h1 | h1
    · have := bulk_at (D := D) n i h1; omega
    · subst h1; simp [Rows.uptoBulkAll]
theorem bulk_nodes {D : Nat → DataW H} {f : Nat → E} : ∀ n : Nat, (∀ i, i < n → (f i).nodes ≤ Rows.uptoBulk (D i)) → nodesL ((List.range n).map f) ≤ Rows.uptoBulkAll ((List.range n).map D)
  | 0, _ => by simp [nodesL]
  | n + 1, h => by
    rw [List.range_succ, List.map_append, List.map_append]
    have app : ∀ a b : List (DataW H), Rows.uptoBulkAll (a ++ b) = Rows.uptoBulkAll a + Rows.uptoBulkAll b := fun a b => by
      induction a with
      | nil => simp [Rows.uptoBulkAll]
      | cons x r ih => simp only [List.cons_append, Rows.uptoBulkAll, ih]; omega
    rw [app, nodesL_append]
    have h1 := bulk_nodes n fun i hi => h i (by omega)
    have h2 := h n (by omega)
    simp only [List.map_cons, List.map_nil, nodesL, Rows.uptoBulkAll]
    omega
theorem fit_range {f : Nat → E} : ∀ n : Nat, (∀ i, i < n → fitE (f i)) → fitL ((List.range n).map f) := fun n h => by
  have : ∀ l : List E, (∀ e ∈ l, fitE e) → fitL l := fun l => by
    induction l with
    | nil => intro _; rw [fitL]; trivial
    | cons e l ih => intro h; rw [fitL]; exact ⟨h e (by simp), ih fun x hx => h x (by simp [hx])⟩
  refine this _ fun e he => ?_
  obtain ⟨i, hi, rfl⟩ := List.mem_map.1 he
  exact h i (List.mem_range.1 hi)
theorem allE_range {F : Nat → Prop} {f : Nat → E} {g : Nat → List Value} : ∀ n : Nat, (∀ i, i < n → (g i).length = 8 ∧ IsE F w (f i) (.agg (g i).toArray)) → AllE F w ((List.range n).map f) ((List.range n).flatMap g)
  | 0, _ => by rw [List.range_zero, List.map_nil, AllE]; rfl
  | n + 1, h => by
    rw [List.range_succ, List.map_append, List.flatMap_append]
    exact allE_append (allE_range n fun i hi => h i (by omega)) (by simpa using allE_one (h n (by omega)).1 (h n (by omega)).2)
theorem flat_eight {g : Nat → List Value} : ∀ (n i : Nat), (∀ i, i < n → (g i).length = 8) → i < n → ∀ j, j < 8 → ((List.range n).flatMap g)[i * 8 + j]? = (g i)[j]?
  | n + 1, i, h, hi, j, hj => by
    have hl : ∀ m, m ≤ n + 1 → ((List.range m).flatMap g).length = m * 8 := fun m => by
      induction m with
      | zero => intro _; rfl
      | succ m ih => intro hm; rw [List.range_succ, List.flatMap_append, List.length_append, ih (by omega)]; simp [h m (by omega)]; omega
    rw [List.range_succ, List.flatMap_append]
    rcases Nat.lt_or_eq_of_le (Nat.lt_succ_iff.1 hi) with h1 | h1
    · rw [List.getElem?_append_left (by rw [hl n (by omega)]; omega)]
      exact flat_eight n i (fun i hi => h i (by omega)) h1 j hj
    · subst h1
      rw [List.getElem?_append_right (by rw [hl i (by omega)]; omega), hl i (by omega)]
      simp

set_option maxHeartbeats 1000000 in
theorem open_expr : ∀ (N fuel : Nat) (cs : List Value) (x : DataW H × List MemPlace), Rows.uptoBulk x.1 ≤ N → DataW.trod enc Tryd.prog w base spare held fuel 32 cs = some x →
    ∃ e : E, cs.length = 8 ∧ IsE (fun k => k < w.heap.size) w e (.agg cs.toArray) ∧ fitE e ∧ e.nodes ≤ Rows.uptoBulk x.1 := by
  intro N
  induction N with
  | zero => intro fuel cs x h; have := bulk_pos x.1; omega
  | succ N ih =>
    intro fuel cs x hN h
    obtain ⟨f0, f1, f2, f3, f4, f5, hu, ⟨o0, o1, o2, o3, o4, o5⟩, ⟨t0, t1, t2, t3, t4, t5⟩⟩ := und_expr
    obtain ⟨y0, y1, y2, y3, y4, y5, n, hx, hl, h0, h1, h2, h3, h4, h5⟩ := six_fields hu h
    rw [cells_expr] at hl
    rw [o0, t0, cells_int] at h0
    rw [o1, t1, cells_value] at h1
    rw [o2, t2, cells_string] at h2
    rw [o3, t3, cells_string] at h3
    rw [o4, t4, cells_int] at h4
    rw [o5, t5, cells_exprs] at h5
    match cs, hl with
    | [c0, c1, c2, c3, c4, c5, c6, c7], _ =>
      simp only [List.drop_zero, List.take_succ_cons, List.take_zero, List.drop_succ_cons] at h0 h1 h2 h3 h4 h5
      obtain ⟨a, e0, _, _⟩ := DataW.trod_int Tryd.underlying3 h0
      obtain ⟨v, e1, hvs, _⟩ := open_value h1
      obtain ⟨s, e2, _, _⟩ := DataW.trod_string Tryd.underlying9 h2
      obtain ⟨nm, e3, _, _⟩ := DataW.trod_string Tryd.underlying9 h3
      obtain ⟨q, e4, _, _⟩ := DataW.trod_int Tryd.underlying3 h4
      obtain ⟨vk, vn, vs⟩ := v
      simp only [V.cells, List.cons.injEq, and_true] at e0 e1 e2 e3 e4
      obtain ⟨e10, e11, e12⟩ := e1
      subst e0 e10 e11 e12 e2 e3 e4
      have hb5 : Rows.uptoBulk y5.1 + 1 ≤ Rows.uptoBulk x.1 := by rw [hx]; simp only [Rows.uptoBulk, Rows.uptoBulkAll]; omega
      rcases open_slice Tryd.underlying30 h5 with ⟨hcs, rfl⟩ | ⟨ad, len, cap, m, n5, D, Pl, hcs, hb, hlc, hm, hmm, rfl, hxx⟩
      · simp only [List.cons.injEq, and_true] at hcs
        subst hcs
        exact ⟨.mk a ⟨vk, vn, vs⟩ s nm q [], rfl, isE_mk (x := ⟨vk, vn, vs⟩) (IsEs.nil _ _), by rw [fitE, fitL]; exact ⟨hvs, trivial⟩, by simp only [E.nodes, nodesL]; have := bulk_pos x.1; omega⟩
      · simp only [List.cons.injEq, and_true] at hcs
        subst hcs
        have hlm : len ≤ m := by rw [hmm]; split <;> omega
        have hbD : Rows.uptoBulkAll ((List.range len).map D) + 2 ≤ Rows.uptoBulk x.1 := by simp only [Rows.uptoBulk] at hb5; omega
        have each : ∀ i, i < len → ∃ r : E × List Value, r.2.length = 8 ∧ IsE (fun k => k < w.heap.size) w r.1 (.agg r.2.toArray) ∧ fitE r.1 ∧ r.1.nodes ≤ Rows.uptoBulk (D i) ∧ ∀ j u, r.2[j]? = some u → w.cell? (ad.add (i * 8 + j)) = some u := by
          intro i hi
          obtain ⟨cs', k1, k2⟩ := hxx i (by omega)
          rw [cells_expr] at k1
          obtain ⟨_, hlen, hcell⟩ := World.cells?_some k1
          have hbi := bulk_at (D := D) len i hi
          obtain ⟨e, r1, r2, r3, r4⟩ := ih n5 cs' (D i, Pl i) (by simp only; omega) k2
          refine ⟨(e, cs'), r1, r2, r3, r4, fun j u hj => ?_⟩
          have hj8 : j < 8 := by have := (List.getElem?_eq_some_iff.1 hj).1; simp only at this; omega
          have := hcell j (by omega)
          rw [add_add] at this
          rw [this]; exact hj
        have : Inhabited (E × List Value) := ⟨(E.nil, [])⟩
        obtain ⟨f, hf⟩ := choose_lt each
        refine ⟨.mk a ⟨vk, vn, vs⟩ s nm q ((List.range len).map fun i => (f i).1), rfl, ?_, ?_, ?_⟩
        · refine isE_mk (x := ⟨vk, vn, vs⟩) ⟨(List.range len).flatMap fun i => (f i).2, ?_, allE_range len fun i hi => ⟨(hf i hi).1, (hf i hi).2.1⟩⟩
          have hall := allE_length (allE_range (w := w) (F := fun k => k < w.heap.size) (f := fun i => (f i).1) (g := fun i => (f i).2) len fun i hi => ⟨(hf i hi).1, (hf i hi).2.1⟩)
          refine ⟨hall, ?_⟩
          rcases Nat.eq_zero_or_pos len with rfl | hpos
          · exact .inl ⟨by simp, some ad, cap, rfl, fun h => by cases h⟩
          · obtain ⟨b, off, spot⟩ := ad
            obtain ⟨u0, hu0⟩ : ∃ u, (f 0).2[0]? = some u := ⟨_, List.getElem?_eq_getElem (by rw [(hf 0 hpos).1]; omega)⟩
            have hc := (hf 0 hpos).2.2.2.2 0 u0 hu0
            have hspot : spot = none := by simpa [Addr.add] using World.cell?_spot hc
            subst hspot
            have hblt : b < w.heap.size := by have := lt_of_cell hc; simpa [Addr.add] using this
            refine .inr ⟨by simpa using hpos, b, off, cap, by simp, hblt, hblt, by simpa using hlc, hm, fun j u hj => ?_⟩
            have hjl : j < len * 8 := by
              have := (List.getElem?_eq_some_iff.1 hj).1
              rw [hall] at this; simpa using this
            have hfe := flat_eight (g := fun i => (f i).2) len (j / 8) (fun i hi => (hf i hi).1) (by omega) (j % 8) (by omega)
            rw [show j / 8 * 8 + j % 8 = j from by omega] at hfe
            rw [hfe] at hj
            have := (hf (j / 8) (by omega)).2.2.2.2 (j % 8) u hj
            rw [show j / 8 * 8 + j % 8 = j from by omega, Addr.add_lit] at this
            exact this
        · rw [fitE]
          exact ⟨hvs, fit_range len fun i hi => (hf i hi).2.2.1⟩
        · have := bulk_nodes (D := D) (f := fun i => (f i).1) len fun i hi => (hf i hi).2.2.2.1
          simp only [E.nodes]
          omega

end
end Go.Proofs.YtaiflkmlpjnmmaaDoor

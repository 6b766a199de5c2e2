/-
  What a tree that came in is: from its reading to cells.
-/
import Derived.Test.YtfcdkpkmkepcaaaProg
import Derived.Test.YtfcdkpkmkepcaaaTMem
import Derived.Test.YtfcdkpkmkepcaaaBulk
import Derived.ProofKit
import Derived.ChangeSame
import Derived.Deep.Slices
import Derived.Deep.SlicePairs
import Derived.Deep.Strs
namespace Go.Proofs.Ytfcdkpkmkepcaaa
open Go.RowKit Go.Deep Go.ChangeShapes

theorem cells_str : Try.prog.cellsOf 9 = 1 := by kernel_rfl
theorem cells_strs : Try.prog.cellsOf 46 = 1 := by kernel_rfl
theorem cells_page : Try.prog.cellsOf 69 = 2 := by kernel_rfl
theorem cells_pages : Try.prog.cellsOf 37 = 1 := by kernel_rfl
theorem cells_tree : Try.prog.cellsOf 39 = 1 := by kernel_rfl
theorem und_page : ∃ f0 f1 : Field, Try.prog.underlying 69 = some (.struct #[f0, f1]) ∧ f0.offset = 0 ∧ f1.offset = 1 ∧ f0.type = 46 ∧ f1.type = 46 :=
  ⟨_, _, Try.underlying69, rfl, rfl, rfl, rfl⟩
theorem und_tree : ∃ f0 : Field, Try.prog.underlying 39 = some (.struct #[f0]) ∧ f0.offset = 0 ∧ f0.type = 37 :=
  ⟨_, Try.underlying39, rfl, rfl⟩

section
variable {H : Type} {enc : TypeId × Value → H} {w : World} {base : Nat} {spare : Nat → Bool} {held : Bool}

theorem lt_of_cell' {w : World} {a : Addr} {v : Value} (h : w.cell? a = some v) : a.block < w.heap.size := block_lt_of_cell h

theorem open_texts {fuel : Nat} {sv : Value} {x : DataW H × List MemPlace} (h : DataW.trod enc Try.prog w base spare held fuel 46 [sv] = some x) : ∃ L : List ByteArray, IsStrs w sv L := by
  rcases open_slice Try.underlying46 h with ⟨hcs, rfl⟩ | ⟨a, len, cap, m, n, D, Pl, hcs, hb, hl, hm, hmm, rfl, hx⟩
  · simp only [List.cons.injEq, and_true] at hcs
    subst hcs
    exact ⟨[], IsRow.nil 1 w⟩
  · simp only [List.cons.injEq, and_true] at hcs
    subst hcs
    have hlm : len ≤ m := by rw [hmm]; split <;> omega
    have each : ∀ i, i < len → ∃ s : ByteArray, w.cell? (a.add i) = some (.string s) := by
      intro i hi
      obtain ⟨cs', h1, h2⟩ := hx i (by omega)
      rw [cells_str] at h1
      obtain ⟨_, hlen, hcell⟩ := World.cells?_some h1
      match cs', hlen with
      | [c0], _ =>
        obtain ⟨s, e2, _, _⟩ := DataW.trod_string Try.underlying9 h2
        simp only [List.cons.injEq, and_true] at e2
        subst e2
        have e0 := hcell 0 (by omega)
        rw [add_add, Nat.mul_one] at e0
        exact ⟨s, by simpa using e0⟩
    obtain ⟨f, hf⟩ := choose_lt each
    refine ⟨(List.range len).map f, by simp, ?_⟩
    rcases Nat.eq_zero_or_pos len with rfl | hpos
    · exact .inl ⟨by simp, _, cap, rfl, fun h => by cases h⟩
    · obtain ⟨b, off, spot⟩ := a
      have hc := hf 0 hpos
      have hspot : spot = none := by simpa [Addr.add] using World.cell?_spot hc
      subst hspot
      refine .inr ⟨by simpa using hpos, b, off, cap, by simp, ?_, by simpa using hl, hm, ?_⟩
      · have := lt_of_cell' hc
        simpa [Addr.add] using this
      · intro j u hj
        have hjl : j < len := by have := (List.getElem?_eq_some_iff.1 hj).1; simpa using this
        have hu : u = .string (f j) := by
          rw [List.map_map, List.getElem?_map, List.getElem?_range hjl] at hj
          simpa using hj.symm
        subst hu
        have := hf j hjl
        rwa [Addr.add_lit] at this

theorem open_page {fuel : Nat} {cs : List Value} {x : DataW H × List MemPlace} (h : DataW.trod enc Try.prog w base spare held fuel 69 cs = some x) :
    ∃ (r : Value × Value) (p : Pg), cs = [r.1, r.2] ∧ IsStrs w r.1 p.K ∧ IsStrs w r.2 p.V := by
  obtain ⟨f0, f1, hu, o0, o1, t0, t1⟩ := und_page
  obtain ⟨y0, y1, n, rfl, hl, h0, h1⟩ := trod_struct2 hu h
  rw [cells_page] at hl
  rw [o0, t0, cells_strs] at h0
  rw [o1, t1, cells_strs] at h1
  match cs, hl with
  | [c0, c1], _ =>
    simp only [List.drop_zero, List.take_succ_cons, List.take_zero, List.drop_succ_cons] at h0 h1
    obtain ⟨K, hK⟩ := open_texts h0
    obtain ⟨V, hV⟩ := open_texts h1
    exact ⟨(c0, c1), ⟨K, V⟩, rfl, hK, hV⟩

theorem Pgs.of_range {w : World} {r : Nat → Value × Value} {p : Nat → Pg} : ∀ n, (∀ i, i < n → IsStrs w (r i).1 (p i).K ∧ IsStrs w (r i).2 (p i).V) → Pgs w ((List.range n).map r) ((List.range n).map p)
  | 0, _ => trivial
  | n + 1, h => by
    rw [List.range_succ, List.map_append, List.map_append]
    exact Pgs.append (Pgs.of_range n fun i hi => h i (by omega)) ⟨(h n (by omega)).1, (h n (by omega)).2, trivial⟩

theorem open_pages {fuel : Nat} {sv : Value} {x : DataW H × List MemPlace} (h : DataW.trod enc Try.prog w base spare held fuel 37 [sv] = some x) :
    ∃ T : List Pg, IsPages w sv T ∧ ((x.1 = .nil ∧ T = []) ∨ ∃ el sp, x.1 = .slice el sp ∧ el.length = T.length) := by
  rcases open_slice Try.underlying37 h with ⟨hcs, rfl⟩ | ⟨a, len, cap, m, n, D, Pl, hcs, hb, hl, hm, hmm, rfl, hx⟩
  · simp only [List.cons.injEq, and_true] at hcs
    subst hcs
    exact ⟨[], IsPages.nil w, .inl ⟨rfl, rfl⟩⟩
  · simp only [List.cons.injEq, and_true] at hcs
    subst hcs
    have hlm : len ≤ m := by rw [hmm]; split <;> omega
    have each : ∀ i, i < len → ∃ q : (Value × Value) × Pg, w.cell? (a.add (i * 2)) = some q.1.1 ∧ w.cell? (a.add (i * 2 + 1)) = some q.1.2 ∧ IsStrs w q.1.1 q.2.K ∧ IsStrs w q.1.2 q.2.V := by
      intro i hi
      obtain ⟨cs', h1, h2⟩ := hx i (by omega)
      rw [cells_page] at h1
      obtain ⟨_, hlen, hcell⟩ := World.cells?_some h1
      obtain ⟨r, p, rfl, hK, hV⟩ := open_page h2
      have e0 := hcell 0 (by omega)
      have e1 := hcell 1 (by omega)
      rw [add_add] at e0 e1
      exact ⟨(r, p), by simpa using e0, by simpa using e1, hK, hV⟩
    have : Inhabited ((Value × Value) × Pg) := ⟨((undef, undef), pg0)⟩
    obtain ⟨f, hf⟩ := choose_lt each
    refine ⟨(List.range len).map fun i => (f i).2, ⟨(List.range len).map fun i => (f i).1, ⟨by rw [pcells_length]; simp, ?_⟩, Pgs.of_range len fun i hi => (hf i hi).2.2⟩, .inr ⟨_, _, rfl, by simp⟩⟩
    rcases Nat.eq_zero_or_pos len with rfl | hpos
    · exact .inl ⟨by simp, _, cap, rfl, fun h => by cases h⟩
    · obtain ⟨b, off, spot⟩ := a
      have hc := (hf 0 hpos).1
      have hspot : spot = none := by simpa [Addr.add] using World.cell?_spot hc
      subst hspot
      refine .inr ⟨by simpa using hpos, b, off, cap, by simp, ?_, by simpa using hl, hm, ?_⟩
      · have := lt_of_cell' hc
        simpa [Addr.add] using this
      · intro j u hj
        have hjl : j < len * 2 := by
          have := (List.getElem?_eq_some_iff.1 hj).1
          rw [pcells_length] at this; simpa using this
        have hr : ((List.range len).map fun i => (f i).1)[j / 2]? = some (f (j / 2)).1 := by
          rw [List.getElem?_map, List.getElem?_range (by omega)]; rfl
        obtain ⟨p0, p1⟩ := pcells_at _ _ _ hr
        obtain ⟨g0, g1, _⟩ := hf (j / 2) (by omega)
        rw [Addr.add_lit] at g0 g1
        rcases (show j = j / 2 * 2 ∨ j = j / 2 * 2 + 1 from by omega) with e | e
        · rw [e] at hj ⊢
          rw [p0] at hj; simp at hj; subst hj; exact g0
        · rw [e] at hj ⊢
          rw [p1] at hj; simp at hj; subst hj; exact g1

theorem open_tree {fuel : Nat} {cs : List Value} {x : DataW H × List MemPlace} (h : DataW.trod enc Try.prog w base spare held fuel 39 cs = some x) :
    ∃ (sv : Value) (T : List Pg), cs = [sv] ∧ IsPages w sv T ∧ ∃ d, x.1 = .agg [d] ∧ ((d = .nil ∧ T = []) ∨ ∃ el sp, d = .slice el sp ∧ el.length = T.length) := by
  obtain ⟨f0, hu, o0, t0⟩ := und_tree
  obtain ⟨y0, n, rfl, hl, h0⟩ := trod_struct1 hu h
  rw [cells_tree] at hl
  rw [o0, t0, cells_pages] at h0
  match cs, hl with
  | [c0], _ =>
    simp only [List.drop_zero, List.take_succ_cons, List.take_zero] at h0
    obtain ⟨T, hT, hd⟩ := open_pages h0
    exact ⟨c0, T, rfl, hT, y0.1, rfl, hd⟩

end
end Go.Proofs.Ytfcdkpkmkepcaaa

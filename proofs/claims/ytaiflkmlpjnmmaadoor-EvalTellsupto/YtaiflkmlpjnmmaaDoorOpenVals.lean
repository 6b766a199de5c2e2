/-
  What a value, and a list of values, that came in are: from their reading to cells.
-/
import Derived.Test.YtaiflkmlpjnmmaaDoorVals
import Derived.Test.YtaiflkmlpjnmmaaDoorRows
import Derived.ProofKit
import Derived.Deep.Slices
import Derived.Deep.SlicePairs
import Derived.Deep.Strs
import Derived.SizedLaws
namespace Go.Proofs.YtaiflkmlpjnmmaaDoor
open Go.RowKit Go.Deep

theorem cells_value : Tryd.prog.cellsOf 23 = 3 := by kernel_rfl
theorem cells_int : Tryd.prog.cellsOf 3 = 1 := by kernel_rfl
theorem cells_string : Tryd.prog.cellsOf 9 = 1 := by kernel_rfl
theorem bytes_value : Tryd.prog.bytesOf 23 = 32 := by kernel_rfl

/-- A value as data. -/
def V.datum {H : Type} (v : V) : DataW H := .agg [.lit (.int .i64 v.k), .lit (.int .i64 v.n), .lit (.string v.s.data.toList)]

theorem und_value : ∃ f0 f1 f2 : Field, Tryd.prog.underlying 23 = some (.struct #[f0, f1, f2]) ∧ f0.offset = 0 ∧ f1.offset = 1 ∧ f2.offset = 2 ∧ f0.type = 3 ∧ f1.type = 3 ∧ f2.type = 9 :=
  ⟨_, _, _, Tryd.underlying23, rfl, rfl, rfl, rfl, rfl, rfl⟩

section
variable {H : Type} {enc : TypeId × Value → H} {w : World} {base : Nat} {spare : Nat → Bool} {held : Bool}

theorem open_value {fuel : Nat} {cs : List Value} {x : DataW H × List MemPlace} (h : DataW.trod enc Tryd.prog w base spare held fuel 23 cs = some x) :
    ∃ v : V, cs = v.cells ∧ v.s.size ≤ maxLen ∧ x.1 = v.datum := by
  obtain ⟨f0, f1, f2, hu, o0, o1, o2, t0, t1, t2⟩ := und_value
  obtain ⟨y0, y1, y2, n, rfl, hl, h0, h1, h2⟩ := trod_struct3 hu h
  rw [cells_value] at hl
  rw [o0, t0, cells_int] at h0
  rw [o1, t1, cells_int] at h1
  rw [o2, t2, cells_string] at h2
  match cs, hl with
  | [c0, c1, c2], _ =>
    simp only [List.drop_zero, List.take_succ_cons, List.take_zero, List.drop_succ_cons] at h0 h1 h2
    obtain ⟨a, e0, rfl, _⟩ := DataW.trod_int Tryd.underlying3 h0
    obtain ⟨b, e1, rfl, _⟩ := DataW.trod_int Tryd.underlying3 h1
    obtain ⟨s, e2, rfl, hs⟩ := DataW.trod_string Tryd.underlying9 h2
    simp only [List.cons.injEq, and_true] at e0 e1 e2
    subst e0 e1 e2
    exact ⟨⟨a, b, s⟩, rfl, hs, rfl⟩

theorem lt_of_cell {w : World} {a : Addr} {v : Value} (h : w.cell? a = some v) : a.block < w.heap.size := by
  rcases Nat.lt_or_ge a.block w.heap.size with h' | h'
  · exact h'
  · simp [World.cell?, Array.getElem?_eq_none h'] at h

theorem open_vals {fuel : Nat} {sv : Value} {x : DataW H × List MemPlace} (h : DataW.trod enc Tryd.prog w base spare held fuel 33 [sv] = some x) :
    ∃ L : List V, IsVals w sv L ∧ (∀ v ∈ L, v.s.size ≤ maxLen) ∧ ((x.1 = .nil ∧ L = []) ∨ ∃ sp, x.1 = .slice (L.map V.datum) sp) := by
  rcases open_slice Tryd.underlying33 h with ⟨hcs, rfl⟩ | ⟨a, len, cap, m, n, D, Pl, hcs, hb, hl, hm, hmm, rfl, hx⟩
  · simp only [List.cons.injEq, and_true] at hcs
    subst hcs
    exact ⟨[], .inl ⟨⟨none, 0, rfl, fun _ => rfl⟩, rfl⟩, by simp, .inl ⟨rfl, rfl⟩⟩
  · simp only [List.cons.injEq, and_true] at hcs
    subst hcs
    have hlm : len ≤ m := by rw [hmm]; split <;> omega
    have each : ∀ i, i < len → ∃ v : V, w.cell? (a.add (i * 3)) = some (.int .i64 v.k) ∧ w.cell? (a.add (i * 3 + 1)) = some (.int .i64 v.n) ∧ w.cell? (a.add (i * 3 + 2)) = some (.string v.s) ∧ v.s.size ≤ maxLen ∧ D i = v.datum := by
      intro i hi
      obtain ⟨cs', h1, h2⟩ := hx i (by omega)
      rw [cells_value] at h1
      obtain ⟨_, hlen, hcell⟩ := World.cells?_some h1
      obtain ⟨v, rfl, hs, hd⟩ := open_value h2
      have e0 := hcell 0 (by omega)
      have e1 := hcell 1 (by omega)
      have e2 := hcell 2 (by omega)
      rw [add_add] at e0 e1 e2
      exact ⟨v, by simpa [V.cells] using e0, by simpa [V.cells] using e1, by simpa [V.cells] using e2, hs, hd⟩
    have : Inhabited V := ⟨zero⟩
    obtain ⟨f, hf⟩ := choose_lt each
    refine ⟨(List.range len).map f, ?_, ?_, .inr ⟨(List.range (m - len)).map fun j => D (len + j), ?_⟩⟩
    · rcases Nat.eq_zero_or_pos len with rfl | hpos
      · exact .inl ⟨⟨_, _, rfl, fun h => by cases h⟩, by simp⟩
      · obtain ⟨b, off, spot⟩ := a
        have hc := (hf 0 hpos).1
        have hspot : spot = none := by simpa [Addr.add] using World.cell?_spot hc
        subst hspot
        refine .inr ⟨b, off, cap, by simp, ?_, ?_⟩
        · have := lt_of_cell hc
          simpa [Addr.add] using this
        · intro i v hi
          have hil : i < len := by
            have := (List.getElem?_eq_some_iff.1 hi).1
            simpa using this
          have hv : v = f i := by
            rw [List.getElem?_map, List.getElem?_range hil] at hi
            simpa using hi.symm
          subst hv
          obtain ⟨g0, g1, g2, _⟩ := hf i hil
          rw [Addr.add_lit] at g0 g1 g2
          exact ⟨g0, by rw [Nat.add_assoc]; exact g1, by rw [Nat.add_assoc]; exact g2⟩
    · intro v hv
      obtain ⟨i, hi, rfl⟩ := List.mem_map.1 hv
      exact (hf i (List.mem_range.1 hi)).2.2.2.1
    · have e : (List.range len).map D = ((List.range len).map f).map V.datum := by
        rw [List.map_map]
        exact List.map_congr_left fun i hi => (hf i (List.mem_range.1 hi)).2.2.2.2
      show DataW.slice _ _ = _
      rw [e]

end
end Go.Proofs.YtaiflkmlpjnmmaaDoor

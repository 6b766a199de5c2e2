/-
  What the bound on the bulk gives of a tree: no page is long.
-/
import Derived.Test.YtfcdkpkmkepcaaaTOpen
import Derived.Test.YtfcdkpkmkepcaaaDSame
namespace Go.Proofs.Ytfcdkpkmkepcaaa
open Go.RowKit Go.Deep Go.ChangeShapes

section
variable {H : Type} {enc : TypeId × Value → H} {w : World} {base : Nat} {spare : Nat → Bool} {held : Bool}

theorem texts_bulk {fuel : Nat} {sv : Value} {x : DataW H × List MemPlace} {L : List ByteArray} (h : DataW.trod enc Try.prog w base spare held fuel 46 [sv] = some x) (hL : IsStrs w sv L) : L.length ≤ Rows.uptoBulk x.1 := by
  obtain ⟨ao, c, e⟩ := hL.shape
  rcases open_slice Try.underlying46 h with ⟨hcs, rfl⟩ | ⟨a, len, cap, m, n, D, Pl, hcs, hb, hl, hm, hmm, rfl, hx⟩
  · simp only [List.cons.injEq, and_true] at hcs
    rw [hcs] at e
    simp only [Value.slice.injEq] at e
    omega
  · simp only [List.cons.injEq, and_true] at hcs
    rw [hcs] at e
    simp only [Value.slice.injEq] at e
    have := slice_bulk ((List.range len).map D) ((List.range (m - len)).map fun j => D (len + j))
    rw [List.length_map, List.length_range] at this
    simp only
    omega

theorem page_bulk {fuel : Nat} {c0 c1 : Value} {x : DataW H × List MemPlace} {p : Pg} (h : DataW.trod enc Try.prog w base spare held fuel 69 [c0, c1] = some x) (hK : IsStrs w c0 p.K) (hV : IsStrs w c1 p.V) : p.K.length + p.V.length ≤ Rows.uptoBulk x.1 := by
  obtain ⟨f0, f1, hu, o0, o1, t0, t1⟩ := und_page
  obtain ⟨y0, y1, n, rfl, hl, h0, h1⟩ := trod_struct2 hu h
  rw [o0, t0, cells_strs] at h0
  rw [o1, t1, cells_strs] at h1
  simp only [List.drop_zero, List.take_succ_cons, List.take_zero, List.drop_succ_cons] at h0 h1
  have a := texts_bulk h0 hK
  have b := texts_bulk h1 hV
  simp only [Rows.uptoBulk, Rows.uptoBulkAll]
  omega

theorem bulk_mem {l : List (DataW H)} {d : DataW H} (h : d ∈ l) : Rows.uptoBulk d ≤ Rows.uptoBulkAll l := by
  induction l with
  | nil => cases h
  | cons x r ih =>
    simp only [Rows.uptoBulkAll]
    rcases List.mem_cons.1 h with rfl | h
    · omega
    · have := ih h; omega

theorem pages_bulk {fuel : Nat} {sv : Value} {x : DataW H × List MemPlace} {T : List Pg} (h : DataW.trod enc Try.prog w base spare held fuel 37 [sv] = some x) (hT : IsPages w sv T) : ∀ p ∈ T, p.K.length + p.V.length ≤ Rows.uptoBulk x.1 := by
  intro p hp
  obtain ⟨i, hi, rfl⟩ := List.getElem_of_mem hp
  have hpi : T[i]? = some T[i] := List.getElem?_eq_getElem hi
  obtain ⟨ao, c, rfl⟩ := hT.shape
  obtain ⟨b, off, ka, kc, va, vc, rfl, hb, c0, c1, hk, hv⟩ := pages_at hT hpi
  rcases open_slice Try.underlying37 h with ⟨hcs, rfl⟩ | ⟨a, len, cap, m, n, D, Pl, hcs, hb', hl, hm, hmm, rfl, hx⟩
  · simp at hcs
  · simp only [List.cons.injEq, and_true, Value.slice.injEq, Option.some.injEq] at hcs
    obtain ⟨rfl, rfl, rfl⟩ := hcs
    have hlm : T.length ≤ m := by rw [hmm]; split <;> omega
    obtain ⟨cs', h1, h2⟩ := hx i (by omega)
    rw [cells_page] at h1
    obtain ⟨_, hlen, hcell⟩ := World.cells?_some h1
    match cs', hlen, hcell, h2 with
    | [d0, d1], _, hcell, h2 =>
      have e0 := hcell 0 (by simp)
      have e1 := hcell 1 (by simp)
      rw [add_add] at e0 e1
      rw [Addr.add_lit] at e0 e1
      rw [Nat.add_zero, c0] at e0
      rw [← Nat.add_assoc, c1] at e1
      simp at e0 e1
      subst e0
      subst e1
      have hpb := page_bulk h2 hk hv
      have hmem : D i ∈ (List.range T.length).map D := List.mem_map.2 ⟨i, List.mem_range.2 hi, rfl⟩
      have hbm := bulk_mem hmem
      simp only [Rows.uptoBulk] at hpb ⊢
      omega

theorem tree_short {fuel : Nat} {sv : Value} {x : DataW H × List MemPlace} {T : List Pg} {rest : List (DataW H)} (h : DataW.trod enc Try.prog w base spare held fuel 39 [sv] = some x) (hT : IsPages w sv T) (hk : Rows.uptoSmall H (x.1 :: rest) = true) : Short T := by
  obtain ⟨f0, hu, o0, t0⟩ := und_tree
  obtain ⟨y0, n, rfl, hl, h0⟩ := trod_struct1 hu h
  rw [o0, t0, cells_pages] at h0
  simp only [List.drop_zero, List.take_succ_cons, List.take_zero] at h0
  have hb := pages_bulk h0 hT
  have hkk : Rows.uptoBulkAll (DataW.agg [y0.1] :: rest) ≤ 1048576 := of_decide_eq_true hk
  simp only [Rows.uptoBulkAll, Rows.uptoBulk] at hkk
  intro p hp
  have := hb p hp
  omega

end
end Go.Proofs.Ytfcdkpkmkepcaaa

/-
  Contracts of tree.copied, tree.halves and tree.replaced.
-/
import Derived.Test.YtfcdkpkmkepcaaaTGet
import Derived.Test.YtfcdkpkmkepcaaaTConcat
import Derived.Test.YtfcdkpkmkepcaaaTInsert
attribute [local go_sem ↓] Go.wp_at_zero Go.wp_at_succ
namespace Go.Proofs.Ytfcdkpkmkepcaaa
open Go.RowKit

theorem OwnStrs.base {w : World} {B B' g cap : Nat} {L : List ByteArray} (h : OwnStrs w B g cap L) (hB : B' ≤ B) : OwnStrs w B' g cap L := by
  obtain ⟨h1, h2, h3⟩ := h
  refine ⟨by omega, h2, ?_⟩
  rcases h3 with h3 | ⟨g', c', cur, e, hg, r⟩
  · exact .inl h3
  · exact .inr ⟨g', c', cur, e, by omega, r⟩
theorem OwnStrs.setCell {w : World} {B g cap : Nat} {L : List ByteArray} (h : OwnStrs w B g cap L) {a : Addr} (ha : a.block < B) (u : Value) : OwnStrs (w.setCell a u) B g cap L := ⟨h.1, ownsRow_setCell_below h.2 ha u⟩
theorem OwnStrs.below {w w' : World} {B g cap : Nat} {L : List ByteArray} (h : OwnStrs w B g cap L) (hb : Below w.heap.size w w') : OwnStrs w' B g cap L := ⟨h.1, ownsRow_below h.2 hb⟩
theorem OwnStrs.strs {w : World} {B g cap : Nat} {L : List ByteArray} (h : OwnStrs w B g cap L) : IsStrs w (.slice (some ⟨g, 0, none⟩) L.length cap) L := IsRow.of_own h.2
theorem OwnStrs.lt {w : World} {B g cap : Nat} {L : List ByteArray} (h : OwnStrs w B g cap L) : g < w.heap.size := (h.2.lt g rfl).2

set_option maxHeartbeats 2000000 in
/-- tree.copied: a page with rows of its own. -/
theorem copied_any (p : Pg) (kv vv : Value) (w : World) (hk : IsStrs w kv p.K) (hv : IsStrs w vv p.V) (h0 : 0 < p.K.length) (h8 : p.K.length ≤ 8) (hl : p.V.length = p.K.length) :
    Calls Try.prog 47 #[.agg #[kv, vv]] w fun e w' => ∃ g1 c1 g2 c2, e = .returned (.agg #[.slice (some ⟨g1, 0, none⟩) p.K.length c1, .slice (some ⟨g2, 0, none⟩) p.V.length c2]) ∧ OwnStrs w' w.heap.size g1 c1 p.K ∧ OwnStrs w' w.heap.size g2 c2 p.V ∧ g1 < g2 ∧ Below w.heap.size w w' := by
  have kc := fun W (h : Below w.heap.size w W) => clone_any p.K kv W (hk.below h) h0 h8
  have vc := fun W (h : Below w.heap.size w W) => clone_any p.V vv W (hv.below h) (by omega) (by omega)
  obtain ⟨ka, kcap, rfl⟩ := hk.shape
  obtain ⟨va, vcap, rfl⟩ := hv.shape
  have HL := hid hl
  clear hl hk hv
  generalize hn : p.K.length = n at *
  generalize hm : p.V.length = m at *
  generalize hW0 : (w.alloc (.cells #[.slice ka n kcap, .slice va m vcap] 69)).alloc (.cells #[.slice none 0 0, .slice none 0 0] 69) = W0
  have hB0 : Below w.heap.size w W0 := by rw [← hW0]; exact ((Below.refl _ w).alloc (Nat.le_refl _) _).alloc (by simp) _
  have hs0 : W0.heap.size = w.heap.size + 1 + 1 := by rw [← hW0]; simp
  have c0 : W0.cell? ⟨w.heap.size, 0, none⟩ = some (.slice ka n kcap) := by rw [← hW0]; exact cell_of_block (block_alloc_of (block_alloc_at w _) _) rfl
  have c1 : W0.cell? ⟨w.heap.size, 1, none⟩ = some (.slice va m vcap) := by rw [← hW0]; exact cell_of_block (block_alloc_of (block_alloc_at w _) _) rfl
  have r0 : W0.heap[w.heap.size + 1]? = some (.cells #[.slice none 0 0, .slice none 0 0] 69) := by
    rw [← hW0]; have := block_alloc_at (w.alloc (.cells #[.slice ka n kcap, .slice va m vcap] 69)) (.cells #[.slice none 0 0, .slice none 0 0] 69)
    rwa [World.size_alloc] at this
  have q0 : W0.cell? ⟨w.heap.size + 1, 0, none⟩ = some (.slice none 0 0) := cell_of_block r0 rfl
  have q1 : W0.cell? ⟨w.heap.size + 1, 1, none⟩ = some (.slice none 0 0) := cell_of_block r0 rfl
  have f0 : W0.frozen? ⟨w.heap.size + 1, 0, none⟩ = false := by simp [World.frozen?, r0]
  have f1 : W0.frozen? ⟨w.heap.size + 1, 1, none⟩ = false := by simp [World.frozen?, r0]
  have hne1 : ∀ i j, (⟨w.heap.size + 1, i, none⟩ : Addr) ≠ ⟨w.heap.size, j, none⟩ := fun i j h => by simp at h
  go_enter Try.func47, Try.ntmps47
  go_wp2
  clear hW0 r0
  go_region_held3 (fun w' => w'.cell? ⟨w.heap.size, 0, none⟩ = some (.slice ka n kcap) ∧ w'.cell? ⟨w.heap.size, 1, none⟩ = some (.slice va m vcap))
    (first | exact ⟨(World.cell?_setCell_other _ _ _ _ (hne1 _ _)).trans ((World.cell?_setCell_other _ _ _ _ (hne1 _ _)).trans s02), (World.cell?_setCell_other _ _ _ _ (hne1 _ _)).trans ((World.cell?_setCell_other _ _ _ _ (hne1 _ _)).trans s12)⟩ | exact ⟨s02, s12⟩ | exact ⟨s01, s11⟩ | exact ⟨c0, c1⟩)
    (first
      | (go_at_call_of 65 (Value.slice ka n kcap); refine (kc _ hB0.drew).mono ?_; rintro e w1 ⟨g1, k1, rfl, ho1, hb1⟩; obtain ⟨hcc, hff⟩ := bcell hb1; have hA : w.heap.size < W0.drew.heap.size := (by show _ < W0.heap.size; omega); have hA' : w.heap.size + 1 < W0.drew.heap.size := (by show _ < W0.heap.size; omega); have hz1 := hB0.drew.trans (hb1.mono (show w.heap.size ≤ W0.drew.heap.size from hB0.size)); have q01 := (hcc _ _ hA').trans q0; have q11 := (hcc _ _ hA').trans q1; have f01 := (hff _ _ hA').trans f0; have f11 := (hff _ _ hA').trans f1; have s01 := (hcc _ _ hA).trans c0; have s11 := (hcc _ _ hA).trans c1)
      | (go_at_call_of 65 (Value.slice va m vcap); refine (vc _ hz1).mono ?_; rintro e w2 ⟨g2, k2, rfl, ho2, hb2⟩; obtain ⟨hcc, hff⟩ := bcell hb2; replace hA := Nat.lt_of_lt_of_le hA hb1.size; replace hA' := Nat.lt_of_lt_of_le hA' hb1.size; have q02 := (hcc _ _ hA').trans q01; have q12 := (hcc _ _ hA').trans q11; have f02 := (hff _ _ hA').trans f01; have f12 := (hff _ _ hA').trans f11; have s02 := (hcc _ _ hA).trans s01; have s12 := (hcc _ _ hA).trans s11))
  go_wp2
  have hz2 : Below w.heap.size w w2 := hz1.trans (hb2.mono hz1.size)
  have hbw : w.heap.size + 2 ≤ W0.drew.heap.size := (by show _ ≤ W0.heap.size; omega)
  refine bodyPost_ret (v := .agg #[.slice (some ⟨g1, 0, none⟩) n k1, .slice (some ⟨g2, 0, none⟩) m k2]) (by simp [results, Try.results47, go_sem, *]) rfl ?_
  refine ⟨g1, k1, g2, k2, rfl, ?_, ?_, Nat.lt_of_lt_of_le ho1.lt ho2.1, ?_⟩
  · exact (((ho1.below hb2).setCell (by simp only; omega) _).setCell (by simp only; omega) _).base (by omega)
  · have := hb1.size
    exact ((ho2.setCell (by simp only; omega) _).setCell (by simp only; omega) _).base (by omega)
  · exact (hz2.setCell (by simp) _).setCell (by simp) _

end Go.Proofs.Ytfcdkpkmkepcaaa

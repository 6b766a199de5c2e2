/-
  Contract of the statements' own question whether tree answers at all.
-/
import Derived.Test.YtfcdkpkmkepcaaaTPutAny
namespace Go.Proofs.Ytfcdkpkmkepcaaa
open Go.RowKit

theorem tree_zero (w : World) : IsTree w (.agg #[.slice none 0 0]) [] := ⟨_, rfl, IsPages.nil w⟩

theorem trees_flat {T1 T2 : List Pg} (h1 : flat T1 = putF (flat []) ⟨#[98]⟩ ⟨#[49]⟩) (h2 : flat T2 = putF (flat T1) ⟨#[97]⟩ ⟨#[50]⟩) : flat T2 = [(⟨#[97]⟩, ⟨#[50]⟩), (⟨#[98]⟩, ⟨#[49]⟩)] := by
  have e1 : flat T1 = [(⟨#[98]⟩, ⟨#[49]⟩)] := by rw [h1]; rfl
  rw [h2, e1]
  have a1 : klt ⟨#[98]⟩ ⟨#[97]⟩ = false := by rw [klt, Lib.toList_data, Lib.toList_data]; decide
  have a2 : klt ⟨#[97]⟩ ⟨#[98]⟩ = true := by rw [klt, Lib.toList_data, Lib.toList_data]; decide
  simp [putF, a1, a2]

theorem trees_get : getAns (getF [(⟨#[97]⟩, ⟨#[50]⟩), (⟨#[98]⟩, ⟨#[49]⟩)] ⟨#[97]⟩) = .tuple #[.string ⟨#[50]⟩, .bool true] := by simp [getF, getAns]

set_option maxHeartbeats 1000000 in
theorem treesKeep_any (w : World) : Calls Try.prog 35 #[] w fun e w' => e = .returned (.bool true) ∧ Below w.heap.size w w' := by
  have p1 := put_any [] (.agg #[.slice none 0 0]) ⟨#[98]⟩ ⟨#[49]⟩ w (tree_zero w) ⟨by simp, by simp [keysT, Rise]⟩ (by decide)
  go_enter Try.func35, Try.ntmps35
  go_wp2_with (first
    | (go_at_call_of 26 (Value.agg #[.slice none 0 0]); go_must (go_fit p1; rintro e w1 ⟨tv1, T1, rfl, ht1, hb1, hg1, hf1, hl1⟩; have p2 := put_any T1 tv1 ⟨#[97]⟩ ⟨#[50]⟩ w1 ht1 hg1 (by simp at hl1; omega)))
    | (go_at_call 26; go_must (go_fit p2; rintro e w2 ⟨tv2, T2, rfl, ht2, hb2, hg2, hf2, hl2⟩; have hfl := trees_flat hf1 hf2; obtain ⟨sv2, rfl, hs2⟩ := ht2; obtain ⟨ao, c, rfl⟩ := hs2.shape; have hbx : Below w2.heap.size w2 (w2.alloc (.cells #[.slice ao T2.length c] 39)) := (Below.refl _ _).alloc (Nat.le_refl _) _; have gt := get_good T2 (.agg #[.slice ao T2.length c]) ⟨#[97]⟩ _ ⟨_, rfl, hs2.below hbx⟩ hg2 (by simp at hl1 hl2; omega); rw [hfl, trees_get] at gt))
    | (go_at_call 24; go_must (go_fit gt; rintro e w3 ⟨rfl, hb3⟩; have sz := size_any T2 (.agg #[.slice ao T2.length c]) w3 ⟨_, rfl, (hs2.below hbx).below hb3⟩ (by rw [← length_flat hg2.1, hfl]; decide); rw [← length_flat hg2.1, hfl] at sz; have cb3 : w3.cell? ⟨w2.heap.size, 0, none⟩ = some (.slice ao T2.length c) := cell_of_block ((hb3.block _ (by simp)).trans (block_alloc_at w2 _)) rfl))
    | (go_at_call 34; go_must (go_fit sz; rintro e w4 ⟨rfl, hb4⟩)))
  go_ret
  exact ⟨rfl, bthen (bthen (bthen (bthen hb1 hb2) hbx) hb3) hb4⟩

end Go.Proofs.Ytfcdkpkmkepcaaa

/-
  Contract of tree.Drop: of every tree.
-/
import Derived.Test.YtfcdkpkmkepcaaaTJoin
namespace Go.Proofs.Ytfcdkpkmkepcaaa
open Go.RowKit

def JoinSays (w w' : World) (e : Ending) (T : List Pg) : Prop :=
  ∃ tv' T', e = .returned tv' ∧ IsTree w' tv' T' ∧ Below w.heap.size w w' ∧ (∀ p ∈ T', p.ok) ∧ flat T' = flat T ∧ T'.length ≤ T.length

/-- tree.joined: what the tree has stays. -/
theorem joined_any (T : List Pg) (tv : Value) (i : Int) (w : World) (h : IsTree w tv T) (hok : ∀ p ∈ T, p.ok) (hlo : -1 ≤ i) (hi : i ≤ 4611686018427387904) (hn : T.length * 48 ≤ 140737488355328) :
    Calls Try.prog 52 #[tv, .int .i64 i] w fun e w' => JoinSays w w' e T := by
  by_cases hbad : i < 0 ∨ (T.length : Int) ≤ i + 1
  · refine (joined_out T tv i w h hbad hlo hi).mono ?_
    rintro e w' ⟨tv', he, ht, hb⟩
    exact ⟨tv', T, he, ht, hb, hok, rfl, Nat.le_refl _⟩
  · obtain ⟨k, rfl⟩ : ∃ k : Nat, i = k := ⟨i.toNat, by omega⟩
    obtain ⟨a, ha⟩ : ∃ a, T[k]? = some a := ⟨_, List.getElem?_eq_getElem (by omega)⟩
    obtain ⟨b, hb⟩ : ∃ b, T[k + 1]? = some b := ⟨_, List.getElem?_eq_getElem (by omega)⟩
    have hT := split_two ha hb
    have hl : (T.take k).length = k := by rw [List.length_take]; omega
    generalize T.take k = A at hT hl
    generalize T.drop (k + 2) = B at hT
    subst hT
    subst hl
    have oa := hok a (by simp)
    have ob := hok b (by simp)
    refine (joined_two A B a b tv w h oa ob hn).mono ?_
    rintro e w' ⟨tv', he, ht, hbl⟩
    refine ⟨tv', _, he, ht, hbl, ?_⟩
    split
    · rename_i h4
      refine ⟨?_, ?_, ?_⟩
      · intro q hq
        simp only [List.mem_append, List.mem_cons, List.not_mem_nil, or_false] at hq
        rcases hq with (hq | rfl) | hq
        · exact hok q (by simp [hq])
        · refine ⟨?_, ?_, ?_⟩
          · have := oa.1; simp only [List.length_append]; omega
          · simp only [List.length_append]; exact h4
          · simp only [List.length_append, oa.2.2, ob.2.2]
        · exact hok q (by simp [hq])
      · rw [flat_append, flat_append, flat_append, flat_cons, flat_cons, flat_cons, flat_nil]
        simp only
        rw [List.zip_append oa.2.2.symm]
        simp
      · simp only [List.length_append, List.length_cons, List.length_nil]; omega
    · exact ⟨hok, rfl, Nat.le_refl _⟩

set_option maxHeartbeats 2000000 in
theorem drop_not (T : List Pg) (tv : Value) (k : ByteArray) (w : World) (h : IsTree w tv T) (hg : ¬ GoodT T) :
    Calls Try.prog 27 #[tv, .string k] w fun e w' => ∃ tv', e = .returned tv' ∧ IsTree w' tv' T ∧ Below w.heap.size w w' := by
  have gc := fun W (hW : Below w.heap.size w W) => good_no T tv W (h.below hW) hg
  obtain ⟨sv, rfl, hs⟩ := h
  obtain ⟨so, scap, rfl⟩ := hs.shape
  have HS := hid hs
  clear hs hg
  generalize T.length = n at *
  generalize hW0 : (w.alloc (.cells #[.slice so n scap] 39)).alloc (.cells #[.slice none 0 0] 39) = W0
  have hB0 : Below w.heap.size w W0 := by rw [← hW0]; exact ((Below.refl _ w).alloc (Nat.le_refl _) _).alloc (by simp) _
  have hs0 : W0.heap.size = w.heap.size + 1 + 1 := by rw [← hW0]; simp
  have b0 : W0.heap[w.heap.size]? = some (.cells #[.slice so n scap] 39) := by rw [← hW0]; exact block_alloc_of (block_alloc_at w _) _
  have r0 : W0.heap[w.heap.size + 1]? = some (.cells #[.slice none 0 0] 39) := by rw [← hW0]; exact block_alloc_is (size_a1 _ _) _
  have cb0 := cell_of_block b0 (j := 0) rfl
  have hA : w.heap.size < W0.heap.size := by omega
  have hA' : w.heap.size + 1 < W0.heap.size := by omega
  have g0 := gc _ hB0
  go_enter Try.func27, Try.ntmps27
  go_wp2_with (go_at_call 28; go_must (go_fit g0; rintro e w1 ⟨rfl, hb1⟩; have cb1 : w1.cell? ⟨w.heap.size, 0, none⟩ = some (.slice so n scap) := cell_of_block ((hb1.block _ hA).trans b0) rfl; have r1 := (hb1.block _ hA').trans r0; have q1 : w1.cell? ⟨w.heap.size + 1, 0, none⟩ = some (.slice none 0 0) := cell_of_block r1 rfl; have f1 : w1.frozen? ⟨w.heap.size + 1, 0, none⟩ = false := (by simp [World.frozen?, r1])))
  refine bodyPost_ret (v := .agg #[.slice so n scap]) (by simp [results, Try.results27, go_sem, *]) rfl ?_
  have hz : Below w.heap.size w w1 := hB0.trans (hb1.mono hB0.size)
  exact ⟨_, rfl, ⟨_, rfl, pages_set (HS.out.below hz) r1 _⟩, hz.setCell (by simp) _⟩

set_option maxHeartbeats 2000000 in
theorem drop_absent (T : List Pg) (tv : Value) (k : ByteArray) (pg pl : Nat) (w : World) (h : IsTree w tv T) (hg : GoodT T) (fi : FindIs T k pg pl false) :
    Calls Try.prog 27 #[tv, .string k] w fun e w' => ∃ tv', e = .returned tv' ∧ IsTree w' tv' T ∧ Below w.heap.size w w' := by
  have gc := fun W (hW : Below w.heap.size w W) => good_yes T tv W (h.below hW) hg
  have fc := fun W (hW : Below w.heap.size w W) => fi tv W (h.below hW)
  obtain ⟨sv, rfl, hs⟩ := h
  obtain ⟨so, scap, rfl⟩ := hs.shape
  have HS := hid hs
  clear hs hg fi
  generalize T.length = n at *
  generalize hW0 : (w.alloc (.cells #[.slice so n scap] 39)).alloc (.cells #[.slice none 0 0] 39) = W0
  have hB0 : Below w.heap.size w W0 := by rw [← hW0]; exact ((Below.refl _ w).alloc (Nat.le_refl _) _).alloc (by simp) _
  have hs0 : W0.heap.size = w.heap.size + 1 + 1 := by rw [← hW0]; simp
  have b0 : W0.heap[w.heap.size]? = some (.cells #[.slice so n scap] 39) := by rw [← hW0]; exact block_alloc_of (block_alloc_at w _) _
  have r0 : W0.heap[w.heap.size + 1]? = some (.cells #[.slice none 0 0] 39) := by rw [← hW0]; exact block_alloc_is (size_a1 _ _) _
  have cb0 := cell_of_block b0 (j := 0) rfl
  have hA : w.heap.size < W0.heap.size := by omega
  have hA' : w.heap.size + 1 < W0.heap.size := by omega
  have g0 := gc _ hB0
  go_enter Try.func27, Try.ntmps27
  go_wp2_with (first
    | (go_at_call 28; go_must (go_fit g0; rintro e w1 ⟨rfl, hb1⟩; have bb1 := (hb1.block _ hA).trans b0; have cb1 : w1.cell? ⟨w.heap.size, 0, none⟩ = some (.slice so n scap) := cell_of_block bb1 rfl; have r1 := (hb1.block _ hA').trans r0; have hz1 := hB0.trans (hb1.mono hB0.size)))
    | (go_at_call 44; go_must (go_fit (fc _ hz1); rintro e w2 ⟨rfl, hb2⟩; have cb2 : w2.cell? ⟨w.heap.size, 0, none⟩ = some (.slice so n scap) := cell_of_block ((hb2.block _ (lt_of_block bb1)).trans bb1) rfl; have r2 := (hb2.block _ (lt_of_block r1)).trans r1; have q2 : w2.cell? ⟨w.heap.size + 1, 0, none⟩ = some (.slice none 0 0) := cell_of_block r2 rfl; have f2 : w2.frozen? ⟨w.heap.size + 1, 0, none⟩ = false := (by simp [World.frozen?, r2]))))
  refine bodyPost_ret (v := .agg #[.slice so n scap]) (by simp [results, Try.results27, go_sem, *]) rfl ?_
  have hz : Below w.heap.size w w2 := hz1.trans (hb2.mono hz1.size)
  exact ⟨_, rfl, ⟨_, rfl, pages_set (HS.out.below hz) r2 _⟩, hz.setCell (by simp) _⟩

end Go.Proofs.Ytfcdkpkmkepcaaa

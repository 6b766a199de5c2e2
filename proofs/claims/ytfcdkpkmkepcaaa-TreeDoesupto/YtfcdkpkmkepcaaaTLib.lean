/-
  Contracts of the library's functions that package tree calls: Grow of nothing, Concat, Clone, BinarySearch, in the words of rows.
-/
import Derived.Test.YtfcdkpkmkepcaaaTMem
import Derived.Test.YtfcdkpkmkepcaaaShelf
import Derived.WalkKit
import Derived.WalkSpells
import Derived.WalkLawsBesides
import Derived.Laws.AppendOwnNone
namespace Go.Proofs.Ytfcdkpkmkepcaaa
open Go.RowKit

theorem zeroCells_size (z : Value) (n : Nat) : (Builtin.zeroCells z.cells n).size = n * z.cells.size := by
  simp [Builtin.zeroCells]

theorem grow_own {w : World} {t : TypeId} {z : Value} {size n G : Nat} (hz : z.cells.size = size) (hn : n ≤ G) (hG : G ≤ maxLen) :
    (w.drew.alloc (.cells (([] : List Value).toArray ++ Builtin.zeroCells z.cells n ++ Builtin.zeroCells z.cells (G - n)) t)).ownsRow w.heap.size t size (.slice (some ⟨w.heap.size, 0, none⟩) 0 G) 0 [] := by
  refine ⟨by simp, .inr ⟨w.heap.size, G, _, rfl, Nat.le_refl _, block_alloc_at w.drew _, Nat.zero_le _, hG, ?_, by simp⟩⟩
  rw [Array.size_append, Array.size_append, zeroCells_size, zeroCells_size, hz]
  simp only [List.size_toArray, List.length_nil, Nat.zero_add]
  rw [← Nat.add_mul]
  congr 1
  omega

theorem info_page : (Try.prog.info? 69).map (fun i => (i.zero, i.size, i.bytes)) = some (some (.agg #[.slice none 0 0, .slice none 0 0]), 2, 48) := by kernel_rfl
theorem info_string : (Try.prog.info? 9).map (fun i => (i.zero, i.size, i.bytes)) = some (some (.string ⟨#[]⟩), 1, 16) := by kernel_rfl

theorem growP (n : Nat) (w : World) (hn : n * 48 ≤ 140737488355328) :
    Calls Try.prog 72 #[.slice none 0 0, .int .i64 n] w fun e w' => ∃ v, e = .returned v ∧ w'.ownsRow w.heap.size 69 2 v 0 [] ∧ Below w.heap.size w w' := by
  obtain ⟨i0, hi, hz0, hz1, hz2⟩ := info_parts info_page
  rcases Nat.eq_zero_or_pos n with rfl | h0
  · refine (Any8.slices_Grow_room Try.laysGrowP none 0 0 0 w (Nat.le_refl _) (by omega) (by omega) (by omega)).mono ?_
    rintro e w' ⟨rfl, rfl⟩
    exact ⟨_, rfl, World.ownsRow_nil _ _ _ _, Below.refl _ _⟩
  · refine (Any8.slices_Grow_grow Try.laysGrowP i0 _ hi hz0 (by omega) none 0 0 n [] w (by omega) (by omega) (by rw [hz2]; omega) (by omega) (by simp) (fun _ => rfl) (fun a h => by cases h)).mono ?_
    rintro e w' ⟨rfl, rfl⟩
    rw [Nat.zero_add]
    have hG : grownCap w n 0 69 ≤ maxLen := grownCap_le_maxLen w n 0 _ (by unfold maxLen; omega)
    have hg := grownCap_ge w n 0 69
    exact ⟨_, rfl, grow_own rfl hg hG, ((Below.refl _ w).drew).alloc (Nat.le_refl _) _⟩

theorem growS (n : Nat) (w : World) (hn : n * 16 ≤ 140737488355328) :
    Calls Try.prog 74 #[.slice none 0 0, .int .i64 n] w fun e w' => ∃ v, e = .returned v ∧ w'.ownsRow w.heap.size 9 1 v 0 [] ∧ Below w.heap.size w w' := by
  obtain ⟨i0, hi, hz0, hz1, hz2⟩ := info_parts info_string
  rcases Nat.eq_zero_or_pos n with rfl | h0
  · refine (Any8.slices_Grow_room Try.laysGrowS none 0 0 0 w (Nat.le_refl _) (by omega) (by omega) (by omega)).mono ?_
    rintro e w' ⟨rfl, rfl⟩
    exact ⟨_, rfl, World.ownsRow_nil _ _ _ _, Below.refl _ _⟩
  · refine (Any8.slices_Grow_grow Try.laysGrowS i0 _ hi hz0 (by omega) none 0 0 n [] w (by omega) (by omega) (by rw [hz2]; omega) (by omega) (by simp) (fun _ => rfl) (fun a h => by cases h)).mono ?_
    rintro e w' ⟨rfl, rfl⟩
    rw [Nat.zero_add]
    have hG : grownCap w n 0 9 ≤ maxLen := grownCap_le_maxLen w n 0 _ (by unfold maxLen; omega)
    have hg := grownCap_ge w n 0 9
    exact ⟨_, rfl, grow_own rfl hg hG, ((Below.refl _ w).drew).alloc (Nat.le_refl _) _⟩

theorem bs_spec (K1 K2 : List ByteArray) (k : ByteArray) (h1 : ∀ x ∈ K1, klt x k = true) (h2 : ∀ x ∈ K2, klt x k = false) :
    Lib.bsGo (fun t => Op.bytesLess ((K1 ++ K2).getD t k).toList k.toList) (K1 ++ K2).length 0 (K1 ++ K2).length = K1.length := by
  refine Lib.bsGo_spec _ K1.length ?_ ?_ _ _ _ (by omega) (by omega) (by simp)
  · intro t ht
    show klt ((K1 ++ K2).getD t k) k = true
    rw [List.getD_eq_getElem?_getD, List.getElem?_append_left ht, List.getElem?_eq_getElem ht]
    exact h1 _ (List.getElem_mem ht)
  · intro t ht
    show klt ((K1 ++ K2).getD t k) k = false
    rw [List.getD_eq_getElem?_getD, List.getElem?_append_right ht]
    cases hg : K2[t - K1.length]? with
    | none => exact klt_irrefl k
    | some x => exact h2 x (List.mem_of_getElem? hg)

/-- slices.BinarySearch of texts that rise. -/
theorem search_any (K1 K2 : List ByteArray) (k : ByteArray) (kv : Value) (w : World) (hk : IsStrs w kv (K1 ++ K2)) (h1 : ∀ x ∈ K1, klt x k = true) (h2 : ∀ x ∈ K2, klt x k = false) (hlen : (K1 ++ K2).length ≤ 4) :
    Calls Try.prog 46 #[kv, .string k] w fun e w' => e = .returned (.tuple #[.int .i64 K1.length, .bool (decide (K2.head? = some k))]) ∧ Below w.heap.size w w' := by
  rcases Nat.eq_zero_or_pos (K1 ++ K2).length with h0 | h0
  · have he := List.eq_nil_of_length_eq_zero h0
    obtain ⟨rfl, rfl⟩ := List.append_eq_nil_iff.1 he
    obtain ⟨ao, cap, rfl⟩ := hk.shape
    refine (Any2.slices_BinarySearch_string_empty Try.laysFind ao cap k w).mono ?_
    rintro e w' ⟨rfl, rfl⟩
    exact ⟨rfl, Below.refl _ _⟩
  · obtain ⟨b, off, cap, rfl, hb, _, _, hc⟩ := hk.at h0
    refine (Any2.slices_BinarySearch_string Try.laysFind b off (K1 ++ K2).length cap (fun t => (K1 ++ K2).getD t k) k w (by omega) ?_).mono ?_
    · intro j hj
      exact hc j _ (by rw [List.getD_eq_getElem?_getD, List.getElem?_eq_getElem hj]; rfl)
    · rintro e w' ⟨rfl, q, rfl⟩
      rw [bs_spec K1 K2 k h1 h2]
      refine ⟨?_, below_drewN (Below.refl _ _) q⟩
      have hd : (K1.length < (K1 ++ K2).length ∧ (K1 ++ K2).getD K1.length k = k) ↔ K2.head? = some k := by
        cases K2 with
        | nil => simp
        | cons y K => simp [List.getD_eq_getElem?_getD]
      rw [decide_eq_decide.2 hd]

/-- A row of the caller's own that is not empty. -/
def OwnStrs (w : World) (B g cap : Nat) (L : List ByteArray) : Prop := B ≤ g ∧ w.ownsRow B 9 1 (.slice (some ⟨g, 0, none⟩) L.length cap) L.length (L.map .string)

/-- slices.Clone of some texts: a row of the call's own. -/
theorem clone_any (L : List ByteArray) (sv : Value) (w : World) (h : IsStrs w sv L) (h0 : 0 < L.length) (hl : L.length ≤ 8) :
    Calls Try.prog 65 #[sv] w fun e w' => ∃ g cap, e = .returned (.slice (some ⟨g, 0, none⟩) L.length cap) ∧ OwnStrs w' w.heap.size g cap L ∧ Below w.heap.size w w' := by
  obtain ⟨b, off, cap, rfl, hb, _, _, hc⟩ := h.at h0
  refine (Any.slices_Clone_string Try.laysClone b off L.length cap L w (Nat.le_refl _) (by omega) ?_).mono ?_
  · intro j hj
    exact hc j _ (by rw [List.getD_eq_getElem?_getD, List.getElem?_eq_getElem hj]; rfl)
  · rintro e w' ⟨v, rfl, ho, _, hb⟩
    rw [List.take_length] at ho
    rcases ho.2 with ⟨_, hz⟩ | ⟨g, c, cur, rfl, hg, _⟩
    · omega
    · exact ⟨g, c, rfl, ⟨hg, ho⟩, hb⟩

end Go.Proofs.Ytfcdkpkmkepcaaa

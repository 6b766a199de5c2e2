/-
  The calls that TreeDoes makes, of every tree, good or not: one contract each.
-/
import Derived.Test.YtfcdkpkmkepcaaaDFlat
import Derived.Test.YtfcdkpkmkepcaaaDPut
import Derived.Test.YtfcdkpkmkepcaaaTKeeps
namespace Go.Proofs.Ytfcdkpkmkepcaaa
open Go.RowKit

variable {gb : Bool} {T : List Pg}

theorem good_gen (hgb : gb = true ↔ GoodT T) (tv : Value) (w : World) (h : IsTree w tv T) : Calls Try.prog 28 #[tv] w fun e w' => e = .returned (.bool gb) ∧ Below w.heap.size w w' := by
  cases gb with
  | true => exact good_yes T tv w h (hgb.1 rfl)
  | false => exact good_no T tv w h (fun hg => by have := hgb.2 hg; cases this)

theorem get_gen (hgb : gb = true ↔ GoodT T) (tv : Value) (k : ByteArray) (w : World) (h : IsTree w tv T) (hn : T.length * 48 ≤ 140737488355328) :
    Calls Try.prog 24 #[tv, .string k] w fun e w' => ∃ gs gi, e = .returned (.tuple #[.string gs, .bool gi]) ∧ Below w.heap.size w w' ∧ Hid ((gb = true → gs = (getF (flat T) k).getD ⟨#[]⟩ ∧ gi = (getF (flat T) k).isSome) ∧ (gb = false → gi = false)) := by
  cases gb with
  | true =>
    refine (get_good T tv k w h (hgb.1 rfl) hn).mono ?_
    rintro e w' ⟨rfl, hb⟩
    exact ⟨_, _, rfl, hb, hid ⟨fun _ => ⟨rfl, rfl⟩, fun h => by cases h⟩⟩
  | false =>
    refine (get_not T tv k w h (fun hg => by have := hgb.2 hg; cases this)).mono ?_
    rintro e w' ⟨rfl, hb⟩
    exact ⟨_, _, rfl, hb, hid ⟨fun h => (by cases h), fun _ => rfl⟩⟩

theorem range_gen (hgb : gb = true ↔ GoodT T) (tv : Value) (lo hi : ByteArray) (w : World) (h : IsTree w tv T) (hn : T.length ≤ 1048576) :
    Calls Try.prog 25 #[tv, .string lo, .string hi] w fun e w' => ∃ ko kc vo vc rl, e = .returned (.tuple #[.slice ko rl kc, .slice vo rl vc]) ∧ Below w.heap.size w w' ∧ Hid ((gb = true → rl = (rng T lo hi).length ∧ IsStrs w' (.slice ko rl kc) ((rng T lo hi).map Prod.fst) ∧ IsStrs w' (.slice vo rl vc) ((rng T lo hi).map Prod.snd)) ∧ (gb = false → rl = 0)) := by
  refine (range_any gb T hgb tv lo hi w h hn).mono ?_
  rintro e w' ⟨kv, vv, rfl, hk, hv, hb⟩
  obtain ⟨ko, kc, rfl⟩ := hk.shape
  obtain ⟨vo, vc, rfl⟩ := hv.shape
  rw [List.length_map] at hk
  rw [List.length_map] at hv
  rw [List.length_map, List.length_map]
  refine ⟨ko, kc, vo, vc, (rans gb T lo hi).length, rfl, hb, hid ⟨fun e => ?_, fun e => ?_⟩⟩
  · have e2 : rans gb T lo hi = rng T lo hi := by unfold rans; rw [if_pos e]
    rw [e2] at hk hv ⊢
    exact ⟨rfl, hk, hv⟩
  · have e2 : rans gb T lo hi = [] := by unfold rans; rw [if_neg (fun hg => by rw [e] at hg; cases hg)]
    rw [e2]; rfl

theorem flatOf_gen (hgb : gb = true ↔ GoodT T) (tv : Value) (w : World) (h : IsTree w tv T) (hn : T.length ≤ 1048577) :
    Calls Try.prog 23 #[tv] w fun e w' => ∃ fo fn fc, e = .returned (.tuple #[.slice fo fn fc, .bool gb]) ∧ Below w.heap.size w w' ∧ Hid (gb = true → fn = (flat T).length ∧ IsPairs w' (.slice fo fn fc) (flat T)) := by
  refine (flatOf_any T tv w h hn).mono ?_
  rintro e w' ⟨⟨hg, v, rfl, hp⟩ | ⟨hg, rfl⟩, hb⟩
  · obtain ⟨fo, fc, rfl⟩ := IsRow.shape hp
    rw [hgb.2 hg]
    exact ⟨fo, _, fc, rfl, hb, hid fun _ => ⟨rfl, hp⟩⟩
  · have e : gb = false := by cases gb with
      | false => rfl
      | true => exact absurd (hgb.1 rfl) hg
    rw [e]
    exact ⟨none, 0, 0, rfl, hb, hid fun h => by cases h⟩

theorem put_gen (hgb : gb = true ↔ GoodT T) (tv : Value) (k v : ByteArray) (w : World) (h : IsTree w tv T) (hn : T.length ≤ 1048576) :
    Calls Try.prog 26 #[tv, .string k, .string v] w fun e w' => ∃ tv' T', e = .returned tv' ∧ IsTree w' tv' T' ∧ Below w.heap.size w w' ∧ Hid ((gb = true → GoodT T' ∧ flat T' = putF (flat T) k v ∧ T'.length ≤ T.length + 1) ∧ (gb = false → T' = T)) := by
  cases gb with
  | true =>
    refine (put_any T tv k v w h (hgb.1 rfl) (by omega)).mono ?_
    rintro e w' ⟨tv', T', he, ht, hb, h1, h2, h3⟩
    exact ⟨tv', T', he, ht, hb, hid ⟨fun _ => ⟨h1, h2, h3⟩, fun h => by cases h⟩⟩
  | false =>
    refine (put_not T tv k v w h (fun hg => by have := hgb.2 hg; cases this)).mono ?_
    rintro e w' ⟨tv', he, ht, hb⟩
    exact ⟨tv', T, he, ht, hb, hid ⟨fun h => (by cases h), fun _ => rfl⟩⟩

theorem drop_gen (hgb : gb = true ↔ GoodT T) (tv : Value) (k : ByteArray) (w : World) (h : IsTree w tv T) (hn : T.length ≤ 1048576) :
    Calls Try.prog 27 #[tv, .string k] w fun e w' => ∃ tv' T', e = .returned tv' ∧ IsTree w' tv' T' ∧ Below w.heap.size w w' ∧ Hid ((gb = true → GoodT T' ∧ flat T' = dropF (flat T) k ∧ T'.length ≤ T.length) ∧ (gb = false → T' = T)) := by
  cases gb with
  | true =>
    refine (drop_any T tv k w h (hgb.1 rfl) (by omega)).mono ?_
    rintro e w' ⟨tv', T', he, ht, hb, h1, h2, h3⟩
    exact ⟨tv', T', he, ht, hb, hid ⟨fun _ => ⟨h1, h2, h3⟩, fun h => by cases h⟩⟩
  | false =>
    refine (drop_not T tv k w h (fun hg => by have := hgb.2 hg; cases this)).mono ?_
    rintro e w' ⟨tv', he, ht, hb⟩
    exact ⟨tv', T, he, ht, hb, hid ⟨fun h => (by cases h), fun _ => rfl⟩⟩

/-- What has been found of a key in a list that rises, pair by pair. -/
theorem get_take {F : Prs} {k : ByteArray} {j : Nat} {x : ByteArray × ByteArray} (hr : Rise (F.map Prod.fst)) (hx : F[j]? = some x) :
    getF (F.take (j + 1)) k = if x.1 = k then some x.2 else getF (F.take j) k := by
  rw [List.take_add_one, hx]
  by_cases e : x.1 = k
  · rw [if_pos e]
    have hn : (F.take j).find? (fun y => decide (y.1 = k)) = none := by
      rw [List.find?_eq_none]
      intro y hy
      obtain ⟨i, hi, rfl⟩ := List.getElem_of_mem hy
      have hij : i < j := by rw [List.length_take] at hi; omega
      obtain ⟨hj, ej⟩ := List.getElem?_eq_some_iff.1 hx
      have := List.pairwise_iff_getElem.1 hr i j (by rw [List.length_map]; omega) (by rw [List.length_map]; exact hj) hij
      simp only [List.getElem_map] at this
      rw [ej, e] at this
      rw [List.getElem_take]
      simpa using klt_ne this
    unfold getF
    rw [List.find?_append, hn]
    simp [e]
  · rw [if_neg e]
    unfold getF
    rw [List.find?_append]
    cases (F.take j).find? (fun y => decide (y.1 = k)) <;> simp [e]

end Go.Proofs.Ytfcdkpkmkepcaaa

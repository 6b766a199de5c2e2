/-
  Contract of tree.Drop: of every good tree.
-/
import Derived.Test.YtfcdkpkmkepcaaaTDropAt
namespace Go.Proofs.Ytfcdkpkmkepcaaa
open Go.RowKit

def DropSays (w w' : World) (e : Ending) (T : List Pg) (k : ByteArray) : Prop :=
  ∃ tv' T', e = .returned tv' ∧ IsTree w' tv' T' ∧ Below w.heap.size w w' ∧ GoodT T' ∧ flat T' = dropF (flat T) k ∧ T'.length ≤ T.length

theorem drop_none {T : List Pg} {k : ByteArray} {pg pl : Nat} (hg : GoodT T) (f : Found T k pg pl false) : dropF (flat T) k = flat T := by
  obtain ⟨F1, o, F2, c, ho⟩ := f.cut hg
  cases o with
  | some v => have := ho.2 rfl; cases this
  | none => rw [c.drop, c.eq]; simp

theorem drop_any (T : List Pg) (tv : Value) (k : ByteArray) (w : World) (h : IsTree w tv T) (hg : GoodT T) (hn : (T.length + 1) * 48 ≤ 140737488355328) :
    Calls Try.prog 27 #[tv, .string k] w fun e w' => DropSays w w' e T k := by
  obtain ⟨pg, pl, th, hF, fi⟩ := find_any T k hg (by omega)
  cases th with
  | false =>
    refine (drop_absent T tv k pg pl w h hg fi).mono ?_
    rintro e w' ⟨tv', he, ht, hb⟩
    exact ⟨tv', T, he, ht, hb, hg, (drop_none hg hF).symm, Nat.le_refl _⟩
  | true =>
    rcases hF with ⟨_, _, hc, _⟩ | ⟨A, p, B, K1, y, K3, rfl, hp, rfl, rfl, hA, hK, hy, hth⟩
    · cases hc
    · have hyk : y = k := of_decide_eq_true hth.symm
      subst hyk
      obtain ⟨V1, v0, V3, hV, hl1, hl3, c⟩ := found_there hg hp hA hK
      refine (drop_there A B p K1 K3 V1 V3 v0 y tv w h hg hp hV hl1 fi hn).mono ?_
      rintro e w' ⟨tv', T', he, ht, hb, ok, fl, le⟩
      have hfl : flat T' = dropF (flat (A ++ p :: B)) y := by
        rw [fl, c.drop]
        split
        · rename_i h0
          have hK1 : K1 = [] := List.eq_nil_of_length_eq_zero (by simp only [List.length_append] at h0; omega)
          have hK3 : K3 = [] := List.eq_nil_of_length_eq_zero (by simp only [List.length_append] at h0; omega)
          subst hK1
          subst hK3
          have hV1 : V1 = [] := List.eq_nil_of_length_eq_zero (by simpa using hl1)
          have hV3 : V3 = [] := List.eq_nil_of_length_eq_zero (by simpa using hl3)
          subst hV1
          subst hV3
          simp [flat_append]
        · rw [flat_append, flat_append, flat_cons, flat_nil]
          simp only
          rw [List.zip_append hl1.symm]
          simp
      refine ⟨tv', T', he, ht, hb, good_of_flat ok ?_, hfl, ?_⟩
      · rw [hfl, c.drop]
        exact c.rise_drop hg.rise
      · refine Nat.le_trans le ?_
        simp only [List.length_append, List.length_cons]
        split <;> simp <;> omega

end Go.Proofs.Ytfcdkpkmkepcaaa

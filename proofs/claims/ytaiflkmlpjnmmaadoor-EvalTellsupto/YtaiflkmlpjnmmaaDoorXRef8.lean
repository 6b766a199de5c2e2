/-
  Contract of the statements' own EvalOf: every expression.
-/
import Derived.Test.YtaiflkmlpjnmmaaDoorXRef3
import Derived.Test.YtaiflkmlpjnmmaaDoorXRef5
import Derived.Test.YtaiflkmlpjnmmaaDoorXRef6
import Derived.Test.YtaiflkmlpjnmmaaDoorXRef7
namespace Go.Proofs.YtaiflkmlpjnmmaaDoor
open Go.RowKit

theorem evalOf_known (op : Int) (hop : 3 ≤ op ∧ op ≤ 6) (x : V) (s name : Wd) (n : Int) (y y' : E) (hs0 : OfSays y) (hs1 : OfSays y') : OfSays (.mk op x s name n [y, y']) := by
  intro v rv row C w he hC hf hr hrs hrl ht hg
  have E : ev row (.mk op x s name n [y, y']) = twoV op (ev row y) (ev row y') := by
    rw [ev_kids, kidsOf, if_pos (by unfold argc; rw [if_neg (by omega), if_pos (by omega)]; rfl)]
    rfl
  have E2 : twoV op (ev row y) (ev row y') = if knownV (ev row y) = true ∧ knownV (ev row y') = true ∧ (ev row y).k = (ev row y').k then knV op (ev row y) (ev row y') else zero := by
    unfold twoV
    rw [if_neg (by omega), if_neg (by omega)]
  rw [E, E2]
  by_cases h : knownV (ev row y) = true ∧ knownV (ev row y') = true ∧ (ev row y).k = (ev row y').k
  · rw [if_pos h]
    obtain ⟨h1, h2, h3⟩ := h
    simp only [knownV, Bool.and_eq_true, Bool.not_eq_true', decide_eq_false_iff_not] at h1 h2
    rcases (show op = 3 ∨ op = 4 ∨ op = 5 ∨ op = 6 from by omega) with rfl | rfl | rfl | rfl
    · have := known_plus x s name n y y' hs0 hs1 v rv row C w he hC hf hr hrs hrl ht hg h1.2 h2.2 h3 h1.1
      exact this
    · have := known_minus x s name n y y' hs0 hs1 v rv row C w he hC hf hr hrs hrl ht hg h1.2 h2.2 h3 h1.1
      exact this
    · have := known_eq x s name n y y' hs0 hs1 v rv row C w he hC hf hr hrs hrl ht hg h1.2 h2.2 h3 h1.1
      rw [← cmpV_eq] at this
      exact this
    · have := known_lt x s name n y y' hs0 hs1 v rv row C w he hC hf hr hrs hrl ht hg h1.2 h2.2 h3 h1.1
      exact this
  · rw [if_neg h]
    refine known_bad op hop x s name n y y' hs0 hs1 v rv row C w he hC hf hr hrs hrl ht hg ?_
    simp only [knownV, Bool.and_eq_true, Bool.not_eq_true', decide_eq_false_iff_not] at h
    cases h1 : good (ev row y)
    · exact .inl rfl
    · cases h2 : good (ev row y')
      · exact .inr (.inl ⟨rfl, rfl⟩)
      · rw [h1, h2] at h
        by_cases h3 : (ev row y).k = (ev row y').k
        · refine .inr (.inr (.inr ⟨rfl, rfl, ?_⟩))
          by_cases h0 : (ev row y).k = 0
          · exact ⟨h0, by omega⟩
          · exact absurd ⟨⟨h0, rfl⟩, ⟨by omega, rfl⟩, h3⟩ h
        · exact .inr (.inr (.inl ⟨rfl, rfl, h3⟩))

theorem evalOf_of (op : Int) (x : V) (s name : Wd) (n : Int) (l : List E) (hl : ∀ e ∈ l, OfSays e) : OfSays (.mk op x s name n l) := by
  by_cases hk : kidsOf op l = []
  · exact evalOf_none op x s name n l hk
  · have hlen : l.length = argc op := by
      by_cases h : l.length = argc op
      · exact h
      · exact absurd (by rw [kidsOf, if_neg h]) hk
    have hne : l ≠ [] := by rintro rfl; exact hk (by unfold kidsOf; split <;> rfl)
    unfold argc at hlen
    by_cases h9 : op = 9
    · subst h9
      match l, hlen, hl with
      | [y], _, hl => exact evalOf_not x s name n y (hl y (by simp))
    by_cases h10 : op = 10
    · subst h10
      match l, hlen, hl with
      | [y], _, hl => exact evalOf_is x s name n y (hl y (by simp))
    rw [if_neg (by omega)] at hlen
    by_cases hop : 3 ≤ op ∧ op ≤ 8
    · rw [if_pos hop] at hlen
      match l, hlen, hl with
      | [y, y'], _, hl =>
        have hy := hl y (by simp)
        have hy' := hl y' (by simp)
        by_cases h7 : op = 7
        · subst h7; exact evalOf_and x s name n y y' hy hy'
        by_cases h8 : op = 8
        · subst h8; exact evalOf_or x s name n y y' hy hy'
        exact evalOf_known op (by omega) x s name n y y' hy hy'
    · rw [if_neg hop] at hlen
      exact absurd (List.eq_nil_of_length_eq_zero hlen) hne

mutual
/-- P5.2, P5.3: the document's own answer. -/
theorem evalOf_any : ∀ e : E, OfSays e
  | .mk op x s name n l => evalOf_of op x s name n l (evalOf_each l)
theorem evalOf_each : ∀ (l : List E), ∀ e ∈ l, OfSays e
  | [], _, h => by cases h
  | x :: l, e, h => by
    rcases List.mem_cons.1 h with h | h
    · rw [h]; exact evalOf_any x
    · exact evalOf_each l e h
end

end Go.Proofs.YtaiflkmlpjnmmaaDoor

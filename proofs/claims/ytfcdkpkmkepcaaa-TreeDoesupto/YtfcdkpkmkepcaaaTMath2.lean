/-
  What a tree's test and its walks lean on: lists that rise, page by page. Nothing of the program.
-/
import Derived.Test.YtfcdkpkmkepcaaaTMath
namespace Go.Proofs.Ytfcdkpkmkepcaaa

theorem rise_snoc {l : List ByteArray} {a b : ByteArray} (h : Rise (l ++ [a])) (k : klt a b = true) : Rise (l ++ [a] ++ [b]) := by
  rw [rise_append]
  refine ⟨h, by simp [Rise], ?_⟩
  intro x hx y hy
  obtain rfl : y = b := by simpa using hy
  rcases List.mem_append.1 hx with hx | hx
  · exact klt_trans ((rise_append.1 h).2.2 x hx a (by simp)) k
  · obtain rfl : x = a := by simpa using hx
    exact k

theorem rise_take_step {K : List ByteArray} {k : Nat} {a b : ByteArray} (h : Rise (K.take (k + 1))) (ha : K[k]? = some a) (hb : K[k + 1]? = some b) (hab : klt a b = true) : Rise (K.take (k + 1 + 1)) := by
  rw [List.take_add_one, hb]
  rw [List.take_add_one, ha] at h ⊢
  exact rise_snoc h hab

theorem rise_at {K : List ByteArray} (h : Rise K) {k : Nat} {a b : ByteArray} (ha : K[k]? = some a) (hb : K[k + 1]? = some b) : klt a b = true := by
  obtain ⟨h1, rfl⟩ := List.getElem?_eq_some_iff.1 ha
  obtain ⟨h2, rfl⟩ := List.getElem?_eq_some_iff.1 hb
  exact List.pairwise_iff_getElem.1 h k (k + 1) h1 h2 (by omega)

def firstK (p : Pg) : ByteArray := p.K.headD ByteArray.empty

theorem firstK_mem {p : Pg} (h : p.ok) : firstK p ∈ p.K := by
  obtain ⟨h1, _⟩ := h
  unfold firstK
  cases hk : p.K with
  | nil => rw [hk] at h1; simp at h1
  | cons a l => simp

theorem firstK_min {p : Pg} (h : Rise p.K) {x : ByteArray} (hx : x ∈ p.K) : x = firstK p ∨ klt (firstK p) x = true := by
  unfold firstK
  cases hk : p.K with
  | nil => rw [hk] at hx; cases hx
  | cons a l =>
    rw [hk] at hx h
    rcases List.mem_cons.1 hx with rfl | hx
    · exact .inl rfl
    · exact .inr ((List.pairwise_cons.1 h).1 x hx)

theorem GoodT.take {T : List Pg} (h : GoodT T) (k : Nat) : GoodT (T.take k) := by
  rw [← List.take_append_drop k T] at h
  exact h.part.1

theorem GoodT.page {T : List Pg} (h : GoodT T) {k : Nat} {p : Pg} (hp : T[k]? = some p) : p.ok ∧ Rise p.K := by
  have hm := List.mem_of_getElem? hp
  refine ⟨h.1 p hm, ?_⟩
  obtain ⟨A, B, rfl⟩ := List.append_of_mem hm
  have := h.2
  rw [keysT_append, keysT_cons, rise_append] at this
  exact (rise_append.1 this.2.1).1

theorem split_two {T : List Pg} {k : Nat} {q p : Pg} (hq : T[k]? = some q) (hp : T[k + 1]? = some p) : T = T.take k ++ q :: p :: T.drop (k + 2) := by
  obtain ⟨h1, rfl⟩ := List.getElem?_eq_some_iff.1 hq
  obtain ⟨h2, rfl⟩ := List.getElem?_eq_some_iff.1 hp
  conv => lhs; rw [← List.take_append_drop k T]
  congr 1
  rw [List.drop_eq_getElem_cons h1, List.drop_eq_getElem_cons h2]

theorem GoodT.next {T : List Pg} (h : GoodT T) {k : Nat} {q p : Pg} (hq : T[k]? = some q) (hp : T[k + 1]? = some p) : klt (lastK q) (firstK p) = true := by
  have h1 := (h.page hq).1
  have h2 := (h.page hp).1
  rw [split_two hq hp] at h
  have := h.2
  rw [keysT_append, keysT_cons, keysT_cons, rise_append] at this
  exact (rise_append.1 this.2.1).2.2 _ (lastK_mem h1) _ (List.mem_append_left _ (firstK_mem h2))

theorem good_step {T : List Pg} {k : Nat} {p : Pg} (h : GoodT (T.take k)) (hp : T[k]? = some p) (h1 : p.ok) (h2 : Rise p.K) (h3 : k = 0 ∨ ∃ q, T[k - 1]? = some q ∧ klt (lastK q) (firstK p) = true) : GoodT (T.take (k + 1)) := by
  rw [List.take_add_one, hp]
  refine ⟨?_, ?_⟩
  · intro q hq
    rcases List.mem_append.1 hq with hq | hq
    · exact h.1 q hq
    · obtain rfl : q = p := by simpa using hq
      exact h1
  · rw [keysT_append, rise_append]
    refine ⟨h.2, by simpa [keysT] using h2, ?_⟩
    intro a ha b hb
    have hb' : b ∈ p.K := by simpa [keysT] using hb
    rcases h3 with rfl | ⟨q, hq, hlt⟩
    · simp [keysT] at ha
    · have hlt' : klt (lastK q) b = true := by
        rcases firstK_min h2 hb' with rfl | hx
        · exact hlt
        · exact klt_trans hlt hx
      have hk : k - 1 + 1 = k ∨ k = 0 := by omega
      rcases hk with hk | rfl
      · have e : T.take k = T.take (k - 1) ++ [q] := by rw [← hk, List.take_add_one]; simp only [Nat.add_sub_cancel]; rw [hq]; rfl
        rw [e, keysT_append] at ha
        have hg := h
        rw [e] at hg
        have hqr : Rise q.K := by simpa [keysT] using hg.part.2.2
        have hqo : q.ok := hg.1 q (by simp)
        rcases List.mem_append.1 ha with ha | ha
        · have := hg.2
          rw [keysT_append, rise_append] at this
          exact klt_trans (this.2.2 a ha (lastK q) (by simpa [keysT] using lastK_mem hqo)) hlt'
        · rcases lastK_max hqr (by simpa [keysT] using ha) with rfl | hx
          · exact hlt'
          · exact klt_trans hx hlt'
      · simp [keysT] at ha

theorem lastK_at {p : Pg} {m : Nat} (h : p.K.length = m + 1) : p.K[m]? = some (lastK p) := by
  unfold lastK
  rw [List.getLastD_eq_getLast?, List.getLast?_eq_getElem?, h]
  simp only [Nat.add_sub_cancel]
  cases hk : p.K[m]? with
  | none => rw [List.getElem?_eq_none_iff] at hk; omega
  | some x => rfl

theorem firstK_at {p : Pg} (h : 0 < p.K.length) : p.K[0]? = some (firstK p) := by
  unfold firstK
  cases hk : p.K with
  | nil => rw [hk] at h; simp at h
  | cons a l => rfl

end Go.Proofs.Ytfcdkpkmkepcaaa

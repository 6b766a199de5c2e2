/-
  Plain mathematics: a key has the values whose key it is, and values have the key that has them. Nothing of the program.
-/
import Derived.Test.YtgemcbnaamcfcaaPlain
import Derived.Test.YtgemcbnaamcfcaaOrderMath
namespace Go.Proofs.Ytgemcbnaamcfcaa
open Go.RowKit

theorem indexByte_at (p : List UInt8) : ∀ (l : List UInt8), (∀ c ∈ l, c ≠ 0) → Lib.indexByte (l ++ 0 :: p) 0 = l.length
  | [], _ => by simp [Lib.indexByte]
  | b :: l, h => by
    have ih := indexByte_at p l fun c hc => h c (by simp [hc])
    have hb : (b == 0) = false := by rw [beq_eq_false_iff_ne]; exact h b (by simp)
    have h1 : (Lib.indexByte (l ++ 0 :: p) 0 == -1) = false := by rw [ih, beq_eq_false_iff_ne]; omega
    simp only [List.cons_append, Lib.indexByte, hb, h1, Bool.false_eq_true, if_false]
    rw [ih]; simp

theorem empty_of_size {s : ByteArray} (h : s.size = 0) : s = ⟨#[]⟩ := by
  obtain ⟨⟨l⟩⟩ := s
  have : l = [] := List.eq_nil_of_length_eq_zero h
  rw [this]

theorem n4_be4 (c : UInt8) (m : Nat) (h : m < 4294967296) (p : List UInt8) : n4 (c :: (be4 m ++ p)) = m := by
  simp [n4, be4]
  omega

/-- The first value of what begins with a good value's key. -/
theorem fv_key (v : V) (hg : good v = true) (p : List UInt8) : fv (keyOf v ++ p) = (v, (keyOf v).length) := by
  rcases good_kind hg with e | e | e
  · have hz : v = zero := by
      obtain ⟨k, n, s⟩ := v
      simp [good, show k = 0 from e] at hg
      simp only [zero, V.mk.injEq]
      exact ⟨e, hg.1, by rw [hg.2]; rfl⟩
    rw [keyOf_nothing e, hz]
    simp [fv]
  · have hn := good_num e hg
    have hs : v.s = ⟨#[]⟩ := by simp [good, e] at hg; rw [hg.2]; rfl
    rw [keyOf_number e, List.cons_append]
    have hl : ¬ (2 :: (be4 (v.n + 1073741824).toNat ++ p)).length < 5 := by simp [be4]
    have h4 : n4 (2 :: (be4 (v.n + 1073741824).toNat ++ p)) = ((v.n + 1073741824).toNat : Nat) := n4_be4 2 _ (by omega) p
    unfold fv
    rw [List.getD_cons_zero, if_neg (by decide), if_pos rfl, if_neg hl, h4]
    obtain ⟨k, n, s⟩ := v
    simp only [Prod.mk.injEq, V.mk.injEq]
    refine ⟨⟨e.symm, ?_, hs.symm⟩, by simp [be4]⟩
    simp only at hn
    omega
  · have hb := good_bytes e hg
    have h0 : v.n = 0 := by simp [good, e] at hg; exact hg.1.1
    rw [keyOf_text e, List.cons_append]
    have hi : Lib.indexByte (3 :: (v.s.data.toList ++ [0] ++ p)) 0 = ((3 :: v.s.data.toList).length : Nat) := by
      have := indexByte_at p (3 :: v.s.data.toList) (by
        intro c hc
        simp only [List.mem_cons] at hc
        rcases hc with rfl | hc
        · decide
        · have := hb c hc
          intro e0; rw [e0] at this; exact absurd this (by decide))
      rw [← this]
      simp
    unfold fv
    rw [List.getD_cons_zero, if_neg (by decide), if_neg (by decide), if_pos rfl, hi, if_neg (by omega)]
    obtain ⟨k, n, s⟩ := v
    simp only [Prod.mk.injEq, V.mk.injEq]
    refine ⟨⟨e.symm, h0.symm, ?_⟩, by simp⟩
    have : List.take (((3 :: s.data.toList).length : Nat) : Int).toNat.pred (List.drop 1 (3 :: (s.data.toList ++ [0] ++ p))) = s.data.toList := by simp
    have e2 : ((((3 :: s.data.toList).length : Nat) : Int).toNat - 1) = (((3 :: s.data.toList).length : Nat) : Int).toNat.pred := rfl
    rw [e2, this, str_toList]

theorem keyOf_pos (v : V) : keyOf v ≠ [] := by
  unfold keyOf; split
  · simp
  · split <;> simp

/-- Of good values the key has them. -/
theorem vals_keys (L : List V) (h : ∀ v ∈ L, good v = true) : vals (keys L) = some L := by
  induction L with
  | nil => rfl
  | cons v L ih =>
    have hv := h v (by simp)
    have e : keys (v :: L) = keyOf v ++ keys L := by simp [keys]
    have hf := fv_key v hv (keys L)
    have hne : keyOf v ++ keys L ≠ [] := by simp [keyOf_pos v]
    have hz : (keyOf v).length ≠ 0 := by intro x; exact keyOf_pos v (List.eq_nil_of_length_eq_zero x)
    rw [e, vals_step hne (by rw [hf]; exact hz) (by rw [hf]; exact hv), hf]
    simp only [List.drop_left]
    rw [ih fun x hx => h x (by simp [hx])]
    rfl

theorem u8_of_toNat (c : UInt8) : UInt8.ofNat c.toNat = c := by simp
theorem be4_n4 (c1 c2 c3 c4 : UInt8) : be4 ((c1.toNat : Int) * 16777216 + (c2.toNat : Int) * 65536 + (c3.toNat : Int) * 256 + (c4.toNat : Int)).toNat = [c1, c2, c3, c4] := by
  have h1 := c1.toNat_lt
  have h2 := c2.toNat_lt
  have h3 := c3.toNat_lt
  have h4 := c4.toNat_lt
  unfold be4
  simp only [List.cons.injEq, and_true]
  refine ⟨?_, ?_, ?_, ?_⟩ <;> (apply UInt8.toNat_inj.1; simp; omega)

theorem five {c : UInt8} : ∀ (l : List UInt8), ¬ (c :: l).length < 5 → ∃ c1 c2 c3 c4 t, l = c1 :: c2 :: c3 :: c4 :: t
  | c1 :: c2 :: c3 :: c4 :: t, _ => ⟨c1, c2, c3, c4, t, rfl⟩
  | [], h => absurd (by simp) h
  | [_], h => absurd (by simp) h
  | [_, _], h => absurd (by simp) h
  | [_, _, _], h => absurd (by simp) h

/-- What is read has the key that was read. -/
theorem key_fv (l : List UInt8) (hl : l ≠ []) (hz : (fv l).2 ≠ 0) (hg : good (fv l).1 = true) : l = keyOf (fv l).1 ++ l.drop (fv l).2 := by
  match l, hl with
  | c :: l, _ =>
    unfold fv at hz hg ⊢
    rw [List.getD_cons_zero] at hz hg ⊢
    by_cases h1 : c = 1
    · rw [if_pos h1] at hz hg ⊢
      rw [keyOf_nothing rfl, h1]; simp
    rw [if_neg h1] at hz hg ⊢
    by_cases h2 : c = 2
    · rw [if_pos h2] at hz hg ⊢
      by_cases hlen : (c :: l).length < 5
      · rw [if_pos hlen] at hz; exact absurd rfl hz
      rw [if_neg hlen] at hz hg ⊢
      obtain ⟨c1, c2, c3, c4, t, rfl⟩ := five l hlen
      rw [keyOf_number rfl, h2]
      have e : (n4 (2 :: c1 :: c2 :: c3 :: c4 :: t) - 1073741824 + 1073741824).toNat = ((c1.toNat : Int) * 16777216 + (c2.toNat : Int) * 65536 + (c3.toNat : Int) * 256 + (c4.toNat : Int)).toNat := by
        rw [Int.sub_add_cancel]; rfl
      simp only
      rw [e, be4_n4]
      rfl
    rw [if_neg h2] at hz hg ⊢
    by_cases h3 : c = 3
    · rw [if_pos h3] at hz hg ⊢
      by_cases hi : Lib.indexByte (c :: l) 0 < 0
      · rw [if_pos hi] at hz; exact absurd rfl hz
      rw [if_neg hi] at hz hg ⊢
      obtain ⟨i, hi'⟩ : ∃ i : Nat, Lib.indexByte (c :: l) 0 = i := ⟨(Lib.indexByte (c :: l) 0).toNat, by omega⟩
      have hs := (Lib.indexByte_some hi').1
      rw [hi', keyOf_text rfl]
      simp only [str_data]
      match i, hs with
      | 0, hs => simp at hs; rw [hs] at h3; exact absurd h3 (by decide)
      | i + 1, hs =>
        simp at hs
        simp only [Int.toNat_natCast, Nat.add_sub_cancel, List.drop_succ_cons, List.drop_zero]
        have hlt := (List.getElem?_eq_some_iff.1 hs).1
        rw [h3, List.cons_append, List.append_assoc]
        congr 1
        have hd : l.drop i = 0 :: l.drop (i + 1) := by
          rw [List.drop_eq_getElem_cons hlt, (List.getElem?_eq_some_iff.1 hs).2]
        rw [List.cons_append, List.nil_append, ← hd, List.take_append_drop]
    rw [if_neg h3] at hz
    exact absurd rfl hz

/-- Of a key the values have it, and are good. -/
theorem keys_vals : ∀ (n : Nat) (l : List UInt8) (L : List V), l.length ≤ n → vals l = some L → (∀ v ∈ L, good v = true) ∧ keys L = l ∧ L.length ≤ l.length := by
  intro n
  induction n with
  | zero =>
    intro l L hl h
    obtain rfl := List.eq_nil_of_length_eq_zero (Nat.le_zero.1 hl)
    rw [vals_nil] at h
    simp at h
    subst h
    exact ⟨by simp, rfl, by simp⟩
  | succ n ih =>
    intro l L hl h
    by_cases hne : l = []
    · subst hne
      rw [vals_nil] at h
      simp at h
      subst h
      exact ⟨by simp, rfl, by simp⟩
    by_cases hb : (fv l).2 = 0 ∨ good (fv l).1 = false
    · rw [vals_bad hne hb] at h; simp at h
    have hz : (fv l).2 ≠ 0 := fun e => hb (.inl e)
    have hg : good (fv l).1 = true := by cases hh : good (fv l).1 with | true => rfl | false => exact absurd (.inr hh) hb
    rw [vals_step hne hz hg] at h
    obtain ⟨L', h1, h2⟩ := Option.map_eq_some_iff.1 h
    have hpos : 0 < l.length := List.length_pos_iff.2 hne
    have hdl : (l.drop (fv l).2).length ≤ n := by rw [List.length_drop]; omega
    obtain ⟨a, b, c⟩ := ih _ L' hdl h1
    have hk := key_fv l hne hz hg
    subst h2
    refine ⟨?_, ?_, ?_⟩
    · intro v hv
      simp only [List.mem_cons] at hv
      rcases hv with rfl | hv
      · exact hg
      · exact a v hv
    · have e : keys ((fv l).1 :: L') = keyOf (fv l).1 ++ keys L' := by simp [keys]
      rw [e, b]; exact hk.symm
    · simp only [List.length_cons]
      rw [List.length_drop] at c
      omega

end Go.Proofs.Ytgemcbnaamcfcaa

/-
  6 texts of this proof in one, in build order: OrderMath, BackMath, Good, AppendKey, Key, XPlain.
-/
import Derived.Test.YtkncamggdfmlnaaGreatDoorRows
import Derived.WalkKit
import Derived.WalkSpells
import Derived.WalkLawsBesides
import Derived.Lib.AppendStr
import Derived.Laws.IdiomStrings
import Derived.Test.YtkncamggdfmlnaaGreatDoorJ01
import Derived.Test.YtkncamggdfmlnaaGreatDoorJ05
namespace Go.Proofs.YtkncamggdfmlnaaGreatDoor
open Go.RowKit

theorem less_app (l p q : List UInt8) : Op.bytesLess (l ++ p) (l ++ q) = Op.bytesLess p q := by
  induction l with
  | nil => rfl
  | cons a l ih => simp [Op.bytesLess, ih]
theorem less_lt {a b : UInt8} (h : a < b) (p q : List UInt8) : Op.bytesLess (a :: p) (b :: q) = true := by simp [Op.bytesLess, h]
theorem less_irrefl (l : List UInt8) : Op.bytesLess l l = false := by
  induction l with
  | nil => rfl
  | cons a l ih => simp [Op.bytesLess, ih]
theorem less_asymm : ∀ (p q : List UInt8), Op.bytesLess p q = true → Op.bytesLess q p = false
  | _, [], h => by simp [Op.bytesLess] at h
  | [], _ :: _, _ => by simp [Op.bytesLess]
  | a :: p, b :: q, h => by
    simp only [Op.bytesLess, Bool.or_eq_true, Bool.and_eq_true, decide_eq_true_eq, beq_iff_eq] at h
    simp only [Op.bytesLess, Bool.or_eq_false_iff, Bool.and_eq_false_iff, decide_eq_false_iff_not, beq_eq_false_iff_ne]
    rcases h with h | ⟨rfl, h⟩
    · exact ⟨fun h2 => absurd (UInt8.lt_trans h h2) (UInt8.lt_irrefl _), .inl fun e => absurd (e ▸ h) (UInt8.lt_irrefl _)⟩
    · exact ⟨UInt8.lt_irrefl _, .inr (less_asymm p q h)⟩
theorem less_total : ∀ (p q : List UInt8), Op.bytesLess p q = false → p ≠ q → Op.bytesLess q p = true
  | [], [], _, h => absurd rfl h
  | _ :: _, [], _, _ => by simp [Op.bytesLess]
  | [], _ :: _, h, _ => by simp [Op.bytesLess] at h
  | a :: p, b :: q, h, hne => by
    simp only [Op.bytesLess, Bool.or_eq_false_iff, Bool.and_eq_false_iff, decide_eq_false_iff_not, beq_eq_false_iff_ne] at h
    simp only [Op.bytesLess, Bool.or_eq_true, Bool.and_eq_true, decide_eq_true_eq, beq_iff_eq]
    by_cases e : a = b
    · subst e
      refine .inr ⟨rfl, less_total p q ?_ fun e => hne (by rw [e])⟩
      rcases h.2 with h | h
      · exact absurd rfl h
      · exact h
    · refine .inl ?_
      have h1 := h.1
      rw [UInt8.lt_iff_toNat_lt] at h1 ⊢
      have : a.toNat ≠ b.toNat := fun x => e (UInt8.toNat_inj.1 x)
      omega

theorem text_lt (p q : List UInt8) : ∀ (s t : List UInt8), (∀ c ∈ t, 0 < c) → Op.bytesLess s t = true → Op.bytesLess (s ++ 0 :: p) (t ++ 0 :: q) = true
  | _, [], _, h => by simp [Op.bytesLess] at h
  | [], b :: t, ht, _ => less_lt (ht b (by simp)) _ _
  | a :: s, b :: t, ht, h => by
    simp only [Op.bytesLess, Bool.or_eq_true, Bool.and_eq_true, decide_eq_true_eq, beq_iff_eq] at h
    rcases h with h | ⟨rfl, h⟩
    · exact less_lt h _ _
    · show Op.bytesLess ([a] ++ _) ([a] ++ _) = true
      rw [less_app]
      exact text_lt p q s t (fun c hc => ht c (by simp [hc])) h

theorem u8_lt {a b : Nat} (ha : a < 256) (hb : b < 256) (h : a < b) : UInt8.ofNat a < UInt8.ofNat b := by
  rw [UInt8.lt_iff_toNat_lt]; simp; omega
theorem u8_eq {a b : Nat} (h : a % 256 = b % 256) : UInt8.ofNat a = UInt8.ofNat b := by
  apply UInt8.toNat_inj.1; simp; omega
theorem u8_lt' {a b : Nat} (h : a % 256 < b % 256) : UInt8.ofNat a < UInt8.ofNat b := by
  rw [UInt8.lt_iff_toNat_lt]; simp; omega

theorem be4_lt (m m' : Nat) (p q : List UInt8) (h : m < m') (h' : m' < 4294967296) : Op.bytesLess (be4 m ++ p) (be4 m' ++ q) = true := by
  simp only [be4, List.cons_append, List.nil_append]
  by_cases e1 : m / 16777216 = m' / 16777216
  · rw [u8_eq (show m / 16777216 % 256 = m' / 16777216 % 256 by omega)]
    show Op.bytesLess ([UInt8.ofNat (m' / 16777216)] ++ _) ([UInt8.ofNat (m' / 16777216)] ++ _) = true
    rw [less_app]
    by_cases e2 : m / 65536 = m' / 65536
    · rw [u8_eq (show m / 65536 % 256 = m' / 65536 % 256 by omega)]
      show Op.bytesLess ([UInt8.ofNat (m' / 65536)] ++ _) ([UInt8.ofNat (m' / 65536)] ++ _) = true
      rw [less_app]
      by_cases e3 : m / 256 = m' / 256
      · rw [u8_eq (show m / 256 % 256 = m' / 256 % 256 by omega)]
        show Op.bytesLess ([UInt8.ofNat (m' / 256)] ++ _) ([UInt8.ofNat (m' / 256)] ++ _) = true
        rw [less_app]
        exact less_lt (u8_lt' (by omega)) _ _
      · exact less_lt (u8_lt' (by omega)) _ _
    · exact less_lt (u8_lt' (by omega)) _ _
  · exact less_lt (u8_lt' (by omega)) _ _

theorem cmpI_cases (a b : Int) : (a < b ∧ cmpI a b = -1) ∨ (a = b ∧ cmpI a b = 0) ∨ (b < a ∧ cmpI a b = 1) := by
  unfold cmpI
  rcases (show a < b ∨ b < a ∨ a = b from by omega) with h | h | h
  · simp [h]
  · have : ¬ a < b := by omega
    simp [h, this]
  · subst h; simp
theorem cmpS_cases (a b : ByteArray) : (Op.bytesLess a.data.toList b.data.toList = true ∧ cmpS a b = -1) ∨ (a.data.toList = b.data.toList ∧ cmpS a b = 0) ∨ (Op.bytesLess b.data.toList a.data.toList = true ∧ cmpS a b = 1) := by
  unfold cmpS
  rw [ByteArray.toList_eq, ByteArray.toList_eq]
  by_cases h : Op.bytesLess a.data.toList b.data.toList = true
  · simp [h]
  · have h' : Op.bytesLess a.data.toList b.data.toList = false := by simpa using h
    by_cases e : a.data.toList = b.data.toList
    · right; left; rw [h', e]; simp
    · right; right
      refine ⟨less_total _ _ h' e, ?_⟩
      rw [h']
      have : (a.data.toList == b.data.toList) = false := by rw [beq_eq_false_iff_ne]; exact e
      rw [this]; rfl

theorem good_bytes {v : V} (hk : v.k = 2) (hg : good v = true) : ∀ c ∈ v.s.data.toList, 0 < c := by
  intro c hc
  simp [good, hk] at hg
  have h0 := hg.2
  unfold gtext at h0
  have h := List.all_eq_true.1 h0 c hc
  simp [goodb] at h
  rw [UInt8.lt_iff_toNat_lt]
  simp
  omega
theorem good_kind {v : V} (hg : good v = true) : v.k = 0 ∨ v.k = 1 ∨ v.k = 2 := by
  by_cases h0 : v.k = 0
  · exact .inl h0
  by_cases h1 : v.k = 1
  · exact .inr (.inl h1)
  by_cases h2 : v.k = 2
  · exact .inr (.inr h2)
  · simp [good, h0, h1, h2] at hg
theorem good_num {v : V} (hk : v.k = 1) (hg : good v = true) : -1000000 ≤ v.n ∧ v.n ≤ 1000000 := by
  simp [good, hk] at hg; omega

/-- How a good value's key begins. -/
theorem keyOf_head {v : V} (hg : good v = true) : ∃ t, keyOf v = UInt8.ofNat (v.k.toNat + 1) :: t := by
  rcases good_kind hg with h | h | h
  · exact ⟨_, by rw [keyOf_nothing h, h]; rfl⟩
  · exact ⟨_, by rw [keyOf_number h, h]; rfl⟩
  · exact ⟨_, by rw [keyOf_text h, h]; rfl⟩

theorem key_kind_lt {v u : V} (hv : good v = true) (hu : good u = true) (h : v.k < u.k) (p q : List UInt8) : Op.bytesLess (keyOf v ++ p) (keyOf u ++ q) = true := by
  obtain ⟨a, ha⟩ := keyOf_head hv
  obtain ⟨b, hb⟩ := keyOf_head hu
  rw [ha, hb, List.cons_append, List.cons_append]
  refine less_lt (u8_lt' ?_) _ _
  rcases good_kind hv with e | e | e <;> rcases good_kind hu with f | f | f <;> rw [e, f] at h ⊢ <;> first | (exfalso; revert h; decide) | decide

/-- One value ahead of another one: its key is, whatever follows. -/
theorem key_lt {v u : V} (hv : good v = true) (hu : good u = true) (h : v.k < u.k ∨ (v.k = u.k ∧ (v.n < u.n ∨ (v.n = u.n ∧ Op.bytesLess v.s.data.toList u.s.data.toList = true)))) (p q : List UInt8) :
    Op.bytesLess (keyOf v ++ p) (keyOf u ++ q) = true := by
  rcases h with h | ⟨hk, h⟩
  · exact key_kind_lt hv hu h p q
  rcases good_kind hv with e | e | e
  · have e' : u.k = 0 := hk ▸ e
    simp [good, e] at hv
    simp [good, e'] at hu
    rcases h with h | ⟨_, h⟩
    · omega
    · have h0 : v.s.data.toList = [] := by rw [hv.2]; rfl
      have h1 : u.s.data.toList = [] := by rw [hu.2]; rfl
      rw [h0, h1] at h
      simp [Op.bytesLess] at h
  · have e' : u.k = 1 := hk ▸ e
    have bv := good_num e hv
    have bu := good_num e' hu
    simp [good, e] at hv
    simp [good, e'] at hu
    rcases h with h | ⟨_, h⟩
    · rw [keyOf_number e, keyOf_number e']
      show Op.bytesLess ([2] ++ (be4 _ ++ p)) ([2] ++ (be4 _ ++ q)) = true
      rw [less_app]
      exact be4_lt _ _ _ _ (by omega) (by omega)
    · have h0 : v.s.data.toList = [] := by rw [hv.2]; rfl
      have h1 : u.s.data.toList = [] := by rw [hu.2]; rfl
      rw [h0, h1] at h
      simp [Op.bytesLess] at h
  · have e' : u.k = 2 := hk ▸ e
    have gu := good_bytes e' hu
    simp [good, e] at hv
    simp [good, e'] at hu
    rcases h with h | ⟨_, h⟩
    · omega
    · rw [keyOf_text e, keyOf_text e']
      show Op.bytesLess ([3] ++ ((v.s.data.toList ++ [0]) ++ p)) ([3] ++ ((u.s.data.toList ++ [0]) ++ q)) = true
      rw [less_app, List.append_assoc, List.append_assoc]
      exact text_lt p q _ _ gu h

/-- The three ways in which good values can lie. -/
theorem cmpV_cases (v u : V) (hv : good v = true) (hu : good u = true) :
    (cmpV v u = -1 ∧ ∀ p q, Op.bytesLess (keyOf v ++ p) (keyOf u ++ q) = true) ∨ (cmpV v u = 0 ∧ keyOf v = keyOf u) ∨ (cmpV v u = 1 ∧ ∀ p q, Op.bytesLess (keyOf u ++ q) (keyOf v ++ p) = true) := by
  unfold cmpV or3
  rcases cmpI_cases v.k u.k with ⟨h, e⟩ | ⟨hk, e⟩ | ⟨h, e⟩
  · left; rw [e]; exact ⟨rfl, fun p q => key_lt hv hu (.inl h) p q⟩
  · rw [e]
    rcases cmpI_cases v.n u.n with ⟨h, e⟩ | ⟨hn, e⟩ | ⟨h, e⟩
    · left; rw [e]; exact ⟨rfl, fun p q => key_lt hv hu (.inr ⟨hk, .inl h⟩) p q⟩
    · rw [e]
      rcases cmpS_cases v.s u.s with ⟨h, e⟩ | ⟨h, e⟩ | ⟨h, e⟩
      · left; rw [e]; exact ⟨rfl, fun p q => key_lt hv hu (.inr ⟨hk, .inr ⟨hn, h⟩⟩) p q⟩
      · right; left; rw [e]; refine ⟨rfl, ?_⟩; unfold keyOf; rw [hk, hn, h]
      · right; right; rw [e]; exact ⟨rfl, fun p q => key_lt hu hv (.inr ⟨hk.symm, .inr ⟨hn.symm, h⟩⟩) q p⟩
    · right; right; rw [e]; exact ⟨rfl, fun p q => key_lt hu hv (.inr ⟨hk.symm, .inl h⟩) q p⟩
  · right; right; rw [e]; exact ⟨rfl, fun p q => key_lt hu hv (.inl h) q p⟩

/-- The first that is not 0. -/
def firstC : List V → List V → Int
  | a :: A, b :: B => if cmpV a b = 0 then firstC A B else cmpV a b
  | _, _ => 0
theorem firstC_snoc (a b : V) : ∀ (A B : List V), A.length = B.length → firstC (A ++ [a]) (B ++ [b]) = if firstC A B = 0 then cmpV a b else firstC A B
  | [], [], _ => by simp [firstC]; exact fun h => h.symm
  | x :: A, y :: B, h => by
    simp only [List.cons_append, firstC]
    by_cases e : cmpV x y = 0
    · simp only [e, if_true]; exact firstC_snoc a b A B (by simpa using h)
    · simp [e]
theorem order_cases : ∀ (A B : List V), A.length = B.length → (∀ v ∈ A, good v = true) → (∀ v ∈ B, good v = true) →
    (firstC A B = -1 ∧ Op.bytesLess (keys A) (keys B) = true) ∨ (firstC A B = 0 ∧ keys A = keys B) ∨ (firstC A B = 1 ∧ Op.bytesLess (keys B) (keys A) = true)
  | [], [], _, _, _ => .inr (.inl ⟨rfl, rfl⟩)
  | a :: A, b :: B, h, hA, hB => by
    have ih := order_cases A B (by simpa using h) (fun v hv => hA v (by simp [hv])) (fun v hv => hB v (by simp [hv]))
    have ka : keys (a :: A) = keyOf a ++ keys A := by simp [keys]
    have kb : keys (b :: B) = keyOf b ++ keys B := by simp [keys]
    rw [ka, kb]
    unfold firstC
    rcases cmpV_cases a b (hA a (by simp)) (hB b (by simp)) with ⟨e, h1⟩ | ⟨e, h1⟩ | ⟨e, h1⟩
    · left; rw [e]; exact ⟨rfl, h1 _ _⟩
    · rw [e, h1, less_app, less_app]
      simp only [if_true, List.append_cancel_left_eq]
      exact ih
    · right; right; rw [e]; exact ⟨rfl, h1 _ _⟩

theorem order_says (A B : List V) (h : A.length = B.length) (hA : ∀ v ∈ A, good v = true) (hB : ∀ v ∈ B, good v = true) :
    decide (firstC A B < 0) = Op.bytesLess (keys A) (keys B) ∧ (firstC A B == 0) = (keys A == keys B) := by
  rcases order_cases A B h hA hB with ⟨e, h1⟩ | ⟨e, h1⟩ | ⟨e, h1⟩
  · rw [e, h1]
    refine ⟨rfl, ?_⟩
    have : (keys A == keys B) = false := by
      rw [beq_eq_false_iff_ne]; intro x; rw [x, less_irrefl] at h1; exact absurd h1 (by decide)
    rw [this]; rfl
  · rw [e, h1, less_irrefl]; simp
  · rw [e, less_asymm _ _ h1]
    refine ⟨rfl, ?_⟩
    have : (keys A == keys B) = false := by
      rw [beq_eq_false_iff_ne]; intro x; rw [x, less_irrefl] at h1; exact absurd h1 (by decide)
    rw [this]; rfl

end Go.Proofs.YtkncamggdfmlnaaGreatDoor

namespace Go.Proofs.YtkncamggdfmlnaaGreatDoor
open Go.RowKit

theorem indexByte_at (p : List UInt8) : ∀ (l : List UInt8), (∀ c ∈ l, c ≠ 0) → Lib.indexByte (l ++ 0 :: p) 0 = l.length
  | [], _ => by simp [Lib.indexByte]
  | b :: l, h => by
    have ih := indexByte_at p l fun c hc => h c (by simp [hc])
    have hb : (b == 0) = false := by rw [beq_eq_false_iff_ne]; exact h b (by simp)
    have h1 : (Lib.indexByte (l ++ 0 :: p) 0 == -1) = false := by rw [ih, beq_eq_false_iff_ne]; omega
    simp only [List.cons_append, Lib.indexByte, hb, h1, Bool.false_eq_true, if_false]
    rw [ih]; simp

theorem empty_of_size {s : ByteArray} (h : s.size = 0) : s = ⟨#[]⟩ := by
  obtain ⟨⟨l⟩⟩ := s
  have : l = [] := List.eq_nil_of_length_eq_zero h
  rw [this]

theorem n4_be4 (c : UInt8) (m : Nat) (h : m < 4294967296) (p : List UInt8) : n4 (c :: (be4 m ++ p)) = m := by
  simp [n4, be4]
  omega

/-- The first value of what begins with a good value's key. -/
theorem fv_key (v : V) (hg : good v = true) (p : List UInt8) : fv (keyOf v ++ p) = (v, (keyOf v).length) := by
  rcases good_kind hg with e | e | e
  · have hz : v = zero := by
      obtain ⟨k, n, s⟩ := v
      simp [good, show k = 0 from e] at hg
      simp only [zero, V.mk.injEq]
      exact ⟨e, hg.1, by rw [hg.2]; rfl⟩
    rw [keyOf_nothing e, hz]
    simp [fv]
  · have hn := good_num e hg
    have hs : v.s = ⟨#[]⟩ := by simp [good, e] at hg; rw [hg.2]; rfl
    rw [keyOf_number e, List.cons_append]
    have hl : ¬ (2 :: (be4 (v.n + 1073741824).toNat ++ p)).length < 5 := by simp [be4]
    have h4 : n4 (2 :: (be4 (v.n + 1073741824).toNat ++ p)) = ((v.n + 1073741824).toNat : Nat) := n4_be4 2 _ (by omega) p
    unfold fv
    rw [List.getD_cons_zero, if_neg (by decide), if_pos rfl, if_neg hl, h4]
    obtain ⟨k, n, s⟩ := v
    simp only [Prod.mk.injEq, V.mk.injEq]
    refine ⟨⟨e.symm, ?_, hs.symm⟩, by simp [be4]⟩
    simp only at hn
    omega
  · have hb := good_bytes e hg
    have h0 : v.n = 0 := by simp [good, e] at hg; exact hg.1.1
    rw [keyOf_text e, List.cons_append]
    have hi : Lib.indexByte (3 :: (v.s.data.toList ++ [0] ++ p)) 0 = ((3 :: v.s.data.toList).length : Nat) := by
      have := indexByte_at p (3 :: v.s.data.toList) (by
        intro c hc
        simp only [List.mem_cons] at hc
        rcases hc with rfl | hc
        · decide
        · have := hb c hc
          intro e0; rw [e0] at this; exact absurd this (by decide))
      rw [← this]
      simp
    unfold fv
    rw [List.getD_cons_zero, if_neg (by decide), if_neg (by decide), if_pos rfl, hi, if_neg (by omega)]
    obtain ⟨k, n, s⟩ := v
    simp only [Prod.mk.injEq, V.mk.injEq]
    refine ⟨⟨e.symm, h0.symm, ?_⟩, by simp⟩
    have : List.take (((3 :: s.data.toList).length : Nat) : Int).toNat.pred (List.drop 1 (3 :: (s.data.toList ++ [0] ++ p))) = s.data.toList := by simp
    have e2 : ((((3 :: s.data.toList).length : Nat) : Int).toNat - 1) = (((3 :: s.data.toList).length : Nat) : Int).toNat.pred := rfl
    rw [e2, this, str_toList]

theorem keyOf_pos (v : V) : keyOf v ≠ [] := by
  unfold keyOf; split
  · simp
  · split <;> simp

/-- Of good values the key has them. -/
theorem vals_keys (L : List V) (h : ∀ v ∈ L, good v = true) : vals (keys L) = some L := by
  induction L with
  | nil => rfl
  | cons v L ih =>
    have hv := h v (by simp)
    have e : keys (v :: L) = keyOf v ++ keys L := by simp [keys]
    have hf := fv_key v hv (keys L)
    have hne : keyOf v ++ keys L ≠ [] := by simp [keyOf_pos v]
    have hz : (keyOf v).length ≠ 0 := by intro x; exact keyOf_pos v (List.eq_nil_of_length_eq_zero x)
    rw [e, vals_step hne (by rw [hf]; exact hz) (by rw [hf]; exact hv), hf]
    simp only [List.drop_left]
    rw [ih fun x hx => h x (by simp [hx])]
    rfl

theorem u8_of_toNat (c : UInt8) : UInt8.ofNat c.toNat = c := by simp
theorem be4_n4 (c1 c2 c3 c4 : UInt8) : be4 ((c1.toNat : Int) * 16777216 + (c2.toNat : Int) * 65536 + (c3.toNat : Int) * 256 + (c4.toNat : Int)).toNat = [c1, c2, c3, c4] := by
  have h1 := c1.toNat_lt
  have h2 := c2.toNat_lt
  have h3 := c3.toNat_lt
  have h4 := c4.toNat_lt
  unfold be4
  simp only [List.cons.injEq, and_true]
  refine ⟨?_, ?_, ?_, ?_⟩ <;> (apply UInt8.toNat_inj.1; simp; omega)

theorem five {c : UInt8} : ∀ (l : List UInt8), ¬ (c :: l).length < 5 → ∃ c1 c2 c3 c4 t, l = c1 :: c2 :: c3 :: c4 :: t
  | c1 :: c2 :: c3 :: c4 :: t, _ => ⟨c1, c2, c3, c4, t, rfl⟩
  | [], h => absurd (by simp) h
  | [_], h => absurd (by simp) h
  | [_, _], h => absurd (by simp) h
  | [_, _, _], h => absurd (by simp) h

/-- What is read has the key that was read. -/
theorem key_fv (l : List UInt8) (hl : l ≠ []) (hz : (fv l).2 ≠ 0) (hg : good (fv l).1 = true) : l = keyOf (fv l).1 ++ l.drop (fv l).2 := by
  match l, hl with
  | c :: l, _ =>
    unfold fv at hz hg ⊢
    rw [List.getD_cons_zero] at hz hg ⊢
    by_cases h1 : c = 1
    · rw [if_pos h1] at hz hg ⊢
      rw [keyOf_nothing rfl, h1]; simp
    rw [if_neg h1] at hz hg ⊢
    by_cases h2 : c = 2
    · rw [if_pos h2] at hz hg ⊢
      by_cases hlen : (c :: l).length < 5
      · rw [if_pos hlen] at hz; exact absurd rfl hz
      rw [if_neg hlen] at hz hg ⊢
      obtain ⟨c1, c2, c3, c4, t, rfl⟩ := five l hlen
      rw [keyOf_number rfl, h2]
      have e : (n4 (2 :: c1 :: c2 :: c3 :: c4 :: t) - 1073741824 + 1073741824).toNat = ((c1.toNat : Int) * 16777216 + (c2.toNat : Int) * 65536 + (c3.toNat : Int) * 256 + (c4.toNat : Int)).toNat := by
        rw [Int.sub_add_cancel]; rfl
      simp only
      rw [e, be4_n4]
      rfl
    rw [if_neg h2] at hz hg ⊢
    by_cases h3 : c = 3
    · rw [if_pos h3] at hz hg ⊢
      by_cases hi : Lib.indexByte (c :: l) 0 < 0
      · rw [if_pos hi] at hz; exact absurd rfl hz
      rw [if_neg hi] at hz hg ⊢
      obtain ⟨i, hi'⟩ : ∃ i : Nat, Lib.indexByte (c :: l) 0 = i := ⟨(Lib.indexByte (c :: l) 0).toNat, by omega⟩
      have hs := (Lib.indexByte_some hi').1
      rw [hi', keyOf_text rfl]
      simp only [str_data]
      match i, hs with
      | 0, hs => simp at hs; rw [hs] at h3; exact absurd h3 (by decide)
      | i + 1, hs =>
        simp at hs
        simp only [Int.toNat_natCast, Nat.add_sub_cancel, List.drop_succ_cons, List.drop_zero]
        have hlt := (List.getElem?_eq_some_iff.1 hs).1
        rw [h3, List.cons_append, List.append_assoc]
        congr 1
        have hd : l.drop i = 0 :: l.drop (i + 1) := by
          rw [List.drop_eq_getElem_cons hlt, (List.getElem?_eq_some_iff.1 hs).2]
        rw [List.cons_append, List.nil_append, ← hd, List.take_append_drop]
    rw [if_neg h3] at hz
    exact absurd rfl hz

/-- Of a key the values have it, and are good. -/
theorem keys_vals : ∀ (n : Nat) (l : List UInt8) (L : List V), l.length ≤ n → vals l = some L → (∀ v ∈ L, good v = true) ∧ keys L = l ∧ L.length ≤ l.length := by
  intro n
  induction n with
  | zero =>
    intro l L hl h
    obtain rfl := List.eq_nil_of_length_eq_zero (Nat.le_zero.1 hl)
    rw [vals_nil] at h
    simp at h
    subst h
    exact ⟨by simp, rfl, by simp⟩
  | succ n ih =>
    intro l L hl h
    by_cases hne : l = []
    · subst hne
      rw [vals_nil] at h
      simp at h
      subst h
      exact ⟨by simp, rfl, by simp⟩
    by_cases hb : (fv l).2 = 0 ∨ good (fv l).1 = false
    · rw [vals_bad hne hb] at h; simp at h
    have hz : (fv l).2 ≠ 0 := fun e => hb (.inl e)
    have hg : good (fv l).1 = true := by cases hh : good (fv l).1 with | true => rfl | false => exact absurd (.inr hh) hb
    rw [vals_step hne hz hg] at h
    obtain ⟨L', h1, h2⟩ := Option.map_eq_some_iff.1 h
    have hpos : 0 < l.length := List.length_pos_iff.2 hne
    have hdl : (l.drop (fv l).2).length ≤ n := by rw [List.length_drop]; omega
    obtain ⟨a, b, c⟩ := ih _ L' hdl h1
    have hk := key_fv l hne hz hg
    subst h2
    refine ⟨?_, ?_, ?_⟩
    · intro v hv
      simp only [List.mem_cons] at hv
      rcases hv with rfl | hv
      · exact hg
      · exact a v hv
    · have e : keys ((fv l).1 :: L') = keyOf (fv l).1 ++ keys L' := by simp [keys]
      rw [e, b]; exact hk.symm
    · simp only [List.length_cons]
      rw [List.length_drop] at c
      omega

end Go.Proofs.YtkncamggdfmlnaaGreatDoor

namespace Go.Proofs.YtkncamggdfmlnaaGreatDoor
open Go.RowKit

set_option maxHeartbeats 400000 in
theorem goodByte_any (c : Int) (w : World) : Calls Tryz.prog 113 #[.int .u8 c] w fun e w' => e = .returned (.bool (goodb c)) ∧ w' = w := by
  by_cases h1 : 32 ≤ c <;> by_cases h2 : c ≤ 126 <;> by_cases h3 : c = 39
  all_goals
    go_enter Tryz.func113, Tryz.ntmps113
    go_wp2
    all_goals
      go_ret
      exact ⟨ret_bool (by simp_all [goodb]), rfl⟩

set_option maxHeartbeats 400000 in
theorem goodText_long (s : ByteArray) (w : World) (h : 8 < s.size) (hs : s.size ≤ maxLen) :
    Calls Tryz.prog 87 #[.string s] w fun e w' => e = .returned (.bool false) ∧ w' = w := by
  unfold maxLen at hs
  go_enter Tryz.func87, Tryz.ntmps87
  go_wp2
  go_ret
  exact ⟨rfl, rfl⟩

set_option maxHeartbeats 400000 in
theorem goodText_short (s : ByteArray) (w : World) (h : s.size ≤ 8) :
    Calls Tryz.prog 87 #[.string s] w fun e w' => e = .returned (.bool (gtext s.data.toList)) ∧ w' = w := by
  go_enter Tryz.func87, Tryz.ntmps87
  go_wp2
  go_loop [9] (fun i => ∃ k : Nat, k ≤ s.size ∧ i = .int .i64 k ∧ gtext (s.data.toList.take k) = true) (fun i => s.size - (intOf i).toNat)
  case atStart => exact ⟨0, Nat.zero_le _, rfl, rfl⟩
  case round =>
    obtain ⟨k, hk, rfl, hg0⟩ := hrel
    have hg : Hid (gtext (s.data.toList.take k) = true) := hg0
    clear hg0
    by_cases hlt : k < s.size
    · have hsn : Hid (gtext (s.data.toList.take (k + 1)) = (gtext (s.data.toList.take k) && goodb (s[k].toNat : Int))) := by rw [take_snoc s k hlt, gtext_snoc]; rfl
      have hbad : Hid (goodb (s[k].toNat : Int) = false → gtext s.data.toList = false) := gtext_bad s k hlt
      cases hb : goodb (s[k].toNat : Int)
      all_goals
        go_wp2_with (go_at_call 113; refine (goodByte_any _ _).mono ?_; rintro e w' ⟨rfl, rfl⟩)
      · go_ret
        exact ⟨ret_bool (hbad.out hb).symm, rfl⟩
      · go_round
        case rel => exact ⟨k + 1, by omega, by go_num, by rw [hsn.out, hg.out, hb]; rfl⟩
        case measure => simp [intOf]; omega
    · go_wp2
      go_ret
      exact ⟨ret_bool (by have := hg.out; rw [take_all s k (by omega)] at this; exact this.symm), rfl⟩

theorem empty_iff (s : ByteArray) : s.toList.isEmpty = decide (s.size = 0) := by
  rw [ByteArray.toList_eq, show s.size = s.data.toList.length from by simp]; cases s.data.toList <;> simp

set_option maxHeartbeats 1000000 in
theorem good_any (v : V) (w : World) (hs : v.s.size ≤ maxLen) :
    Calls Tryz.prog 63 #[v.val] w fun e w' => e = .returned (.bool (good v)) ∧ w' = w.alloc (.cells #[.int .i64 v.k, .int .i64 v.n, .string v.s] 36) := by
  obtain ⟨k, n, s⟩ := v
  show Calls Tryz.prog 63 #[.agg #[.int .i64 k, .int .i64 n, .string s]] w _
  by_cases h0 : k = 0
  · subst h0
    by_cases hn : n = 0
    all_goals
      go_enter Tryz.func63, Tryz.ntmps63
      go_wp2
      go_ret
      exact ⟨ret_bool (by simp [good, hn, empty_iff]), rfl⟩
  by_cases h1 : k = 1
  · subst h1
    rcases (show n < -1000000 ∨ 1000000 < n ∨ (-1000000 ≤ n ∧ n ≤ 1000000) from by omega) with hn | hn | ⟨hn, hm⟩
    · have e : decide (-1000000 ≤ n) = false := by simp; omega
      go_enter Tryz.func63, Tryz.ntmps63
      go_wp2
      go_ret
      exact ⟨ret_bool (by simp [good, e]), rfl⟩
    · have e : decide (n ≤ 1000000) = false := by simp; omega
      go_enter Tryz.func63, Tryz.ntmps63
      go_wp2
      go_ret
      exact ⟨ret_bool (by simp [good, e]), rfl⟩
    · go_enter Tryz.func63, Tryz.ntmps63
      go_wp2
      go_ret
      exact ⟨ret_bool (by simp [good, hn, hm, empty_iff]), rfl⟩
  by_cases h2 : k = 2
  · subst h2
    by_cases hn : n = 0
    · subst hn
      by_cases h8 : s.size ≤ 8
      · go_enter Tryz.func63, Tryz.ntmps63
        go_wp2_with (go_at_call 87; refine (goodText_short _ _ h8).mono ?_; rintro e w' ⟨rfl, rfl⟩)
        go_ret
        exact ⟨ret_bool (by simp [good, h8]), rfl⟩
      · have h9 : 8 < s.size := by omega
        have e : decide (s.size ≤ 8) = false := by simp; omega
        have E : Hid (decide (s.size ≤ 8) = false) := e
        clear e h8
        go_enter Tryz.func63, Tryz.ntmps63
        go_wp2_with (go_at_call 87; refine (goodText_long s _ h9 hs).mono ?_; rintro e w' ⟨rfl, rfl⟩)
        go_ret
        exact ⟨ret_bool (by have := E.out; simp [good, this]), rfl⟩
    · go_enter Tryz.func63, Tryz.ntmps63
      go_wp2
      go_ret
      exact ⟨ret_bool (by simp [good, hn]), rfl⟩
  go_enter Tryz.func63, Tryz.ntmps63
  go_wp2
  go_ret
  exact ⟨ret_bool (by simp [good, h0, h1, h2]), rfl⟩

end Go.Proofs.YtkncamggdfmlnaaGreatDoor

namespace Go.Proofs.YtkncamggdfmlnaaGreatDoor
open Go.RowKit

theorem info_u8 : (Tryz.prog.info? 5).map (fun i => (i.zero, i.size, i.bytes)) = some (some (.int .u8 0), 1, 1) := by kernel_rfl

set_option maxHeartbeats 400000 in
theorem appendKey_nothing (n : Int) (s : ByteArray) (kv : Value) (bs : List UInt8) (base : Nat) (w : World) (hown : w.ownsRow base 5 1 kv bs.length (bytesV bs))
    (hb : base ≤ w.heap.size) (hsz : bs.length + 10 ≤ 140737488355328) :
    Calls Tryz.prog 64 #[kv, .agg #[.int .i64 0, .int .i64 n, .string s]] w fun e w' => ∃ kv', e = .returned kv' ∧ w'.ownsRow base 5 1 kv' (bs.length + 1) (bytesV (bs ++ [1])) ∧ Below base w w' := by
  obtain ⟨i0, hi, hz0, hz1, hz2⟩ := info_parts info_u8
  have H1 : ((w.alloc (Obj.cells #[Value.int IntKind.i64 0, Value.int IntKind.i64 n, Value.string s] 36)).alloc (Obj.cells #[Value.int IntKind.u8 1] 5)).ownsRow base 5 1 kv bs.length (bytesV bs) := (hown.alloc _).alloc _
  have B1 := block_alloc_of (block_alloc_at w (Obj.cells #[Value.int IntKind.i64 0, Value.int IntKind.i64 n, Value.string s] 36)) (Obj.cells #[Value.int IntKind.u8 1] 5)
  have N1 := cells_new (w.alloc (Obj.cells #[Value.int IntKind.i64 0, Value.int IntKind.i64 n, Value.string s] 36)) [Value.int IntKind.u8 1] 5
  go_enter Tryz.func64, Tryz.ntmps64
  go_wp2_with (at_builtin; go_must (refine wpList_append_own _ rfl (.tmp 6) (.tmp 11) 68 rfl base 5 i0 (.int .u8 0) 1 1 Tryz.underlying68 hi hz0 hz1 hz2 rfl (by decide) kv _ _ rfl H1 ⟨w.heap.size + 1, 0, none⟩ 1 1 [.int .u8 1] rfl rfl ?_ ?_ ?_ ?_ ?_ ?_))
  · simpa using N1
  · intro u hu; simp at hu; subst hu; rfl
  · unfold maxLen; omega
  · omega
  · simp; omega
  · intro kv1 w1 hown1 hg1 _
    have B2 := block_grown hg1 B1 (own_ne H1 B1 (by decide))
    have C0 := cell_of_block B2 (j := 0) rfl
    have C1 := cell_of_block B2 (j := 1) rfl
    have C2 := cell_of_block B2 (j := 2) rfl
    have Bl : Below base w w1 := (((Below.refl _ _).alloc hb _).alloc (by simp; omega) _).trans (below_append H1 (by simp; omega) hg1)
    have O1 : w1.ownsRow base 5 1 kv1 (bs.length + 1) (bytesV (bs ++ [1])) := by rw [bytesV_append]; exact hown1
    clear B2 hg1 H1 B1 N1 hown1 hown
    go_wp2
    go_ret
    exact ⟨_, rfl, O1, Bl⟩

set_option maxHeartbeats 400000 in
theorem appendKey_number (n : Int) (s : ByteArray) (kv : Value) (bs : List UInt8) (base : Nat) (w : World) (hown : w.ownsRow base 5 1 kv bs.length (bytesV bs))
    (hb : base ≤ w.heap.size) (hsz : bs.length + 10 ≤ 140737488355328) (hn : -1000000 ≤ n) (hm : n ≤ 1000000) :
    Calls Tryz.prog 64 #[kv, .agg #[.int .i64 1, .int .i64 n, .string s]] w fun e w' => ∃ kv', e = .returned kv' ∧ w'.ownsRow base 5 1 kv' (bs.length + 5) (bytesV (bs ++ 2 :: be4 (n + 1073741824).toNat)) ∧ Below base w w' := by
  obtain ⟨i0, hi, hz0, hz1, hz2⟩ := info_parts info_u8
  have H1 : ((w.alloc (Obj.cells #[Value.int IntKind.i64 1, Value.int IntKind.i64 n, Value.string s] 36)).alloc (Obj.cells #[Value.int IntKind.u8 2] 5)).ownsRow base 5 1 kv bs.length (bytesV bs) := (hown.alloc _).alloc _
  have B1 := block_alloc_of (block_alloc_at w (Obj.cells #[Value.int IntKind.i64 1, Value.int IntKind.i64 n, Value.string s] 36)) (Obj.cells #[Value.int IntKind.u8 2] 5)
  have N1 := cells_new (w.alloc (Obj.cells #[Value.int IntKind.i64 1, Value.int IntKind.i64 n, Value.string s] 36)) [Value.int IntKind.u8 2] 5
  go_enter Tryz.func64, Tryz.ntmps64
  go_wp2_with (at_builtin; go_must (refine wpList_append_own _ rfl (.tmp 6) (.tmp 11) 68 rfl base 5 i0 (.int .u8 0) 1 1 Tryz.underlying68 hi hz0 hz1 hz2 rfl (by decide) kv _ _ rfl H1 ⟨w.heap.size + 1, 0, none⟩ 1 1 [.int .u8 2] rfl rfl ?_ ?_ ?_ ?_ ?_ ?_))
  · simpa using N1
  · intro u hu; simp at hu; subst hu; rfl
  · unfold maxLen; omega
  · omega
  · simp; omega
  · intro kv1 w1 hown1 hg1 _
    have B2 := block_grown hg1 B1 (own_ne H1 B1 (by decide))
    have C0 := cell_of_block B2 (j := 0) rfl
    have C1 := cell_of_block B2 (j := 1) rfl
    have C2 := cell_of_block B2 (j := 2) rfl
    have Bl : Below base w w1 := (((Below.refl _ _).alloc hb _).alloc (by simp; omega) _).trans (below_append H1 (by simp; omega) hg1)
    have O1 : w1.ownsRow base 5 1 kv1 (bs.length + 1) (bytesV (bs ++ [2])) := by rw [bytesV_append]; exact hown1
    have S1 := hg1.size
    simp at S1
    clear B2 hg1 H1 B1 N1 hown1 hown
    have M0 : 0 ≤ n + 1073741824 := by omega
    have M1 : n + 1073741824 < 4294967296 := by omega
    have E := be4V (n + 1073741824) M0 M1
    have O2 := O1.alloc (Obj.cells #[Value.int IntKind.u8 ((n + 1073741824) / 16777216), Value.int IntKind.u8 ((n + 1073741824) / 65536 % 256), Value.int IntKind.u8 ((n + 1073741824) / 256 % 256), Value.int IntKind.u8 ((n + 1073741824) % 256)] 5)
    have N2 := cells_new w1 [Value.int IntKind.u8 ((n + 1073741824) / 16777216), Value.int IntKind.u8 ((n + 1073741824) / 65536 % 256), Value.int IntKind.u8 ((n + 1073741824) / 256 % 256), Value.int IntKind.u8 ((n + 1073741824) % 256)] 5
    have EH : Hid (bytesV (be4 (n + 1073741824).toNat) = [.int .u8 ((n + 1073741824) / 16777216), .int .u8 ((n + 1073741824) / 65536 % 256), .int .u8 ((n + 1073741824) / 256 % 256), .int .u8 ((n + 1073741824) % 256)]) := E
    clear E
    go_wp2_with (at_builtin; go_must (refine wpList_append_own _ rfl (.tmp 21) (.tmp 33) 68 rfl base 5 i0 (.int .u8 0) 1 1 Tryz.underlying68 hi hz0 hz1 hz2 rfl (by decide) kv1 _ _ rfl O2 ⟨w1.heap.size, 0, none⟩ 4 4 _ rfl rfl N2 ?_ ?_ ?_ ?_ ?_))
    · intro u hu; simp at hu; rcases hu with rfl | rfl | rfl | rfl <;> rfl
    · unfold maxLen; omega
    · omega
    · simp; omega
    · intro kv2 w2 hown2 hg2 _
      have Bl2 : Below base w w2 := (Bl.alloc (by omega) _).trans (below_append O2 (by simp; omega) hg2)
      have O3 : w2.ownsRow base 5 1 kv2 (bs.length + 5) (bytesV (bs ++ 2 :: be4 (n + 1073741824).toNat)) := by
        rw [show bs ++ 2 :: be4 (n + 1073741824).toNat = (bs ++ [2]) ++ be4 (n + 1073741824).toNat from by simp, bytesV_append, EH.out]; exact hown2
      clear O2 N2 hown2 hg2 O1 Bl EH
      go_wp2
      go_ret
      exact ⟨_, rfl, O3, Bl2⟩

set_option maxHeartbeats 1000000 in
theorem appendKey_text (n : Int) (s : ByteArray) (kv : Value) (bs : List UInt8) (base : Nat) (w : World) (hown : w.ownsRow base 5 1 kv bs.length (bytesV bs))
    (hb : base ≤ w.heap.size) (hsz : bs.length + 10 ≤ 140737488355328) (h8 : s.size ≤ 8) :
    Calls Tryz.prog 64 #[kv, .agg #[.int .i64 2, .int .i64 n, .string s]] w fun e w' => ∃ kv', e = .returned kv' ∧ w'.ownsRow base 5 1 kv' (bs.length + (s.size + 2)) (bytesV (bs ++ 3 :: (s.data.toList ++ [0]))) ∧ Below base w w' := by
  obtain ⟨i0, hi, hz0, hz1, hz2⟩ := info_parts info_u8
  have H1 : ((w.alloc (Obj.cells #[Value.int IntKind.i64 2, Value.int IntKind.i64 n, Value.string s] 36)).alloc (Obj.cells #[Value.int IntKind.u8 3] 5)).ownsRow base 5 1 kv bs.length (bytesV bs) := (hown.alloc _).alloc _
  have B1 := block_alloc_of (block_alloc_at w (Obj.cells #[Value.int IntKind.i64 2, Value.int IntKind.i64 n, Value.string s] 36)) (Obj.cells #[Value.int IntKind.u8 3] 5)
  have N1 := cells_new (w.alloc (Obj.cells #[Value.int IntKind.i64 2, Value.int IntKind.i64 n, Value.string s] 36)) [Value.int IntKind.u8 3] 5
  go_enter Tryz.func64, Tryz.ntmps64
  go_wp2_with (at_builtin; go_must (refine wpList_append_own _ rfl (.tmp 6) (.tmp 11) 68 rfl base 5 i0 (.int .u8 0) 1 1 Tryz.underlying68 hi hz0 hz1 hz2 rfl (by decide) kv _ _ rfl H1 ⟨w.heap.size + 1, 0, none⟩ 1 1 [.int .u8 3] rfl rfl ?_ ?_ ?_ ?_ ?_ ?_))
  · simpa using N1
  · intro u hu; simp at hu; subst hu; rfl
  · unfold maxLen; omega
  · omega
  · simp; omega
  · intro kv1 w1 hown1 hg1 _
    have B2 := block_grown hg1 B1 (own_ne H1 B1 (by decide))
    have C0 := cell_of_block B2 (j := 0) rfl
    have C1 := cell_of_block B2 (j := 1) rfl
    have C2 := cell_of_block B2 (j := 2) rfl
    have Bl : Below base w w1 := (((Below.refl _ _).alloc hb _).alloc (by simp; omega) _).trans (below_append H1 (by simp; omega) hg1)
    have O1 : w1.ownsRow base 5 1 kv1 (bs.length + 1) (bytesV (bs ++ [3])) := by rw [bytesV_append]; exact hown1
    have S1 := hg1.size
    simp at S1
    clear B2 hg1 H1 B1 N1 hown1 hown
    go_wp2_with (at_builtin; go_must (refine Lib.wpList_append_own_string _ rfl (.tmp 37) (.tmp 39) 68 9 rfl base 5 i0 Tryz.underlying68 Tryz.underlying9 hi hz0 hz1 hz2 kv1 _ _ rfl O1 s rfl ?_ ?_ ?_ ?_))
    · unfold maxLen; omega
    · omega
    · omega
    · intro kv2 w2 hown2 hg2 _
      have Bl2 : Below base w w2 := Bl.trans (below_append O1 (by omega) hg2)
      have S2 := hg2.size
      have O2 := hown2.alloc (Obj.cells #[Value.int IntKind.u8 0] 5)
      have N2 := cells_new w2 [Value.int IntKind.u8 0] 5
      clear hg2 hown2 O1 Bl
      go_wp2_with (at_builtin; go_must (refine wpList_append_own _ rfl (.tmp 41) (.tmp 42) 68 rfl base 5 i0 (.int .u8 0) 1 1 Tryz.underlying68 hi hz0 hz1 hz2 rfl (by decide) kv2 _ _ rfl O2 ⟨w2.heap.size, 0, none⟩ 1 1 [.int .u8 0] rfl rfl N2 ?_ ?_ ?_ ?_ ?_))
      · intro u hu; simp at hu; subst hu; rfl
      · unfold maxLen; omega
      · omega
      · simp; omega
      · intro kv3 w3 hown3 hg3 _
        have Bl3 : Below base w w3 := (Bl2.alloc (by omega) _).trans (below_append O2 (by simp; omega) hg3)
        have O3 : w3.ownsRow base 5 1 kv3 (bs.length + (s.size + 2)) (bytesV (bs ++ 3 :: (s.data.toList ++ [0]))) := by
          rw [show bs ++ 3 :: (s.data.toList ++ [0]) = ((bs ++ [3]) ++ s.data.toList) ++ [0] from by simp, bytesV_append, bytesV_append (bs ++ [3]), show bs.length + (s.size + 2) = bs.length + 1 + s.size + 1 from by omega, List.append_assoc]; exact hown3
        clear O2 N2 hown3 hg3 Bl2
        go_wp2
        go_ret
        exact ⟨_, rfl, O3, Bl3⟩

/-- OF A GOOD VALUE: its key is appended. -/
theorem appendKey_any (v : V) (hg : good v = true) (kv : Value) (bs : List UInt8) (base : Nat) (w : World) (hown : w.ownsRow base 5 1 kv bs.length (bytesV bs))
    (hb : base ≤ w.heap.size) (hsz : bs.length + 10 ≤ 140737488355328) :
    Calls Tryz.prog 64 #[kv, v.val] w fun e w' => ∃ kv', e = .returned kv' ∧ w'.ownsRow base 5 1 kv' (bs ++ keyOf v).length (bytesV (bs ++ keyOf v)) ∧ Below base w w' := by
  obtain ⟨k, n, s⟩ := v
  unfold good at hg
  simp only at hg
  by_cases h0 : k = 0
  · subst h0
    have e : (bs ++ keyOf ⟨0, n, s⟩).length = bs.length + 1 := by rw [keyOf_nothing rfl]; simp
    rw [e, keyOf_nothing rfl]
    exact appendKey_nothing n s kv bs base w hown hb hsz
  by_cases h1 : k = 1
  · subst h1
    simp at hg
    have e : (bs ++ keyOf ⟨1, n, s⟩).length = bs.length + 5 := by rw [keyOf_number rfl]; simp [be4]
    rw [e, keyOf_number rfl]
    exact appendKey_number n s kv bs base w hown hb hsz (by omega) (by omega)
  by_cases h2 : k = 2
  · subst h2
    simp at hg
    have := appendKey_text n s kv bs base w hown hb hsz (by omega)
    have e : (bs ++ keyOf ⟨2, n, s⟩).length = bs.length + (s.size + 2) := by rw [keyOf_text rfl, List.length_append, List.length_cons, List.length_append, size_toList]; rfl
    rw [e, keyOf_text rfl]
    exact this
  · simp [h0, h1, h2] at hg

end Go.Proofs.YtkncamggdfmlnaaGreatDoor

namespace Go.Proofs.YtkncamggdfmlnaaGreatDoor
open Go.RowKit

/-- A slice of bytes that the call owns, as a text. -/
theorem convert_own {w : World} {base n : Nat} {kv : Value} {bs : List UInt8} (hown : w.ownsRow base 5 1 kv n (bytesV bs)) (hn : n = bs.length) :
    (convert 68 9 kv).run Tryz.prog w = .ok (.string (str bs)) w := by
  subst hn
  rcases hown.2 with ⟨rfl, h0⟩ | ⟨g, c, cur, rfl, _, _, _⟩
  · obtain rfl : bs = [] := by simpa using h0
    exact run_convert_bytes_nil w 68 5 Tryz.underlying68 Tryz.underlying5 0 0 9 Tryz.underlying9
  · refine run_convert_bytes_back w 68 9 5 ⟨g, 0, none⟩ c bs Tryz.underlying68 Tryz.underlying5 Tryz.underlying9 fun j hj => ?_
    exact hown.cells (g := g) rfl j _ (by simp [bytesV, hj])

/-- What Key answers. -/
def keyAns (L : List V) : List UInt8 × Int := if L.all good then (keys L, 0) else ([], 1)
theorem keyAns_good {L : List V} (h : ∀ v ∈ L, good v = true) : keyAns L = (keys L, 0) := by
  have : L.all good = true := by simpa using h
  simp [keyAns, this]
theorem keyAns_bad {L : List V} {v : V} (hv : v ∈ L) (h : good v = false) : keyAns L = ([], 1) := by
  have : L.all good = false := by rw [List.all_eq_false]; exact ⟨v, hv, by simp [h]⟩
  simp [keyAns, this]
theorem take_snoc_of {L : List V} {k : Nat} {v : V} (h : L[k]? = some v) : L.take (k + 1) = L.take k ++ [v] := by
  rw [List.take_add_one, h]; rfl

set_option maxHeartbeats 1000000 in
theorem key_some (L : List V) (b off cap : Nat) (w : World) (hL : HoldsV w b off L) (hb : b < w.heap.size) (hlen : L.length * 32 ≤ 140737488351232) (hss : ∀ v ∈ L, v.s.size ≤ maxLen) :
    Calls Tryz.prog 38 #[.slice (some ⟨b, off, none⟩) L.length cap] w fun e w' => e = .returned (.tuple #[.string (str (keyAns L).1), .int .i64 (keyAns L).2]) ∧ Below w.heap.size w w' := by
  go_enter Tryz.func38, Tryz.ntmps38
  go_wp2
  go_loopw [4, 9] (fun kv i wr => ∃ k : Nat, k ≤ L.length ∧ i = .int .i64 k ∧ (∀ v ∈ L.take k, good v = true) ∧ wr.ownsRow w.heap.size 5 1 kv (keys (L.take k)).length (bytesV (keys (L.take k))) ∧ Below w.heap.size w wr) (fun _ i _ => L.length - (intOf i).toNat)
  case atStart => exact ⟨0, Nat.zero_le _, rfl, by simp, World.ownsRow_nil _ _ _ _, Below.refl _ _⟩
  case round =>
    obtain ⟨k, hk, rfl, hgk, hown, hbel⟩ := hrel
    by_cases hlt : k < L.length
    · obtain ⟨v, hv⟩ : ∃ v, L[k]? = some v := ⟨_, List.getElem?_eq_getElem hlt⟩
      obtain ⟨c0, c1, c2⟩ := hL.below hbel hb k v hv
      have hs : v.s.size ≤ maxLen := hss v (List.mem_of_getElem? hv)
      have hsz := hbel.size
      have hkl := keys_le (L.take k) hgk
      have htl : (L.take k).length ≤ k := List.length_take_le _ _
      have HG : Hid (∀ v ∈ L.take k, good v = true) := hgk
      have HV : Hid (L[k]? = some v) := hv
      clear hgk hv
      cases hg : good v
      · go_wp2_with (go_at_call 63; go_must (refine (good_any v _ hs).mono ?_; rintro e w' ⟨rfl, rfl⟩))
        go_ret2
        refine ⟨?_, (hbel.alloc hsz _).alloc (by simp; omega) _⟩
        rw [keyAns_bad (List.mem_of_getElem? HV.out) hg]
        rfl
      · go_wp2_with (first | (go_at_call 63; go_must (refine (good_any v _ hs).mono ?_; rintro e w' ⟨rfl, rfl⟩)) | (go_at_call 64; go_must (refine (appendKey_any v hg _ _ _ _ ((hown.alloc _).alloc _) ?_ ?_).mono ?_)))
        · simp; omega
        · omega
        · rintro e w1 ⟨kv', rfl, hown1, hbel1⟩
          have hb2 : Below w.heap.size w w1 := ((hbel.alloc hsz _).alloc (by simp; omega) _).trans hbel1
          have ht := take_snoc_of HV.out
          have ho2 : w1.ownsRow w.heap.size 5 1 kv' (keys (L.take (k + 1))).length (bytesV (keys (L.take (k + 1)))) := by rw [ht, keys_snoc]; exact hown1
          have hg2 : Hid (∀ v ∈ L.take (k + 1), good v = true) := by
            rw [ht]; intro x hx; simp at hx; rcases hx with hx | rfl
            · exact HG.out x hx
            · exact hg
          clear hown1 hbel1 hown hbel ht
          go_wp2
          go_roundw
          case rel => exact ⟨k + 1, by omega, by go_num, hg2.out, ho2, hb2⟩
          case measure => simp [intOf]; omega
    · have e : L.take k = L := List.take_of_length_le (by omega)
      rw [e] at hown hgk
      have hc := convert_own hown rfl
      have HA : Hid (keyAns L = (keys L, 0)) := keyAns_good hgk
      clear hgk e
      go_wp2
      go_ret2
      exact ⟨by rw [HA.out]; rfl, hbel⟩

set_option maxHeartbeats 400000 in
theorem key_none (ao : Option Addr) (cap : Nat) (w : World) :
    Calls Tryz.prog 38 #[.slice ao 0 cap] w fun e w' => e = .returned (.tuple #[.string (str (keyAns []).1), .int .i64 (keyAns []).2]) ∧ Below w.heap.size w w' := by
  go_enter Tryz.func38, Tryz.ntmps38
  go_wp2
  refine wp_loop_rounds 1 ?_
  rw [rounds_succ]
  have hc := convert_own (World.ownsRow_nil w w.heap.size 5 1) (bs := []) rfl
  go_wp2
  go_ret2
  exact ⟨rfl, Below.refl _ _⟩

end Go.Proofs.YtkncamggdfmlnaaGreatDoor

namespace Go.Proofs.YtkncamggdfmlnaaGreatDoor

abbrev Wd := ByteArray

/-- An expression: api.Expr. -/
inductive E where
  | mk (op : Int) (v : V) (s name : Wd) (n : Int) (l : List E) : E

abbrev noW : Wd := ⟨#[]⟩
def E.nil : E := .mk 0 zero noW noW 0 []
def litE (v : V) : E := .mk 1 v noW noW 0 []
def refE (s name : Wd) : E := .mk 2 zero s name 0 []
def nodeE (op : Int) (l : List E) : E := .mk op zero noW noW 0 l

end Go.Proofs.YtkncamggdfmlnaaGreatDoor


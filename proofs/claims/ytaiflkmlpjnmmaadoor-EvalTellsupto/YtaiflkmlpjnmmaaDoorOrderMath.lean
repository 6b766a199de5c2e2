/-
  Plain mathematics: of good values of one length keys are ordered as the values are. Nothing of the program.
-/
import Derived.Test.YtaiflkmlpjnmmaaDoorPlain
import Derived.Test.YtaiflkmlpjnmmaaDoorCompare
namespace Go.Proofs.YtaiflkmlpjnmmaaDoor
open Go.RowKit

theorem less_app (l p q : List UInt8) : Op.bytesLess (l ++ p) (l ++ q) = Op.bytesLess p q := by
  induction l with
  | nil => rfl
  | cons a l ih => simp [Op.bytesLess, ih]
theorem less_lt {a b : UInt8} (h : a < b) (p q : List UInt8) : Op.bytesLess (a :: p) (b :: q) = true := by simp [Op.bytesLess, h]
theorem less_irrefl (l : List UInt8) : Op.bytesLess l l = false := by
  induction l with
  | nil => rfl
  | cons a l ih => simp [Op.bytesLess, ih]
theorem less_asymm : ∀ (p q : List UInt8), Op.bytesLess p q = true → Op.bytesLess q p = false
  | _, [], h => by simp [Op.bytesLess] at h
  | [], _ :: _, _ => by simp [Op.bytesLess]
  | a :: p, b :: q, h => by
    simp only [Op.bytesLess, Bool.or_eq_true, Bool.and_eq_true, decide_eq_true_eq, beq_iff_eq] at h
    simp only [Op.bytesLess, Bool.or_eq_false_iff, Bool.and_eq_false_iff, decide_eq_false_iff_not, beq_eq_false_iff_ne]
    rcases h with h | ⟨rfl, h⟩
    · exact ⟨fun h2 => absurd (UInt8.lt_trans h h2) (UInt8.lt_irrefl _), .inl fun e => absurd (e ▸ h) (UInt8.lt_irrefl _)⟩
    · exact ⟨UInt8.lt_irrefl _, .inr (less_asymm p q h)⟩
theorem less_total : ∀ (p q : List UInt8), Op.bytesLess p q = false → p ≠ q → Op.bytesLess q p = true
  | [], [], _, h => absurd rfl h
  | _ :: _, [], _, _ => by simp [Op.bytesLess]
  | [], _ :: _, h, _ => by simp [Op.bytesLess] at h
  | a :: p, b :: q, h, hne => by
    simp only [Op.bytesLess, Bool.or_eq_false_iff, Bool.and_eq_false_iff, decide_eq_false_iff_not, beq_eq_false_iff_ne] at h
    simp only [Op.bytesLess, Bool.or_eq_true, Bool.and_eq_true, decide_eq_true_eq, beq_iff_eq]
    by_cases e : a = b
    · subst e
      refine .inr ⟨rfl, less_total p q ?_ fun e => hne (by rw [e])⟩
      rcases h.2 with h | h
      · exact absurd rfl h
      · exact h
    · refine .inl ?_
      have h1 := h.1
      rw [UInt8.lt_iff_toNat_lt] at h1 ⊢
      have : a.toNat ≠ b.toNat := fun x => e (UInt8.toNat_inj.1 x)
      omega

theorem text_lt (p q : List UInt8) : ∀ (s t : List UInt8), (∀ c ∈ t, 0 < c) → Op.bytesLess s t = true → Op.bytesLess (s ++ 0 :: p) (t ++ 0 :: q) = true
  | _, [], _, h => by simp [Op.bytesLess] at h
  | [], b :: t, ht, _ => less_lt (ht b (by simp)) _ _
  | a :: s, b :: t, ht, h => by
    simp only [Op.bytesLess, Bool.or_eq_true, Bool.and_eq_true, decide_eq_true_eq, beq_iff_eq] at h
    rcases h with h | ⟨rfl, h⟩
    · exact less_lt h _ _
    · show Op.bytesLess ([a] ++ _) ([a] ++ _) = true
      rw [less_app]
      exact text_lt p q s t (fun c hc => ht c (by simp [hc])) h

theorem u8_lt {a b : Nat} (ha : a < 256) (hb : b < 256) (h : a < b) : UInt8.ofNat a < UInt8.ofNat b := by
  rw [UInt8.lt_iff_toNat_lt]; simp; omega
theorem u8_eq {a b : Nat} (h : a % 256 = b % 256) : UInt8.ofNat a = UInt8.ofNat b := by
  apply UInt8.toNat_inj.1; simp; omega
theorem u8_lt' {a b : Nat} (h : a % 256 < b % 256) : UInt8.ofNat a < UInt8.ofNat b := by
  rw [UInt8.lt_iff_toNat_lt]; simp; omega

theorem be4_lt (m m' : Nat) (p q : List UInt8) (h : m < m') (h' : m' < 4294967296) : Op.bytesLess (be4 m ++ p) (be4 m' ++ q) = true := by
  simp only [be4, List.cons_append, List.nil_append]
  by_cases e1 : m / 16777216 = m' / 16777216
  · rw [u8_eq (show m / 16777216 % 256 = m' / 16777216 % 256 by omega)]
    show Op.bytesLess ([UInt8.ofNat (m' / 16777216)] ++ _) ([UInt8.ofNat (m' / 16777216)] ++ _) = true
    rw [less_app]
    by_cases e2 : m / 65536 = m' / 65536
    · rw [u8_eq (show m / 65536 % 256 = m' / 65536 % 256 by omega)]
      show Op.bytesLess ([UInt8.ofNat (m' / 65536)] ++ _) ([UInt8.ofNat (m' / 65536)] ++ _) = true
      rw [less_app]
      by_cases e3 : m / 256 = m' / 256
      · rw [u8_eq (show m / 256 % 256 = m' / 256 % 256 by omega)]
        show Op.bytesLess ([UInt8.ofNat (m' / 256)] ++ _) ([UInt8.ofNat (m' / 256)] ++ _) = true
        rw [less_app]
        exact less_lt (u8_lt' (by omega)) _ _
      · exact less_lt (u8_lt' (by omega)) _ _
    · exact less_lt (u8_lt' (by omega)) _ _
  · exact less_lt (u8_lt' (by omega)) _ _

theorem cmpI_cases (a b : Int) : (a < b ∧ cmpI a b = -1) ∨ (a = b ∧ cmpI a b = 0) ∨ (b < a ∧ cmpI a b = 1) := by
  unfold cmpI
  rcases (show a < b ∨ b < a ∨ a = b from by omega) with h | h | h
  · simp [h]
  · have : ¬ a < b := by omega
    simp [h, this]
  · subst h; simp
theorem cmpS_cases (a b : ByteArray) : (Op.bytesLess a.data.toList b.data.toList = true ∧ cmpS a b = -1) ∨ (a.data.toList = b.data.toList ∧ cmpS a b = 0) ∨ (Op.bytesLess b.data.toList a.data.toList = true ∧ cmpS a b = 1) := by
  unfold cmpS
  rw [ByteArray.toList_eq, ByteArray.toList_eq]
  by_cases h : Op.bytesLess a.data.toList b.data.toList = true
  · simp [h]
  · have h' : Op.bytesLess a.data.toList b.data.toList = false := by simpa using h
    by_cases e : a.data.toList = b.data.toList
    · right; left; rw [h', e]; simp
    · right; right
      refine ⟨less_total _ _ h' e, ?_⟩
      rw [h']
      have : (a.data.toList == b.data.toList) = false := by rw [beq_eq_false_iff_ne]; exact e
      rw [this]; rfl

theorem good_bytes {v : V} (hk : v.k = 2) (hg : good v = true) : ∀ c ∈ v.s.data.toList, 0 < c := by
  intro c hc
  simp [good, hk] at hg
  have h0 := hg.2
  unfold gtext at h0
  have h := List.all_eq_true.1 h0 c hc
  simp [goodb] at h
  rw [UInt8.lt_iff_toNat_lt]
  simp
  omega
theorem good_kind {v : V} (hg : good v = true) : v.k = 0 ∨ v.k = 1 ∨ v.k = 2 := by
  by_cases h0 : v.k = 0
  · exact .inl h0
  by_cases h1 : v.k = 1
  · exact .inr (.inl h1)
  by_cases h2 : v.k = 2
  · exact .inr (.inr h2)
  · simp [good, h0, h1, h2] at hg
theorem good_num {v : V} (hk : v.k = 1) (hg : good v = true) : -1000000 ≤ v.n ∧ v.n ≤ 1000000 := by
  simp [good, hk] at hg; omega

/-- How a good value's key begins. -/
theorem keyOf_head {v : V} (hg : good v = true) : ∃ t, keyOf v = UInt8.ofNat (v.k.toNat + 1) :: t := by
  rcases good_kind hg with h | h | h
  · exact ⟨_, by rw [keyOf_nothing h, h]; rfl⟩
  · exact ⟨_, by rw [keyOf_number h, h]; rfl⟩
  · exact ⟨_, by rw [keyOf_text h, h]; rfl⟩

theorem key_kind_lt {v u : V} (hv : good v = true) (hu : good u = true) (h : v.k < u.k) (p q : List UInt8) : Op.bytesLess (keyOf v ++ p) (keyOf u ++ q) = true := by
  obtain ⟨a, ha⟩ := keyOf_head hv
  obtain ⟨b, hb⟩ := keyOf_head hu
  rw [ha, hb, List.cons_append, List.cons_append]
  refine less_lt (u8_lt' ?_) _ _
  rcases good_kind hv with e | e | e <;> rcases good_kind hu with f | f | f <;> rw [e, f] at h ⊢ <;> first | (exfalso; revert h; decide) | decide

/-- One value ahead of another one: its key is, whatever follows. -/
theorem key_lt {v u : V} (hv : good v = true) (hu : good u = true) (h : v.k < u.k ∨ (v.k = u.k ∧ (v.n < u.n ∨ (v.n = u.n ∧ Op.bytesLess v.s.data.toList u.s.data.toList = true)))) (p q : List UInt8) :
    Op.bytesLess (keyOf v ++ p) (keyOf u ++ q) = true := by
  rcases h with h | ⟨hk, h⟩
  · exact key_kind_lt hv hu h p q
  rcases good_kind hv with e | e | e
  · have e' : u.k = 0 := hk ▸ e
    simp [good, e] at hv
    simp [good, e'] at hu
    rcases h with h | ⟨_, h⟩
    · omega
    · have h0 : v.s.data.toList = [] := by rw [hv.2]; rfl
      have h1 : u.s.data.toList = [] := by rw [hu.2]; rfl
      rw [h0, h1] at h
      simp [Op.bytesLess] at h
  · have e' : u.k = 1 := hk ▸ e
    have bv := good_num e hv
    have bu := good_num e' hu
    simp [good, e] at hv
    simp [good, e'] at hu
    rcases h with h | ⟨_, h⟩
    · rw [keyOf_number e, keyOf_number e']
      show Op.bytesLess ([2] ++ (be4 _ ++ p)) ([2] ++ (be4 _ ++ q)) = true
      rw [less_app]
      exact be4_lt _ _ _ _ (by omega) (by omega)
    · have h0 : v.s.data.toList = [] := by rw [hv.2]; rfl
      have h1 : u.s.data.toList = [] := by rw [hu.2]; rfl
      rw [h0, h1] at h
      simp [Op.bytesLess] at h
  · have e' : u.k = 2 := hk ▸ e
    have gu := good_bytes e' hu
    simp [good, e] at hv
    simp [good, e'] at hu
    rcases h with h | ⟨_, h⟩
    · omega
    · rw [keyOf_text e, keyOf_text e']
      show Op.bytesLess ([3] ++ ((v.s.data.toList ++ [0]) ++ p)) ([3] ++ ((u.s.data.toList ++ [0]) ++ q)) = true
      rw [less_app, List.append_assoc, List.append_assoc]
      exact text_lt p q _ _ gu h

/-- The three ways in which good values can lie. -/
theorem cmpV_cases (v u : V) (hv : good v = true) (hu : good u = true) :
    (cmpV v u = -1 ∧ ∀ p q, Op.bytesLess (keyOf v ++ p) (keyOf u ++ q) = true) ∨ (cmpV v u = 0 ∧ keyOf v = keyOf u) ∨ (cmpV v u = 1 ∧ ∀ p q, Op.bytesLess (keyOf u ++ q) (keyOf v ++ p) = true) := by
  unfold cmpV or3
  rcases cmpI_cases v.k u.k with ⟨h, e⟩ | ⟨hk, e⟩ | ⟨h, e⟩
  · left; rw [e]; exact ⟨rfl, fun p q => key_lt hv hu (.inl h) p q⟩
  · rw [e]
    rcases cmpI_cases v.n u.n with ⟨h, e⟩ | ⟨hn, e⟩ | ⟨h, e⟩
    · left; rw [e]; exact ⟨rfl, fun p q => key_lt hv hu (.inr ⟨hk, .inl h⟩) p q⟩
    · rw [e]
      rcases cmpS_cases v.s u.s with ⟨h, e⟩ | ⟨h, e⟩ | ⟨h, e⟩
      · left; rw [e]; exact ⟨rfl, fun p q => key_lt hv hu (.inr ⟨hk, .inr ⟨hn, h⟩⟩) p q⟩
      · right; left; rw [e]; refine ⟨rfl, ?_⟩; unfold keyOf; rw [hk, hn, h]
      · right; right; rw [e]; exact ⟨rfl, fun p q => key_lt hu hv (.inr ⟨hk.symm, .inr ⟨hn.symm, h⟩⟩) q p⟩
    · right; right; rw [e]; exact ⟨rfl, fun p q => key_lt hu hv (.inr ⟨hk.symm, .inl h⟩) q p⟩
  · right; right; rw [e]; exact ⟨rfl, fun p q => key_lt hu hv (.inl h) q p⟩

/-- The first that is not 0. -/
def firstC : List V → List V → Int
  | a :: A, b :: B => if cmpV a b = 0 then firstC A B else cmpV a b
  | _, _ => 0
theorem firstC_snoc (a b : V) : ∀ (A B : List V), A.length = B.length → firstC (A ++ [a]) (B ++ [b]) = if firstC A B = 0 then cmpV a b else firstC A B
  | [], [], _ => by simp [firstC]; exact fun h => h.symm
  | x :: A, y :: B, h => by
    simp only [List.cons_append, firstC]
    by_cases e : cmpV x y = 0
    · simp only [e, if_true]; exact firstC_snoc a b A B (by simpa using h)
    · simp [e]
theorem order_cases : ∀ (A B : List V), A.length = B.length → (∀ v ∈ A, good v = true) → (∀ v ∈ B, good v = true) →
    (firstC A B = -1 ∧ Op.bytesLess (keys A) (keys B) = true) ∨ (firstC A B = 0 ∧ keys A = keys B) ∨ (firstC A B = 1 ∧ Op.bytesLess (keys B) (keys A) = true)
  | [], [], _, _, _ => .inr (.inl ⟨rfl, rfl⟩)
  | a :: A, b :: B, h, hA, hB => by
    have ih := order_cases A B (by simpa using h) (fun v hv => hA v (by simp [hv])) (fun v hv => hB v (by simp [hv]))
    have ka : keys (a :: A) = keyOf a ++ keys A := by simp [keys]
    have kb : keys (b :: B) = keyOf b ++ keys B := by simp [keys]
    rw [ka, kb]
    unfold firstC
    rcases cmpV_cases a b (hA a (by simp)) (hB b (by simp)) with ⟨e, h1⟩ | ⟨e, h1⟩ | ⟨e, h1⟩
    · left; rw [e]; exact ⟨rfl, h1 _ _⟩
    · rw [e, h1, less_app, less_app]
      simp only [if_true, List.append_cancel_left_eq]
      exact ih
    · right; right; rw [e]; exact ⟨rfl, h1 _ _⟩

theorem order_says (A B : List V) (h : A.length = B.length) (hA : ∀ v ∈ A, good v = true) (hB : ∀ v ∈ B, good v = true) :
    decide (firstC A B < 0) = Op.bytesLess (keys A) (keys B) ∧ (firstC A B == 0) = (keys A == keys B) := by
  rcases order_cases A B h hA hB with ⟨e, h1⟩ | ⟨e, h1⟩ | ⟨e, h1⟩
  · rw [e, h1]
    refine ⟨rfl, ?_⟩
    have : (keys A == keys B) = false := by
      rw [beq_eq_false_iff_ne]; intro x; rw [x, less_irrefl] at h1; exact absurd h1 (by decide)
    rw [this]; rfl
  · rw [e, h1, less_irrefl]; simp
  · rw [e, less_asymm _ _ h1]
    refine ⟨rfl, ?_⟩
    have : (keys A == keys B) = false := by
      rw [beq_eq_false_iff_ne]; intro x; rw [x, less_irrefl] at h1; exact absurd h1 (by decide)
    rw [this]; rfl

end Go.Proofs.YtaiflkmlpjnmmaaDoor

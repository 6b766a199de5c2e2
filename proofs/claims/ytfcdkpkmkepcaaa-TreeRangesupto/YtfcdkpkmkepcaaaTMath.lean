/-
  Plain mathematics of texts by keys, in pages. Nothing of the program.
-/
import Derived.WalkKit
import Derived.WalkSpells
import Derived.Lib.Strings
import Derived.Lib.Walk
import Derived.Sort.Walk0
namespace Go.Proofs.Ytfcdkpkmkepcaaa

/-- Is a key ahead of another one? -/
def klt (a b : ByteArray) : Bool := Op.bytesLess a.toList b.toList

theorem klt_iff (a b : ByteArray) : klt a b = true ↔ a.data.toList < b.data.toList := by
  unfold klt
  rw [Go.Proofs.bytesLess_eq, Lib.toList_data, Lib.toList_data]
  exact decide_eq_true_iff

theorem klt_irrefl (a : ByteArray) : klt a a = false := by
  cases h : klt a a with
  | false => rfl
  | true => exact absurd ((klt_iff a a).1 h) (List.lt_irrefl _)

theorem klt_trans {a b c : ByteArray} (h : klt a b = true) (k : klt b c = true) : klt a c = true :=
  (klt_iff _ _).2 (List.lt_trans ((klt_iff _ _).1 h) ((klt_iff _ _).1 k))

theorem klt_asymm {a b : ByteArray} (h : klt a b = true) : klt b a = false := by
  cases k : klt b a with
  | false => rfl
  | true => have := klt_trans h k; rw [klt_irrefl] at this; cases this

theorem bytes_ext {a b : ByteArray} (h : a.data.toList = b.data.toList) : a = b := by
  cases a with
  | mk x => cases b with
    | mk y => exact congrArg ByteArray.mk (Array.toList_inj.1 h)

theorem klt_tri {a b : ByteArray} (h : klt a b = false) : a = b ∨ klt b a = true := by
  by_cases e : a = b
  · exact .inl e
  · right
    have h' : ¬ a.data.toList < b.data.toList := fun k => by rw [(klt_iff a b).2 k] at h; cases h
    rw [klt_iff]
    rcases Decidable.em (b.data.toList < a.data.toList) with g | g
    · exact g
    · exact absurd (bytes_ext (List.le_antisymm (show a.data.toList ≤ b.data.toList from g) h')) e

theorem klt_ne {a b : ByteArray} (h : klt a b = true) : a ≠ b := by
  rintro rfl; rw [klt_irrefl] at h; cases h

/-- x ≤ y < z. -/
theorem klt_of_le_lt {a b c : ByteArray} (h : klt b a = false) (k : klt b c = true) : klt a c = true := by
  rcases klt_tri h with rfl | h
  · exact k
  · exact klt_trans h k

theorem klt_of_lt_le {a b c : ByteArray} (h : klt a b = true) (k : klt c b = false) : klt a c = true := by
  rcases klt_tri k with rfl | k
  · exact h
  · exact klt_trans h k

/-- A page. -/
structure Pg where
  K : List ByteArray
  V : List ByteArray

def pg0 : Pg := ⟨[], []⟩

def Pg.ok (p : Pg) : Prop := 1 ≤ p.K.length ∧ p.K.length ≤ 4 ∧ p.V.length = p.K.length
abbrev Rise (l : List ByteArray) : Prop := l.Pairwise (fun a b => klt a b = true)
def keysT (T : List Pg) : List ByteArray := T.flatMap Pg.K
def flat (T : List Pg) : List (ByteArray × ByteArray) := T.flatMap fun p => p.K.zip p.V
def GoodT (T : List Pg) : Prop := (∀ p ∈ T, p.ok) ∧ Rise (keysT T)

theorem keysT_cons (p : Pg) (T : List Pg) : keysT (p :: T) = p.K ++ keysT T := by simp [keysT]
theorem keysT_append (A B : List Pg) : keysT (A ++ B) = keysT A ++ keysT B := by simp [keysT]
theorem flat_cons (p : Pg) (T : List Pg) : flat (p :: T) = p.K.zip p.V ++ flat T := by simp [flat]
theorem flat_append (A B : List Pg) : flat (A ++ B) = flat A ++ flat B := by simp [flat]
theorem flat_nil : flat [] = [] := rfl

theorem zip_keys {K V : List ByteArray} (h : V.length = K.length) : (K.zip V).map Prod.fst = K := by
  rw [List.map_fst_zip (by omega)]

theorem keys_flat : ∀ {T : List Pg}, (∀ p ∈ T, p.ok) → (flat T).map Prod.fst = keysT T
  | [], _ => rfl
  | p :: T, h => by
    rw [flat_cons, keysT_cons, List.map_append, zip_keys (h p (by simp)).2.2, keys_flat fun q hq => h q (by simp [hq])]

theorem length_flat : ∀ {T : List Pg}, (∀ p ∈ T, p.ok) → (flat T).length = (keysT T).length := by
  intro T h
  rw [← keys_flat h, List.length_map]

theorem length_keys : ∀ {T : List Pg}, (∀ p ∈ T, p.ok) → (keysT T).length ≤ 4 * T.length
  | [], _ => by simp [keysT]
  | p :: T, h => by
    have := length_keys fun q hq => h q (List.mem_cons_of_mem _ hq)
    have := (h p (by simp)).2.1
    rw [keysT_cons, List.length_append, List.length_cons]
    omega

/-- What stands at a key: F is F1, perhaps the key, and F2. -/
structure Cut (F : List (ByteArray × ByteArray)) (k : ByteArray) (F1 : List (ByteArray × ByteArray)) (o : Option ByteArray) (F2 : List (ByteArray × ByteArray)) : Prop where
  eq : F = F1 ++ ((o.toList.map fun v => (k, v)) ++ F2)
  lo : ∀ x ∈ F1, klt x.1 k = true
  hi : ∀ x ∈ F2, klt k x.1 = true

def getF (F : List (ByteArray × ByteArray)) (k : ByteArray) : Option ByteArray := (F.find? fun x => decide (x.1 = k)).map Prod.snd
def putF (F : List (ByteArray × ByteArray)) (k v : ByteArray) : List (ByteArray × ByteArray) := (F.filter fun x => klt x.1 k) ++ (k, v) :: (F.filter fun x => klt k x.1)
def dropF (F : List (ByteArray × ByteArray)) (k : ByteArray) : List (ByteArray × ByteArray) := F.filter fun x => decide (x.1 ≠ k)

theorem filter_all {α : Type} {p : α → Bool} {l : List α} (h : ∀ x ∈ l, p x = true) : l.filter p = l := List.filter_eq_self.2 h
theorem filter_none {α : Type} {p : α → Bool} {l : List α} (h : ∀ x ∈ l, p x = false) : l.filter p = [] := by
  rw [List.filter_eq_nil_iff]; intro x hx; rw [h x hx]; simp

theorem Cut.get {F k F1 o F2} (c : Cut F k F1 o F2) : getF F k = o := by
  have h1 : F1.find? (fun x => decide (x.1 = k)) = none := by
    rw [List.find?_eq_none]; intro x hx; simpa using klt_ne (c.lo x hx)
  have h2 : F2.find? (fun x => decide (x.1 = k)) = none := by
    rw [List.find?_eq_none]; intro x hx; simpa using (klt_ne (c.hi x hx)).symm
  unfold getF
  rw [c.eq, List.find?_append, h1]
  cases o with
  | none => simp [h2]
  | some v => simp

theorem Cut.put {F k F1 o F2} (c : Cut F k F1 o F2) (v : ByteArray) : putF F k v = F1 ++ (k, v) :: F2 := by
  unfold putF
  rw [c.eq, List.filter_append, List.filter_append, List.filter_append, List.filter_append, filter_all c.lo, filter_none (l := F2) fun x hx => klt_asymm (c.hi x hx),
    filter_none (l := F1) fun x hx => klt_asymm (c.lo x hx), filter_all c.hi]
  have : ∀ q : (ByteArray × ByteArray) → Bool, (∀ v, q (k, v) = false) → (o.toList.map fun v => (k, v)).filter q = [] := by
    intro q hq; apply filter_none; intro x hx; simp at hx; obtain ⟨v, _, rfl⟩ := hx; exact hq v
  rw [this _ fun v => klt_irrefl k, this _ fun v => klt_irrefl k]
  simp

theorem Cut.drop {F k F1 o F2} (c : Cut F k F1 o F2) : dropF F k = F1 ++ F2 := by
  unfold dropF
  rw [c.eq, List.filter_append, List.filter_append, filter_all fun x hx => by simpa using klt_ne (c.lo x hx), filter_all (l := F2) fun x hx => by simpa using (klt_ne (c.hi x hx)).symm]
  have : (o.toList.map fun v => (k, v)).filter (fun x => decide (x.1 ≠ k)) = [] := by
    apply filter_none; intro x hx; simp at hx; obtain ⟨v, _, rfl⟩ := hx; simp
  rw [this]; simp

/-- A list that rises is cut at each key. -/
theorem cut_of_rise (F : List (ByteArray × ByteArray)) (h : Rise (F.map Prod.fst)) (k : ByteArray) : ∃ F1 o F2, Cut F k F1 o F2 := by
  induction F with
  | nil => exact ⟨[], none, [], rfl, by simp, by simp⟩
  | cons x F ih =>
    rw [List.map_cons, Rise, List.pairwise_cons] at h
    by_cases h1 : klt x.1 k = true
    · obtain ⟨F1, o, F2, c⟩ := ih h.2
      exact ⟨x :: F1, o, F2, by rw [c.eq]; rfl, by intro y hy; rcases List.mem_cons.1 hy with rfl | hy; exact h1; exact c.lo y hy, c.hi⟩
    · have hall : ∀ y ∈ F, klt x.1 y.1 = true := fun y hy => h.1 _ (List.mem_map.2 ⟨y, hy, rfl⟩)
      rcases klt_tri (by simpa using h1) with e | h2
      · exact ⟨[], some x.2, F, by rw [← e]; simp, by simp, fun y hy => by rw [← e]; exact hall y hy⟩
      · exact ⟨[], none, x :: F, by simp, by simp, fun y hy => by
          rcases List.mem_cons.1 hy with rfl | hy
          · exact h2
          · exact klt_trans h2 (hall y hy)⟩

theorem rise_append {A B : List ByteArray} : Rise (A ++ B) ↔ Rise A ∧ Rise B ∧ ∀ a ∈ A, ∀ b ∈ B, klt a b = true := List.pairwise_append

theorem Cut.rise_put {F k F1 o F2} (c : Cut F k F1 o F2) (h : Rise (F.map Prod.fst)) (v : ByteArray) : Rise ((F1 ++ (k, v) :: F2).map Prod.fst) := by
  rw [c.eq] at h
  simp only [List.map_append, List.map_cons] at h ⊢
  rw [rise_append] at h ⊢
  obtain ⟨h1, h2, h3⟩ := h
  rw [rise_append] at h2
  refine ⟨h1, ?_, ?_⟩
  · rw [Rise, List.pairwise_cons]
    refine ⟨?_, h2.2.1⟩
    intro a ha; obtain ⟨x, hx, rfl⟩ := List.mem_map.1 ha; exact c.hi x hx
  · intro a ha b hb
    rcases List.mem_cons.1 hb with rfl | hb
    · obtain ⟨x, hx, rfl⟩ := List.mem_map.1 ha; exact c.lo x hx
    · exact h3 a ha b (by simp at hb ⊢; exact .inr hb)

theorem Cut.rise_drop {F k F1 o F2} (c : Cut F k F1 o F2) (h : Rise (F.map Prod.fst)) : Rise ((F1 ++ F2).map Prod.fst) := by
  refine List.Pairwise.sublist ?_ h
  rw [c.eq]
  exact (List.Sublist.append_left (List.sublist_append_right _ _) F1).map _

/-- What is told of a changed tree, out of its pages and what it has. -/
theorem good_of_flat {T : List Pg} (h : ∀ p ∈ T, p.ok) (k : Rise ((flat T).map Prod.fst)) : GoodT T := ⟨h, by rw [← keys_flat h]; exact k⟩

theorem GoodT.rise {T : List Pg} (h : GoodT T) : Rise ((flat T).map Prod.fst) := by rw [keys_flat h.1]; exact h.2

theorem GoodT.part {A B : List Pg} (h : GoodT (A ++ B)) : GoodT A ∧ GoodT B := by
  obtain ⟨h1, h2⟩ := h
  rw [keysT_append, rise_append] at h2
  exact ⟨⟨fun p hp => h1 p (by simp [hp]), h2.1⟩, ⟨fun p hp => h1 p (by simp [hp]), h2.2.1⟩⟩

/-- A list that rises, parted at a key. -/
theorem split_rise (l : List ByteArray) (h : Rise l) (k : ByteArray) : ∃ a b, l = a ++ b ∧ (∀ x ∈ a, klt x k = true) ∧ (∀ x ∈ b, klt x k = false) := by
  induction l with
  | nil => exact ⟨[], [], rfl, by simp, by simp⟩
  | cons x l ih =>
    rw [Rise, List.pairwise_cons] at h
    cases h1 : klt x k with
    | true =>
      obtain ⟨a, b, rfl, ha, hb⟩ := ih h.2
      exact ⟨x :: a, b, rfl, by intro y hy; rcases List.mem_cons.1 hy with rfl | hy; exact h1; exact ha y hy, hb⟩
    | false =>
      refine ⟨[], x :: l, rfl, by simp, ?_⟩
      intro y hy
      rcases List.mem_cons.1 hy with rfl | hy
      · exact h1
      · cases h2 : klt y k with
        | false => rfl
        | true => have := klt_trans (h.1 y hy) h2; rw [h1] at this; cases this

def lastK (p : Pg) : ByteArray := p.K.getLastD ByteArray.empty

theorem lastK_mem {p : Pg} (h : p.ok) : lastK p ∈ p.K := by
  obtain ⟨h1, _⟩ := h
  unfold lastK
  cases hk : p.K with
  | nil => rw [hk] at h1; simp at h1
  | cons a l => rw [List.getLastD_cons]; exact List.getLastD_mem_cons

/-- The key behind all others of a page. -/
theorem lastK_max {p : Pg} (hr : Rise p.K) {x : ByteArray} (hx : x ∈ p.K) : x = lastK p ∨ klt x (lastK p) = true := by
  obtain ⟨l, hl⟩ : ∃ l, p.K = l ++ [lastK p] := by
    unfold lastK
    cases hk : p.K with
    | nil => rw [hk] at hx; cases hx
    | cons a l => exact ⟨(a :: l).dropLast, by rw [← List.dropLast_concat_getLast (l := a :: l) (by simp)]; simp [List.getLastD_eq_getLast?, List.getLast?_eq_some_getLast]⟩
  rw [hl] at hx hr
  rcases List.mem_append.1 hx with h | h
  · exact .inr ((rise_append.1 hr).2.2 x h _ (by simp))
  · exact .inl (by simpa using h)

/-- Where a key stands, or could be put. -/
def Found (T : List Pg) (k : ByteArray) (pg pl : Nat) (th : Bool) : Prop :=
  (pg = T.length ∧ pl = 0 ∧ th = false ∧ ∀ x ∈ keysT T, klt x k = true) ∨
  ∃ A p B K1 y K3, T = A ++ p :: B ∧ p.K = K1 ++ y :: K3 ∧ pg = A.length ∧ pl = K1.length ∧ (∀ x ∈ keysT A, klt x k = true) ∧ (∀ x ∈ K1, klt x k = true) ∧ klt y k = false ∧ th = decide (y = k)

/-- The pages ahead of a key's. -/
theorem split_pages (T : List Pg) (h : GoodT T) (k : ByteArray) : ∃ A B, T = A ++ B ∧ T.countP (fun p => klt (lastK p) k) = A.length ∧ (∀ x ∈ keysT A, klt x k = true) ∧ (∀ p ∈ B, klt (lastK p) k = false) := by
  induction T with
  | nil => exact ⟨[], [], rfl, rfl, by simp [keysT], by simp⟩
  | cons p T ih =>
    obtain ⟨h1, h2⟩ := h
    rw [keysT_cons, rise_append] at h2
    obtain ⟨A, B, e, hc, ha, hb⟩ := ih ⟨fun q hq => h1 q (by simp [hq]), h2.2.1⟩
    cases hl : klt (lastK p) k with
    | true =>
      refine ⟨p :: A, B, by rw [e]; rfl, by rw [List.countP_cons, hc, hl]; simp, ?_, hb⟩
      intro x hx
      rw [keysT_cons] at hx
      rcases List.mem_append.1 hx with hx | hx
      · rcases lastK_max h2.1 hx with rfl | hx
        · exact hl
        · exact klt_trans hx hl
      · exact ha x hx
    | false =>
      have hall : ∀ q ∈ p :: T, klt (lastK q) k = false := by
        intro q hq
        rcases List.mem_cons.1 hq with rfl | hq
        · exact hl
        · cases h3 : klt (lastK q) k with
          | false => rfl
          | true =>
            have := h2.2.2 (lastK p) (lastK_mem (h1 p (by simp))) (lastK q) (List.mem_flatMap.2 ⟨q, hq, lastK_mem (h1 q (by simp [hq]))⟩)
            have := klt_trans this h3; rw [hl] at this; cases this
      refine ⟨[], p :: T, rfl, ?_, by simp [keysT], hall⟩
      rw [List.countP_eq_zero.2 (fun q hq => by rw [hall q hq]; simp)]; rfl

/-- What Found tells of what the tree has. -/
theorem Found.cut {T k pg pl th} (h : GoodT T) (f : Found T k pg pl th) : ∃ F1 o F2, Cut (flat T) k F1 o F2 ∧ (th = true ↔ o.isSome = true) := by
  obtain ⟨F1, o, F2, c⟩ := cut_of_rise (flat T) h.rise k
  refine ⟨F1, o, F2, c, ?_⟩
  have hk : k ∈ keysT T ↔ o.isSome = true := by
    rw [← keys_flat h.1, c.eq]
    constructor
    · intro hk
      cases o with
      | some v => rfl
      | none =>
        simp at hk
        rcases hk with ⟨x, hx⟩ | ⟨x, hx⟩
        · exact absurd rfl (klt_ne (c.lo _ hx))
        · exact absurd rfl (klt_ne (c.hi _ hx))
    · intro ho
      obtain ⟨v, rfl⟩ := Option.isSome_iff_exists.1 ho
      simp
  rw [← hk]
  rcases f with ⟨_, _, rfl, hlt⟩ | ⟨A, p, B, K1, y, K3, rfl, hp, _, _, hA, hK, hy, rfl⟩
  · constructor
    · intro h; cases h
    · intro h; exact absurd rfl (klt_ne (hlt _ h))
  · have hr := h.2
    rw [keysT_append, keysT_cons, hp] at hr ⊢
    constructor
    · intro h; have := of_decide_eq_true h; subst this; simp
    · intro hm
      refine decide_eq_true ?_
      rcases List.mem_append.1 hm with hm | hm
      · exact absurd rfl (klt_ne (hA _ hm))
      · rw [List.append_assoc] at hm
        rcases List.mem_append.1 hm with hm | hm
        · exact absurd rfl (klt_ne (hK _ hm))
        · rcases List.mem_cons.1 hm with hm | hm
          · exact hm.symm
          · have hr' := (rise_append.1 hr).2.1
            rw [List.append_assoc] at hr'
            have hr2 := (rise_append.1 hr').2.1
            rw [Rise, List.cons_append, List.pairwise_cons] at hr2
            have := hr2.1 k hm
            rw [hy] at this; cases this

end Go.Proofs.Ytfcdkpkmkepcaaa

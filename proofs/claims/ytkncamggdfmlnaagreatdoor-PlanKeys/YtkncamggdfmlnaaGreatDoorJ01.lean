/-
  6 texts of this proof in one, in build order: TMath, TKeepMath, Mem, Row, TMem, TMath2.
-/
import Derived.WalkKit
import Derived.WalkSpells
import Derived.Lib.Strings
import Derived.Lib.Walk
import Derived.Sort.Walk0
import Derived.Laws.AppendOwn
namespace Go.Proofs.YtkncamggdfmlnaaGreatDoor

/-- Is a key ahead of another one? -/
def klt (a b : ByteArray) : Bool := Op.bytesLess a.toList b.toList

theorem klt_iff (a b : ByteArray) : klt a b = true ↔ a.data.toList < b.data.toList := by
  unfold klt
  rw [Go.Proofs.bytesLess_eq, Lib.toList_data, Lib.toList_data]
  exact decide_eq_true_iff

theorem klt_irrefl (a : ByteArray) : klt a a = false := by
  cases h : klt a a with
  | false => rfl
  | true => exact absurd ((klt_iff a a).1 h) (List.lt_irrefl _)

theorem klt_trans {a b c : ByteArray} (h : klt a b = true) (k : klt b c = true) : klt a c = true :=
  (klt_iff _ _).2 (List.lt_trans ((klt_iff _ _).1 h) ((klt_iff _ _).1 k))

theorem klt_asymm {a b : ByteArray} (h : klt a b = true) : klt b a = false := by
  cases k : klt b a with
  | false => rfl
  | true => have := klt_trans h k; rw [klt_irrefl] at this; cases this

theorem bytes_ext {a b : ByteArray} (h : a.data.toList = b.data.toList) : a = b := by
  cases a with
  | mk x => cases b with
    | mk y => exact congrArg ByteArray.mk (Array.toList_inj.1 h)

theorem klt_tri {a b : ByteArray} (h : klt a b = false) : a = b ∨ klt b a = true := by
  by_cases e : a = b
  · exact .inl e
  · right
    have h' : ¬ a.data.toList < b.data.toList := fun k => by rw [(klt_iff a b).2 k] at h; cases h
    rw [klt_iff]
    rcases Decidable.em (b.data.toList < a.data.toList) with g | g
    · exact g
    · exact absurd (bytes_ext (List.le_antisymm (show a.data.toList ≤ b.data.toList from g) h')) e

theorem klt_ne {a b : ByteArray} (h : klt a b = true) : a ≠ b := by
  rintro rfl; rw [klt_irrefl] at h; cases h

/-- x ≤ y < z. -/
theorem klt_of_le_lt {a b c : ByteArray} (h : klt b a = false) (k : klt b c = true) : klt a c = true := by
  rcases klt_tri h with rfl | h
  · exact k
  · exact klt_trans h k

theorem klt_of_lt_le {a b c : ByteArray} (h : klt a b = true) (k : klt c b = false) : klt a c = true := by
  rcases klt_tri k with rfl | k
  · exact h
  · exact klt_trans h k

/-- A page. -/
structure Pg where
  K : List ByteArray
  V : List ByteArray

def pg0 : Pg := ⟨[], []⟩

def Pg.ok (p : Pg) : Prop := 1 ≤ p.K.length ∧ p.K.length ≤ 4 ∧ p.V.length = p.K.length
abbrev Rise (l : List ByteArray) : Prop := l.Pairwise (fun a b => klt a b = true)
def keysT (T : List Pg) : List ByteArray := T.flatMap Pg.K
def flat (T : List Pg) : List (ByteArray × ByteArray) := T.flatMap fun p => p.K.zip p.V
def GoodT (T : List Pg) : Prop := (∀ p ∈ T, p.ok) ∧ Rise (keysT T)

theorem keysT_cons (p : Pg) (T : List Pg) : keysT (p :: T) = p.K ++ keysT T := by simp [keysT]
theorem keysT_append (A B : List Pg) : keysT (A ++ B) = keysT A ++ keysT B := by simp [keysT]
theorem flat_cons (p : Pg) (T : List Pg) : flat (p :: T) = p.K.zip p.V ++ flat T := by simp [flat]
theorem flat_append (A B : List Pg) : flat (A ++ B) = flat A ++ flat B := by simp [flat]
theorem flat_nil : flat [] = [] := rfl

theorem zip_keys {K V : List ByteArray} (h : V.length = K.length) : (K.zip V).map Prod.fst = K := by
  rw [List.map_fst_zip (by omega)]

theorem keys_flat : ∀ {T : List Pg}, (∀ p ∈ T, p.ok) → (flat T).map Prod.fst = keysT T
  | [], _ => rfl
  | p :: T, h => by
    rw [flat_cons, keysT_cons, List.map_append, zip_keys (h p (by simp)).2.2, keys_flat fun q hq => h q (by simp [hq])]

theorem length_flat : ∀ {T : List Pg}, (∀ p ∈ T, p.ok) → (flat T).length = (keysT T).length := by
  intro T h
  rw [← keys_flat h, List.length_map]

theorem length_keys : ∀ {T : List Pg}, (∀ p ∈ T, p.ok) → (keysT T).length ≤ 4 * T.length
  | [], _ => by simp [keysT]
  | p :: T, h => by
    have := length_keys fun q hq => h q (List.mem_cons_of_mem _ hq)
    have := (h p (by simp)).2.1
    rw [keysT_cons, List.length_append, List.length_cons]
    omega

/-- What stands at a key: F is F1, perhaps the key, and F2. -/
structure Cut (F : List (ByteArray × ByteArray)) (k : ByteArray) (F1 : List (ByteArray × ByteArray)) (o : Option ByteArray) (F2 : List (ByteArray × ByteArray)) : Prop where
  eq : F = F1 ++ ((o.toList.map fun v => (k, v)) ++ F2)
  lo : ∀ x ∈ F1, klt x.1 k = true
  hi : ∀ x ∈ F2, klt k x.1 = true

def getF (F : List (ByteArray × ByteArray)) (k : ByteArray) : Option ByteArray := (F.find? fun x => decide (x.1 = k)).map Prod.snd
def putF (F : List (ByteArray × ByteArray)) (k v : ByteArray) : List (ByteArray × ByteArray) := (F.filter fun x => klt x.1 k) ++ (k, v) :: (F.filter fun x => klt k x.1)
def dropF (F : List (ByteArray × ByteArray)) (k : ByteArray) : List (ByteArray × ByteArray) := F.filter fun x => decide (x.1 ≠ k)

theorem filter_all {α : Type} {p : α → Bool} {l : List α} (h : ∀ x ∈ l, p x = true) : l.filter p = l := List.filter_eq_self.2 h
theorem filter_none {α : Type} {p : α → Bool} {l : List α} (h : ∀ x ∈ l, p x = false) : l.filter p = [] := by
  rw [List.filter_eq_nil_iff]; intro x hx; rw [h x hx]; simp

theorem Cut.get {F k F1 o F2} (c : Cut F k F1 o F2) : getF F k = o := by
  have h1 : F1.find? (fun x => decide (x.1 = k)) = none := by
    rw [List.find?_eq_none]; intro x hx; simpa using klt_ne (c.lo x hx)
  have h2 : F2.find? (fun x => decide (x.1 = k)) = none := by
    rw [List.find?_eq_none]; intro x hx; simpa using (klt_ne (c.hi x hx)).symm
  unfold getF
  rw [c.eq, List.find?_append, h1]
  cases o with
  | none => simp [h2]
  | some v => simp

theorem Cut.put {F k F1 o F2} (c : Cut F k F1 o F2) (v : ByteArray) : putF F k v = F1 ++ (k, v) :: F2 := by
  unfold putF
  rw [c.eq, List.filter_append, List.filter_append, List.filter_append, List.filter_append, filter_all c.lo, filter_none (l := F2) fun x hx => klt_asymm (c.hi x hx),
    filter_none (l := F1) fun x hx => klt_asymm (c.lo x hx), filter_all c.hi]
  have : ∀ q : (ByteArray × ByteArray) → Bool, (∀ v, q (k, v) = false) → (o.toList.map fun v => (k, v)).filter q = [] := by
    intro q hq; apply filter_none; intro x hx; simp at hx; obtain ⟨v, _, rfl⟩ := hx; exact hq v
  rw [this _ fun v => klt_irrefl k, this _ fun v => klt_irrefl k]
  simp

theorem Cut.drop {F k F1 o F2} (c : Cut F k F1 o F2) : dropF F k = F1 ++ F2 := by
  unfold dropF
  rw [c.eq, List.filter_append, List.filter_append, filter_all fun x hx => by simpa using klt_ne (c.lo x hx), filter_all (l := F2) fun x hx => by simpa using (klt_ne (c.hi x hx)).symm]
  have : (o.toList.map fun v => (k, v)).filter (fun x => decide (x.1 ≠ k)) = [] := by
    apply filter_none; intro x hx; simp at hx; obtain ⟨v, _, rfl⟩ := hx; simp
  rw [this]; simp

/-- A list that rises is cut at each key. -/
theorem cut_of_rise (F : List (ByteArray × ByteArray)) (h : Rise (F.map Prod.fst)) (k : ByteArray) : ∃ F1 o F2, Cut F k F1 o F2 := by
  induction F with
  | nil => exact ⟨[], none, [], rfl, by simp, by simp⟩
  | cons x F ih =>
    rw [List.map_cons, Rise, List.pairwise_cons] at h
    by_cases h1 : klt x.1 k = true
    · obtain ⟨F1, o, F2, c⟩ := ih h.2
      exact ⟨x :: F1, o, F2, by rw [c.eq]; rfl, by intro y hy; rcases List.mem_cons.1 hy with rfl | hy; exact h1; exact c.lo y hy, c.hi⟩
    · have hall : ∀ y ∈ F, klt x.1 y.1 = true := fun y hy => h.1 _ (List.mem_map.2 ⟨y, hy, rfl⟩)
      rcases klt_tri (by simpa using h1) with e | h2
      · exact ⟨[], some x.2, F, by rw [← e]; simp, by simp, fun y hy => by rw [← e]; exact hall y hy⟩
      · exact ⟨[], none, x :: F, by simp, by simp, fun y hy => by
          rcases List.mem_cons.1 hy with rfl | hy
          · exact h2
          · exact klt_trans h2 (hall y hy)⟩

theorem rise_append {A B : List ByteArray} : Rise (A ++ B) ↔ Rise A ∧ Rise B ∧ ∀ a ∈ A, ∀ b ∈ B, klt a b = true := List.pairwise_append

theorem Cut.rise_put {F k F1 o F2} (c : Cut F k F1 o F2) (h : Rise (F.map Prod.fst)) (v : ByteArray) : Rise ((F1 ++ (k, v) :: F2).map Prod.fst) := by
  rw [c.eq] at h
  simp only [List.map_append, List.map_cons] at h ⊢
  rw [rise_append] at h ⊢
  obtain ⟨h1, h2, h3⟩ := h
  rw [rise_append] at h2
  refine ⟨h1, ?_, ?_⟩
  · rw [Rise, List.pairwise_cons]
    refine ⟨?_, h2.2.1⟩
    intro a ha; obtain ⟨x, hx, rfl⟩ := List.mem_map.1 ha; exact c.hi x hx
  · intro a ha b hb
    rcases List.mem_cons.1 hb with rfl | hb
    · obtain ⟨x, hx, rfl⟩ := List.mem_map.1 ha; exact c.lo x hx
    · exact h3 a ha b (by simp at hb ⊢; exact .inr hb)

theorem Cut.rise_drop {F k F1 o F2} (c : Cut F k F1 o F2) (h : Rise (F.map Prod.fst)) : Rise ((F1 ++ F2).map Prod.fst) := by
  refine List.Pairwise.sublist ?_ h
  rw [c.eq]
  exact (List.Sublist.append_left (List.sublist_append_right _ _) F1).map _

/-- What is told of a changed tree, out of its pages and what it has. -/
theorem good_of_flat {T : List Pg} (h : ∀ p ∈ T, p.ok) (k : Rise ((flat T).map Prod.fst)) : GoodT T := ⟨h, by rw [← keys_flat h]; exact k⟩

theorem GoodT.rise {T : List Pg} (h : GoodT T) : Rise ((flat T).map Prod.fst) := by rw [keys_flat h.1]; exact h.2

theorem GoodT.part {A B : List Pg} (h : GoodT (A ++ B)) : GoodT A ∧ GoodT B := by
  obtain ⟨h1, h2⟩ := h
  rw [keysT_append, rise_append] at h2
  exact ⟨⟨fun p hp => h1 p (by simp [hp]), h2.1⟩, ⟨fun p hp => h1 p (by simp [hp]), h2.2.1⟩⟩

/-- A list that rises, parted at a key. -/
theorem split_rise (l : List ByteArray) (h : Rise l) (k : ByteArray) : ∃ a b, l = a ++ b ∧ (∀ x ∈ a, klt x k = true) ∧ (∀ x ∈ b, klt x k = false) := by
  induction l with
  | nil => exact ⟨[], [], rfl, by simp, by simp⟩
  | cons x l ih =>
    rw [Rise, List.pairwise_cons] at h
    cases h1 : klt x k with
    | true =>
      obtain ⟨a, b, rfl, ha, hb⟩ := ih h.2
      exact ⟨x :: a, b, rfl, by intro y hy; rcases List.mem_cons.1 hy with rfl | hy; exact h1; exact ha y hy, hb⟩
    | false =>
      refine ⟨[], x :: l, rfl, by simp, ?_⟩
      intro y hy
      rcases List.mem_cons.1 hy with rfl | hy
      · exact h1
      · cases h2 : klt y k with
        | false => rfl
        | true => have := klt_trans (h.1 y hy) h2; rw [h1] at this; cases this

def lastK (p : Pg) : ByteArray := p.K.getLastD ByteArray.empty

theorem lastK_mem {p : Pg} (h : p.ok) : lastK p ∈ p.K := by
  obtain ⟨h1, _⟩ := h
  unfold lastK
  cases hk : p.K with
  | nil => rw [hk] at h1; simp at h1
  | cons a l => rw [List.getLastD_cons]; exact List.getLastD_mem_cons

/-- The key behind all others of a page. -/
theorem lastK_max {p : Pg} (hr : Rise p.K) {x : ByteArray} (hx : x ∈ p.K) : x = lastK p ∨ klt x (lastK p) = true := by
  obtain ⟨l, hl⟩ : ∃ l, p.K = l ++ [lastK p] := by
    unfold lastK
    cases hk : p.K with
    | nil => rw [hk] at hx; cases hx
    | cons a l => exact ⟨(a :: l).dropLast, by rw [← List.dropLast_concat_getLast (l := a :: l) (by simp)]; simp [List.getLastD_eq_getLast?, List.getLast?_eq_some_getLast]⟩
  rw [hl] at hx hr
  rcases List.mem_append.1 hx with h | h
  · exact .inr ((rise_append.1 hr).2.2 x h _ (by simp))
  · exact .inl (by simpa using h)

/-- Where a key stands, or could be put. -/
def Found (T : List Pg) (k : ByteArray) (pg pl : Nat) (th : Bool) : Prop :=
  (pg = T.length ∧ pl = 0 ∧ th = false ∧ ∀ x ∈ keysT T, klt x k = true) ∨
  ∃ A p B K1 y K3, T = A ++ p :: B ∧ p.K = K1 ++ y :: K3 ∧ pg = A.length ∧ pl = K1.length ∧ (∀ x ∈ keysT A, klt x k = true) ∧ (∀ x ∈ K1, klt x k = true) ∧ klt y k = false ∧ th = decide (y = k)

/-- The pages ahead of a key's. -/
theorem split_pages (T : List Pg) (h : GoodT T) (k : ByteArray) : ∃ A B, T = A ++ B ∧ T.countP (fun p => klt (lastK p) k) = A.length ∧ (∀ x ∈ keysT A, klt x k = true) ∧ (∀ p ∈ B, klt (lastK p) k = false) := by
  induction T with
  | nil => exact ⟨[], [], rfl, rfl, by simp [keysT], by simp⟩
  | cons p T ih =>
    obtain ⟨h1, h2⟩ := h
    rw [keysT_cons, rise_append] at h2
    obtain ⟨A, B, e, hc, ha, hb⟩ := ih ⟨fun q hq => h1 q (by simp [hq]), h2.2.1⟩
    cases hl : klt (lastK p) k with
    | true =>
      refine ⟨p :: A, B, by rw [e]; rfl, by rw [List.countP_cons, hc, hl]; simp, ?_, hb⟩
      intro x hx
      rw [keysT_cons] at hx
      rcases List.mem_append.1 hx with hx | hx
      · rcases lastK_max h2.1 hx with rfl | hx
        · exact hl
        · exact klt_trans hx hl
      · exact ha x hx
    | false =>
      have hall : ∀ q ∈ p :: T, klt (lastK q) k = false := by
        intro q hq
        rcases List.mem_cons.1 hq with rfl | hq
        · exact hl
        · cases h3 : klt (lastK q) k with
          | false => rfl
          | true =>
            have := h2.2.2 (lastK p) (lastK_mem (h1 p (by simp))) (lastK q) (List.mem_flatMap.2 ⟨q, hq, lastK_mem (h1 q (by simp [hq]))⟩)
            have := klt_trans this h3; rw [hl] at this; cases this
      refine ⟨[], p :: T, rfl, ?_, by simp [keysT], hall⟩
      rw [List.countP_eq_zero.2 (fun q hq => by rw [hall q hq]; simp)]; rfl

/-- What Found tells of what the tree has. -/
theorem Found.cut {T k pg pl th} (h : GoodT T) (f : Found T k pg pl th) : ∃ F1 o F2, Cut (flat T) k F1 o F2 ∧ (th = true ↔ o.isSome = true) := by
  obtain ⟨F1, o, F2, c⟩ := cut_of_rise (flat T) h.rise k
  refine ⟨F1, o, F2, c, ?_⟩
  have hk : k ∈ keysT T ↔ o.isSome = true := by
    rw [← keys_flat h.1, c.eq]
    constructor
    · intro hk
      cases o with
      | some v => rfl
      | none =>
        simp at hk
        rcases hk with ⟨x, hx⟩ | ⟨x, hx⟩
        · exact absurd rfl (klt_ne (c.lo _ hx))
        · exact absurd rfl (klt_ne (c.hi _ hx))
    · intro ho
      obtain ⟨v, rfl⟩ := Option.isSome_iff_exists.1 ho
      simp
  rw [← hk]
  rcases f with ⟨_, _, rfl, hlt⟩ | ⟨A, p, B, K1, y, K3, rfl, hp, _, _, hA, hK, hy, rfl⟩
  · constructor
    · intro h; cases h
    · intro h; exact absurd rfl (klt_ne (hlt _ h))
  · have hr := h.2
    rw [keysT_append, keysT_cons, hp] at hr ⊢
    constructor
    · intro h; have := of_decide_eq_true h; subst this; simp
    · intro hm
      refine decide_eq_true ?_
      rcases List.mem_append.1 hm with hm | hm
      · exact absurd rfl (klt_ne (hA _ hm))
      · rw [List.append_assoc] at hm
        rcases List.mem_append.1 hm with hm | hm
        · exact absurd rfl (klt_ne (hK _ hm))
        · rcases List.mem_cons.1 hm with hm | hm
          · exact hm.symm
          · have hr' := (rise_append.1 hr).2.1
            rw [List.append_assoc] at hr'
            have hr2 := (rise_append.1 hr').2.1
            rw [Rise, List.cons_append, List.pairwise_cons] at hr2
            have := hr2.1 k hm
            rw [hy] at this; cases this

end Go.Proofs.YtkncamggdfmlnaaGreatDoor

namespace Go.Proofs.YtkncamggdfmlnaaGreatDoor

theorem Cut.get_put {F k F1 o F2} (c : Cut F k F1 o F2) (v : ByteArray) : getF (putF F k v) k = some v := by
  have : Cut (putF F k v) k F1 (some v) F2 := ⟨by rw [c.put]; simp, c.lo, c.hi⟩
  exact this.get

theorem Cut.get_drop {F k F1 o F2} (c : Cut F k F1 o F2) : getF (dropF F k) k = none := by
  have : Cut (dropF F k) k F1 none F2 := ⟨by rw [c.drop]; simp, c.lo, c.hi⟩
  exact this.get

theorem getF_skip {F1 F2 X : List (ByteArray × ByteArray)} {k z : ByteArray} (hX : ∀ x ∈ X, x.1 = k) (hz : z ≠ k) : getF (F1 ++ (X ++ F2)) z = getF (F1 ++ F2) z := by
  have h : X.find? (fun x => decide (x.1 = z)) = none := by
    rw [List.find?_eq_none]; intro x hx; rw [hX x hx]; simpa using fun e => hz e.symm
  unfold getF
  rw [List.find?_append, List.find?_append, List.find?_append, h]
  simp

theorem Cut.get_put_other {F k F1 o F2} (c : Cut F k F1 o F2) (v : ByteArray) {z : ByteArray} (hz : z ≠ k) : getF (putF F k v) z = getF F z := by
  rw [c.put, show F1 ++ (k, v) :: F2 = F1 ++ ([(k, v)] ++ F2) by simp, getF_skip (k := k) (by simp) hz, c.eq, getF_skip (k := k) (by simp) hz]

theorem Cut.get_drop_other {F k F1 o F2} (c : Cut F k F1 o F2) {z : ByteArray} (hz : z ≠ k) : getF (dropF F k) z = getF F z := by
  rw [c.drop, c.eq, getF_skip (k := k) (by simp) hz]

theorem Cut.length_some {F k F1 v F2} (c : Cut F k F1 (some v) F2) (u : ByteArray) : (putF F k u).length = F.length ∧ (dropF F k).length + 1 = F.length := by
  rw [c.put, c.drop, c.eq]; simp; omega

theorem Cut.length_none {F k F1 F2} (c : Cut F k F1 none F2) (u : ByteArray) : (putF F k u).length = F.length + 1 ∧ (dropF F k).length = F.length := by
  rw [c.put, c.drop, c.eq]; simp; omega

end Go.Proofs.YtkncamggdfmlnaaGreatDoor

namespace Go.Proofs.YtkncamggdfmlnaaGreatDoor
open Go.RowKit

theorem cell_of_block {w : World} {b : Nat} {arr : Array Value} {t : TypeId} {fr : Nat × Nat} (h : w.heap[b]? = some (.cells arr t fr)) {j : Nat} {u : Value} (hj : arr[j]? = some u) : w.cell? ⟨b, j, none⟩ = some u := by
  simp [World.cell?, h, hj]

theorem own_ne {w : World} {base : Nat} {e : TypeId} {size : Nat} {v : Value} {n : Nat} {xs : List Value} (hown : w.ownsRow base e size v n xs) {b : Nat} {arr : Array Value} {t : TypeId} {fr : Nat × Nat}
    (hb : w.heap[b]? = some (.cells arr t fr)) (hne : t ≠ e) : some b ≠ v.ownBlock := by
  intro hh
  rcases hown.2 with ⟨h2, _⟩ | ⟨g, cap, cur, hv, _, hg, _⟩
  · rw [h2] at hh; simp [Value.ownBlock] at hh
  · rw [hv] at hh
    simp [Value.ownBlock] at hh
    subst hh
    rw [hg] at hb
    simp at hb
    exact hne hb.2.1.symm

theorem block_alloc_at (w : World) (o : Obj) : (w.alloc o).heap[w.heap.size]? = some o := by
  show (w.heap.push o)[w.heap.size]? = _
  simp

theorem block_alloc_of {w : World} {b : Nat} {x : Obj} (h : w.heap[b]? = some x) (o : Obj) : (w.alloc o).heap[b]? = some x := by
  have := lt_of_block h
  rw [Below.heap_alloc _ _ _ this]; exact h

theorem block_grown {w w' : World} {row : Option Nat} (hg : w.grownBy w' row) {b : Nat} {x : Obj} (h : w.heap[b]? = some x) (hne : some b ≠ row) : w'.heap[b]? = some x := by
  rw [hg.block b (lt_of_block h) hne]; exact h

theorem cells_new (w : World) (l : List Value) (t : TypeId) : ∀ j u, l[j]? = some u → (w.alloc (.cells l.toArray t)).cell? ((⟨w.heap.size, 0, none⟩ : Addr).add j) = some u := by
  intro j u hj
  rw [Addr.add_lit]
  simp only [Nat.zero_add]
  exact cell_of_block (block_alloc_at w _) (by simpa using hj)

/-- An append to what is owned: below 'base' nothing turns. -/
theorem below_append {w w' : World} {base : Nat} {e : TypeId} {size : Nat} {v : Value} {n : Nat} {xs : List Value} (hown : w.ownsRow base e size v n xs) (hb : base ≤ w.heap.size) (hg : w.grownBy w' v.ownBlock) : Below base w w' :=
  (Below.refl _ _).grown hg hb fun k hk => (hown.lt k hk).1

theorem bcell {W w1 : World} (hb : Below W.heap.size W w1) : (∀ b o, b < W.heap.size → w1.cell? ⟨b, o, none⟩ = W.cell? ⟨b, o, none⟩) ∧ (∀ b o, b < W.heap.size → w1.frozen? ⟨b, o, none⟩ = W.frozen? ⟨b, o, none⟩) :=
  ⟨fun b o h => hb.cell (p := ⟨b, o, none⟩) h, fun b o h => hb.frozen (p := ⟨b, o, none⟩) h⟩

/-- What is owned stays owned while nothing old turns. -/
theorem ownsRow_below {w w' : World} {base : Nat} {e : TypeId} {size : Nat} {v : Value} {n : Nat} {xs : List Value} (h : w.ownsRow base e size v n xs) (hb : Below w.heap.size w w') : w'.ownsRow base e size v n xs := by
  obtain ⟨h1, h2⟩ := h
  refine ⟨h1, ?_⟩
  rcases h2 with h2 | ⟨g, cap, cur, hv, hg, hh, r⟩
  · exact Or.inl h2
  · exact Or.inr ⟨g, cap, cur, hv, hg, by rw [hb.block g (lt_of_block hh)]; exact hh, r⟩

/-- One call behind another. -/
theorem bthen {w a b : World} (h : Below w.heap.size w a) (k : Below a.heap.size a b) : Below w.heap.size w b := h.trans (k.mono h.size)

end Go.Proofs.YtkncamggdfmlnaaGreatDoor

namespace Go.Proofs.YtkncamggdfmlnaaGreatDoor
open Go.RowKit

/-- The slice sv has n elements of 'size' cells; its cells are cs. -/
def IsRow (size : Nat) (w : World) (sv : Value) (n : Nat) (cs : List Value) : Prop :=
  cs.length = n * size ∧
  ((n = 0 ∧ ∃ ao cap, sv = .slice ao 0 cap ∧ (ao = none → cap = 0)) ∨
   (0 < n ∧ ∃ b off cap, sv = .slice (some ⟨b, off, none⟩) n cap ∧ b < w.heap.size ∧ n ≤ cap ∧ cap ≤ maxLen ∧ ∀ j u, cs[j]? = some u → w.cell? ⟨b, off + j, none⟩ = some u))

theorem IsRow.keep {size : Nat} {w w' : World} {B : Nat} {sv : Value} {n : Nat} {cs : List Value} (h : IsRow size w sv n cs) (hb : Below B w w') (hB : w.heap.size ≤ B) : IsRow size w' sv n cs := by
  obtain ⟨h1, h2⟩ := h
  refine ⟨h1, ?_⟩
  rcases h2 with h2 | ⟨h0, b, off, cap, rfl, hlt, hc, hm, hcell⟩
  · exact .inl h2
  · exact .inr ⟨h0, b, off, cap, rfl, Nat.lt_of_lt_of_le hlt (hb.size), hc, hm, fun j u hj => by rw [hb.cell (p := ⟨b, off + j, none⟩) (Nat.lt_of_lt_of_le hlt hB)]; exact hcell j u hj⟩

theorem IsRow.below {size : Nat} {w w' : World} {sv : Value} {n : Nat} {cs : List Value} (h : IsRow size w sv n cs) (hb : Below w.heap.size w w') : IsRow size w' sv n cs := h.keep hb (Nat.le_refl _)

theorem IsRow.shape {size : Nat} {w : World} {sv : Value} {n : Nat} {cs : List Value} (h : IsRow size w sv n cs) : ∃ ao cap, sv = .slice ao n cap := by
  rcases h.2 with ⟨rfl, ao, cap, rfl, _⟩ | ⟨_, b, off, cap, rfl, _⟩
  · exact ⟨ao, cap, rfl⟩
  · exact ⟨_, cap, rfl⟩

theorem IsRow.nil (size : Nat) (w : World) : IsRow size w (.slice none 0 0) 0 [] := ⟨by simp, .inl ⟨rfl, none, 0, rfl, fun _ => rfl⟩⟩

theorem IsRow.of_own {size : Nat} {w : World} {base : Nat} {e : TypeId} {v : Value} {n : Nat} {cs : List Value} (h : w.ownsRow base e size v n cs) : IsRow size w v n cs := by
  refine ⟨h.1, ?_⟩
  rcases h.2 with ⟨rfl, rfl⟩ | ⟨g, cap, cur, rfl, hg, hh, hn, hm, _⟩
  · exact .inl ⟨rfl, none, 0, rfl, fun _ => rfl⟩
  · rcases Nat.eq_zero_or_pos n with rfl | h0
    · exact .inl ⟨rfl, _, cap, rfl, fun h => by cases h⟩
    · refine .inr ⟨h0, g, 0, cap, rfl, lt_of_block hh, hn, hm, fun j u hj => ?_⟩
      have := h.cells (g := g) rfl j u hj
      rwa [Addr.add_lit] at this

/-- A list of texts. -/
def IsStrs (w : World) (sv : Value) (L : List ByteArray) : Prop := IsRow 1 w sv L.length (L.map .string)

theorem IsStrs.below {w w' : World} {sv : Value} {L : List ByteArray} (h : IsStrs w sv L) (hb : Below w.heap.size w w') : IsStrs w' sv L := IsRow.below h hb
theorem IsStrs.keep {w w' : World} {B : Nat} {sv : Value} {L : List ByteArray} (h : IsStrs w sv L) (hb : Below B w w') (hB : w.heap.size ≤ B) : IsStrs w' sv L := IsRow.keep h hb hB

theorem IsStrs.at {w : World} {sv : Value} {L : List ByteArray} (h : IsStrs w sv L) (h0 : 0 < L.length) : ∃ b off cap, sv = .slice (some ⟨b, off, none⟩) L.length cap ∧ b < w.heap.size ∧ L.length ≤ cap ∧ cap ≤ maxLen ∧ ∀ i s, L[i]? = some s → w.cell? ⟨b, off + i, none⟩ = some (.string s) := by
  rcases h.2 with ⟨h1, _⟩ | ⟨_, b, off, cap, rfl, hb, hc, hm, hcell⟩
  · omega
  · exact ⟨b, off, cap, rfl, hb, hc, hm, fun i s hi => hcell i _ (by rw [List.getElem?_map, hi]; rfl)⟩

end Go.Proofs.YtkncamggdfmlnaaGreatDoor

namespace Go.Proofs.YtkncamggdfmlnaaGreatDoor
open Go.RowKit

def pcells (rows : List (Value × Value)) : List Value := rows.flatMap fun r => [r.1, r.2]

theorem pcells_length : ∀ rows : List (Value × Value), (pcells rows).length = rows.length * 2
  | [] => rfl
  | r :: rows => by
    have := pcells_length rows
    simp only [pcells, List.flatMap_cons, List.length_append, List.length_cons, List.length_nil] at this ⊢
    omega
theorem pcells_append (a b : List (Value × Value)) : pcells (a ++ b) = pcells a ++ pcells b := by simp [pcells]

theorem pcells_at : ∀ (rows : List (Value × Value)) (i : Nat) (r : Value × Value), rows[i]? = some r → (pcells rows)[i * 2]? = some r.1 ∧ (pcells rows)[i * 2 + 1]? = some r.2
  | x :: rows, 0, r, h => by
    simp at h; subst h
    simp [pcells]
  | x :: rows, i + 1, r, h => by
    have := pcells_at rows i r (by simpa using h)
    have e : pcells (x :: rows) = x.1 :: x.2 :: pcells rows := by simp [pcells]
    rw [e, show (i + 1) * 2 = i * 2 + 1 + 1 from by omega]
    exact this

/-- Pages, each by its two slices. -/
def Pgs (w : World) : List (Value × Value) → List Pg → Prop
  | [], [] => True
  | r :: rs, p :: ps => IsStrs w r.1 p.K ∧ IsStrs w r.2 p.V ∧ Pgs w rs ps
  | _, _ => False

theorem Pgs.length {w : World} : ∀ {rs : List (Value × Value)} {T : List Pg}, Pgs w rs T → rs.length = T.length
  | [], [], _ => rfl
  | _ :: _, _ :: _, h => by rw [List.length_cons, List.length_cons, Pgs.length h.2.2]

theorem Pgs.keep {w w' : World} {B : Nat} (hb : Below B w w') (hB : w.heap.size ≤ B) : ∀ {rs : List (Value × Value)} {T : List Pg}, Pgs w rs T → Pgs w' rs T
  | [], [], _ => trivial
  | _ :: _, _ :: _, h => ⟨h.1.keep hb hB, h.2.1.keep hb hB, Pgs.keep hb hB h.2.2⟩

theorem Pgs.append {w : World} : ∀ {rs rs' : List (Value × Value)} {T T' : List Pg}, Pgs w rs T → Pgs w rs' T' → Pgs w (rs ++ rs') (T ++ T')
  | [], _, [], _, _, h => h
  | _ :: _, _, _ :: _, _, h, k => ⟨h.1, h.2.1, Pgs.append h.2.2 k⟩

theorem Pgs.part {w : World} : ∀ {rs : List (Value × Value)} {A B : List Pg}, Pgs w rs (A ++ B) → Pgs w (rs.take A.length) A ∧ Pgs w (rs.drop A.length) B
  | rs, [], B, h => ⟨by rw [List.length_nil, List.take_zero]; trivial, by simpa using h⟩
  | r :: rs, p :: A, B, h => by
    have := Pgs.part (A := A) h.2.2
    exact ⟨⟨h.1, h.2.1, this.1⟩, this.2⟩

theorem Pgs.at {w : World} : ∀ {rs : List (Value × Value)} {T : List Pg}, Pgs w rs T → ∀ {i : Nat} {p : Pg}, T[i]? = some p → ∃ r, rs[i]? = some r ∧ IsStrs w r.1 p.K ∧ IsStrs w r.2 p.V
  | [], [], _, i, p, hi => by simp at hi
  | r :: _, _ :: _, h, 0, p, hi => by simp at hi; subst hi; exact ⟨r, rfl, h.1, h.2.1⟩
  | _ :: _, _ :: _, h, i + 1, p, hi => by
    obtain ⟨r, h1, h2⟩ := Pgs.at h.2.2 (i := i) (by simpa using hi)
    exact ⟨r, by simpa using h1, h2⟩

/-- A slice of pages. -/
def IsPages (w : World) (sv : Value) (T : List Pg) : Prop := ∃ rows, IsRow 2 w sv T.length (pcells rows) ∧ Pgs w rows T
def IsTree (w : World) (tv : Value) (T : List Pg) : Prop := ∃ sv, tv = .agg #[sv] ∧ IsPages w sv T

theorem IsPages.keep {w w' : World} {B : Nat} {sv : Value} {T : List Pg} (h : IsPages w sv T) (hb : Below B w w') (hB : w.heap.size ≤ B) : IsPages w' sv T := by
  obtain ⟨rows, h1, h2⟩ := h
  exact ⟨rows, h1.keep hb hB, Pgs.keep hb hB h2⟩
theorem IsPages.below {w w' : World} {sv : Value} {T : List Pg} (h : IsPages w sv T) (hb : Below w.heap.size w w') : IsPages w' sv T := h.keep hb (Nat.le_refl _)
theorem IsTree.keep {w w' : World} {B : Nat} {tv : Value} {T : List Pg} (h : IsTree w tv T) (hb : Below B w w') (hB : w.heap.size ≤ B) : IsTree w' tv T := by
  obtain ⟨sv, rfl, h⟩ := h
  exact ⟨sv, rfl, h.keep hb hB⟩
theorem IsTree.below {w w' : World} {tv : Value} {T : List Pg} (h : IsTree w tv T) (hb : Below w.heap.size w w') : IsTree w' tv T := h.keep hb (Nat.le_refl _)

/-- The pages' cells. -/
def HoldsP (w : World) (b off : Nat) (T : List Pg) : Prop := ∀ i p, T[i]? = some p → ∃ kv vv, w.cell? ⟨b, off + i * 2, none⟩ = some kv ∧ w.cell? ⟨b, off + i * 2 + 1, none⟩ = some vv ∧ IsStrs w kv p.K ∧ IsStrs w vv p.V

theorem HoldsP.below {w w' : World} {b off : Nat} {T : List Pg} (h : HoldsP w b off T) (hb : Below w.heap.size w w') (hlt : b < w.heap.size) : HoldsP w' b off T := by
  intro i p hi
  obtain ⟨kv, vv, h1, h2, h3, h4⟩ := h i p hi
  exact ⟨kv, vv, by rw [hb.cell (p := ⟨b, off + i * 2, none⟩) hlt]; exact h1, by rw [hb.cell (p := ⟨b, off + i * 2 + 1, none⟩) hlt]; exact h2, h3.below hb, h4.below hb⟩

theorem IsPages.at {w : World} {sv : Value} {T : List Pg} (h : IsPages w sv T) (h0 : 0 < T.length) : ∃ b off cap, sv = .slice (some ⟨b, off, none⟩) T.length cap ∧ b < w.heap.size ∧ T.length ≤ cap ∧ cap ≤ maxLen ∧ HoldsP w b off T := by
  obtain ⟨rows, h1, h2⟩ := h
  rcases h1.2 with ⟨h3, _⟩ | ⟨_, b, off, cap, rfl, hb, hc, hm, hcell⟩
  · omega
  · refine ⟨b, off, cap, rfl, hb, hc, hm, fun i p hi => ?_⟩
    obtain ⟨r, hr, hk, hv⟩ := h2.at hi
    obtain ⟨c1, c2⟩ := pcells_at rows i r hr
    exact ⟨r.1, r.2, hcell _ _ c1, by rw [Nat.add_assoc]; exact hcell _ _ c2, hk, hv⟩

theorem IsPages.empty {w : World} {sv : Value} {T : List Pg} (h : IsPages w sv T) (h0 : T.length = 0) : ∃ ao cap, sv = .slice ao 0 cap ∧ (ao = none → cap = 0) := by
  obtain ⟨rows, h1, h2⟩ := h
  rcases h1.2 with ⟨_, ao, cap, rfl, hc⟩ | ⟨h3, _⟩
  · exact ⟨ao, cap, rfl, hc⟩
  · omega

theorem IsPages.nil (w : World) : IsPages w (.slice none 0 0) [] := ⟨[], IsRow.nil 2 w, trivial⟩

/-- A truth is told. -/
def SaysB (e : Ending) (p : Prop) : Prop := ∃ r, e = .returned (.bool r) ∧ (r = true ↔ p)
theorem says_true {p : Prop} (h : p) : SaysB (.returned (.bool true)) p := ⟨true, rfl, fun _ => h, fun _ => rfl⟩
theorem says_false {p : Prop} (h : ¬ p) : SaysB (.returned (.bool false)) p := ⟨false, rfl, fun x => (by cases x), fun x => absurd x h⟩

theorem SaysB.yes {e : Ending} {p : Prop} (h : SaysB e p) (k : p) : e = .returned (.bool true) := by
  obtain ⟨r, rfl, hr⟩ := h
  rw [hr.2 k]
theorem SaysB.no {e : Ending} {p : Prop} (h : SaysB e p) (k : ¬ p) : e = .returned (.bool false) := by
  obtain ⟨r, rfl, hr⟩ := h
  cases r with
  | false => rfl
  | true => exact absurd (hr.1 rfl) k

theorem hid {p : Prop} (h : p) : Hid p := h

theorem below_drew {B : Nat} {w w' : World} (h : Below B w w') : Below B w w'.drew := h.drew

end Go.Proofs.YtkncamggdfmlnaaGreatDoor

namespace Go.Proofs.YtkncamggdfmlnaaGreatDoor

theorem rise_snoc {l : List ByteArray} {a b : ByteArray} (h : Rise (l ++ [a])) (k : klt a b = true) : Rise (l ++ [a] ++ [b]) := by
  rw [rise_append]
  refine ⟨h, by simp [Rise], ?_⟩
  intro x hx y hy
  obtain rfl : y = b := by simpa using hy
  rcases List.mem_append.1 hx with hx | hx
  · exact klt_trans ((rise_append.1 h).2.2 x hx a (by simp)) k
  · obtain rfl : x = a := by simpa using hx
    exact k

theorem rise_take_step {K : List ByteArray} {k : Nat} {a b : ByteArray} (h : Rise (K.take (k + 1))) (ha : K[k]? = some a) (hb : K[k + 1]? = some b) (hab : klt a b = true) : Rise (K.take (k + 1 + 1)) := by
  rw [List.take_add_one, hb]
  rw [List.take_add_one, ha] at h ⊢
  exact rise_snoc h hab

theorem rise_at {K : List ByteArray} (h : Rise K) {k : Nat} {a b : ByteArray} (ha : K[k]? = some a) (hb : K[k + 1]? = some b) : klt a b = true := by
  obtain ⟨h1, rfl⟩ := List.getElem?_eq_some_iff.1 ha
  obtain ⟨h2, rfl⟩ := List.getElem?_eq_some_iff.1 hb
  exact List.pairwise_iff_getElem.1 h k (k + 1) h1 h2 (by omega)

def firstK (p : Pg) : ByteArray := p.K.headD ByteArray.empty

theorem firstK_mem {p : Pg} (h : p.ok) : firstK p ∈ p.K := by
  obtain ⟨h1, _⟩ := h
  unfold firstK
  cases hk : p.K with
  | nil => rw [hk] at h1; simp at h1
  | cons a l => simp

theorem firstK_min {p : Pg} (h : Rise p.K) {x : ByteArray} (hx : x ∈ p.K) : x = firstK p ∨ klt (firstK p) x = true := by
  unfold firstK
  cases hk : p.K with
  | nil => rw [hk] at hx; cases hx
  | cons a l =>
    rw [hk] at hx h
    rcases List.mem_cons.1 hx with rfl | hx
    · exact .inl rfl
    · exact .inr ((List.pairwise_cons.1 h).1 x hx)

theorem GoodT.take {T : List Pg} (h : GoodT T) (k : Nat) : GoodT (T.take k) := by
  rw [← List.take_append_drop k T] at h
  exact h.part.1

theorem GoodT.page {T : List Pg} (h : GoodT T) {k : Nat} {p : Pg} (hp : T[k]? = some p) : p.ok ∧ Rise p.K := by
  have hm := List.mem_of_getElem? hp
  refine ⟨h.1 p hm, ?_⟩
  obtain ⟨A, B, rfl⟩ := List.append_of_mem hm
  have := h.2
  rw [keysT_append, keysT_cons, rise_append] at this
  exact (rise_append.1 this.2.1).1

theorem split_two {T : List Pg} {k : Nat} {q p : Pg} (hq : T[k]? = some q) (hp : T[k + 1]? = some p) : T = T.take k ++ q :: p :: T.drop (k + 2) := by
  obtain ⟨h1, rfl⟩ := List.getElem?_eq_some_iff.1 hq
  obtain ⟨h2, rfl⟩ := List.getElem?_eq_some_iff.1 hp
  conv => lhs; rw [← List.take_append_drop k T]
  congr 1
  rw [List.drop_eq_getElem_cons h1, List.drop_eq_getElem_cons h2]

theorem GoodT.next {T : List Pg} (h : GoodT T) {k : Nat} {q p : Pg} (hq : T[k]? = some q) (hp : T[k + 1]? = some p) : klt (lastK q) (firstK p) = true := by
  have h1 := (h.page hq).1
  have h2 := (h.page hp).1
  rw [split_two hq hp] at h
  have := h.2
  rw [keysT_append, keysT_cons, keysT_cons, rise_append] at this
  exact (rise_append.1 this.2.1).2.2 _ (lastK_mem h1) _ (List.mem_append_left _ (firstK_mem h2))

theorem good_step {T : List Pg} {k : Nat} {p : Pg} (h : GoodT (T.take k)) (hp : T[k]? = some p) (h1 : p.ok) (h2 : Rise p.K) (h3 : k = 0 ∨ ∃ q, T[k - 1]? = some q ∧ klt (lastK q) (firstK p) = true) : GoodT (T.take (k + 1)) := by
  rw [List.take_add_one, hp]
  refine ⟨?_, ?_⟩
  · intro q hq
    rcases List.mem_append.1 hq with hq | hq
    · exact h.1 q hq
    · obtain rfl : q = p := by simpa using hq
      exact h1
  · rw [keysT_append, rise_append]
    refine ⟨h.2, by simpa [keysT] using h2, ?_⟩
    intro a ha b hb
    have hb' : b ∈ p.K := by simpa [keysT] using hb
    rcases h3 with rfl | ⟨q, hq, hlt⟩
    · simp [keysT] at ha
    · have hlt' : klt (lastK q) b = true := by
        rcases firstK_min h2 hb' with rfl | hx
        · exact hlt
        · exact klt_trans hlt hx
      have hk : k - 1 + 1 = k ∨ k = 0 := by omega
      rcases hk with hk | rfl
      · have e : T.take k = T.take (k - 1) ++ [q] := by rw [← hk, List.take_add_one]; simp only [Nat.add_sub_cancel]; rw [hq]; rfl
        rw [e, keysT_append] at ha
        have hg := h
        rw [e] at hg
        have hqr : Rise q.K := by simpa [keysT] using hg.part.2.2
        have hqo : q.ok := hg.1 q (by simp)
        rcases List.mem_append.1 ha with ha | ha
        · have := hg.2
          rw [keysT_append, rise_append] at this
          exact klt_trans (this.2.2 a ha (lastK q) (by simpa [keysT] using lastK_mem hqo)) hlt'
        · rcases lastK_max hqr (by simpa [keysT] using ha) with rfl | hx
          · exact hlt'
          · exact klt_trans hx hlt'
      · simp [keysT] at ha

theorem lastK_at {p : Pg} {m : Nat} (h : p.K.length = m + 1) : p.K[m]? = some (lastK p) := by
  unfold lastK
  rw [List.getLastD_eq_getLast?, List.getLast?_eq_getElem?, h]
  simp only [Nat.add_sub_cancel]
  cases hk : p.K[m]? with
  | none => rw [List.getElem?_eq_none_iff] at hk; omega
  | some x => rfl

theorem firstK_at {p : Pg} (h : 0 < p.K.length) : p.K[0]? = some (firstK p) := by
  unfold firstK
  cases hk : p.K with
  | nil => rw [hk] at h; simp at h
  | cons a l => rfl

end Go.Proofs.YtkncamggdfmlnaaGreatDoor


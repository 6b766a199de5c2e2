/-
  3 texts of this proof in one, in build order: WRow, WDel, YMap.
-/
import Derived.Laws.CopyRow
import Derived.Laws.CopyOwn
import Derived.Laws.IdiomCopy
import Derived.Deep.MidRow
import Derived.Deep.RegionLaw
import Derived.Lib.AppendZerosOnto
import Derived.Lib.Overlaps
import Derived.Lib.SliceRun
import Derived.Laws.Externs
import Derived.Maps.Own
import Derived.Maps.OwnOps
import Derived.Maps.Views
import Derived.StringKeys
import Derived.Test.YtabanbpnghidhaaJ01
namespace Go.Proofs.Ytabanbpnghidhaa
open Go.RowKit

theorem splice_nil {α : Type} (X : List α) (o : Nat) : splice X o [] = X := by simp [splice]
theorem splice_cons {α : Type} (X : List α) (o : Nat) (v : α) (cs : List α) (h : o < X.length) : splice (X.set o v) (o + 1) cs = splice X o (v :: cs) := by
  have h1 : (X.set o v).take (o + 1) = X.take o ++ [v] := by
    apply List.ext_getElem?
    intro i
    by_cases hi : i < o
    · rw [List.getElem?_take_of_lt (by omega), List.getElem?_set_ne (by omega), List.getElem?_append_left (by simp; omega), List.getElem?_take_of_lt hi]
    · by_cases hio : i = o
      · subst hio
        rw [List.getElem?_take_of_lt (by omega), List.getElem?_set_self h, List.getElem?_append_right (by simp; omega)]
        simp [Nat.min_eq_left (Nat.le_of_lt h)]
      · rw [List.getElem?_eq_none (by simp; omega), List.getElem?_eq_none (by simp; omega)]
  have h2 : (X.set o v).drop (o + 1 + cs.length) = X.drop (o + 1 + cs.length) := List.drop_set_of_lt (by omega)
  simp only [splice, List.length_cons]
  rw [h1, h2, show o + (cs.length + 1) = o + 1 + cs.length by omega]
  simp

/-- Cells stored one by one into a block that is known whole. -/
theorem rowCells_block {g : Nat} {t : TypeId} : ∀ (cs : List Value) (o : Nat) (X : List Value) (w : World), w.heap[g]? = some (.cells X.toArray t) → o + cs.length ≤ X.length →
    (w.setCells g o cs).heap[g]? = some (.cells (splice X o cs).toArray t)
  | [], o, X, w, h, _ => by rw [World.setCells, splice_nil]; exact h
  | v :: cs, o, X, w, h, hl => by
    rw [World.setCells]
    have hb : (w.setCell ⟨g, o, none⟩ v).heap[g]? = some (.cells (X.set o v).toArray t) := by
      rw [upd h o v]; simp
    have := rowCells_block cs (o + 1) (X.set o v) _ hb (by simp at hl ⊢; omega)
    rw [this, splice_cons X o v cs (by simp at hl; omega)]

theorem setRow_grown {w : World} (g : Nat) (cs : Array Value) : w.grownBy (w.setRow g cs) (some g) :=
  ⟨rfl, rfl, rfl, by simp [World.setRow], fun k _ hne => setRow_other w g k cs (fun e => hne (by rw [e]))⟩
theorem rowCells_grown {w : World} (g o : Nat) (vs : List Value) : w.grownBy (w.setCells g o vs) (some g) := by
  induction vs generalizing w o with
  | nil => exact ⟨rfl, rfl, rfl, Nat.le_refl _, fun _ _ _ => rfl⟩
  | cons v vs ih =>
    have h1 : w.grownBy (w.setCell ⟨g, o, none⟩ v) (some g) := ⟨rfl, rfl, rfl, by simp [World.setCell], fun k _ hne => by
      simp only [World.setCell, Array.getElem?_modify]
      rw [if_neg (by rintro rfl; exact hne rfl)]⟩
    have h2 := ih (w := w.setCell ⟨g, o, none⟩ v) (o := o + 1)
    exact ⟨h2.os.trans h1.os, h2.tape.trans h1.tape, h2.output.trans h1.output, Nat.le_trans h1.size h2.size, fun i hi hne => (h2.block i (Nat.lt_of_lt_of_le hi h1.size) hne).trans (h1.block i hi hne)⟩
theorem gr_trans {a b c : World} {r : Option Nat} (h : a.grownBy b r) (k : b.grownBy c r) : a.grownBy c r :=
  ⟨k.os.trans h.os, k.tape.trans h.tape, k.output.trans h.output, Nat.le_trans h.size k.size, fun i hi hne => (k.block i (Nat.lt_of_lt_of_le hi h.size) hne).trans (h.block i hi hne)⟩
theorem gr_refl (w : World) (r : Option Nat) : w.grownBy w r := ⟨rfl, rfl, rfl, Nat.le_refl _, fun _ _ _ => rfl⟩
theorem gr_below {w w' : World} (r : Option Nat) (h : Below w.heap.size w w') : w.grownBy w' r := ⟨h.os, h.tape, h.output, h.size, fun k hk _ => h.block k hk⟩
theorem below_gr {B : Nat} {w w' : World} {g : Nat} (hg : w.grownBy w' (some g)) (hB : B ≤ g) (hw : B ≤ w.heap.size) : Below B w w' :=
  ⟨hg.os, hg.tape, hg.output, hg.size, fun k hk => hg.block k (by omega) (fun e => by cases e; omega)⟩
theorem gr_cell {w w' : World} {g b o : Nat} (hg : w.grownBy w' (some g)) (hb : b < w.heap.size) (hne : b ≠ g) : w'.cell? ⟨b, o, none⟩ = w.cell? ⟨b, o, none⟩ :=
  World.cell?_of_block (hg.block b hb (fun e => hne (by cases e; rfl)))
theorem take_splice {α : Type} (X : List α) (o : Nat) (cs : List α) (h : o ≤ X.length) : (splice X o cs).take o = X.take o := by
  simp only [splice]
  rw [List.take_append_of_le_length (by simp; omega)]
  exact List.take_of_length_le (by simp; omega)
theorem take_splice_all {α : Type} (X : List α) (o : Nat) (cs : List α) (h : o ≤ X.length) : (splice X o cs).take (o + cs.length) = X.take o ++ cs := by
  simp only [splice]
  rw [← List.append_assoc, List.take_append_of_le_length (by simp; omega)]
  exact List.take_of_length_le (by simp; omega)
theorem get_splice_behind {α : Type} (X : List α) (o : Nat) (cs : List α) (j : Nat) (h : o ≤ X.length) (hj : o + cs.length ≤ j) : (splice X o cs)[j]? = X[j]? := by
  simp only [splice]
  rw [← List.append_assoc, List.getElem?_append_right (by simp; omega), List.getElem?_drop]
  congr 1
  simp; omega
/-- Three pieces laid one behind the other. -/
theorem splice_mid {α : Type} (A B C : List α) (D : List α) (h : D.length = B.length) : splice (A ++ (D ++ C)) A.length B = A ++ (B ++ C) := by
  simp only [splice]
  rw [List.take_left, ← h, ← List.length_append, ← List.append_assoc A D C, List.drop_left]

section
variable {P : Program}
theorem run_copy_k (w : World) (dT sT ty elem : TypeId) (g o dLen dCap : Nat) (a : Addr) (sLen sCap : Nat) (X : List Value) (t : TypeId) (cs : List Value) (k : Nat)
    (hu : P.underlying dT = some (.slice elem)) (hs : (P.info? elem).map (·.size) = some k)
    (hg : w.heap[g]? = some (.cells X.toArray t)) (hn : cs.length = Nat.min sLen dLen * k)
    (hsrc : ∀ j v, cs[j]? = some v → w.cell? (a.add j) = some v) (hfit : o + cs.length ≤ X.length) (h1 : ∀ v ∈ cs, v.oneCell' = true) :
    (Builtin.copy_ #[dT, sT] ty #[.slice (some ⟨g, o, none⟩) dLen dCap, .slice (some a) sLen sCap]).run P w = .ok (goInt (Nat.min sLen dLen)) (w.setCells g o cs) := by
  have hl := run_firstCells_some (P := P) (w := w) k (Nat.min sLen dLen) a sLen sCap cs hn hsrc
  have hst := run_storeCells_cells (P := P) g o cs 0 w (fun j hj => by
      rw [cell_of_block hg (j := o + 0 + j) (u := X[o + 0 + j]'(by omega)) (by simp)]; rfl) (fun j hj => by simp [World.frozen?, hg]) h1
  cases hq : P.info? elem with
  | none => simp [hq] at hs
  | some i =>
    have hi : i.size = k := by simpa [hq] using hs
    simp only [Nat.add_zero] at hst
    simp [Builtin.copy_, run_underlying hu, Builtin.lenOf, sizeOf, typeInfo, hq, hi, hl, hst]

theorem run_copy_ex {w : World} (dT sT elem : TypeId) (k : Nat) (hu : P.underlying dT = some (.slice elem)) (hs : (P.info? elem).map (·.size) = some k) (g o dLen dCap : Nat) (a : Addr) (sLen sCap : Nat) (X : List Value) (t : TypeId)
    (hg : w.heap[g]? = some (.cells X.toArray t)) (cs : List Value) (hn : cs.length = Nat.min sLen dLen * k)
    (hsrc : ∀ j v, cs[j]? = some v → w.cell? (a.add j) = some v) (hfit : o + cs.length ≤ X.length) (h1 : ∀ v ∈ cs, v.oneCell' = true) :
    ∃ w' : World, (∀ ty, (Builtin.copy_ #[dT, sT] ty #[.slice (some ⟨g, o, none⟩) dLen dCap, .slice (some a) sLen sCap]).run P w = .ok (goInt (Nat.min sLen dLen)) w') ∧ w'.heap[g]? = some (.cells (splice X o cs).toArray t) ∧ w.grownBy w' (some g) :=
  ⟨_, fun ty => run_copy_k w dT sT ty elem g o dLen dCap a sLen sCap X t cs k hu hs hg hn hsrc hfit h1, rowCells_block cs o X w hg hfit, rowCells_grown g o cs⟩

theorem wpList_copy_k {w : World} {ops : Array Oper} {rest : List Oper} {o : Oper} {a : Act} {Q : Exit → Act → World → Prop} (hgd : o.guard = none) (d s : Operand) (dT sT : TypeId)
    (ho : o.op = .call { callee := .builtin .copy, args := #[d, s], argTypes := #[dT, sT] }) (elem : TypeId) (k : Nat) (hu : P.underlying dT = some (.slice elem)) (hsz : (P.info? elem).map (·.size) = some k)
    (g off dLen dCap : Nat) (ad : Addr) (sLen sCap : Nat) (hd : a.eval d = .slice (some ⟨g, off, none⟩) dLen dCap) (hs : a.eval s = .slice (some ad) sLen sCap)
    (X : List Value) (t : TypeId) (hg : w.heap[g]? = some (.cells X.toArray t)) (cs : List Value) (hn : cs.length = Nat.min sLen dLen * k)
    (hsrc : ∀ j v, cs[j]? = some v → w.cell? (ad.add j) = some v) (hfit : off + cs.length ≤ X.length) (h1 : ∀ v ∈ cs, v.oneCell' = true)
    (h : ∀ w', w'.heap[g]? = some (.cells (splice X off cs).toArray t) → w.grownBy w' (some g) → wpList P ops Q rest (a.put o.dst (goInt (Nat.min sLen dLen))) w') : wpList P ops Q (o :: rest) a w := by
  refine wpList_plain hgd fun K hK => ?_
  have hrun := run_copy_k (P := P) w dT sT o.type elem g off dLen dCap ad sLen sCap X t cs k hu hsz hg hn hsrc hfit h1
  unfold Oper.wp execOp
  simp only [ho, resolve, invoke, builtin, Sem.run_bind, Sem.run_pure, Result.andThen_ok, List.map_toArray, List.map_cons, List.map_nil, hd, hs, hrun]
  exact hK _ _ (h _ (rowCells_block cs off X w hg hfit) (rowCells_grown g off cs))

theorem step_copy_k {w : World} {ops : Array Oper} {o : Oper} {a : Act} {K : Act → World → Prop} {Q : Exit → Act → World → Prop} {E : Prop} (hgd : o.guard = none) (d s : Operand) (dT sT : TypeId)
    (ho : o.op = .call { callee := .builtin .copy, args := #[d, s], argTypes := #[dT, sT] }) (elem : TypeId) (k : Nat) (hu : P.underlying dT = some (.slice elem)) (hsz : (P.info? elem).map (·.size) = some k)
    (g off dLen dCap : Nat) (ad : Addr) (sLen sCap : Nat) (hd : a.eval d = .slice (some ⟨g, off, none⟩) dLen dCap) (hs : a.eval s = .slice (some ad) sLen sCap)
    (X : List Value) (t : TypeId) (hg : w.heap[g]? = some (.cells X.toArray t)) (cs : List Value) (hn : cs.length = Nat.min sLen dLen * k)
    (hsrc : ∀ j v, cs[j]? = some v → w.cell? (ad.add j) = some v) (hfit : off + cs.length ≤ X.length) (h1 : ∀ v ∈ cs, v.oneCell' = true)
    (h : ∀ w', w'.heap[g]? = some (.cells (splice X off cs).toArray t) → w.grownBy w' (some g) → K (a.put o.dst (goInt (Nat.min sLen dLen))) w') :
    if Region.wanted o (yielded ops a.tmps) = true then Oper.wp P o a w K Q else E := by
  have hw : Region.wanted o (yielded ops a.tmps) = true := by simp [Region.wanted, hgd]
  rw [if_pos hw]
  have hrun := run_copy_k (P := P) w dT sT o.type elem g off dLen dCap ad sLen sCap X t cs k hu hsz hg hn hsrc hfit h1
  unfold Oper.wp execOp
  simp only [ho, resolve, invoke, builtin, Sem.run_bind, Sem.run_pure, Result.andThen_ok, List.map_toArray, List.map_cons, List.map_nil, hd, hs, hrun]
  exact h _ (rowCells_block cs off X w hg hfit) (rowCells_grown g off cs)

theorem zero_len (z : Value) (n : Nat) : (Builtin.zeroCells z.cells n).toList.length = n * z.cells.size := by simp [Builtin.zeroCells]

theorem run_clear_k {w : World} (dT elem : TypeId) (k : Nat) (z : Value) (hu : P.underlying dT = some (.slice elem)) (hz : ∀ w, (zeroValue elem).run P w = .ok z w) (hk : z.cells.size = k) (hone : ∀ n, ∀ v ∈ (Builtin.zeroCells z.cells n).toList, v.oneCell' = true)
    (g off n c : Nat) (X : List Value) (t : TypeId) (hg : w.heap[g]? = some (.cells X.toArray t)) (hfit : off + n * k ≤ X.length) :
    ∃ (w' : World) (Y : List Value), (∀ ty, (Builtin.clear_ #[dT] ty #[.slice (some ⟨g, off, none⟩) n c]).run P w = .ok (.tuple #[]) w') ∧ w'.heap[g]? = some (.cells Y.toArray t) ∧ Y.length = X.length ∧ Y.take off = X.take off ∧ w.grownBy w' (some g) := by
  rcases Nat.eq_zero_or_pos n with rfl | h0
  · exact ⟨w, X, fun ty => by simp [Builtin.clear_, run_underlying hu], hg, rfl, rfl, gr_refl _ _⟩
  · have hlen : (Builtin.zeroCells z.cells n).toList.length = n * k := by rw [zero_len, hk]
    have hst := run_storeCells_cells (P := P) g off (Builtin.zeroCells z.cells n).toList 0 w (fun j hj => by
      rw [cell_of_block hg (j := off + 0 + j) (u := X[off + 0 + j]'(by omega)) (by simp)]; rfl) (fun j hj => by simp [World.frozen?, hg]) (hone n)
    simp only [Nat.add_zero] at hst
    obtain ⟨m, rfl⟩ : ∃ m, n = m + 1 := ⟨n - 1, by omega⟩
    exact ⟨w.setCells g off (Builtin.zeroCells z.cells (m + 1)).toList, _, fun ty => by simp [Builtin.clear_, run_underlying hu, hz, hst], rowCells_block _ off X w hg (by omega), length_splice _ _ _ (by omega), take_splice _ _ _ (by omega), rowCells_grown g off _⟩
end

/-- What a row of one's own is, its block known whole. -/
theorem owns_open {w : World} {B : Nat} {e : TypeId} {k n : Nat} {v : Value} {xs : List Value} (h : w.ownsRow B e k v n xs) : (v = .slice none 0 0 ∧ n = 0) ∨
    ∃ (g cap : Nat) (X : List Value), v = .slice (some ⟨g, 0, none⟩) n cap ∧ B ≤ g ∧ w.heap[g]? = some (.cells X.toArray e) ∧ n ≤ cap ∧ cap ≤ maxLen ∧ X.length = cap * k ∧ X.take (n * k) = xs := by
  rcases h.2 with h | ⟨g, cap, cur, h1, h2, h3, h4, h5, h6, h7⟩
  · exact .inl h
  · exact .inr ⟨g, cap, cur.toList, h1, h2, by simpa using h3, h4, h5, by simpa using h6, h7⟩
theorem owns_mk {w : World} {B : Nat} {e : TypeId} {k n g cap : Nat} {X xs : List Value} (h2 : B ≤ g) (h3 : w.heap[g]? = some (.cells X.toArray e)) (h4 : n ≤ cap) (h5 : cap ≤ maxLen) (h6 : X.length = cap * k) (h7 : X.take (n * k) = xs) :
    w.ownsRow B e k (.slice (some ⟨g, 0, none⟩) n cap) n xs := by
  refine ⟨by rw [← h7, List.length_take, h6]; exact Nat.min_eq_left (Nat.mul_le_mul_right _ h4), .inr ⟨g, cap, X.toArray, rfl, h2, h3, h4, h5, by simpa using h6, by simpa using h7⟩⟩

/-- Elements as their cells. -/
theorem all_raw {α : Type} {K : Elem α} {F : Nat → Prop} {w : World} : ∀ {l : List α} {cs : List Value}, All K F w l cs → ∃ CS : List (List Value), cs = CS.flatten ∧ CS.length = l.length ∧ ∀ (i : Nat) (x : α) (c : List Value), l[i]? = some x → CS[i]? = some c → K.R F w x c
  | [], cs, h => ⟨[], h, rfl, fun i x c hx => by simp at hx⟩
  | a :: l, cs, h => by
    obtain ⟨c, rest, rfl, h2, h3⟩ := h
    obtain ⟨CS, rfl, h5, h6⟩ := all_raw h3
    refine ⟨c :: CS, rfl, by simp [h5], fun i x d hx hd => ?_⟩
    cases i with
    | zero => simp at hx hd; subst hx; subst hd; exact h2
    | succ i => exact h6 i x d (by simpa using hx) (by simpa using hd)
theorem raw_all {α : Type} {K : Elem α} {F : Nat → Prop} {w : World} : ∀ {l : List α} {CS : List (List Value)}, CS.length = l.length → (∀ (i : Nat) (x : α) (c : List Value), l[i]? = some x → CS[i]? = some c → K.R F w x c) → All K F w l CS.flatten
  | [], CS, h, _ => by have := List.eq_nil_of_length_eq_zero h; subst this; rfl
  | a :: l, [], h, _ => by simp at h
  | a :: l, c :: CS, h, hr => ⟨c, CS.flatten, rfl, hr 0 a c rfl rfl, raw_all (by simpa using h) fun i x d hx hd => hr (i + 1) x d (by simpa using hx) (by simpa using hd)⟩

/-- Those of a list for whose places p does not hold. -/
def keepI {α : Type} (p : Nat → Bool) : Nat → List α → List α
  | _, [] => []
  | i, a :: l => if p i then keepI p (i + 1) l else a :: keepI p (i + 1) l
theorem keepI_append {α : Type} (p : Nat → Bool) : ∀ (l m : List α) (i : Nat), keepI p i (l ++ m) = keepI p i l ++ keepI p (i + l.length) m
  | [], m, i => by simp [keepI]
  | a :: l, m, i => by
    rw [List.cons_append, keepI, keepI, keepI_append p l m (i + 1), List.length_cons, show i + 1 + l.length = i + (l.length + 1) by omega]
    split <;> simp
theorem keepI_take {α : Type} (p : Nat → Bool) (l : List α) (j : Nat) (x : α) (h : l[j]? = some x) : keepI p 0 (l.take (j + 1)) = keepI p 0 (l.take j) ++ (if p j then [] else [x]) := by
  have hj := (List.getElem?_eq_some_iff.1 h).1
  rw [List.take_add_one, h, keepI_append]
  simp only [Option.toList_some, List.length_take, Nat.zero_add, Nat.min_eq_left (Nat.le_of_lt hj), keepI]
theorem keepI_length {α : Type} (p : Nat → Bool) : ∀ (l : List α) (i : Nat), (keepI p i l).length ≤ l.length
  | [], i => by simp [keepI]
  | a :: l, i => by
    rw [keepI]
    have := keepI_length p l (i + 1)
    split <;> simp <;> omega
theorem keepI_all {α : Type} (p : Nat → Bool) : ∀ (l : List α) (i : Nat), (∀ j, i ≤ j → j < i + l.length → p j = false) → keepI p i l = l
  | [], i, _ => rfl
  | a :: l, i, h => by
    rw [keepI, if_neg (by rw [h i (Nat.le_refl _) (by simp)]; decide), keepI_all p l (i + 1) fun j h1 h2 => h j (by omega) (by simp; omega)]
theorem firstI_neg (p : Nat → Bool) : ∀ (n i : Nat), firstI p i n = -1 → ∀ j, i ≤ j → j < i + n → p j = false
  | 0, i, _, j, h1, h2 => by omega
  | n + 1, i, h, j, h1, h2 => by
    rw [firstI] at h
    split at h
    · omega
    · rename_i hp
      by_cases hj : j = i
      · subst hj; simpa using hp
      · exact firstI_neg p n (i + 1) h j (by omega) (by omega)
theorem firstI_pos (p : Nat → Bool) : ∀ (n i : Nat), firstI p i n = -1 ∨ ∃ m : Nat, firstI p i n = (m : Int) ∧ i ≤ m ∧ m < i + n ∧ p m = true ∧ ∀ j, i ≤ j → j < m → p j = false
  | 0, i => .inl rfl
  | n + 1, i => by
    rw [firstI]
    split
    · rename_i hp
      exact .inr ⟨i, rfl, Nat.le_refl _, by omega, hp, fun j h1 h2 => by omega⟩
    · rename_i hp
      rcases firstI_pos p n (i + 1) with h | ⟨m, h1, h2, h3, h4, h5⟩
      · exact .inl h
      · refine .inr ⟨m, h1, by omega, by omega, h4, fun j h6 h7 => ?_⟩
        by_cases hj : j = i
        · subst hj; simpa using hp
        · exact h5 j (by omega) h7
theorem rawflat_len {CS : List (List Value)} {k : Nat} (h : ∀ c ∈ CS, c.length = k) : CS.flatten.length = CS.length * k := by
  induction CS with
  | nil => simp
  | cons c CS ih =>
    rw [List.flatten_cons, List.length_append, ih fun x hx => h x (by simp [hx]), h c (by simp), List.length_cons, Nat.add_mul]; omega
theorem rawflat_get {k : Nat} : ∀ {CS : List (List Value)}, (∀ c ∈ CS, c.length = k) → ∀ {i : Nat} {c : List Value}, CS[i]? = some c → ∀ r u, c[r]? = some u → CS.flatten[i * k + r]? = some u
  | [], _, i, c, hc => by simp at hc
  | d :: CS, h, 0, c, hc => fun r u hr => by
    simp at hc; subst hc
    rw [List.flatten_cons, List.getElem?_append_left (by have := (List.getElem?_eq_some_iff.1 hr).1; omega)]
    simpa using hr
  | d :: CS, h, i + 1, c, hc => fun r u hr => by
    have hd := h d (by simp)
    rw [List.flatten_cons, List.getElem?_append_right (by rw [hd, Nat.add_mul]; omega), hd, show (i + 1) * k + r - k = i * k + r from by rw [Nat.add_mul]; omega]
    exact rawflat_get (fun x hx => h x (by simp [hx])) (by simpa using hc) r u hr

end Go.Proofs.Ytabanbpnghidhaa

namespace Go.Proofs.Ytabanbpnghidhaa
open Go.RowKit

/-- Cells of this make: api.Table. -/
def shTab (c : List Value) : Prop := ∃ s0 a1 n1 c1, c = [.string s0, .slice a1 n1 c1]
def kRawTab : Elem (List Value) where
  size := 2
  R _ _ c cs := cs = c ∧ shTab c
  len h := by obtain ⟨rfl, s0, a1, n1, c1, rfl⟩ := h; rfl
  keep _ h := h
  mono _ h := h
theorem len_shTab {c : List Value} (h : shTab c) : c.length = 2 := by obtain ⟨s0, a1, n1, c1, rfl⟩ := h; rfl
theorem one_shTab {c : List Value} (h : shTab c) : ∀ u ∈ c, u.oneCell' = true := by
  obtain ⟨s0, a1, n1, c1, rfl⟩ := h
  simp [Value.oneCell']
theorem info_Tab : (Try.prog.info? 43).map (fun i => (i.zero, i.size, i.bytes)) = some (some (.agg #[.string ⟨#[]⟩, .slice none 0 0]), 2, 40) := by kernel_rfl
theorem size_Tab : (Try.prog.info? 43).map (·.size) = some 2 := by kernel_rfl
/-- The elements of a row of one's own, as a list. -/
theorem raw_isLTab {w : World} {B : Nat} {v : Value} {CS : List (List Value)} (h : w.ownsRow B 43 2 v CS.length CS.flatten) (hs : ∀ c ∈ CS, shTab c) : IsL kRawTab (fun _ => True) w v CS :=
  ⟨CS.flatten, IsRowB.of_own h fun _ _ => trivial, raw_all rfl fun i x c h1 h2 => by rw [h1] at h2; cases h2; exact ⟨rfl, hs _ (List.mem_of_getElem? h1)⟩⟩

/-- Cells of this make: api.Index. -/
def shIdx (c : List Value) : Prop := ∃ s0 s1 s2, c = [.string s0, .string s1, .string s2]
def kRawIdx : Elem (List Value) where
  size := 3
  R _ _ c cs := cs = c ∧ shIdx c
  len h := by obtain ⟨rfl, s0, s1, s2, rfl⟩ := h; rfl
  keep _ h := h
  mono _ h := h
theorem len_shIdx {c : List Value} (h : shIdx c) : c.length = 3 := by obtain ⟨s0, s1, s2, rfl⟩ := h; rfl
theorem one_shIdx {c : List Value} (h : shIdx c) : ∀ u ∈ c, u.oneCell' = true := by
  obtain ⟨s0, s1, s2, rfl⟩ := h
  simp [Value.oneCell']
theorem info_Idx : (Try.prog.info? 63).map (fun i => (i.zero, i.size, i.bytes)) = some (some (.agg #[.string ⟨#[]⟩, .string ⟨#[]⟩, .string ⟨#[]⟩]), 3, 48) := by kernel_rfl
theorem size_Idx : (Try.prog.info? 63).map (·.size) = some 3 := by kernel_rfl
/-- The elements of a row of one's own, as a list. -/
theorem raw_isLIdx {w : World} {B : Nat} {v : Value} {CS : List (List Value)} (h : w.ownsRow B 63 3 v CS.length CS.flatten) (hs : ∀ c ∈ CS, shIdx c) : IsL kRawIdx (fun _ => True) w v CS :=
  ⟨CS.flatten, IsRowB.of_own h fun _ _ => trivial, raw_all rfl fun i x c h1 h2 => by rw [h1] at h2; cases h2; exact ⟨rfl, hs _ (List.mem_of_getElem? h1)⟩⟩

theorem zero_oneTab (n : Nat) : ∀ u ∈ (Builtin.zeroCells ((.agg #[.string ⟨#[]⟩, .slice none 0 0]) : Value).cells n).toList, u.oneCell' = true := by
  intro u hu
  simp only [Builtin.zeroCells, Array.toList_map, List.mem_map] at hu
  obtain ⟨i, _, rfl⟩ := hu
  have hlt : i % 2 < 2 := Nat.mod_lt _ (by decide)
  have key : ∀ j, j < 2 → (((.agg #[.string ⟨#[]⟩, .slice none 0 0]) : Value).cells[j]!).oneCell' = true := by
    intro j hj
    rcases (by omega : j = 0 ∨ j = 1) with rfl | rfl
    all_goals rfl
  exact key _ hlt

theorem zero_oneIdx (n : Nat) : ∀ u ∈ (Builtin.zeroCells ((.agg #[.string ⟨#[]⟩, .string ⟨#[]⟩, .string ⟨#[]⟩]) : Value).cells n).toList, u.oneCell' = true := by
  intro u hu
  simp only [Builtin.zeroCells, Array.toList_map, List.mem_map] at hu
  obtain ⟨i, _, rfl⟩ := hu
  have hlt : i % 3 < 3 := Nat.mod_lt _ (by decide)
  have key : ∀ j, j < 3 → (((.agg #[.string ⟨#[]⟩, .string ⟨#[]⟩, .string ⟨#[]⟩]) : Value).cells[j]!).oneCell' = true := by
    intro j hj
    rcases (by omega : j = 0 ∨ j = 1 ∨ j = 2) with rfl | rfl | rfl
    all_goals rfl
  exact key _ hlt

set_option maxRecDepth 100000 in
set_option maxHeartbeats 2000000 in
/-- slices.Clone: the same cells, in a row of the call's own. -/
theorem cloneTab_any (cs : List Value) (n : Nat) (sv : Value) (F : Nat → Prop) (w : World) (h : IsRowB F 2 w sv n cs) (h1 : ∀ u ∈ cs, u.oneCell' = true) (hn : n * 40 ≤ 140737488355328) :
    Calls Try.prog 48 #[sv] w fun e w' => ∃ v, e = .returned v ∧ w'.ownsRow w.heap.size 43 2 v n cs ∧ Below w.heap.size w w' := by
  obtain ⟨i0, hi0, hz0, hz1, hz2⟩ := info_parts info_Tab
  have q22 : ∀ (w : World) (a : Option Addr) (n c n' c' : Nat), (binOp .eql 22 (.slice a n c) (.slice none n' c')).run Try.prog w = .ok (.bool a.isNone) w := fun w a n c n' c' => Lib.run_eql_slice_nil w _ _ a n c n' c' Try.underlying22
  have hlen := h.1
  have fin : ∀ ao c, sv = .slice ao n c → (ao = none → n = 0) → (∀ ad, ao = some ad → ∀ j u, cs[j]? = some u → w.cell? (ad.add j) = some u ∧ ad.block < w.heap.size) → (ao = none → c = 0) →
      Calls Try.prog 48 #[sv] w fun e w' => ∃ v, e = .returned v ∧ w'.ownsRow w.heap.size 43 2 v n cs ∧ Below w.heap.size w w' := by
    intro ao c he h0 hc hcz
    subst he
    cases ao with
    | none =>
      obtain rfl := h0 rfl
      obtain rfl := hcz rfl
      have : cs = [] := List.eq_nil_of_length_eq_zero (by omega)
      subst this
      go_enter Try.func48, Try.ntmps48
      go_wp2
      go_ret
      exact ⟨_, rfl, World.ownsRow_nil _ _ _ _, Below.refl _ _⟩
    | some ad =>
      have own0 : (w.alloc (.cells #[] 43)).ownsRow w.heap.size 43 2 (.slice (some ⟨w.heap.size, 0, none⟩) 0 0) 0 [] := World.ownsRow_made w #[] 0 (Nat.le_refl _) (Nat.zero_le _) (by simp)
      have HC : Hid (∀ j u, cs[j]? = some u → (w.alloc (.cells #[] 43)).cell? (ad.add j) = some u) := fun j u hj => by
        obtain ⟨hq1, hq2⟩ := hc ad rfl j u hj
        obtain ⟨ab, ao, asp⟩ := ad
        exact ((bel1 w (.cells #[] 43)).cell (p := (⟨ab, ao, asp⟩ : Addr).add j) (by unfold Addr.add; split <;> exact hq2)).trans hq1
      have HB : Hid (n * 40 ≤ 140737488355328) := hn
      clear hn hc
      obtain ⟨ab, ao, asp⟩ := ad
      go_enter Try.func48, Try.ntmps48
      go_wp2_with (at_builtin; refine wpList_append_own_at _ rfl _ _ 22 rfl w.heap.size 43 i0 (.agg #[.string ⟨#[]⟩, .slice none 0 0]) 2 40 Try.underlying22 hi0 hz0 hz1 hz2 rfl (by decide) _ _ _ rfl own0 ⟨ab, ao, asp⟩ n c cs rfl hlen HC.out h1 (by have := HB.out; simp only [maxLen]; omega) (by have := HB.out; omega) (by simp) ?_)
      intro v' w1 hown hgrow _ _
      go_wp2
      go_ret
      exact ⟨v', rfl, hown, ((Below.refl _ w).alloc (Nat.le_refl _) _).grown hgrow (by simp) (by intro k hk; simp [Value.ownBlock] at hk; omega)⟩
  rcases h.2 with ⟨h0, ao, c, he, hnil⟩ | ⟨h0, b, off, cap, he, _, hb, _, _, hc⟩
  · subst h0
    have hcs : cs = [] := List.eq_nil_of_length_eq_zero (by omega)
    subst hcs
    exact fin ao c he (fun _ => rfl) (fun ad _ j u hj => by simp at hj) hnil
  · exact fin _ cap he (fun h => by cases h) (fun ad h j u hj => by cases h; rw [Addr.add_lit]; exact ⟨hc j u hj, hb⟩) (fun h => by cases h)

set_option maxRecDepth 100000 in
set_option maxHeartbeats 2000000 in
/-- slices.Clone: the same cells, in a row of the call's own. -/
theorem cloneIdx_any (cs : List Value) (n : Nat) (sv : Value) (F : Nat → Prop) (w : World) (h : IsRowB F 3 w sv n cs) (h1 : ∀ u ∈ cs, u.oneCell' = true) (hn : n * 48 ≤ 140737488355328) :
    Calls Try.prog 52 #[sv] w fun e w' => ∃ v, e = .returned v ∧ w'.ownsRow w.heap.size 63 3 v n cs ∧ Below w.heap.size w w' := by
  obtain ⟨i0, hi0, hz0, hz1, hz2⟩ := info_parts info_Idx
  have q22 : ∀ (w : World) (a : Option Addr) (n c n' c' : Nat), (binOp .eql 23 (.slice a n c) (.slice none n' c')).run Try.prog w = .ok (.bool a.isNone) w := fun w a n c n' c' => Lib.run_eql_slice_nil w _ _ a n c n' c' Try.underlying23
  have hlen := h.1
  have fin : ∀ ao c, sv = .slice ao n c → (ao = none → n = 0) → (∀ ad, ao = some ad → ∀ j u, cs[j]? = some u → w.cell? (ad.add j) = some u ∧ ad.block < w.heap.size) → (ao = none → c = 0) →
      Calls Try.prog 52 #[sv] w fun e w' => ∃ v, e = .returned v ∧ w'.ownsRow w.heap.size 63 3 v n cs ∧ Below w.heap.size w w' := by
    intro ao c he h0 hc hcz
    subst he
    cases ao with
    | none =>
      obtain rfl := h0 rfl
      obtain rfl := hcz rfl
      have : cs = [] := List.eq_nil_of_length_eq_zero (by omega)
      subst this
      go_enter Try.func52, Try.ntmps52
      go_wp2
      go_ret
      exact ⟨_, rfl, World.ownsRow_nil _ _ _ _, Below.refl _ _⟩
    | some ad =>
      have own0 : (w.alloc (.cells #[] 63)).ownsRow w.heap.size 63 3 (.slice (some ⟨w.heap.size, 0, none⟩) 0 0) 0 [] := World.ownsRow_made w #[] 0 (Nat.le_refl _) (Nat.zero_le _) (by simp)
      have HC : Hid (∀ j u, cs[j]? = some u → (w.alloc (.cells #[] 63)).cell? (ad.add j) = some u) := fun j u hj => by
        obtain ⟨hq1, hq2⟩ := hc ad rfl j u hj
        obtain ⟨ab, ao, asp⟩ := ad
        exact ((bel1 w (.cells #[] 63)).cell (p := (⟨ab, ao, asp⟩ : Addr).add j) (by unfold Addr.add; split <;> exact hq2)).trans hq1
      have HB : Hid (n * 48 ≤ 140737488355328) := hn
      clear hn hc
      obtain ⟨ab, ao, asp⟩ := ad
      go_enter Try.func52, Try.ntmps52
      go_wp2_with (at_builtin; refine wpList_append_own_at _ rfl _ _ 23 rfl w.heap.size 63 i0 (.agg #[.string ⟨#[]⟩, .string ⟨#[]⟩, .string ⟨#[]⟩]) 3 48 Try.underlying23 hi0 hz0 hz1 hz2 rfl (by decide) _ _ _ rfl own0 ⟨ab, ao, asp⟩ n c cs rfl hlen HC.out h1 (by have := HB.out; simp only [maxLen]; omega) (by have := HB.out; omega) (by simp) ?_)
      intro v' w1 hown hgrow _ _
      go_wp2
      go_ret
      exact ⟨v', rfl, hown, ((Below.refl _ w).alloc (Nat.le_refl _) _).grown hgrow (by simp) (by intro k hk; simp [Value.ownBlock] at hk; omega)⟩
  rcases h.2 with ⟨h0, ao, c, he, hnil⟩ | ⟨h0, b, off, cap, he, _, hb, _, _, hc⟩
  · subst h0
    have hcs : cs = [] := List.eq_nil_of_length_eq_zero (by omega)
    subst hcs
    exact fin ao c he (fun _ => rfl) (fun ad _ j u hj => by simp at hj) hnil
  · exact fin _ cap he (fun h => by cases h) (fun ad h j u hj => by cases h; rw [Addr.add_lit]; exact ⟨hc j u hj, hb⟩) (fun h => by cases h)

set_option maxRecDepth 100000 in
set_option maxHeartbeats 2000000 in
theorem index_withTab (l : List (List Value)) (ao : Option Addr) (n c : Nat) (f0 : Value) (p : Nat → Bool) (St : Nat → World → Prop) (En : World → Prop) (w : World) (hEn : ∀ i W, St i W → En W) (hIs : ∀ i W, St i W → IsL kRawTab (fun _ => True) W (.slice ao n c) l)
    (hcall : ∀ i cs W, l[i]? = some cs → St i W → Calls Try.prog 21 #[.agg cs.toArray, f0] W fun e W' => e = .returned (.bool (p i)) ∧ En W' ∧ (p i = false → St (i + 1) W')) (h0 : St 0 w) :
    Calls Try.prog 24 #[.slice ao n c, .func (.func 21) #[] #[f0]] w fun e W' => e = .returned (.int .i64 (firstI p 0 l.length)) ∧ En W' := by
  obtain ⟨hn, hlm⟩ := isL_len (hIs 0 w h0)
  subst hn
  unfold maxLen at hlm
  go_enter Try.func24, Try.ntmps24
  go_wp2
  go_loopw [8] (fun i wr => ∃ k : Nat, k ≤ l.length ∧ i = .int .i64 k ∧ St k wr ∧ Hid (firstI p 0 l.length = firstI p k (l.length - k))) (fun i _ => l.length - (intOf i).toNat)
  case atStart => exact ⟨0, Nat.zero_le _, rfl, h0, rfl⟩
  case round =>
    obtain ⟨k, hk, rfl, hSt, HP⟩ := hrel
    by_cases hlt : k < l.length
    · obtain ⟨x, hx⟩ : ∃ x, l[k]? = some x := ⟨_, List.getElem?_eq_getElem hlt⟩
      obtain ⟨b, off, cs, rfl, _, hb, hR, hcell⟩ := isL_get (hIs k wr hSt) hx
      have HC := hcall k x wr hx hSt
      obtain ⟨rfl, hsh⟩ := hR
      obtain ⟨s0, a1, n1, c1, rfl⟩ := hsh
      have d0 := hcell 0 _ rfl
      have d1 := hcell 1 _ rfl
      simp only [kRawTab, Nat.add_zero] at d0 d1
      have k0 : (0 : Int) ≤ (k : Int) := by omega
      have k1 : (k : Int) < (l.length : Int) := by omega
      have hst : Hid (firstI p k (l.length - k) = if p k then (k : Int) else firstI p (k + 1) (l.length - (k + 1))) := firstI_step p k l.length hlt
      clear hcell hx
      generalize hq : p k = q at HC hst
      clear hq
      cases q
      · go_wp2_with (go_at_call 21; go_must (go_fit HC; rintro e W' ⟨rfl, _, hS1⟩))
        go_roundw
        case rel => exact ⟨k + 1, by omega, by go_num, hS1 (by first | rfl | trivial), by rw [HP.out, hst.out]; rfl⟩
        case measure => simp [intOf]; omega
      · go_wp2_with (go_at_call 21; go_must (go_fit HC; rintro e W' ⟨rfl, hS1, _⟩))
        go_ret
        exact ⟨ret_int (by rw [HP.out, hst.out]; rfl), hS1⟩
    · have HE : Hid (firstI p k (l.length - k) = -1) := by show _ = _; rw [show l.length - k = 0 from by omega, firstI]
      go_wp2
      go_ret
      exact ⟨ret_int (by rw [HP.out, HE.out]), hEn k _ hSt⟩

set_option maxRecDepth 100000 in
set_option maxHeartbeats 8000000 in
/-- slices.DeleteFunc: those for which the function does not say yes, in the same row. -/
theorem delete_withTab (CS : List (List Value)) (v : Value) (f0 : Value) (p : Nat → Bool) (B : Nat) (w : World) (hown : w.ownsRow B 43 2 v CS.length CS.flatten) (hs : ∀ c ∈ CS, shTab c) (hB : B ≤ w.heap.size)
    (hcall : ∀ i cs W, CS[i]? = some cs → w.grownBy W v.ownBlock → Calls Try.prog 21 #[.agg cs.toArray, f0] W fun e W' => e = .returned (.bool (p i)) ∧ Below W.heap.size W W') :
    Calls Try.prog 53 #[v, .func (.func 21) #[] #[f0]] w fun e w' => ∃ v', e = .returned v' ∧ w'.ownsRow B 43 2 v' (keepI p 0 CS).length (keepI p 0 CS).flatten ∧ w.grownBy w' v.ownBlock ∧ Below B w w' := by
  have hlk : ∀ c ∈ CS, c.length = 2 := fun c hc => len_shTab (hs c hc)
  obtain ⟨ao, cap, rfl⟩ := (raw_isLTab hown hs).shape
  have HI := index_withTab CS ao CS.length cap f0 p (fun _ W => Below w.heap.size w W) (fun W => Below w.heap.size w W) w (fun _ _ h => h) (fun _ W h => raw_isLTab (ownsRow_below hown h) hs)
    (fun i cs W hi hW => (hcall i cs W hi (gr_below _ hW)).mono fun e W' ⟨he, hb⟩ => ⟨he, bthen hW hb, fun _ => bthen hW hb⟩) (Below.refl _ _)
  rcases firstI_pos p CS.length 0 with hf | ⟨i0, hf, _, hi0, hp0, hpre⟩
  · have hall : Hid (keepI p 0 CS = CS) := keepI_all p CS 0 (firstI_neg p _ _ hf)
    rw [hf] at HI
    go_enter Try.func53, Try.ntmps53
    go_wp2_with (go_at_call 24; go_must (go_fit HI; rintro e w1 ⟨rfl, hb1⟩))
    go_ret
    rw [hall.out]
    exact ⟨_, rfl, ownsRow_below hown hb1, gr_below _ hb1, hb1.mono hB⟩
  · rw [hf] at HI
    rcases owns_open hown with ⟨_, h0⟩ | ⟨g, cap', X0, hv, hBg, hX0, hncap, hcapm, hXl, hXt⟩
    · omega
    cases hv
    have hkeep0 : Hid (keepI p 0 (CS.take (i0 + 1)) = CS.take i0) := by
      show _ = _
      have hx : CS[i0]? = some (CS[i0]'(by omega)) := List.getElem?_eq_getElem (by omega)
      rw [keepI_take p CS i0 _ hx, hp0, keepI_all p (CS.take i0) 0 fun j h1 h2 => hpre j h1 (by simp at h2; omega)]
      simp
    have hlm : CS.length ≤ 9223372036854775807 := by
      simp only [maxLen] at hcapm
      omega
    clear hf hp0 hpre
    have hgw := lt_of_block hX0
    go_enter Try.func53, Try.ntmps53
    go_wp2_with (go_at_call 24; go_must (go_fit HI; rintro e w1 ⟨rfl, hb1⟩))
    have hX1 := (hb1.block g hgw).trans hX0
    go_loopw [5, 6] (fun iv jv wr => ∃ i j : Nat, ∃ X : List Value, i < j ∧ j ≤ CS.length ∧ iv = .int .i64 i ∧ jv = .int .i64 j ∧ wr.heap[g]? = some (.cells X.toArray 43) ∧ X.length = cap * 2 ∧ Hid (X.take (i * 2) = (keepI p 0 (CS.take j)).flatten) ∧ Hid (i = (keepI p 0 (CS.take j)).length) ∧ (∀ m c, j ≤ m → CS[m]? = some c → ∀ r u, c[r]? = some u → X[m * 2 + r]? = some u) ∧ w.grownBy wr (some g)) (fun _ j _ => CS.length - (intOf j).toNat)
    case atStart =>
      refine ⟨i0, i0 + 1, X0, by omega, by omega, rfl, by go_num, hX1, hXl, ?_, ?_, ?_, gr_below _ hb1⟩
      · show _ = _
        rw [hkeep0.out]
        have e1 : X0.take (i0 * 2) = (X0.take (CS.length * 2)).take (i0 * 2) := by rw [List.take_take, Nat.min_eq_left (by omega)]
        rw [e1, hXt, ← List.take_append_drop i0 CS, List.flatten_append, List.take_append_drop]
        have hl2 : (CS.take i0).flatten.length = i0 * 2 := by rw [rawflat_len fun c hc => hlk c (List.mem_of_mem_take hc), List.length_take, Nat.min_eq_left (by omega)]
        rw [← hl2, List.take_left]
      · show _ = _
        rw [hkeep0.out, List.length_take, Nat.min_eq_left (by omega)]
      · intro m c hm hc r u hr
        have h1 := rawflat_get hlk hc r u hr
        have hml := (List.getElem?_eq_some_iff.1 hc).1
        have hrl := (List.getElem?_eq_some_iff.1 hr).1
        rw [hlk c (List.mem_of_getElem? hc)] at hrl
        rw [← hXt, List.getElem?_take_of_lt (by omega)] at h1
        exact h1
    case round =>
      obtain ⟨i, j, X, hij, hj, rfl, rfl, hX, hXL, HT, HL, hrest, hgr⟩ := hrel
      by_cases hlt : j < CS.length
      · obtain ⟨x, hx⟩ : ∃ x, CS[j]? = some x := ⟨_, List.getElem?_eq_getElem hlt⟩
        have HC := fun W hW => hcall j x W hx hW
        have hstep := keepI_take p CS j x hx
        obtain ⟨s0, a1, n1, c1, rfl⟩ := hs x (List.mem_of_getElem? hx)
        have d0 : wr.cell? ⟨g, j * 2, none⟩ = some (.string s0) := cell_of_block hX (by have := hrest j _ (Nat.le_refl _) hx 0 _ rfl; simpa using this)
        have d1 : wr.cell? ⟨g, j * 2 + 1, none⟩ = some (.slice a1 n1 c1) := cell_of_block hX (by have := hrest j _ (Nat.le_refl _) hx 1 _ rfl; simpa using this)
        have j0 : (0 : Int) ≤ (j : Int) := by omega
        have j1 : (j : Int) < (CS.length : Int) := by omega
        have hgr1 : w.grownBy (wr.alloc (.cells [.string s0, .slice a1 n1 c1].toArray 43)) (some g) := gr_trans hgr (gr_below _ (bel1 _ _))
        have HC1 := HC _ hgr1
        have hX1 := block_alloc_of hX (.cells [.string s0, .slice a1 n1 c1].toArray 43)
        have HX : Hid _ := hx
        have HR : Hid _ := hrest
        have HS : Hid _ := hstep
        have hgl := lt_of_block hX
        clear hx hrest HC hstep
        generalize hq : p j = q at HC1 HS
        cases q
        · have hone : (#[.string s0, .slice a1 n1 c1] : Array Value).all (·.oneCell') = true := by simp [Value.oneCell']
          go_wp2_with (first
            | (go_at_call 21; go_must (go_fit HC1; rintro e W' ⟨rfl, hbW⟩; have hXW := (hbW.block g (lt_of_block hX1)).trans hX1; have t0 := (hbW.block wr.heap.size (by simp)).trans (block_alloc_at wr (.cells [.string s0, .slice a1 n1 c1].toArray 43)); have x0 := cell_of_block t0 (j := 0) rfl; have x1 := cell_of_block t0 (j := 1) rfl; have hthere : W'.there g (i * 2) 2 := (fun r hr => ⟨by rw [cell_of_block hXW (j := i * 2 + r) (u := X[i * 2 + r]'(by omega)) (by simp)]; rfl, by simp [World.frozen?, hXW]⟩); have i0' : (0 : Int) ≤ (i : Int) := (by omega); have i1' : (i : Int) < (CS.length : Int) := (by omega)))
            | (refine wpList_store_mid rfl 43 _ _ rfl g (i * 2) #[.string s0, .slice a1 n1 c1] ?_ ?_ ?_ ?_ ?_ ?_; exact rfl; exact rfl; exact hthere; exact size_Tab; exact hone))
          go_roundw
          case rel =>
            refine ⟨_, _, _, _, _, _, _, _, _, _, _, _, _, _, _, _, _, _, _, _, _, _, _, ?_, rfl⟩
            refine ⟨i + 1, j + 1, splice X (i * 2) [.string s0, .slice a1 n1 c1], by omega, by omega, by go_num, by go_num, ?_, ?_, ?_, ?_, ?_, ?_⟩
            · exact rowCells_block [.string s0, .slice a1 n1 c1] (i * 2) X _ hXW (by simp; omega)
            · rw [length_splice _ _ _ (by simp; omega)]; exact hXL
            · show _ = _
              rw [HS.out]
              have e1 : (i + 1) * 2 = i * 2 + ([.string s0, .slice a1 n1 c1] : List Value).length := by simp; omega
              rw [e1, take_splice_all _ _ _ (by omega), HT.out]
              simp
            · show _ = _
              rw [HS.out]
              have := HL.out
              simp [← this]
            · intro m c hm hc r u hr
              rw [get_splice_behind _ _ _ _ (by omega) (by simp; omega)]
              exact HR.out m c (by omega) hc r u hr
            · exact gr_trans (gr_trans hgr1 (gr_below _ hbW)) (rowCells_grown g _ _)
          case measure => simp [intOf]; omega
        · go_wp2_with (go_at_call 21; go_must (go_fit HC1; rintro e W' ⟨rfl, hbW⟩))
          go_roundw
          case rel =>
            refine ⟨_, _, _, _, _, _, _, _, _, _, _, _, _, _, _, _, _, _, _, _, _, _, _, ?_, rfl⟩
            refine ⟨i, j + 1, X, by omega, by omega, by first | rfl | go_num, by go_num, (hbW.block g (lt_of_block hX1)).trans hX1, hXL, ?_, ?_, fun m c hm hc r u hr => HR.out m c (by omega) hc r u hr, gr_trans hgr1 (gr_below _ hbW)⟩
            · show _ = _
              rw [HS.out, HT.out]; simp
            · show _ = _
              rw [HS.out]; simpa using HL.out
          case measure => simp [intOf]; omega
      · have hjn : j = CS.length := by omega
        subst hjn
        rw [List.take_length] at HT HL
        have v1 : ¬ ((CS.length : Int) < (CS.length : Int)) := by omega
        have i0' : (0 : Int) ≤ (i : Int) := by omega
        have i1' : (i : Int) ≤ (CS.length : Int) := by omega
        have i2' : ¬ (cap = i) := by omega
        have i3' : (i : Int) ≤ (cap : Int) := by omega
        have hz : ∀ w, (zeroValue 43).run Try.prog w = .ok (.agg #[.string ⟨#[]⟩, .slice none 0 0]) w := fun w => by
          obtain ⟨i9, hi9, hz9, _, _⟩ := info_parts info_Tab
          simp [zeroValue, typeInfo, hi9, hz9]
        have hzc : ∀ n, ∀ u ∈ (Builtin.zeroCells ((.agg #[.string ⟨#[]⟩, .slice none 0 0]) : Value).cells n).toList, u.oneCell' = true := fun n u hu => zero_oneTab n u hu
        obtain ⟨w2, Y, hrun, hY, hYl, hYt, hg2⟩ := run_clear_k (P := Try.prog) (w := wr) 22 43 2 (.agg #[.string ⟨#[]⟩, .slice none 0 0]) Try.underlying22 hz rfl hzc g (i * 2) (CS.length - i) (cap - i) X 43 hX (by rw [hXL, Nat.sub_mul]; have : CS.length * 2 ≤ cap * 2 := Nat.mul_le_mul_right _ hncap; omega)
        have HY : Hid _ := hY
        have HYT : Hid _ := hYt
        clear hY hYt hz hzc
        go_wp2
        go_ret
        have hgg : w.grownBy w2 (some g) := gr_trans hgr hg2
        refine ⟨_, rfl, ?_, hgg, below_gr hgg hBg hB⟩
        rw [← HL.out]
        exact owns_mk hBg HY.out (by omega) hcapm (hYl.trans hXL) (HYT.out.trans HT.out)

set_option maxRecDepth 100000 in
set_option maxHeartbeats 2000000 in
theorem index_withIdx (l : List (List Value)) (ao : Option Addr) (n c : Nat) (f0 : Value) (p : Nat → Bool) (St : Nat → World → Prop) (En : World → Prop) (w : World) (hEn : ∀ i W, St i W → En W) (hIs : ∀ i W, St i W → IsL kRawIdx (fun _ => True) W (.slice ao n c) l)
    (hcall : ∀ i cs W, l[i]? = some cs → St i W → Calls Try.prog 23 #[.agg cs.toArray, f0] W fun e W' => e = .returned (.bool (p i)) ∧ En W' ∧ (p i = false → St (i + 1) W')) (h0 : St 0 w) :
    Calls Try.prog 86 #[.slice ao n c, .func (.func 23) #[] #[f0]] w fun e W' => e = .returned (.int .i64 (firstI p 0 l.length)) ∧ En W' := by
  obtain ⟨hn, hlm⟩ := isL_len (hIs 0 w h0)
  subst hn
  unfold maxLen at hlm
  go_enter Try.func86, Try.ntmps86
  go_wp2
  go_loopw [8] (fun i wr => ∃ k : Nat, k ≤ l.length ∧ i = .int .i64 k ∧ St k wr ∧ Hid (firstI p 0 l.length = firstI p k (l.length - k))) (fun i _ => l.length - (intOf i).toNat)
  case atStart => exact ⟨0, Nat.zero_le _, rfl, h0, rfl⟩
  case round =>
    obtain ⟨k, hk, rfl, hSt, HP⟩ := hrel
    by_cases hlt : k < l.length
    · obtain ⟨x, hx⟩ : ∃ x, l[k]? = some x := ⟨_, List.getElem?_eq_getElem hlt⟩
      obtain ⟨b, off, cs, rfl, _, hb, hR, hcell⟩ := isL_get (hIs k wr hSt) hx
      have HC := hcall k x wr hx hSt
      obtain ⟨rfl, hsh⟩ := hR
      obtain ⟨s0, s1, s2, rfl⟩ := hsh
      have d0 := hcell 0 _ rfl
      have d1 := hcell 1 _ rfl
      have d2 := hcell 2 _ rfl
      simp only [kRawIdx, Nat.add_zero] at d0 d1 d2
      have k0 : (0 : Int) ≤ (k : Int) := by omega
      have k1 : (k : Int) < (l.length : Int) := by omega
      have hst : Hid (firstI p k (l.length - k) = if p k then (k : Int) else firstI p (k + 1) (l.length - (k + 1))) := firstI_step p k l.length hlt
      clear hcell hx
      generalize hq : p k = q at HC hst
      clear hq
      cases q
      · go_wp2_with (go_at_call 23; go_must (go_fit HC; rintro e W' ⟨rfl, _, hS1⟩))
        go_roundw
        case rel => exact ⟨k + 1, by omega, by go_num, hS1 (by first | rfl | trivial), by rw [HP.out, hst.out]; rfl⟩
        case measure => simp [intOf]; omega
      · go_wp2_with (go_at_call 23; go_must (go_fit HC; rintro e W' ⟨rfl, hS1, _⟩))
        go_ret
        exact ⟨ret_int (by rw [HP.out, hst.out]; rfl), hS1⟩
    · have HE : Hid (firstI p k (l.length - k) = -1) := by show _ = _; rw [show l.length - k = 0 from by omega, firstI]
      go_wp2
      go_ret
      exact ⟨ret_int (by rw [HP.out, HE.out]), hEn k _ hSt⟩

set_option maxRecDepth 100000 in
set_option maxHeartbeats 8000000 in
/-- slices.DeleteFunc: those for which the function does not say yes, in the same row. -/
theorem delete_withIdx (CS : List (List Value)) (v : Value) (f0 : Value) (p : Nat → Bool) (B : Nat) (w : World) (hown : w.ownsRow B 63 3 v CS.length CS.flatten) (hs : ∀ c ∈ CS, shIdx c) (hB : B ≤ w.heap.size)
    (hcall : ∀ i cs W, CS[i]? = some cs → w.grownBy W v.ownBlock → Calls Try.prog 23 #[.agg cs.toArray, f0] W fun e W' => e = .returned (.bool (p i)) ∧ Below W.heap.size W W') :
    Calls Try.prog 54 #[v, .func (.func 23) #[] #[f0]] w fun e w' => ∃ v', e = .returned v' ∧ w'.ownsRow B 63 3 v' (keepI p 0 CS).length (keepI p 0 CS).flatten ∧ w.grownBy w' v.ownBlock ∧ Below B w w' := by
  have hlk : ∀ c ∈ CS, c.length = 3 := fun c hc => len_shIdx (hs c hc)
  obtain ⟨ao, cap, rfl⟩ := (raw_isLIdx hown hs).shape
  have HI := index_withIdx CS ao CS.length cap f0 p (fun _ W => Below w.heap.size w W) (fun W => Below w.heap.size w W) w (fun _ _ h => h) (fun _ W h => raw_isLIdx (ownsRow_below hown h) hs)
    (fun i cs W hi hW => (hcall i cs W hi (gr_below _ hW)).mono fun e W' ⟨he, hb⟩ => ⟨he, bthen hW hb, fun _ => bthen hW hb⟩) (Below.refl _ _)
  rcases firstI_pos p CS.length 0 with hf | ⟨i0, hf, _, hi0, hp0, hpre⟩
  · have hall : Hid (keepI p 0 CS = CS) := keepI_all p CS 0 (firstI_neg p _ _ hf)
    rw [hf] at HI
    go_enter Try.func54, Try.ntmps54
    go_wp2_with (go_at_call 86; go_must (go_fit HI; rintro e w1 ⟨rfl, hb1⟩))
    go_ret
    rw [hall.out]
    exact ⟨_, rfl, ownsRow_below hown hb1, gr_below _ hb1, hb1.mono hB⟩
  · rw [hf] at HI
    rcases owns_open hown with ⟨_, h0⟩ | ⟨g, cap', X0, hv, hBg, hX0, hncap, hcapm, hXl, hXt⟩
    · omega
    cases hv
    have hkeep0 : Hid (keepI p 0 (CS.take (i0 + 1)) = CS.take i0) := by
      show _ = _
      have hx : CS[i0]? = some (CS[i0]'(by omega)) := List.getElem?_eq_getElem (by omega)
      rw [keepI_take p CS i0 _ hx, hp0, keepI_all p (CS.take i0) 0 fun j h1 h2 => hpre j h1 (by simp at h2; omega)]
      simp
    have hlm : CS.length ≤ 9223372036854775807 := by
      simp only [maxLen] at hcapm
      omega
    clear hf hp0 hpre
    have hgw := lt_of_block hX0
    go_enter Try.func54, Try.ntmps54
    go_wp2_with (go_at_call 86; go_must (go_fit HI; rintro e w1 ⟨rfl, hb1⟩))
    have hX1 := (hb1.block g hgw).trans hX0
    go_loopw [5, 6] (fun iv jv wr => ∃ i j : Nat, ∃ X : List Value, i < j ∧ j ≤ CS.length ∧ iv = .int .i64 i ∧ jv = .int .i64 j ∧ wr.heap[g]? = some (.cells X.toArray 63) ∧ X.length = cap * 3 ∧ Hid (X.take (i * 3) = (keepI p 0 (CS.take j)).flatten) ∧ Hid (i = (keepI p 0 (CS.take j)).length) ∧ (∀ m c, j ≤ m → CS[m]? = some c → ∀ r u, c[r]? = some u → X[m * 3 + r]? = some u) ∧ w.grownBy wr (some g)) (fun _ j _ => CS.length - (intOf j).toNat)
    case atStart =>
      refine ⟨i0, i0 + 1, X0, by omega, by omega, rfl, by go_num, hX1, hXl, ?_, ?_, ?_, gr_below _ hb1⟩
      · show _ = _
        rw [hkeep0.out]
        have e1 : X0.take (i0 * 3) = (X0.take (CS.length * 3)).take (i0 * 3) := by rw [List.take_take, Nat.min_eq_left (by omega)]
        rw [e1, hXt, ← List.take_append_drop i0 CS, List.flatten_append, List.take_append_drop]
        have hl2 : (CS.take i0).flatten.length = i0 * 3 := by rw [rawflat_len fun c hc => hlk c (List.mem_of_mem_take hc), List.length_take, Nat.min_eq_left (by omega)]
        rw [← hl2, List.take_left]
      · show _ = _
        rw [hkeep0.out, List.length_take, Nat.min_eq_left (by omega)]
      · intro m c hm hc r u hr
        have h1 := rawflat_get hlk hc r u hr
        have hml := (List.getElem?_eq_some_iff.1 hc).1
        have hrl := (List.getElem?_eq_some_iff.1 hr).1
        rw [hlk c (List.mem_of_getElem? hc)] at hrl
        rw [← hXt, List.getElem?_take_of_lt (by omega)] at h1
        exact h1
    case round =>
      obtain ⟨i, j, X, hij, hj, rfl, rfl, hX, hXL, HT, HL, hrest, hgr⟩ := hrel
      by_cases hlt : j < CS.length
      · obtain ⟨x, hx⟩ : ∃ x, CS[j]? = some x := ⟨_, List.getElem?_eq_getElem hlt⟩
        have HC := fun W hW => hcall j x W hx hW
        have hstep := keepI_take p CS j x hx
        obtain ⟨s0, s1, s2, rfl⟩ := hs x (List.mem_of_getElem? hx)
        have d0 : wr.cell? ⟨g, j * 3, none⟩ = some (.string s0) := cell_of_block hX (by have := hrest j _ (Nat.le_refl _) hx 0 _ rfl; simpa using this)
        have d1 : wr.cell? ⟨g, j * 3 + 1, none⟩ = some (.string s1) := cell_of_block hX (by have := hrest j _ (Nat.le_refl _) hx 1 _ rfl; simpa using this)
        have d2 : wr.cell? ⟨g, j * 3 + 2, none⟩ = some (.string s2) := cell_of_block hX (by have := hrest j _ (Nat.le_refl _) hx 2 _ rfl; simpa using this)
        have j0 : (0 : Int) ≤ (j : Int) := by omega
        have j1 : (j : Int) < (CS.length : Int) := by omega
        have hgr1 : w.grownBy (wr.alloc (.cells [.string s0, .string s1, .string s2].toArray 63)) (some g) := gr_trans hgr (gr_below _ (bel1 _ _))
        have HC1 := HC _ hgr1
        have hX1 := block_alloc_of hX (.cells [.string s0, .string s1, .string s2].toArray 63)
        have HX : Hid _ := hx
        have HR : Hid _ := hrest
        have HS : Hid _ := hstep
        have hgl := lt_of_block hX
        clear hx hrest HC hstep
        generalize hq : p j = q at HC1 HS
        cases q
        · have hone : (#[.string s0, .string s1, .string s2] : Array Value).all (·.oneCell') = true := by simp [Value.oneCell']
          go_wp2_with (first
            | (go_at_call 23; go_must (go_fit HC1; rintro e W' ⟨rfl, hbW⟩; have hXW := (hbW.block g (lt_of_block hX1)).trans hX1; have t0 := (hbW.block wr.heap.size (by simp)).trans (block_alloc_at wr (.cells [.string s0, .string s1, .string s2].toArray 63)); have x0 := cell_of_block t0 (j := 0) rfl; have x1 := cell_of_block t0 (j := 1) rfl; have x2 := cell_of_block t0 (j := 2) rfl; have hthere : W'.there g (i * 3) 3 := (fun r hr => ⟨by rw [cell_of_block hXW (j := i * 3 + r) (u := X[i * 3 + r]'(by omega)) (by simp)]; rfl, by simp [World.frozen?, hXW]⟩); have i0' : (0 : Int) ≤ (i : Int) := (by omega); have i1' : (i : Int) < (CS.length : Int) := (by omega)))
            | (refine wpList_store_mid rfl 63 _ _ rfl g (i * 3) #[.string s0, .string s1, .string s2] ?_ ?_ ?_ ?_ ?_ ?_; exact rfl; exact rfl; exact hthere; exact size_Idx; exact hone))
          go_roundw
          case rel =>
            refine ⟨_, _, _, _, _, _, _, _, _, _, _, _, _, _, _, _, _, _, _, _, _, _, _, ?_, rfl⟩
            refine ⟨i + 1, j + 1, splice X (i * 3) [.string s0, .string s1, .string s2], by omega, by omega, by go_num, by go_num, ?_, ?_, ?_, ?_, ?_, ?_⟩
            · exact rowCells_block [.string s0, .string s1, .string s2] (i * 3) X _ hXW (by simp; omega)
            · rw [length_splice _ _ _ (by simp; omega)]; exact hXL
            · show _ = _
              rw [HS.out]
              have e1 : (i + 1) * 3 = i * 3 + ([.string s0, .string s1, .string s2] : List Value).length := by simp; omega
              rw [e1, take_splice_all _ _ _ (by omega), HT.out]
              simp
            · show _ = _
              rw [HS.out]
              have := HL.out
              simp [← this]
            · intro m c hm hc r u hr
              rw [get_splice_behind _ _ _ _ (by omega) (by simp; omega)]
              exact HR.out m c (by omega) hc r u hr
            · exact gr_trans (gr_trans hgr1 (gr_below _ hbW)) (rowCells_grown g _ _)
          case measure => simp [intOf]; omega
        · go_wp2_with (go_at_call 23; go_must (go_fit HC1; rintro e W' ⟨rfl, hbW⟩))
          go_roundw
          case rel =>
            refine ⟨_, _, _, _, _, _, _, _, _, _, _, _, _, _, _, _, _, _, _, _, _, _, _, ?_, rfl⟩
            refine ⟨i, j + 1, X, by omega, by omega, by first | rfl | go_num, by go_num, (hbW.block g (lt_of_block hX1)).trans hX1, hXL, ?_, ?_, fun m c hm hc r u hr => HR.out m c (by omega) hc r u hr, gr_trans hgr1 (gr_below _ hbW)⟩
            · show _ = _
              rw [HS.out, HT.out]; simp
            · show _ = _
              rw [HS.out]; simpa using HL.out
          case measure => simp [intOf]; omega
      · have hjn : j = CS.length := by omega
        subst hjn
        rw [List.take_length] at HT HL
        have v1 : ¬ ((CS.length : Int) < (CS.length : Int)) := by omega
        have i0' : (0 : Int) ≤ (i : Int) := by omega
        have i1' : (i : Int) ≤ (CS.length : Int) := by omega
        have i2' : ¬ (cap = i) := by omega
        have i3' : (i : Int) ≤ (cap : Int) := by omega
        have hz : ∀ w, (zeroValue 63).run Try.prog w = .ok (.agg #[.string ⟨#[]⟩, .string ⟨#[]⟩, .string ⟨#[]⟩]) w := fun w => by
          obtain ⟨i9, hi9, hz9, _, _⟩ := info_parts info_Idx
          simp [zeroValue, typeInfo, hi9, hz9]
        have hzc : ∀ n, ∀ u ∈ (Builtin.zeroCells ((.agg #[.string ⟨#[]⟩, .string ⟨#[]⟩, .string ⟨#[]⟩]) : Value).cells n).toList, u.oneCell' = true := fun n u hu => zero_oneIdx n u hu
        obtain ⟨w2, Y, hrun, hY, hYl, hYt, hg2⟩ := run_clear_k (P := Try.prog) (w := wr) 23 63 3 (.agg #[.string ⟨#[]⟩, .string ⟨#[]⟩, .string ⟨#[]⟩]) Try.underlying23 hz rfl hzc g (i * 3) (CS.length - i) (cap - i) X 63 hX (by rw [hXL, Nat.sub_mul]; have : CS.length * 3 ≤ cap * 3 := Nat.mul_le_mul_right _ hncap; omega)
        have HY : Hid _ := hY
        have HYT : Hid _ := hYt
        clear hY hYt hz hzc
        go_wp2
        go_ret
        have hgg : w.grownBy w2 (some g) := gr_trans hgr hg2
        refine ⟨_, rfl, ?_, hgg, below_gr hgg hBg hB⟩
        rw [← HL.out]
        exact owns_mk hBg HY.out (by omega) hcapm (hYl.trans hXL) (HYT.out.trans HT.out)

end Go.Proofs.Ytabanbpnghidhaa

namespace Go.Proofs.Ytabanbpnghidhaa
open Go.RowKit Go.Maps

theorem strKeyed : Keyed Try.prog 9 := string_keyed Try.underlying9
theorem zeroInt (w : World) : (zeroValue 3).run Try.prog w = .ok (.int .i64 0) w := by kernel_rfl
/-- How often a name has come up. -/
def cntW (N : List Wd) (s : Wd) : Nat := N.countP fun x => decide (x = s)
theorem cntW_snoc (N : List Wd) (s t : Wd) : cntW (N ++ [s]) t = cntW N t + if s = t then 1 else 0 := by
  unfold cntW
  rw [List.countP_append]
  by_cases h : s = t <;> simp [h]
theorem cntW_le (N : List Wd) (s : Wd) : cntW N s ≤ N.length := List.countP_le_length
theorem cntW_pos (N : List Wd) (s : Wd) : 0 < cntW N s ↔ s ∈ N := by
  unfold cntW
  rw [List.countP_pos_iff]
  constructor
  · rintro ⟨x, hx, h⟩; simp at h; subst h; exact hx
  · intro h; exact ⟨s, h, by simp⟩
def memW (N : List Wd) (s : Wd) : Bool := N.any fun x => decide (x = s)
theorem memW_iff (N : List Wd) (s : Wd) : memW N s = true ↔ s ∈ N := by simp [memW]
/-- Block b counts the names N. -/
def Cnt (w : World) (b : Nat) (N : List Wd) : Prop :=
  ∃ (D : DataW Unit), w.ownsMap Try.prog 9 (plainElem Try.prog 3) b N.length D ∧ IsMap D ∧ ∀ s : Wd, s.size ≤ maxLen → D.atKey (.string s.data.toList) (.lit (.int .i64 0)) = .lit (.int .i64 (cntW N s : Nat))
theorem cnt_made (w : World) : Cnt (w.alloc (.map #[] 0)) w.heap.size [] :=
  ⟨.map [], World.ownsMap_made _ _ _ _, isMap_empty, fun _ _ => rfl⟩
theorem Cnt.lt {w : World} {b : Nat} {N : List Wd} (h : Cnt w b N) : b < w.heap.size := by obtain ⟨D, h1, _⟩ := h; exact h1.lt
theorem Cnt.kept {w w' : World} {b : Nat} {N : List Wd} {row : Option Nat} (h : Cnt w b N) (hg : w.grownBy w' row) (hne : some b ≠ row) : Cnt w' b N := by
  obtain ⟨D, h1, h2⟩ := h
  exact ⟨D, h1.kept hg hne, h2⟩
theorem grown_none {w w' : World} (h : Below w.heap.size w w') : w.grownBy w' none := ⟨h.os, h.tape, h.output, h.size, fun k hk _ => h.block k hk⟩
theorem Cnt.below {w w' : World} {b : Nat} {N : List Wd} (h : Cnt w b N) (hb : Below w.heap.size w w') : Cnt w' b N := h.kept (grown_none hb) (by simp)

set_option maxRecDepth 100000 in
set_option maxHeartbeats 2000000 in
theorem again_any (b : Nat) (N : List Wd) (s : Wd) (w : World) (h : Cnt w b N) (hs : s.size ≤ maxLen) (hN : N.length ≤ 16777216) :
    Calls Try.prog 97 #[.map (some b), .string s] w fun e w' => e = .returned (.bool (memW N s)) ∧ Cnt w' b (N ++ [s]) ∧ w.grownBy w' (some b) := by
  obtain ⟨D, hown, hmap, hD⟩ := h
  have hkey : Go.keyOf Try.prog 9 (.string s) = some (.string s.data.toList) := WideMaps.keyOf_string_mk Try.underlying9 hs
  have hle := cntW_le N s
  obtain ⟨c1, hrun1, hat1, _⟩ := hown.lookup_int strKeyed Try.underlying131 Try.underlying3 (zeroInt _) hkey
  have hc1 : c1 = (cntW N s : Nat) := by
    have := hD s hs
    rw [hat1] at this
    simpa using this
  subst hc1
  have hwr : wrap64 ((cntW N s : Int) + 1) = (cntW N s : Int) + 1 := by
    unfold wrap64; omega
  have hmem : Hid (memW N s = decide ((1 : Int) < (cntW N s : Int) + 1)) := by
    show _ = _
    rw [Bool.eq_iff_iff, memW_iff, decide_eq_true_eq, ← cntW_pos]; omega
  have HD : Hid (∀ t : Wd, t.size ≤ maxLen → (D.put (.string s.data.toList) (.lit (.int .i64 ((cntW N s : Int) + 1)))).atKey (.string t.data.toList) (.lit (.int .i64 0)) = .lit (.int .i64 (cntW (N ++ [s]) t : Nat))) := by
    intro t ht
    rw [cntW_snoc]
    by_cases hst : s = t
    · subst hst
      rw [atKey_put_same hmap (k := .string s.data.toList) (show True from trivial), if_pos rfl]
      simp
    · rw [atKey_put_other (fun e => hst (by
        have : t.data.toList = s.data.toList := by simpa using e
        exact (ByteArray.ext (Array.toList_inj.1 this)).symm)), hD t ht, if_neg hst]
      simp
  have hmp : IsMap (D.put (.string s.data.toList) (.lit (.int .i64 ((cntW N s : Int) + 1)))) := hmap.put _ _
  have hmap2 : Hid (IsMap D) := hmap
  generalize hcc : cntW N s = cc at *
  clear hcc hD hat1 hle hmap
  go_enter Try.func97, Try.ntmps97
  have hvl : plainElem (H := Unit) Try.prog 3 (.int .i64 (wrap64 ((cc : Int) + 1))) = some (.lit (.int .i64 ((cc : Int) + 1)), []) := by
    rw [plainElem_int Try.underlying3 (wrap64_wf _), hwr]
  go_wp2_with (at_mapUpdate; refine wpList_mapUpdate_own _ rfl _ _ _ 131 rfl 9 3 strKeyed Try.underlying131 _ b N.length _ rfl hown (by unfold maxLen; omega) _ _ _ rfl rfl hkey (.lit (.int .i64 ((cc : Int) + 1))) [] hvl ?_)
  intro w1 hown1 hg1
  obtain ⟨c2, hrun2, hat2, _⟩ := hown1.lookup_int strKeyed Try.underlying131 Try.underlying3 (zeroInt _) hkey
  have hc2 : c2 = (cc : Int) + 1 := by
    rw [atKey_put_same hmap2.out (k := .string s.data.toList) (show True from trivial)] at hat2
    simpa using hat2.symm
  subst hc2
  clear hat2 hrun1
  go_wp2
  go_ret
  exact ⟨ret_bool (by rw [hmem.out]), ⟨_, by rw [List.length_append]; exact hown1, hmp, HD.out⟩, hg1⟩

end Go.Proofs.Ytabanbpnghidhaa


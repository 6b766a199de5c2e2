/-
  Plain mathematics of chapter 5: what an expression comes to in a row; all that is below it, level by level. Nothing of the program.
-/
import Derived.Test.YtaiflkmlpjnmmaaDoorXPlain
import Derived.Test.YtaiflkmlpjnmmaaDoorTruth
import Derived.Test.YtaiflkmlpjnmmaaDoorCompare
namespace Go.Proofs.YtaiflkmlpjnmmaaDoor

/-- How many arguments an operation has. -/
def argc (op : Int) : Nat := if op = 9 ∨ op = 10 then 1 else if 3 ≤ op ∧ op ≤ 8 then 2 else 0
theorem argc_le (op : Int) : argc op ≤ 2 := by
  unfold argc
  split
  · decide
  · split <;> decide
/-- The arguments that count. -/
def kidsOf (op : Int) (l : List E) : List E := if l.length = argc op then l else []
def E.kids : E → List E
  | .mk op _ _ _ _ l => kidsOf op l
theorem kids_le (e : E) : e.kids.length ≤ 2 := by
  cases e with
  | mk op v s name n l =>
    simp only [E.kids, kidsOf]
    split
    · rename_i h; rw [h]; exact argc_le op
    · decide
/-- P5.1 -/
def ofV (v : V) : Int := if v.k = 3 then v.n % 2 else 2
def truthV (n : Int) : V := if n = 0 ∨ n = 1 then ⟨3, n, noW⟩ else zero
def whV (b : Bool) : V := ⟨3, if b then 1 else 0, noW⟩
def numV (n : Int) : V := if good ⟨1, n, noW⟩ then ⟨1, n, noW⟩ else zero
def rowV (row : List V) (n : Int) : V := if 0 ≤ n then (row[n.toNat]?).getD zero else zero
def noneV (op : Int) (x : V) (n : Int) (row : List V) : V := if op = 1 then x else if op = 2 then rowV row n else zero
def oneV (op : Int) (a : V) : V := if op = 9 then truthV (tNot (ofV a)) else if op = 10 then whV (decide (a.k = 0)) else zero
def knownV (v : V) : Bool := !decide (v.k = 0) && good v
/-- Of two known values of one kind. -/
def knV (op : Int) (a b : V) : V :=
  if op = 5 then whV (decide (cmpV a b = 0)) else if op = 6 then whV (decide (cmpV a b < 0)) else if a.k = 1 then (if op = 3 then numV (a.n + b.n) else if op = 4 then numV (a.n - b.n) else zero) else zero
def twoV (op : Int) (a b : V) : V :=
  if op = 7 then truthV (tAnd (ofV a) (ofV b)) else if op = 8 then truthV (tOr (ofV a) (ofV b)) else if knownV a = true ∧ knownV b = true ∧ a.k = b.k then knV op a b else zero
/-- What an expression comes to, by what its arguments came to. -/
def appV (op : Int) (x : V) (n : Int) (cs row : List V) : V :=
  match cs with
  | [a] => oneV op a
  | [a, b] => twoV op a b
  | _ => noneV op x n row
mutual
/-- P5.2, P5.3: what an expression comes to. -/
def ev (row : List V) : E → V
  | .mk op x _ _ n l => appV op x n (if l.length = argc op then evs row l else []) row
def evs (row : List V) : List E → List V
  | [] => []
  | e :: l => ev row e :: evs row l
end
theorem evs_map (row : List V) : ∀ l : List E, evs row l = l.map (ev row)
  | [] => by rw [evs]; rfl
  | e :: l => by rw [evs, evs_map row l]; rfl
theorem ev_kids (row : List V) (op : Int) (x : V) (s name : Wd) (n : Int) (l : List E) : ev row (.mk op x s name n l) = appV op x n ((kidsOf op l).map (ev row)) row := by
  rw [ev, kidsOf]
  split
  · rw [evs_map]
  · rfl

mutual
/-- How many there are at all. -/
def E.nodes : E → Nat
  | .mk _ _ _ _ _ l => nodesL l + 1
def nodesL : List E → Nat
  | [] => 0
  | e :: l => e.nodes + nodesL l
end
theorem nodesL_append : ∀ a b : List E, nodesL (a ++ b) = nodesL a + nodesL b
  | [], b => by simp [nodesL]
  | e :: a, b => by simp [nodesL, nodesL_append a b]; omega
theorem nodes_pos (e : E) : 0 < e.nodes := by cases e; simp [E.nodes]
theorem nodesL_len : ∀ l : List E, l.length ≤ nodesL l
  | [] => by simp [nodesL]
  | e :: l => by have := nodesL_len l; have := nodes_pos e; simp [nodesL]; omega
theorem nodes_kids (e : E) : nodesL e.kids + 1 ≤ e.nodes := by
  cases e with
  | mk op v s name n l =>
    simp only [E.kids, kidsOf, E.nodes]
    split
    · exact Nat.le_refl _
    · simp [nodesL]

/-- All that is below an expression, level by level, of which the first i are done. -/
structure Queue (e : E) (L : List E) (i : Nat) : Prop where
  eq : L = e :: (L.take i).flatMap E.kids
  le : i ≤ L.length
  few : i + nodesL (L.drop i) ≤ e.nodes
  ahead : ∀ j, j < i → j < 1 + ((L.take j).flatMap E.kids).length
  all : ∀ P : E → Prop, P e → (∀ y, P y → ∀ z ∈ y.kids, P z) → ∀ x ∈ L, P x
theorem queue_start (e : E) : Queue e [e] 0 := ⟨rfl, by simp, by simp [nodesL], fun j h => absurd h (by omega), fun P h _ x hx => by simp at hx; subst hx; exact h⟩
theorem Queue.len {e : E} {L : List E} {i : Nat} (h : Queue e L i) : L.length ≤ e.nodes := by
  have := nodesL_len (L.drop i)
  have := h.few
  rw [List.length_drop] at *
  omega
theorem Queue.step {e : E} {L : List E} {i : Nat} (h : Queue e L i) {x : E} (hx : L[i]? = some x) : Queue e (L ++ x.kids) (i + 1) := by
  have hi : i < L.length := by rw [List.getElem?_eq_some_iff] at hx; exact hx.1
  have ht : (L ++ x.kids).take (i + 1) = L.take i ++ [x] := by
    rw [List.take_append_of_le_length (by omega), List.take_add_one, hx]; rfl
  have hd : L.drop i = x :: L.drop (i + 1) := by
    rw [List.drop_eq_getElem_cons hi]
    rw [List.getElem?_eq_getElem hi] at hx
    simp at hx
    rw [hx]
  refine ⟨?_, by rw [List.length_append]; omega, ?_, fun j hj => ?_, fun P h1 h2 y hy => ?_⟩
  · rw [ht, List.flatMap_append]
    conv => lhs; rw [h.eq]
    simp
  · have h1 := h.few
    have h2 := nodes_kids x
    rw [hd] at h1
    rw [List.drop_append_of_le_length (by omega), nodesL_append]
    simp only [nodesL] at h1
    omega
  · rw [List.take_append_of_le_length (by omega)]
    rcases Nat.lt_or_eq_of_le (Nat.lt_succ_iff.mp hj) with h1 | h1
    · exact h.ahead j h1
    · subst h1
      have : L.length = 1 + ((L.take j).flatMap E.kids).length := by
        conv => lhs; rw [h.eq]
        simp; omega
      omega
  · rcases List.mem_append.1 hy with hy | hy
    · exact h.all P h1 h2 y hy
    · exact h2 x (h.all P h1 h2 x (List.mem_of_getElem? hx)) y hy
/-- Where the arguments of the i-th begin. -/
def beg (L : List E) (i : Nat) : Nat := 1 + ((L.take i).flatMap E.kids).length
theorem beg_succ {L : List E} {i : Nat} {x : E} (hx : L[i]? = some x) : beg L (i + 1) = beg L i + x.kids.length := by
  unfold beg
  rw [List.take_add_one, hx, List.flatMap_append]
  simp; omega
theorem Queue.whole {e : E} {L : List E} (h : Queue e L L.length) : beg L L.length = L.length := by
  unfold beg
  conv => rhs; rw [h.eq]
  simp; omega
theorem Queue.own {e : E} {L : List E} (h : Queue e L L.length) {i : Nat} {x : E} (hx : L[i]? = some x) : (L.drop (beg L i)).take x.kids.length = x.kids := by
  have hi : i < L.length := by rw [List.getElem?_eq_some_iff] at hx; exact hx.1
  have hL := h.eq
  rw [List.take_length] at hL
  have hd : L.drop i = x :: L.drop (i + 1) := by
    rw [List.drop_eq_getElem_cons hi]
    rw [List.getElem?_eq_getElem hi] at hx
    simp at hx
    rw [hx]
  have hsplit : L.flatMap E.kids = (L.take i).flatMap E.kids ++ (x.kids ++ (L.drop (i + 1)).flatMap E.kids) := by
    conv => lhs; rw [← List.take_append_drop i L, hd]
    simp
  conv => lhs; rw [hL]
  rw [show beg (e :: L.flatMap E.kids) i = ((L.take i).flatMap E.kids).length + 1 from by
    unfold beg
    rw [← hL]; omega]
  rw [List.drop_succ_cons, hsplit, List.drop_left, List.take_left]
theorem Queue.behind {e : E} {L : List E} (h : Queue e L L.length) {i : Nat} (hi : i < L.length) : i < beg L i := h.ahead i hi
theorem Queue.at {e : E} {L : List E} (h : Queue e L L.length) {i : Nat} {x : E} (hx : L[i]? = some x) {j : Nat} {y : E} (hy : x.kids[j]? = some y) : L[beg L i + j]? = some y := by
  rw [← h.own hx, List.getElem?_take] at hy
  split at hy
  · rwa [List.getElem?_drop] at hy
  · cases hy
theorem Queue.beg_le {e : E} {L : List E} (h : Queue e L L.length) (i : Nat) : beg L i ≤ L.length := by
  rw [← h.whole]
  unfold beg
  rw [List.take_length]
  conv => rhs; rw [← List.take_append_drop i L]
  rw [List.flatMap_append, List.length_append]
  omega
theorem Queue.first {e : E} {L : List E} {i : Nat} (h : Queue e L i) : L[0]? = some e := by rw [h.eq]; rfl

end Go.Proofs.YtaiflkmlpjnmmaaDoor

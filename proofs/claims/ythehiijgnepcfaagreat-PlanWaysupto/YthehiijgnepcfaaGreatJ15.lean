/-
  6 texts of this proof in one, in build order: QWhere4, QWhere5, Truth, XMath, QMath, QSound.
-/
import Derived.Deep.CutRange
import Derived.Test.YthehiijgnepcfaaGreatRows
import Derived.WalkKit
import Derived.Test.YthehiijgnepcfaaGreatJ01
import Derived.Test.YthehiijgnepcfaaGreatJ02
import Derived.Test.YthehiijgnepcfaaGreatJ05
import Derived.Test.YthehiijgnepcfaaGreatJ10
import Derived.Test.YthehiijgnepcfaaGreatJ12
import Derived.Test.YthehiijgnepcfaaGreatJ14
namespace Go.Proofs.YthehiijgnepcfaaGreat
open Go.RowKit

theorem whereCompared_any (at' col : Int) (op : Int) (pop pk pn : Int) (px ps pm : Wd) (pi : Int) (pa : Option Addr) (pl pc : Nat) (qop qk qn : Int) (qx qs qm : Wd) (qi : Int) (qa : Option Addr) (ql qc : Nat) (yes : Bool) (w : World) (hop : op = 5 ∨ op = 6) (hp : LeafOK pop ⟨pk, pn, px⟩ pi) (hq : LeafOK qop ⟨qk, qn, qx⟩ qi) :
    Calls Tryz.prog 70 #[.agg #[.int .i64 at', .int .i64 col], .int .i64 op, .agg #[.int .i64 pop, .int .i64 pk, .int .i64 pn, .string px, .string ps, .string pm, .int .i64 pi, .slice pa pl pc], .agg #[.int .i64 qop, .int .i64 qk, .int .i64 qn, .string qx, .string qs, .string qm, .int .i64 qi, .slice qa ql qc], .bool yes] w fun e w' => e = .returned (cmpSp at' col op pop ⟨pk, pn, px⟩ pi qop ⟨qk, qn, qx⟩ qi yes).val ∧ Below w.heap.size w w' := by
  have HNa := fun W => isNothing_any pop ⟨pk, pn, px⟩ ps pm pi pa pl pc W
  have HNb := fun W => isNothing_any qop ⟨qk, qn, qx⟩ qs qm qi qa ql qc W
  have HIa := fun W => colIs_any at' col pop ⟨pk, pn, px⟩ ps pm pi pa pl pc W hp.2.2
  have HIb := fun W => colIs_any at' col qop ⟨qk, qn, qx⟩ qs qm qi qa ql qc W hq.2.2
  cases n1 : isNo pop pk with
  | true =>
    rw [n1] at HNa
    rw [show cmpSp at' col op pop ⟨pk, pn, px⟩ pi qop ⟨qk, qn, qx⟩ qi yes = noS from by unfold cmpSp; simp [n1]]
    exact cmp_na at' col op pop pk pn px ps pm pi pa pl pc qop qk qn qx qs qm qi qa ql qc yes w HNa
  | false =>
  rw [n1] at HNa
  cases n2 : isNo qop qk with
  | true =>
    rw [n2] at HNb
    rw [show cmpSp at' col op pop ⟨pk, pn, px⟩ pi qop ⟨qk, qn, qx⟩ qi yes = noS from by unfold cmpSp; simp [n2]]
    exact cmp_nb at' col op pop pk pn px ps pm pi pa pl pc qop qk qn qx qs qm qi qa ql qc yes w HNa HNb
  | false =>
  rw [n2] at HNb
  rcases hop with rfl | rfl
  · cases i1 : isC at' col pop pi with
    | true =>
      rw [i1] at HIa
      have h2 := isC_op i1
      by_cases q1 : qop = 1
      · rw [show cmpSp at' col 5 pop ⟨pk, pn, px⟩ pi qop ⟨qk, qn, qx⟩ qi yes = likeS ⟨qk, qn, qx⟩ yes from by unfold cmpSp; simp_all]
        subst q1
        exact cmp5_a at' col pop pk pn px ps pm pi pa pl pc qk qn qx qs qm qi qa ql qc yes _ _ w HNa HNb HIa (fun W => like_any ⟨qk, qn, qx⟩ yes W (hq.1 rfl) hq.2.1)
      · rw [show cmpSp at' col 5 pop ⟨pk, pn, px⟩ pi qop ⟨qk, qn, qx⟩ qi yes = begS noW from by unfold cmpSp; simp_all]
        subst h2
        exact cmp5_b at' col pk pn px ps pm pi pa pl pc qop qk qn qx qs qm qi qa ql qc yes _ _ w HNa HNb HIa q1 begun0_any
    | false =>
      rw [i1] at HIa
      by_cases p1 : pop = 1
      · cases i2 : isC at' col qop qi with
        | true =>
          rw [i2] at HIb
          rw [show cmpSp at' col 5 pop ⟨pk, pn, px⟩ pi qop ⟨qk, qn, qx⟩ qi yes = likeS ⟨pk, pn, px⟩ yes from by unfold cmpSp; simp_all]
          subst p1
          exact cmp5_d at' col pk pn px ps pm pi pa pl pc qop qk qn qx qs qm qi qa ql qc yes _ _ w HNa HNb HIa HIb (fun W => like_any ⟨pk, pn, px⟩ yes W (hp.1 rfl) hp.2.1)
        | false =>
          rw [i2] at HIb
          rw [show cmpSp at' col 5 pop ⟨pk, pn, px⟩ pi qop ⟨qk, qn, qx⟩ qi yes = begS noW from by unfold cmpSp; simp_all]
          subst p1
          exact cmp5_e at' col pk pn px ps pm pi pa pl pc qop qk qn qx qs qm qi qa ql qc yes _ _ w HNa HNb HIa HIb begun0_any
      · rw [show cmpSp at' col 5 pop ⟨pk, pn, px⟩ pi qop ⟨qk, qn, qx⟩ qi yes = begS noW from by unfold cmpSp; simp_all]
        exact cmp5_c at' col pop pk pn px ps pm pi pa pl pc qop qk qn qx qs qm qi qa ql qc yes _ _ w HNa HNb HIa p1 begun0_any
  · cases i1 : isC at' col pop pi with
    | true =>
      rw [i1] at HIa
      have h2 := isC_op i1
      by_cases q1 : qop = 1
      · rw [show cmpSp at' col 6 pop ⟨pk, pn, px⟩ pi qop ⟨qk, qn, qx⟩ qi yes = aheadS ⟨qk, qn, qx⟩ yes from by unfold cmpSp; simp_all]
        subst q1
        exact cmp6_a at' col pop pk pn px ps pm pi pa pl pc qk qn qx qs qm qi qa ql qc yes _ _ w HNa HNb HIa (fun W => ahead_any ⟨qk, qn, qx⟩ yes W (hq.1 rfl) hq.2.1)
      · rw [show cmpSp at' col 6 pop ⟨pk, pn, px⟩ pi qop ⟨qk, qn, qx⟩ qi yes = begS noW from by unfold cmpSp; simp_all]
        subst h2
        exact cmp6_b at' col pk pn px ps pm pi pa pl pc qop qk qn qx qs qm qi qa ql qc yes _ _ w HNa HNb HIa q1 begun0_any
    | false =>
      rw [i1] at HIa
      by_cases p1 : pop = 1
      · cases i2 : isC at' col qop qi with
        | true =>
          rw [i2] at HIb
          rw [show cmpSp at' col 6 pop ⟨pk, pn, px⟩ pi qop ⟨qk, qn, qx⟩ qi yes = behindS ⟨pk, pn, px⟩ yes from by unfold cmpSp; simp_all]
          subst p1
          exact cmp6_d at' col pk pn px ps pm pi pa pl pc qop qk qn qx qs qm qi qa ql qc yes _ _ w HNa HNb HIa HIb (fun W => behind_any ⟨pk, pn, px⟩ yes W (hp.1 rfl) hp.2.1)
        | false =>
          rw [i2] at HIb
          rw [show cmpSp at' col 6 pop ⟨pk, pn, px⟩ pi qop ⟨qk, qn, qx⟩ qi yes = begS noW from by unfold cmpSp; simp_all]
          subst p1
          exact cmp6_e at' col pk pn px ps pm pi pa pl pc qop qk qn qx qs qm qi qa ql qc yes _ _ w HNa HNb HIa HIb begun0_any
      · rw [show cmpSp at' col 6 pop ⟨pk, pn, px⟩ pi qop ⟨qk, qn, qx⟩ qi yes = begS noW from by unfold cmpSp; simp_all]
        exact cmp6_c at' col pop pk pn px ps pm pi pa pl pc qop qk qn qx qs qm qi qa ql qc yes _ _ w HNa HNb HIa p1 begun0_any

end Go.Proofs.YthehiijgnepcfaaGreat

namespace Go.Proofs.YthehiijgnepcfaaGreat
open Go.RowKit

/-- P6.2: the span of what a column is in all rows for which a condition is yes; or is no. -/
def whereS (at' col : Int) : Nat → E → Bool → Sp
  | 0, _, _ => begS noW
  | d + 1, .mk op _ _ _ _ l, yes =>
    if op = 9 then (match l with | a :: _ => whereS at' col d a (!yes) | [] => begS noW)
    else if op = 7 ∨ op = 8 then (match l with | a :: b :: _ => (if yes = decide (op = 7) then (whereS at' col d a yes).both (whereS at' col d b yes) else (whereS at' col d a yes).either (whereS at' col d b yes)) | _ => begS noW)
    else if op = 10 then (match l with | a :: _ => isS at' col a.opI a.nI yes | [] => begS noW)
    else if op = 5 ∨ op = 6 then (match l with | a :: b :: _ => cmpSp at' col op a.opI a.vV a.nI b.opI b.vV b.nI yes | _ => begS noW)
    else if op = 1 then noS else begS noW
/-- Two spans lie in two variables. -/
def TwoSp (V wx : World) (pa pb : Nat) (l1 h1 l2 h2 : Wd) : Prop :=
  wx.heap[pa]? = some (.cells #[.string l1, .string h1] 81) ∧ wx.heap[pb]? = some (.cells #[.string l2, .string h2] 81) ∧ Below V.heap.size V wx
theorem set2_block {w : World} {g : Nat} {p q a b : Value} {t : TypeId} (h : w.heap[g]? = some (.cells #[p, q] t)) : ((w.setCell ⟨g, 0, none⟩ a).setCell ⟨g, 1, none⟩ b).heap[g]? = some (.cells #[a, b] t) := by
  rw [upd (upd h 0 a) 1 b]; rfl
theorem set2_other {w : World} {g b : Nat} {x : Obj} {a c : Value} (h : w.heap[b]? = some x) (hn : b ≠ g) : ((w.setCell ⟨g, 0, none⟩ a).setCell ⟨g, 1, none⟩ c).heap[b]? = some x := by
  simp only [World.setCell, Array.getElem?_modify]
  rw [if_neg (fun e => hn e.symm), if_neg (fun e => hn e.symm)]; exact h
theorem size_setQ (w : World) (p : Addr) (v : Value) : (w.setCell p v).heap.size = w.heap.size := by simp [World.setCell]
theorem size_set2 (w : World) (g : Nat) (a c : Value) : ((w.setCell ⟨g, 0, none⟩ a).setCell ⟨g, 1, none⟩ c).heap.size = w.heap.size := by rw [size_setQ, size_setQ]
theorem ts_new {V w2 : World} {l1 h1 l2 h2 : Wd} (hz : Below V.heap.size V w2) : TwoSp V ((w2.alloc (.cells #[.string l1, .string h1] 81)).alloc (.cells #[.string l2, .string h2] 81)) w2.heap.size (w2.heap.size + 1) l1 h1 l2 h2 :=
  ⟨block_alloc_of (block_alloc_at _ _) _, block_alloc_is (size_a1 _ _) _, balloc (balloc hz _) _⟩
theorem ts_new' {V w2 : World} {l1 h1 l2 h2 : Wd} (hz : Below V.heap.size V w2) : TwoSp V ((w2.alloc (.cells #[.string l2, .string h2] 81)).alloc (.cells #[.string l1, .string h1] 81)) (w2.heap.size + 1) w2.heap.size l1 h1 l2 h2 := by
  obtain ⟨a, b, e⟩ := ts_new (l1 := l2) (h1 := h2) (l2 := l1) (h2 := h1) hz
  exact ⟨b, a, e⟩
theorem ts_half {V w2 : World} {l1 h1 l2 h2 : Wd} {g : Nat} (hz : Below V.heap.size V w2) (p : w2.heap[g]? = some (.cells #[.string noW, .string noW] 81)) (hg : V.heap.size ≤ g) :
    TwoSp V (((w2.setCell ⟨g, 0, none⟩ (.string l1)).setCell ⟨g, 1, none⟩ (.string h1)).alloc (.cells #[.string l2, .string h2] 81)) g w2.heap.size l1 h1 l2 h2 :=
  ⟨block_alloc_of (set2_block p) _, block_alloc_is (size_set2 _ _ _ _) _, balloc (bset (bset hz hg _) hg _) _⟩
theorem ts_half' {V w2 : World} {l1 h1 l2 h2 : Wd} {g : Nat} (hz : Below V.heap.size V w2) (p : w2.heap[g]? = some (.cells #[.string noW, .string noW] 81)) (hg : V.heap.size ≤ g) :
    TwoSp V (((w2.setCell ⟨g, 0, none⟩ (.string l2)).setCell ⟨g, 1, none⟩ (.string h2)).alloc (.cells #[.string l1, .string h1] 81)) w2.heap.size g l1 h1 l2 h2 := by
  obtain ⟨a, b, e⟩ := ts_half (l1 := l2) (h1 := h2) (l2 := l1) (h2 := h1) hz p hg
  exact ⟨b, a, e⟩
theorem ts_halfB {V w2 : World} {l1 h1 l2 h2 : Wd} {g : Nat} (hz : Below V.heap.size V w2) (p : w2.heap[g]? = some (.cells #[.string noW, .string noW] 81)) (hg : V.heap.size ≤ g) :
    TwoSp V (((w2.alloc (.cells #[.string l2, .string h2] 81)).setCell ⟨g, 0, none⟩ (.string l1)).setCell ⟨g, 1, none⟩ (.string h1)) g w2.heap.size l1 h1 l2 h2 :=
  ⟨set2_block (block_alloc_of p _), set2_other (block_alloc_at _ _) (by have := lt_of_block p; omega), bset (bset (balloc hz _) hg _) hg _⟩
theorem ts_halfB' {V w2 : World} {l1 h1 l2 h2 : Wd} {g : Nat} (hz : Below V.heap.size V w2) (p : w2.heap[g]? = some (.cells #[.string noW, .string noW] 81)) (hg : V.heap.size ≤ g) :
    TwoSp V (((w2.alloc (.cells #[.string l1, .string h1] 81)).setCell ⟨g, 0, none⟩ (.string l2)).setCell ⟨g, 1, none⟩ (.string h2)) w2.heap.size g l1 h1 l2 h2 := by
  obtain ⟨a, b, e⟩ := ts_halfB (l1 := l2) (h1 := h2) (l2 := l1) (h2 := h1) hz p hg
  exact ⟨b, a, e⟩
theorem ts_both {V w2 : World} {l1 h1 l2 h2 : Wd} {g g' : Nat} (hz : Below V.heap.size V w2) (p : w2.heap[g]? = some (.cells #[.string noW, .string noW] 81)) (p' : w2.heap[g']? = some (.cells #[.string noW, .string noW] 81)) (hg : V.heap.size ≤ g) (hg' : V.heap.size ≤ g') (hne : g ≠ g') :
    TwoSp V ((((w2.setCell ⟨g, 0, none⟩ (.string l1)).setCell ⟨g, 1, none⟩ (.string h1)).setCell ⟨g', 0, none⟩ (.string l2)).setCell ⟨g', 1, none⟩ (.string h2)) g g' l1 h1 l2 h2 :=
  ⟨set2_other (set2_block p) hne, set2_block (set2_other p' (Ne.symm hne)), bset (bset (bset (bset hz hg _) hg _) hg' _) hg' _⟩


end Go.Proofs.YthehiijgnepcfaaGreat

namespace Go.Proofs.YthehiijgnepcfaaGreat
open Go.RowKit

def tAnd (a b : Int) : Int := if a = 0 ∨ b = 0 then 0 else if a = 1 ∧ b = 1 then 1 else 2
def tOr (a b : Int) : Int := if a = 1 ∨ b = 1 then 1 else if a = 0 ∧ b = 0 then 0 else 2
def tNot (a : Int) : Int := if a = 0 then 1 else if a = 1 then 0 else 2


set_option maxHeartbeats 400000 in
theorem and_any (a b : Int) (w : World) : Calls Tryz.prog 160 #[.int .i64 a, .int .i64 b] w fun e w' => e = .returned (.int .i64 (tAnd a b)) ∧ w' = w := by
  by_cases ha0 : a = 0 <;> by_cases hb0 : b = 0 <;> by_cases ha1 : a = 1 <;> by_cases hb1 : b = 1
  all_goals
    go_enter Tryz.func160, Tryz.ntmps160
    go_wp2
    all_goals
      go_ret
      exact ⟨ret_int (by simp_all [tAnd]), rfl⟩

set_option maxHeartbeats 400000 in
theorem or_any (a b : Int) (w : World) : Calls Tryz.prog 161 #[.int .i64 a, .int .i64 b] w fun e w' => e = .returned (.int .i64 (tOr a b)) ∧ w' = w := by
  by_cases ha0 : a = 0 <;> by_cases hb0 : b = 0 <;> by_cases ha1 : a = 1 <;> by_cases hb1 : b = 1
  all_goals
    go_enter Tryz.func161, Tryz.ntmps161
    go_wp2
    all_goals
      go_ret
      exact ⟨ret_int (by simp_all [tOr]), rfl⟩

set_option maxHeartbeats 400000 in
theorem not_any (a : Int) (w : World) : Calls Tryz.prog 158 #[.int .i64 a] w fun e w' => e = .returned (.int .i64 (tNot a)) ∧ w' = w := by
  by_cases ha0 : a = 0 <;> by_cases ha1 : a = 1
  all_goals
    go_enter Tryz.func158, Tryz.ntmps158
    go_wp2
    all_goals
      go_ret
      exact ⟨ret_int (by simp_all [tNot]), rfl⟩

end Go.Proofs.YthehiijgnepcfaaGreat

namespace Go.Proofs.YthehiijgnepcfaaGreat

/-- How many arguments an operation has. -/
def argc (op : Int) : Nat := if op = 9 ∨ op = 10 then 1 else if 3 ≤ op ∧ op ≤ 8 then 2 else 0
theorem argc_le (op : Int) : argc op ≤ 2 := by
  unfold argc
  split
  · decide
  · split <;> decide
/-- The arguments that count. -/
def kidsOf (op : Int) (l : List E) : List E := if l.length = argc op then l else []
def E.kids : E → List E
  | .mk op _ _ _ _ l => kidsOf op l
theorem kids_le (e : E) : e.kids.length ≤ 2 := by
  cases e with
  | mk op v s name n l =>
    simp only [E.kids, kidsOf]
    split
    · rename_i h; rw [h]; exact argc_le op
    · decide
/-- P5.1 -/
def ofV (v : V) : Int := if v.k = 3 then v.n % 2 else 2
def truthV (n : Int) : V := if n = 0 ∨ n = 1 then ⟨3, n, noW⟩ else zero
def whV (b : Bool) : V := ⟨3, if b then 1 else 0, noW⟩
def numV (n : Int) : V := if good ⟨1, n, noW⟩ then ⟨1, n, noW⟩ else zero
def rowV (row : List V) (n : Int) : V := if 0 ≤ n then (row[n.toNat]?).getD zero else zero
def noneV (op : Int) (x : V) (n : Int) (row : List V) : V := if op = 1 then x else if op = 2 then rowV row n else zero
def uniV (op : Int) (a : V) : V := if op = 9 then truthV (tNot (ofV a)) else if op = 10 then whV (decide (a.k = 0)) else zero
def knownV (v : V) : Bool := !decide (v.k = 0) && good v
/-- Of two known values of one kind. -/
def knV (op : Int) (a b : V) : V :=
  if op = 5 then whV (decide (cmpV a b = 0)) else if op = 6 then whV (decide (cmpV a b < 0)) else if a.k = 1 then (if op = 3 then numV (a.n + b.n) else if op = 4 then numV (a.n - b.n) else zero) else zero
def twoV (op : Int) (a b : V) : V :=
  if op = 7 then truthV (tAnd (ofV a) (ofV b)) else if op = 8 then truthV (tOr (ofV a) (ofV b)) else if knownV a = true ∧ knownV b = true ∧ a.k = b.k then knV op a b else zero
/-- What an expression comes to, by what its arguments came to. -/
def appV (op : Int) (x : V) (n : Int) (cs row : List V) : V :=
  match cs with
  | [a] => uniV op a
  | [a, b] => twoV op a b
  | _ => noneV op x n row
mutual
/-- P5.2, P5.3: what an expression comes to. -/
def ev (row : List V) : E → V
  | .mk op x _ _ n l => appV op x n (if l.length = argc op then evs row l else []) row
def evs (row : List V) : List E → List V
  | [] => []
  | e :: l => ev row e :: evs row l
end
theorem evs_map (row : List V) : ∀ l : List E, evs row l = l.map (ev row)
  | [] => by rw [evs]; rfl
  | e :: l => by rw [evs, evs_map row l]; rfl
theorem ev_kids (row : List V) (op : Int) (x : V) (s name : Wd) (n : Int) (l : List E) : ev row (.mk op x s name n l) = appV op x n ((kidsOf op l).map (ev row)) row := by
  rw [ev, kidsOf]
  split
  · rw [evs_map]
  · rfl

mutual
/-- How many there are at all. -/
def E.nodes : E → Nat
  | .mk _ _ _ _ _ l => nodesL l + 1
def nodesL : List E → Nat
  | [] => 0
  | e :: l => e.nodes + nodesL l
end
theorem nodesL_append : ∀ a b : List E, nodesL (a ++ b) = nodesL a + nodesL b
  | [], b => by simp [nodesL]
  | e :: a, b => by simp [nodesL, nodesL_append a b]; omega
theorem nodes_pos (e : E) : 0 < e.nodes := by cases e; simp [E.nodes]
theorem nodesL_len : ∀ l : List E, l.length ≤ nodesL l
  | [] => by simp [nodesL]
  | e :: l => by have := nodesL_len l; have := nodes_pos e; simp [nodesL]; omega
theorem nodes_kids (e : E) : nodesL e.kids + 1 ≤ e.nodes := by
  cases e with
  | mk op v s name n l =>
    simp only [E.kids, kidsOf, E.nodes]
    split
    · exact Nat.le_refl _
    · simp [nodesL]

/-- All that is below an expression, level by level, of which the first i are done. -/
structure Queue (e : E) (L : List E) (i : Nat) : Prop where
  eq : L = e :: (L.take i).flatMap E.kids
  le : i ≤ L.length
  few : i + nodesL (L.drop i) ≤ e.nodes
  ahead : ∀ j, j < i → j < 1 + ((L.take j).flatMap E.kids).length
  all : ∀ P : E → Prop, P e → (∀ y, P y → ∀ z ∈ y.kids, P z) → ∀ x ∈ L, P x
theorem queue_start (e : E) : Queue e [e] 0 := ⟨rfl, by simp, by simp [nodesL], fun j h => absurd h (by omega), fun P h _ x hx => by simp at hx; subst hx; exact h⟩
theorem Queue.len {e : E} {L : List E} {i : Nat} (h : Queue e L i) : L.length ≤ e.nodes := by
  have := nodesL_len (L.drop i)
  have := h.few
  rw [List.length_drop] at *
  omega
theorem Queue.step {e : E} {L : List E} {i : Nat} (h : Queue e L i) {x : E} (hx : L[i]? = some x) : Queue e (L ++ x.kids) (i + 1) := by
  have hi : i < L.length := by rw [List.getElem?_eq_some_iff] at hx; exact hx.1
  have ht : (L ++ x.kids).take (i + 1) = L.take i ++ [x] := by
    rw [List.take_append_of_le_length (by omega), List.take_add_one, hx]; rfl
  have hd : L.drop i = x :: L.drop (i + 1) := by
    rw [List.drop_eq_getElem_cons hi]
    rw [List.getElem?_eq_getElem hi] at hx
    simp at hx
    rw [hx]
  refine ⟨?_, by rw [List.length_append]; omega, ?_, fun j hj => ?_, fun P h1 h2 y hy => ?_⟩
  · rw [ht, List.flatMap_append]
    conv => lhs; rw [h.eq]
    simp
  · have h1 := h.few
    have h2 := nodes_kids x
    rw [hd] at h1
    rw [List.drop_append_of_le_length (by omega), nodesL_append]
    simp only [nodesL] at h1
    omega
  · rw [List.take_append_of_le_length (by omega)]
    rcases Nat.lt_or_eq_of_le (Nat.lt_succ_iff.mp hj) with h1 | h1
    · exact h.ahead j h1
    · subst h1
      have : L.length = 1 + ((L.take j).flatMap E.kids).length := by
        conv => lhs; rw [h.eq]
        simp; omega
      omega
  · rcases List.mem_append.1 hy with hy | hy
    · exact h.all P h1 h2 y hy
    · exact h2 x (h.all P h1 h2 x (List.mem_of_getElem? hx)) y hy
/-- Where the arguments of the i-th begin. -/
def beg (L : List E) (i : Nat) : Nat := 1 + ((L.take i).flatMap E.kids).length
theorem beg_succ {L : List E} {i : Nat} {x : E} (hx : L[i]? = some x) : beg L (i + 1) = beg L i + x.kids.length := by
  unfold beg
  rw [List.take_add_one, hx, List.flatMap_append]
  simp; omega
theorem Queue.whole {e : E} {L : List E} (h : Queue e L L.length) : beg L L.length = L.length := by
  unfold beg
  conv => rhs; rw [h.eq]
  simp; omega
theorem Queue.own {e : E} {L : List E} (h : Queue e L L.length) {i : Nat} {x : E} (hx : L[i]? = some x) : (L.drop (beg L i)).take x.kids.length = x.kids := by
  have hi : i < L.length := by rw [List.getElem?_eq_some_iff] at hx; exact hx.1
  have hL := h.eq
  rw [List.take_length] at hL
  have hd : L.drop i = x :: L.drop (i + 1) := by
    rw [List.drop_eq_getElem_cons hi]
    rw [List.getElem?_eq_getElem hi] at hx
    simp at hx
    rw [hx]
  have hsplit : L.flatMap E.kids = (L.take i).flatMap E.kids ++ (x.kids ++ (L.drop (i + 1)).flatMap E.kids) := by
    conv => lhs; rw [← List.take_append_drop i L, hd]
    simp
  conv => lhs; rw [hL]
  rw [show beg (e :: L.flatMap E.kids) i = ((L.take i).flatMap E.kids).length + 1 from by
    unfold beg
    rw [← hL]; omega]
  rw [List.drop_succ_cons, hsplit, List.drop_left, List.take_left]
theorem Queue.behind {e : E} {L : List E} (h : Queue e L L.length) {i : Nat} (hi : i < L.length) : i < beg L i := h.ahead i hi
theorem Queue.at {e : E} {L : List E} (h : Queue e L L.length) {i : Nat} {x : E} (hx : L[i]? = some x) {j : Nat} {y : E} (hy : x.kids[j]? = some y) : L[beg L i + j]? = some y := by
  rw [← h.own hx, List.getElem?_take] at hy
  split at hy
  · rwa [List.getElem?_drop] at hy
  · cases hy
theorem Queue.beg_le {e : E} {L : List E} (h : Queue e L L.length) (i : Nat) : beg L i ≤ L.length := by
  rw [← h.whole]
  unfold beg
  rw [List.take_length]
  conv => rhs; rw [← List.take_append_drop i L]
  rw [List.flatMap_append, List.length_append]
  omega
theorem Queue.first {e : E} {L : List E} {i : Nat} (h : Queue e L i) : L[0]? = some e := by rw [h.eq]; rfl

end Go.Proofs.YthehiijgnepcfaaGreat

namespace Go.Proofs.YthehiijgnepcfaaGreat
open Go.RowKit

/-- Is a key in a span? -/
def inSp (s : Sp) (k : List UInt8) : Prop := Op.bytesLess k s.lo.data.toList = false ∧ Op.bytesLess k s.hi.data.toList = true
/-- What may follow a value in a key. -/
def okT (T : List UInt8) : Prop := Op.bytesLess T [255] = true
theorem less_nil' (l : List UInt8) : Op.bytesLess l [] = false := by cases l <;> rfl
theorem kb_data {v : V} (h : good v = true) : (kb v).data.toList = keyOf v := by unfold kb; rw [str_data, key_one h]
theorem app_data (a b : Wd) : (a ++ b).data.toList = a.data.toList ++ b.data.toList := by simp [ByteArray.data_append]
theorem ff_data : ffW.data.toList = [255] := rfl
theorem ext_data (a : Wd) : (a.extract 0 1).data.toList = a.data.toList.take 1 := by
  simp [ByteArray.data_extract]
/-- The first byte of a key says its kind; what follows it is no 255. -/
theorem keyOf_split {v : V} (hg : good v = true) (T : List UInt8) (hT : okT T) : ∃ t, keyOf v = UInt8.ofNat (v.k.toNat + 1) :: t ∧ Op.bytesLess (t ++ T) [255] = true := by
  rcases good_kind hg with h | h | h
  · refine ⟨[], by rw [keyOf_nothing h, h]; rfl, by rw [List.nil_append]; exact hT⟩
  · refine ⟨be4 (v.n + 1073741824).toNat, by rw [keyOf_number h, h]; rfl, ?_⟩
    have hn := good_num h hg
    have h1 : UInt8.ofNat ((v.n + 1073741824).toNat / 16777216) < 255 := u8_lt (b := 255) (by omega) (by decide) (by omega)
    simp only [be4, List.cons_append]
    exact less_lt h1 _ _
  · refine ⟨v.s.data.toList ++ [0], by rw [keyOf_text h, h]; rfl, ?_⟩
    cases hs : v.s.data.toList with
    | nil => exact less_lt (by decide) _ _
    | cons c l =>
      have hc : c < 255 := by
        have hgt : gtext v.s.data.toList = true := by
          unfold good at hg
          rw [if_neg (by omega), if_neg (by omega), if_pos h] at hg
          simp only [Bool.and_eq_true] at hg
          exact hg.2
        rw [hs] at hgt
        simp only [gtext, List.all_cons, Bool.and_eq_true, goodb, decide_eq_true_eq] at hgt
        have := hgt.1.1.2
        rw [UInt8.lt_iff_toNat_lt]
        show c.toNat < 255
        omega
      exact less_lt hc _ _
theorem all_in {v : V} (hg : good v = true) {T : List UInt8} (hT : okT T) : inSp (begS noW) (keyOf v ++ T) := by
  obtain ⟨t, ht, _⟩ := keyOf_split hg T hT
  refine ⟨less_nil' _, ?_⟩
  show Op.bytesLess _ ((noW ++ ffW : Wd).data.toList) = true
  rw [app_data, ff_data, ht]
  rcases good_kind hg with h | h | h <;> rw [h] <;> exact less_lt (by decide) _ _
theorem in_both {s o : Sp} {k : List UInt8} (h : inSp s k) (g : inSp o k) : inSp (s.both o) k := by
  refine ⟨?_, ?_⟩
  · show Op.bytesLess k (maxW s.lo o.lo).data.toList = false
    unfold maxW; split
    · exact g.1
    · exact h.1
  · show Op.bytesLess k (minW s.hi o.hi).data.toList = true
    unfold minW; split
    · exact g.2
    · exact h.2
theorem less_le {a b c : List UInt8} (h : Op.bytesLess b a = false) (k : Op.bytesLess b c = true) : Op.bytesLess a c = true := by
  have := klt_of_le_lt (a := str a) (b := str b) (c := str c) (by rw [klt_bytes, str_data, str_data]; exact h) (by rw [klt_bytes, str_data, str_data]; exact k)
  rwa [klt_bytes, str_data, str_data] at this
theorem in_nonempty {s : Sp} {k : List UInt8} (h : inSp s k) : s.empty = false := by
  unfold Sp.empty
  rw [klt_bytes, less_le h.1 h.2]; rfl
theorem in_either {s o : Sp} {k : List UInt8} (h : inSp s k ∨ inSp o k) : inSp (s.either o) k := by
  unfold Sp.either
  split
  · rename_i he
    rcases h with h | h
    · rw [in_nonempty h] at he; cases he
    · exact h
  · split
    · rename_i he
      rcases h with h | h
      · exact h
      · rw [in_nonempty h] at he; cases he
    · have mono_lo : ∀ a b : Wd, (Op.bytesLess k a.data.toList = false ∨ Op.bytesLess k b.data.toList = false) → Op.bytesLess k (minW a b).data.toList = false := by
        intro a b hh
        unfold minW
        split
        · rename_i hl
          rcases hh with hh | hh
          · cases hq : Op.bytesLess k b.data.toList with
            | false => rfl
            | true =>
              rw [klt_bytes] at hl
              have h1 : klt (str k) a = true := klt_trans (b := b) (by rw [klt_bytes, str_data]; exact hq) (by rw [klt_bytes]; exact hl)
              rw [klt_bytes, str_data, hh] at h1; cases h1
          · exact hh
        · rename_i hl
          rcases hh with hh | hh
          · exact hh
          · cases hq : Op.bytesLess k a.data.toList with
            | false => rfl
            | true =>
              have hl' : klt b a = false := by simpa using hl
              have h1 : klt (str k) b = true := klt_of_lt_le (b := a) (by rw [klt_bytes, str_data]; exact hq) hl'
              rw [klt_bytes, str_data, hh] at h1; cases h1
      have mono_hi : ∀ a b : Wd, (Op.bytesLess k a.data.toList = true ∨ Op.bytesLess k b.data.toList = true) → Op.bytesLess k (maxW a b).data.toList = true := by
        intro a b hh
        unfold maxW
        split
        · rename_i hl
          rcases hh with hh | hh
          · have h1 : klt (str k) b = true := klt_trans (b := a) (by rw [klt_bytes, str_data]; exact hh) hl
            rw [klt_bytes, str_data] at h1; exact h1
          · exact hh
        · rename_i hl
          rcases hh with hh | hh
          · exact hh
          · have h1 : klt (str k) a = true := klt_of_lt_le (b := b) (by rw [klt_bytes, str_data]; exact hh) (by simpa using hl)
            rw [klt_bytes, str_data] at h1; exact h1
      exact ⟨mono_lo _ _ (h.imp (·.1) (·.1)), mono_hi _ _ (h.imp (·.2) (·.2))⟩

theorem sk_data {u : V} (hu : good u = true) : (skS u).lo.data.toList = [UInt8.ofNat (u.k.toNat + 1)] ∧ (skS u).hi.data.toList = [UInt8.ofNat (u.k.toNat + 1), 255] := by
  obtain ⟨t, ht⟩ := keyOf_head hu
  have h1 : ((kb u).extract 0 1).data.toList = [UInt8.ofNat (u.k.toNat + 1)] := by rw [ext_data, kb_data hu, ht]; rfl
  refine ⟨h1, ?_⟩
  show (((kb u).extract 0 1) ++ ffW).data.toList = _
  rw [app_data, h1, ff_data]; rfl
theorem in_kind {v u : V} (hv : good v = true) (hu : good u = true) (hk : v.k = u.k) {T : List UInt8} (hT : okT T) : Op.bytesLess (keyOf v ++ T) (skS u).lo.data.toList = false ∧ Op.bytesLess (keyOf v ++ T) (skS u).hi.data.toList = true := by
  obtain ⟨t, ht, ht2⟩ := keyOf_split hv T hT
  obtain ⟨e1, e2⟩ := sk_data hu
  rw [e1, e2, ht, hk]
  refine ⟨?_, ?_⟩
  · have := less_app [UInt8.ofNat (u.k.toNat + 1)] (t ++ T) []
    rw [less_nil'] at this
    simpa using this
  · have := less_app [UInt8.ofNat (u.k.toNat + 1)] (t ++ T) [255]
    rw [ht2] at this
    simpa using this
theorem kbff_data {u : V} (hu : good u = true) : (kb u ++ ffW).data.toList = keyOf u ++ [255] := by rw [app_data, kb_data hu, ff_data]
theorem in_like {v u : V} (hv : good v = true) (hu : good u = true) (hk : v.k = u.k) {T : List UInt8} (hT : okT T) (yes : Bool) (h : yes = true → cmpV v u = 0) : inSp (likeS u yes) (keyOf v ++ T) := by
  cases yes
  · exact in_kind hv hu hk hT
  · have h0 := h rfl
    rcases cmpV_cases v u hv hu with ⟨e, _⟩ | ⟨_, e⟩ | ⟨e, _⟩
    · omega
    · refine ⟨?_, ?_⟩
      · show Op.bytesLess _ (kb u).data.toList = false
        rw [kb_data hu, e]
        have := less_app (keyOf u) T []
        rw [less_nil', List.append_nil] at this; exact this
      · show Op.bytesLess _ (kb u ++ ffW).data.toList = true
        rw [kbff_data hu, e, less_app]; exact hT
    · omega
theorem in_ahead {v u : V} (hv : good v = true) (hu : good u = true) (hk : v.k = u.k) {T : List UInt8} (hT : okT T) (yes : Bool) (h : if yes then cmpV v u < 0 else ¬ cmpV v u < 0) : inSp (aheadS u yes) (keyOf v ++ T) := by
  obtain ⟨k1, k2⟩ := in_kind hv hu hk hT
  cases yes
  · simp only [Bool.false_eq_true, if_false] at h
    refine ⟨?_, k2⟩
    show Op.bytesLess _ (kb u).data.toList = false
    rw [kb_data hu]
    rcases cmpV_cases v u hv hu with ⟨e, _⟩ | ⟨_, e⟩ | ⟨_, e⟩
    · omega
    · rw [e]
      have := less_app (keyOf u) T []
      rw [less_nil', List.append_nil] at this; exact this
    · have := e T []
      rw [List.append_nil] at this
      exact less_asymm _ _ this
  · simp only [if_true] at h
    refine ⟨k1, ?_⟩
    show Op.bytesLess _ (kb u).data.toList = true
    rw [kb_data hu]
    rcases cmpV_cases v u hv hu with ⟨_, e⟩ | ⟨e, _⟩ | ⟨e, _⟩
    · have := e T []; rwa [List.append_nil] at this
    · omega
    · omega
theorem in_behind {v u : V} (hv : good v = true) (hu : good u = true) (hk : v.k = u.k) {T : List UInt8} (hT : okT T) (yes : Bool) (h : if yes then cmpV u v < 0 else ¬ cmpV u v < 0) : inSp (behindS u yes) (keyOf v ++ T) := by
  obtain ⟨k1, k2⟩ := in_kind hv hu hk hT
  cases yes
  · simp only [Bool.false_eq_true, if_false] at h
    refine ⟨k1, ?_⟩
    show Op.bytesLess _ (kb u ++ ffW).data.toList = true
    rw [kbff_data hu]
    rcases cmpV_cases u v hu hv with ⟨e, _⟩ | ⟨_, e⟩ | ⟨_, e⟩
    · omega
    · rw [← e, less_app]; exact hT
    · exact e _ _
  · simp only [if_true] at h
    refine ⟨?_, k2⟩
    show Op.bytesLess _ (kb u ++ ffW).data.toList = false
    rw [kbff_data hu]
    rcases cmpV_cases u v hu hv with ⟨_, e⟩ | ⟨e, _⟩ | ⟨e, _⟩
    · exact less_asymm _ _ (e _ _)
    · omega
    · omega
theorem goodZ : good zero = true := by decide
theorem in_is {at' col op n : Int} {v : V} (hv : good v = true) {T : List UInt8} (hT : okT T) (yes : Bool) (h : isC at' col op n = true → (decide (v.k = 0) = yes)) : inSp (isS at' col op n yes) (keyOf v ++ T) := by
  unfold isS
  cases hc : isC at' col op n with
  | false => exact all_in hv hT
  | true =>
    have h1 := h hc
    simp only [if_true]
    have hz : keyOf zero = [1] := keyOf_nothing rfl
    cases yes
    · simp only [Bool.false_eq_true, if_false]
      have hk : v.k ≠ 0 := by simpa using h1
      refine ⟨?_, (all_in hv hT).2⟩
      show Op.bytesLess _ (kb zero ++ ffW).data.toList = false
      rw [kbff_data goodZ, hz]
      obtain ⟨t, ht⟩ := keyOf_head hv
      refine less_asymm _ _ ?_
      rw [ht]
      rcases good_kind hv with q | q | q
      · exact absurd q hk
      · rw [q]; exact less_lt (by decide) _ _
      · rw [q]; exact less_lt (by decide) _ _
    · simp only [if_true]
      have hk : v.k = 0 := by simpa using h1
      refine ⟨?_, ?_⟩
      · show Op.bytesLess _ (kb zero).data.toList = false
        rw [kb_data goodZ, hz, keyOf_nothing hk]
        have := less_app [1] T []
        rw [less_nil'] at this; simpa using this
      · show Op.bytesLess _ (kb zero ++ ffW).data.toList = true
        rw [kbff_data goodZ, hz, keyOf_nothing hk]
        have := less_app [1] T [255]
        rw [show Op.bytesLess T [255] = true from hT] at this; simpa using this

theorem of_wh (b : Bool) : ofV (whV b) = if b then 1 else 0 := by cases b <;> rfl
theorem of_truth (n : Int) : ofV (truthV n) = if n = 0 then 0 else if n = 1 then 1 else 2 := by
  unfold truthV
  by_cases h0 : n = 0
  · subst h0; rfl
  · by_cases h1 : n = 1
    · subst h1; rfl
    · rw [if_neg (by omega), if_neg h0, if_neg h1]; rfl
theorem of_good {v : V} (h : good v = true) : ofV v = 2 := by
  unfold ofV
  rcases good_kind h with q | q | q <;> rw [if_neg (by omega)]

end Go.Proofs.YthehiijgnepcfaaGreat

namespace Go.Proofs.YthehiijgnepcfaaGreat
open Go.RowKit

theorem ev_two (row : List V) (op : Int) (x : V) (s name : Wd) (n : Int) (a b : E) (h : argc op = 2) : ev row (.mk op x s name n [a, b]) = twoV op (ev row a) (ev row b) := by
  rw [ev_kids, kidsOf, if_pos (by simp [h])]; rfl
theorem ev_one (row : List V) (op : Int) (x : V) (s name : Wd) (n : Int) (a : E) (h : argc op = 1) : ev row (.mk op x s name n [a]) = uniV op (ev row a) := by
  rw [ev_kids, kidsOf, if_pos (by simp [h])]; rfl
theorem ev_leaf (row : List V) (op : Int) (x : V) (s name : Wd) (n : Int) (h : argc op = 0) : ev row (.mk op x s name n []) = noneV op x n row := by
  rw [ev_kids, kidsOf, if_pos (by simp [h])]; rfl
theorem geB_len {d : Nat} {op : Int} {x : V} {s name : Wd} {n : Int} {l : List E} (h : geB (d + 1) (.mk op x s name n l) = true) : (l.length : Int) = argS op ∧ leafB op x s name = true ∧ ∀ a ∈ l, geB d a = true := by
  simp only [geB, Bool.and_eq_true, decide_eq_true_eq, List.all_eq_true] at h
  exact ⟨h.1.1, h.1.2, h.2⟩
theorem geB_op {d : Nat} {e : E} (h : geB d e = true) : (∃ d', d = d' + 1) ∧ (e.opI = 1 → good e.vV = true) := by
  obtain ⟨op, x, s, name, n, l⟩ := e
  cases d with
  | zero => simp [geB] at h
  | succ d =>
    refine ⟨⟨d, rfl⟩, fun h1 => ?_⟩
    obtain ⟨_, h2, _⟩ := geB_len h
    have h1' : op = 1 := h1
    subst h1'
    have h3 : good x = true := by simpa [leafB] using h2
    exact h3
/-- A good literal, or a column, is what it is. -/
theorem ev_lit {row : List V} {d : Nat} {e : E} (h : geB d e = true) (ho : e.opI = 1) : ev row e = e.vV := by
  obtain ⟨op, x, s, name, n, l⟩ := e
  obtain ⟨⟨d, rfl⟩, _⟩ := geB_op h
  obtain ⟨h1, _, _⟩ := geB_len h
  have ho' : op = 1 := ho
  subst ho'
  have hl : l = [] := List.eq_nil_of_length_eq_zero (by have : argS 1 = 0 := by decide
                                                        omega)
  subst hl
  rw [ev_leaf _ _ _ _ _ _ (by decide)]; rfl
theorem ev_ref {row : List V} {d : Nat} {e : E} {at' col : Int} (h : geB d e = true) (hc : isC at' col e.opI e.nI = true) : ev row e = rowV row (at' + col) := by
  obtain ⟨op, x, s, name, n, l⟩ := e
  obtain ⟨⟨d, rfl⟩, _⟩ := geB_op h
  obtain ⟨h1, _, _⟩ := geB_len h
  have hc' : isC at' col op n = true := hc
  unfold isC at hc'
  rw [Bool.and_eq_true, Bool.and_eq_true, Bool.and_eq_true, decide_eq_true_eq, decide_eq_true_eq, decide_eq_true_eq, decide_eq_true_eq] at hc'
  obtain ⟨⟨⟨rfl, q1⟩, q2⟩, q3⟩ := hc'
  have hl : l = [] := List.eq_nil_of_length_eq_zero (by have : argS 2 = 0 := by decide
                                                        omega)
  subst hl
  rw [ev_leaf _ _ _ _ _ _ (by decide), show at' + col = n by omega]; rfl
theorem of_cases (v : V) : ofV v = 0 ∨ ofV v = 1 ∨ ofV v = 2 := by
  unfold ofV; split <;> omega
theorem len1 {l : List E} (h : l.length = 1) : ∃ a, l = [a] := List.length_eq_one_iff.1 h
theorem len2 : ∀ {l : List E}, l.length = 2 → ∃ a b, l = [a, b]
  | [a, b], _ => ⟨a, b, rfl⟩

theorem truth1 {n : Int} (h : ofV (truthV n) = 1) : n = 1 := by
  rw [of_truth] at h
  split at h
  · omega
  · split at h
    · assumption
    · omega
theorem truth0 {n : Int} (h : ofV (truthV n) = 0) : n = 0 := by
  rw [of_truth] at h
  split at h
  · assumption
  · split at h <;> omega
theorem not1 {p : Int} (h : tNot p = 1) : p = 0 := by
  unfold tNot at h
  split at h
  · assumption
  · split at h <;> omega
theorem not0 {p : Int} (h : tNot p = 0) : p = 1 := by
  unfold tNot at h
  split at h
  · omega
  · split at h
    · assumption
    · omega
theorem and1 {p q : Int} (h : tAnd p q = 1) : p = 1 ∧ q = 1 := by
  unfold tAnd at h
  split at h
  · omega
  · split at h
    · assumption
    · omega
theorem and0 {p q : Int} (h : tAnd p q = 0) : p = 0 ∨ q = 0 := by
  unfold tAnd at h
  split at h
  · assumption
  · split at h <;> omega
theorem or1 {p q : Int} (h : tOr p q = 1) : p = 1 ∨ q = 1 := by
  unfold tOr at h
  split at h
  · assumption
  · split at h <;> omega
theorem or0 {p q : Int} (h : tOr p q = 0) : p = 0 ∧ q = 0 := by
  unfold tOr at h
  split at h
  · omega
  · split at h
    · assumption
    · omega
theorem wh1 {b : Bool} (h : ofV (whV b) = 1) : b = true := by cases b <;> simp_all [of_wh]
theorem wh0 {b : Bool} (h : ofV (whV b) = 0) : b = false := by cases b <;> simp_all [of_wh]
theorem of_zero : ofV zero = 2 := rfl
/-- A comparison that is known. -/
theorem two_cmp {op : Int} (hop : op = 5 ∨ op = 6) {a b : V} {yes : Bool} (h : ofV (twoV op a b) = (if yes then 1 else 0)) : a.k ≠ 0 ∧ b.k ≠ 0 ∧ good a = true ∧ good b = true ∧ a.k = b.k ∧ (if op = 5 then decide (cmpV a b = 0) else decide (cmpV a b < 0)) = yes := by
  have h2 : twoV op a b = if knownV a = true ∧ knownV b = true ∧ a.k = b.k then knV op a b else zero := by
    unfold twoV; rw [if_neg (by omega), if_neg (by omega)]
  rw [h2] at h
  split at h
  · rename_i hh
    obtain ⟨h3, h4, h5⟩ := hh
    simp only [knownV, Bool.and_eq_true, Bool.not_eq_true', decide_eq_false_iff_not] at h3 h4
    refine ⟨h3.1, h4.1, h3.2, h4.2, h5, ?_⟩
    rcases hop with rfl | rfl
    · have e : knV 5 a b = whV (decide (cmpV a b = 0)) := rfl
      rw [e] at h
      rw [if_pos rfl]
      cases yes
      · exact wh0 (by simpa using h)
      · exact wh1 (by simpa using h)
    · have e : knV 6 a b = whV (decide (cmpV a b < 0)) := rfl
      rw [e] at h
      rw [if_neg (by decide)]
      cases yes
      · exact wh0 (by simpa using h)
      · exact wh1 (by simpa using h)
  · rw [of_zero] at h
    cases yes <;> simp at h

/-- Of a comparison: what the column has is in the span. -/
theorem cmp_sound (at' col : Int) (row : List V) (T : List UInt8) (hT : okT T) (hv : good (rowV row (at' + col)) = true) {op : Int} (hop : op = 5 ∨ op = 6) {d : Nat} {a b : E} (ha : geB d a = true) (hb : geB d b = true) (yes : Bool)
    (h : ofV (twoV op (ev row a) (ev row b)) = (if yes then 1 else 0)) : inSp (cmpSp at' col op a.opI a.vV a.nI b.opI b.vV b.nI yes) (keyOf (rowV row (at' + col)) ++ T) := by
  obtain ⟨k1, k2, g1, g2, k3, hc⟩ := two_cmp hop h
  have na : isNo a.opI a.vV.k = false := by
    cases hq : isNo a.opI a.vV.k with
    | false => rfl
    | true =>
      unfold isNo at hq
      rw [Bool.and_eq_true, decide_eq_true_eq, decide_eq_true_eq] at hq
      rw [ev_lit ha hq.1] at k1
      exact absurd hq.2 k1
  have nb : isNo b.opI b.vV.k = false := by
    cases hq : isNo b.opI b.vV.k with
    | false => rfl
    | true =>
      unfold isNo at hq
      rw [Bool.and_eq_true, decide_eq_true_eq, decide_eq_true_eq] at hq
      rw [ev_lit hb hq.1] at k2
      exact absurd hq.2 k2
  unfold cmpSp
  rw [na, nb]
  rw [if_neg (by decide)]
  split
  · rename_i hh
    rw [Bool.and_eq_true, Bool.and_eq_true, decide_eq_true_eq, decide_eq_true_eq] at hh
    obtain ⟨⟨rfl, h2⟩, h3⟩ := hh
    have ea := ev_ref (row := row) ha h2
    have eb := ev_lit (row := row) hb h3
    rw [ea, eb] at k3 hc
    rw [eb] at g2
    refine in_like hv g2 k3 hT yes fun hy => ?_
    subst hy; simpa using hc
  split
  · rename_i hh
    rw [Bool.and_eq_true, Bool.and_eq_true, decide_eq_true_eq, decide_eq_true_eq] at hh
    obtain ⟨⟨rfl, h2⟩, h3⟩ := hh
    have ea := ev_lit (row := row) ha h2
    have eb := ev_ref (row := row) hb h3
    rw [ea, eb] at k3 hc
    rw [ea] at g1
    refine in_like hv g1 k3.symm hT yes fun hy => ?_
    subst hy
    have h0 : cmpV a.vV (rowV row (at' + col)) = 0 := by simpa using hc
    rcases cmpV_cases a.vV (rowV row (at' + col)) g1 hv with ⟨e, _⟩ | ⟨_, e⟩ | ⟨e, _⟩
    · omega
    · rcases cmpV_cases (rowV row (at' + col)) a.vV hv g1 with ⟨_, q⟩ | ⟨q, _⟩ | ⟨_, q⟩
      · have := q [] []; rw [e, less_irrefl] at this; cases this
      · exact q
      · have := q [] []; rw [e, less_irrefl] at this; cases this
    · omega
  split
  · rename_i hh
    rw [Bool.and_eq_true, Bool.and_eq_true, decide_eq_true_eq, decide_eq_true_eq] at hh
    obtain ⟨⟨rfl, h2⟩, h3⟩ := hh
    have ea := ev_ref (row := row) ha h2
    have eb := ev_lit (row := row) hb h3
    rw [ea, eb] at k3 hc
    rw [eb] at g2
    refine in_ahead hv g2 k3 hT yes ?_
    rw [if_neg (by decide)] at hc
    cases yes <;> simpa using hc
  split
  · rename_i hh
    rw [Bool.and_eq_true, Bool.and_eq_true, decide_eq_true_eq, decide_eq_true_eq] at hh
    obtain ⟨⟨rfl, h2⟩, h3⟩ := hh
    have ea := ev_lit (row := row) ha h2
    have eb := ev_ref (row := row) hb h3
    rw [ea, eb] at k3 hc
    rw [ea] at g1
    refine in_behind hv g1 k3.symm hT yes ?_
    rw [if_neg (by decide)] at hc
    cases yes <;> simpa using hc
  · exact all_in hv hT

/-- P6.2: the way chosen leads to each row for which the condition holds: its column's value is in the span. -/
theorem where_sound (at' col : Int) (row : List V) (T : List UInt8) (hT : okT T) (hv : good (rowV row (at' + col)) = true) : ∀ (d : Nat) (e : E) (yes : Bool), geB d e = true → ofV (ev row e) = (if yes then 1 else 0) → inSp (whereS at' col d e yes) (keyOf (rowV row (at' + col)) ++ T) := by
  intro d
  induction d with
  | zero => intro e yes h; simp [geB] at h
  | succ d ih =>
    intro e yes hg ho
    obtain ⟨op, x, s, name, n, l⟩ := e
    obtain ⟨hl, hleaf, hk⟩ := geB_len hg
    unfold whereS
    by_cases h9 : op = 9
    · subst h9
      obtain ⟨a, rfl⟩ := len1 (l := l) (by have : argS 9 = 1 := by decide
                                           omega)
      rw [if_pos rfl]
      refine ih a (!yes) (hk a (by simp)) ?_
      rw [ev_one _ _ _ _ _ _ _ (by decide)] at ho
      have ho' : ofV (truthV (tNot (ofV (ev row a)))) = if yes then 1 else 0 := ho
      cases yes
      · exact not0 (truth0 ho')
      · exact not1 (truth1 ho')
    rw [if_neg h9]
    by_cases h78 : op = 7 ∨ op = 8
    · rw [if_pos h78]
      obtain ⟨a, b, rfl⟩ := len2 (l := l) (by have h1 : argS 7 = 2 := by decide
                                              have h2 : argS 8 = 2 := by decide
                                              rcases h78 with rfl | rfl <;> omega)
      have iha := fun y h => ih a y (hk a (by simp)) h
      have ihb := fun y h => ih b y (hk b (by simp)) h
      rw [ev_two _ _ _ _ _ _ _ _ (by rcases h78 with rfl | rfl <;> decide)] at ho
      simp only
      rcases h78 with rfl | rfl
      · have ho' : ofV (truthV (tAnd (ofV (ev row a)) (ofV (ev row b)))) = if yes then 1 else 0 := ho
        cases yes
        · rw [if_neg (by decide)]
          exact in_either ((and0 (truth0 ho')).imp (iha false) (ihb false))
        · rw [if_pos (by decide)]
          exact in_both (iha true (and1 (truth1 ho')).1) (ihb true (and1 (truth1 ho')).2)
      · have ho' : ofV (truthV (tOr (ofV (ev row a)) (ofV (ev row b)))) = if yes then 1 else 0 := ho
        cases yes
        · rw [if_pos (by decide)]
          exact in_both (iha false (or0 (truth0 ho')).1) (ihb false (or0 (truth0 ho')).2)
        · rw [if_neg (by decide)]
          exact in_either ((or1 (truth1 ho')).imp (iha true) (ihb true))
    rw [if_neg h78]
    by_cases h10 : op = 10
    · subst h10
      rw [if_pos rfl]
      obtain ⟨a, rfl⟩ := len1 (l := l) (by have : argS 10 = 1 := by decide
                                           omega)
      rw [ev_one _ _ _ _ _ _ _ (by decide)] at ho
      have ho' : ofV (whV (decide ((ev row a).k = 0))) = if yes then 1 else 0 := ho
      refine in_is hv hT yes fun hc => ?_
      rw [← ev_ref (row := row) (hk a (by simp)) hc]
      cases yes
      · exact wh0 ho'
      · exact wh1 ho'
    rw [if_neg h10]
    by_cases h56 : op = 5 ∨ op = 6
    · rw [if_pos h56]
      obtain ⟨a, b, rfl⟩ := len2 (l := l) (by have h1 : argS 5 = 2 := by decide
                                              have h2 : argS 6 = 2 := by decide
                                              rcases h56 with rfl | rfl <;> omega)
      rw [ev_two _ _ _ _ _ _ _ _ (by rcases h56 with rfl | rfl <;> decide)] at ho
      exact cmp_sound at' col row T hT hv h56 (hk a (by simp)) (hk b (by simp)) yes ho
    rw [if_neg h56]
    by_cases h1 : op = 1
    · subst h1
      rw [if_pos rfl]
      have e1 := ev_lit (row := row) hg rfl
      rw [e1, of_good ((geB_op hg).2 rfl)] at ho
      cases yes <;> simp at ho
    · rw [if_neg h1]
      exact all_in hv hT

end Go.Proofs.YthehiijgnepcfaaGreat


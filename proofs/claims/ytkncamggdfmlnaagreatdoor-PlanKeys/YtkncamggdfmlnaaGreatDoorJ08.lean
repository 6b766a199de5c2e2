/-
  6 texts of this proof in one, in build order: Named, YIndexA, YGood, YFind, PMath, KRef.
-/
import Derived.Test.YtkncamggdfmlnaaGreatDoorRows
import Derived.Lib.Bytealg
import Derived.Lib.IndexLaws
import Derived.WalkKit
import Derived.WalkSpells
import Derived.WalkLawsBesides
import Derived.Test.YtkncamggdfmlnaaGreatDoorJ01
import Derived.Test.YtkncamggdfmlnaaGreatDoorJ05
import Derived.Test.YtkncamggdfmlnaaGreatDoorJ06
import Derived.Test.YtkncamggdfmlnaaGreatDoorJ07
namespace Go.Proofs.YtkncamggdfmlnaaGreatDoor
open Go.RowKit

def letterI (c : Int) : Bool := decide (97 ≤ c) && decide (c ≤ 122)
def digitI (c : Int) : Bool := decide (48 ≤ c) && decide (c ≤ 57)
theorem letterI_eq (c : UInt8) : letterI (c.toNat : Int) = letterB c := by simp only [letterI, letterB]; congr 1 <;> simp <;> omega
theorem digitI_eq (c : UInt8) : digitI (c.toNat : Int) = digitB c := by simp only [digitI, digitB]; congr 1 <;> simp <;> omega

theorem all_take_succ {f : UInt8 → Bool} {s : ByteArray} {k : Nat} (h : k < s.size) (h1 : (s.data.toList.take k).all f = true) (h2 : f s[k] = true) : (s.data.toList.take (k + 1)).all f = true := by
  rw [take_snoc s k h]; simp only [List.all_append, h1, List.all_cons, h2, List.all_nil, Bool.and_self]
theorem get_byte {s : ByteArray} {k : Nat} (h : k < s.size) : s.data.toList[k]? = some s[k] := by
  rw [List.getElem?_eq_getElem (by simpa using h)]; rfl

theorem beq_wd (w : Wd) (l : List UInt8) : (w.toList == l) = decide (w = ⟨l.toArray⟩) := by
  rw [Lib.toList_data, Bool.eq_iff_iff, beq_iff_eq, decide_eq_true_eq]
  constructor
  · intro h
    have := congrArg List.toArray h
    cases w
    simpa using this
  · rintro rfl; simp
theorem reservedB_eq (w : Wd) : reservedB w = (w.toList == [97, 110, 100] || w.toList == [98, 121] || w.toList == [99, 114, 101, 97, 116, 101] || w.toList == [100, 101, 108, 101, 116, 101] || w.toList == [100, 101, 115, 99] || w.toList == [100, 114, 111, 112] || w.toList == [102, 114, 111, 109] || w.toList == [105, 110, 100, 101, 120] || w.toList == [105, 110, 115, 101, 114, 116] || w.toList == [105, 110, 116] || w.toList == [105, 110, 116, 111] || w.toList == [105, 115] || w.toList == [108, 105, 109, 105, 116] || w.toList == [109, 117, 115, 116] || w.toList == [110, 111, 116] || w.toList == [110, 117, 108, 108] || w.toList == [111, 110] || w.toList == [111, 114] || w.toList == [111, 114, 100, 101, 114] || w.toList == [115, 101, 108, 101, 99, 116] || w.toList == [115, 101, 116] || w.toList == [116, 97, 98, 108, 101] || w.toList == [116, 101, 120, 116] || w.toList == [117, 112, 100, 97, 116, 101] || w.toList == [118, 97, 108, 117, 101, 115] || w.toList == [119, 104, 101, 114, 101]) := by
  simp only [beq_wd]; rfl

theorem run_all {f : UInt8 → Bool} {l : List UInt8} : (decide (runB f l = l.length)) = l.all f := by
  rw [Bool.eq_iff_iff, decide_eq_true_eq]
  constructor
  · intro h
    have := runB_take f l
    rw [h, List.take_length] at this
    exact this
  · intro h
    exact runB_end (by rw [List.take_length]; exact h) (fun c hc => by simp at hc) (Nat.le_refl _)

end Go.Proofs.YtkncamggdfmlnaaGreatDoor

namespace Go.Proofs.YtkncamggdfmlnaaGreatDoor
open Go.RowKit

set_option maxRecDepth 100000 in
set_option maxHeartbeats 2000000 in
theorem index_findCol (l : List (ColD)) (F : Nat → Prop) (ao : Option Addr) (n c : Nat) (f0 : Value) (p : Nat → Bool) (St : Nat → World → Prop) (En : World → Prop) (w : World) (hEn : ∀ i W, St i W → En W) (hIs : ∀ i W, St i W → IsL kCol F W (.slice ao n c) l)
    (hcall : ∀ i x cs W, l[i]? = some x → St i W → kCol.R F W x cs → Calls Tryz.prog 91 #[.agg cs.toArray, f0] W fun e W' => e = .returned (.bool (p i)) ∧ En W' ∧ (p i = false → St (i + 1) W')) (h0 : St 0 w) :
    Calls Tryz.prog 90 #[.slice ao n c, .func (.func 91) #[] #[f0]] w fun e W' => e = .returned (.int .i64 (firstI p 0 l.length)) ∧ En W' := by
  obtain ⟨hn, hlm⟩ := isL_len (hIs 0 w h0)
  subst hn
  unfold maxLen at hlm
  go_enter Tryz.func90, Tryz.ntmps90
  go_wp2
  go_loopw [8] (fun i wr => ∃ k : Nat, k ≤ l.length ∧ i = .int .i64 k ∧ St k wr ∧ Hid (firstI p 0 l.length = firstI p k (l.length - k))) (fun i _ => l.length - (intOf i).toNat)
  case atStart => exact ⟨0, Nat.zero_le _, rfl, h0, rfl⟩
  case round =>
    obtain ⟨k, hk, rfl, hSt, HP⟩ := hrel
    by_cases hlt : k < l.length
    · obtain ⟨x, hx⟩ : ∃ x, l[k]? = some x := ⟨_, List.getElem?_eq_getElem hlt⟩
      obtain ⟨b, off, cs, rfl, _, hb, hR, hcell⟩ := isL_get (hIs k wr hSt) hx
      have HC := hcall k x cs wr hx hSt hR
      obtain rfl := hR
      have d0 := hcell 0 _ rfl
      have d1 := hcell 1 _ rfl
      have d2 := hcell 2 _ rfl
      simp only [kCol, Nat.add_zero] at d0 d1 d2
      have k0 : (0 : Int) ≤ (k : Int) := by omega
      have k1 : (k : Int) < (l.length : Int) := by omega
      have hst : Hid (firstI p k (l.length - k) = if p k then (k : Int) else firstI p (k + 1) (l.length - (k + 1))) := firstI_step p k l.length hlt
      clear hcell hx
      generalize hq : p k = q at HC hst
      clear hq
      cases q
      · go_wp2_with (go_at_call 91; go_must (go_fit HC; rintro e W' ⟨rfl, _, hS1⟩))
        go_roundw
        case rel => exact ⟨k + 1, by omega, by go_num, hS1 (by first | rfl | trivial), by rw [HP.out, hst.out]; rfl⟩
        case measure => simp [intOf]; omega
      · go_wp2_with (go_at_call 91; go_must (go_fit HC; rintro e W' ⟨rfl, hS1, _⟩))
        go_ret
        exact ⟨ret_int (by rw [HP.out, hst.out]; rfl), hS1⟩
    · have HE : Hid (firstI p k (l.length - k) = -1) := by show _ = _; rw [show l.length - k = 0 from by omega, firstI]
      go_wp2
      go_ret
      exact ⟨ret_int (by rw [HP.out, HE.out]), hEn k _ hSt⟩

end Go.Proofs.YtkncamggdfmlnaaGreatDoor

namespace Go.Proofs.YtkncamggdfmlnaaGreatDoor
open Go.RowKit Go.Maps

theorem firstI_spec (p : Nat → Bool) : ∀ (n i : Nat), (firstI p i n = -1 ∧ ∀ j, i ≤ j → j < i + n → p j = false) ∨ ∃ k, i ≤ k ∧ k < i + n ∧ firstI p i n = (k : Int) ∧ p k = true ∧ ∀ j, i ≤ j → j < k → p j = false
  | 0, i => .inl ⟨rfl, fun j h1 h2 => absurd h2 (by omega)⟩
  | n + 1, i => by
    rw [firstI]
    by_cases hp : p i = true
    · exact .inr ⟨i, Nat.le_refl _, by omega, by rw [if_pos hp], hp, fun j h1 h2 => absurd h2 (by omega)⟩
    · rw [if_neg hp]
      have hp' : p i = false := Bool.eq_false_iff.2 hp
      rcases firstI_spec p n (i + 1) with ⟨h1, h2⟩ | ⟨k, h1, h2, h3, h4, h5⟩
      · refine .inl ⟨h1, fun j hj1 hj2 => ?_⟩
        rcases Nat.eq_or_lt_of_le hj1 with h | h
        · rw [← h]; exact hp'
        · exact h2 j h (by omega)
      · refine .inr ⟨k, by omega, by omega, h3, h4, fun j hj1 hj2 => ?_⟩
        rcases Nat.eq_or_lt_of_le hj1 with h | h
        · rw [← h]; exact hp'
        · exact h5 j h hj2
/-- A question on the elements of a list, by their places. -/
def atI {α : Type} (l : List α) (q : α → Bool) (i : Nat) : Bool := match l[i]? with
  | some x => q x
  | none => false
theorem atI_get {α : Type} {l : List α} {q : α → Bool} {i : Nat} {x : α} (h : l[i]? = some x) : atI l q i = q x := by simp [atI, h]
theorem find_cases {α : Type} (l : List α) (q : α → Bool) : (firstI (atI l q) 0 l.length = -1 ∧ l.find? q = none) ∨ ∃ (k : Nat) (x : α), firstI (atI l q) 0 l.length = (k : Int) ∧ l[k]? = some x ∧ q x = true ∧ l.find? q = some x := by
  rcases firstI_spec (atI l q) l.length 0 with ⟨h1, h2⟩ | ⟨k, _, h2, h3, h4, h5⟩
  · refine .inl ⟨h1, List.find?_eq_none.2 fun x hx => ?_⟩
    obtain ⟨i, hi, rfl⟩ := List.getElem_of_mem hx
    have := h2 i (Nat.zero_le _) (by omega)
    rw [atI_get (List.getElem?_eq_getElem hi)] at this
    simp [this]
  · have hk : k < l.length := by omega
    have hx := List.getElem?_eq_getElem hk
    rw [atI_get hx] at h4
    refine .inr ⟨k, l[k], h3, hx, h4, ?_⟩
    rw [List.find?_eq_some_iff_getElem]
    exact ⟨h4, k, hk, rfl, fun j hj => by
      have := h5 j (Nat.zero_le _) hj
      rw [atI_get (List.getElem?_eq_getElem (by omega))] at this
      simp [this]⟩

/-- P4.1, of a column. -/
def colOK (x : ColD) : Bool := nm x.name && (decide (x.ty = 1) || decide (x.ty = 2))
/-- .. of columns: each, and no name twice. -/
def colBad (l : List ColD) (i : Nat) : Bool := match l[i]? with
  | some x => !colOK x || memW ((l.take i).map ColD.name) x.name
  | none => false
def colsB (l : List ColD) : Bool := !anyI (colBad l) 0 l.length
def fitCols (l : List ColD) : Prop := ∀ x ∈ l, x.name.size ≤ maxLen

theorem Below.grow {B : Nat} {a w w' : World} {b : Nat} (h : Below B a w) (hg : w.grownBy w' (some b)) (hB : B ≤ w.heap.size) (hb : B ≤ b) : Below B a w' := h.grown hg hB fun k hk => by cases hk; exact hb

theorem cnt_alloc {w : World} {b : Nat} {N : List Wd} (h : Cnt w b N) (o : Obj) : Cnt (w.alloc o) b N := h.below (bel1 _ _)
end Go.Proofs.YtkncamggdfmlnaaGreatDoor

namespace Go.Proofs.YtkncamggdfmlnaaGreatDoor
open Go.RowKit Go.Maps

theorem beq_str (a b : Wd) : (a.toList == b.toList) = decide (a = b) := by
  rw [Bool.eq_iff_iff, beq_iff_eq, decide_eq_true_eq, ByteArray.toList_eq, ByteArray.toList_eq]
  constructor
  · intro h; exact ByteArray.ext (Array.toList_inj.1 h)
  · rintro rfl; rfl
/-- The place of a column; -1: there is none. -/
def colAt (l : List ColD) (s : Wd) : Int := firstI (atI l fun x => decide (x.name = s)) 0 l.length
/-- The table of a name. -/
def tabOf (T : List TabD) (s : Wd) : Option TabD := T.find? fun x => decide (x.name = s)

set_option maxHeartbeats 1000000 in
theorem findCol1_any (x : ColD) (pb : Nat) (s : Wd) (w : World) (hp : w.cell? ⟨pb, 0, none⟩ = some (.string s)) (hpb : pb < w.heap.size) :
    Calls Tryz.prog 91 #[.agg #[.string x.name, .int .i64 x.ty, .bool x.must], .pointer (some ⟨pb, 0, none⟩)] w fun e w' => e = .returned (.bool (decide (x.name = s))) ∧ Below w.heap.size w w' := by
  obtain ⟨name, ty, must⟩ := x
  simp only
  have E : Hid (decide (name = s) = (name.toList == s.toList)) := (beq_str _ _).symm
  generalize decide (name = s) = r at E
  have hp1 := ((bel1 w (.cells #[.string name, .int .i64 ty, .bool must] 62)).cell (p := ⟨pb, 0, none⟩) hpb).trans hp
  go_enter Tryz.func91, Tryz.ntmps91
  go_wp2
  go_ret
  exact ⟨ret_bool (by rw [E.out]), bel1 _ _⟩

set_option maxHeartbeats 2000000 in
theorem findCol_any (l : List ColD) (nmv : Wd) (sv : Value) (s : Wd) (C : Nat) (w : World) (hl : IsL kCol (fun k => k < C) w sv l) (hC : C ≤ w.heap.size) :
    Calls Tryz.prog 71 #[.agg #[.string nmv, sv], .string s] w fun e w' => e = .returned (.int .i64 (colAt l s)) ∧ Below w.heap.size w w' := by
  obtain ⟨ao, c, rfl⟩ := hl.shape
  have hb2 := bel2 w (.cells #[.string nmv, .slice ao l.length c] 28) (.cells #[.string s] 9)
  have HC := index_findCol l (fun k => k < C) ao l.length c (.pointer (some ⟨w.heap.size + 1, 0, none⟩)) (atI l fun x => decide (x.name = s))
    (fun _ W => W.cell? ⟨w.heap.size + 1, 0, none⟩ = some (.string s) ∧ Below w.heap.size w W ∧ w.heap.size + 2 ≤ W.heap.size) (fun W => Below w.heap.size w W)
    ((w.alloc (.cells #[.string nmv, .slice ao l.length c] 28)).alloc (.cells #[.string s] 9)) (fun i W h => h.2.1) (fun i W h => hl.keep (keepsC (h.2.1.mono hC)))
    (by
      rintro i x cs W hx ⟨h1, h2, h3⟩ rfl
      refine (findCol1_any x (w.heap.size + 1) s W h1 (by omega)).mono ?_
      rintro e W' ⟨rfl, hb⟩
      have hbW : Below w.heap.size w W' := h2.trans (hb.mono h2.size)
      exact ⟨by rw [atI_get hx], hbW, fun _ => ⟨(hb.cell (p := ⟨w.heap.size + 1, 0, none⟩) (show w.heap.size + 1 < W.heap.size by omega)).trans h1, hbW, Nat.le_trans h3 hb.size⟩⟩)
    ⟨cell_of_block (block2 _ _ _) rfl, hb2, by simp⟩
  have E : Hid (colAt l s = firstI (atI l fun x => decide (x.name = s)) 0 l.length) := rfl
  generalize colAt l s = r at E
  generalize firstI (atI l fun x => decide (x.name = s)) 0 l.length = q at E HC
  clear hl
  go_enter Tryz.func71, Tryz.ntmps71
  go_wp2_with (go_at_call 90; go_fit HC; rintro e w1 ⟨rfl, hb1⟩)
  go_ret
  exact ⟨ret_int (by rw [E.out]), hb1⟩

/-- A table and whether it is there are answered. -/
theorem end_tab {fn : Func} {p q : Tmp} {w : World} {g : Nat} {a : Act} {c0 c1 : Value} {t : TypeId} {fr : Nat × Nat} {R : Ending → World → Prop} (nmv : Wd) (sv : Value) (there : Bool) (hr : fn.results = #[.cell p 28, .tmp q]) (hp : a.tmps.getD p undef = .pointer (some ⟨g, 0, none⟩)) (hq : a.tmps.getD q undef = .bool there) (hd : a.defers = [])
    (hg : w.heap[g]? = some (.cells #[c0, c1] t fr)) (hR : R (.returned (.tuple #[.agg #[.string nmv, sv], .bool there])) ((w.setCell ⟨g, 0, none⟩ (.string nmv)).setCell ⟨g, 1, none⟩ sv)) :
    bodyPost Tryz.prog fn R .ret a ((w.setCell ⟨g, 0, none⟩ (.string nmv)).setCell ⟨g, 1, none⟩ sv) :=
  bodyPost_ret (results_two hr a.tmps _ g t _ fr _ _ hp hq (set_at (set_at hg 0 _) 1 _) Tryz.underlying28 rfl (by kernel_rfl)) hd hR
/-- What FindTable answers. -/
def FindPost (T : List TabD) (s : Wd) (F : Nat → Prop) (w : World) (e : Ending) (w' : World) : Prop :=
  ∃ nmv ao n c there, e = .returned (.tuple #[.agg #[.string nmv, .slice ao n c], .bool there]) ∧ (match tabOf T s with | some t => there = true ∧ nmv = t.name ∧ IsL kCol F w' (.slice ao n c) t.cols | none => there = false ∧ nmv = noW ∧ ao = none ∧ n = 0 ∧ c = 0) ∧ Below w.heap.size w w'

end Go.Proofs.YtkncamggdfmlnaaGreatDoor

namespace Go.Proofs.YtkncamggdfmlnaaGreatDoor

abbrev PL := List (ByteArray × ByteArray)

theorem mem_putF {F : PL} {k v : ByteArray} {x : ByteArray × ByteArray} : x ∈ putF F k v ↔ x = (k, v) ∨ (x ∈ F ∧ x.1 ≠ k) := by
  unfold putF
  simp only [List.mem_append, List.mem_cons, List.mem_filter]
  constructor
  · rintro (⟨h1, h2⟩ | h | ⟨h1, h2⟩)
    · exact .inr ⟨h1, klt_ne h2⟩
    · exact .inl h
    · exact .inr ⟨h1, (klt_ne h2).symm⟩
  · rintro (h | ⟨h1, h2⟩)
    · exact .inr (.inl h)
    · cases hk : klt x.1 k with
      | true => exact .inl ⟨h1, rfl⟩
      | false =>
        rcases klt_tri hk with e | e
        · exact absurd e h2
        · exact .inr (.inr ⟨h1, e⟩)
theorem mem_dropF {F : PL} {k : ByteArray} {x : ByteArray × ByteArray} : x ∈ dropF F k ↔ x ∈ F ∧ x.1 ≠ k := by simp [dropF]
theorem getF_none {F : PL} {k : ByteArray} : getF F k = none ↔ ∀ x ∈ F, x.1 ≠ k := by simp [getF, List.find?_eq_none]

/-- With what a table's keys begin; an index's. -/
def rbeg (t : Wd) : Wd := (⟨#[114]⟩ ++ t) ++ ⟨#[0]⟩
def ibeg (x : Wd) : Wd := (⟨#[120]⟩ ++ x) ++ ⟨#[0]⟩
/-- P6.1: where a row is, and where an index has it. -/
def rkey (t : Wd) (id : V) : Wd := rbeg t ++ str (keyAns [id]).1
def ikey (x : Wd) (v id : V) : Wd := ibeg x ++ str (keyAns [v, id]).1
theorem rbeg_data (t : Wd) : (rbeg t).data.toList = 114 :: (t.data.toList ++ [0]) := by simp [rbeg, ByteArray.data_append]
theorem ibeg_data (t : Wd) : (ibeg t).data.toList = 120 :: (t.data.toList ++ [0]) := by simp [ibeg, ByteArray.data_append]
theorem rkey_data (t : Wd) (id : V) : (rkey t id).data.toList = 114 :: (t.data.toList ++ 0 :: (keyAns [id]).1) := by
  rw [rkey, ByteArray.data_append, Array.toList_append, rbeg_data, str_data]; simp
theorem ikey_data (x : Wd) (v id : V) : (ikey x v id).data.toList = 120 :: (x.data.toList ++ 0 :: (keyAns [v, id]).1) := by
  rw [ikey, ByteArray.data_append, Array.toList_append, ibeg_data, str_data]; simp
theorem rkey_ne_ikey (t x : Wd) (a v id : V) : rkey t a ≠ ikey x v id := by
  intro h
  have := congrArg (fun s : ByteArray => s.data.toList) h
  simp only [rkey_data, ikey_data, List.cons.injEq] at this
  exact absurd this.1 (by decide)

/-- The place of the column that an index is of; -1: none of the table. -/
def idxAt (t : TabD) (x : IdxD) : Int := if x.table = t.name then colAt t.cols x.col else -1
def ikOf (t : TabD) (r : List V) (x : IdxD) : Option Wd := if 0 ≤ idxAt t x then some (ikey x.name (r.getD (idxAt t x).toNat zero) (r.headD zero)) else none
def iks (I : List IdxD) (t : TabD) (r : List V) : List Wd := I.filterMap (ikOf t r)
def putsE (F : PL) (l : List Wd) : PL := l.foldl (fun F k => putF F k noW) F
def dropsE (F : PL) (l : List Wd) : PL := l.foldl dropF F
def rk (t : TabD) (r : List V) : Wd := rkey t.name (r.headD zero)
/-- P6.1: Put, Drop. -/
def putRow (F : PL) (I : List IdxD) (t : TabD) (r : List V) : PL := putsE (putF F (rk t r) (str (keyAns r).1)) (iks I t r)
def dropRow (F : PL) (I : List IdxD) (t : TabD) (r : List V) : PL := dropsE (dropF F (rk t r)) (iks I t r)

theorem mem_putsE {x : ByteArray × ByteArray} : ∀ (l : List Wd) (F : PL), (∀ y ∈ F, y.1 ∈ l → y.2 = noW) → (x ∈ putsE F l ↔ x ∈ F ∨ (x.1 ∈ l ∧ x.2 = noW))
  | [], F, _ => by simp [putsE]
  | k :: l, F, h => by
    have ih := mem_putsE (x := x) l (putF F k noW) (fun y hy hl => by
      rcases mem_putF.1 hy with e | ⟨h1, _⟩
      · rw [e]
      · exact h y h1 (by simp [hl]))
    have e : putsE F (k :: l) = putsE (putF F k noW) l := rfl
    rw [e, ih, mem_putF]
    constructor
    · rintro ((rfl | ⟨h1, _⟩) | ⟨h1, h2⟩)
      · exact .inr ⟨by simp, rfl⟩
      · exact .inl h1
      · exact .inr ⟨by simp [h1], h2⟩
    · rintro (h1 | ⟨h1, h2⟩)
      · by_cases hk : x.1 = k
        · have := h x h1 (by simp [hk])
          exact .inl (.inl (Prod.ext hk this))
        · exact .inl (.inr ⟨h1, hk⟩)
      · rcases List.mem_cons.1 h1 with h1 | h1
        · exact .inl (.inl (Prod.ext h1 h2))
        · exact .inr ⟨h1, h2⟩
theorem mem_dropsE {x : ByteArray × ByteArray} : ∀ (l : List Wd) (F : PL), x ∈ dropsE F l ↔ x ∈ F ∧ x.1 ∉ l
  | [], F => by simp [dropsE]
  | k :: l, F => by
    have e : dropsE F (k :: l) = dropsE (dropF F k) l := rfl
    rw [e, mem_dropsE l, mem_dropF]
    simp only [List.mem_cons, not_or]
    constructor
    · rintro ⟨⟨h1, h2⟩, h3⟩; exact ⟨h1, h2, h3⟩
    · rintro ⟨h1, h2, h3⟩; exact ⟨⟨h1, h2⟩, h3⟩
theorem mem_iks {I : List IdxD} {t : TabD} {r : List V} {k : Wd} (h : k ∈ iks I t r) : ∃ x v id, k = ikey x v id := by
  obtain ⟨x, _, hx⟩ := List.mem_filterMap.1 h
  unfold ikOf at hx
  split at hx
  · exact ⟨_, _, _, (Option.some.inj hx).symm⟩
  · cases hx
theorem iks_length (I : List IdxD) (t : TabD) (r : List V) : (iks I t r).length ≤ I.length := List.length_filterMap_le _ _

/-- What a row gives to a tree. -/
def Gives (I : List IdxD) (t : TabD) (r : List V) (x : ByteArray × ByteArray) : Prop := x = (rk t r, str (keyAns r).1) ∨ (x.1 ∈ iks I t r ∧ x.2 = noW)
/-- May a value stand in a column? A row in a table? -/
def fitV (c : ColD) (v : V) : Bool := good v && (decide (v.k = c.ty) || (!c.must && decide (v.k = 0)))
def fitsI (t : TabD) (r : List V) (i : Nat) : Bool := match t.cols[i]?, r[i]? with
  | some c, some v => !fitV c v
  | _, _ => false
def fitsRow (t : TabD) (r : List V) : Bool := decide (r.length = t.cols.length) && !anyI (fitsI t r) 0 t.cols.length

theorem anyI_false {p : Nat → Bool} : ∀ {n i : Nat}, anyI p i n = false → ∀ j, i ≤ j → j < i + n → p j = false
  | 0, i, _, j, h1, h2 => by omega
  | n + 1, i, h, j, h1, h2 => by
    rw [anyI, Bool.or_eq_false_iff] at h
    rcases Nat.eq_or_lt_of_le h1 with e | e
    · rw [← e]; exact h.1
    · exact anyI_false h.2 j e (by omega)
theorem fitsRow_good {t : TabD} {r : List V} (h : fitsRow t r = true) : r.length = t.cols.length ∧ ∀ v ∈ r, good v = true := by
  simp only [fitsRow, Bool.and_eq_true, decide_eq_true_eq, Bool.not_eq_true'] at h
  refine ⟨h.1, fun v hv => ?_⟩
  obtain ⟨i, hi, rfl⟩ := List.getElem_of_mem hv
  have := anyI_false h.2 i (Nat.zero_le _) (by omega)
  unfold fitsI at this
  rw [List.getElem?_eq_getElem hi, List.getElem?_eq_getElem (by omega : i < t.cols.length)] at this
  simp only [Bool.not_eq_false'] at this
  simp only [fitV, Bool.and_eq_true] at this
  exact this.1

/-- A tree has just the rows. -/
structure Kept (I : List IdxD) (t : TabD) (F : PL) (O : List (List V)) : Prop where
  mem : ∀ x, x ∈ F ↔ ∃ r ∈ O, Gives I t r x
  fit : ∀ r ∈ O, fitsRow t r = true
  uniq : O.Pairwise fun a b => rk t a ≠ rk t b
  len : O.length ≤ 20

theorem kept_nil (I : List IdxD) (t : TabD) : Kept I t [] [] := ⟨by simp, by simp, by simp, by simp⟩

theorem kept_step {I : List IdxD} {t : TabD} {F : PL} {O : List (List V)} {r : List V} (h : Kept I t F O) (hn : getF F (rk t r) = none) (hf : fitsRow t r = true) (hl : O.length < 20) : Kept I t (putRow F I t r) (O ++ [r]) := by
  have hn' := getF_none.1 hn
  refine ⟨fun x => ?_, ?_, ?_, by simp; omega⟩
  · unfold putRow
    rw [mem_putsE]
    · rw [mem_putF]
      constructor
      · rintro ((e | ⟨h1, _⟩) | h1)
        · exact ⟨r, by simp, .inl e⟩
        · obtain ⟨q, hq, hg⟩ := (h.mem x).1 h1
          exact ⟨q, by simp [hq], hg⟩
        · exact ⟨r, by simp, .inr h1⟩
      · rintro ⟨q, hq, hg⟩
        rcases List.mem_append.1 hq with hq | hq
        · have hx := (h.mem x).2 ⟨q, hq, hg⟩
          exact .inl (.inr ⟨hx, hn' x hx⟩)
        · obtain rfl : q = r := by simpa using hq
          rcases hg with e | e
          · exact .inl (.inl e)
          · exact .inr e
    · intro y hy hk
      obtain ⟨a, v, id, hk⟩ := mem_iks hk
      rcases mem_putF.1 hy with e | ⟨h1, _⟩
      · rw [e] at hk
        exact absurd hk (rkey_ne_ikey _ _ _ _ _)
      · obtain ⟨q, hq, hg⟩ := (h.mem y).1 h1
        rcases hg with e | e
        · rw [e] at hk
          exact absurd hk (rkey_ne_ikey _ _ _ _ _)
        · exact e.2
  · intro q hq
    rcases List.mem_append.1 hq with hq | hq
    · exact h.fit q hq
    · obtain rfl : q = r := by simpa using hq
      exact hf
  · rw [List.pairwise_append]
    refine ⟨h.uniq, by simp, fun a ha b hb => ?_⟩
    obtain rfl : b = r := by simpa using hb
    exact hn' (rk t a, str (keyAns a).1) ((h.mem _).2 ⟨a, ha, .inl rfl⟩)

/-- The way to all rows. -/
def allLo (t : Wd) : Wd := rbeg t ++ noW
def allHi (t : Wd) : Wd := rbeg t ++ (noW ++ ⟨#[255]⟩)
theorem allLo_data (t : Wd) : (allLo t).data.toList = 114 :: (t.data.toList ++ [0]) := by
  rw [allLo, ByteArray.data_append, Array.toList_append, rbeg_data]; simp
theorem allHi_data (t : Wd) : (allHi t).data.toList = 114 :: (t.data.toList ++ [0, 255]) := by
  rw [allHi, ByteArray.data_append, Array.toList_append, rbeg_data]; simp [ByteArray.data_append]

theorem klt_bytes (a b : ByteArray) : klt a b = Op.bytesLess a.data.toList b.data.toList := by
  unfold klt; rw [Lib.toList_data, Lib.toList_data]

theorem key_one {v : V} (h : good v = true) : (keyAns [v]).1 = keyOf v := by rw [keyAns_good (by simpa using h)]; simp [keys]
theorem less_nil (l : List UInt8) : Op.bytesLess l [] = false := by cases l <;> rfl

theorem rq_row {t : Wd} {v : V} (h : good v = true) (x : ByteArray) : rq (allLo t) (allHi t) (rkey t v, x) = true := by
  unfold rq
  rw [klt_bytes, klt_bytes, rkey_data, allLo_data, allHi_data, key_one h]
  obtain ⟨r, hr⟩ := keyOf_head h
  rw [hr]
  have e1 : ∀ (a b : List UInt8), Op.bytesLess (114 :: (t.data.toList ++ a)) (114 :: (t.data.toList ++ b)) = Op.bytesLess a b := fun a b => by
    have := less_app (114 :: t.data.toList) a b
    simpa using this
  rw [e1, e1]
  have e2 : ∀ (a b : List UInt8), Op.bytesLess (0 :: a) (0 :: b) = Op.bytesLess a b := fun a b => by
    have := less_app [0] a b
    simpa using this
  rw [e2, e2, less_nil]
  have : Op.bytesLess (UInt8.ofNat (v.k.toNat + 1) :: r) [255] = true := by
    refine less_lt ?_ _ _
    rcases good_kind h with e | e | e <;> rw [e] <;> decide
  rw [this]; rfl

theorem rq_index {t x : Wd} {v id : V} (y : ByteArray) : rq (allLo t) (allHi t) (ikey x v id, y) = false := by
  unfold rq
  rw [klt_bytes, klt_bytes, ikey_data, allLo_data, allHi_data]
  have h1 := less_asymm _ _ (less_lt (by decide : (114 : UInt8) < 120) (t.data.toList ++ [0, 255]) (x.data.toList ++ 0 :: (keyAns [v, id]).1))
  rw [h1, Bool.and_false]

/-- The row that stands at a key, if it is one of a table of n columns. -/
def rowOf (n : Nat) (x : Wd) : Option (List V) := match vals x.data.toList with
  | some L => if 0 < L.length ∧ L.length = n then some L else none
  | none => none
def rowsOf (n : Nat) (R : PL) : List (List V) := (R.map Prod.snd).filterMap (rowOf n)

theorem rowOf_key {n : Nat} {r : List V} (h0 : 0 < n) (hl : r.length = n) (h : ∀ v ∈ r, good v = true) : rowOf n (str (keyAns r).1) = some r := by
  unfold rowOf
  rw [str_data, keyAns_good h, vals_keys r h]
  simp only
  rw [if_pos (by omega)]

theorem nodup_sub {α : Type} [DecidableEq α] : ∀ {A B : List α}, A.Nodup → (∀ x ∈ A, x ∈ B) → A.length ≤ B.length
  | [], B, _, _ => Nat.zero_le _
  | a :: A, B, hn, hs => by
    rw [List.nodup_cons] at hn
    have ha := hs a (by simp)
    have := nodup_sub (A := A) (B := B.erase a) hn.2 fun x hx => (List.mem_erase_of_ne (show x ≠ a from fun e => hn.1 (by rw [← e]; exact hx))).2 (hs x (by simp [hx]))
    rw [List.length_erase_of_mem ha] at this
    have h1 := List.length_pos_of_mem ha
    rw [List.length_cons]; omega

/-- What the way to all rows has of a tree that has just the rows. -/
theorem all_rows {I : List IdxD} {t : TabD} {T : List Pg} {O : List (List V)} (hT : GoodT T) (h : Kept I t (flat T) O) (h0 : 0 < t.cols.length) :
    ∃ A : List (List V), A.length = O.length ∧ rowsOf t.cols.length (rng T (allLo t.name) (allHi t.name)) = A ∧ (∀ r, r ∈ A ↔ r ∈ O) ∧ (rng T (allLo t.name) (allHi t.name)) = A.map (fun r => (rk t r, str (keyAns r).1)) := by
  have hR : ∀ x, x ∈ rng T (allLo t.name) (allHi t.name) ↔ ∃ r ∈ O, x = (rk t r, str (keyAns r).1) := by
    intro x
    unfold rng
    rw [List.mem_filter, h.mem]
    constructor
    · rintro ⟨⟨r, hr, hg⟩, hq⟩
      rcases hg with e | ⟨hk, e⟩
      · exact ⟨r, hr, e⟩
      · obtain ⟨a, v, id, hk⟩ := mem_iks hk
        have : x = (ikey a v id, x.2) := Prod.ext hk rfl
        rw [this, rq_index] at hq; cases hq
    · rintro ⟨r, hr, rfl⟩
      refine ⟨⟨r, hr, .inl rfl⟩, ?_⟩
      obtain ⟨hl, hg⟩ := fitsRow_good (h.fit r hr)
      refine rq_row (hg _ ?_) _
      cases r with
      | nil => simp at hl; omega
      | cons a r => simp
  have hd : ∀ r ∈ O, rowOf t.cols.length (str (keyAns r).1) = some r := fun r hr => by
    obtain ⟨hl, hg⟩ := fitsRow_good (h.fit r hr)
    exact rowOf_key h0 hl hg
  have hrise : Rise ((rng T (allLo t.name) (allHi t.name)).map Prod.fst) := hT.rise.sublist ((List.filter_sublist).map _)
  generalize rng T (allLo t.name) (allHi t.name) = R at hR hrise ⊢
  have key : ∀ R : PL, (∀ x ∈ R, ∃ r ∈ O, x = (rk t r, str (keyAns r).1)) → R = (rowsOf t.cols.length R).map (fun r => (rk t r, str (keyAns r).1)) ∧ (∀ r, r ∈ rowsOf t.cols.length R → r ∈ O) := by
    intro R
    induction R with
    | nil => intro _; exact ⟨rfl, by simp [rowsOf]⟩
    | cons x R ih =>
      intro hx
      obtain ⟨r, hr, rfl⟩ := hx x (by simp)
      obtain ⟨h1, h2⟩ := ih fun y hy => hx y (by simp [hy])
      have e : rowsOf t.cols.length ((rk t r, str (keyAns r).1) :: R) = r :: rowsOf t.cols.length R := by
        simp only [rowsOf, List.map_cons, List.filterMap_cons, hd r hr]
      rw [e]
      refine ⟨by rw [List.map_cons, ← h1], fun q hq => ?_⟩
      rcases List.mem_cons.1 hq with rfl | hq
      · exact hr
      · exact h2 q hq
  obtain ⟨k1, k2⟩ := key R fun x hx => (hR x).1 hx
  generalize rowsOf t.cols.length R = A at k1 k2
  refine ⟨A, ?_, rfl, fun r => ⟨k2 r, fun hr => ?_⟩, k1⟩
  · have hmap : R.map Prod.fst = A.map (rk t) := by rw [k1, List.map_map]; rfl
    have n1 : (A.map (rk t)).Nodup := by rw [← hmap]; exact hrise.imp fun h => klt_ne h
    have n2 : (O.map (rk t)).Nodup := by rw [List.Nodup, List.pairwise_map]; exact h.uniq
    have l1 := nodup_sub n1 (B := O.map (rk t)) fun x hx => by
      obtain ⟨r, hr, rfl⟩ := List.mem_map.1 hx
      exact List.mem_map.2 ⟨r, k2 r hr, rfl⟩
    have l2 := nodup_sub n2 (B := A.map (rk t)) fun x hx => by
      obtain ⟨r, hr, rfl⟩ := List.mem_map.1 hx
      rw [← hmap]
      exact List.mem_map.2 ⟨_, (hR _).2 ⟨r, hr, rfl⟩, rfl⟩
    rw [List.length_map, List.length_map] at l1 l2
    omega
  · have := (hR _).2 ⟨r, hr, rfl⟩
    rw [k1] at this
    obtain ⟨q, hq, e⟩ := List.mem_map.1 this
    have e2 := congrArg (fun p : ByteArray × ByteArray => rowOf t.cols.length p.2) e
    simp only [hd r hr, hd q (k2 q hq)] at e2
    rw [← Option.some.inj e2]; exact hq

/-- Rows whose keys rise: by their first values. -/
theorem rk_less {t : TabD} {a b : List V} (ha : good (a.headD zero) = true) (hb : good (b.headD zero) = true) (h : klt (rk t a) (rk t b) = true) : cmpV (a.headD zero) (b.headD zero) < 0 := by
  rw [klt_bytes, rk, rk, rkey_data, rkey_data, key_one ha, key_one hb] at h
  have e1 : Op.bytesLess (114 :: (t.name.data.toList ++ 0 :: keyOf (a.headD zero))) (114 :: (t.name.data.toList ++ 0 :: keyOf (b.headD zero))) = Op.bytesLess (keyOf (a.headD zero)) (keyOf (b.headD zero)) := by
    have := less_app (114 :: (t.name.data.toList ++ [0])) (keyOf (a.headD zero)) (keyOf (b.headD zero))
    simpa using this
  rw [e1] at h
  rcases order_cases [a.headD zero] [b.headD zero] rfl (by simpa using ha) (by simpa using hb) with ⟨e, _⟩ | ⟨_, e⟩ | ⟨_, e⟩
  · have : firstC [a.headD zero] [b.headD zero] = cmpV (a.headD zero) (b.headD zero) := by
      unfold firstC
      split
      · rename_i h0; rw [h0]; rfl
      · rfl
    rw [← this, e]; decide
  · simp only [keys, List.flatMap_cons, List.flatMap_nil, List.append_nil] at e
    rw [e, less_irrefl] at h; cases h
  · simp only [keys, List.flatMap_cons, List.flatMap_nil, List.append_nil] at e
    rw [less_asymm _ _ e] at h; cases h

/-- Dropped one by one. -/
def dropsR (F : PL) (I : List IdxD) (t : TabD) (A : List (List V)) : PL := A.foldl (fun F r => dropRow F I t r) F
theorem dropsR_snoc (F : PL) (I : List IdxD) (t : TabD) (A : List (List V)) (r : List V) : dropsR F I t (A ++ [r]) = dropRow (dropsR F I t A) I t r := by simp [dropsR]
theorem mem_dropsR {I : List IdxD} {t : TabD} {x : ByteArray × ByteArray} : ∀ (A : List (List V)) (F : PL), x ∈ dropsR F I t A ↔ x ∈ F ∧ ∀ r ∈ A, x.1 ≠ rk t r ∧ x.1 ∉ iks I t r
  | [], F => by simp [dropsR]
  | r :: A, F => by
    have e : dropsR F I t (r :: A) = dropsR (dropRow F I t r) I t A := rfl
    rw [e, mem_dropsR A, dropRow, mem_dropsE, mem_dropF]
    constructor
    · rintro ⟨⟨⟨h1, h2⟩, h3⟩, h4⟩
      refine ⟨h1, fun q hq => ?_⟩
      rcases List.mem_cons.1 hq with rfl | hq
      · exact ⟨h2, h3⟩
      · exact h4 q hq
    · rintro ⟨h1, h2⟩
      exact ⟨⟨⟨h1, (h2 r (by simp)).1⟩, (h2 r (by simp)).2⟩, fun q hq => h2 q (by simp [hq])⟩
theorem drops_all {I : List IdxD} {t : TabD} {F : PL} {O A : List (List V)} (h : Kept I t F O) (hA : ∀ r, r ∈ A ↔ r ∈ O) : dropsR F I t A = [] := by
  rw [List.eq_nil_iff_forall_not_mem]
  intro x hx
  obtain ⟨h1, h2⟩ := (mem_dropsR A F).1 hx
  obtain ⟨r, hr, hg⟩ := (h.mem x).1 h1
  obtain ⟨h3, h4⟩ := h2 r ((hA r).2 hr)
  rcases hg with e | e
  · rw [e] at h3; exact h3 rfl
  · exact h4 e.1

end Go.Proofs.YtkncamggdfmlnaaGreatDoor

namespace Go.Proofs.YtkncamggdfmlnaaGreatDoor
open Go.RowKit

theorem firstI_at {p : Nat → Bool} {n k : Nat} (hk : k < n) (hp : p k = true) (hb : ∀ j, j < k → p j = false) : firstI p 0 n = (k : Int) := by
  rcases firstI_spec p n 0 with ⟨h1, h2⟩ | ⟨m, _, h2, h3, h4, h5⟩
  · have := h2 k (Nat.zero_le _) (by omega); rw [hp] at this; cases this
  · rcases Nat.lt_trichotomy m k with h | h | h
    · have := hb m h; rw [h4] at this; cases this
    · rw [h3, h]
    · have := h5 k (Nat.zero_le _) h; rw [hp] at this; cases this
theorem firstI_none {p : Nat → Bool} {n : Nat} (hb : ∀ j, j < n → p j = false) : firstI p 0 n = -1 := by
  rcases firstI_spec p n 0 with ⟨h1, _⟩ | ⟨m, _, h2, _, h4, _⟩
  · exact h1
  · have := hb m (by omega); rw [h4] at this; cases this

set_option maxHeartbeats 2000000 in
theorem colOf_any (l : List ColD) (nmv : Wd) (sv : Value) (s : Wd) (C : Nat) (w : World) (hl : IsL kCol (fun k => k < C) w sv l) :
    Calls Tryz.prog 11 #[.agg #[.string nmv, sv], .string s] w fun e w' => e = .returned (.int .i64 (colAt l s)) ∧ Below w.heap.size w w' := by
  obtain ⟨ao, c, rfl⟩ := hl.shape
  have hlm := (isL_len hl).2
  unfold maxLen at hlm
  have hb1 := bel1 w (.cells #[.string nmv, .slice ao l.length c] 28)
  have bT := block_alloc_at w (.cells #[.string nmv, .slice ao l.length c] 28)
  generalize hW : w.alloc (.cells #[.string nmv, .slice ao l.length c] 28) = W1 at hb1 bT
  have HW : Hid _ := hW
  clear hW
  have c1 := cell_of_block bT (j := 1) rfl
  have HL : Hid (∀ (k : Nat) (x : ColD), l[k]? = some x → ∃ b off, ao = some ⟨b, off, none⟩ ∧ b < w.heap.size ∧ w.cell? ⟨b, off + k * 3, none⟩ = some (.string x.name)) := fun k x hx => by
    obtain ⟨b, off, cs, hso, hbC, hbl, hR1, hcell⟩ := isL_get hl hx
    obtain rfl := hR1
    exact ⟨b, off, hso, hbl, hcell 0 _ rfl⟩
  have E : Hid (colAt l s = firstI (atI l fun x => decide (x.name = s)) 0 l.length) := rfl
  generalize colAt l s = q at E
  clear hl
  go_enter Tryz.func11, Tryz.ntmps11
  go_upto_region 1 with fail
  rw [HW.out]
  go_wp2
  go_loopw [9] (fun i wr => ∃ k : Nat, k ≤ l.length ∧ i = .int .i64 k ∧ Hid (∀ j, j < k → atI l (fun x => decide (x.name = s)) j = false) ∧ Hid (W1 = wr)) (fun i _ => l.length - (intOf i).toNat)
  case atStart => exact ⟨0, Nat.zero_le _, rfl, hid (fun j h => absurd h (Nat.not_lt_zero _)), hid rfl⟩
  case round =>
    obtain ⟨k, hk, rfl, HJ, HWR⟩ := hrel
    have hwr := HWR.out
    subst hwr
    clear HWR
    by_cases hlt : k < l.length
    · obtain ⟨x, hx⟩ : ∃ x, l[k]? = some x := ⟨_, List.getElem?_eq_getElem hlt⟩
      obtain ⟨b, off, hso, hbl, g0⟩ := HL.out k x hx
      cases hso
      have d0 := (hb1.cell (p := ⟨b, off + k * 3, none⟩) hbl).trans g0
      have v0 : (0 : Int) ≤ (k : Int) := by omega
      have v1 : (k : Int) < (l.length : Int) := by omega
      have HX : Hid (atI l (fun x => decide (x.name = s)) k = decide (x.name = s)) := atI_get hx
      clear hx g0
      by_cases hs : x.name = s
      · have hq : (x.name.toList == s.toList) = true := by rw [beq_str]; simp [hs]
        have HE : Hid (q = (k : Int)) := by show _ = _; rw [E.out]; exact firstI_at hlt (by rw [HX.out]; simp [hs]) HJ.out
        clear hs
        go_wp2
        go_ret
        exact ⟨ret_int (by rw [HE.out]), hb1⟩
      · have hq : (x.name.toList == s.toList) = false := by rw [beq_str]; simp [hs]
        have HE : Hid (atI l (fun x => decide (x.name = s)) k = false) := by show _ = _; rw [HX.out]; simp [hs]
        clear hs
        go_wp2
        go_roundw
        case rel => exact ⟨k + 1, by omega, by go_num, hid (fun j hj => by rcases Nat.lt_succ_iff_lt_or_eq.1 hj with h | h; exact HJ.out j h; rw [h]; exact HE.out), hid (by first | exact rfl | exact trivial)⟩
        case measure => simp [intOf]; omega
    · have hkn : k = l.length := by omega
      subst hkn
      have v1 : ¬ ((l.length : Int) < (l.length : Int)) := by omega
      go_wp2
      go_ret
      exact ⟨ret_int (by rw [E.out, firstI_none HJ.out]), hb1⟩

theorem tabOf_at {T : List TabD} {s : Wd} {k : Nat} {t : TabD} (ht : T[k]? = some t) (hs : t.name = s) (hb : ∀ j, j < k → atI T (fun x => decide (x.name = s)) j = false) : tabOf T s = some t := by
  unfold tabOf
  rw [List.find?_eq_some_iff_getElem]
  obtain ⟨hk, he⟩ := List.getElem?_eq_some_iff.1 ht
  refine ⟨by simp [hs], k, hk, he, fun j hj => ?_⟩
  have := hb j hj
  rw [atI_get (List.getElem?_eq_getElem (by omega))] at this
  simp [this]
theorem tabOf_none {T : List TabD} {s : Wd} (hb : ∀ j, j < T.length → atI T (fun x => decide (x.name = s)) j = false) : tabOf T s = none := by
  unfold tabOf
  rw [List.find?_eq_none]
  intro x hx
  obtain ⟨j, hj, rfl⟩ := List.getElem_of_mem hx
  have := hb j hj
  rw [atI_get (List.getElem?_eq_getElem hj)] at this
  simp [this]

set_option maxHeartbeats 2000000 in
theorem tableOf_any (T : List TabD) (tv iv : Value) (hiv : IsSl iv) (s : Wd) (C : Nat) (w : World) (hl : IsL kTab (fun k => k < C) w tv T) (hC : C ≤ w.heap.size) :
    Calls Tryz.prog 6 #[.agg #[tv, iv], .string s] w (FindPost T s (fun k => k < C) w) := by
  obtain ⟨ao, c, rfl⟩ := hl.shape
  obtain ⟨io, il, ic, rfl⟩ := hiv
  have hlm := (isL_len hl).2
  unfold maxLen at hlm
  have hb1 := bel2 w (.cells #[.slice ao T.length c, .slice io il ic] 25) (.cells #[.string noW, .slice none 0 0] 28)
  have bC := block_alloc_of (block_alloc_at w (.cells #[.slice ao T.length c, .slice io il ic] 25)) (.cells #[.string noW, .slice none 0 0] 28)
  have bR := block2 w (.cells #[.slice ao T.length c, .slice io il ic] 25) (.cells #[.string noW, .slice none 0 0] 28)
  generalize hW : (w.alloc (.cells #[.slice ao T.length c, .slice io il ic] 25)).alloc (.cells #[.string noW, .slice none 0 0] 28) = W1 at hb1 bC bR
  have HW : Hid _ := hW
  clear hW
  have c0 := cell_of_block bC (j := 0) rfl
  have r0 := cell_of_block bR (j := 0) rfl
  have r1 := cell_of_block bR (j := 1) rfl
  have rf : ∀ o, W1.frozen? ⟨w.heap.size + 1, o, none⟩ = false := fun o => by simp [World.frozen?, bR]
  have HL : Hid (∀ (k : Nat) (x : TabD), T[k]? = some x → ∃ b off so sc, ao = some ⟨b, off, none⟩ ∧ b < w.heap.size ∧ w.cell? ⟨b, off + k * 2, none⟩ = some (.string x.name) ∧ w.cell? ⟨b, off + k * 2 + 1, none⟩ = some (.slice so x.cols.length sc) ∧ IsL kCol (fun k => k < C) w (.slice so x.cols.length sc) x.cols) := fun k x hx => by
    obtain ⟨b, off, cs, hso, hbC, hbl, ⟨sv, rfl, hsv⟩, hcell⟩ := isL_get hl hx
    obtain ⟨so, sc, rfl⟩ := hsv.shape
    exact ⟨b, off, so, sc, hso, hbl, hcell 0 _ rfl, hcell 1 _ rfl, hsv⟩
  clear hl
  go_enter Tryz.func6, Tryz.ntmps6
  go_upto_region 1 with fail
  rw [HW.out]
  go_wp2
  go_loopw [10] (fun i wr => ∃ k : Nat, k ≤ T.length ∧ i = .int .i64 k ∧ Hid (∀ j, j < k → atI T (fun x => decide (x.name = s)) j = false) ∧ Hid (W1 = wr)) (fun i _ => T.length - (intOf i).toNat)
  case atStart => exact ⟨0, Nat.zero_le _, rfl, hid (fun j h => absurd h (Nat.not_lt_zero _)), hid rfl⟩
  case round =>
    obtain ⟨k, hk, rfl, HJ, HWR⟩ := hrel
    have hwr := HWR.out
    subst hwr
    clear HWR
    by_cases hlt : k < T.length
    · obtain ⟨x, hx⟩ : ∃ x, T[k]? = some x := ⟨_, List.getElem?_eq_getElem hlt⟩
      obtain ⟨b, off, so, sc, hso, hbl, g0, g1, hcol⟩ := HL.out k x hx
      cases hso
      have d0 := (hb1.cell (p := ⟨b, off + k * 2, none⟩) hbl).trans g0
      have d1 := (hb1.cell (p := ⟨b, off + k * 2 + 1, none⟩) hbl).trans g1
      have v0 : (0 : Int) ≤ (k : Int) := by omega
      have v1 : (k : Int) < (T.length : Int) := by omega
      have HX : Hid (atI T (fun x => decide (x.name = s)) k = decide (x.name = s)) := atI_get hx
      clear g0 g1
      by_cases hs : x.name = s
      · have hq : (x.name.toList == s.toList) = true := by rw [beq_str]; simp [hs]
        have HE : Hid (tabOf T s = some x) := tabOf_at hx hs HJ.out
        clear hs hx
        go_wp2
        have hbF : Below w.heap.size w ((W1.setCell ⟨w.heap.size + 1, 0, none⟩ (.string x.name)).setCell ⟨w.heap.size + 1, 1, none⟩ (.slice so x.cols.length sc)) := (hb1.setCell (show w.heap.size ≤ w.heap.size + 1 by omega) _).setCell (show w.heap.size ≤ w.heap.size + 1 by omega) _
        exact end_tab x.name (.slice so x.cols.length sc) true Tryz.results6 rfl rfl rfl bR ⟨x.name, so, x.cols.length, sc, true, rfl, by rw [HE.out]; exact ⟨rfl, rfl, hcol.keep (keepsC (hbF.mono hC))⟩, hbF⟩
      · have hq : (x.name.toList == s.toList) = false := by rw [beq_str]; simp [hs]
        have HE : Hid (atI T (fun x => decide (x.name = s)) k = false) := by show _ = _; rw [HX.out]; simp [hs]
        clear hs hx
        go_wp2
        go_roundw
        case rel => exact ⟨k + 1, by omega, by go_num, hid (fun j hj => by rcases Nat.lt_succ_iff_lt_or_eq.1 hj with h | h; exact HJ.out j h; rw [h]; exact HE.out), hid (by first | exact rfl | exact trivial)⟩
        case measure => simp [intOf]; omega
    · have hkn : k = T.length := by omega
      subst hkn
      have v1 : ¬ ((T.length : Int) < (T.length : Int)) := by omega
      have HE : Hid (tabOf T s = none) := tabOf_none HJ.out
      go_wp2
      exact end_tab noW (.slice none 0 0) false Tryz.results6 rfl rfl rfl bR ⟨noW, none, 0, 0, false, rfl, by rw [HE.out]; exact ⟨rfl, rfl, rfl, rfl, rfl⟩, (hb1.setCell (show w.heap.size ≤ w.heap.size + 1 by omega) _).setCell (show w.heap.size ≤ w.heap.size + 1 by omega) _⟩

end Go.Proofs.YtkncamggdfmlnaaGreatDoor


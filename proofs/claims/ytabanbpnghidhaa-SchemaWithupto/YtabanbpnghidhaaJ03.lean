/-
  7 texts of this proof in one, in build order: NPlain, Named, YIndexA, YGood, YRise, Compare, WSearch.
-/
import Derived.Test.YtabanbpnghidhaaRows
import Derived.Lib.Bytealg
import Derived.Lib.IndexLaws
import Derived.WalkKit
import Derived.WalkSpells
import Derived.WalkLawsBesides
import Derived.Deep.RegionHeld3
import Derived.Deep.LoopGhost
import Derived.Test.YtabanbpnghidhaaJ01
import Derived.Test.YtabanbpnghidhaaJ02
namespace Go.Proofs.Ytabanbpnghidhaa

abbrev kAnd : Wd := ⟨#[97, 110, 100]⟩
abbrev kBy : Wd := ⟨#[98, 121]⟩
abbrev kCreate : Wd := ⟨#[99, 114, 101, 97, 116, 101]⟩
abbrev kDelete : Wd := ⟨#[100, 101, 108, 101, 116, 101]⟩
abbrev kDesc : Wd := ⟨#[100, 101, 115, 99]⟩
abbrev kDrop : Wd := ⟨#[100, 114, 111, 112]⟩
abbrev kFrom : Wd := ⟨#[102, 114, 111, 109]⟩
abbrev kIndex : Wd := ⟨#[105, 110, 100, 101, 120]⟩
abbrev kInsert : Wd := ⟨#[105, 110, 115, 101, 114, 116]⟩
abbrev kInt : Wd := ⟨#[105, 110, 116]⟩
abbrev kInto : Wd := ⟨#[105, 110, 116, 111]⟩
abbrev kIs : Wd := ⟨#[105, 115]⟩
abbrev kLimit : Wd := ⟨#[108, 105, 109, 105, 116]⟩
abbrev kMust : Wd := ⟨#[109, 117, 115, 116]⟩
abbrev kNot : Wd := ⟨#[110, 111, 116]⟩
abbrev kNull : Wd := ⟨#[110, 117, 108, 108]⟩
abbrev kOn : Wd := ⟨#[111, 110]⟩
abbrev kOr : Wd := ⟨#[111, 114]⟩
abbrev kOrder : Wd := ⟨#[111, 114, 100, 101, 114]⟩
abbrev kSelect : Wd := ⟨#[115, 101, 108, 101, 99, 116]⟩
abbrev kSet : Wd := ⟨#[115, 101, 116]⟩
abbrev kTable : Wd := ⟨#[116, 97, 98, 108, 101]⟩
abbrev kText : Wd := ⟨#[116, 101, 120, 116]⟩
abbrev kUpdate : Wd := ⟨#[117, 112, 100, 97, 116, 101]⟩
abbrev kValues : Wd := ⟨#[118, 97, 108, 117, 101, 115]⟩
abbrev kWhere : Wd := ⟨#[119, 104, 101, 114, 101]⟩
abbrev kOpen : Wd := ⟨#[40]⟩
abbrev kClose : Wd := ⟨#[41]⟩
abbrev kStar : Wd := ⟨#[42]⟩
abbrev kPlus : Wd := ⟨#[43]⟩
abbrev kComma : Wd := ⟨#[44]⟩
abbrev kMinus : Wd := ⟨#[45]⟩
abbrev kDot : Wd := ⟨#[46]⟩
abbrev kSemi : Wd := ⟨#[59]⟩
abbrev kLt : Wd := ⟨#[60]⟩
abbrev kEq : Wd := ⟨#[61]⟩

def letterB (c : UInt8) : Bool := decide (97 ≤ c.toNat) && decide (c.toNat ≤ 122)
def digitB (c : UInt8) : Bool := decide (48 ≤ c.toNat) && decide (c.toNat ≤ 57)
/-- Words that mean something of their own. -/
def reservedB (w : Wd) : Bool :=
  decide (w = kAnd) || decide (w = kBy) || decide (w = kCreate) || decide (w = kDelete) || decide (w = kDesc) || decide (w = kDrop) || decide (w = kFrom) || decide (w = kIndex) || decide (w = kInsert) || decide (w = kInt) || decide (w = kInto) || decide (w = kIs) || decide (w = kLimit) || decide (w = kMust) || decide (w = kNot) || decide (w = kNull) || decide (w = kOn) || decide (w = kOr) || decide (w = kOrder) || decide (w = kSelect) || decide (w = kSet) || decide (w = kTable) || decide (w = kText) || decide (w = kUpdate) || decide (w = kValues) || decide (w = kWhere)
/-- P3.1 -/
def nm (w : Wd) : Bool := decide (1 ≤ w.size) && decide (w.size ≤ 8) && w.data.toList.all letterB && !reservedB w

/-- How many bytes of one kind a text begins with. -/
def runB (f : UInt8 → Bool) (l : List UInt8) : Nat := (l.takeWhile f).length
theorem runB_end {f : UInt8 → Bool} : ∀ {l : List UInt8} {k : Nat}, (l.take k).all f = true → (∀ c, l[k]? = some c → f c = false) → k ≤ l.length → runB f l = k
  | [], k, _, _, h => by simp at h; subst h; rfl
  | c :: l, 0, _, h, _ => by have := h c rfl; simp [runB, this]
  | c :: l, k + 1, h1, h2, h3 => by
    simp at h1
    have := runB_end (f := f) (l := l) (k := k) (by simpa using h1.2) (fun x hx => h2 x (by simpa using hx)) (by simpa using h3)
    simp only [runB, List.takeWhile_cons, h1.1, if_true, List.length_cons] at this ⊢
    omega
theorem runB_le (f : UInt8 → Bool) (l : List UInt8) : runB f l ≤ l.length := (List.takeWhile_prefix f).length_le
theorem runB_take (f : UInt8 → Bool) (l : List UInt8) : (l.take (runB f l)).all f = true := by
  induction l with
  | nil => rfl
  | cons c l ih =>
    unfold runB at ih ⊢
    cases h : f c
    · simp [h]
    · simp only [List.takeWhile_cons, h, if_true, List.length_cons, List.take_succ_cons, List.all_cons, Bool.true_and]; exact ih
theorem runB_pos {f : UInt8 → Bool} {c : UInt8} {l : List UInt8} (h : f c = true) : runB f (c :: l) = runB f l + 1 := by simp [runB, h]


end Go.Proofs.Ytabanbpnghidhaa

namespace Go.Proofs.Ytabanbpnghidhaa
open Go.RowKit

def letterI (c : Int) : Bool := decide (97 ≤ c) && decide (c ≤ 122)
def digitI (c : Int) : Bool := decide (48 ≤ c) && decide (c ≤ 57)
theorem letterI_eq (c : UInt8) : letterI (c.toNat : Int) = letterB c := by simp only [letterI, letterB]; congr 1 <;> simp <;> omega
theorem digitI_eq (c : UInt8) : digitI (c.toNat : Int) = digitB c := by simp only [digitI, digitB]; congr 1 <;> simp <;> omega

set_option maxHeartbeats 400000 in
theorem letter_any (c : Int) (w : World) : Calls Try.prog 89 #[.int .u8 c] w fun e w' => e = .returned (.bool (letterI c)) ∧ w' = w := by
  by_cases h1 : 97 ≤ c <;> by_cases h2 : c ≤ 122
  all_goals
    go_enter Try.func89, Try.ntmps89
    go_wp2
    all_goals
      go_ret
      exact ⟨ret_bool (by simp_all [letterI]), rfl⟩

theorem all_take_succ {f : UInt8 → Bool} {s : ByteArray} {k : Nat} (h : k < s.size) (h1 : (s.data.toList.take k).all f = true) (h2 : f s[k] = true) : (s.data.toList.take (k + 1)).all f = true := by
  rw [take_snoc s k h]; simp only [List.all_append, h1, List.all_cons, h2, List.all_nil, Bool.and_self]
theorem get_byte {s : ByteArray} {k : Nat} (h : k < s.size) : s.data.toList[k]? = some s[k] := by
  rw [List.getElem?_eq_getElem (by simpa using h)]; rfl

set_option maxHeartbeats 1000000 in
theorem runOf_letter (s : ByteArray) (w : World) (hs : s.size ≤ maxLen) : Calls Try.prog 88 #[.func (.func 89) #[] #[], .string s] w fun e w' => e = .returned (.int .i64 (runB letterB s.data.toList : Nat)) ∧ w' = w := by
  unfold maxLen at hs
  go_enter Try.func88, Try.ntmps88
  go_wp2
  go_loop [5] (fun i => ∃ k : Nat, k ≤ s.size ∧ i = .int .i64 k ∧ Hid ((s.data.toList.take k).all letterB = true)) (fun i => s.size - (intOf i).toNat)
  case atStart => exact ⟨0, Nat.zero_le _, rfl, rfl⟩
  case round =>
    obtain ⟨k, hk, rfl, HG⟩ := hrel
    by_cases hlt : k < s.size
    · cases hc : letterB s[k]
      · have hc' : letterI (s[k].toNat : Int) = false := by rw [letterI_eq]; exact hc
        have HE : Hid (runB letterB s.data.toList = k) := runB_end HG.out (fun c h => by rw [get_byte hlt] at h; cases h; exact hc) (by simpa using hk)
        clear hc
        go_wp2_with (go_at_call 89; refine (letter_any _ _).mono ?_; rintro e w' ⟨rfl, rfl⟩)
        go_ret
        exact ⟨ret_int (by rw [HE.out]), rfl⟩
      · have hc' : letterI (s[k].toNat : Int) = true := by rw [letterI_eq]; exact hc
        have HN : Hid ((s.data.toList.take (k + 1)).all letterB = true) := all_take_succ hlt HG.out hc
        clear hc
        go_wp2_with (go_at_call 89; refine (letter_any _ _).mono ?_; rintro e w' ⟨rfl, rfl⟩)
        go_round
        case rel => exact ⟨k + 1, by omega, by go_num, HN⟩
        case measure => simp [intOf]; omega
    · have HE : Hid (runB letterB s.data.toList = k) := runB_end HG.out (fun c h => by rw [List.getElem?_eq_none (by simp; omega)] at h; cases h) (by simpa using hk)
      go_wp2
      go_ret
      exact ⟨ret_int (by rw [HE.out]), rfl⟩

theorem beq_wd (w : Wd) (l : List UInt8) : (w.toList == l) = decide (w = ⟨l.toArray⟩) := by
  rw [Lib.toList_data, Bool.eq_iff_iff, beq_iff_eq, decide_eq_true_eq]
  constructor
  · intro h
    have := congrArg List.toArray h
    cases w
    simpa using this
  · rintro rfl; simp
theorem reservedB_eq (w : Wd) : reservedB w = (w.toList == [97, 110, 100] || w.toList == [98, 121] || w.toList == [99, 114, 101, 97, 116, 101] || w.toList == [100, 101, 108, 101, 116, 101] || w.toList == [100, 101, 115, 99] || w.toList == [100, 114, 111, 112] || w.toList == [102, 114, 111, 109] || w.toList == [105, 110, 100, 101, 120] || w.toList == [105, 110, 115, 101, 114, 116] || w.toList == [105, 110, 116] || w.toList == [105, 110, 116, 111] || w.toList == [105, 115] || w.toList == [108, 105, 109, 105, 116] || w.toList == [109, 117, 115, 116] || w.toList == [110, 111, 116] || w.toList == [110, 117, 108, 108] || w.toList == [111, 110] || w.toList == [111, 114] || w.toList == [111, 114, 100, 101, 114] || w.toList == [115, 101, 108, 101, 99, 116] || w.toList == [115, 101, 116] || w.toList == [116, 97, 98, 108, 101] || w.toList == [116, 101, 120, 116] || w.toList == [117, 112, 100, 97, 116, 101] || w.toList == [118, 97, 108, 117, 101, 115] || w.toList == [119, 104, 101, 114, 101]) := by
  simp only [beq_wd]; rfl

set_option maxHeartbeats 2000000 in
theorem reserved_any (s : ByteArray) (w : World) : Calls Try.prog 90 #[.string s] w fun e w' => e = .returned (.bool (reservedB s)) ∧ w' = w := by
  have hr := reservedB_eq s
  generalize reservedB s = b at hr ⊢
  have HR : Hid _ := hr
  clear hr
  go_enter Try.func90, Try.ntmps90
  go_wp2
  all_goals first
    | (exfalso; simp_all; done)
    | (go_ret; refine ⟨ret_bool ?_, rfl⟩; rw [HR.out]; simp [*]; done)

theorem run_all {f : UInt8 → Bool} {l : List UInt8} : (decide (runB f l = l.length)) = l.all f := by
  rw [Bool.eq_iff_iff, decide_eq_true_eq]
  constructor
  · intro h
    have := runB_take f l
    rw [h, List.take_length] at this
    exact this
  · intro h
    exact runB_end (by rw [List.take_length]; exact h) (fun c hc => by simp at hc) (Nat.le_refl _)

set_option maxHeartbeats 1000000 in
theorem named_any (s : ByteArray) (w : World) (hs : s.size ≤ maxLen) : Calls Try.prog 60 #[.string s] w fun e w' => e = .returned (.bool (nm s)) ∧ w' = w := by
  have hs' := hs
  unfold maxLen at hs'
  have hn : nm s = (decide (1 ≤ s.size) && decide (s.size ≤ 8) && decide (runB letterB s.data.toList = s.size) && !reservedB s) := by
    rw [show decide (runB letterB s.data.toList = s.size) = decide (runB letterB s.data.toList = s.data.toList.length) from by rw [size_toList], run_all]; rfl
  generalize nm s = b at hn ⊢
  have HN : Hid _ := hn
  clear hn
  by_cases h1 : 1 ≤ s.size
  · by_cases h2 : s.size ≤ 8
    · have hle := runB_le letterB s.data.toList
      rw [size_toList] at hle
      by_cases h3 : runB letterB s.data.toList = s.size
      · have RO := runOf_letter s w hs
        generalize runB letterB s.data.toList = n at RO HN h3 hle
        subst h3
        have RV := reserved_any s w
        generalize reservedB s = r at RV HN
        have b1 : (1 : Int) ≤ (s.size : Int) := by omega
        have b2 : (s.size : Int) ≤ 8 := by omega
        have b3 : ((s.size : Int) == (s.size : Int)) = true := beq_self_eq_true _
        cases r
        all_goals
          go_enter Try.func60, Try.ntmps60
          go_wp2_with (first
            | (go_at_call 88; go_must (go_fit RO; rintro e w' ⟨rfl, rfl⟩))
            | (go_at_call 90; go_must (go_fit RV; rintro e w' ⟨rfl, rfl⟩)))
          go_ret
          exact ⟨ret_bool (by rw [HN.out]; simp [h1, h2]), rfl⟩
      · have RO := runOf_letter s w hs
        generalize runB letterB s.data.toList = n at RO HN h3 hle
        have b1 : (1 : Int) ≤ (s.size : Int) := by omega
        have b2 : (s.size : Int) ≤ 8 := by omega
        have b3 : ((n : Int) == (s.size : Int)) = false := beq_eq_false_iff_ne.2 (by omega)
        go_enter Try.func60, Try.ntmps60
        go_wp2_with (first
          | (go_at_call 88; go_must (go_fit RO; rintro e w' ⟨rfl, rfl⟩)))
        go_ret
        exact ⟨ret_bool (by rw [HN.out]; simp [h3]), rfl⟩
    · go_enter Try.func60, Try.ntmps60
      go_wp2_with fail
      go_ret
      exact ⟨ret_bool (by rw [HN.out]; simp [h2]), rfl⟩
  · go_enter Try.func60, Try.ntmps60
    go_wp2_with fail
    go_ret
    exact ⟨ret_bool (by rw [HN.out]; simp [h1]), rfl⟩

end Go.Proofs.Ytabanbpnghidhaa

namespace Go.Proofs.Ytabanbpnghidhaa
open Go.RowKit

set_option maxRecDepth 100000 in
set_option maxHeartbeats 2000000 in
theorem index_findTable (l : List (TabD)) (F : Nat → Prop) (ao : Option Addr) (n c : Nat) (f0 : Value) (p : Nat → Bool) (St : Nat → World → Prop) (En : World → Prop) (w : World) (hEn : ∀ i W, St i W → En W) (hIs : ∀ i W, St i W → IsL kTab F W (.slice ao n c) l)
    (hcall : ∀ i x cs W, l[i]? = some x → St i W → kTab.R F W x cs → Calls Try.prog 25 #[.agg cs.toArray, f0] W fun e W' => e = .returned (.bool (p i)) ∧ En W' ∧ (p i = false → St (i + 1) W')) (h0 : St 0 w) :
    Calls Try.prog 24 #[.slice ao n c, .func (.func 25) #[] #[f0]] w fun e W' => e = .returned (.int .i64 (firstI p 0 l.length)) ∧ En W' := by
  obtain ⟨hn, hlm⟩ := isL_len (hIs 0 w h0)
  subst hn
  unfold maxLen at hlm
  go_enter Try.func24, Try.ntmps24
  go_wp2
  go_loopw [8] (fun i wr => ∃ k : Nat, k ≤ l.length ∧ i = .int .i64 k ∧ St k wr ∧ Hid (firstI p 0 l.length = firstI p k (l.length - k))) (fun i _ => l.length - (intOf i).toNat)
  case atStart => exact ⟨0, Nat.zero_le _, rfl, h0, rfl⟩
  case round =>
    obtain ⟨k, hk, rfl, hSt, HP⟩ := hrel
    by_cases hlt : k < l.length
    · obtain ⟨x, hx⟩ : ∃ x, l[k]? = some x := ⟨_, List.getElem?_eq_getElem hlt⟩
      obtain ⟨b, off, cs, rfl, _, hb, hR, hcell⟩ := isL_get (hIs k wr hSt) hx
      have HC := hcall k x cs wr hx hSt hR
      obtain ⟨sv, rfl, hsv⟩ := hR
      obtain ⟨ao1, c1, rfl⟩ := hsv.shape
      have d0 := hcell 0 _ rfl
      have d1 := hcell 1 _ rfl
      simp only [kTab, Nat.add_zero] at d0 d1
      have k0 : (0 : Int) ≤ (k : Int) := by omega
      have k1 : (k : Int) < (l.length : Int) := by omega
      have hst : Hid (firstI p k (l.length - k) = if p k then (k : Int) else firstI p (k + 1) (l.length - (k + 1))) := firstI_step p k l.length hlt
      clear hcell hx
      generalize hq : p k = q at HC hst
      clear hq
      cases q
      · go_wp2_with (go_at_call 25; go_must (go_fit HC; rintro e W' ⟨rfl, _, hS1⟩))
        go_roundw
        case rel => exact ⟨k + 1, by omega, by go_num, hS1 (by first | rfl | trivial), by rw [HP.out, hst.out]; rfl⟩
        case measure => simp [intOf]; omega
      · go_wp2_with (go_at_call 25; go_must (go_fit HC; rintro e W' ⟨rfl, hS1, _⟩))
        go_ret
        exact ⟨ret_int (by rw [HP.out, hst.out]; rfl), hS1⟩
    · have HE : Hid (firstI p k (l.length - k) = -1) := by show _ = _; rw [show l.length - k = 0 from by omega, firstI]
      go_wp2
      go_ret
      exact ⟨ret_int (by rw [HP.out, HE.out]), hEn k _ hSt⟩

set_option maxRecDepth 100000 in
set_option maxHeartbeats 2000000 in
theorem index_findCol (l : List (ColD)) (F : Nat → Prop) (ao : Option Addr) (n c : Nat) (f0 : Value) (p : Nat → Bool) (St : Nat → World → Prop) (En : World → Prop) (w : World) (hEn : ∀ i W, St i W → En W) (hIs : ∀ i W, St i W → IsL kCol F W (.slice ao n c) l)
    (hcall : ∀ i x cs W, l[i]? = some x → St i W → kCol.R F W x cs → Calls Try.prog 29 #[.agg cs.toArray, f0] W fun e W' => e = .returned (.bool (p i)) ∧ En W' ∧ (p i = false → St (i + 1) W')) (h0 : St 0 w) :
    Calls Try.prog 28 #[.slice ao n c, .func (.func 29) #[] #[f0]] w fun e W' => e = .returned (.int .i64 (firstI p 0 l.length)) ∧ En W' := by
  obtain ⟨hn, hlm⟩ := isL_len (hIs 0 w h0)
  subst hn
  unfold maxLen at hlm
  go_enter Try.func28, Try.ntmps28
  go_wp2
  go_loopw [8] (fun i wr => ∃ k : Nat, k ≤ l.length ∧ i = .int .i64 k ∧ St k wr ∧ Hid (firstI p 0 l.length = firstI p k (l.length - k))) (fun i _ => l.length - (intOf i).toNat)
  case atStart => exact ⟨0, Nat.zero_le _, rfl, h0, rfl⟩
  case round =>
    obtain ⟨k, hk, rfl, hSt, HP⟩ := hrel
    by_cases hlt : k < l.length
    · obtain ⟨x, hx⟩ : ∃ x, l[k]? = some x := ⟨_, List.getElem?_eq_getElem hlt⟩
      obtain ⟨b, off, cs, rfl, _, hb, hR, hcell⟩ := isL_get (hIs k wr hSt) hx
      have HC := hcall k x cs wr hx hSt hR
      obtain rfl := hR
      have d0 := hcell 0 _ rfl
      have d1 := hcell 1 _ rfl
      have d2 := hcell 2 _ rfl
      simp only [kCol, Nat.add_zero] at d0 d1 d2
      have k0 : (0 : Int) ≤ (k : Int) := by omega
      have k1 : (k : Int) < (l.length : Int) := by omega
      have hst : Hid (firstI p k (l.length - k) = if p k then (k : Int) else firstI p (k + 1) (l.length - (k + 1))) := firstI_step p k l.length hlt
      clear hcell hx
      generalize hq : p k = q at HC hst
      clear hq
      cases q
      · go_wp2_with (go_at_call 29; go_must (go_fit HC; rintro e W' ⟨rfl, _, hS1⟩))
        go_roundw
        case rel => exact ⟨k + 1, by omega, by go_num, hS1 (by first | rfl | trivial), by rw [HP.out, hst.out]; rfl⟩
        case measure => simp [intOf]; omega
      · go_wp2_with (go_at_call 29; go_must (go_fit HC; rintro e W' ⟨rfl, hS1, _⟩))
        go_ret
        exact ⟨ret_int (by rw [HP.out, hst.out]; rfl), hS1⟩
    · have HE : Hid (firstI p k (l.length - k) = -1) := by show _ = _; rw [show l.length - k = 0 from by omega, firstI]
      go_wp2
      go_ret
      exact ⟨ret_int (by rw [HP.out, HE.out]), hEn k _ hSt⟩

set_option maxRecDepth 100000 in
set_option maxHeartbeats 2000000 in
theorem index_goodCols (l : List (ColD)) (F : Nat → Prop) (ao : Option Addr) (n c : Nat) (f0 : Value) (p : Nat → Bool) (St : Nat → World → Prop) (En : World → Prop) (w : World) (hEn : ∀ i W, St i W → En W) (hIs : ∀ i W, St i W → IsL kCol F W (.slice ao n c) l)
    (hcall : ∀ i x cs W, l[i]? = some x → St i W → kCol.R F W x cs → Calls Try.prog 104 #[.agg cs.toArray, f0] W fun e W' => e = .returned (.bool (p i)) ∧ En W' ∧ (p i = false → St (i + 1) W')) (h0 : St 0 w) :
    Calls Try.prog 28 #[.slice ao n c, .func (.func 104) #[] #[f0]] w fun e W' => e = .returned (.int .i64 (firstI p 0 l.length)) ∧ En W' := by
  obtain ⟨hn, hlm⟩ := isL_len (hIs 0 w h0)
  subst hn
  unfold maxLen at hlm
  go_enter Try.func28, Try.ntmps28
  go_wp2
  go_loopw [8] (fun i wr => ∃ k : Nat, k ≤ l.length ∧ i = .int .i64 k ∧ St k wr ∧ Hid (firstI p 0 l.length = firstI p k (l.length - k))) (fun i _ => l.length - (intOf i).toNat)
  case atStart => exact ⟨0, Nat.zero_le _, rfl, h0, rfl⟩
  case round =>
    obtain ⟨k, hk, rfl, hSt, HP⟩ := hrel
    by_cases hlt : k < l.length
    · obtain ⟨x, hx⟩ : ∃ x, l[k]? = some x := ⟨_, List.getElem?_eq_getElem hlt⟩
      obtain ⟨b, off, cs, rfl, _, hb, hR, hcell⟩ := isL_get (hIs k wr hSt) hx
      have HC := hcall k x cs wr hx hSt hR
      obtain rfl := hR
      have d0 := hcell 0 _ rfl
      have d1 := hcell 1 _ rfl
      have d2 := hcell 2 _ rfl
      simp only [kCol, Nat.add_zero] at d0 d1 d2
      have k0 : (0 : Int) ≤ (k : Int) := by omega
      have k1 : (k : Int) < (l.length : Int) := by omega
      have hst : Hid (firstI p k (l.length - k) = if p k then (k : Int) else firstI p (k + 1) (l.length - (k + 1))) := firstI_step p k l.length hlt
      clear hcell hx
      generalize hq : p k = q at HC hst
      clear hq
      cases q
      · go_wp2_with (go_at_call 104; go_must (go_fit HC; rintro e W' ⟨rfl, _, hS1⟩))
        go_roundw
        case rel => exact ⟨k + 1, by omega, by go_num, hS1 (by first | rfl | trivial), by rw [HP.out, hst.out]; rfl⟩
        case measure => simp [intOf]; omega
      · go_wp2_with (go_at_call 104; go_must (go_fit HC; rintro e W' ⟨rfl, hS1, _⟩))
        go_ret
        exact ⟨ret_int (by rw [HP.out, hst.out]; rfl), hS1⟩
    · have HE : Hid (firstI p k (l.length - k) = -1) := by show _ = _; rw [show l.length - k = 0 from by omega, firstI]
      go_wp2
      go_ret
      exact ⟨ret_int (by rw [HP.out, HE.out]), hEn k _ hSt⟩

set_option maxHeartbeats 2000000 in
theorem contains_goodCols (l : List (ColD)) (F : Nat → Prop) (ao : Option Addr) (n c : Nat) (f0 : Value) (p : Nat → Bool) (St : Nat → World → Prop) (En : World → Prop) (w : World) (hEn : ∀ i W, St i W → En W) (hIs : ∀ i W, St i W → IsL kCol F W (.slice ao n c) l)
    (hcall : ∀ i x cs W, l[i]? = some x → St i W → kCol.R F W x cs → Calls Try.prog 104 #[.agg cs.toArray, f0] W fun e W' => e = .returned (.bool (p i)) ∧ En W' ∧ (p i = false → St (i + 1) W')) (h0 : St 0 w) :
    Calls Try.prog 103 #[.slice ao n c, .func (.func 104) #[] #[f0]] w fun e W' => e = .returned (.bool (anyI p 0 l.length)) ∧ En W' := by
  have HI := index_goodCols l F ao n c f0 p St En w hEn hIs hcall h0
  have HA : Hid (anyI p 0 l.length = decide (0 ≤ firstI p 0 l.length)) := anyI_eq p l.length 0
  generalize anyI p 0 l.length = r at HA
  generalize firstI p 0 l.length = q at HI HA
  clear hIs hcall h0 hEn
  go_enter Try.func103, Try.ntmps103
  go_wp2_with (go_at_call 28; go_must (go_fit HI; rintro e W' ⟨rfl, hS1⟩))
  go_ret
  exact ⟨ret_bool (by rw [HA.out]), hS1⟩

end Go.Proofs.Ytabanbpnghidhaa

namespace Go.Proofs.Ytabanbpnghidhaa
open Go.RowKit Go.Maps

theorem firstI_spec (p : Nat → Bool) : ∀ (n i : Nat), (firstI p i n = -1 ∧ ∀ j, i ≤ j → j < i + n → p j = false) ∨ ∃ k, i ≤ k ∧ k < i + n ∧ firstI p i n = (k : Int) ∧ p k = true ∧ ∀ j, i ≤ j → j < k → p j = false
  | 0, i => .inl ⟨rfl, fun j h1 h2 => absurd h2 (by omega)⟩
  | n + 1, i => by
    rw [firstI]
    by_cases hp : p i = true
    · exact .inr ⟨i, Nat.le_refl _, by omega, by rw [if_pos hp], hp, fun j h1 h2 => absurd h2 (by omega)⟩
    · rw [if_neg hp]
      have hp' : p i = false := Bool.eq_false_iff.2 hp
      rcases firstI_spec p n (i + 1) with ⟨h1, h2⟩ | ⟨k, h1, h2, h3, h4, h5⟩
      · refine .inl ⟨h1, fun j hj1 hj2 => ?_⟩
        rcases Nat.eq_or_lt_of_le hj1 with h | h
        · rw [← h]; exact hp'
        · exact h2 j h (by omega)
      · refine .inr ⟨k, by omega, by omega, h3, h4, fun j hj1 hj2 => ?_⟩
        rcases Nat.eq_or_lt_of_le hj1 with h | h
        · rw [← h]; exact hp'
        · exact h5 j h hj2
/-- A question on the elements of a list, by their places. -/
def atI {α : Type} (l : List α) (q : α → Bool) (i : Nat) : Bool := match l[i]? with
  | some x => q x
  | none => false
theorem atI_get {α : Type} {l : List α} {q : α → Bool} {i : Nat} {x : α} (h : l[i]? = some x) : atI l q i = q x := by simp [atI, h]
theorem find_cases {α : Type} (l : List α) (q : α → Bool) : (firstI (atI l q) 0 l.length = -1 ∧ l.find? q = none) ∨ ∃ (k : Nat) (x : α), firstI (atI l q) 0 l.length = (k : Int) ∧ l[k]? = some x ∧ q x = true ∧ l.find? q = some x := by
  rcases firstI_spec (atI l q) l.length 0 with ⟨h1, h2⟩ | ⟨k, _, h2, h3, h4, h5⟩
  · refine .inl ⟨h1, List.find?_eq_none.2 fun x hx => ?_⟩
    obtain ⟨i, hi, rfl⟩ := List.getElem_of_mem hx
    have := h2 i (Nat.zero_le _) (by omega)
    rw [atI_get (List.getElem?_eq_getElem hi)] at this
    simp [this]
  · have hk : k < l.length := by omega
    have hx := List.getElem?_eq_getElem hk
    rw [atI_get hx] at h4
    refine .inr ⟨k, l[k], h3, hx, h4, ?_⟩
    rw [List.find?_eq_some_iff_getElem]
    exact ⟨h4, k, hk, rfl, fun j hj => by
      have := h5 j (Nat.zero_le _) hj
      rw [atI_get (List.getElem?_eq_getElem (by omega))] at this
      simp [this]⟩

/-- P4.1, of a column. -/
def colOK (x : ColD) : Bool := nm x.name && (decide (x.ty = 1) || decide (x.ty = 2))
/-- .. of columns: each, and no name twice. -/
def colBad (l : List ColD) (i : Nat) : Bool := match l[i]? with
  | some x => !colOK x || memW ((l.take i).map ColD.name) x.name
  | none => false
def colsB (l : List ColD) : Bool := !anyI (colBad l) 0 l.length
def fitCols (l : List ColD) : Prop := ∀ x ∈ l, x.name.size ≤ maxLen

set_option maxHeartbeats 1000000 in
theorem goodCol_any (x : ColD) (w : World) (hs : x.name.size ≤ maxLen) : Calls Try.prog 105 #[.agg #[.string x.name, .int .i64 x.ty, .bool x.must]] w fun e w' => e = .returned (.bool (colOK x)) ∧ Below w.heap.size w w' := by
  obtain ⟨name, ty, must⟩ := x
  simp only at hs ⊢
  have hN := fun w => named_any name w hs
  have E : Hid (colOK ⟨name, ty, must⟩ = (nm name && (decide (ty = 1) || decide (ty = 2)))) := rfl
  generalize colOK ⟨name, ty, must⟩ = r at E
  generalize nm name = b at hN E
  clear hs
  cases b <;> by_cases h1 : ty = 1 <;> by_cases h2 : ty = 2
  all_goals (try omega)
  all_goals
    go_enter Try.func105, Try.ntmps105
    go_wp2_with (go_at_call 60; go_fit (hN _); rintro e w1 ⟨rfl, rfl⟩)
    go_ret
    exact ⟨ret_bool (by rw [E.out]; simp_all), (Below.refl _ _).alloc (Nat.le_refl _) _⟩

theorem Below.grow {B : Nat} {a w w' : World} {b : Nat} (h : Below B a w) (hg : w.grownBy w' (some b)) (hB : B ≤ w.heap.size) (hb : B ≤ b) : Below B a w' := h.grown hg hB fun k hk => by cases hk; exact hb

set_option maxHeartbeats 2000000 in
theorem goodCols1_any (x : ColD) (mb pb : Nat) (N : List Wd) (w : World) (hs : x.name.size ≤ maxLen) (hN : N.length ≤ 16777215) (hc : Cnt w mb N) (hp : w.cell? ⟨pb, 0, none⟩ = some (.map (some mb))) (hpb : pb < w.heap.size) :
    Calls Try.prog 104 #[.agg #[.string x.name, .int .i64 x.ty, .bool x.must], .pointer (some ⟨pb, 0, none⟩)] w fun e w' => e = .returned (.bool (!colOK x || memW N x.name)) ∧ w.grownBy w' (some mb) ∧ (colOK x = true → Cnt w' mb (N ++ [x.name])) := by
  have hG := fun w => goodCol_any x w hs
  generalize colOK x = b at hG
  obtain ⟨name, ty, must⟩ := x
  simp only at hs hG ⊢
  have hbx := bel1 w (.cells #[.string name, .int .i64 ty, .bool must] 56)
  cases b
  · go_enter Try.func104, Try.ntmps104
    go_wp2_with (go_at_call 105; go_fit (hG _); rintro e w1 ⟨rfl, hb1⟩)
    go_ret
    have hb2 := bthen hbx hb1
    exact ⟨ret_bool (by simp), ⟨hb2.os, hb2.tape, hb2.output, hb2.size, fun k hk _ => hb2.block k hk⟩, fun h => by cases h⟩
  · have hA := fun w' (h : Below w.heap.size w w') => again_any mb N name w' (hc.below h) hs (by omega)
    generalize memW N name = q at hA
    clear hc
    go_enter Try.func104, Try.ntmps104
    go_wp2_with (first | (go_at_call 105; go_fit (hG _); rintro e w1 ⟨rfl, hb1⟩; have hp1 := ((bthen hbx hb1).cell (p := ⟨pb, 0, none⟩) hpb).trans hp; obtain ⟨hcc, hff⟩ := bcell hb1) | (go_at_call 97; go_fit (hA _ (bthen hbx hb1)); rintro e w2 ⟨rfl, hc2, hg2⟩))
    go_ret
    have hb2 := bthen hbx hb1
    exact ⟨ret_bool (by simp), ⟨hg2.os.trans hb2.os, hg2.tape.trans hb2.tape, hg2.output.trans hb2.output, Nat.le_trans hb2.size hg2.size, fun k hk hne => (hg2.block k (Nat.lt_of_lt_of_le hk hb2.size) hne).trans (hb2.block k hk)⟩, fun _ => hc2⟩

theorem cnt_alloc {w : World} {b : Nat} {N : List Wd} (h : Cnt w b N) (o : Obj) : Cnt (w.alloc o) b N := h.below (bel1 _ _)
set_option maxHeartbeats 2000000 in
theorem goodCols_any (l : List ColD) (sv : Value) (C : Nat) (w : World) (hl : IsL kCol (fun k => k < C) w sv l) (hC : C ≤ w.heap.size) (hf : fitCols l) (hn : l.length ≤ 16777215) :
    Calls Try.prog 87 #[sv] w fun e w' => e = .returned (.bool (colsB l)) ∧ Below w.heap.size w w' := by
  obtain ⟨ao, c, rfl⟩ := hl.shape
  have hb2 := bel2 w (.map #[] 0) (.cells #[.map (some w.heap.size)] 131)
  have HC := contains_goodCols l (fun k => k < C) ao l.length c (.pointer (some ⟨w.heap.size + 1, 0, none⟩)) (colBad l)
    (fun i W => Cnt W w.heap.size ((l.take i).map ColD.name) ∧ W.cell? ⟨w.heap.size + 1, 0, none⟩ = some (.map (some w.heap.size)) ∧ Below w.heap.size w W ∧ w.heap.size + 2 ≤ W.heap.size) (fun W => Below w.heap.size w W)
    ((w.alloc (.map #[] 0)).alloc (.cells #[.map (some w.heap.size)] 131)) (fun i W h => h.2.2.1) (fun i W h => hl.keep (keepsC (h.2.2.1.mono hC)))
    (by
      rintro i x cs W hx ⟨h1, h2, h3, h4⟩ rfl
      refine (goodCols1_any x w.heap.size (w.heap.size + 1) _ W (hf x (List.mem_of_getElem? hx)) (by simp; omega) h1 h2 (by omega)).mono ?_
      rintro e W' ⟨rfl, hg, hc⟩
      have hbW : Below w.heap.size w W' := Below.grow h3 hg (by omega) (Nat.le_refl _)
      have hE : colBad l i = (!colOK x || memW ((l.take i).map ColD.name) x.name) := by simp [colBad, hx]
      refine ⟨by rw [hE], hbW, fun hp => ⟨?_, ?_, hbW, Nat.le_trans h4 hg.size⟩⟩
      · rw [hE] at hp
        rw [List.take_add_one, hx, List.map_append]
        exact hc (by simp at hp; exact hp.1)
      · exact hg.cell h2 (by simp))
    ⟨cnt_alloc (cnt_made w) _, cell_of_block (block2 _ _ _) rfl, hb2, by simp⟩
  have E : Hid (colsB l = !anyI (colBad l) 0 l.length) := rfl
  generalize colsB l = r at E
  generalize anyI (colBad l) 0 l.length = q at E HC
  clear hl hf
  have hmm := @run_makeMap Try.prog
  go_enter Try.func87, Try.ntmps87
  go_wp2_with (go_at_call 103; go_fit HC; rintro e w1 ⟨rfl, hb1⟩)
  go_ret
  exact ⟨ret_bool (by rw [E.out]), hb1⟩

end Go.Proofs.Ytabanbpnghidhaa

namespace Go.Proofs.Ytabanbpnghidhaa
open Go.RowKit Go.Maps

theorem anyI_step (p : Nat → Bool) (k n : Nat) (h : k < n) : anyI p k (n - k) = (p k || anyI p (k + 1) (n - (k + 1))) := by
  rw [show n - k = (n - (k + 1)) + 1 from by omega, anyI]
/-- Is a name not ahead of the next? -/
def stands (l : List Wd) (i : Nat) : Bool := match l[i]?, l[i + 1]? with
  | some a, some b => !Op.bytesLess a.toList b.toList
  | _, _ => false
/-- Do names rise? -/
def riseB (l : List Wd) : Bool := !anyI (stands l) 0 (l.length - 1)

set_option maxHeartbeats 400000 in
theorem tableName_any (nmv : Wd) (ao : Option Addr) (n c : Nat) (w : World) : Calls Try.prog 17 #[.agg #[.string nmv, .slice ao n c]] w fun e w' => e = .returned (.string nmv) ∧ Below w.heap.size w w' := by
  go_enter Try.func17, Try.ntmps17
  go_wp2
  go_ret
  exact ⟨rfl, bel1 _ _⟩
set_option maxHeartbeats 400000 in
theorem indexName_any (nmv t c : Wd) (w : World) : Calls Try.prog 19 #[.agg #[.string nmv, .string t, .string c]] w fun e w' => e = .returned (.string nmv) ∧ Below w.heap.size w w' := by
  go_enter Try.func19, Try.ntmps19
  go_wp2
  go_ret
  exact ⟨rfl, bel1 _ _⟩

theorem rise_keep_tab {W W' : World} {b off k : Nat} {a0 a1 a2 a3 : Value} (h : W.cell? ⟨b, off + k * 2, none⟩ = some a0 ∧ W.cell? ⟨b, off + k * 2 + 1, none⟩ = some a1 ∧ W.cell? ⟨b, off + (k + 1) * 2, none⟩ = some a2 ∧ W.cell? ⟨b, off + (k + 1) * 2 + 1, none⟩ = some a3) (hb : Below W.heap.size W W') (hl : b < W.heap.size) : W'.cell? ⟨b, off + k * 2, none⟩ = some a0 ∧ W'.cell? ⟨b, off + k * 2 + 1, none⟩ = some a1 ∧ W'.cell? ⟨b, off + (k + 1) * 2, none⟩ = some a2 ∧ W'.cell? ⟨b, off + (k + 1) * 2 + 1, none⟩ = some a3 := by
  have kc : ∀ o, W'.cell? ⟨b, o, none⟩ = W.cell? ⟨b, o, none⟩ := fun o => hb.cell (p := ⟨b, o, none⟩) hl
  obtain ⟨h0, h1, h2, h3⟩ := h
  exact ⟨(kc _).trans h0, (kc _).trans h1, (kc _).trans h2, (kc _).trans h3⟩

set_option maxRecDepth 100000 in
set_option maxHeartbeats 4000000 in
theorem rise_tab (l : List TabD) (sv : Value) (C : Nat) (w : World) (hl : IsL kTab (fun k => k < C) w sv l) (hC : C ≤ w.heap.size) :
    Calls Try.prog 58 #[sv, .func (.func 17) #[] #[]] w fun e w' => e = .returned (.bool (riseB (l.map TabD.name))) ∧ Below w.heap.size w w' := by
  obtain ⟨ao, c, rfl⟩ := hl.shape
  have hlm := (isL_len hl).2
  unfold maxLen at hlm
  have E : Hid (riseB (l.map TabD.name) = !anyI (stands (l.map TabD.name)) 0 (l.length - 1)) := by show _ = _; rw [riseB, List.length_map]
  generalize riseB (l.map TabD.name) = r at E
  go_enter Try.func58, Try.ntmps58
  go_wp2
  go_loopw [5] (fun i wr => ∃ k : Nat, k ≤ l.length - 1 ∧ i = .int .i64 ((k : Int) + 1) ∧ Below w.heap.size w wr ∧ Hid (anyI (stands (l.map TabD.name)) 0 (l.length - 1) = anyI (stands (l.map TabD.name)) k (l.length - 1 - k))) (fun i _ => l.length - (intOf i).toNat)
  case atStart => exact ⟨0, Nat.zero_le _, rfl, Below.refl _ _, rfl⟩
  case round =>
    obtain ⟨k, hk, rfl, hbel, HP⟩ := hrel
    by_cases hlt : k + 1 < l.length
    · obtain ⟨x, hx⟩ : ∃ x, l[k]? = some x := ⟨_, List.getElem?_eq_getElem (by omega)⟩
      obtain ⟨y, hy⟩ : ∃ y, l[k + 1]? = some y := ⟨_, List.getElem?_eq_getElem hlt⟩
      have hlr := hl.keep (keepsC (hbel.mono hC))
      obtain ⟨b, off, cs0, rfl, _, hb, hR0, hcell0⟩ := isL_get hlr hx
      obtain ⟨b', off', cs1, hbe, _, _, hR1, hcell1⟩ := isL_get hlr hy
      simp only [Option.some.injEq, Addr.mk.injEq, and_true] at hbe
      obtain ⟨rfl, rfl⟩ := hbe
      obtain ⟨sv0, rfl, hsv0⟩ := hR0
      obtain ⟨so0, sc0, rfl⟩ := hsv0.shape
      obtain ⟨sv1, rfl, hsv1⟩ := hR1
      obtain ⟨so1, sc1, rfl⟩ := hsv1.shape
      have d0 := hcell0 0 _ rfl
      have d1 := hcell0 1 _ rfl
      have e0 := hcell1 0 _ rfl
      have e1 := hcell1 1 _ rfl
      simp only [kTab, Nat.add_zero] at d0 d1 e0 e1
      have hst : Hid (anyI (stands (l.map TabD.name)) k (l.length - 1 - k) = (!Op.bytesLess x.name.toList y.name.toList || anyI (stands (l.map TabD.name)) (k + 1) (l.length - 1 - (k + 1)))) := by
        show _ = _
        rw [anyI_step _ k _ (by omega), stands, List.getElem?_map, List.getElem?_map, hx, hy]
        rfl
      have k0 : (0 : Int) ≤ (k : Int) + 1 := by omega
      have k1 : (k : Int) + 1 < (l.length : Int) := by omega
      have k2 : wrap64 ((k : Int) + 1 - 1) = (k : Int) := by unfold wrap64; omega
      have k3 : (0 : Int) ≤ (k : Int) := by omega
      have k4 : (k : Int) < (l.length : Int) := by omega
      have k5 : ((k : Int) + 1).toNat = k + 1 := by omega
      have k6 : IntKind.i64.wrap (k : Int) = (k : Int) := by rw [IntKind.wrap_i64]; omega
      have S0 := (show wr.cell? ⟨b, off + k * 2, none⟩ = some (.string x.name) ∧ wr.cell? ⟨b, off + k * 2 + 1, none⟩ = some (.slice so0 x.cols.length sc0) ∧ wr.cell? ⟨b, off + (k + 1) * 2, none⟩ = some (.string y.name) ∧ wr.cell? ⟨b, off + (k + 1) * 2 + 1, none⟩ = some (.slice so1 y.cols.length sc1) from ⟨d0, d1, e0, e1⟩)
      clear hcell0 hcell1 hx hy hlr
      cases hq : Op.bytesLess x.name.toList y.name.toList
      · have hst2 : Hid (anyI (stands (l.map TabD.name)) k (l.length - 1 - k) = true) := by show _ = _; rw [hst.out, hq]; rfl
        clear hst
        go_wp2_with fail
        go_region_held3 (fun w' => w'.cell? ⟨b, off + k * 2, none⟩ = some (.string x.name) ∧ w'.cell? ⟨b, off + k * 2 + 1, none⟩ = some (.slice so0 x.cols.length sc0) ∧ w'.cell? ⟨b, off + (k + 1) * 2, none⟩ = some (.string y.name) ∧ w'.cell? ⟨b, off + (k + 1) * 2 + 1, none⟩ = some (.slice so1 y.cols.length sc1)) (first | assumption | exact S0)
          (first | (go_at_call_of 17 (Value.agg #[.string x.name, .slice so0 x.cols.length sc0]); go_fit (tableName_any x.name so0 x.cols.length sc0 _); rintro r0 w2 ⟨rfl, hb0⟩; have S1 := rise_keep_tab (W := wr.drew) S0 hb0 hb; have z1 := Nat.lt_of_lt_of_le hb hb0.size) | (go_at_call_of 17 (Value.agg #[.string y.name, .slice so1 y.cols.length sc1]); go_fit (tableName_any y.name so1 y.cols.length sc1 _); rintro r1 w3 ⟨rfl, hb1⟩; have S2 := rise_keep_tab S1 hb1 z1; have z2 := Nat.lt_of_lt_of_le z1 hb1.size))
        go_wp2
        go_ret
        exact ⟨ret_bool (by rw [E.out, HP.out, hst2.out]; rfl), hbel.trans ((bthen (bthen (Below.refl _ _).drew hb0) hb1).mono hbel.size)⟩
      · have hst2 : Hid (anyI (stands (l.map TabD.name)) k (l.length - 1 - k) = anyI (stands (l.map TabD.name)) (k + 1) (l.length - 1 - (k + 1))) := by show _ = _; rw [hst.out, hq]; rfl
        clear hst
        go_wp2_with fail
        go_region_held3 (fun w' => w'.cell? ⟨b, off + k * 2, none⟩ = some (.string x.name) ∧ w'.cell? ⟨b, off + k * 2 + 1, none⟩ = some (.slice so0 x.cols.length sc0) ∧ w'.cell? ⟨b, off + (k + 1) * 2, none⟩ = some (.string y.name) ∧ w'.cell? ⟨b, off + (k + 1) * 2 + 1, none⟩ = some (.slice so1 y.cols.length sc1)) (first | assumption | exact S0)
          (first | (go_at_call_of 17 (Value.agg #[.string x.name, .slice so0 x.cols.length sc0]); go_fit (tableName_any x.name so0 x.cols.length sc0 _); rintro r0 w2 ⟨rfl, hb0⟩; have S1 := rise_keep_tab (W := wr.drew) S0 hb0 hb; have z1 := Nat.lt_of_lt_of_le hb hb0.size) | (go_at_call_of 17 (Value.agg #[.string y.name, .slice so1 y.cols.length sc1]); go_fit (tableName_any y.name so1 y.cols.length sc1 _); rintro r1 w3 ⟨rfl, hb1⟩; have S2 := rise_keep_tab S1 hb1 z1; have z2 := Nat.lt_of_lt_of_le z1 hb1.size))
        go_wp2
        go_roundw
        case rel => exact ⟨k + 1, by omega, by go_num, hbel.trans ((bthen (bthen (Below.refl _ _).drew hb0) hb1).mono hbel.size), HP.out.trans hst2.out⟩
        case measure => simp [intOf]; omega
    · have HE : Hid (anyI (stands (l.map TabD.name)) k (l.length - 1 - k) = false) := by show _ = _; rw [show l.length - 1 - k = 0 from by omega]; rfl
      have k1 : ¬ (k : Int) + 1 < (l.length : Int) := by omega
      go_wp2
      go_ret
      exact ⟨ret_bool (by rw [E.out, HP.out, HE.out]; rfl), hbel⟩

theorem rise_keep_idx {W W' : World} {b off k : Nat} {a0 a1 a2 a3 a4 a5 : Value} (h : W.cell? ⟨b, off + k * 3, none⟩ = some a0 ∧ W.cell? ⟨b, off + k * 3 + 1, none⟩ = some a1 ∧ W.cell? ⟨b, off + k * 3 + 2, none⟩ = some a2 ∧ W.cell? ⟨b, off + (k + 1) * 3, none⟩ = some a3 ∧ W.cell? ⟨b, off + (k + 1) * 3 + 1, none⟩ = some a4 ∧ W.cell? ⟨b, off + (k + 1) * 3 + 2, none⟩ = some a5) (hb : Below W.heap.size W W') (hl : b < W.heap.size) : W'.cell? ⟨b, off + k * 3, none⟩ = some a0 ∧ W'.cell? ⟨b, off + k * 3 + 1, none⟩ = some a1 ∧ W'.cell? ⟨b, off + k * 3 + 2, none⟩ = some a2 ∧ W'.cell? ⟨b, off + (k + 1) * 3, none⟩ = some a3 ∧ W'.cell? ⟨b, off + (k + 1) * 3 + 1, none⟩ = some a4 ∧ W'.cell? ⟨b, off + (k + 1) * 3 + 2, none⟩ = some a5 := by
  have kc : ∀ o, W'.cell? ⟨b, o, none⟩ = W.cell? ⟨b, o, none⟩ := fun o => hb.cell (p := ⟨b, o, none⟩) hl
  obtain ⟨h0, h1, h2, h3, h4, h5⟩ := h
  exact ⟨(kc _).trans h0, (kc _).trans h1, (kc _).trans h2, (kc _).trans h3, (kc _).trans h4, (kc _).trans h5⟩

set_option maxRecDepth 100000 in
set_option maxHeartbeats 4000000 in
theorem rise_idx (l : List IdxD) (sv : Value) (C : Nat) (w : World) (hl : IsL kIdx (fun k => k < C) w sv l) (hC : C ≤ w.heap.size) :
    Calls Try.prog 63 #[sv, .func (.func 19) #[] #[]] w fun e w' => e = .returned (.bool (riseB (l.map IdxD.name))) ∧ Below w.heap.size w w' := by
  obtain ⟨ao, c, rfl⟩ := hl.shape
  have hlm := (isL_len hl).2
  unfold maxLen at hlm
  have E : Hid (riseB (l.map IdxD.name) = !anyI (stands (l.map IdxD.name)) 0 (l.length - 1)) := by show _ = _; rw [riseB, List.length_map]
  generalize riseB (l.map IdxD.name) = r at E
  go_enter Try.func63, Try.ntmps63
  go_wp2
  go_loopw [5] (fun i wr => ∃ k : Nat, k ≤ l.length - 1 ∧ i = .int .i64 ((k : Int) + 1) ∧ Below w.heap.size w wr ∧ Hid (anyI (stands (l.map IdxD.name)) 0 (l.length - 1) = anyI (stands (l.map IdxD.name)) k (l.length - 1 - k))) (fun i _ => l.length - (intOf i).toNat)
  case atStart => exact ⟨0, Nat.zero_le _, rfl, Below.refl _ _, rfl⟩
  case round =>
    obtain ⟨k, hk, rfl, hbel, HP⟩ := hrel
    by_cases hlt : k + 1 < l.length
    · obtain ⟨x, hx⟩ : ∃ x, l[k]? = some x := ⟨_, List.getElem?_eq_getElem (by omega)⟩
      obtain ⟨y, hy⟩ : ∃ y, l[k + 1]? = some y := ⟨_, List.getElem?_eq_getElem hlt⟩
      have hlr := hl.keep (keepsC (hbel.mono hC))
      obtain ⟨b, off, cs0, rfl, _, hb, hR0, hcell0⟩ := isL_get hlr hx
      obtain ⟨b', off', cs1, hbe, _, _, hR1, hcell1⟩ := isL_get hlr hy
      simp only [Option.some.injEq, Addr.mk.injEq, and_true] at hbe
      obtain ⟨rfl, rfl⟩ := hbe
      obtain rfl := hR0
      obtain rfl := hR1
      have d0 := hcell0 0 _ rfl
      have d1 := hcell0 1 _ rfl
      have d2 := hcell0 2 _ rfl
      have e0 := hcell1 0 _ rfl
      have e1 := hcell1 1 _ rfl
      have e2 := hcell1 2 _ rfl
      simp only [kIdx, Nat.add_zero] at d0 d1 d2 e0 e1 e2
      have hst : Hid (anyI (stands (l.map IdxD.name)) k (l.length - 1 - k) = (!Op.bytesLess x.name.toList y.name.toList || anyI (stands (l.map IdxD.name)) (k + 1) (l.length - 1 - (k + 1)))) := by
        show _ = _
        rw [anyI_step _ k _ (by omega), stands, List.getElem?_map, List.getElem?_map, hx, hy]
        rfl
      have k0 : (0 : Int) ≤ (k : Int) + 1 := by omega
      have k1 : (k : Int) + 1 < (l.length : Int) := by omega
      have k2 : wrap64 ((k : Int) + 1 - 1) = (k : Int) := by unfold wrap64; omega
      have k3 : (0 : Int) ≤ (k : Int) := by omega
      have k4 : (k : Int) < (l.length : Int) := by omega
      have k5 : ((k : Int) + 1).toNat = k + 1 := by omega
      have k6 : IntKind.i64.wrap (k : Int) = (k : Int) := by rw [IntKind.wrap_i64]; omega
      have S0 := (show wr.cell? ⟨b, off + k * 3, none⟩ = some (.string x.name) ∧ wr.cell? ⟨b, off + k * 3 + 1, none⟩ = some (.string x.table) ∧ wr.cell? ⟨b, off + k * 3 + 2, none⟩ = some (.string x.col) ∧ wr.cell? ⟨b, off + (k + 1) * 3, none⟩ = some (.string y.name) ∧ wr.cell? ⟨b, off + (k + 1) * 3 + 1, none⟩ = some (.string y.table) ∧ wr.cell? ⟨b, off + (k + 1) * 3 + 2, none⟩ = some (.string y.col) from ⟨d0, d1, d2, e0, e1, e2⟩)
      clear hcell0 hcell1 hx hy hlr
      cases hq : Op.bytesLess x.name.toList y.name.toList
      · have hst2 : Hid (anyI (stands (l.map IdxD.name)) k (l.length - 1 - k) = true) := by show _ = _; rw [hst.out, hq]; rfl
        clear hst
        go_wp2_with fail
        go_region_held3 (fun w' => w'.cell? ⟨b, off + k * 3, none⟩ = some (.string x.name) ∧ w'.cell? ⟨b, off + k * 3 + 1, none⟩ = some (.string x.table) ∧ w'.cell? ⟨b, off + k * 3 + 2, none⟩ = some (.string x.col) ∧ w'.cell? ⟨b, off + (k + 1) * 3, none⟩ = some (.string y.name) ∧ w'.cell? ⟨b, off + (k + 1) * 3 + 1, none⟩ = some (.string y.table) ∧ w'.cell? ⟨b, off + (k + 1) * 3 + 2, none⟩ = some (.string y.col)) (first | assumption | exact S0)
          (first | (go_at_call_of 19 (Value.agg #[.string x.name, .string x.table, .string x.col]); go_fit (indexName_any x.name x.table x.col _); rintro r0 w2 ⟨rfl, hb0⟩; have S1 := rise_keep_idx (W := wr.drew) S0 hb0 hb; have z1 := Nat.lt_of_lt_of_le hb hb0.size) | (go_at_call_of 19 (Value.agg #[.string y.name, .string y.table, .string y.col]); go_fit (indexName_any y.name y.table y.col _); rintro r1 w3 ⟨rfl, hb1⟩; have S2 := rise_keep_idx S1 hb1 z1; have z2 := Nat.lt_of_lt_of_le z1 hb1.size))
        go_wp2
        go_ret
        exact ⟨ret_bool (by rw [E.out, HP.out, hst2.out]; rfl), hbel.trans ((bthen (bthen (Below.refl _ _).drew hb0) hb1).mono hbel.size)⟩
      · have hst2 : Hid (anyI (stands (l.map IdxD.name)) k (l.length - 1 - k) = anyI (stands (l.map IdxD.name)) (k + 1) (l.length - 1 - (k + 1))) := by show _ = _; rw [hst.out, hq]; rfl
        clear hst
        go_wp2_with fail
        go_region_held3 (fun w' => w'.cell? ⟨b, off + k * 3, none⟩ = some (.string x.name) ∧ w'.cell? ⟨b, off + k * 3 + 1, none⟩ = some (.string x.table) ∧ w'.cell? ⟨b, off + k * 3 + 2, none⟩ = some (.string x.col) ∧ w'.cell? ⟨b, off + (k + 1) * 3, none⟩ = some (.string y.name) ∧ w'.cell? ⟨b, off + (k + 1) * 3 + 1, none⟩ = some (.string y.table) ∧ w'.cell? ⟨b, off + (k + 1) * 3 + 2, none⟩ = some (.string y.col)) (first | assumption | exact S0)
          (first | (go_at_call_of 19 (Value.agg #[.string x.name, .string x.table, .string x.col]); go_fit (indexName_any x.name x.table x.col _); rintro r0 w2 ⟨rfl, hb0⟩; have S1 := rise_keep_idx (W := wr.drew) S0 hb0 hb; have z1 := Nat.lt_of_lt_of_le hb hb0.size) | (go_at_call_of 19 (Value.agg #[.string y.name, .string y.table, .string y.col]); go_fit (indexName_any y.name y.table y.col _); rintro r1 w3 ⟨rfl, hb1⟩; have S2 := rise_keep_idx S1 hb1 z1; have z2 := Nat.lt_of_lt_of_le z1 hb1.size))
        go_wp2
        go_roundw
        case rel => exact ⟨k + 1, by omega, by go_num, hbel.trans ((bthen (bthen (Below.refl _ _).drew hb0) hb1).mono hbel.size), HP.out.trans hst2.out⟩
        case measure => simp [intOf]; omega
    · have HE : Hid (anyI (stands (l.map IdxD.name)) k (l.length - 1 - k) = false) := by show _ = _; rw [show l.length - 1 - k = 0 from by omega]; rfl
      have k1 : ¬ (k : Int) + 1 < (l.length : Int) := by omega
      go_wp2
      go_ret
      exact ⟨ret_bool (by rw [E.out, HP.out, HE.out]; rfl), hbel⟩

end Go.Proofs.Ytabanbpnghidhaa

namespace Go.Proofs.Ytabanbpnghidhaa
open Go.RowKit

def cmpI (a b : Int) : Int := if a < b then -1 else if b < a then 1 else 0
def cmpS (a b : ByteArray) : Int := if Op.bytesLess a.toList b.toList then -1 else if a.toList == b.toList then 0 else 1
def or3 (x y z : Int) : Int := if x = 0 then if y = 0 then z else y else x
def cmpV (a b : V) : Int := or3 (cmpI a.k b.k) (cmpI a.n b.n) (cmpS a.s b.s)

set_option maxHeartbeats 400000 in
theorem cmpInt_any (a b : Int) (w : World) : Calls Try.prog 126 #[.int .i64 a, .int .i64 b] w fun e w' => e = .returned (.int .i64 (cmpI a b)) ∧ w' = w := by
  rcases (show a < b ∨ b < a ∨ a = b from by omega) with h | h | h
  · have hn : ¬ b < a := by omega
    go_enter Try.func126, Try.ntmps126
    go_wp2
    go_ret
    exact ⟨ret_int (by simp [cmpI, h]), rfl⟩
  · have hn : ¬ a < b := by omega
    have E : Hid (cmpI a b = 1) := by show cmpI a b = 1; simp [cmpI, hn, h]
    go_enter Try.func126, Try.ntmps126
    go_wp2
    go_ret
    exact ⟨ret_int E.out.symm, rfl⟩
  · subst h
    have E : Hid (cmpI a a = 0) := by show cmpI a a = 0; simp [cmpI]
    go_enter Try.func126, Try.ntmps126
    go_wp2
    go_ret
    exact ⟨ret_int E.out.symm, rfl⟩

set_option maxHeartbeats 400000 in
theorem cmpStr_any (a b : ByteArray) (w : World) : Calls Try.prog 45 #[.string a, .string b] w fun e w' => e = .returned (.int .i64 (cmpS a b)) ∧ w' = w := by
  cases h : Op.bytesLess a.toList b.toList <;> cases h2 : a.toList == b.toList
  all_goals
    have E : Hid (cmpS a b = (if Op.bytesLess a.toList b.toList then -1 else if a.toList == b.toList then 0 else 1)) := rfl
    go_enter Try.func45, Try.ntmps45
    go_wp2
    go_ret
    exact ⟨ret_int (by rw [E.out, h, h2]; rfl), rfl⟩

set_option maxHeartbeats 400000 in
theorem or_three (x y z : Int) (b c : Nat) (w : World) (h0 : w.cell? ⟨b, 0, none⟩ = some (.int .i64 x)) (h1 : w.cell? ⟨b, 1, none⟩ = some (.int .i64 y)) (h2 : w.cell? ⟨b, 2, none⟩ = some (.int .i64 z)) :
    Calls Try.prog 125 #[.slice (some ⟨b, 0, none⟩) 3 c] w fun e w' => e = .returned (.int .i64 (or3 x y z)) ∧ w' = w := by
  by_cases hx : x = 0 <;> by_cases hy : y = 0 <;> by_cases hz : z = 0
  all_goals
    have E : Hid (or3 x y z = if x = 0 then if y = 0 then z else y else x) := rfl
    go_enter Try.func125, Try.ntmps125
    go_wp2
    refine wp_loop_rounds 4 ?_
    rw [rounds_succ]
    go_wp2
    all_goals (try (rw [rounds_succ]; go_wp2))
    all_goals (try (rw [rounds_succ]; go_wp2))
    all_goals (try (rw [rounds_succ]; go_wp2))
    all_goals go_ret
    all_goals exact ⟨ret_int (by rw [E.out]; simp_all), rfl⟩

set_option maxHeartbeats 4000000 in
theorem compare_any (a b : V) (w : World) : Calls Try.prog 120 #[a.val, b.val] w fun e w' => e = .returned (.int .i64 (cmpV a b)) ∧ Below w.heap.size w w' := by
  obtain ⟨k1, n1, s1⟩ := a
  obtain ⟨k2, n2, s2⟩ := b
  show Calls Try.prog 120 #[.agg #[.int .i64 k1, .int .i64 n1, .string s1], .agg #[.int .i64 k2, .int .i64 n2, .string s2]] w _
  go_enter Try.func120, Try.ntmps120
  go_wp2
  go_region_held3 (fun w' => w'.cell? ⟨w.heap.size, 0, none⟩ = some (.int .i64 k1) ∧ w'.cell? ⟨w.heap.size, 1, none⟩ = some (.int .i64 n1) ∧ w'.cell? ⟨w.heap.size, 2, none⟩ = some (.string s1) ∧ w'.cell? ⟨w.heap.size + 1, 0, none⟩ = some (.int .i64 k2) ∧ w'.cell? ⟨w.heap.size + 1, 1, none⟩ = some (.int .i64 n2) ∧ w'.cell? ⟨w.heap.size + 1, 2, none⟩ = some (.string s2)) (go_keep)
    (first | (go_at_call 126; refine (cmpInt_any _ _ _).mono ?_; rintro e w' ⟨rfl, rfl⟩) | (go_at_call 45; refine (cmpStr_any _ _ _).mono ?_; rintro e w' ⟨rfl, rfl⟩) | (go_at_call 125; refine (or_three (cmpI k1 k2) (cmpI n1 n2) (cmpS s1 s2) _ _ _ ?_ ?_ ?_).mono ?_; (simp [go_sem]); (simp [go_sem]); (simp [go_sem]); rintro e w' ⟨rfl, rfl⟩))
  go_wp2
  go_ret
  refine ⟨rfl, ?_⟩
  repeat first | exact Below.refl _ _ | apply Below.drew | refine Below.alloc ?_ (by simp; try omega) _

end Go.Proofs.Ytabanbpnghidhaa

namespace Go.Proofs.Ytabanbpnghidhaa
open Go.RowKit
open Go.Maps

set_option maxRecDepth 100000 in
set_option maxHeartbeats 4000000 in
theorem searchTab (l : List (List Value)) (ao : Option Addr) (n c : Nat) (f0 : Value) (want : Wd) (cf : Nat → Int) (m0 : Nat) (w : World) (hIs : ∀ W, Below w.heap.size w W → IsL kRawTab (fun _ => True) W (.slice ao n c) l)
    (hm : m0 ≤ l.length) (hm1 : ∀ t, t < m0 → cf t < 0) (hm2 : ∀ t, m0 ≤ t → t < l.length → ¬ cf t < 0) (hl : l.length ≤ 1000000)
    (hcall : ∀ i cs W, l[i]? = some cs → Below w.heap.size w W → Calls Try.prog 44 #[.agg cs.toArray, .string want, f0] W fun e W' => e = .returned (.int .i64 (cf i)) ∧ Below W.heap.size W W') :
    Calls Try.prog 46 #[.slice ao n c, .string want, .func (.func 44) #[] #[f0]] w fun e w' => ∃ b, e = .returned (.tuple #[.int .i64 m0, .bool b]) ∧ Below w.heap.size w w' := by
  obtain ⟨hn, hlm⟩ := isL_len (hIs w (Below.refl _ _))
  subst hn
  have HM1 : Hid _ := hm1
  have HM2 : Hid _ := hm2
  clear hm1 hm2
  go_enter Try.func46, Try.ntmps46
  go_wp2
  go_loopg [9, 10] l.length (fun kx s9 s10 wr => ∃ lo hi : Nat, s9 = .int .i64 lo ∧ s10 = .int .i64 hi ∧ lo ≤ m0 ∧ m0 ≤ hi ∧ hi ≤ l.length ∧ hi - lo ≤ kx ∧ Below w.heap.size w wr)
  case atStart => exact ⟨0, l.length, rfl, rfl, Nat.zero_le _, hm, Nat.le_refl _, by omega, Below.refl _ _⟩
  case round =>
    obtain ⟨lo, hi, rfl, rfl, hlo, hhi, hin, hg, hbel⟩ := hrel
    by_cases hlt : lo < hi
    · have k0 : (0 : Int) ≤ ((lo : Int) + (hi : Int)) / 2 := by omega
      have k1 : ((lo : Int) + (hi : Int)) / 2 < (l.length : Int) := by omega
      have k2 : (((lo : Int) + (hi : Int)) / 2).toNat = (lo + hi) / 2 := by omega
      obtain ⟨x, hx⟩ : ∃ x, l[(lo + hi) / 2]? = some x := ⟨_, List.getElem?_eq_getElem (by omega)⟩
      obtain ⟨b, off, cs, hao, _, hb, hR, hcell⟩ := isL_get (hIs wr hbel) hx
      subst hao
      have HC := hcall ((lo + hi) / 2) x wr hx hbel
      obtain ⟨rfl, s0, a1, n1, c1, rfl⟩ := hR
      have d0 := hcell 0 _ rfl
      have d1 := hcell 1 _ rfl
      simp only [kRawTab, Nat.add_zero] at d0 d1
      clear hcell hx
      have H1 := HM1.out ((lo + hi) / 2)
      have H2 := HM2.out ((lo + hi) / 2)
      generalize cf ((lo + hi) / 2) = q at HC H1 H2
      by_cases hq : q < 0
      · have hlt2 : (lo + hi) / 2 < m0 := Nat.lt_of_not_le fun h => by have := H2 h (by omega); omega
        clear H1 H2
        go_wp2_with (go_at_call 44; go_must (go_fit HC; rintro e W' ⟨rfl, hbW⟩))
        go_roundg (hi - ((lo + hi) / 2 + 1))
        case measure => omega
        case rel => exact ⟨(lo + hi) / 2 + 1, hi, by rw [show ((lo : Int) + (hi : Int)) / 2 + 1 = (((lo + hi) / 2 + 1 : Nat) : Int) by omega], rfl, by omega, hhi, hin, by omega, bthen hbel hbW⟩
      · have hge2 : m0 ≤ (lo + hi) / 2 := Nat.le_of_not_lt fun h => hq (H1 h)
        clear H1 H2
        go_wp2_with (go_at_call 44; go_must (go_fit HC; rintro e W' ⟨rfl, hbW⟩))
        go_roundg ((lo + hi) / 2 - lo)
        case measure => omega
        case rel => exact ⟨lo, (lo + hi) / 2, rfl, by rw [show ((lo : Int) + (hi : Int)) / 2 = (((lo + hi) / 2 : Nat) : Int) by omega], hlo, hge2, by omega, by omega, bthen hbel hbW⟩
    · obtain rfl : m0 = lo := by omega
      obtain rfl : m0 = hi := by omega
      by_cases hn : m0 < l.length
      · have k0 : (0 : Int) ≤ (m0 : Int) := by omega
        have k1 : (m0 : Int) < (l.length : Int) := by omega
        obtain ⟨x, hx⟩ : ∃ x, l[m0]? = some x := ⟨_, List.getElem?_eq_getElem (by omega)⟩
        obtain ⟨b, off, cs, hao, _, hb, hR, hcell⟩ := isL_get (hIs wr hbel) hx
        subst hao
        have HC := hcall (m0) x wr hx hbel
        obtain ⟨rfl, s0, a1, n1, c1, rfl⟩ := hR
        have d0 := hcell 0 _ rfl
        have d1 := hcell 1 _ rfl
        simp only [kRawTab, Nat.add_zero] at d0 d1
        clear hcell hx
        generalize cf m0 = q at HC
        go_wp2_with (go_at_call 44; go_must (go_fit HC; rintro e W' ⟨rfl, hbW⟩))
        go_ret2
        exact ⟨_, rfl, bthen hbel hbW⟩
      · have k1 : ¬ (m0 : Int) < (l.length : Int) := by omega
        go_wp2
        go_ret2
        first | exact ⟨_, rfl, hbel⟩ | exact ⟨.inl rfl, hbel⟩

set_option maxHeartbeats 2000000 in
theorem insert1_Tab (s0 want : Wd) (a1 : Option Addr) (n1 c1 : Nat) (pb : Nat) (w : World) (hp : w.cell? ⟨pb, 0, none⟩ = some (.func (.func 17) #[] #[])) (hpb : pb < w.heap.size) :
    Calls Try.prog 44 #[.agg [.string s0, .slice a1 n1 c1].toArray, .string want, .pointer (some ⟨pb, 0, none⟩)] w fun e w' => e = .returned (.int .i64 (cmpS s0 want)) ∧ Below w.heap.size w w' := by
  have hb1 := bel1 w (.cells [.string s0, .slice a1 n1 c1].toArray 43)
  have hp1 := (hb1.cell (p := ⟨pb, 0, none⟩) hpb).trans hp
  have HC := fun W => cmpStr_any s0 want W
  generalize cmpS s0 want = r at HC
  go_enter Try.func44, Try.ntmps44
  go_wp2_with (first | (go_at_call 17; go_must (go_fit (tableName_any s0 a1 n1 c1 _); rintro e W1 ⟨rfl, hbW⟩)) | (go_at_call 45; go_must (go_fit (HC _); rintro e W2 ⟨rfl, rfl⟩)))
  go_ret
  exact ⟨rfl, bthen hb1 hbW⟩

set_option maxRecDepth 100000 in
set_option maxHeartbeats 4000000 in
theorem searchIdx (l : List (List Value)) (ao : Option Addr) (n c : Nat) (f0 : Value) (want : Wd) (cf : Nat → Int) (m0 : Nat) (w : World) (hIs : ∀ W, Below w.heap.size w W → IsL kRawIdx (fun _ => True) W (.slice ao n c) l)
    (hm : m0 ≤ l.length) (hm1 : ∀ t, t < m0 → cf t < 0) (hm2 : ∀ t, m0 ≤ t → t < l.length → ¬ cf t < 0) (hl : l.length ≤ 1000000)
    (hcall : ∀ i cs W, l[i]? = some cs → Below w.heap.size w W → Calls Try.prog 49 #[.agg cs.toArray, .string want, f0] W fun e W' => e = .returned (.int .i64 (cf i)) ∧ Below W.heap.size W W') :
    Calls Try.prog 50 #[.slice ao n c, .string want, .func (.func 49) #[] #[f0]] w fun e w' => ∃ b, e = .returned (.tuple #[.int .i64 m0, .bool b]) ∧ Below w.heap.size w w' := by
  obtain ⟨hn, hlm⟩ := isL_len (hIs w (Below.refl _ _))
  subst hn
  have HM1 : Hid _ := hm1
  have HM2 : Hid _ := hm2
  clear hm1 hm2
  go_enter Try.func50, Try.ntmps50
  go_wp2
  go_loopg [9, 10] l.length (fun kx s9 s10 wr => ∃ lo hi : Nat, s9 = .int .i64 lo ∧ s10 = .int .i64 hi ∧ lo ≤ m0 ∧ m0 ≤ hi ∧ hi ≤ l.length ∧ hi - lo ≤ kx ∧ Below w.heap.size w wr)
  case atStart => exact ⟨0, l.length, rfl, rfl, Nat.zero_le _, hm, Nat.le_refl _, by omega, Below.refl _ _⟩
  case round =>
    obtain ⟨lo, hi, rfl, rfl, hlo, hhi, hin, hg, hbel⟩ := hrel
    by_cases hlt : lo < hi
    · have k0 : (0 : Int) ≤ ((lo : Int) + (hi : Int)) / 2 := by omega
      have k1 : ((lo : Int) + (hi : Int)) / 2 < (l.length : Int) := by omega
      have k2 : (((lo : Int) + (hi : Int)) / 2).toNat = (lo + hi) / 2 := by omega
      obtain ⟨x, hx⟩ : ∃ x, l[(lo + hi) / 2]? = some x := ⟨_, List.getElem?_eq_getElem (by omega)⟩
      obtain ⟨b, off, cs, hao, _, hb, hR, hcell⟩ := isL_get (hIs wr hbel) hx
      subst hao
      have HC := hcall ((lo + hi) / 2) x wr hx hbel
      obtain ⟨rfl, s0, s1, s2, rfl⟩ := hR
      have d0 := hcell 0 _ rfl
      have d1 := hcell 1 _ rfl
      have d2 := hcell 2 _ rfl
      simp only [kRawIdx, Nat.add_zero] at d0 d1 d2
      clear hcell hx
      have H1 := HM1.out ((lo + hi) / 2)
      have H2 := HM2.out ((lo + hi) / 2)
      generalize cf ((lo + hi) / 2) = q at HC H1 H2
      by_cases hq : q < 0
      · have hlt2 : (lo + hi) / 2 < m0 := Nat.lt_of_not_le fun h => by have := H2 h (by omega); omega
        clear H1 H2
        go_wp2_with (go_at_call 49; go_must (go_fit HC; rintro e W' ⟨rfl, hbW⟩))
        go_roundg (hi - ((lo + hi) / 2 + 1))
        case measure => omega
        case rel => exact ⟨(lo + hi) / 2 + 1, hi, by rw [show ((lo : Int) + (hi : Int)) / 2 + 1 = (((lo + hi) / 2 + 1 : Nat) : Int) by omega], rfl, by omega, hhi, hin, by omega, bthen hbel hbW⟩
      · have hge2 : m0 ≤ (lo + hi) / 2 := Nat.le_of_not_lt fun h => hq (H1 h)
        clear H1 H2
        go_wp2_with (go_at_call 49; go_must (go_fit HC; rintro e W' ⟨rfl, hbW⟩))
        go_roundg ((lo + hi) / 2 - lo)
        case measure => omega
        case rel => exact ⟨lo, (lo + hi) / 2, rfl, by rw [show ((lo : Int) + (hi : Int)) / 2 = (((lo + hi) / 2 : Nat) : Int) by omega], hlo, hge2, by omega, by omega, bthen hbel hbW⟩
    · obtain rfl : m0 = lo := by omega
      obtain rfl : m0 = hi := by omega
      by_cases hn : m0 < l.length
      · have k0 : (0 : Int) ≤ (m0 : Int) := by omega
        have k1 : (m0 : Int) < (l.length : Int) := by omega
        obtain ⟨x, hx⟩ : ∃ x, l[m0]? = some x := ⟨_, List.getElem?_eq_getElem (by omega)⟩
        obtain ⟨b, off, cs, hao, _, hb, hR, hcell⟩ := isL_get (hIs wr hbel) hx
        subst hao
        have HC := hcall (m0) x wr hx hbel
        obtain ⟨rfl, s0, s1, s2, rfl⟩ := hR
        have d0 := hcell 0 _ rfl
        have d1 := hcell 1 _ rfl
        have d2 := hcell 2 _ rfl
        simp only [kRawIdx, Nat.add_zero] at d0 d1 d2
        clear hcell hx
        generalize cf m0 = q at HC
        go_wp2_with (go_at_call 49; go_must (go_fit HC; rintro e W' ⟨rfl, hbW⟩))
        go_ret2
        exact ⟨_, rfl, bthen hbel hbW⟩
      · have k1 : ¬ (m0 : Int) < (l.length : Int) := by omega
        go_wp2
        go_ret2
        first | exact ⟨_, rfl, hbel⟩ | exact ⟨.inl rfl, hbel⟩

set_option maxHeartbeats 2000000 in
theorem insert1_Idx (s0 want : Wd) (s1 s2 : Wd) (pb : Nat) (w : World) (hp : w.cell? ⟨pb, 0, none⟩ = some (.func (.func 19) #[] #[])) (hpb : pb < w.heap.size) :
    Calls Try.prog 49 #[.agg [.string s0, .string s1, .string s2].toArray, .string want, .pointer (some ⟨pb, 0, none⟩)] w fun e w' => e = .returned (.int .i64 (cmpS s0 want)) ∧ Below w.heap.size w w' := by
  have hb1 := bel1 w (.cells [.string s0, .string s1, .string s2].toArray 63)
  have hp1 := (hb1.cell (p := ⟨pb, 0, none⟩) hpb).trans hp
  have HC := fun W => cmpStr_any s0 want W
  generalize cmpS s0 want = r at HC
  go_enter Try.func49, Try.ntmps49
  go_wp2_with (first | (go_at_call 19; go_must (go_fit (indexName_any s0 s1 s2 _); rintro e W1 ⟨rfl, hbW⟩)) | (go_at_call 45; go_must (go_fit (HC _); rintro e W2 ⟨rfl, rfl⟩)))
  go_ret
  exact ⟨rfl, bthen hb1 hbW⟩

end Go.Proofs.Ytabanbpnghidhaa


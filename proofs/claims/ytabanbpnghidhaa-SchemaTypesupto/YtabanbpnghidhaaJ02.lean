/-
  7 texts of this proof in one, in build order: YMap, NPlain, Named, YIndexA, YGood, YFind, YRise.
-/
import Derived.Maps.Own
import Derived.Maps.OwnOps
import Derived.Maps.Views
import Derived.StringKeys
import Derived.Test.YtabanbpnghidhaaRows
import Derived.Lib.Bytealg
import Derived.Lib.IndexLaws
import Derived.WalkKit
import Derived.WalkSpells
import Derived.WalkLawsBesides
import Derived.Deep.RegionHeld3
import Derived.Test.YtabanbpnghidhaaJ01
namespace Go.Proofs.Ytabanbpnghidhaa
open Go.RowKit Go.Maps

theorem strKeyed : Keyed Try.prog 9 := string_keyed Try.underlying9
theorem zeroInt (w : World) : (zeroValue 3).run Try.prog w = .ok (.int .i64 0) w := by kernel_rfl
/-- How often a name has come up. -/
def cntW (N : List Wd) (s : Wd) : Nat := N.countP fun x => decide (x = s)
theorem cntW_snoc (N : List Wd) (s t : Wd) : cntW (N ++ [s]) t = cntW N t + if s = t then 1 else 0 := by
  unfold cntW
  rw [List.countP_append]
  by_cases h : s = t <;> simp [h]
theorem cntW_le (N : List Wd) (s : Wd) : cntW N s ≤ N.length := List.countP_le_length
theorem cntW_pos (N : List Wd) (s : Wd) : 0 < cntW N s ↔ s ∈ N := by
  unfold cntW
  rw [List.countP_pos_iff]
  constructor
  · rintro ⟨x, hx, h⟩; simp at h; subst h; exact hx
  · intro h; exact ⟨s, h, by simp⟩
def memW (N : List Wd) (s : Wd) : Bool := N.any fun x => decide (x = s)
theorem memW_iff (N : List Wd) (s : Wd) : memW N s = true ↔ s ∈ N := by simp [memW]
/-- Block b counts the names N. -/
def Cnt (w : World) (b : Nat) (N : List Wd) : Prop :=
  ∃ (D : DataW Unit), w.ownsMap Try.prog 9 (plainElem Try.prog 3) b N.length D ∧ IsMap D ∧ ∀ s : Wd, s.size ≤ maxLen → D.atKey (.string s.data.toList) (.lit (.int .i64 0)) = .lit (.int .i64 (cntW N s : Nat))
theorem cnt_made (w : World) : Cnt (w.alloc (.map #[] 0)) w.heap.size [] :=
  ⟨.map [], World.ownsMap_made _ _ _ _, isMap_empty, fun _ _ => rfl⟩
theorem Cnt.lt {w : World} {b : Nat} {N : List Wd} (h : Cnt w b N) : b < w.heap.size := by obtain ⟨D, h1, _⟩ := h; exact h1.lt
theorem Cnt.kept {w w' : World} {b : Nat} {N : List Wd} {row : Option Nat} (h : Cnt w b N) (hg : w.grownBy w' row) (hne : some b ≠ row) : Cnt w' b N := by
  obtain ⟨D, h1, h2⟩ := h
  exact ⟨D, h1.kept hg hne, h2⟩
theorem grown_none {w w' : World} (h : Below w.heap.size w w') : w.grownBy w' none := ⟨h.os, h.tape, h.output, h.size, fun k hk _ => h.block k hk⟩
theorem Cnt.below {w w' : World} {b : Nat} {N : List Wd} (h : Cnt w b N) (hb : Below w.heap.size w w') : Cnt w' b N := h.kept (grown_none hb) (by simp)

set_option maxRecDepth 100000 in
set_option maxHeartbeats 2000000 in
theorem again_any (b : Nat) (N : List Wd) (s : Wd) (w : World) (h : Cnt w b N) (hs : s.size ≤ maxLen) (hN : N.length ≤ 16777216) :
    Calls Try.prog 97 #[.map (some b), .string s] w fun e w' => e = .returned (.bool (memW N s)) ∧ Cnt w' b (N ++ [s]) ∧ w.grownBy w' (some b) := by
  obtain ⟨D, hown, hmap, hD⟩ := h
  have hkey : Go.keyOf Try.prog 9 (.string s) = some (.string s.data.toList) := WideMaps.keyOf_string_mk Try.underlying9 hs
  have hle := cntW_le N s
  obtain ⟨c1, hrun1, hat1, _⟩ := hown.lookup_int strKeyed Try.underlying131 Try.underlying3 (zeroInt _) hkey
  have hc1 : c1 = (cntW N s : Nat) := by
    have := hD s hs
    rw [hat1] at this
    simpa using this
  subst hc1
  have hwr : wrap64 ((cntW N s : Int) + 1) = (cntW N s : Int) + 1 := by
    unfold wrap64; omega
  have hmem : Hid (memW N s = decide ((1 : Int) < (cntW N s : Int) + 1)) := by
    show _ = _
    rw [Bool.eq_iff_iff, memW_iff, decide_eq_true_eq, ← cntW_pos]; omega
  have HD : Hid (∀ t : Wd, t.size ≤ maxLen → (D.put (.string s.data.toList) (.lit (.int .i64 ((cntW N s : Int) + 1)))).atKey (.string t.data.toList) (.lit (.int .i64 0)) = .lit (.int .i64 (cntW (N ++ [s]) t : Nat))) := by
    intro t ht
    rw [cntW_snoc]
    by_cases hst : s = t
    · subst hst
      rw [atKey_put_same hmap (k := .string s.data.toList) (show True from trivial), if_pos rfl]
      simp
    · rw [atKey_put_other (fun e => hst (by
        have : t.data.toList = s.data.toList := by simpa using e
        exact (ByteArray.ext (Array.toList_inj.1 this)).symm)), hD t ht, if_neg hst]
      simp
  have hmp : IsMap (D.put (.string s.data.toList) (.lit (.int .i64 ((cntW N s : Int) + 1)))) := hmap.put _ _
  have hmap2 : Hid (IsMap D) := hmap
  generalize hcc : cntW N s = cc at *
  clear hcc hD hat1 hle hmap
  go_enter Try.func97, Try.ntmps97
  have hvl : plainElem (H := Unit) Try.prog 3 (.int .i64 (wrap64 ((cc : Int) + 1))) = some (.lit (.int .i64 ((cc : Int) + 1)), []) := by
    rw [plainElem_int Try.underlying3 (wrap64_wf _), hwr]
  go_wp2_with (at_mapUpdate; refine wpList_mapUpdate_own _ rfl _ _ _ 131 rfl 9 3 strKeyed Try.underlying131 _ b N.length _ rfl hown (by unfold maxLen; omega) _ _ _ rfl rfl hkey (.lit (.int .i64 ((cc : Int) + 1))) [] hvl ?_)
  intro w1 hown1 hg1
  obtain ⟨c2, hrun2, hat2, _⟩ := hown1.lookup_int strKeyed Try.underlying131 Try.underlying3 (zeroInt _) hkey
  have hc2 : c2 = (cc : Int) + 1 := by
    rw [atKey_put_same hmap2.out (k := .string s.data.toList) (show True from trivial)] at hat2
    simpa using hat2.symm
  subst hc2
  clear hat2 hrun1
  go_wp2
  go_ret
  exact ⟨ret_bool (by rw [hmem.out]), ⟨_, by rw [List.length_append]; exact hown1, hmp, HD.out⟩, hg1⟩

end Go.Proofs.Ytabanbpnghidhaa

namespace Go.Proofs.Ytabanbpnghidhaa

abbrev kAnd : Wd := ⟨#[97, 110, 100]⟩
abbrev kBy : Wd := ⟨#[98, 121]⟩
abbrev kCreate : Wd := ⟨#[99, 114, 101, 97, 116, 101]⟩
abbrev kDelete : Wd := ⟨#[100, 101, 108, 101, 116, 101]⟩
abbrev kDesc : Wd := ⟨#[100, 101, 115, 99]⟩
abbrev kDrop : Wd := ⟨#[100, 114, 111, 112]⟩
abbrev kFrom : Wd := ⟨#[102, 114, 111, 109]⟩
abbrev kIndex : Wd := ⟨#[105, 110, 100, 101, 120]⟩
abbrev kInsert : Wd := ⟨#[105, 110, 115, 101, 114, 116]⟩
abbrev kInt : Wd := ⟨#[105, 110, 116]⟩
abbrev kInto : Wd := ⟨#[105, 110, 116, 111]⟩
abbrev kIs : Wd := ⟨#[105, 115]⟩
abbrev kLimit : Wd := ⟨#[108, 105, 109, 105, 116]⟩
abbrev kMust : Wd := ⟨#[109, 117, 115, 116]⟩
abbrev kNot : Wd := ⟨#[110, 111, 116]⟩
abbrev kNull : Wd := ⟨#[110, 117, 108, 108]⟩
abbrev kOn : Wd := ⟨#[111, 110]⟩
abbrev kOr : Wd := ⟨#[111, 114]⟩
abbrev kOrder : Wd := ⟨#[111, 114, 100, 101, 114]⟩
abbrev kSelect : Wd := ⟨#[115, 101, 108, 101, 99, 116]⟩
abbrev kSet : Wd := ⟨#[115, 101, 116]⟩
abbrev kTable : Wd := ⟨#[116, 97, 98, 108, 101]⟩
abbrev kText : Wd := ⟨#[116, 101, 120, 116]⟩
abbrev kUpdate : Wd := ⟨#[117, 112, 100, 97, 116, 101]⟩
abbrev kValues : Wd := ⟨#[118, 97, 108, 117, 101, 115]⟩
abbrev kWhere : Wd := ⟨#[119, 104, 101, 114, 101]⟩
abbrev kOpen : Wd := ⟨#[40]⟩
abbrev kClose : Wd := ⟨#[41]⟩
abbrev kStar : Wd := ⟨#[42]⟩
abbrev kPlus : Wd := ⟨#[43]⟩
abbrev kComma : Wd := ⟨#[44]⟩
abbrev kMinus : Wd := ⟨#[45]⟩
abbrev kDot : Wd := ⟨#[46]⟩
abbrev kSemi : Wd := ⟨#[59]⟩
abbrev kLt : Wd := ⟨#[60]⟩
abbrev kEq : Wd := ⟨#[61]⟩

def letterB (c : UInt8) : Bool := decide (97 ≤ c.toNat) && decide (c.toNat ≤ 122)
def digitB (c : UInt8) : Bool := decide (48 ≤ c.toNat) && decide (c.toNat ≤ 57)
/-- Words that mean something of their own. -/
def reservedB (w : Wd) : Bool :=
  decide (w = kAnd) || decide (w = kBy) || decide (w = kCreate) || decide (w = kDelete) || decide (w = kDesc) || decide (w = kDrop) || decide (w = kFrom) || decide (w = kIndex) || decide (w = kInsert) || decide (w = kInt) || decide (w = kInto) || decide (w = kIs) || decide (w = kLimit) || decide (w = kMust) || decide (w = kNot) || decide (w = kNull) || decide (w = kOn) || decide (w = kOr) || decide (w = kOrder) || decide (w = kSelect) || decide (w = kSet) || decide (w = kTable) || decide (w = kText) || decide (w = kUpdate) || decide (w = kValues) || decide (w = kWhere)
/-- P3.1 -/
def nm (w : Wd) : Bool := decide (1 ≤ w.size) && decide (w.size ≤ 8) && w.data.toList.all letterB && !reservedB w

/-- How many bytes of one kind a text begins with. -/
def runB (f : UInt8 → Bool) (l : List UInt8) : Nat := (l.takeWhile f).length
theorem runB_end {f : UInt8 → Bool} : ∀ {l : List UInt8} {k : Nat}, (l.take k).all f = true → (∀ c, l[k]? = some c → f c = false) → k ≤ l.length → runB f l = k
  | [], k, _, _, h => by simp at h; subst h; rfl
  | c :: l, 0, _, h, _ => by have := h c rfl; simp [runB, this]
  | c :: l, k + 1, h1, h2, h3 => by
    simp at h1
    have := runB_end (f := f) (l := l) (k := k) (by simpa using h1.2) (fun x hx => h2 x (by simpa using hx)) (by simpa using h3)
    simp only [runB, List.takeWhile_cons, h1.1, if_true, List.length_cons] at this ⊢
    omega
theorem runB_le (f : UInt8 → Bool) (l : List UInt8) : runB f l ≤ l.length := (List.takeWhile_prefix f).length_le
theorem runB_take (f : UInt8 → Bool) (l : List UInt8) : (l.take (runB f l)).all f = true := by
  induction l with
  | nil => rfl
  | cons c l ih =>
    unfold runB at ih ⊢
    cases h : f c
    · simp [h]
    · simp only [List.takeWhile_cons, h, if_true, List.length_cons, List.take_succ_cons, List.all_cons, Bool.true_and]; exact ih
theorem runB_pos {f : UInt8 → Bool} {c : UInt8} {l : List UInt8} (h : f c = true) : runB f (c :: l) = runB f l + 1 := by simp [runB, h]


end Go.Proofs.Ytabanbpnghidhaa

namespace Go.Proofs.Ytabanbpnghidhaa
open Go.RowKit

def letterI (c : Int) : Bool := decide (97 ≤ c) && decide (c ≤ 122)
def digitI (c : Int) : Bool := decide (48 ≤ c) && decide (c ≤ 57)
theorem letterI_eq (c : UInt8) : letterI (c.toNat : Int) = letterB c := by simp only [letterI, letterB]; congr 1 <;> simp <;> omega
theorem digitI_eq (c : UInt8) : digitI (c.toNat : Int) = digitB c := by simp only [digitI, digitB]; congr 1 <;> simp <;> omega

set_option maxHeartbeats 400000 in
theorem letter_any (c : Int) (w : World) : Calls Try.prog 89 #[.int .u8 c] w fun e w' => e = .returned (.bool (letterI c)) ∧ w' = w := by
  by_cases h1 : 97 ≤ c <;> by_cases h2 : c ≤ 122
  all_goals
    go_enter Try.func89, Try.ntmps89
    go_wp2
    all_goals
      go_ret
      exact ⟨ret_bool (by simp_all [letterI]), rfl⟩

theorem all_take_succ {f : UInt8 → Bool} {s : ByteArray} {k : Nat} (h : k < s.size) (h1 : (s.data.toList.take k).all f = true) (h2 : f s[k] = true) : (s.data.toList.take (k + 1)).all f = true := by
  rw [take_snoc s k h]; simp only [List.all_append, h1, List.all_cons, h2, List.all_nil, Bool.and_self]
theorem get_byte {s : ByteArray} {k : Nat} (h : k < s.size) : s.data.toList[k]? = some s[k] := by
  rw [List.getElem?_eq_getElem (by simpa using h)]; rfl

set_option maxHeartbeats 1000000 in
theorem runOf_letter (s : ByteArray) (w : World) (hs : s.size ≤ maxLen) : Calls Try.prog 88 #[.func (.func 89) #[] #[], .string s] w fun e w' => e = .returned (.int .i64 (runB letterB s.data.toList : Nat)) ∧ w' = w := by
  unfold maxLen at hs
  go_enter Try.func88, Try.ntmps88
  go_wp2
  go_loop [5] (fun i => ∃ k : Nat, k ≤ s.size ∧ i = .int .i64 k ∧ Hid ((s.data.toList.take k).all letterB = true)) (fun i => s.size - (intOf i).toNat)
  case atStart => exact ⟨0, Nat.zero_le _, rfl, rfl⟩
  case round =>
    obtain ⟨k, hk, rfl, HG⟩ := hrel
    by_cases hlt : k < s.size
    · cases hc : letterB s[k]
      · have hc' : letterI (s[k].toNat : Int) = false := by rw [letterI_eq]; exact hc
        have HE : Hid (runB letterB s.data.toList = k) := runB_end HG.out (fun c h => by rw [get_byte hlt] at h; cases h; exact hc) (by simpa using hk)
        clear hc
        go_wp2_with (go_at_call 89; refine (letter_any _ _).mono ?_; rintro e w' ⟨rfl, rfl⟩)
        go_ret
        exact ⟨ret_int (by rw [HE.out]), rfl⟩
      · have hc' : letterI (s[k].toNat : Int) = true := by rw [letterI_eq]; exact hc
        have HN : Hid ((s.data.toList.take (k + 1)).all letterB = true) := all_take_succ hlt HG.out hc
        clear hc
        go_wp2_with (go_at_call 89; refine (letter_any _ _).mono ?_; rintro e w' ⟨rfl, rfl⟩)
        go_round
        case rel => exact ⟨k + 1, by omega, by go_num, HN⟩
        case measure => simp [intOf]; omega
    · have HE : Hid (runB letterB s.data.toList = k) := runB_end HG.out (fun c h => by rw [List.getElem?_eq_none (by simp; omega)] at h; cases h) (by simpa using hk)
      go_wp2
      go_ret
      exact ⟨ret_int (by rw [HE.out]), rfl⟩

theorem beq_wd (w : Wd) (l : List UInt8) : (w.toList == l) = decide (w = ⟨l.toArray⟩) := by
  rw [Lib.toList_data, Bool.eq_iff_iff, beq_iff_eq, decide_eq_true_eq]
  constructor
  · intro h
    have := congrArg List.toArray h
    cases w
    simpa using this
  · rintro rfl; simp
theorem reservedB_eq (w : Wd) : reservedB w = (w.toList == [97, 110, 100] || w.toList == [98, 121] || w.toList == [99, 114, 101, 97, 116, 101] || w.toList == [100, 101, 108, 101, 116, 101] || w.toList == [100, 101, 115, 99] || w.toList == [100, 114, 111, 112] || w.toList == [102, 114, 111, 109] || w.toList == [105, 110, 100, 101, 120] || w.toList == [105, 110, 115, 101, 114, 116] || w.toList == [105, 110, 116] || w.toList == [105, 110, 116, 111] || w.toList == [105, 115] || w.toList == [108, 105, 109, 105, 116] || w.toList == [109, 117, 115, 116] || w.toList == [110, 111, 116] || w.toList == [110, 117, 108, 108] || w.toList == [111, 110] || w.toList == [111, 114] || w.toList == [111, 114, 100, 101, 114] || w.toList == [115, 101, 108, 101, 99, 116] || w.toList == [115, 101, 116] || w.toList == [116, 97, 98, 108, 101] || w.toList == [116, 101, 120, 116] || w.toList == [117, 112, 100, 97, 116, 101] || w.toList == [118, 97, 108, 117, 101, 115] || w.toList == [119, 104, 101, 114, 101]) := by
  simp only [beq_wd]; rfl

set_option maxHeartbeats 2000000 in
theorem reserved_any (s : ByteArray) (w : World) : Calls Try.prog 90 #[.string s] w fun e w' => e = .returned (.bool (reservedB s)) ∧ w' = w := by
  have hr := reservedB_eq s
  generalize reservedB s = b at hr ⊢
  have HR : Hid _ := hr
  clear hr
  go_enter Try.func90, Try.ntmps90
  go_wp2
  all_goals first
    | (exfalso; simp_all; done)
    | (go_ret; refine ⟨ret_bool ?_, rfl⟩; rw [HR.out]; simp [*]; done)

theorem run_all {f : UInt8 → Bool} {l : List UInt8} : (decide (runB f l = l.length)) = l.all f := by
  rw [Bool.eq_iff_iff, decide_eq_true_eq]
  constructor
  · intro h
    have := runB_take f l
    rw [h, List.take_length] at this
    exact this
  · intro h
    exact runB_end (by rw [List.take_length]; exact h) (fun c hc => by simp at hc) (Nat.le_refl _)

set_option maxHeartbeats 1000000 in
theorem named_any (s : ByteArray) (w : World) (hs : s.size ≤ maxLen) : Calls Try.prog 60 #[.string s] w fun e w' => e = .returned (.bool (nm s)) ∧ w' = w := by
  have hs' := hs
  unfold maxLen at hs'
  have hn : nm s = (decide (1 ≤ s.size) && decide (s.size ≤ 8) && decide (runB letterB s.data.toList = s.size) && !reservedB s) := by
    rw [show decide (runB letterB s.data.toList = s.size) = decide (runB letterB s.data.toList = s.data.toList.length) from by rw [size_toList], run_all]; rfl
  generalize nm s = b at hn ⊢
  have HN : Hid _ := hn
  clear hn
  by_cases h1 : 1 ≤ s.size
  · by_cases h2 : s.size ≤ 8
    · have hle := runB_le letterB s.data.toList
      rw [size_toList] at hle
      by_cases h3 : runB letterB s.data.toList = s.size
      · have RO := runOf_letter s w hs
        generalize runB letterB s.data.toList = n at RO HN h3 hle
        subst h3
        have RV := reserved_any s w
        generalize reservedB s = r at RV HN
        have b1 : (1 : Int) ≤ (s.size : Int) := by omega
        have b2 : (s.size : Int) ≤ 8 := by omega
        have b3 : ((s.size : Int) == (s.size : Int)) = true := beq_self_eq_true _
        cases r
        all_goals
          go_enter Try.func60, Try.ntmps60
          go_wp2_with (first
            | (go_at_call 88; go_must (go_fit RO; rintro e w' ⟨rfl, rfl⟩))
            | (go_at_call 90; go_must (go_fit RV; rintro e w' ⟨rfl, rfl⟩)))
          go_ret
          exact ⟨ret_bool (by rw [HN.out]; simp [h1, h2]), rfl⟩
      · have RO := runOf_letter s w hs
        generalize runB letterB s.data.toList = n at RO HN h3 hle
        have b1 : (1 : Int) ≤ (s.size : Int) := by omega
        have b2 : (s.size : Int) ≤ 8 := by omega
        have b3 : ((n : Int) == (s.size : Int)) = false := beq_eq_false_iff_ne.2 (by omega)
        go_enter Try.func60, Try.ntmps60
        go_wp2_with (first
          | (go_at_call 88; go_must (go_fit RO; rintro e w' ⟨rfl, rfl⟩)))
        go_ret
        exact ⟨ret_bool (by rw [HN.out]; simp [h3]), rfl⟩
    · go_enter Try.func60, Try.ntmps60
      go_wp2_with fail
      go_ret
      exact ⟨ret_bool (by rw [HN.out]; simp [h2]), rfl⟩
  · go_enter Try.func60, Try.ntmps60
    go_wp2_with fail
    go_ret
    exact ⟨ret_bool (by rw [HN.out]; simp [h1]), rfl⟩

end Go.Proofs.Ytabanbpnghidhaa

namespace Go.Proofs.Ytabanbpnghidhaa
open Go.RowKit

set_option maxRecDepth 100000 in
set_option maxHeartbeats 2000000 in
theorem index_findTable (l : List (TabD)) (F : Nat → Prop) (ao : Option Addr) (n c : Nat) (f0 : Value) (p : Nat → Bool) (St : Nat → World → Prop) (En : World → Prop) (w : World) (hEn : ∀ i W, St i W → En W) (hIs : ∀ i W, St i W → IsL kTab F W (.slice ao n c) l)
    (hcall : ∀ i x cs W, l[i]? = some x → St i W → kTab.R F W x cs → Calls Try.prog 25 #[.agg cs.toArray, f0] W fun e W' => e = .returned (.bool (p i)) ∧ En W' ∧ (p i = false → St (i + 1) W')) (h0 : St 0 w) :
    Calls Try.prog 24 #[.slice ao n c, .func (.func 25) #[] #[f0]] w fun e W' => e = .returned (.int .i64 (firstI p 0 l.length)) ∧ En W' := by
  obtain ⟨hn, hlm⟩ := isL_len (hIs 0 w h0)
  subst hn
  unfold maxLen at hlm
  go_enter Try.func24, Try.ntmps24
  go_wp2
  go_loopw [8] (fun i wr => ∃ k : Nat, k ≤ l.length ∧ i = .int .i64 k ∧ St k wr ∧ Hid (firstI p 0 l.length = firstI p k (l.length - k))) (fun i _ => l.length - (intOf i).toNat)
  case atStart => exact ⟨0, Nat.zero_le _, rfl, h0, rfl⟩
  case round =>
    obtain ⟨k, hk, rfl, hSt, HP⟩ := hrel
    by_cases hlt : k < l.length
    · obtain ⟨x, hx⟩ : ∃ x, l[k]? = some x := ⟨_, List.getElem?_eq_getElem hlt⟩
      obtain ⟨b, off, cs, rfl, _, hb, hR, hcell⟩ := isL_get (hIs k wr hSt) hx
      have HC := hcall k x cs wr hx hSt hR
      obtain ⟨sv, rfl, hsv⟩ := hR
      obtain ⟨ao1, c1, rfl⟩ := hsv.shape
      have d0 := hcell 0 _ rfl
      have d1 := hcell 1 _ rfl
      simp only [kTab, Nat.add_zero] at d0 d1
      have k0 : (0 : Int) ≤ (k : Int) := by omega
      have k1 : (k : Int) < (l.length : Int) := by omega
      have hst : Hid (firstI p k (l.length - k) = if p k then (k : Int) else firstI p (k + 1) (l.length - (k + 1))) := firstI_step p k l.length hlt
      clear hcell hx
      generalize hq : p k = q at HC hst
      clear hq
      cases q
      · go_wp2_with (go_at_call 25; go_must (go_fit HC; rintro e W' ⟨rfl, _, hS1⟩))
        go_roundw
        case rel => exact ⟨k + 1, by omega, by go_num, hS1 (by first | rfl | trivial), by rw [HP.out, hst.out]; rfl⟩
        case measure => simp [intOf]; omega
      · go_wp2_with (go_at_call 25; go_must (go_fit HC; rintro e W' ⟨rfl, hS1, _⟩))
        go_ret
        exact ⟨ret_int (by rw [HP.out, hst.out]; rfl), hS1⟩
    · have HE : Hid (firstI p k (l.length - k) = -1) := by show _ = _; rw [show l.length - k = 0 from by omega, firstI]
      go_wp2
      go_ret
      exact ⟨ret_int (by rw [HP.out, HE.out]), hEn k _ hSt⟩

set_option maxRecDepth 100000 in
set_option maxHeartbeats 2000000 in
theorem index_findCol (l : List (ColD)) (F : Nat → Prop) (ao : Option Addr) (n c : Nat) (f0 : Value) (p : Nat → Bool) (St : Nat → World → Prop) (En : World → Prop) (w : World) (hEn : ∀ i W, St i W → En W) (hIs : ∀ i W, St i W → IsL kCol F W (.slice ao n c) l)
    (hcall : ∀ i x cs W, l[i]? = some x → St i W → kCol.R F W x cs → Calls Try.prog 29 #[.agg cs.toArray, f0] W fun e W' => e = .returned (.bool (p i)) ∧ En W' ∧ (p i = false → St (i + 1) W')) (h0 : St 0 w) :
    Calls Try.prog 28 #[.slice ao n c, .func (.func 29) #[] #[f0]] w fun e W' => e = .returned (.int .i64 (firstI p 0 l.length)) ∧ En W' := by
  obtain ⟨hn, hlm⟩ := isL_len (hIs 0 w h0)
  subst hn
  unfold maxLen at hlm
  go_enter Try.func28, Try.ntmps28
  go_wp2
  go_loopw [8] (fun i wr => ∃ k : Nat, k ≤ l.length ∧ i = .int .i64 k ∧ St k wr ∧ Hid (firstI p 0 l.length = firstI p k (l.length - k))) (fun i _ => l.length - (intOf i).toNat)
  case atStart => exact ⟨0, Nat.zero_le _, rfl, h0, rfl⟩
  case round =>
    obtain ⟨k, hk, rfl, hSt, HP⟩ := hrel
    by_cases hlt : k < l.length
    · obtain ⟨x, hx⟩ : ∃ x, l[k]? = some x := ⟨_, List.getElem?_eq_getElem hlt⟩
      obtain ⟨b, off, cs, rfl, _, hb, hR, hcell⟩ := isL_get (hIs k wr hSt) hx
      have HC := hcall k x cs wr hx hSt hR
      obtain rfl := hR
      have d0 := hcell 0 _ rfl
      have d1 := hcell 1 _ rfl
      have d2 := hcell 2 _ rfl
      simp only [kCol, Nat.add_zero] at d0 d1 d2
      have k0 : (0 : Int) ≤ (k : Int) := by omega
      have k1 : (k : Int) < (l.length : Int) := by omega
      have hst : Hid (firstI p k (l.length - k) = if p k then (k : Int) else firstI p (k + 1) (l.length - (k + 1))) := firstI_step p k l.length hlt
      clear hcell hx
      generalize hq : p k = q at HC hst
      clear hq
      cases q
      · go_wp2_with (go_at_call 29; go_must (go_fit HC; rintro e W' ⟨rfl, _, hS1⟩))
        go_roundw
        case rel => exact ⟨k + 1, by omega, by go_num, hS1 (by first | rfl | trivial), by rw [HP.out, hst.out]; rfl⟩
        case measure => simp [intOf]; omega
      · go_wp2_with (go_at_call 29; go_must (go_fit HC; rintro e W' ⟨rfl, hS1, _⟩))
        go_ret
        exact ⟨ret_int (by rw [HP.out, hst.out]; rfl), hS1⟩
    · have HE : Hid (firstI p k (l.length - k) = -1) := by show _ = _; rw [show l.length - k = 0 from by omega, firstI]
      go_wp2
      go_ret
      exact ⟨ret_int (by rw [HP.out, HE.out]), hEn k _ hSt⟩

set_option maxRecDepth 100000 in
set_option maxHeartbeats 2000000 in
theorem index_goodCols (l : List (ColD)) (F : Nat → Prop) (ao : Option Addr) (n c : Nat) (f0 : Value) (p : Nat → Bool) (St : Nat → World → Prop) (En : World → Prop) (w : World) (hEn : ∀ i W, St i W → En W) (hIs : ∀ i W, St i W → IsL kCol F W (.slice ao n c) l)
    (hcall : ∀ i x cs W, l[i]? = some x → St i W → kCol.R F W x cs → Calls Try.prog 104 #[.agg cs.toArray, f0] W fun e W' => e = .returned (.bool (p i)) ∧ En W' ∧ (p i = false → St (i + 1) W')) (h0 : St 0 w) :
    Calls Try.prog 28 #[.slice ao n c, .func (.func 104) #[] #[f0]] w fun e W' => e = .returned (.int .i64 (firstI p 0 l.length)) ∧ En W' := by
  obtain ⟨hn, hlm⟩ := isL_len (hIs 0 w h0)
  subst hn
  unfold maxLen at hlm
  go_enter Try.func28, Try.ntmps28
  go_wp2
  go_loopw [8] (fun i wr => ∃ k : Nat, k ≤ l.length ∧ i = .int .i64 k ∧ St k wr ∧ Hid (firstI p 0 l.length = firstI p k (l.length - k))) (fun i _ => l.length - (intOf i).toNat)
  case atStart => exact ⟨0, Nat.zero_le _, rfl, h0, rfl⟩
  case round =>
    obtain ⟨k, hk, rfl, hSt, HP⟩ := hrel
    by_cases hlt : k < l.length
    · obtain ⟨x, hx⟩ : ∃ x, l[k]? = some x := ⟨_, List.getElem?_eq_getElem hlt⟩
      obtain ⟨b, off, cs, rfl, _, hb, hR, hcell⟩ := isL_get (hIs k wr hSt) hx
      have HC := hcall k x cs wr hx hSt hR
      obtain rfl := hR
      have d0 := hcell 0 _ rfl
      have d1 := hcell 1 _ rfl
      have d2 := hcell 2 _ rfl
      simp only [kCol, Nat.add_zero] at d0 d1 d2
      have k0 : (0 : Int) ≤ (k : Int) := by omega
      have k1 : (k : Int) < (l.length : Int) := by omega
      have hst : Hid (firstI p k (l.length - k) = if p k then (k : Int) else firstI p (k + 1) (l.length - (k + 1))) := firstI_step p k l.length hlt
      clear hcell hx
      generalize hq : p k = q at HC hst
      clear hq
      cases q
      · go_wp2_with (go_at_call 104; go_must (go_fit HC; rintro e W' ⟨rfl, _, hS1⟩))
        go_roundw
        case rel => exact ⟨k + 1, by omega, by go_num, hS1 (by first | rfl | trivial), by rw [HP.out, hst.out]; rfl⟩
        case measure => simp [intOf]; omega
      · go_wp2_with (go_at_call 104; go_must (go_fit HC; rintro e W' ⟨rfl, hS1, _⟩))
        go_ret
        exact ⟨ret_int (by rw [HP.out, hst.out]; rfl), hS1⟩
    · have HE : Hid (firstI p k (l.length - k) = -1) := by show _ = _; rw [show l.length - k = 0 from by omega, firstI]
      go_wp2
      go_ret
      exact ⟨ret_int (by rw [HP.out, HE.out]), hEn k _ hSt⟩

set_option maxHeartbeats 2000000 in
theorem contains_goodCols (l : List (ColD)) (F : Nat → Prop) (ao : Option Addr) (n c : Nat) (f0 : Value) (p : Nat → Bool) (St : Nat → World → Prop) (En : World → Prop) (w : World) (hEn : ∀ i W, St i W → En W) (hIs : ∀ i W, St i W → IsL kCol F W (.slice ao n c) l)
    (hcall : ∀ i x cs W, l[i]? = some x → St i W → kCol.R F W x cs → Calls Try.prog 104 #[.agg cs.toArray, f0] W fun e W' => e = .returned (.bool (p i)) ∧ En W' ∧ (p i = false → St (i + 1) W')) (h0 : St 0 w) :
    Calls Try.prog 103 #[.slice ao n c, .func (.func 104) #[] #[f0]] w fun e W' => e = .returned (.bool (anyI p 0 l.length)) ∧ En W' := by
  have HI := index_goodCols l F ao n c f0 p St En w hEn hIs hcall h0
  have HA : Hid (anyI p 0 l.length = decide (0 ≤ firstI p 0 l.length)) := anyI_eq p l.length 0
  generalize anyI p 0 l.length = r at HA
  generalize firstI p 0 l.length = q at HI HA
  clear hIs hcall h0 hEn
  go_enter Try.func103, Try.ntmps103
  go_wp2_with (go_at_call 28; go_must (go_fit HI; rintro e W' ⟨rfl, hS1⟩))
  go_ret
  exact ⟨ret_bool (by rw [HA.out]), hS1⟩

end Go.Proofs.Ytabanbpnghidhaa

namespace Go.Proofs.Ytabanbpnghidhaa
open Go.RowKit Go.Maps

theorem firstI_spec (p : Nat → Bool) : ∀ (n i : Nat), (firstI p i n = -1 ∧ ∀ j, i ≤ j → j < i + n → p j = false) ∨ ∃ k, i ≤ k ∧ k < i + n ∧ firstI p i n = (k : Int) ∧ p k = true ∧ ∀ j, i ≤ j → j < k → p j = false
  | 0, i => .inl ⟨rfl, fun j h1 h2 => absurd h2 (by omega)⟩
  | n + 1, i => by
    rw [firstI]
    by_cases hp : p i = true
    · exact .inr ⟨i, Nat.le_refl _, by omega, by rw [if_pos hp], hp, fun j h1 h2 => absurd h2 (by omega)⟩
    · rw [if_neg hp]
      have hp' : p i = false := Bool.eq_false_iff.2 hp
      rcases firstI_spec p n (i + 1) with ⟨h1, h2⟩ | ⟨k, h1, h2, h3, h4, h5⟩
      · refine .inl ⟨h1, fun j hj1 hj2 => ?_⟩
        rcases Nat.eq_or_lt_of_le hj1 with h | h
        · rw [← h]; exact hp'
        · exact h2 j h (by omega)
      · refine .inr ⟨k, by omega, by omega, h3, h4, fun j hj1 hj2 => ?_⟩
        rcases Nat.eq_or_lt_of_le hj1 with h | h
        · rw [← h]; exact hp'
        · exact h5 j h hj2
/-- A question on the elements of a list, by their places. -/
def atI {α : Type} (l : List α) (q : α → Bool) (i : Nat) : Bool := match l[i]? with
  | some x => q x
  | none => false
theorem atI_get {α : Type} {l : List α} {q : α → Bool} {i : Nat} {x : α} (h : l[i]? = some x) : atI l q i = q x := by simp [atI, h]
theorem find_cases {α : Type} (l : List α) (q : α → Bool) : (firstI (atI l q) 0 l.length = -1 ∧ l.find? q = none) ∨ ∃ (k : Nat) (x : α), firstI (atI l q) 0 l.length = (k : Int) ∧ l[k]? = some x ∧ q x = true ∧ l.find? q = some x := by
  rcases firstI_spec (atI l q) l.length 0 with ⟨h1, h2⟩ | ⟨k, _, h2, h3, h4, h5⟩
  · refine .inl ⟨h1, List.find?_eq_none.2 fun x hx => ?_⟩
    obtain ⟨i, hi, rfl⟩ := List.getElem_of_mem hx
    have := h2 i (Nat.zero_le _) (by omega)
    rw [atI_get (List.getElem?_eq_getElem hi)] at this
    simp [this]
  · have hk : k < l.length := by omega
    have hx := List.getElem?_eq_getElem hk
    rw [atI_get hx] at h4
    refine .inr ⟨k, l[k], h3, hx, h4, ?_⟩
    rw [List.find?_eq_some_iff_getElem]
    exact ⟨h4, k, hk, rfl, fun j hj => by
      have := h5 j (Nat.zero_le _) hj
      rw [atI_get (List.getElem?_eq_getElem (by omega))] at this
      simp [this]⟩

/-- P4.1, of a column. -/
def colOK (x : ColD) : Bool := nm x.name && (decide (x.ty = 1) || decide (x.ty = 2))
/-- .. of columns: each, and no name twice. -/
def colBad (l : List ColD) (i : Nat) : Bool := match l[i]? with
  | some x => !colOK x || memW ((l.take i).map ColD.name) x.name
  | none => false
def colsB (l : List ColD) : Bool := !anyI (colBad l) 0 l.length
def fitCols (l : List ColD) : Prop := ∀ x ∈ l, x.name.size ≤ maxLen

set_option maxHeartbeats 1000000 in
theorem goodCol_any (x : ColD) (w : World) (hs : x.name.size ≤ maxLen) : Calls Try.prog 105 #[.agg #[.string x.name, .int .i64 x.ty, .bool x.must]] w fun e w' => e = .returned (.bool (colOK x)) ∧ Below w.heap.size w w' := by
  obtain ⟨name, ty, must⟩ := x
  simp only at hs ⊢
  have hN := fun w => named_any name w hs
  have E : Hid (colOK ⟨name, ty, must⟩ = (nm name && (decide (ty = 1) || decide (ty = 2)))) := rfl
  generalize colOK ⟨name, ty, must⟩ = r at E
  generalize nm name = b at hN E
  clear hs
  cases b <;> by_cases h1 : ty = 1 <;> by_cases h2 : ty = 2
  all_goals (try omega)
  all_goals
    go_enter Try.func105, Try.ntmps105
    go_wp2_with (go_at_call 60; go_fit (hN _); rintro e w1 ⟨rfl, rfl⟩)
    go_ret
    exact ⟨ret_bool (by rw [E.out]; simp_all), (Below.refl _ _).alloc (Nat.le_refl _) _⟩

theorem Below.grow {B : Nat} {a w w' : World} {b : Nat} (h : Below B a w) (hg : w.grownBy w' (some b)) (hB : B ≤ w.heap.size) (hb : B ≤ b) : Below B a w' := h.grown hg hB fun k hk => by cases hk; exact hb

set_option maxHeartbeats 2000000 in
theorem goodCols1_any (x : ColD) (mb pb : Nat) (N : List Wd) (w : World) (hs : x.name.size ≤ maxLen) (hN : N.length ≤ 16777215) (hc : Cnt w mb N) (hp : w.cell? ⟨pb, 0, none⟩ = some (.map (some mb))) (hpb : pb < w.heap.size) :
    Calls Try.prog 104 #[.agg #[.string x.name, .int .i64 x.ty, .bool x.must], .pointer (some ⟨pb, 0, none⟩)] w fun e w' => e = .returned (.bool (!colOK x || memW N x.name)) ∧ w.grownBy w' (some mb) ∧ (colOK x = true → Cnt w' mb (N ++ [x.name])) := by
  have hG := fun w => goodCol_any x w hs
  generalize colOK x = b at hG
  obtain ⟨name, ty, must⟩ := x
  simp only at hs hG ⊢
  have hbx := bel1 w (.cells #[.string name, .int .i64 ty, .bool must] 56)
  cases b
  · go_enter Try.func104, Try.ntmps104
    go_wp2_with (go_at_call 105; go_fit (hG _); rintro e w1 ⟨rfl, hb1⟩)
    go_ret
    have hb2 := bthen hbx hb1
    exact ⟨ret_bool (by simp), ⟨hb2.os, hb2.tape, hb2.output, hb2.size, fun k hk _ => hb2.block k hk⟩, fun h => by cases h⟩
  · have hA := fun w' (h : Below w.heap.size w w') => again_any mb N name w' (hc.below h) hs (by omega)
    generalize memW N name = q at hA
    clear hc
    go_enter Try.func104, Try.ntmps104
    go_wp2_with (first | (go_at_call 105; go_fit (hG _); rintro e w1 ⟨rfl, hb1⟩; have hp1 := ((bthen hbx hb1).cell (p := ⟨pb, 0, none⟩) hpb).trans hp; obtain ⟨hcc, hff⟩ := bcell hb1) | (go_at_call 97; go_fit (hA _ (bthen hbx hb1)); rintro e w2 ⟨rfl, hc2, hg2⟩))
    go_ret
    have hb2 := bthen hbx hb1
    exact ⟨ret_bool (by simp), ⟨hg2.os.trans hb2.os, hg2.tape.trans hb2.tape, hg2.output.trans hb2.output, Nat.le_trans hb2.size hg2.size, fun k hk hne => (hg2.block k (Nat.lt_of_lt_of_le hk hb2.size) hne).trans (hb2.block k hk)⟩, fun _ => hc2⟩

theorem cnt_alloc {w : World} {b : Nat} {N : List Wd} (h : Cnt w b N) (o : Obj) : Cnt (w.alloc o) b N := h.below (bel1 _ _)
set_option maxHeartbeats 2000000 in
theorem goodCols_any (l : List ColD) (sv : Value) (C : Nat) (w : World) (hl : IsL kCol (fun k => k < C) w sv l) (hC : C ≤ w.heap.size) (hf : fitCols l) (hn : l.length ≤ 16777215) :
    Calls Try.prog 87 #[sv] w fun e w' => e = .returned (.bool (colsB l)) ∧ Below w.heap.size w w' := by
  obtain ⟨ao, c, rfl⟩ := hl.shape
  have hb2 := bel2 w (.map #[] 0) (.cells #[.map (some w.heap.size)] 131)
  have HC := contains_goodCols l (fun k => k < C) ao l.length c (.pointer (some ⟨w.heap.size + 1, 0, none⟩)) (colBad l)
    (fun i W => Cnt W w.heap.size ((l.take i).map ColD.name) ∧ W.cell? ⟨w.heap.size + 1, 0, none⟩ = some (.map (some w.heap.size)) ∧ Below w.heap.size w W ∧ w.heap.size + 2 ≤ W.heap.size) (fun W => Below w.heap.size w W)
    ((w.alloc (.map #[] 0)).alloc (.cells #[.map (some w.heap.size)] 131)) (fun i W h => h.2.2.1) (fun i W h => hl.keep (keepsC (h.2.2.1.mono hC)))
    (by
      rintro i x cs W hx ⟨h1, h2, h3, h4⟩ rfl
      refine (goodCols1_any x w.heap.size (w.heap.size + 1) _ W (hf x (List.mem_of_getElem? hx)) (by simp; omega) h1 h2 (by omega)).mono ?_
      rintro e W' ⟨rfl, hg, hc⟩
      have hbW : Below w.heap.size w W' := Below.grow h3 hg (by omega) (Nat.le_refl _)
      have hE : colBad l i = (!colOK x || memW ((l.take i).map ColD.name) x.name) := by simp [colBad, hx]
      refine ⟨by rw [hE], hbW, fun hp => ⟨?_, ?_, hbW, Nat.le_trans h4 hg.size⟩⟩
      · rw [hE] at hp
        rw [List.take_add_one, hx, List.map_append]
        exact hc (by simp at hp; exact hp.1)
      · exact hg.cell h2 (by simp))
    ⟨cnt_alloc (cnt_made w) _, cell_of_block (block2 _ _ _) rfl, hb2, by simp⟩
  have E : Hid (colsB l = !anyI (colBad l) 0 l.length) := rfl
  generalize colsB l = r at E
  generalize anyI (colBad l) 0 l.length = q at E HC
  clear hl hf
  have hmm := @run_makeMap Try.prog
  go_enter Try.func87, Try.ntmps87
  go_wp2_with (go_at_call 103; go_fit HC; rintro e w1 ⟨rfl, hb1⟩)
  go_ret
  exact ⟨ret_bool (by rw [E.out]), hb1⟩

end Go.Proofs.Ytabanbpnghidhaa

namespace Go.Proofs.Ytabanbpnghidhaa
open Go.RowKit Go.Maps

theorem beq_str (a b : Wd) : (a.toList == b.toList) = decide (a = b) := by
  rw [Bool.eq_iff_iff, beq_iff_eq, decide_eq_true_eq, ByteArray.toList_eq, ByteArray.toList_eq]
  constructor
  · intro h; exact ByteArray.ext (Array.toList_inj.1 h)
  · rintro rfl; rfl
/-- The place of a column; -1: there is none. -/
def colAt (l : List ColD) (s : Wd) : Int := firstI (atI l fun x => decide (x.name = s)) 0 l.length
/-- The table of a name. -/
def tabOf (T : List TabD) (s : Wd) : Option TabD := T.find? fun x => decide (x.name = s)

set_option maxHeartbeats 1000000 in
theorem findCol1_any (x : ColD) (pb : Nat) (s : Wd) (w : World) (hp : w.cell? ⟨pb, 0, none⟩ = some (.string s)) (hpb : pb < w.heap.size) :
    Calls Try.prog 29 #[.agg #[.string x.name, .int .i64 x.ty, .bool x.must], .pointer (some ⟨pb, 0, none⟩)] w fun e w' => e = .returned (.bool (decide (x.name = s))) ∧ Below w.heap.size w w' := by
  obtain ⟨name, ty, must⟩ := x
  simp only
  have E : Hid (decide (name = s) = (name.toList == s.toList)) := (beq_str _ _).symm
  generalize decide (name = s) = r at E
  have hp1 := ((bel1 w (.cells #[.string name, .int .i64 ty, .bool must] 56)).cell (p := ⟨pb, 0, none⟩) hpb).trans hp
  go_enter Try.func29, Try.ntmps29
  go_wp2
  go_ret
  exact ⟨ret_bool (by rw [E.out]), bel1 _ _⟩

set_option maxHeartbeats 1000000 in
theorem findTable1_any (x : TabD) (sv : Value) (hsv : IsSl sv) (pb : Nat) (s : Wd) (w : World) (hp : w.cell? ⟨pb, 0, none⟩ = some (.string s)) (hpb : pb < w.heap.size) :
    Calls Try.prog 25 #[.agg #[.string x.name, sv], .pointer (some ⟨pb, 0, none⟩)] w fun e w' => e = .returned (.bool (decide (x.name = s))) ∧ Below w.heap.size w w' := by
  obtain ⟨name, cols⟩ := x
  obtain ⟨ao, n, c, rfl⟩ := hsv
  simp only
  have E : Hid (decide (name = s) = (name.toList == s.toList)) := (beq_str _ _).symm
  generalize decide (name = s) = r at E
  have hp1 := ((bel1 w (.cells #[.string name, .slice ao n c] 43)).cell (p := ⟨pb, 0, none⟩) hpb).trans hp
  go_enter Try.func25, Try.ntmps25
  go_wp2
  go_ret
  exact ⟨ret_bool (by rw [E.out]), bel1 _ _⟩

set_option maxHeartbeats 2000000 in
theorem findCol_any (l : List ColD) (nmv : Wd) (sv : Value) (s : Wd) (C : Nat) (w : World) (hl : IsL kCol (fun k => k < C) w sv l) (hC : C ≤ w.heap.size) :
    Calls Try.prog 11 #[.agg #[.string nmv, sv], .string s] w fun e w' => e = .returned (.int .i64 (colAt l s)) ∧ Below w.heap.size w w' := by
  obtain ⟨ao, c, rfl⟩ := hl.shape
  have hb2 := bel2 w (.cells #[.string nmv, .slice ao l.length c] 43) (.cells #[.string s] 9)
  have HC := index_findCol l (fun k => k < C) ao l.length c (.pointer (some ⟨w.heap.size + 1, 0, none⟩)) (atI l fun x => decide (x.name = s))
    (fun _ W => W.cell? ⟨w.heap.size + 1, 0, none⟩ = some (.string s) ∧ Below w.heap.size w W ∧ w.heap.size + 2 ≤ W.heap.size) (fun W => Below w.heap.size w W)
    ((w.alloc (.cells #[.string nmv, .slice ao l.length c] 43)).alloc (.cells #[.string s] 9)) (fun i W h => h.2.1) (fun i W h => hl.keep (keepsC (h.2.1.mono hC)))
    (by
      rintro i x cs W hx ⟨h1, h2, h3⟩ rfl
      refine (findCol1_any x (w.heap.size + 1) s W h1 (by omega)).mono ?_
      rintro e W' ⟨rfl, hb⟩
      have hbW : Below w.heap.size w W' := h2.trans (hb.mono h2.size)
      exact ⟨by rw [atI_get hx], hbW, fun _ => ⟨(hb.cell (p := ⟨w.heap.size + 1, 0, none⟩) (show w.heap.size + 1 < W.heap.size by omega)).trans h1, hbW, Nat.le_trans h3 hb.size⟩⟩)
    ⟨cell_of_block (block2 _ _ _) rfl, hb2, by simp⟩
  have E : Hid (colAt l s = firstI (atI l fun x => decide (x.name = s)) 0 l.length) := rfl
  generalize colAt l s = r at E
  generalize firstI (atI l fun x => decide (x.name = s)) 0 l.length = q at E HC
  clear hl
  go_enter Try.func11, Try.ntmps11
  go_wp2_with (go_at_call 28; go_fit HC; rintro e w1 ⟨rfl, hb1⟩)
  go_ret
  exact ⟨ret_int (by rw [E.out]), hb1⟩

/-- A table and whether it is there are answered. -/
theorem end_tab {fn : Func} {p q : Tmp} {w : World} {g : Nat} {a : Act} {c0 c1 : Value} {t : TypeId} {fr : Nat × Nat} {R : Ending → World → Prop} (nmv : Wd) (sv : Value) (there : Bool) (hr : fn.results = #[.cell p 43, .tmp q]) (hp : a.tmps.getD p undef = .pointer (some ⟨g, 0, none⟩)) (hq : a.tmps.getD q undef = .bool there) (hd : a.defers = [])
    (hg : w.heap[g]? = some (.cells #[c0, c1] t fr)) (hR : R (.returned (.tuple #[.agg #[.string nmv, sv], .bool there])) ((w.setCell ⟨g, 0, none⟩ (.string nmv)).setCell ⟨g, 1, none⟩ sv)) :
    bodyPost Try.prog fn R .ret a ((w.setCell ⟨g, 0, none⟩ (.string nmv)).setCell ⟨g, 1, none⟩ sv) :=
  bodyPost_ret (results_two hr a.tmps _ g t _ fr _ _ hp hq (set_at (set_at hg 0 _) 1 _) Try.underlying43 rfl (by kernel_rfl)) hd hR
/-- What FindTable answers. -/
def FindPost (T : List TabD) (s : Wd) (F : Nat → Prop) (w : World) (e : Ending) (w' : World) : Prop :=
  ∃ nmv ao n c there, e = .returned (.tuple #[.agg #[.string nmv, .slice ao n c], .bool there]) ∧ (match tabOf T s with | some t => there = true ∧ nmv = t.name ∧ IsL kCol F w' (.slice ao n c) t.cols | none => there = false ∧ nmv = noW ∧ ao = none ∧ n = 0 ∧ c = 0) ∧ Below w.heap.size w w'

set_option maxHeartbeats 2000000 in
theorem findTable_any (T : List TabD) (tv iv : Value) (hiv : IsSl iv) (s : Wd) (C : Nat) (w : World) (hl : IsL kTab (fun k => k < C) w tv T) (hC : C ≤ w.heap.size) :
    Calls Try.prog 8 #[.agg #[tv, iv], .string s] w (FindPost T s (fun k => k < C) w) := by
  obtain ⟨ao, c, rfl⟩ := hl.shape
  obtain ⟨io, il, ic, rfl⟩ := hiv
  have hb3 := bel3 w (.cells #[.slice ao T.length c, .slice io il ic] 25) (.cells #[.string s] 9) (.cells #[.string noW, .slice none 0 0] 43)
  have HC := index_findTable T (fun k => k < C) ao T.length c (.pointer (some ⟨w.heap.size + 1, 0, none⟩)) (atI T fun x => decide (x.name = s))
    (fun _ W => W.cell? ⟨w.heap.size + 1, 0, none⟩ = some (.string s) ∧ Below (w.heap.size + 3) (((w.alloc (.cells #[.slice ao T.length c, .slice io il ic] 25)).alloc (.cells #[.string s] 9)).alloc (.cells #[.string noW, .slice none 0 0] 43)) W) (fun W => Below (w.heap.size + 3) (((w.alloc (.cells #[.slice ao T.length c, .slice io il ic] 25)).alloc (.cells #[.string s] 9)).alloc (.cells #[.string noW, .slice none 0 0] 43)) W)
    (((w.alloc (.cells #[.slice ao T.length c, .slice io il ic] 25)).alloc (.cells #[.string s] 9)).alloc (.cells #[.string noW, .slice none 0 0] 43)) (fun i W h => h.2) (fun i W h => hl.keep (keepsC ((hb3.mono hC).trans (h.2.mono (by omega)))))
    (by
      rintro i x cs W hx ⟨h1, h2⟩ ⟨sv, rfl, hsv⟩
      have hsz := h2.size
      rw [show (((w.alloc (.cells #[.slice ao T.length c, .slice io il ic] 25)).alloc (.cells #[.string s] 9)).alloc (.cells #[.string noW, .slice none 0 0] 43)).heap.size = w.heap.size + 3 from by simp] at hsz
      refine (findTable1_any x sv (isL_one hsv) (w.heap.size + 1) s W h1 (by omega)).mono ?_
      rintro e W' ⟨rfl, hb⟩
      have hbW := h2.trans (hb.mono hsz)
      exact ⟨by rw [atI_get hx], hbW, fun _ => ⟨(hb.cell (p := ⟨w.heap.size + 1, 0, none⟩) (show w.heap.size + 1 < W.heap.size by omega)).trans h1, hbW⟩⟩)
    ⟨cell_of_block (block_alloc_of (block2 _ _ _) _) rfl, Below.refl _ _⟩
  rcases find_cases T (fun x => decide (x.name = s)) with ⟨h1, h2⟩ | ⟨k, t, h1, h2, h3, h4⟩
  · rw [h1] at HC
    have HP : Hid (tabOf T s = none) := h2
    clear h1 h2
    go_enter Try.func8, Try.ntmps8
    go_wp2_with (go_at_call 24; go_fit HC; rintro e w1 ⟨rfl, hb1⟩; obtain ⟨z1, q1, r1, s1, t1⟩ := three (g := w.heap.size) (hb1.mono (by simp)) (by simp))
    have hbl := (hb1.block (w.heap.size + 2) (by omega)).trans (block3 w (.cells #[.slice ao T.length c, .slice io il ic] 25) (.cells #[.string s] 9) (.cells #[.string noW, .slice none 0 0] 43))
    have hbw : Below w.heap.size w w1 := hb3.trans (hb1.mono (by omega))
    exact end_tab noW (.slice none 0 0) false Try.results8 rfl rfl rfl hbl ⟨noW, none, 0, 0, false, rfl, by rw [HP.out]; exact ⟨rfl, rfl, rfl, rfl, rfl⟩, (hbw.setCell (show w.heap.size ≤ w.heap.size + 2 by omega) _).setCell (show w.heap.size ≤ w.heap.size + 2 by omega) _⟩
  · rw [h1] at HC
    have HP : Hid (tabOf T s = some t) := h4
    obtain ⟨b, off, cs, rfl, hbC, hbl, ⟨sv, rfl, hsv⟩, hcell⟩ := isL_get hl h2
    obtain ⟨so, sc, rfl⟩ := hsv.shape
    have d0 := hcell 0 _ rfl
    have d1 := hcell 1 _ rfl
    simp only [kTab, Nat.add_zero] at d0 d1
    have hk : k < T.length := (List.getElem?_eq_some_iff.1 h2).1
    have k0 : (0 : Int) ≤ (k : Int) := by omega
    have k1 : (k : Int) < (T.length : Int) := by omega
    have k2 : ¬ (k : Int) < 0 := by omega
    clear h1 h2 h3 h4 hcell
    go_enter Try.func8, Try.ntmps8
    go_wp2_with (go_at_call 24; go_fit HC; rintro e w1 ⟨rfl, hb1⟩; obtain ⟨z1, q1, r1, s1, t1⟩ := three (g := w.heap.size) (hb1.mono (by simp)) (by simp); have hbw : Below w.heap.size w w1 := hb3.trans (hb1.mono (by omega)); have d2 := (hbw.cell (p := ⟨b, off + k * 2, none⟩) hbl).trans d0; have d3 := (hbw.cell (p := ⟨b, off + k * 2 + 1, none⟩) hbl).trans d1)
    have hbl2 := (hb1.block (w.heap.size + 2) (by omega)).trans (block3 w (.cells #[.slice (some ⟨b, off, none⟩) T.length c, .slice io il ic] 25) (.cells #[.string s] 9) (.cells #[.string noW, .slice none 0 0] 43))
    have hbF : Below w.heap.size w ((w1.setCell ⟨w.heap.size + 2, 0, none⟩ (.string t.name)).setCell ⟨w.heap.size + 2, 1, none⟩ (.slice so t.cols.length sc)) := (hbw.setCell (show w.heap.size ≤ w.heap.size + 2 by omega) _).setCell (show w.heap.size ≤ w.heap.size + 2 by omega) _
    exact end_tab t.name (.slice so t.cols.length sc) true Try.results8 rfl rfl rfl hbl2 ⟨t.name, so, t.cols.length, sc, true, rfl, by rw [HP.out]; exact ⟨rfl, rfl, hsv.keep (keepsC (hbF.mono hC))⟩, hbF⟩

end Go.Proofs.Ytabanbpnghidhaa

namespace Go.Proofs.Ytabanbpnghidhaa
open Go.RowKit Go.Maps

theorem anyI_step (p : Nat → Bool) (k n : Nat) (h : k < n) : anyI p k (n - k) = (p k || anyI p (k + 1) (n - (k + 1))) := by
  rw [show n - k = (n - (k + 1)) + 1 from by omega, anyI]
/-- Is a name not ahead of the next? -/
def stands (l : List Wd) (i : Nat) : Bool := match l[i]?, l[i + 1]? with
  | some a, some b => !Op.bytesLess a.toList b.toList
  | _, _ => false
/-- Do names rise? -/
def riseB (l : List Wd) : Bool := !anyI (stands l) 0 (l.length - 1)

set_option maxHeartbeats 400000 in
theorem tableName_any (nmv : Wd) (ao : Option Addr) (n c : Nat) (w : World) : Calls Try.prog 17 #[.agg #[.string nmv, .slice ao n c]] w fun e w' => e = .returned (.string nmv) ∧ Below w.heap.size w w' := by
  go_enter Try.func17, Try.ntmps17
  go_wp2
  go_ret
  exact ⟨rfl, bel1 _ _⟩
set_option maxHeartbeats 400000 in
theorem indexName_any (nmv t c : Wd) (w : World) : Calls Try.prog 19 #[.agg #[.string nmv, .string t, .string c]] w fun e w' => e = .returned (.string nmv) ∧ Below w.heap.size w w' := by
  go_enter Try.func19, Try.ntmps19
  go_wp2
  go_ret
  exact ⟨rfl, bel1 _ _⟩

theorem rise_keep_tab {W W' : World} {b off k : Nat} {a0 a1 a2 a3 : Value} (h : W.cell? ⟨b, off + k * 2, none⟩ = some a0 ∧ W.cell? ⟨b, off + k * 2 + 1, none⟩ = some a1 ∧ W.cell? ⟨b, off + (k + 1) * 2, none⟩ = some a2 ∧ W.cell? ⟨b, off + (k + 1) * 2 + 1, none⟩ = some a3) (hb : Below W.heap.size W W') (hl : b < W.heap.size) : W'.cell? ⟨b, off + k * 2, none⟩ = some a0 ∧ W'.cell? ⟨b, off + k * 2 + 1, none⟩ = some a1 ∧ W'.cell? ⟨b, off + (k + 1) * 2, none⟩ = some a2 ∧ W'.cell? ⟨b, off + (k + 1) * 2 + 1, none⟩ = some a3 := by
  have kc : ∀ o, W'.cell? ⟨b, o, none⟩ = W.cell? ⟨b, o, none⟩ := fun o => hb.cell (p := ⟨b, o, none⟩) hl
  obtain ⟨h0, h1, h2, h3⟩ := h
  exact ⟨(kc _).trans h0, (kc _).trans h1, (kc _).trans h2, (kc _).trans h3⟩

set_option maxRecDepth 100000 in
set_option maxHeartbeats 4000000 in
theorem rise_tab (l : List TabD) (sv : Value) (C : Nat) (w : World) (hl : IsL kTab (fun k => k < C) w sv l) (hC : C ≤ w.heap.size) :
    Calls Try.prog 58 #[sv, .func (.func 17) #[] #[]] w fun e w' => e = .returned (.bool (riseB (l.map TabD.name))) ∧ Below w.heap.size w w' := by
  obtain ⟨ao, c, rfl⟩ := hl.shape
  have hlm := (isL_len hl).2
  unfold maxLen at hlm
  have E : Hid (riseB (l.map TabD.name) = !anyI (stands (l.map TabD.name)) 0 (l.length - 1)) := by show _ = _; rw [riseB, List.length_map]
  generalize riseB (l.map TabD.name) = r at E
  go_enter Try.func58, Try.ntmps58
  go_wp2
  go_loopw [5] (fun i wr => ∃ k : Nat, k ≤ l.length - 1 ∧ i = .int .i64 ((k : Int) + 1) ∧ Below w.heap.size w wr ∧ Hid (anyI (stands (l.map TabD.name)) 0 (l.length - 1) = anyI (stands (l.map TabD.name)) k (l.length - 1 - k))) (fun i _ => l.length - (intOf i).toNat)
  case atStart => exact ⟨0, Nat.zero_le _, rfl, Below.refl _ _, rfl⟩
  case round =>
    obtain ⟨k, hk, rfl, hbel, HP⟩ := hrel
    by_cases hlt : k + 1 < l.length
    · obtain ⟨x, hx⟩ : ∃ x, l[k]? = some x := ⟨_, List.getElem?_eq_getElem (by omega)⟩
      obtain ⟨y, hy⟩ : ∃ y, l[k + 1]? = some y := ⟨_, List.getElem?_eq_getElem hlt⟩
      have hlr := hl.keep (keepsC (hbel.mono hC))
      obtain ⟨b, off, cs0, rfl, _, hb, hR0, hcell0⟩ := isL_get hlr hx
      obtain ⟨b', off', cs1, hbe, _, _, hR1, hcell1⟩ := isL_get hlr hy
      simp only [Option.some.injEq, Addr.mk.injEq, and_true] at hbe
      obtain ⟨rfl, rfl⟩ := hbe
      obtain ⟨sv0, rfl, hsv0⟩ := hR0
      obtain ⟨so0, sc0, rfl⟩ := hsv0.shape
      obtain ⟨sv1, rfl, hsv1⟩ := hR1
      obtain ⟨so1, sc1, rfl⟩ := hsv1.shape
      have d0 := hcell0 0 _ rfl
      have d1 := hcell0 1 _ rfl
      have e0 := hcell1 0 _ rfl
      have e1 := hcell1 1 _ rfl
      simp only [kTab, Nat.add_zero] at d0 d1 e0 e1
      have hst : Hid (anyI (stands (l.map TabD.name)) k (l.length - 1 - k) = (!Op.bytesLess x.name.toList y.name.toList || anyI (stands (l.map TabD.name)) (k + 1) (l.length - 1 - (k + 1)))) := by
        show _ = _
        rw [anyI_step _ k _ (by omega), stands, List.getElem?_map, List.getElem?_map, hx, hy]
        rfl
      have k0 : (0 : Int) ≤ (k : Int) + 1 := by omega
      have k1 : (k : Int) + 1 < (l.length : Int) := by omega
      have k2 : wrap64 ((k : Int) + 1 - 1) = (k : Int) := by unfold wrap64; omega
      have k3 : (0 : Int) ≤ (k : Int) := by omega
      have k4 : (k : Int) < (l.length : Int) := by omega
      have k5 : ((k : Int) + 1).toNat = k + 1 := by omega
      have k6 : IntKind.i64.wrap (k : Int) = (k : Int) := by rw [IntKind.wrap_i64]; omega
      have S0 := (show wr.cell? ⟨b, off + k * 2, none⟩ = some (.string x.name) ∧ wr.cell? ⟨b, off + k * 2 + 1, none⟩ = some (.slice so0 x.cols.length sc0) ∧ wr.cell? ⟨b, off + (k + 1) * 2, none⟩ = some (.string y.name) ∧ wr.cell? ⟨b, off + (k + 1) * 2 + 1, none⟩ = some (.slice so1 y.cols.length sc1) from ⟨d0, d1, e0, e1⟩)
      clear hcell0 hcell1 hx hy hlr
      cases hq : Op.bytesLess x.name.toList y.name.toList
      · have hst2 : Hid (anyI (stands (l.map TabD.name)) k (l.length - 1 - k) = true) := by show _ = _; rw [hst.out, hq]; rfl
        clear hst
        go_wp2_with fail
        go_region_held3 (fun w' => w'.cell? ⟨b, off + k * 2, none⟩ = some (.string x.name) ∧ w'.cell? ⟨b, off + k * 2 + 1, none⟩ = some (.slice so0 x.cols.length sc0) ∧ w'.cell? ⟨b, off + (k + 1) * 2, none⟩ = some (.string y.name) ∧ w'.cell? ⟨b, off + (k + 1) * 2 + 1, none⟩ = some (.slice so1 y.cols.length sc1)) (first | assumption | exact S0)
          (first | (go_at_call_of 17 (Value.agg #[.string x.name, .slice so0 x.cols.length sc0]); go_fit (tableName_any x.name so0 x.cols.length sc0 _); rintro r0 w2 ⟨rfl, hb0⟩; have S1 := rise_keep_tab (W := wr.drew) S0 hb0 hb; have z1 := Nat.lt_of_lt_of_le hb hb0.size) | (go_at_call_of 17 (Value.agg #[.string y.name, .slice so1 y.cols.length sc1]); go_fit (tableName_any y.name so1 y.cols.length sc1 _); rintro r1 w3 ⟨rfl, hb1⟩; have S2 := rise_keep_tab S1 hb1 z1; have z2 := Nat.lt_of_lt_of_le z1 hb1.size))
        go_wp2
        go_ret
        exact ⟨ret_bool (by rw [E.out, HP.out, hst2.out]; rfl), hbel.trans ((bthen (bthen (Below.refl _ _).drew hb0) hb1).mono hbel.size)⟩
      · have hst2 : Hid (anyI (stands (l.map TabD.name)) k (l.length - 1 - k) = anyI (stands (l.map TabD.name)) (k + 1) (l.length - 1 - (k + 1))) := by show _ = _; rw [hst.out, hq]; rfl
        clear hst
        go_wp2_with fail
        go_region_held3 (fun w' => w'.cell? ⟨b, off + k * 2, none⟩ = some (.string x.name) ∧ w'.cell? ⟨b, off + k * 2 + 1, none⟩ = some (.slice so0 x.cols.length sc0) ∧ w'.cell? ⟨b, off + (k + 1) * 2, none⟩ = some (.string y.name) ∧ w'.cell? ⟨b, off + (k + 1) * 2 + 1, none⟩ = some (.slice so1 y.cols.length sc1)) (first | assumption | exact S0)
          (first | (go_at_call_of 17 (Value.agg #[.string x.name, .slice so0 x.cols.length sc0]); go_fit (tableName_any x.name so0 x.cols.length sc0 _); rintro r0 w2 ⟨rfl, hb0⟩; have S1 := rise_keep_tab (W := wr.drew) S0 hb0 hb; have z1 := Nat.lt_of_lt_of_le hb hb0.size) | (go_at_call_of 17 (Value.agg #[.string y.name, .slice so1 y.cols.length sc1]); go_fit (tableName_any y.name so1 y.cols.length sc1 _); rintro r1 w3 ⟨rfl, hb1⟩; have S2 := rise_keep_tab S1 hb1 z1; have z2 := Nat.lt_of_lt_of_le z1 hb1.size))
        go_wp2
        go_roundw
        case rel => exact ⟨k + 1, by omega, by go_num, hbel.trans ((bthen (bthen (Below.refl _ _).drew hb0) hb1).mono hbel.size), HP.out.trans hst2.out⟩
        case measure => simp [intOf]; omega
    · have HE : Hid (anyI (stands (l.map TabD.name)) k (l.length - 1 - k) = false) := by show _ = _; rw [show l.length - 1 - k = 0 from by omega]; rfl
      have k1 : ¬ (k : Int) + 1 < (l.length : Int) := by omega
      go_wp2
      go_ret
      exact ⟨ret_bool (by rw [E.out, HP.out, HE.out]; rfl), hbel⟩

theorem rise_keep_idx {W W' : World} {b off k : Nat} {a0 a1 a2 a3 a4 a5 : Value} (h : W.cell? ⟨b, off + k * 3, none⟩ = some a0 ∧ W.cell? ⟨b, off + k * 3 + 1, none⟩ = some a1 ∧ W.cell? ⟨b, off + k * 3 + 2, none⟩ = some a2 ∧ W.cell? ⟨b, off + (k + 1) * 3, none⟩ = some a3 ∧ W.cell? ⟨b, off + (k + 1) * 3 + 1, none⟩ = some a4 ∧ W.cell? ⟨b, off + (k + 1) * 3 + 2, none⟩ = some a5) (hb : Below W.heap.size W W') (hl : b < W.heap.size) : W'.cell? ⟨b, off + k * 3, none⟩ = some a0 ∧ W'.cell? ⟨b, off + k * 3 + 1, none⟩ = some a1 ∧ W'.cell? ⟨b, off + k * 3 + 2, none⟩ = some a2 ∧ W'.cell? ⟨b, off + (k + 1) * 3, none⟩ = some a3 ∧ W'.cell? ⟨b, off + (k + 1) * 3 + 1, none⟩ = some a4 ∧ W'.cell? ⟨b, off + (k + 1) * 3 + 2, none⟩ = some a5 := by
  have kc : ∀ o, W'.cell? ⟨b, o, none⟩ = W.cell? ⟨b, o, none⟩ := fun o => hb.cell (p := ⟨b, o, none⟩) hl
  obtain ⟨h0, h1, h2, h3, h4, h5⟩ := h
  exact ⟨(kc _).trans h0, (kc _).trans h1, (kc _).trans h2, (kc _).trans h3, (kc _).trans h4, (kc _).trans h5⟩

set_option maxRecDepth 100000 in
set_option maxHeartbeats 4000000 in
theorem rise_idx (l : List IdxD) (sv : Value) (C : Nat) (w : World) (hl : IsL kIdx (fun k => k < C) w sv l) (hC : C ≤ w.heap.size) :
    Calls Try.prog 63 #[sv, .func (.func 19) #[] #[]] w fun e w' => e = .returned (.bool (riseB (l.map IdxD.name))) ∧ Below w.heap.size w w' := by
  obtain ⟨ao, c, rfl⟩ := hl.shape
  have hlm := (isL_len hl).2
  unfold maxLen at hlm
  have E : Hid (riseB (l.map IdxD.name) = !anyI (stands (l.map IdxD.name)) 0 (l.length - 1)) := by show _ = _; rw [riseB, List.length_map]
  generalize riseB (l.map IdxD.name) = r at E
  go_enter Try.func63, Try.ntmps63
  go_wp2
  go_loopw [5] (fun i wr => ∃ k : Nat, k ≤ l.length - 1 ∧ i = .int .i64 ((k : Int) + 1) ∧ Below w.heap.size w wr ∧ Hid (anyI (stands (l.map IdxD.name)) 0 (l.length - 1) = anyI (stands (l.map IdxD.name)) k (l.length - 1 - k))) (fun i _ => l.length - (intOf i).toNat)
  case atStart => exact ⟨0, Nat.zero_le _, rfl, Below.refl _ _, rfl⟩
  case round =>
    obtain ⟨k, hk, rfl, hbel, HP⟩ := hrel
    by_cases hlt : k + 1 < l.length
    · obtain ⟨x, hx⟩ : ∃ x, l[k]? = some x := ⟨_, List.getElem?_eq_getElem (by omega)⟩
      obtain ⟨y, hy⟩ : ∃ y, l[k + 1]? = some y := ⟨_, List.getElem?_eq_getElem hlt⟩
      have hlr := hl.keep (keepsC (hbel.mono hC))
      obtain ⟨b, off, cs0, rfl, _, hb, hR0, hcell0⟩ := isL_get hlr hx
      obtain ⟨b', off', cs1, hbe, _, _, hR1, hcell1⟩ := isL_get hlr hy
      simp only [Option.some.injEq, Addr.mk.injEq, and_true] at hbe
      obtain ⟨rfl, rfl⟩ := hbe
      obtain rfl := hR0
      obtain rfl := hR1
      have d0 := hcell0 0 _ rfl
      have d1 := hcell0 1 _ rfl
      have d2 := hcell0 2 _ rfl
      have e0 := hcell1 0 _ rfl
      have e1 := hcell1 1 _ rfl
      have e2 := hcell1 2 _ rfl
      simp only [kIdx, Nat.add_zero] at d0 d1 d2 e0 e1 e2
      have hst : Hid (anyI (stands (l.map IdxD.name)) k (l.length - 1 - k) = (!Op.bytesLess x.name.toList y.name.toList || anyI (stands (l.map IdxD.name)) (k + 1) (l.length - 1 - (k + 1)))) := by
        show _ = _
        rw [anyI_step _ k _ (by omega), stands, List.getElem?_map, List.getElem?_map, hx, hy]
        rfl
      have k0 : (0 : Int) ≤ (k : Int) + 1 := by omega
      have k1 : (k : Int) + 1 < (l.length : Int) := by omega
      have k2 : wrap64 ((k : Int) + 1 - 1) = (k : Int) := by unfold wrap64; omega
      have k3 : (0 : Int) ≤ (k : Int) := by omega
      have k4 : (k : Int) < (l.length : Int) := by omega
      have k5 : ((k : Int) + 1).toNat = k + 1 := by omega
      have k6 : IntKind.i64.wrap (k : Int) = (k : Int) := by rw [IntKind.wrap_i64]; omega
      have S0 := (show wr.cell? ⟨b, off + k * 3, none⟩ = some (.string x.name) ∧ wr.cell? ⟨b, off + k * 3 + 1, none⟩ = some (.string x.table) ∧ wr.cell? ⟨b, off + k * 3 + 2, none⟩ = some (.string x.col) ∧ wr.cell? ⟨b, off + (k + 1) * 3, none⟩ = some (.string y.name) ∧ wr.cell? ⟨b, off + (k + 1) * 3 + 1, none⟩ = some (.string y.table) ∧ wr.cell? ⟨b, off + (k + 1) * 3 + 2, none⟩ = some (.string y.col) from ⟨d0, d1, d2, e0, e1, e2⟩)
      clear hcell0 hcell1 hx hy hlr
      cases hq : Op.bytesLess x.name.toList y.name.toList
      · have hst2 : Hid (anyI (stands (l.map IdxD.name)) k (l.length - 1 - k) = true) := by show _ = _; rw [hst.out, hq]; rfl
        clear hst
        go_wp2_with fail
        go_region_held3 (fun w' => w'.cell? ⟨b, off + k * 3, none⟩ = some (.string x.name) ∧ w'.cell? ⟨b, off + k * 3 + 1, none⟩ = some (.string x.table) ∧ w'.cell? ⟨b, off + k * 3 + 2, none⟩ = some (.string x.col) ∧ w'.cell? ⟨b, off + (k + 1) * 3, none⟩ = some (.string y.name) ∧ w'.cell? ⟨b, off + (k + 1) * 3 + 1, none⟩ = some (.string y.table) ∧ w'.cell? ⟨b, off + (k + 1) * 3 + 2, none⟩ = some (.string y.col)) (first | assumption | exact S0)
          (first | (go_at_call_of 19 (Value.agg #[.string x.name, .string x.table, .string x.col]); go_fit (indexName_any x.name x.table x.col _); rintro r0 w2 ⟨rfl, hb0⟩; have S1 := rise_keep_idx (W := wr.drew) S0 hb0 hb; have z1 := Nat.lt_of_lt_of_le hb hb0.size) | (go_at_call_of 19 (Value.agg #[.string y.name, .string y.table, .string y.col]); go_fit (indexName_any y.name y.table y.col _); rintro r1 w3 ⟨rfl, hb1⟩; have S2 := rise_keep_idx S1 hb1 z1; have z2 := Nat.lt_of_lt_of_le z1 hb1.size))
        go_wp2
        go_ret
        exact ⟨ret_bool (by rw [E.out, HP.out, hst2.out]; rfl), hbel.trans ((bthen (bthen (Below.refl _ _).drew hb0) hb1).mono hbel.size)⟩
      · have hst2 : Hid (anyI (stands (l.map IdxD.name)) k (l.length - 1 - k) = anyI (stands (l.map IdxD.name)) (k + 1) (l.length - 1 - (k + 1))) := by show _ = _; rw [hst.out, hq]; rfl
        clear hst
        go_wp2_with fail
        go_region_held3 (fun w' => w'.cell? ⟨b, off + k * 3, none⟩ = some (.string x.name) ∧ w'.cell? ⟨b, off + k * 3 + 1, none⟩ = some (.string x.table) ∧ w'.cell? ⟨b, off + k * 3 + 2, none⟩ = some (.string x.col) ∧ w'.cell? ⟨b, off + (k + 1) * 3, none⟩ = some (.string y.name) ∧ w'.cell? ⟨b, off + (k + 1) * 3 + 1, none⟩ = some (.string y.table) ∧ w'.cell? ⟨b, off + (k + 1) * 3 + 2, none⟩ = some (.string y.col)) (first | assumption | exact S0)
          (first | (go_at_call_of 19 (Value.agg #[.string x.name, .string x.table, .string x.col]); go_fit (indexName_any x.name x.table x.col _); rintro r0 w2 ⟨rfl, hb0⟩; have S1 := rise_keep_idx (W := wr.drew) S0 hb0 hb; have z1 := Nat.lt_of_lt_of_le hb hb0.size) | (go_at_call_of 19 (Value.agg #[.string y.name, .string y.table, .string y.col]); go_fit (indexName_any y.name y.table y.col _); rintro r1 w3 ⟨rfl, hb1⟩; have S2 := rise_keep_idx S1 hb1 z1; have z2 := Nat.lt_of_lt_of_le z1 hb1.size))
        go_wp2
        go_roundw
        case rel => exact ⟨k + 1, by omega, by go_num, hbel.trans ((bthen (bthen (Below.refl _ _).drew hb0) hb1).mono hbel.size), HP.out.trans hst2.out⟩
        case measure => simp [intOf]; omega
    · have HE : Hid (anyI (stands (l.map IdxD.name)) k (l.length - 1 - k) = false) := by show _ = _; rw [show l.length - 1 - k = 0 from by omega]; rfl
      have k1 : ¬ (k : Int) + 1 < (l.length : Int) := by omega
      go_wp2
      go_ret
      exact ⟨ret_bool (by rw [E.out, HP.out, HE.out]; rfl), hbel⟩

end Go.Proofs.Ytabanbpnghidhaa


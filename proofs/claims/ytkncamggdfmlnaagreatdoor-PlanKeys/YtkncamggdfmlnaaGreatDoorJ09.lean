/-
  7 texts of this proof in one, in build order: KShelf, KName, KCat, YRise, YIndexB, YCat, YCat2.
-/
import Derived.Shelf.Strings.SlTrimAscii
import Derived.Shelf.Strings.Search3
import Derived.Shelf.LaysM
import Derived.Test.YtkncamggdfmlnaaGreatDoorProg
import Derived.Deep.RegionHeld3
import Derived.Test.YtkncamggdfmlnaaGreatDoorJ01
import Derived.Test.YtkncamggdfmlnaaGreatDoorJ07
import Derived.Test.YtkncamggdfmlnaaGreatDoorJ08
namespace Go.Proofs
open Go.Shelf
def Tryz.lays160_ren : Go.Shelf.Ren := ⟨fun | 160 => 30 | 232 => 49 | 231 => 48 | 227 => 50 | 234 => 52 | 233 => 51 | 236 => 54 | 235 => 53 | 228 => 73 | 271 => 76 | 151 => 75 | 197 => 74 | 120 => 95 | 152 => 94 | 260 => 93 | 137 => 112 | 119 => 115 | 224 => 98 | 225 => 97 | 217 => 96 | 266 => 116 | n => n, fun | 9 => 9 | 4 => 4 | 3 => 3 | 5 => 5 | 117 => 103 | 116 => 102 | 0 => 0 | 124 => 106 | 21 => 21 | 105 => 126 | 46 => 131 | 119 => 154 | 139 => 157 | 138 => 156 | n => n, fun | 3 => 1 | 4 => 2 | n => n⟩
theorem Tryz.lays160 : Go.Proofs.Lays.n160 Tryz.prog Tryz.lays160_ren := {
  mixed := by kernel_rfl
  f119 := Tryz.func115.trans (congrArg some (by kernel_rfl))
  f120 := Tryz.func95.trans (congrArg some (by kernel_rfl))
  f137 := Tryz.func112.trans (congrArg some (by kernel_rfl))
  f151 := Tryz.func75.trans (congrArg some (by kernel_rfl))
  f152 := Tryz.func94.trans (congrArg some (by kernel_rfl))
  f160 := Tryz.func30.trans (congrArg some (by kernel_rfl))
  f197 := Tryz.func74.trans (congrArg some (by kernel_rfl))
  f217 := Tryz.func96.trans (congrArg some (by kernel_rfl))
  f224 := Tryz.func98.trans (congrArg some (by kernel_rfl))
  f225 := Tryz.func97.trans (congrArg some (by kernel_rfl))
  f227 := Tryz.func50.trans (congrArg some (by kernel_rfl))
  f228 := Tryz.func73.trans (congrArg some (by kernel_rfl))
  f231 := Tryz.func48.trans (congrArg some (by kernel_rfl))
  f232 := Tryz.func49.trans (congrArg some (by kernel_rfl))
  f233 := Tryz.func51.trans (congrArg some (by kernel_rfl))
  f234 := Tryz.func52.trans (congrArg some (by kernel_rfl))
  f235 := Tryz.func53.trans (congrArg some (by kernel_rfl))
  f236 := Tryz.func54.trans (congrArg some (by kernel_rfl))
  f260 := Tryz.func93.trans (congrArg some (by kernel_rfl))
  f266 := Tryz.func116.trans (congrArg some (by kernel_rfl))
  f271 := Tryz.func76.trans (congrArg some (by kernel_rfl))
  t0 := Tryz.underlying0
  a0 := Tryz.isAgg0
  z0 := Tryz.sizeOf0
  v0 := Tryz.zeroValue0
  t3 := Tryz.underlying3
  a3 := Tryz.isAgg3
  z3 := Tryz.sizeOf3
  v3 := Tryz.zeroValue3
  t4 := Tryz.underlying4
  a4 := Tryz.isAgg4
  z4 := Tryz.sizeOf4
  v4 := Tryz.zeroValue4
  t5 := Tryz.underlying5
  a5 := Tryz.isAgg5
  z5 := Tryz.sizeOf5
  v5 := Tryz.zeroValue5
  t9 := Tryz.underlying9
  a9 := Tryz.isAgg9
  z9 := Tryz.sizeOf9
  v9 := Tryz.zeroValue9
  t21 := Tryz.underlying21
  a21 := Tryz.isAgg21
  z21 := Tryz.sizeOf21
  v21 := Tryz.zeroValue21
  t46 := Tryz.underlying131
  a46 := Tryz.isAgg131
  z46 := Tryz.sizeOf131
  v46 := Tryz.zeroValue131
  t105 := Tryz.underlying126
  a105 := Tryz.isAgg126
  z105 := Tryz.sizeOf126
  v105 := Tryz.zeroValue126
  t116 := Tryz.underlying102
  a116 := Tryz.isAgg102
  z116 := Tryz.sizeOf102
  t117 := Tryz.underlying103
  a117 := Tryz.isAgg103
  z117 := Tryz.sizeOf103
  v117 := Tryz.zeroValue103
  t119 := Tryz.underlying154
  a119 := Tryz.isAgg154
  z119 := Tryz.sizeOf154
  t124 := Tryz.underlying106
  a124 := Tryz.isAgg106
  z124 := Tryz.sizeOf106
  v124 := Tryz.zeroValue106
  t138 := Tryz.underlying156
  a138 := Tryz.isAgg156
  z138 := Tryz.sizeOf156
  v138 := Tryz.zeroValue156
  t139 := Tryz.underlying157
  a139 := Tryz.isAgg157
  z139 := Tryz.sizeOf157
  v139 := Tryz.zeroValue157
  g3 := by kernel_rfl
  g4 := by kernel_rfl }
def Tryz.lays144_ren : Go.Shelf.Ren := ⟨fun | 144 => 31 | 143 => 55 | 219 => 77 | 217 => 96 | 225 => 97 | 224 => 98 | 267 => 99 | 266 => 116 | 314 => 117 | n => n, fun | 9 => 9 | 4 => 4 | 3 => 3 | 5 => 5 | 46 => 131 | 146 => 159 | 51 => 134 | n => n, fun | 1 => 0 | n => n⟩
theorem Tryz.lays144 : Go.Proofs.Lays.n144 Tryz.prog Tryz.lays144_ren := {
  mixed := by kernel_rfl
  f143 := Tryz.func55.trans (congrArg some (by kernel_rfl))
  f144 := Tryz.func31.trans (congrArg some (by kernel_rfl))
  f217 := Tryz.func96.trans (congrArg some (by kernel_rfl))
  f219 := Tryz.func77.trans (congrArg some (by kernel_rfl))
  f224 := Tryz.func98.trans (congrArg some (by kernel_rfl))
  f225 := Tryz.func97.trans (congrArg some (by kernel_rfl))
  f266 := Tryz.func116.trans (congrArg some (by kernel_rfl))
  f267 := Tryz.func99.trans (congrArg some (by kernel_rfl))
  f314 := Tryz.func117.trans (congrArg some (by kernel_rfl))
  t3 := Tryz.underlying3
  a3 := Tryz.isAgg3
  z3 := Tryz.sizeOf3
  v3 := Tryz.zeroValue3
  t4 := Tryz.underlying4
  a4 := Tryz.isAgg4
  z4 := Tryz.sizeOf4
  v4 := Tryz.zeroValue4
  t5 := Tryz.underlying5
  a5 := Tryz.isAgg5
  z5 := Tryz.sizeOf5
  v5 := Tryz.zeroValue5
  t9 := Tryz.underlying9
  a9 := Tryz.isAgg9
  z9 := Tryz.sizeOf9
  v9 := Tryz.zeroValue9
  t46 := Tryz.underlying131
  a46 := Tryz.isAgg131
  z46 := Tryz.sizeOf131
  v46 := Tryz.zeroValue131
  t51 := Tryz.underlying134
  a51 := Tryz.isAgg134
  z51 := Tryz.sizeOf134
  v51 := Tryz.zeroValue134
  t146 := Tryz.underlying159
  a146 := Tryz.isAgg159
  z146 := Tryz.sizeOf159
  v146 := Tryz.zeroValue159
  g1 := by kernel_rfl }
end Go.Proofs

namespace Go.Proofs.YtkncamggdfmlnaaGreatDoor
open Go.RowKit

/-- The library's variable that is read on the way, whatever it holds. -/
structure EnvM (w : World) : Prop where
  mx : ∃ m, w.cell? ⟨0, 0, none⟩ = some (.int .i64 m)
  low : 0 < w.heap.size
theorem EnvM.next {w w' : World} (h : EnvM w) (hb : Below w.heap.size w w') : EnvM w' := by
  obtain ⟨⟨m, h1⟩, h2⟩ := h
  exact ⟨⟨m, (hb.cell (p := ⟨0, 0, none⟩) h2).trans h1⟩, Nat.lt_of_lt_of_le h2 hb.size⟩
theorem size_wd0 {x : Wd} (h : x.size = 0) : x = noW := by
  cases x with
  | mk d =>
    have : d.size = 0 := h
    rw [Array.size_eq_zero_iff] at this
    rw [this]
theorem first_byte (s : ByteArray) (h0 : 1 ≤ s.size) : s.data.toList = s[0] :: s.data.toList.drop 1 := by
  have h : 0 < s.data.toList.length := by rw [size_toList]; omega
  conv => lhs; rw [← List.drop_zero (l := s.data.toList)]
  rw [List.drop_eq_getElem_cons h]; rfl

theorem dropWhile_nil (f : UInt8 → Bool) : ∀ l : List UInt8, (l.dropWhile f = []) ↔ (∀ x ∈ l, f x = true)
  | [] => by simp
  | c :: l => by
    cases h : f c
    · simp [h]
    · simp only [List.dropWhile_cons, h, if_true]
      rw [dropWhile_nil f l]; simp [h]
theorem trimS_nil (l cs : List UInt8) : (Lib.trimS l cs = []) ↔ l.all (cs.contains ·) = true := by
  unfold Lib.trimS Lib.trimLeftS Lib.trimRightS
  constructor
  · intro h
    have h1 := (dropWhile_nil _ _).1 h
    have h2 : ∀ x ∈ (l.reverse.dropWhile (cs.contains ·)), cs.contains x = true := fun x hx => h1 x (by simpa using hx)
    rw [List.all_eq_true]
    intro x hx
    by_cases hm : x ∈ l.reverse.dropWhile (cs.contains ·)
    · exact h2 x hm
    · have hx' : x ∈ l.reverse := by simpa using hx
      rw [← List.takeWhile_append_dropWhile (p := (cs.contains ·)) (l := l.reverse)] at hx'
      rcases List.mem_append.1 hx' with h3 | h3
      · have := List.all_takeWhile (p := (cs.contains ·)) (l := l.reverse)
        exact List.all_eq_true.1 this x h3
      · exact absurd h3 hm
  · intro h
    rw [List.all_eq_true] at h
    have : l.reverse.dropWhile (cs.contains ·) = [] := (dropWhile_nil _ _).2 (fun x hx => h x (by simpa using hx))
    rw [this]; rfl

theorem contains_cons (b : UInt8) (l sub : List UInt8) : Lib.contains (b :: l) sub = (sub.isPrefixOf (b :: l) || Lib.contains l sub) := by
  have h := Lib.index_ge l sub
  unfold Lib.contains
  rw [Lib.index]
  by_cases h1 : sub.isPrefixOf (b :: l) = true
  · simp [h1]
  · rw [if_neg h1]
    have h1' : sub.isPrefixOf (b :: l) = false := Bool.eq_false_iff.2 h1
    rw [h1', Bool.false_or]
    split
    · rename_i h2
      have h2 : Lib.index l sub = -1 := by simpa using h2
      rw [h2]
    · rename_i h2
      have h2 : Lib.index l sub ≠ -1 := by simpa using h2
      rw [Bool.eq_iff_iff, decide_eq_true_eq, decide_eq_true_eq]; omega
def flatW : List (List UInt8) → List UInt8
  | [] => []
  | x :: W => x ++ 32 :: flatW W
theorem contains_skip (W sub : List UInt8) : ∀ x : List UInt8, 32 ∉ x → Lib.contains (x ++ W) (32 :: sub) = Lib.contains W (32 :: sub)
  | [], _ => rfl
  | b :: x, h => by
    simp at h
    rw [List.cons_append, contains_cons, contains_skip W sub x h.2]
    have : (32 :: sub).isPrefixOf (b :: (x ++ W)) = false := by
      rw [List.isPrefixOf_cons_cons]
      simp [h.1]
    rw [this, Bool.false_or]
theorem prefix_word (W : List UInt8) : ∀ s x : List UInt8, 32 ∉ s → 32 ∉ x → (s ++ [32]).isPrefixOf (x ++ 32 :: W) = decide (s = x)
  | [], [], _, _ => by simp
  | [], b :: x, _, h => by
    simp at h
    rw [List.nil_append, List.cons_append, List.isPrefixOf_cons_cons]
    simp [h.1]
  | c :: s, [], h, _ => by
    simp at h
    rw [List.cons_append, List.nil_append, List.isPrefixOf_cons_cons]
    simp [Ne.symm h.1]
  | c :: s, b :: x, h1, h2 => by
    simp at h1 h2
    rw [List.cons_append, List.cons_append, List.isPrefixOf_cons_cons, prefix_word W s x h1.2 h2.2]
    rw [Bool.eq_iff_iff]; simp
theorem contains_word (s : List UInt8) (hs : 32 ∉ s) : ∀ W : List (List UInt8), (∀ x ∈ W, 32 ∉ x) → Lib.contains (32 :: flatW W) (32 :: (s ++ [32])) = decide (s ∈ W)
  | [], _ => by
    rw [contains_cons]
    have e : (32 :: (s ++ [32])).isPrefixOf (32 :: flatW []) = false := by
      cases s <;> simp [flatW]
    rw [e]; simp [flatW, Lib.contains, Lib.index]
  | x :: W, h => by
    rw [contains_cons, List.isPrefixOf_cons_cons, flatW, prefix_word _ s x hs (h x (by simp)), contains_skip _ _ x (h x (by simp)), contains_word s hs W (fun y hy => h y (by simp [hy]))]
    rw [Bool.eq_iff_iff]; simp
abbrev resL : List (List UInt8) := [[97, 110, 100], [98, 121], [99, 114, 101, 97, 116, 101], [100, 101, 108, 101, 116, 101], [100, 101, 115, 99], [100, 114, 111, 112], [102, 114, 111, 109], [105, 110, 100, 101, 120], [105, 110, 115, 101, 114, 116], [105, 110, 116], [105, 110, 116, 111], [105, 115], [108, 105, 109, 105, 116], [109, 117, 115, 116], [110, 111, 116], [110, 117, 108, 108], [111, 110], [111, 114], [111, 114, 100, 101, 114], [115, 101, 108, 101, 99, 116], [115, 101, 116], [116, 97, 98, 108, 101], [116, 101, 120, 116], [117, 112, 100, 97, 116, 101], [118, 97, 108, 117, 101, 115], [119, 104, 101, 114, 101]]
theorem reservedB_mem (w : Wd) : reservedB w = decide (w.data.toList ∈ resL) := by
  rw [reservedB_eq, Lib.toList_data, Bool.eq_iff_iff]
  simp [or_assoc]
def resText : Wd := ⟨(32 :: flatW resL).toArray⟩
set_option maxRecDepth 20000 in
theorem letters_set (c : UInt8) : ([97, 98, 99, 100, 101, 102, 103, 104, 105, 106, 107, 108, 109, 110, 111, 112, 113, 114, 115, 116, 117, 118, 119, 120, 121, 122] : List UInt8).contains c = letterB c := by
  have h : ∀ n : Fin 256, ([97, 98, 99, 100, 101, 102, 103, 104, 105, 106, 107, 108, 109, 110, 111, 112, 113, 114, 115, 116, 117, 118, 119, 120, 121, 122] : List UInt8).contains (UInt8.ofNat n.val) = letterB (UInt8.ofNat n.val) := by decide
  have := h ⟨c.toNat, c.toNat_lt⟩
  simpa using this

abbrev az : Wd := ⟨#[97, 98, 99, 100, 101, 102, 103, 104, 105, 106, 107, 108, 109, 110, 111, 112, 113, 114, 115, 116, 117, 118, 119, 120, 121, 122]⟩
set_option maxRecDepth 20000 in
theorem trim_az (s : Wd) (w : World) (hsz : s.size ≤ 8) :
    Calls Tryz.prog 30 #[.string s, .string az] w fun e w' => ∃ x : Wd, e = .returned (.string x) ∧ x.toList.isEmpty = s.data.toList.all letterB ∧ Below w.heap.size w w' := by
  refine (Any.strings_Trim_laid Tryz.lays160 (by kernel_rfl) s az w (by omega) (by decide) (ascii_of_all (by decide))).mono ?_
  rintro e w' ⟨rfl, hb⟩
  refine ⟨_, rfl, ?_, hb⟩
  have e : ∀ l : List UInt8, (⟨l.toArray⟩ : Wd).toList.isEmpty = decide (l = []) := fun l => by rw [Lib.toList_data]; cases l <;> rfl
  rw [e]
  have q := trimS_nil s.data.toList az.data.toList
  rw [show (fun c => az.data.toList.contains c) = letterB from funext letters_set] at q
  rw [Bool.eq_iff_iff, decide_eq_true_eq]
  exact q
theorem contains_gen (T sub : Wd) (w : World) (h : EnvM w) (hT : T.size = 136) :
    Calls Tryz.prog 31 #[.string T, .string sub] w fun e w' => e = .returned (.bool (Lib.contains T.data.toList sub.data.toList)) ∧ w' = w := by
  obtain ⟨m, hm⟩ := h.mx
  exact Any.strings_Contains Tryz.lays144 T sub m w (by omega) hm
theorem res_eq (s : Wd) (hs : s.data.toList.all letterB = true) : Lib.contains resText.data.toList (⟨#[32]⟩ ++ s ++ ⟨#[32]⟩ : Wd).data.toList = reservedB s := by
  rw [reservedB_mem, ← contains_word s.data.toList ?_ resL (by decide)]
  · have e1 : resText.data.toList = 32 :: flatW resL := by unfold resText; rw [List.toList_toArray]
    have e2 : (⟨#[32]⟩ ++ s ++ ⟨#[32]⟩ : Wd).data.toList = 32 :: (s.data.toList ++ [32]) := by simp [ByteArray.data_append]
    rw [e1, e2]
  · intro hm
    have := List.all_eq_true.1 hs 32 hm
    revert this; decide
theorem contains_res (T s : Wd) (hT : T = resText) (w : World) (h : EnvM w) (hs : s.data.toList.all letterB = true) :
    Calls Tryz.prog 31 #[.string T, .string (⟨#[32]⟩ ++ s ++ ⟨#[32]⟩)] w fun e w' => e = .returned (.bool (reservedB s)) ∧ w' = w := by
  have h136 : T.size = 136 := by rw [hT]; kernel_rfl
  have C := contains_gen T (⟨#[32]⟩ ++ s ++ ⟨#[32]⟩) w h h136
  rw [hT, res_eq s hs] at C
  rw [hT]
  exact C

set_option maxHeartbeats 1000000 in
theorem isName_any (s : Wd) (w : World) (h : EnvM w) :
    Calls Tryz.prog 20 #[.string s] w fun e w' => e = .returned (.bool (nm s)) ∧ Below w.heap.size w w' := by
  unfold nm
  by_cases h1 : s.size = 0
  · have he : s.toList.isEmpty = true := by rw [size_wd0 h1]; rw [Lib.toList_data]; rfl
    rw [h1]
    clear h1
    go_enter Tryz.func20, Tryz.ntmps20
    go_wp2_with fail
    go_ret
    exact ⟨rfl, Below.refl _ _⟩
  by_cases h2 : 8 < s.size
  · have he : s.toList.isEmpty = false := by rw [Lib.toList_data, first_byte s (by omega)]; rfl
    have hd : decide (s.size ≤ 8) = false := by simp; omega
    have q : ¬ (s.size : Int) < 9 := by omega
    rw [hd, Bool.and_false, Bool.false_and, Bool.false_and]
    clear h1 h2 hd
    go_enter Tryz.func20, Tryz.ntmps20
    go_wp2_with fail
    go_ret
    exact ⟨rfl, Below.refl _ _⟩
  have he : s.toList.isEmpty = false := by rw [Lib.toList_data, first_byte s (by omega)]; rfl
  have q : (s.size : Int) < 9 := by omega
  have e1 : decide (1 ≤ s.size) = true := by simp; omega
  have e2 : decide (s.size ≤ 8) = true := by simp; omega
  rw [e1, e2, Bool.true_and, Bool.true_and]
  have TR := trim_az s w (by omega)
  clear e1 e2 h1 h2
  by_cases h3 : s.data.toList.all letterB = true
  · have CO := fun T hT W H => contains_res T s hT W H h3
    rw [h3] at TR
    rw [h3, Bool.true_and]
    generalize reservedB s = rb at CO ⊢
    clear h3
    go_enter Tryz.func20, Tryz.ntmps20
    go_wp2_with (first
      | (go_at_call 30; go_must (go_fit TR; rintro e w1 ⟨x, rfl, hx, hb1⟩))
      | (go_at_call 31; go_must (go_fit (CO _ (by kernel_rfl) w1 (h.next hb1)); rintro e w2 ⟨rfl, rfl⟩)))
    go_ret
    exact ⟨rfl, hb1⟩
  · have h3' : s.data.toList.all letterB = false := Bool.eq_false_iff.2 h3
    rw [h3'] at TR
    rw [h3', Bool.false_and]
    clear h3 h3'
    go_enter Tryz.func20, Tryz.ntmps20
    go_wp2_with (first
      | (go_at_call 30; go_must (go_fit TR; rintro e w1 ⟨x, rfl, hx, hb1⟩)))
    go_ret
    exact ⟨rfl, hb1⟩

end Go.Proofs.YtkncamggdfmlnaaGreatDoor

namespace Go.Proofs.YtkncamggdfmlnaaGreatDoor
open Go.RowKit

/-- One column more. -/
def tabStep (l : List ColD) (k : Nat) (c : ColD) : Bool := nm c.name && (decide (c.ty = 1) || decide (c.ty = 2)) && decide (colAt l c.name = (k : Int)) && (decide (0 < k) || c.must)
def tabAcc (t : TabD) : Nat → Bool
  | 0 => nm t.name && decide (0 < t.cols.length) && decide (t.cols.length < 5)
  | k + 1 => tabAcc t k && match t.cols[k]? with
    | some c => tabStep t.cols k c
    | none => true
def isTabR (t : TabD) : Bool := tabAcc t t.cols.length
theorem tabAcc_le {t : TabD} : ∀ {k : Nat}, tabAcc t k = true → tabAcc t 0 = true
  | 0, h => h
  | k + 1, h => tabAcc_le (k := k) (by rw [tabAcc, Bool.and_eq_true] at h; exact h.1)
theorem isTabR_facts {t : TabD} (h : isTabR t = true) : nm t.name = true ∧ 0 < t.cols.length ∧ t.cols.length ≤ 4 := by
  have := tabAcc_le h
  simp only [tabAcc, Bool.and_eq_true, decide_eq_true_eq] at this
  exact ⟨this.1.1, this.1.2, by omega⟩

set_option maxRecDepth 100000 in
set_option maxHeartbeats 8000000 in
theorem isTable_any (t : TabD) (sv : Value) (C : Nat) (w : World) (hl : IsL kCol (fun k => k < C) w sv t.cols) (hC : C ≤ w.heap.size) (he : EnvM w) :
    Calls Tryz.prog 19 #[.agg #[.string t.name, sv]] w fun e w' => e = .returned (.bool (isTabR t)) ∧ Below w.heap.size w w' := by
  obtain ⟨ao, c, rfl⟩ := hl.shape
  have hlm := (isL_len hl).2
  unfold maxLen at hlm
  have hb1 := bel1 w (.cells #[.string t.name, .slice ao t.cols.length c] 28)
  have bT := block_alloc_at w (.cells #[.string t.name, .slice ao t.cols.length c] 28)
  have HCo := fun s W (h : Below w.heap.size w W) => colOf_any t.cols t.name (.slice ao t.cols.length c) s C W (hl.keep (keepsC (h.mono hC)))
  have HL : Hid (∀ (k : Nat) (x : ColD), t.cols[k]? = some x → ∃ b off, ao = some ⟨b, off, none⟩ ∧ b < w.heap.size ∧ w.cell? ⟨b, off + k * 3, none⟩ = some (.string x.name) ∧ w.cell? ⟨b, off + k * 3 + 1, none⟩ = some (.int .i64 x.ty) ∧ w.cell? ⟨b, off + k * 3 + 2, none⟩ = some (.bool x.must)) := fun k x hx => by
    obtain ⟨b, off, cs, hso, hbC, hbl, hR1, hcell⟩ := isL_get hl hx
    obtain rfl := hR1
    exact ⟨b, off, hso, hbl, hcell 0 _ rfl, hcell 1 _ rfl, hcell 2 _ rfl⟩
  have HN := fun s W (h : Below w.heap.size w W) => isName_any s W (he.next h)
  have EA : Hid (∀ k x, t.cols[k]? = some x → tabAcc t (k + 1) = (tabAcc t k && (nm x.name && (decide (x.ty = 1) || decide (x.ty = 2)) && decide (colAt t.cols x.name = (k : Int)) && (decide (0 < k) || x.must)))) := fun k x hx => by rw [tabAcc, hx]; rfl
  have E : Hid (isTabR t = tabAcc t t.cols.length) := rfl
  have E0 : Hid (tabAcc t 0 = (nm t.name && decide (0 < t.cols.length) && decide (t.cols.length < 5))) := rfl
  generalize isTabR t = q at E
  have HNt := HN t.name _ hb1
  generalize hW : w.alloc (.cells #[.string t.name, .slice ao t.cols.length c] 28) = W1 at hb1 bT HNt
  have HW : Hid _ := hW
  clear hW hl
  have c0 := cell_of_block bT (j := 0) rfl
  have c1 := cell_of_block bT (j := 1) rfl
  go_enter Tryz.func19, Tryz.ntmps19
  go_upto_region 1 with fail
  rw [HW.out]
  go_cut [3] from 6 (fun s3 wx => s3 = .bool (tabAcc t 0) ∧ Below W1.heap.size W1 wx)
  case first =>
    generalize nm t.name = b0 at HNt E0
    cases b0
    · go_wp2_with (go_at_call 20; go_fit HNt; rintro e w2 ⟨rfl, hb2⟩)
      go_meet
      case rel => exact ⟨by rw [E0.out]; rfl, hb2⟩
    · by_cases h0 : 0 < t.cols.length
      · by_cases h5 : t.cols.length < 5
        · have q0 : (0 : Int) < (t.cols.length : Int) := by omega
          have q1 : (t.cols.length : Int) < 5 := by omega
          go_wp2_with (go_at_call 20; go_fit HNt; rintro e w2 ⟨rfl, hb2⟩; have d1 := (hb2.cell (p := ⟨w.heap.size, 1, none⟩) (lt_of_block bT)).trans c1)
          go_meet
          case rel => exact ⟨by rw [E0.out]; simp [h0, h5], hb2⟩
        · have q0 : (0 : Int) < (t.cols.length : Int) := by omega
          have q1 : ¬ (t.cols.length : Int) < 5 := by omega
          go_wp2_with (go_at_call 20; go_fit HNt; rintro e w2 ⟨rfl, hb2⟩; have d1 := (hb2.cell (p := ⟨w.heap.size, 1, none⟩) (lt_of_block bT)).trans c1)
          go_meet
          case rel => exact ⟨by rw [E0.out, decide_eq_false h5]; simp; try omega, hb2⟩
      · have q0 : ¬ (0 : Int) < (t.cols.length : Int) := by omega
        go_wp2_with (go_at_call 20; go_fit HNt; rintro e w2 ⟨rfl, hb2⟩; have d1 := (hb2.cell (p := ⟨w.heap.size, 1, none⟩) (lt_of_block bT)).trans c1)
        go_meet
        case rel => exact ⟨by rw [E0.out, decide_eq_false h0]; rfl, hb2⟩
  case rest =>
    obtain ⟨rfl, hbc⟩ := hcut
    have e1 := (hbc.cell (p := ⟨w.heap.size, 1, none⟩) (lt_of_block bT)).trans c1
    clear HNt E0
    go_wp2
    go_loopw [3, 24] (fun okv i wr => ∃ k : Nat, k ≤ t.cols.length ∧ i = .int .i64 k ∧ okv = .bool (tabAcc t k) ∧ Below W1.heap.size W1 wr) (fun _ i _ => t.cols.length - (intOf i).toNat)
    case atStart => exact ⟨0, Nat.zero_le _, rfl, rfl, hbc⟩
    case round =>
      obtain ⟨k, hk, rfl, rfl, hbel⟩ := hrel
      by_cases hlt : k < t.cols.length
      · obtain ⟨x, hx⟩ : ∃ x, t.cols[k]? = some x := ⟨_, List.getElem?_eq_getElem hlt⟩
        obtain ⟨b, off, hso, hbl, g0, g1, g2⟩ := HL.out k x hx
        cases hso
        have hbw : Below w.heap.size w wr := hb1.trans (hbel.mono hb1.size)
        have hs1 := hb1.size
        have hsz := hbel.size
        have d0 := (hbw.cell (p := ⟨b, off + k * 3, none⟩) hbl).trans g0
        have d1 := (hbw.cell (p := ⟨b, off + k * 3 + 1, none⟩) hbl).trans g1
        have d2 := (hbw.cell (p := ⟨b, off + k * 3 + 2, none⟩) hbl).trans g2
        have hbx := bel1 wr (.cells #[.string x.name, .int .i64 x.ty, .bool x.must] 62)
        have bX := block_alloc_at wr (.cells #[.string x.name, .int .i64 x.ty, .bool x.must] 62)
        have hbwx : Below w.heap.size w (wr.alloc (.cells #[.string x.name, .int .i64 x.ty, .bool x.must] 62)) := hbw.alloc (by omega) _
        have EK := EA.out k x hx
        have v0 : (0 : Int) ≤ (k : Int) := by omega
        have v1 : (k : Int) < (t.cols.length : Int) := by omega
        have HNx := HN x.name _ hbwx
        have HCx := fun W (h : Below w.heap.size w W) => HCo x.name W h
        have bT' := (hbel.block _ (lt_of_block bT)).trans bT
        have bTx := (hbx.block _ (lt_of_block bT')).trans bT'
        clear hx g0 g1 g2
        have HEK : Hid _ := EK
        clear EK
        obtain ⟨r, hrr⟩ : ∃ r, tabAcc t (k + 1) = r := ⟨_, rfl⟩
        rw [hrr] at HEK
        have HR0 : Hid _ := hrr
        clear hrr
        generalize hok : tabAcc t k = ok at HEK
        have HOK : Hid _ := hok
        clear hok
        generalize nm x.name = b1 at HNx HEK
        generalize colAt t.cols x.name = ca at HCx HEK
        obtain ⟨xn, xt, xm⟩ := x
        simp only at *
        cases ok
        · have HR : Hid (r = false) := by show _ = _; rw [HEK.out]; rfl
          clear HEK
          go_wp2
          go_roundw
          case rel => exact ⟨k + 1, by omega, by go_num, by rw [HR0.out, HR.out], hbel.trans (hbx.mono hsz)⟩
          case measure => simp [intOf]; omega
        cases b1
        · have HR : Hid (r = false) := by show _ = _; rw [HEK.out]; rfl
          clear HEK
          go_wp2_with (first | (go_at_call 20; go_fit HNx; rintro e w2 ⟨rfl, hb2⟩; have hB2 : Below wr.heap.size wr w2 := bthen hbx hb2; have bX2 := (hb2.block _ (lt_of_block bX)).trans bX; have bT2 := (hb2.block _ (lt_of_block bTx)).trans bTx; have x0 := cell_of_block bX2 (j := 0) rfl; have x1 := cell_of_block bX2 (j := 1) rfl; have x2 := cell_of_block bX2 (j := 2) rfl; have x3 := cell_of_block bT2 (j := 0) rfl; have x4 := cell_of_block bT2 (j := 1) rfl))
          go_roundw
          case rel => exact ⟨k + 1, by omega, by go_num, by rw [HR0.out, HR.out], hbel.trans (hB2.mono hsz)⟩
          case measure => simp [intOf]; omega
        by_cases hty : xt = 1
        · by_cases hca : ca = (k : Int)
          rotate_left
          · have hq1 : (xt == 1) = true := by simp [hty]
            have hq3 : (ca == (k : Int)) = false := by simp [hca]
            have HR : Hid (r = false) := by show _ = _; rw [HEK.out]; rw [decide_eq_false hca]; simp
            clear HEK hty hca
            go_wp2_with (first | (go_at_call 20; go_fit HNx; rintro e w2 ⟨rfl, hb2⟩; have hB2 : Below wr.heap.size wr w2 := bthen hbx hb2; have bX2 := (hb2.block _ (lt_of_block bX)).trans bX; have bT2 := (hb2.block _ (lt_of_block bTx)).trans bTx; have x0 := cell_of_block bX2 (j := 0) rfl; have x1 := cell_of_block bX2 (j := 1) rfl; have x2 := cell_of_block bX2 (j := 2) rfl; have x3 := cell_of_block bT2 (j := 0) rfl; have x4 := cell_of_block bT2 (j := 1) rfl) | (go_at_call 11; go_fit (HCx _ (hbw.trans (hB2.mono (by omega)))); rintro e w3 ⟨rfl, hb3⟩; have hB3 : Below wr.heap.size wr w3 := bthen hB2 hb3; have bX3 := (hb3.block _ (lt_of_block bX2)).trans bX2; have y2 := cell_of_block bX3 (j := 2) rfl))
            go_roundw
            case rel => exact ⟨k + 1, by omega, by go_num, by rw [HR0.out, HR.out], hbel.trans (hB3.mono hsz)⟩
            case measure => simp [intOf]; omega
          by_cases hk0 : 0 < k
          · have hq1 : (xt == 1) = true := by simp [hty]
            have hq3 : (ca == (k : Int)) = true := by simp [hca]
            have hq4 : (0 : Int) < (k : Int) := by omega
            have HR : Hid (r = true) := by show _ = _; rw [HEK.out]; rw [decide_eq_true hty, decide_eq_true hca, decide_eq_true hk0]; rfl
            clear HEK hty hca
            go_wp2_with (first | (go_at_call 20; go_fit HNx; rintro e w2 ⟨rfl, hb2⟩; have hB2 : Below wr.heap.size wr w2 := bthen hbx hb2; have bX2 := (hb2.block _ (lt_of_block bX)).trans bX; have bT2 := (hb2.block _ (lt_of_block bTx)).trans bTx; have x0 := cell_of_block bX2 (j := 0) rfl; have x1 := cell_of_block bX2 (j := 1) rfl; have x2 := cell_of_block bX2 (j := 2) rfl; have x3 := cell_of_block bT2 (j := 0) rfl; have x4 := cell_of_block bT2 (j := 1) rfl) | (go_at_call 11; go_fit (HCx _ (hbw.trans (hB2.mono (by omega)))); rintro e w3 ⟨rfl, hb3⟩; have hB3 : Below wr.heap.size wr w3 := bthen hB2 hb3; have bX3 := (hb3.block _ (lt_of_block bX2)).trans bX2; have y2 := cell_of_block bX3 (j := 2) rfl))
            go_roundw
            case rel => exact ⟨k + 1, by omega, by go_num, by rw [HR0.out, HR.out], hbel.trans (hB3.mono hsz)⟩
            case measure => simp [intOf]; omega
          cases xm
          · have hq1 : (xt == 1) = true := by simp [hty]
            have hq3 : (ca == (k : Int)) = true := by simp [hca]
            have hq4 : ¬ (0 : Int) < (k : Int) := by omega
            have HR : Hid (r = false) := by show _ = _; rw [HEK.out]; rw [decide_eq_true hty, decide_eq_true hca, decide_eq_false hk0]; rfl
            clear HEK hty hca
            go_wp2_with (first | (go_at_call 20; go_fit HNx; rintro e w2 ⟨rfl, hb2⟩; have hB2 : Below wr.heap.size wr w2 := bthen hbx hb2; have bX2 := (hb2.block _ (lt_of_block bX)).trans bX; have bT2 := (hb2.block _ (lt_of_block bTx)).trans bTx; have x0 := cell_of_block bX2 (j := 0) rfl; have x1 := cell_of_block bX2 (j := 1) rfl; have x2 := cell_of_block bX2 (j := 2) rfl; have x3 := cell_of_block bT2 (j := 0) rfl; have x4 := cell_of_block bT2 (j := 1) rfl) | (go_at_call 11; go_fit (HCx _ (hbw.trans (hB2.mono (by omega)))); rintro e w3 ⟨rfl, hb3⟩; have hB3 : Below wr.heap.size wr w3 := bthen hB2 hb3; have bX3 := (hb3.block _ (lt_of_block bX2)).trans bX2; have y2 := cell_of_block bX3 (j := 2) rfl))
            go_roundw
            case rel => exact ⟨k + 1, by omega, by go_num, by rw [HR0.out, HR.out], hbel.trans (hB3.mono hsz)⟩
            case measure => simp [intOf]; omega
          · have hq1 : (xt == 1) = true := by simp [hty]
            have hq3 : (ca == (k : Int)) = true := by simp [hca]
            have hq4 : ¬ (0 : Int) < (k : Int) := by omega
            have HR : Hid (r = true) := by show _ = _; rw [HEK.out]; rw [decide_eq_true hty, decide_eq_true hca, decide_eq_false hk0]; rfl
            clear HEK hty hca
            go_wp2_with (first | (go_at_call 20; go_fit HNx; rintro e w2 ⟨rfl, hb2⟩; have hB2 : Below wr.heap.size wr w2 := bthen hbx hb2; have bX2 := (hb2.block _ (lt_of_block bX)).trans bX; have bT2 := (hb2.block _ (lt_of_block bTx)).trans bTx; have x0 := cell_of_block bX2 (j := 0) rfl; have x1 := cell_of_block bX2 (j := 1) rfl; have x2 := cell_of_block bX2 (j := 2) rfl; have x3 := cell_of_block bT2 (j := 0) rfl; have x4 := cell_of_block bT2 (j := 1) rfl) | (go_at_call 11; go_fit (HCx _ (hbw.trans (hB2.mono (by omega)))); rintro e w3 ⟨rfl, hb3⟩; have hB3 : Below wr.heap.size wr w3 := bthen hB2 hb3; have bX3 := (hb3.block _ (lt_of_block bX2)).trans bX2; have y2 := cell_of_block bX3 (j := 2) rfl))
            go_roundw
            case rel => exact ⟨k + 1, by omega, by go_num, by rw [HR0.out, HR.out], hbel.trans (hB3.mono hsz)⟩
            case measure => simp [intOf]; omega
        have hty1 := hty
        clear hty
        by_cases hty : xt = 2
        · by_cases hca : ca = (k : Int)
          rotate_left
          · have hq1 : (xt == 1) = false := by simp [hty1]
            have hq2 : (xt == 2) = true := by simp [hty]
            have hq3 : (ca == (k : Int)) = false := by simp [hca]
            have HR : Hid (r = false) := by show _ = _; rw [HEK.out]; rw [decide_eq_false hca]; simp
            clear HEK hty hca
            go_wp2_with (first | (go_at_call 20; go_fit HNx; rintro e w2 ⟨rfl, hb2⟩; have hB2 : Below wr.heap.size wr w2 := bthen hbx hb2; have bX2 := (hb2.block _ (lt_of_block bX)).trans bX; have bT2 := (hb2.block _ (lt_of_block bTx)).trans bTx; have x0 := cell_of_block bX2 (j := 0) rfl; have x1 := cell_of_block bX2 (j := 1) rfl; have x2 := cell_of_block bX2 (j := 2) rfl; have x3 := cell_of_block bT2 (j := 0) rfl; have x4 := cell_of_block bT2 (j := 1) rfl) | (go_at_call 11; go_fit (HCx _ (hbw.trans (hB2.mono (by omega)))); rintro e w3 ⟨rfl, hb3⟩; have hB3 : Below wr.heap.size wr w3 := bthen hB2 hb3; have bX3 := (hb3.block _ (lt_of_block bX2)).trans bX2; have y2 := cell_of_block bX3 (j := 2) rfl))
            go_roundw
            case rel => exact ⟨k + 1, by omega, by go_num, by rw [HR0.out, HR.out], hbel.trans (hB3.mono hsz)⟩
            case measure => simp [intOf]; omega
          by_cases hk0 : 0 < k
          · have hq1 : (xt == 1) = false := by simp [hty1]
            have hq2 : (xt == 2) = true := by simp [hty]
            have hq3 : (ca == (k : Int)) = true := by simp [hca]
            have hq4 : (0 : Int) < (k : Int) := by omega
            have HR : Hid (r = true) := by show _ = _; rw [HEK.out]; rw [decide_eq_false hty1, decide_eq_true hty, decide_eq_true hca, decide_eq_true hk0]; rfl
            clear HEK hty hca
            go_wp2_with (first | (go_at_call 20; go_fit HNx; rintro e w2 ⟨rfl, hb2⟩; have hB2 : Below wr.heap.size wr w2 := bthen hbx hb2; have bX2 := (hb2.block _ (lt_of_block bX)).trans bX; have bT2 := (hb2.block _ (lt_of_block bTx)).trans bTx; have x0 := cell_of_block bX2 (j := 0) rfl; have x1 := cell_of_block bX2 (j := 1) rfl; have x2 := cell_of_block bX2 (j := 2) rfl; have x3 := cell_of_block bT2 (j := 0) rfl; have x4 := cell_of_block bT2 (j := 1) rfl) | (go_at_call 11; go_fit (HCx _ (hbw.trans (hB2.mono (by omega)))); rintro e w3 ⟨rfl, hb3⟩; have hB3 : Below wr.heap.size wr w3 := bthen hB2 hb3; have bX3 := (hb3.block _ (lt_of_block bX2)).trans bX2; have y2 := cell_of_block bX3 (j := 2) rfl))
            go_roundw
            case rel => exact ⟨k + 1, by omega, by go_num, by rw [HR0.out, HR.out], hbel.trans (hB3.mono hsz)⟩
            case measure => simp [intOf]; omega
          cases xm
          · have hq1 : (xt == 1) = false := by simp [hty1]
            have hq2 : (xt == 2) = true := by simp [hty]
            have hq3 : (ca == (k : Int)) = true := by simp [hca]
            have hq4 : ¬ (0 : Int) < (k : Int) := by omega
            have HR : Hid (r = false) := by show _ = _; rw [HEK.out]; rw [decide_eq_false hty1, decide_eq_true hty, decide_eq_true hca, decide_eq_false hk0]; rfl
            clear HEK hty hca
            go_wp2_with (first | (go_at_call 20; go_fit HNx; rintro e w2 ⟨rfl, hb2⟩; have hB2 : Below wr.heap.size wr w2 := bthen hbx hb2; have bX2 := (hb2.block _ (lt_of_block bX)).trans bX; have bT2 := (hb2.block _ (lt_of_block bTx)).trans bTx; have x0 := cell_of_block bX2 (j := 0) rfl; have x1 := cell_of_block bX2 (j := 1) rfl; have x2 := cell_of_block bX2 (j := 2) rfl; have x3 := cell_of_block bT2 (j := 0) rfl; have x4 := cell_of_block bT2 (j := 1) rfl) | (go_at_call 11; go_fit (HCx _ (hbw.trans (hB2.mono (by omega)))); rintro e w3 ⟨rfl, hb3⟩; have hB3 : Below wr.heap.size wr w3 := bthen hB2 hb3; have bX3 := (hb3.block _ (lt_of_block bX2)).trans bX2; have y2 := cell_of_block bX3 (j := 2) rfl))
            go_roundw
            case rel => exact ⟨k + 1, by omega, by go_num, by rw [HR0.out, HR.out], hbel.trans (hB3.mono hsz)⟩
            case measure => simp [intOf]; omega
          · have hq1 : (xt == 1) = false := by simp [hty1]
            have hq2 : (xt == 2) = true := by simp [hty]
            have hq3 : (ca == (k : Int)) = true := by simp [hca]
            have hq4 : ¬ (0 : Int) < (k : Int) := by omega
            have HR : Hid (r = true) := by show _ = _; rw [HEK.out]; rw [decide_eq_false hty1, decide_eq_true hty, decide_eq_true hca, decide_eq_false hk0]; rfl
            clear HEK hty hca
            go_wp2_with (first | (go_at_call 20; go_fit HNx; rintro e w2 ⟨rfl, hb2⟩; have hB2 : Below wr.heap.size wr w2 := bthen hbx hb2; have bX2 := (hb2.block _ (lt_of_block bX)).trans bX; have bT2 := (hb2.block _ (lt_of_block bTx)).trans bTx; have x0 := cell_of_block bX2 (j := 0) rfl; have x1 := cell_of_block bX2 (j := 1) rfl; have x2 := cell_of_block bX2 (j := 2) rfl; have x3 := cell_of_block bT2 (j := 0) rfl; have x4 := cell_of_block bT2 (j := 1) rfl) | (go_at_call 11; go_fit (HCx _ (hbw.trans (hB2.mono (by omega)))); rintro e w3 ⟨rfl, hb3⟩; have hB3 : Below wr.heap.size wr w3 := bthen hB2 hb3; have bX3 := (hb3.block _ (lt_of_block bX2)).trans bX2; have y2 := cell_of_block bX3 (j := 2) rfl))
            go_roundw
            case rel => exact ⟨k + 1, by omega, by go_num, by rw [HR0.out, HR.out], hbel.trans (hB3.mono hsz)⟩
            case measure => simp [intOf]; omega
        have hq1 : (xt == 1) = false := by simp [hty1]
        have hq2 : (xt == 2) = false := by simp [hty]
        have HR : Hid (r = false) := by show _ = _; rw [HEK.out]; rw [decide_eq_false hty1, decide_eq_false hty]; simp
        clear HEK hty hty1
        go_wp2_with (first | (go_at_call 20; go_fit HNx; rintro e w2 ⟨rfl, hb2⟩; have hB2 : Below wr.heap.size wr w2 := bthen hbx hb2; have bX2 := (hb2.block _ (lt_of_block bX)).trans bX; have bT2 := (hb2.block _ (lt_of_block bTx)).trans bTx; have x0 := cell_of_block bX2 (j := 0) rfl; have x1 := cell_of_block bX2 (j := 1) rfl; have x2 := cell_of_block bX2 (j := 2) rfl; have x3 := cell_of_block bT2 (j := 0) rfl; have x4 := cell_of_block bT2 (j := 1) rfl))
        go_roundw
        case rel => exact ⟨k + 1, by omega, by go_num, by rw [HR0.out, HR.out], hbel.trans (hB2.mono hsz)⟩
        case measure => simp [intOf]; omega
      · have hkn : k = t.cols.length := by omega
        subst hkn
        have v1 : ¬ ((t.cols.length : Int) < (t.cols.length : Int)) := by omega
        go_wp2
        go_ret
        exact ⟨ret_bool (by rw [E.out]), hb1.trans (hbel.mono hb1.size)⟩

end Go.Proofs.YtkncamggdfmlnaaGreatDoor

namespace Go.Proofs.YtkncamggdfmlnaaGreatDoor
open Go.RowKit Go.Maps

theorem anyI_step (p : Nat → Bool) (k n : Nat) (h : k < n) : anyI p k (n - k) = (p k || anyI p (k + 1) (n - (k + 1))) := by
  rw [show n - k = (n - (k + 1)) + 1 from by omega, anyI]
/-- Is a name not ahead of the next? -/
def stands (l : List Wd) (i : Nat) : Bool := match l[i]?, l[i + 1]? with
  | some a, some b => !Op.bytesLess a.toList b.toList
  | _, _ => false
/-- Do names rise? -/
def riseB (l : List Wd) : Bool := !anyI (stands l) 0 (l.length - 1)

theorem rise_keep_tab {W W' : World} {b off k : Nat} {a0 a1 a2 a3 : Value} (h : W.cell? ⟨b, off + k * 2, none⟩ = some a0 ∧ W.cell? ⟨b, off + k * 2 + 1, none⟩ = some a1 ∧ W.cell? ⟨b, off + (k + 1) * 2, none⟩ = some a2 ∧ W.cell? ⟨b, off + (k + 1) * 2 + 1, none⟩ = some a3) (hb : Below W.heap.size W W') (hl : b < W.heap.size) : W'.cell? ⟨b, off + k * 2, none⟩ = some a0 ∧ W'.cell? ⟨b, off + k * 2 + 1, none⟩ = some a1 ∧ W'.cell? ⟨b, off + (k + 1) * 2, none⟩ = some a2 ∧ W'.cell? ⟨b, off + (k + 1) * 2 + 1, none⟩ = some a3 := by
  have kc : ∀ o, W'.cell? ⟨b, o, none⟩ = W.cell? ⟨b, o, none⟩ := fun o => hb.cell (p := ⟨b, o, none⟩) hl
  obtain ⟨h0, h1, h2, h3⟩ := h
  exact ⟨(kc _).trans h0, (kc _).trans h1, (kc _).trans h2, (kc _).trans h3⟩

theorem rise_keep_idx {W W' : World} {b off k : Nat} {a0 a1 a2 a3 a4 a5 : Value} (h : W.cell? ⟨b, off + k * 3, none⟩ = some a0 ∧ W.cell? ⟨b, off + k * 3 + 1, none⟩ = some a1 ∧ W.cell? ⟨b, off + k * 3 + 2, none⟩ = some a2 ∧ W.cell? ⟨b, off + (k + 1) * 3, none⟩ = some a3 ∧ W.cell? ⟨b, off + (k + 1) * 3 + 1, none⟩ = some a4 ∧ W.cell? ⟨b, off + (k + 1) * 3 + 2, none⟩ = some a5) (hb : Below W.heap.size W W') (hl : b < W.heap.size) : W'.cell? ⟨b, off + k * 3, none⟩ = some a0 ∧ W'.cell? ⟨b, off + k * 3 + 1, none⟩ = some a1 ∧ W'.cell? ⟨b, off + k * 3 + 2, none⟩ = some a2 ∧ W'.cell? ⟨b, off + (k + 1) * 3, none⟩ = some a3 ∧ W'.cell? ⟨b, off + (k + 1) * 3 + 1, none⟩ = some a4 ∧ W'.cell? ⟨b, off + (k + 1) * 3 + 2, none⟩ = some a5 := by
  have kc : ∀ o, W'.cell? ⟨b, o, none⟩ = W.cell? ⟨b, o, none⟩ := fun o => hb.cell (p := ⟨b, o, none⟩) hl
  obtain ⟨h0, h1, h2, h3, h4, h5⟩ := h
  exact ⟨(kc _).trans h0, (kc _).trans h1, (kc _).trans h2, (kc _).trans h3, (kc _).trans h4, (kc _).trans h5⟩

end Go.Proofs.YtkncamggdfmlnaaGreatDoor

namespace Go.Proofs.YtkncamggdfmlnaaGreatDoor
open Go.RowKit

end Go.Proofs.YtkncamggdfmlnaaGreatDoor

namespace Go.Proofs.YtkncamggdfmlnaaGreatDoor
open Go.RowKit Go.Maps

def firstMust : List ColD → Bool
  | x :: _ => x.must
  | [] => false
/-- P4.1: a table. -/
def tabB (t : TabD) : Bool := nm t.name && decide (1 ≤ t.cols.length) && decide (t.cols.length ≤ 4) && firstMust t.cols && colsB t.cols
def fitTab (t : TabD) : Prop := t.name.size ≤ maxLen ∧ fitCols t.cols

/-- P4.3: tables. -/
def tabsB (T : List TabD) : Bool := !anyI (atI T fun t => !tabB t) 0 T.length && riseB (T.map TabD.name)
def fitTabs (T : List TabD) : Prop := ∀ t ∈ T, fitTab t

end Go.Proofs.YtkncamggdfmlnaaGreatDoor

namespace Go.Proofs.YtkncamggdfmlnaaGreatDoor
open Go.RowKit Go.Maps

/-- Is there such a table, with such a column? -/
def hasB (T : List TabD) (tb cl : Wd) : Bool := match tabOf T tb with
  | some t => decide (0 ≤ colAt t.cols cl)
  | none => false

def idxBad (T : List TabD) (x : IdxD) : Bool := !nm x.name || !hasB T x.table x.col

/-- P4.3: indexes. -/
def idxsB (T : List TabD) (I : List IdxD) : Bool := !anyI (atI I (idxBad T)) 0 I.length && riseB (I.map IdxD.name)
def fitIdxs (I : List IdxD) : Prop := ∀ x ∈ I, x.name.size ≤ maxLen ∧ x.table.size ≤ maxLen ∧ x.col.size ≤ maxLen

/-- A catalog: api.Catalog; P4.3. -/
structure CatD where
  tables : List TabD
  indexes : List IdxD
def catB (c : CatD) : Bool := decide (c.tables.length ≤ 3) && decide (c.indexes.length ≤ 4) && tabsB c.tables && idxsB c.tables c.indexes
/-- A catalog in memory. -/
def IsCat (F : Nat → Prop) (w : World) (c : CatD) (v : Value) : Prop := ∃ tv iv, v = .agg #[tv, iv] ∧ IsL kTab F w tv c.tables ∧ IsL kIdx F w iv c.indexes
def fitCat (c : CatD) : Prop := fitTabs c.tables ∧ fitIdxs c.indexes
theorem IsCat.keep {F : Nat → Prop} {w w' : World} {c : CatD} {v : Value} (h : IsCat F w c v) (hk : Keeps F w w') : IsCat F w' c v := by
  obtain ⟨tv, iv, h1, h2, h3⟩ := h
  exact ⟨tv, iv, h1, h2.keep hk, h3.keep hk⟩

end Go.Proofs.YtkncamggdfmlnaaGreatDoor


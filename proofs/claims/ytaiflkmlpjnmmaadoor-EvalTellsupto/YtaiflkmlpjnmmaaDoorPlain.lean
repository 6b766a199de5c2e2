/-
  Plain data: a value of package api as a Lean structure, when it is good, its key's bytes. Nothing of the program.
-/
import Derived.WalkKit
import Derived.Lib.Bytealg
import Derived.Lib.IndexLaws
namespace Go.Proofs.YtaiflkmlpjnmmaaDoor
open Go.RowKit

/-- A value of the document: its kind, its number, its text. -/
structure V where
  k : Int
  n : Int
  s : ByteArray

/-- A value as the program has it. -/
def V.val (v : V) : Value := .agg #[.int .i64 v.k, .int .i64 v.n, .string v.s]
/-- Its three cells. -/
def V.cells (v : V) : List Value := [.int .i64 v.k, .int .i64 v.n, .string v.s]

/-- A byte that may stand in a text. -/
def goodb (c : Int) : Bool := decide (32 ≤ c) && decide (c ≤ 126) && (c != 39)
def gtext (l : List UInt8) : Bool := l.all fun c => goodb (c.toNat : Int)
/-- P1.1 -/
def good (v : V) : Bool :=
  if v.k = 0 then decide (v.n = 0) && decide (v.s.size = 0)
  else if v.k = 1 then decide (-1000000 ≤ v.n) && decide (v.n ≤ 1000000) && decide (v.s.size = 0)
  else if v.k = 2 then decide (v.n = 0) && decide (v.s.size ≤ 8) && gtext v.s.data.toList
  else false

theorem ret_int {k : IntKind} {a b : Int} (h : a = b) : Ending.returned (.int k a) = .returned (.int k b) := by rw [h]
theorem ret_bool {a b : Bool} (h : a = b) : Ending.returned (.bool a) = .returned (.bool b) := by rw [h]

theorem take_snoc (s : ByteArray) (k : Nat) (h : k < s.size) : s.data.toList.take (k + 1) = s.data.toList.take k ++ [s[k]] := by
  rw [List.take_succ_eq_append_getElem (by simpa using h)]; rfl
theorem take_all (s : ByteArray) (k : Nat) (h : s.size ≤ k) : s.data.toList.take k = s.data.toList :=
  List.take_of_length_le (by simpa using h)
theorem gtext_snoc (l : List UInt8) (c : UInt8) : gtext (l ++ [c]) = (gtext l && goodb (c.toNat : Int)) := by
  simp [gtext]
theorem gtext_bad (s : ByteArray) (k : Nat) (h : k < s.size) (hb : goodb (s[k].toNat : Int) = false) : gtext s.data.toList = false := by
  unfold gtext
  rw [List.all_eq_false]
  refine ⟨s[k], ?_, by simp [hb]⟩
  have : s[k] = s.data.toList[k]'(by simpa using h) := rfl
  rw [this]; exact List.getElem_mem _

/-- Four bytes of a number, the highest first. -/
def be4 (m : Nat) : List UInt8 := [UInt8.ofNat (m / 16777216), UInt8.ofNat (m / 65536), UInt8.ofNat (m / 256), UInt8.ofNat m]
/-- P1.4, of one value. -/
def keyOf (v : V) : List UInt8 :=
  if v.k = 0 then [1] else if v.k = 1 then 2 :: be4 (v.n + 1073741824).toNat else 3 :: (v.s.data.toList ++ [0])
/-- Bytes as cells. -/
def bytesV (l : List UInt8) : List Value := l.map fun b => Value.int .u8 (b.toNat : Int)
theorem bytesV_append (a b : List UInt8) : bytesV (a ++ b) = bytesV a ++ bytesV b := by simp [bytesV]
theorem bytesV_length (a : List UInt8) : (bytesV a).length = a.length := by simp [bytesV]

theorem be4V (m : Int) (h0 : 0 ≤ m) (h1 : m < 4294967296) :
    bytesV (be4 m.toNat) = [.int .u8 (m / 16777216), .int .u8 (m / 65536 % 256), .int .u8 (m / 256 % 256), .int .u8 (m % 256)] := by
  simp only [bytesV, be4, List.map_cons, List.map_nil, UInt8.toNat_ofNat', List.cons.injEq, Value.int.injEq, true_and, and_true]
  omega
theorem be4_length (m : Nat) : (be4 m).length = 4 := rfl

theorem keyOf_nothing {v : V} (h : v.k = 0) : keyOf v = [1] := by simp [keyOf, h]
theorem keyOf_number {v : V} (h : v.k = 1) : keyOf v = 2 :: be4 (v.n + 1073741824).toNat := by simp [keyOf, h]
theorem keyOf_text {v : V} (h : v.k = 2) : keyOf v = 3 :: (v.s.data.toList ++ [0]) := by simp [keyOf, h]
theorem size_toList (s : ByteArray) : s.data.toList.length = s.size := by simp

/-- Bytes as a text. -/
def str (l : List UInt8) : ByteArray := ⟨l.toArray⟩
theorem str_data (l : List UInt8) : (str l).data.toList = l := by simp [str]
theorem str_size (l : List UInt8) : (str l).size = l.length := by simp [str, ByteArray.size]
theorem str_toList (s : ByteArray) : str s.data.toList = s := by cases s; simp [str]
/-- P1.4: the key of values. -/
def keys (L : List V) : List UInt8 := L.flatMap keyOf
theorem keys_snoc (L : List V) (v : V) : keys (L ++ [v]) = keys L ++ keyOf v := by simp [keys]
theorem keyOf_le (v : V) (h : good v = true) : (keyOf v).length ≤ 10 := by
  by_cases h0 : v.k = 0
  · rw [keyOf_nothing h0]; simp
  by_cases h1 : v.k = 1
  · rw [keyOf_number h1]; simp [be4]
  by_cases h2 : v.k = 2
  · rw [keyOf_text h2, List.length_cons, List.length_append, size_toList]
    simp [good, h2] at h
    simp; omega
  · simp [good, h0, h1, h2] at h
theorem keys_le (L : List V) (h : ∀ v ∈ L, good v = true) : (keys L).length ≤ 10 * L.length := by
  induction L with
  | nil => simp [keys]
  | cons v L ih =>
    have a := keyOf_le v (h v (by simp))
    have b := ih fun x hx => h x (by simp [hx])
    simp [keys] at b ⊢
    omega
/-- Values in memory, one behind the other. -/
def HoldsV (w : World) (b off : Nat) (L : List V) : Prop :=
  ∀ i v, L[i]? = some v → w.cell? ⟨b, off + i * 3, none⟩ = some (.int .i64 v.k) ∧ w.cell? ⟨b, off + i * 3 + 1, none⟩ = some (.int .i64 v.n) ∧ w.cell? ⟨b, off + i * 3 + 2, none⟩ = some (.string v.s)
theorem HoldsV.below {w w' : World} {b off B : Nat} {L : List V} (h : HoldsV w b off L) (hb : Below B w w') (hlt : b < B) : HoldsV w' b off L := by
  intro i v hi
  obtain ⟨h1, h2, h3⟩ := h i v hi
  exact ⟨(hb.cell hlt).trans h1, (hb.cell hlt).trans h2, (hb.cell hlt).trans h3⟩

/-- The value nothing. -/
def zero : V := ⟨0, 0, ⟨#[]⟩⟩
/-- Four bytes behind the first, as a number. -/
def n4 (l : List UInt8) : Int := ((l.getD 1 0).toNat : Int) * 16777216 + ((l.getD 2 0).toNat : Int) * 65536 + ((l.getD 3 0).toNat : Int) * 256 + ((l.getD 4 0).toNat : Int)
/-- The value with which bytes begin, and how many it takes. -/
def fv (l : List UInt8) : V × Nat :=
  if l.getD 0 0 = 1 then (zero, 1)
  else if l.getD 0 0 = 2 then (if l.length < 5 then (zero, 0) else (⟨1, n4 l - 1073741824, ⟨#[]⟩⟩, 5))
  else if l.getD 0 0 = 3 then (if Lib.indexByte l 0 < 0 then (zero, 0) else (⟨2, 0, str ((l.drop 1).take ((Lib.indexByte l 0).toNat - 1))⟩, (Lib.indexByte l 0).toNat + 1))
  else (zero, 0)
theorem getD_byte (s : ByteArray) (i : Nat) (h : i < s.size) : s.data.toList.getD i 0 = s[i] := by
  have h' : i < s.data.toList.length := by simpa using h
  rw [List.getD_eq_getElem?_getD, List.getElem?_eq_getElem h']
  rfl

/-- P1.5: the values that bytes are the key of, if there are any. -/
def dec : Nat → List UInt8 → Option (List V)
  | 0, l => if l = [] then some [] else none
  | f + 1, l => if l = [] then some [] else if (fv l).2 = 0 ∨ good (fv l).1 = false then none else (dec f (l.drop (fv l).2)).map ((fv l).1 :: ·)
def vals (l : List UInt8) : Option (List V) := dec l.length l
theorem dec_nil (f : Nat) : dec f [] = some [] := by cases f <;> simp [dec]
theorem dec_fuel : ∀ (f : Nat) (l : List UInt8), l.length ≤ f → dec f l = dec l.length l := by
  intro f
  induction f using Nat.strongRecOn with
  | ind f ih =>
    intro l hl
    match l, f with
    | [], f => rw [dec_nil, dec_nil]
    | c :: l, 0 => simp at hl
    | c :: l, f + 1 =>
      simp only [List.length_cons] at hl ⊢
      simp only [dec]
      by_cases h : (fv (c :: l)).2 = 0 ∨ good (fv (c :: l)).1 = false
      · simp [h]
      · simp only [h, if_false]
        have hz : 0 < (fv (c :: l)).2 := by omega
        have hd : ((c :: l).drop (fv (c :: l)).2).length ≤ l.length := by rw [List.length_drop, List.length_cons]; omega
        rw [ih f (by omega) _ (by omega)]
        by_cases hf : l.length = f
        · rw [hf, ih f (by omega) _ (by omega)]
        · rw [ih l.length (by omega) _ hd]
theorem vals_nil : vals [] = some [] := rfl
theorem vals_bad {l : List UInt8} (hl : l ≠ []) (h : (fv l).2 = 0 ∨ good (fv l).1 = false) : vals l = none := by
  unfold vals
  match l, hl with
  | c :: l, _ => simp only [List.length_cons, dec]; rw [if_neg (by simp), if_pos h]
theorem vals_step {l : List UInt8} (hl : l ≠ []) (h : (fv l).2 ≠ 0) (hg : good (fv l).1 = true) : vals l = (vals (l.drop (fv l).2)).map ((fv l).1 :: ·) := by
  unfold vals
  match l, hl with
  | c :: l, _ =>
    simp only [List.length_cons, dec]
    rw [if_neg (by simp), if_neg (by simp [h, hg]), dec_fuel l.length _ (by rw [List.length_drop, List.length_cons]; omega)]
theorem fv_le (l : List UInt8) (hl : l ≠ []) : (fv l).2 ≤ l.length := by
  have h1 : 1 ≤ l.length := by cases l <;> simp_all
  unfold fv
  split
  · exact h1
  · split
    · split
      · simp
      · simp; omega
    · split
      · split
        · simp
        · rename_i hi
          obtain ⟨i, hi'⟩ : ∃ i : Nat, Lib.indexByte l 0 = i := ⟨(Lib.indexByte l 0).toNat, by omega⟩
          have := (List.getElem?_eq_some_iff.1 (Lib.indexByte_some hi').1).1
          rw [hi']
          simp; omega
      · simp

theorem extract_end (t : ByteArray) (z : Nat) : (t.extract z t.size).data.toList = t.data.toList.drop z := by
  rw [Lib.extract_data, List.take_of_length_le]
  rw [List.length_drop, size_toList]
  exact Nat.le_refl _
theorem fv_text_le (l : List UInt8) : (fv l).1.s.size ≤ l.length := by
  unfold fv
  split
  · exact Nat.zero_le _
  · split
    · split <;> exact Nat.zero_le _
    · split
      · split
        · exact Nat.zero_le _
        · simp only [str_size]
          have h1 := List.length_take_le ((Lib.indexByte l 0).toNat - 1) (l.drop 1)
          have h2 : ((l.drop 1).take ((Lib.indexByte l 0).toNat - 1)).length ≤ (l.drop 1).length := by simp; omega
          simp only [List.length_drop] at h2
          omega
      · exact Nat.zero_le _

theorem str_append (a b : List UInt8) : str a ++ str b = str (a ++ b) := by
  apply ByteArray.ext
  rw [ByteArray.data_append]
  simp [str]

end Go.Proofs.YtaiflkmlpjnmmaaDoor

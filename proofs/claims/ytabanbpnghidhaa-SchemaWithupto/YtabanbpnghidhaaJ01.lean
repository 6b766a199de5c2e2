/-
  8 texts of this proof in one, in build order: Plain, XPlain, Mem, Row, XMem, StmPlain, Elems, YIndex.
-/
import Derived.WalkKit
import Derived.Lib.Bytealg
import Derived.Lib.IndexLaws
import Derived.WalkSpells
import Derived.Laws.AppendOwn
import Derived.Test.YtabanbpnghidhaaRows
import Derived.Maps.AppendAt
import Derived.OwnWalk
import Derived.Laws.Rows
import Derived.Laws.Tables
import Derived.WalkLawsBesides
namespace Go.Proofs.Ytabanbpnghidhaa
open Go.RowKit

/-- A value of the document: its kind, its number, its text. -/
structure V where
  k : Int
  n : Int
  s : ByteArray

/-- A value as the program has it. -/
def V.val (v : V) : Value := .agg #[.int .i64 v.k, .int .i64 v.n, .string v.s]
/-- Its three cells. -/
def V.cells (v : V) : List Value := [.int .i64 v.k, .int .i64 v.n, .string v.s]

/-- A byte that may stand in a text. -/
def goodb (c : Int) : Bool := decide (32 ≤ c) && decide (c ≤ 126) && (c != 39)
def gtext (l : List UInt8) : Bool := l.all fun c => goodb (c.toNat : Int)
/-- P1.1 -/
def good (v : V) : Bool :=
  if v.k = 0 then decide (v.n = 0) && decide (v.s.size = 0)
  else if v.k = 1 then decide (-1000000 ≤ v.n) && decide (v.n ≤ 1000000) && decide (v.s.size = 0)
  else if v.k = 2 then decide (v.n = 0) && decide (v.s.size ≤ 8) && gtext v.s.data.toList
  else false

theorem ret_int {k : IntKind} {a b : Int} (h : a = b) : Ending.returned (.int k a) = .returned (.int k b) := by rw [h]
theorem ret_bool {a b : Bool} (h : a = b) : Ending.returned (.bool a) = .returned (.bool b) := by rw [h]

theorem take_snoc (s : ByteArray) (k : Nat) (h : k < s.size) : s.data.toList.take (k + 1) = s.data.toList.take k ++ [s[k]] := by
  rw [List.take_succ_eq_append_getElem (by simpa using h)]; rfl
theorem take_all (s : ByteArray) (k : Nat) (h : s.size ≤ k) : s.data.toList.take k = s.data.toList :=
  List.take_of_length_le (by simpa using h)
theorem gtext_snoc (l : List UInt8) (c : UInt8) : gtext (l ++ [c]) = (gtext l && goodb (c.toNat : Int)) := by
  simp [gtext]
theorem gtext_bad (s : ByteArray) (k : Nat) (h : k < s.size) (hb : goodb (s[k].toNat : Int) = false) : gtext s.data.toList = false := by
  unfold gtext
  rw [List.all_eq_false]
  refine ⟨s[k], ?_, by simp [hb]⟩
  have : s[k] = s.data.toList[k]'(by simpa using h) := rfl
  rw [this]; exact List.getElem_mem _

/-- Four bytes of a number, the highest first. -/
def be4 (m : Nat) : List UInt8 := [UInt8.ofNat (m / 16777216), UInt8.ofNat (m / 65536), UInt8.ofNat (m / 256), UInt8.ofNat m]
/-- P1.4, of one value. -/
def keyOf (v : V) : List UInt8 :=
  if v.k = 0 then [1] else if v.k = 1 then 2 :: be4 (v.n + 1073741824).toNat else 3 :: (v.s.data.toList ++ [0])
/-- Bytes as cells. -/
def bytesV (l : List UInt8) : List Value := l.map fun b => Value.int .u8 (b.toNat : Int)
theorem bytesV_append (a b : List UInt8) : bytesV (a ++ b) = bytesV a ++ bytesV b := by simp [bytesV]
theorem bytesV_length (a : List UInt8) : (bytesV a).length = a.length := by simp [bytesV]

theorem be4V (m : Int) (h0 : 0 ≤ m) (h1 : m < 4294967296) :
    bytesV (be4 m.toNat) = [.int .u8 (m / 16777216), .int .u8 (m / 65536 % 256), .int .u8 (m / 256 % 256), .int .u8 (m % 256)] := by
  simp only [bytesV, be4, List.map_cons, List.map_nil, UInt8.toNat_ofNat', List.cons.injEq, Value.int.injEq, true_and, and_true]
  omega
theorem be4_length (m : Nat) : (be4 m).length = 4 := rfl

theorem keyOf_nothing {v : V} (h : v.k = 0) : keyOf v = [1] := by simp [keyOf, h]
theorem keyOf_number {v : V} (h : v.k = 1) : keyOf v = 2 :: be4 (v.n + 1073741824).toNat := by simp [keyOf, h]
theorem keyOf_text {v : V} (h : v.k = 2) : keyOf v = 3 :: (v.s.data.toList ++ [0]) := by simp [keyOf, h]
theorem size_toList (s : ByteArray) : s.data.toList.length = s.size := by simp

/-- Bytes as a text. -/
def str (l : List UInt8) : ByteArray := ⟨l.toArray⟩
theorem str_data (l : List UInt8) : (str l).data.toList = l := by simp [str]
theorem str_size (l : List UInt8) : (str l).size = l.length := by simp [str, ByteArray.size]
theorem str_toList (s : ByteArray) : str s.data.toList = s := by cases s; simp [str]
/-- P1.4: the key of values. -/
def keys (L : List V) : List UInt8 := L.flatMap keyOf
theorem keys_snoc (L : List V) (v : V) : keys (L ++ [v]) = keys L ++ keyOf v := by simp [keys]
theorem keyOf_le (v : V) (h : good v = true) : (keyOf v).length ≤ 10 := by
  by_cases h0 : v.k = 0
  · rw [keyOf_nothing h0]; simp
  by_cases h1 : v.k = 1
  · rw [keyOf_number h1]; simp [be4]
  by_cases h2 : v.k = 2
  · rw [keyOf_text h2, List.length_cons, List.length_append, size_toList]
    simp [good, h2] at h
    simp; omega
  · simp [good, h0, h1, h2] at h
theorem keys_le (L : List V) (h : ∀ v ∈ L, good v = true) : (keys L).length ≤ 10 * L.length := by
  induction L with
  | nil => simp [keys]
  | cons v L ih =>
    have a := keyOf_le v (h v (by simp))
    have b := ih fun x hx => h x (by simp [hx])
    simp [keys] at b ⊢
    omega
/-- Values in memory, one behind the other. -/
def HoldsV (w : World) (b off : Nat) (L : List V) : Prop :=
  ∀ i v, L[i]? = some v → w.cell? ⟨b, off + i * 3, none⟩ = some (.int .i64 v.k) ∧ w.cell? ⟨b, off + i * 3 + 1, none⟩ = some (.int .i64 v.n) ∧ w.cell? ⟨b, off + i * 3 + 2, none⟩ = some (.string v.s)
theorem HoldsV.below {w w' : World} {b off B : Nat} {L : List V} (h : HoldsV w b off L) (hb : Below B w w') (hlt : b < B) : HoldsV w' b off L := by
  intro i v hi
  obtain ⟨h1, h2, h3⟩ := h i v hi
  exact ⟨(hb.cell hlt).trans h1, (hb.cell hlt).trans h2, (hb.cell hlt).trans h3⟩

/-- The value nothing. -/
def zero : V := ⟨0, 0, ⟨#[]⟩⟩
/-- Four bytes behind the first, as a number. -/
def n4 (l : List UInt8) : Int := ((l.getD 1 0).toNat : Int) * 16777216 + ((l.getD 2 0).toNat : Int) * 65536 + ((l.getD 3 0).toNat : Int) * 256 + ((l.getD 4 0).toNat : Int)
/-- The value with which bytes begin, and how many it takes. -/
def fv (l : List UInt8) : V × Nat :=
  if l.getD 0 0 = 1 then (zero, 1)
  else if l.getD 0 0 = 2 then (if l.length < 5 then (zero, 0) else (⟨1, n4 l - 1073741824, ⟨#[]⟩⟩, 5))
  else if l.getD 0 0 = 3 then (if Lib.indexByte l 0 < 0 then (zero, 0) else (⟨2, 0, str ((l.drop 1).take ((Lib.indexByte l 0).toNat - 1))⟩, (Lib.indexByte l 0).toNat + 1))
  else (zero, 0)
theorem getD_byte (s : ByteArray) (i : Nat) (h : i < s.size) : s.data.toList.getD i 0 = s[i] := by
  have h' : i < s.data.toList.length := by simpa using h
  rw [List.getD_eq_getElem?_getD, List.getElem?_eq_getElem h']
  rfl

/-- P1.5: the values that bytes are the key of, if there are any. -/
def dec : Nat → List UInt8 → Option (List V)
  | 0, l => if l = [] then some [] else none
  | f + 1, l => if l = [] then some [] else if (fv l).2 = 0 ∨ good (fv l).1 = false then none else (dec f (l.drop (fv l).2)).map ((fv l).1 :: ·)
def vals (l : List UInt8) : Option (List V) := dec l.length l
theorem dec_nil (f : Nat) : dec f [] = some [] := by cases f <;> simp [dec]
theorem dec_fuel : ∀ (f : Nat) (l : List UInt8), l.length ≤ f → dec f l = dec l.length l := by
  intro f
  induction f using Nat.strongRecOn with
  | ind f ih =>
    intro l hl
    match l, f with
    | [], f => rw [dec_nil, dec_nil]
    | c :: l, 0 => simp at hl
    | c :: l, f + 1 =>
      simp only [List.length_cons] at hl ⊢
      simp only [dec]
      by_cases h : (fv (c :: l)).2 = 0 ∨ good (fv (c :: l)).1 = false
      · simp [h]
      · simp only [h, if_false]
        have hz : 0 < (fv (c :: l)).2 := by omega
        have hd : ((c :: l).drop (fv (c :: l)).2).length ≤ l.length := by rw [List.length_drop, List.length_cons]; omega
        rw [ih f (by omega) _ (by omega)]
        by_cases hf : l.length = f
        · rw [hf, ih f (by omega) _ (by omega)]
        · rw [ih l.length (by omega) _ hd]
theorem vals_nil : vals [] = some [] := rfl
theorem vals_bad {l : List UInt8} (hl : l ≠ []) (h : (fv l).2 = 0 ∨ good (fv l).1 = false) : vals l = none := by
  unfold vals
  match l, hl with
  | c :: l, _ => simp only [List.length_cons, dec]; rw [if_neg (by simp), if_pos h]
theorem vals_step {l : List UInt8} (hl : l ≠ []) (h : (fv l).2 ≠ 0) (hg : good (fv l).1 = true) : vals l = (vals (l.drop (fv l).2)).map ((fv l).1 :: ·) := by
  unfold vals
  match l, hl with
  | c :: l, _ =>
    simp only [List.length_cons, dec]
    rw [if_neg (by simp), if_neg (by simp [h, hg]), dec_fuel l.length _ (by rw [List.length_drop, List.length_cons]; omega)]
theorem fv_le (l : List UInt8) (hl : l ≠ []) : (fv l).2 ≤ l.length := by
  have h1 : 1 ≤ l.length := by cases l <;> simp_all
  unfold fv
  split
  · exact h1
  · split
    · split
      · simp
      · simp; omega
    · split
      · split
        · simp
        · rename_i hi
          obtain ⟨i, hi'⟩ : ∃ i : Nat, Lib.indexByte l 0 = i := ⟨(Lib.indexByte l 0).toNat, by omega⟩
          have := (List.getElem?_eq_some_iff.1 (Lib.indexByte_some hi').1).1
          rw [hi']
          simp; omega
      · simp

theorem extract_end (t : ByteArray) (z : Nat) : (t.extract z t.size).data.toList = t.data.toList.drop z := by
  rw [Lib.extract_data, List.take_of_length_le]
  rw [List.length_drop, size_toList]
  exact Nat.le_refl _
theorem fv_text_le (l : List UInt8) : (fv l).1.s.size ≤ l.length := by
  unfold fv
  split
  · exact Nat.zero_le _
  · split
    · split <;> exact Nat.zero_le _
    · split
      · split
        · exact Nat.zero_le _
        · simp only [str_size]
          have h1 := List.length_take_le ((Lib.indexByte l 0).toNat - 1) (l.drop 1)
          have h2 : ((l.drop 1).take ((Lib.indexByte l 0).toNat - 1)).length ≤ (l.drop 1).length := by simp; omega
          simp only [List.length_drop] at h2
          omega
      · exact Nat.zero_le _

theorem str_append (a b : List UInt8) : str a ++ str b = str (a ++ b) := by
  apply ByteArray.ext
  rw [ByteArray.data_append]
  simp [str]

end Go.Proofs.Ytabanbpnghidhaa

namespace Go.Proofs.Ytabanbpnghidhaa

abbrev Wd := ByteArray

/-- An expression: api.Expr. -/
inductive E where
  | mk (op : Int) (v : V) (s name : Wd) (n : Int) (l : List E) : E

abbrev noW : Wd := ⟨#[]⟩
def E.nil : E := .mk 0 zero noW noW 0 []
def litE (v : V) : E := .mk 1 v noW noW 0 []
def refE (s name : Wd) : E := .mk 2 zero s name 0 []
def nodeE (op : Int) (l : List E) : E := .mk op zero noW noW 0 l

end Go.Proofs.Ytabanbpnghidhaa

namespace Go.Proofs.Ytabanbpnghidhaa
open Go.RowKit

theorem cell_of_block {w : World} {b : Nat} {arr : Array Value} {t : TypeId} {fr : Nat × Nat} (h : w.heap[b]? = some (.cells arr t fr)) {j : Nat} {u : Value} (hj : arr[j]? = some u) : w.cell? ⟨b, j, none⟩ = some u := by
  simp [World.cell?, h, hj]

theorem own_ne {w : World} {base : Nat} {e : TypeId} {size : Nat} {v : Value} {n : Nat} {xs : List Value} (hown : w.ownsRow base e size v n xs) {b : Nat} {arr : Array Value} {t : TypeId} {fr : Nat × Nat}
    (hb : w.heap[b]? = some (.cells arr t fr)) (hne : t ≠ e) : some b ≠ v.ownBlock := by
  intro hh
  rcases hown.2 with ⟨h2, _⟩ | ⟨g, cap, cur, hv, _, hg, _⟩
  · rw [h2] at hh; simp [Value.ownBlock] at hh
  · rw [hv] at hh
    simp [Value.ownBlock] at hh
    subst hh
    rw [hg] at hb
    simp at hb
    exact hne hb.2.1.symm

theorem block_alloc_at (w : World) (o : Obj) : (w.alloc o).heap[w.heap.size]? = some o := by
  show (w.heap.push o)[w.heap.size]? = _
  simp

theorem block_alloc_of {w : World} {b : Nat} {x : Obj} (h : w.heap[b]? = some x) (o : Obj) : (w.alloc o).heap[b]? = some x := by
  have := lt_of_block h
  rw [Below.heap_alloc _ _ _ this]; exact h

theorem block_grown {w w' : World} {row : Option Nat} (hg : w.grownBy w' row) {b : Nat} {x : Obj} (h : w.heap[b]? = some x) (hne : some b ≠ row) : w'.heap[b]? = some x := by
  rw [hg.block b (lt_of_block h) hne]; exact h

theorem cells_new (w : World) (l : List Value) (t : TypeId) : ∀ j u, l[j]? = some u → (w.alloc (.cells l.toArray t)).cell? ((⟨w.heap.size, 0, none⟩ : Addr).add j) = some u := by
  intro j u hj
  rw [Addr.add_lit]
  simp only [Nat.zero_add]
  exact cell_of_block (block_alloc_at w _) (by simpa using hj)

/-- An append to what is owned: below 'base' nothing turns. -/
theorem below_append {w w' : World} {base : Nat} {e : TypeId} {size : Nat} {v : Value} {n : Nat} {xs : List Value} (hown : w.ownsRow base e size v n xs) (hb : base ≤ w.heap.size) (hg : w.grownBy w' v.ownBlock) : Below base w w' :=
  (Below.refl _ _).grown hg hb fun k hk => (hown.lt k hk).1

theorem bcell {W w1 : World} (hb : Below W.heap.size W w1) : (∀ b o, b < W.heap.size → w1.cell? ⟨b, o, none⟩ = W.cell? ⟨b, o, none⟩) ∧ (∀ b o, b < W.heap.size → w1.frozen? ⟨b, o, none⟩ = W.frozen? ⟨b, o, none⟩) :=
  ⟨fun b o h => hb.cell (p := ⟨b, o, none⟩) h, fun b o h => hb.frozen (p := ⟨b, o, none⟩) h⟩

/-- What is owned stays owned while nothing old turns. -/
theorem ownsRow_below {w w' : World} {base : Nat} {e : TypeId} {size : Nat} {v : Value} {n : Nat} {xs : List Value} (h : w.ownsRow base e size v n xs) (hb : Below w.heap.size w w') : w'.ownsRow base e size v n xs := by
  obtain ⟨h1, h2⟩ := h
  refine ⟨h1, ?_⟩
  rcases h2 with h2 | ⟨g, cap, cur, hv, hg, hh, r⟩
  · exact Or.inl h2
  · exact Or.inr ⟨g, cap, cur, hv, hg, by rw [hb.block g (lt_of_block hh)]; exact hh, r⟩

/-- One call behind another. -/
theorem bthen {w a b : World} (h : Below w.heap.size w a) (k : Below a.heap.size a b) : Below w.heap.size w b := h.trans (k.mono h.size)

end Go.Proofs.Ytabanbpnghidhaa

namespace Go.Proofs.Ytabanbpnghidhaa
open Go.RowKit

/-- The slice sv has n elements of 'size' cells; its cells are cs. -/
def IsRow (size : Nat) (w : World) (sv : Value) (n : Nat) (cs : List Value) : Prop :=
  cs.length = n * size ∧
  ((n = 0 ∧ ∃ ao cap, sv = .slice ao 0 cap ∧ (ao = none → cap = 0)) ∨
   (0 < n ∧ ∃ b off cap, sv = .slice (some ⟨b, off, none⟩) n cap ∧ b < w.heap.size ∧ n ≤ cap ∧ cap ≤ maxLen ∧ ∀ j u, cs[j]? = some u → w.cell? ⟨b, off + j, none⟩ = some u))

theorem IsRow.keep {size : Nat} {w w' : World} {B : Nat} {sv : Value} {n : Nat} {cs : List Value} (h : IsRow size w sv n cs) (hb : Below B w w') (hB : w.heap.size ≤ B) : IsRow size w' sv n cs := by
  obtain ⟨h1, h2⟩ := h
  refine ⟨h1, ?_⟩
  rcases h2 with h2 | ⟨h0, b, off, cap, rfl, hlt, hc, hm, hcell⟩
  · exact .inl h2
  · exact .inr ⟨h0, b, off, cap, rfl, Nat.lt_of_lt_of_le hlt (hb.size), hc, hm, fun j u hj => by rw [hb.cell (p := ⟨b, off + j, none⟩) (Nat.lt_of_lt_of_le hlt hB)]; exact hcell j u hj⟩

theorem IsRow.below {size : Nat} {w w' : World} {sv : Value} {n : Nat} {cs : List Value} (h : IsRow size w sv n cs) (hb : Below w.heap.size w w') : IsRow size w' sv n cs := h.keep hb (Nat.le_refl _)

theorem IsRow.shape {size : Nat} {w : World} {sv : Value} {n : Nat} {cs : List Value} (h : IsRow size w sv n cs) : ∃ ao cap, sv = .slice ao n cap := by
  rcases h.2 with ⟨rfl, ao, cap, rfl, _⟩ | ⟨_, b, off, cap, rfl, _⟩
  · exact ⟨ao, cap, rfl⟩
  · exact ⟨_, cap, rfl⟩

theorem IsRow.nil (size : Nat) (w : World) : IsRow size w (.slice none 0 0) 0 [] := ⟨by simp, .inl ⟨rfl, none, 0, rfl, fun _ => rfl⟩⟩

theorem IsRow.of_own {size : Nat} {w : World} {base : Nat} {e : TypeId} {v : Value} {n : Nat} {cs : List Value} (h : w.ownsRow base e size v n cs) : IsRow size w v n cs := by
  refine ⟨h.1, ?_⟩
  rcases h.2 with ⟨rfl, rfl⟩ | ⟨g, cap, cur, rfl, hg, hh, hn, hm, _⟩
  · exact .inl ⟨rfl, none, 0, rfl, fun _ => rfl⟩
  · rcases Nat.eq_zero_or_pos n with rfl | h0
    · exact .inl ⟨rfl, _, cap, rfl, fun h => by cases h⟩
    · refine .inr ⟨h0, g, 0, cap, rfl, lt_of_block hh, hn, hm, fun j u hj => ?_⟩
      have := h.cells (g := g) rfl j u hj
      rwa [Addr.add_lit] at this

/-- A list of texts. -/
def IsStrs (w : World) (sv : Value) (L : List ByteArray) : Prop := IsRow 1 w sv L.length (L.map .string)

theorem IsStrs.below {w w' : World} {sv : Value} {L : List ByteArray} (h : IsStrs w sv L) (hb : Below w.heap.size w w') : IsStrs w' sv L := IsRow.below h hb
theorem IsStrs.keep {w w' : World} {B : Nat} {sv : Value} {L : List ByteArray} (h : IsStrs w sv L) (hb : Below B w w') (hB : w.heap.size ≤ B) : IsStrs w' sv L := IsRow.keep h hb hB

theorem IsStrs.at {w : World} {sv : Value} {L : List ByteArray} (h : IsStrs w sv L) (h0 : 0 < L.length) : ∃ b off cap, sv = .slice (some ⟨b, off, none⟩) L.length cap ∧ b < w.heap.size ∧ L.length ≤ cap ∧ cap ≤ maxLen ∧ ∀ i s, L[i]? = some s → w.cell? ⟨b, off + i, none⟩ = some (.string s) := by
  rcases h.2 with ⟨h1, _⟩ | ⟨_, b, off, cap, rfl, hb, hc, hm, hcell⟩
  · omega
  · exact ⟨b, off, cap, rfl, hb, hc, hm, fun i s hi => hcell i _ (by rw [List.getElem?_map, hi]; rfl)⟩

end Go.Proofs.Ytabanbpnghidhaa

namespace Go.Proofs.Ytabanbpnghidhaa
open Go.RowKit

/-- What lies in certain blocks stays. -/
structure Keeps (F : Nat → Prop) (w w' : World) : Prop where
  size : w.heap.size ≤ w'.heap.size
  block : ∀ k, F k → k < w.heap.size → w'.heap[k]? = w.heap[k]?
theorem Keeps.refl (F : Nat → Prop) (w : World) : Keeps F w w := ⟨Nat.le_refl _, fun _ _ _ => rfl⟩
theorem Keeps.trans {F : Nat → Prop} {u v w : World} (h : Keeps F u v) (k : Keeps F v w) : Keeps F u w :=
  ⟨Nat.le_trans h.size k.size, fun i h1 h2 => (k.block i h1 (Nat.lt_of_lt_of_le h2 h.size)).trans (h.block i h1 h2)⟩
theorem keepsB {F : Nat → Prop} {w w' : World} (h : Below w.heap.size w w') : Keeps F w w' := ⟨h.size, fun k _ hk => h.block k hk⟩
theorem Keeps.set {F : Nat → Prop} {w w' : World} (h : Keeps F w w') {b : Nat} (hb : ¬ F b) (o : Nat) (u : Value) : Keeps F w (w'.setCell ⟨b, o, none⟩ u) :=
  ⟨by simp [World.setCell]; exact h.size, fun k hk hl => (Below.heap_setCell w' ⟨b, o, none⟩ u k (show k ≠ b by rintro rfl; exact hb hk)).trans (h.block k hk hl)⟩
theorem Keeps.alloc {F : Nat → Prop} {w w' : World} (h : Keeps F w w') (o : Obj) : Keeps F w (w'.alloc o) := h.trans (keepsB ((Below.refl _ _).alloc (Nat.le_refl _) o))
theorem Keeps.drew {F : Nat → Prop} {w w' : World} (h : Keeps F w w') : Keeps F w w'.drew := ⟨h.size, h.block⟩
theorem Keeps.below {F : Nat → Prop} {w v v' : World} (h : Keeps F w v) (hb : Below v.heap.size v v') : Keeps F w v' := h.trans (keepsB hb)
theorem Keeps.mono {F F' : Nat → Prop} {w w' : World} (h : Keeps F w w') (hF : ∀ k, F' k → F k) : Keeps F' w w' := ⟨h.size, fun k hk => h.block k (hF k hk)⟩
/-- Blocks from one on. -/
abbrev Fr (n : Nat) : Nat → Prop := fun k => n ≤ k

/-- As IsRow, in certain blocks. -/
def IsRowB (F : Nat → Prop) (size : Nat) (w : World) (sv : Value) (n : Nat) (cs : List Value) : Prop :=
  cs.length = n * size ∧
  ((n = 0 ∧ ∃ ao cap, sv = .slice ao 0 cap ∧ (ao = none → cap = 0)) ∨
   (0 < n ∧ ∃ b off cap, sv = .slice (some ⟨b, off, none⟩) n cap ∧ F b ∧ b < w.heap.size ∧ n ≤ cap ∧ cap ≤ maxLen ∧ ∀ j u, cs[j]? = some u → w.cell? ⟨b, off + j, none⟩ = some u))
theorem IsRowB.keep {F : Nat → Prop} {size : Nat} {w w' : World} {sv : Value} {n : Nat} {cs : List Value} (h : IsRowB F size w sv n cs) (hk : Keeps F w w') : IsRowB F size w' sv n cs := by
  obtain ⟨h1, h2⟩ := h
  refine ⟨h1, ?_⟩
  rcases h2 with h2 | ⟨h0, b, off, cap, rfl, hB, hlt, hc, hm, hcell⟩
  · exact .inl h2
  · refine .inr ⟨h0, b, off, cap, rfl, hB, Nat.lt_of_lt_of_le hlt hk.size, hc, hm, fun j u hj => ?_⟩
    rw [World.cell?_of_block (w := w) (hk.block b hB hlt)]
    exact hcell j u hj
theorem IsRowB.mono {F F' : Nat → Prop} {size : Nat} {w : World} {sv : Value} {n : Nat} {cs : List Value} (h : IsRowB F size w sv n cs) (hB : ∀ k, k < w.heap.size → F k → F' k) : IsRowB F' size w sv n cs := by
  obtain ⟨h1, h2⟩ := h
  refine ⟨h1, ?_⟩
  rcases h2 with h2 | ⟨h0, b, off, cap, h3, h4, h5⟩
  · exact .inl h2
  · exact .inr ⟨h0, b, off, cap, h3, hB _ h5.1 h4, h5⟩
theorem IsRowB.row {F : Nat → Prop} {size : Nat} {w : World} {sv : Value} {n : Nat} {cs : List Value} (h : IsRowB F size w sv n cs) : IsRow size w sv n cs := by
  obtain ⟨h1, h2⟩ := h
  refine ⟨h1, ?_⟩
  rcases h2 with h2 | ⟨h0, b, off, cap, h3, _, h5⟩
  · exact .inl h2
  · exact .inr ⟨h0, b, off, cap, h3, h5⟩
theorem IsRowB.shape {F : Nat → Prop} {size : Nat} {w : World} {sv : Value} {n : Nat} {cs : List Value} (h : IsRowB F size w sv n cs) : ∃ ao cap, sv = .slice ao n cap := h.row.shape
theorem IsRowB.nil (F : Nat → Prop) (size : Nat) (w : World) : IsRowB F size w (.slice none 0 0) 0 [] := ⟨by simp, .inl ⟨rfl, none, 0, rfl, fun _ => rfl⟩⟩
theorem IsRowB.of_own {F : Nat → Prop} {size : Nat} {w : World} {base : Nat} {e : TypeId} {v : Value} {n : Nat} {cs : List Value} (h : w.ownsRow base e size v n cs) (hB : ∀ k, base ≤ k → F k) : IsRowB F size w v n cs := by
  refine ⟨h.1, ?_⟩
  rcases h.2 with ⟨rfl, rfl⟩ | ⟨g, cap, cur, rfl, hg, hh, hn, hm, _⟩
  · exact .inl ⟨rfl, none, 0, rfl, fun _ => rfl⟩
  · rcases Nat.eq_zero_or_pos n with rfl | h0
    · exact .inl ⟨rfl, _, cap, rfl, fun h => by cases h⟩
    · refine .inr ⟨h0, g, 0, cap, rfl, hB g hg, lt_of_block hh, hn, hm, fun j u hj => ?_⟩
      have := h.cells (g := g) rfl j u hj
      rwa [Addr.add_lit] at this
/-- A new block's cells. -/
theorem IsRowB.new {F : Nat → Prop} {size n : Nat} {w : World} (l : List Value) (t : TypeId) (hl : l.length = n * size) (hB : F w.heap.size) (hn : 0 < n) (hm : n ≤ maxLen) : IsRowB F size (w.alloc (.cells l.toArray t)) (.slice (some ⟨w.heap.size, 0, none⟩) n n) n l :=
  ⟨hl, .inr ⟨hn, w.heap.size, 0, n, rfl, hB, by simp, Nat.le_refl _, hm, fun j u hj => by
    have := cells_new w l t j u hj
    rwa [Addr.add_lit] at this⟩⟩

/-- An expression's eight cells. -/
abbrev eArr (op : Int) (x : V) (s name : Wd) (n : Int) (sv : Value) : Array Value := #[.int .i64 op, .int .i64 x.k, .int .i64 x.n, .string x.s, .string s, .string name, .int .i64 n, sv]
mutual
/-- An expression in memory. -/
def IsE (F : Nat → Prop) (w : World) : E → Value → Prop
  | .mk op x s name n l, v => ∃ sv cs, v = .agg (eArr op x s name n sv) ∧ IsRowB F 8 w sv l.length cs ∧ AllE F w l cs
def AllE (F : Nat → Prop) (w : World) : List E → List Value → Prop
  | [], cs => cs = []
  | e :: l, cs => ∃ c rest, cs = c ++ rest ∧ c.length = 8 ∧ IsE F w e (.agg c.toArray) ∧ AllE F w l rest
end
mutual
theorem IsE.keep {F : Nat → Prop} {w w' : World} (hk : Keeps F w w') : ∀ (e : E) (v : Value), IsE F w e v → IsE F w' e v
  | .mk op x s name n l, v, h => by
    rw [IsE] at h ⊢
    obtain ⟨sv, cs, h1, h2, h3⟩ := h
    exact ⟨sv, cs, h1, h2.keep hk, AllE.keep hk l cs h3⟩
theorem AllE.keep {F : Nat → Prop} {w w' : World} (hk : Keeps F w w') : ∀ (l : List E) (cs : List Value), AllE F w l cs → AllE F w' l cs
  | [], cs, h => by rw [AllE] at h ⊢; exact h
  | e :: l, cs, h => by
    rw [AllE] at h ⊢
    obtain ⟨c, rest, h1, h2, h3, h4⟩ := h
    exact ⟨c, rest, h1, h2, IsE.keep hk e _ h3, AllE.keep hk l rest h4⟩
end
mutual
theorem IsE.mono {F F' : Nat → Prop} {w : World} (hk : ∀ k, k < w.heap.size → F k → F' k) : ∀ (e : E) (v : Value), IsE F w e v → IsE F' w e v
  | .mk op x s name n l, v, h => by
    rw [IsE] at h ⊢
    obtain ⟨sv, cs, h1, h2, h3⟩ := h
    exact ⟨sv, cs, h1, h2.mono hk, AllE.mono hk l cs h3⟩
theorem AllE.mono {F F' : Nat → Prop} {w : World} (hk : ∀ k, k < w.heap.size → F k → F' k) : ∀ (l : List E) (cs : List Value), AllE F w l cs → AllE F' w l cs
  | [], cs, h => by rw [AllE] at h ⊢; exact h
  | e :: l, cs, h => by
    rw [AllE] at h ⊢
    obtain ⟨c, rest, h1, h2, h3, h4⟩ := h
    exact ⟨c, rest, h1, h2, IsE.mono hk e _ h3, AllE.mono hk l rest h4⟩
end
/-- A list of expressions. -/
def IsEs (F : Nat → Prop) (w : World) (sv : Value) (l : List E) : Prop := ∃ cs, IsRowB F 8 w sv l.length cs ∧ AllE F w l cs
theorem IsEs.keep {F : Nat → Prop} {w w' : World} {sv : Value} {l : List E} (h : IsEs F w sv l) (hk : Keeps F w w') : IsEs F w' sv l := by
  obtain ⟨cs, h1, h2⟩ := h
  exact ⟨cs, h1.keep hk, AllE.keep hk l cs h2⟩
theorem IsEs.mono {F F' : Nat → Prop} {w : World} {sv : Value} {l : List E} (h : IsEs F w sv l) (hk : ∀ k, k < w.heap.size → F k → F' k) : IsEs F' w sv l := by
  obtain ⟨cs, h1, h2⟩ := h
  exact ⟨cs, h1.mono hk, AllE.mono hk l cs h2⟩
theorem IsEs.nil (F : Nat → Prop) (w : World) : IsEs F w (.slice none 0 0) [] := ⟨[], IsRowB.nil F 8 w, by rw [AllE]⟩
theorem IsEs.shape {F : Nat → Prop} {w : World} {sv : Value} {l : List E} (h : IsEs F w sv l) : ∃ ao cap, sv = .slice ao l.length cap := by
  obtain ⟨cs, h1, _⟩ := h; exact h1.shape
theorem isE_mk {F : Nat → Prop} {w : World} {op : Int} {x : V} {s name : Wd} {n : Int} {l : List E} {sv : Value} (h : IsEs F w sv l) : IsE F w (.mk op x s name n l) (.agg (eArr op x s name n sv)) := by
  obtain ⟨cs, h1, h2⟩ := h
  rw [IsE]
  exact ⟨sv, cs, rfl, h1, h2⟩
theorem IsE.open {F : Nat → Prop} {w : World} {op : Int} {x : V} {s name : Wd} {n : Int} {l : List E} {v : Value} (h : IsE F w (.mk op x s name n l) v) : ∃ sv, v = .agg (eArr op x s name n sv) ∧ IsEs F w sv l := by
  rw [IsE] at h
  obtain ⟨sv, cs, h1, h2, h3⟩ := h
  exact ⟨sv, h1, cs, h2, h3⟩
theorem isE_nil (F : Nat → Prop) (w : World) : IsE F w E.nil (.agg (eArr 0 zero noW noW 0 (.slice none 0 0))) := isE_mk (IsEs.nil F w)
theorem isE_lit (F : Nat → Prop) (w : World) (v : V) : IsE F w (litE v) (.agg (eArr 1 v noW noW 0 (.slice none 0 0))) := isE_mk (IsEs.nil F w)
theorem isE_ref (F : Nat → Prop) (w : World) (s name : Wd) : IsE F w (refE s name) (.agg (eArr 2 zero s name 0 (.slice none 0 0))) := isE_mk (IsEs.nil F w)
/-- An expression's value, written out. -/
theorem IsE.shape {F : Nat → Prop} {w : World} {e : E} {v : Value} (h : IsE F w e v) : ∃ op x s name n ao k c, v = .agg (eArr op x s name n (.slice ao k c)) := by
  cases e with
  | mk op x s name n l =>
    obtain ⟨sv, h1, h2⟩ := h.open
    obtain ⟨ao, c, rfl⟩ := h2.shape
    exact ⟨op, x, s, name, n, ao, _, c, h1⟩
theorem allE_append {F : Nat → Prop} {w : World} : ∀ {l m : List E} {cs ds : List Value}, AllE F w l cs → AllE F w m ds → AllE F w (l ++ m) (cs ++ ds)
  | [], m, cs, ds, h, k => by rw [AllE] at h; subst h; exact k
  | e :: l, m, cs, ds, h, k => by
    rw [AllE] at h
    obtain ⟨c, rest, rfl, h2, h3, h4⟩ := h
    rw [List.cons_append, AllE]
    exact ⟨c, rest ++ ds, by simp, h2, h3, allE_append h4 k⟩
theorem allE_one {F : Nat → Prop} {w : World} {e : E} {c : List Value} (hc : c.length = 8) (h : IsE F w e (.agg c.toArray)) : AllE F w [e] c := by
  rw [AllE]; exact ⟨c, [], by simp, hc, h, by rw [AllE]⟩
theorem allE_length {F : Nat → Prop} {w : World} : ∀ {l : List E} {cs : List Value}, AllE F w l cs → cs.length = l.length * 8
  | [], cs, h => by rw [AllE] at h; subst h; rfl
  | e :: l, cs, h => by
    rw [AllE] at h
    obtain ⟨c, rest, rfl, h2, _, h4⟩ := h
    have := allE_length h4
    simp; omega

/-- One expression in a new block; two. -/
theorem isEs_one {F : Nat → Prop} {w : World} {e : E} {op : Int} {x : V} {s name : Wd} {n : Int} {sv : Value} (h : IsE F w e (.agg (eArr op x s name n sv))) (hB : F w.heap.size) :
    IsEs F (w.alloc (.cells (eArr op x s name n sv) 34)) (.slice (some ⟨w.heap.size, 0, none⟩) 1 1) [e] := by
  have hb : Below w.heap.size w (w.alloc (.cells (eArr op x s name n sv) 34)) := (Below.refl _ _).alloc (Nat.le_refl _) _
  exact ⟨(eArr op x s name n sv).toList, IsRowB.new (eArr op x s name n sv).toList _ rfl hB (by decide) (by decide), allE_one rfl (IsE.keep (keepsB hb) e _ h)⟩
theorem isEs_two {F : Nat → Prop} {w : World} {e e' : E} {op op' : Int} {x x' : V} {s name s' name' : Wd} {n n' : Int} {sv sv' : Value} (h : IsE F w e (.agg (eArr op x s name n sv))) (h' : IsE F w e' (.agg (eArr op' x' s' name' n' sv'))) (hB : F w.heap.size) :
    IsEs F (w.alloc (.cells (eArr op x s name n sv ++ eArr op' x' s' name' n' sv') 34)) (.slice (some ⟨w.heap.size, 0, none⟩) 2 2) [e, e'] := by
  have hb : Below w.heap.size w (w.alloc (.cells (eArr op x s name n sv ++ eArr op' x' s' name' n' sv') 34)) := (Below.refl _ _).alloc (Nat.le_refl _) _
  refine ⟨(eArr op x s name n sv ++ eArr op' x' s' name' n' sv').toList, IsRowB.new (eArr op x s name n sv ++ eArr op' x' s' name' n' sv').toList _ rfl hB (by decide) (by decide), ?_⟩
  exact allE_append (allE_one rfl (IsE.keep (keepsB hb) e _ h)) (allE_one rfl (IsE.keep (keepsB hb) e' _ h'))

theorem allE_get {F : Nat → Prop} {w : World} : ∀ {l : List E} {cs : List Value} {k : Nat} {e : E}, AllE F w l cs → l[k]? = some e → ∃ c : List Value, c.length = 8 ∧ IsE F w e (.agg c.toArray) ∧ ∀ j u, c[j]? = some u → cs[k * 8 + j]? = some u
  | e :: l, cs, 0, x, h, hk => by
    rw [AllE] at h
    obtain ⟨c, rest, rfl, h2, h3, _⟩ := h
    simp at hk; subst hk
    refine ⟨c, h2, h3, fun j u hj => ?_⟩
    rw [List.getElem?_append_left (by have := (List.getElem?_eq_some_iff.1 hj).1; omega)]
    simpa using hj
  | e :: l, cs, k + 1, x, h, hk => by
    rw [AllE] at h
    obtain ⟨c, rest, rfl, h2, _, h4⟩ := h
    simp only [List.getElem?_cons_succ] at hk
    obtain ⟨d, d1, d2, d3⟩ := allE_get h4 hk
    refine ⟨d, d1, d2, fun j u hj => ?_⟩
    rw [List.getElem?_append_right (by omega), h2, show (k + 1) * 8 + j - 8 = k * 8 + j from by omega]
    exact d3 j u hj
  | [], _, _, _, _, hk => by simp at hk

/-- An element of a row of expressions: its cells, in every later world. -/
theorem row_elem {F : Nat → Prop} {w : World} {b off n cap : Nat} {l : List E} {cs : List Value} (hr : IsRowB F 8 w (.slice (some ⟨b, off, none⟩) n cap) l.length cs) (ha : AllE F w l cs) {k : Nat} {e : E} (hk : l[k]? = some e) :
    ∃ xo xk xn xs2 xs xm xi xa xl xc, IsE F w e (.agg #[.int .i64 xo, .int .i64 xk, .int .i64 xn, .string xs2, .string xs, .string xm, .int .i64 xi, .slice xa xl xc]) ∧ ∀ V, Below w.heap.size w V → V.cell? ⟨b, off + k * 8, none⟩ = some (.int .i64 xo) ∧ V.cell? ⟨b, off + k * 8 + 1, none⟩ = some (.int .i64 xk) ∧ V.cell? ⟨b, off + k * 8 + 2, none⟩ = some (.int .i64 xn) ∧ V.cell? ⟨b, off + k * 8 + 3, none⟩ = some (.string xs2) ∧ V.cell? ⟨b, off + k * 8 + 4, none⟩ = some (.string xs) ∧ V.cell? ⟨b, off + k * 8 + 5, none⟩ = some (.string xm) ∧ V.cell? ⟨b, off + k * 8 + 6, none⟩ = some (.int .i64 xi) ∧ V.cell? ⟨b, off + k * 8 + 7, none⟩ = some (.slice xa xl xc) := by
  obtain ⟨c, c1, c2, c3⟩ := allE_get ha hk
  obtain ⟨xo, ⟨xk, xn, xs2⟩, xs, xm, xi, xa, xl, xc, h⟩ := c2.shape
  have hc : c = [.int .i64 xo, .int .i64 xk, .int .i64 xn, .string xs2, .string xs, .string xm, .int .i64 xi, .slice xa xl xc] := by
    have := congrArg Array.toList (Value.agg.inj h)
    simpa using this
  subst hc
  refine ⟨xo, xk, xn, xs2, xs, xm, xi, xa, xl, xc, c2, fun V hV => ?_⟩
  have h0 : 0 < l.length := by have := (List.getElem?_eq_some_iff.1 hk).1; omega
  rcases hr.2 with ⟨h1, _⟩ | ⟨_, b', o', c', he, _, hlt, _, _, hcell⟩
  · omega
  · cases he
    have g : ∀ j u, ([.int .i64 xo, .int .i64 xk, .int .i64 xn, .string xs2, .string xs, .string xm, .int .i64 xi, .slice xa xl xc] : List Value)[j]? = some u → V.cell? ⟨b, off + k * 8 + j, none⟩ = some u := fun j u hj => by
      rw [Nat.add_assoc]
      exact (hV.cell (p := ⟨b, off + (k * 8 + j), none⟩) hlt).trans (hcell _ u (c3 j u hj))
    exact ⟨g 0 _ rfl, g 1 _ rfl, g 2 _ rfl, g 3 _ rfl, g 4 _ rfl, g 5 _ rfl, g 6 _ rfl, g 7 _ rfl⟩

theorem set_at {w : World} {g : Nat} {arr : Array Value} {t : TypeId} {fr : Nat × Nat} (h : w.heap[g]? = some (.cells arr t fr)) (j : Nat) (x : Value) : (w.setCell ⟨g, j, none⟩ x).heap[g]? = some (.cells (arr.setIfInBounds j x) t fr) := by
  simp only [World.setCell, Array.getElem?_modify, if_true, h, Option.map_some]
  rfl
theorem set3 {w : World} {g : Nat} {a b c x y z : Value} {t : TypeId} {fr : Nat × Nat} (h : w.heap[g]? = some (.cells #[a, b, c] t fr)) :
    (((w.setCell ⟨g, 0, none⟩ x).setCell ⟨g, 1, none⟩ y).setCell ⟨g, 2, none⟩ z).heap[g]? = some (.cells #[x, y, z] t fr) := set_at (set_at (set_at h 0 x) 1 y) 2 z
theorem block2 (w : World) (o1 o2 : Obj) : ((w.alloc o1).alloc o2).heap[w.heap.size + 1]? = some o2 := by
  have := block_alloc_at (w.alloc o1) o2
  rwa [show (w.alloc o1).heap.size = w.heap.size + 1 from by simp] at this
theorem block3 (w : World) (o1 o2 o3 : Obj) : (((w.alloc o1).alloc o2).alloc o3).heap[w.heap.size + 2]? = some o3 := by
  have := block_alloc_at ((w.alloc o1).alloc o2) o3
  rwa [show ((w.alloc o1).alloc o2).heap.size = w.heap.size + 2 from by simp] at this
theorem bel1 (w : World) (o1 : Obj) : Below w.heap.size w (w.alloc o1) := (Below.refl _ _).alloc (Nat.le_refl _) _
theorem bel2 (w : World) (o1 o2 : Obj) : Below w.heap.size w ((w.alloc o1).alloc o2) := (bel1 w o1).alloc (by simp) _
theorem bel3 (w : World) (o1 o2 o3 : Obj) : Below w.heap.size w (((w.alloc o1).alloc o2).alloc o3) := (bel2 w o1 o2).alloc (by simp; omega) _
theorem cell_set_ne {w : World} {b g : Nat} (h : b ≠ g) (o j : Nat) (x : Value) : (w.setCell ⟨g, j, none⟩ x).cell? ⟨b, o, none⟩ = w.cell? ⟨b, o, none⟩ := World.cell?_of_block (Below.heap_setCell w ⟨g, j, none⟩ x b h)
/-- Three blocks that stay. -/
theorem three {W w1 : World} {g : Nat} (h : Below W.heap.size W w1) (hg : g + 3 ≤ W.heap.size) :
    g + 3 ≤ w1.heap.size ∧ (∀ o, w1.cell? ⟨g, o, none⟩ = W.cell? ⟨g, o, none⟩) ∧ (∀ o, w1.cell? ⟨g + 1, o, none⟩ = W.cell? ⟨g + 1, o, none⟩) ∧ (∀ o, w1.cell? ⟨g + 2, o, none⟩ = W.cell? ⟨g + 2, o, none⟩) ∧ (∀ o, w1.frozen? ⟨g + 2, o, none⟩ = W.frozen? ⟨g + 2, o, none⟩) :=
  ⟨Nat.le_trans hg h.size, fun o => h.cell (p := ⟨g, o, none⟩) (by show g < _; omega), fun o => h.cell (p := ⟨g + 1, o, none⟩) (by show g + 1 < _; omega), fun o => h.cell (p := ⟨g + 2, o, none⟩) (by show g + 2 < _; omega), fun o => h.frozen (p := ⟨g + 2, o, none⟩) (by show g + 2 < _; omega)⟩
/-- Two blocks that stay, and one from below. -/
theorem two_of {W w1 : World} {g b : Nat} (h : Below W.heap.size W w1) (hg : g + 2 ≤ W.heap.size) (hb : b < g) :
    g + 2 ≤ w1.heap.size ∧ (∀ o, w1.cell? ⟨g, o, none⟩ = W.cell? ⟨g, o, none⟩) ∧ (∀ o, w1.cell? ⟨g + 1, o, none⟩ = W.cell? ⟨g + 1, o, none⟩) ∧ (∀ o, w1.frozen? ⟨g + 1, o, none⟩ = W.frozen? ⟨g + 1, o, none⟩) ∧ (∀ o, w1.cell? ⟨b, o, none⟩ = W.cell? ⟨b, o, none⟩) :=
  ⟨Nat.le_trans hg h.size, fun o => h.cell (p := ⟨g, o, none⟩) (by show g < _; omega), fun o => h.cell (p := ⟨g + 1, o, none⟩) (by show g + 1 < _; omega), fun o => h.frozen (p := ⟨g + 1, o, none⟩) (by show g + 1 < _; omega), fun o => h.cell (p := ⟨b, o, none⟩) (by show b < _; omega)⟩
/-- Three blocks that stay. -/
theorem four {W w1 : World} {a b g : Nat} (h : Below W.heap.size W w1) (ha : a < W.heap.size) (hb : b < W.heap.size) (hg : g < W.heap.size) :
    (∀ o, w1.cell? ⟨a, o, none⟩ = W.cell? ⟨a, o, none⟩) ∧ (∀ o, w1.cell? ⟨b, o, none⟩ = W.cell? ⟨b, o, none⟩) ∧ (∀ o, w1.cell? ⟨g, o, none⟩ = W.cell? ⟨g, o, none⟩) ∧ (∀ o, w1.frozen? ⟨g, o, none⟩ = W.frozen? ⟨g, o, none⟩) :=
  ⟨fun o => h.cell (p := ⟨a, o, none⟩) ha, fun o => h.cell (p := ⟨b, o, none⟩) hb, fun o => h.cell (p := ⟨g, o, none⟩) hg, fun o => h.frozen (p := ⟨g, o, none⟩) hg⟩
/-- Below a block all stays. -/
theorem keepsC {C : Nat} {w w' : World} (h : Below C w w') : Keeps (fun k => k < C) w w' := ⟨h.size, fun k hk _ => h.block k hk⟩

end Go.Proofs.Ytabanbpnghidhaa

namespace Go.Proofs.Ytabanbpnghidhaa

/-- A column: api.Col. -/
structure ColD where
  name : Wd
  ty : Int
  must : Bool
/-- A command: api.Stmt. -/
structure Stm where
  kind : Int
  name : Wd
  table : Wd
  col : Wd
  cols : List ColD
  rows : List (List E)
  sets : List (Wd × E)
  frm : List Wd
  out : List E
  wher : E
  order : List E
  down : Bool
  n : Int
def Stm.nil : Stm := ⟨0, noW, noW, noW, [], [], [], [], [], E.nil, [], false, 0⟩
def begunS (k : Int) : Stm := ⟨k, noW, noW, noW, [], [], [], [], [], E.nil, [], false, -1⟩

end Go.Proofs.Ytabanbpnghidhaa

namespace Go.Proofs.Ytabanbpnghidhaa
open Go.RowKit

/-- A kind of element: how it lies in memory, in how many cells. -/
structure Elem (α : Type) where
  size : Nat
  R : (Nat → Prop) → World → α → List Value → Prop
  len : ∀ {F w a c}, R F w a c → c.length = size
  keep : ∀ {F w w' a c}, Keeps F w w' → R F w a c → R F w' a c
  mono : ∀ {F F' : Nat → Prop} {w a c}, (∀ k, k < w.heap.size → F k → F' k) → R F w a c → R F' w a c
/-- Elements one behind the other. -/
def All {α : Type} (K : Elem α) (F : Nat → Prop) (w : World) : List α → List Value → Prop
  | [], cs => cs = []
  | a :: l, cs => ∃ c rest, cs = c ++ rest ∧ K.R F w a c ∧ All K F w l rest
theorem All.keep {α : Type} {K : Elem α} {F : Nat → Prop} {w w' : World} (hk : Keeps F w w') : ∀ {l : List α} {cs : List Value}, All K F w l cs → All K F w' l cs
  | [], cs, h => h
  | a :: l, cs, h => by
    obtain ⟨c, rest, h1, h2, h3⟩ := h
    exact ⟨c, rest, h1, K.keep hk h2, All.keep hk h3⟩
theorem All.mono {α : Type} {K : Elem α} {F F' : Nat → Prop} {w : World} (hk : ∀ k, k < w.heap.size → F k → F' k) : ∀ {l : List α} {cs : List Value}, All K F w l cs → All K F' w l cs
  | [], cs, h => h
  | a :: l, cs, h => by
    obtain ⟨c, rest, h1, h2, h3⟩ := h
    exact ⟨c, rest, h1, K.mono hk h2, All.mono hk h3⟩
theorem All.append {α : Type} {K : Elem α} {F : Nat → Prop} {w : World} : ∀ {l m : List α} {cs ds : List Value}, All K F w l cs → All K F w m ds → All K F w (l ++ m) (cs ++ ds)
  | [], m, cs, ds, h, k => by have : cs = [] := h; subst this; exact k
  | a :: l, m, cs, ds, h, k => by
    obtain ⟨c, rest, rfl, h2, h3⟩ := h
    exact ⟨c, rest ++ ds, by simp, h2, All.append h3 k⟩
theorem All.one {α : Type} {K : Elem α} {F : Nat → Prop} {w : World} {a : α} {c : List Value} (h : K.R F w a c) : All K F w [a] c := ⟨c, [], by simp, h, rfl⟩
theorem All.length {α : Type} {K : Elem α} {F : Nat → Prop} {w : World} : ∀ {l : List α} {cs : List Value}, All K F w l cs → cs.length = l.length * K.size
  | [], cs, h => by have : cs = [] := h; subst this; simp
  | a :: l, cs, h => by
    obtain ⟨c, rest, rfl, h2, h3⟩ := h
    have e1 := K.len h2
    have e2 := All.length h3
    rw [List.length_append, List.length_cons, e1, e2, Nat.add_mul]; omega
/-- A list in memory. -/
def IsL {α : Type} (K : Elem α) (F : Nat → Prop) (w : World) (sv : Value) (l : List α) : Prop := ∃ cs, IsRowB F K.size w sv l.length cs ∧ All K F w l cs
theorem IsL.keep {α : Type} {K : Elem α} {F : Nat → Prop} {w w' : World} {sv : Value} {l : List α} (h : IsL K F w sv l) (hk : Keeps F w w') : IsL K F w' sv l := by
  obtain ⟨cs, h1, h2⟩ := h
  exact ⟨cs, h1.keep hk, h2.keep hk⟩
theorem IsL.mono {α : Type} {K : Elem α} {F F' : Nat → Prop} {w : World} {sv : Value} {l : List α} (h : IsL K F w sv l) (hk : ∀ k, k < w.heap.size → F k → F' k) : IsL K F' w sv l := by
  obtain ⟨cs, h1, h2⟩ := h
  exact ⟨cs, h1.mono hk, h2.mono hk⟩
theorem IsL.shape {α : Type} {K : Elem α} {F : Nat → Prop} {w : World} {sv : Value} {l : List α} (h : IsL K F w sv l) : ∃ ao c, sv = .slice ao l.length c := by
  obtain ⟨cs, h1, _⟩ := h; exact h1.shape
theorem IsL.nil {α : Type} (K : Elem α) (F : Nat → Prop) (w : World) : IsL K F w (.slice none 0 0) ([] : List α) := ⟨[], IsRowB.nil F _ w, rfl⟩

theorem allE_iff {F : Nat → Prop} {w : World} {K : Elem E} (hK : ∀ F w e c, K.R F w e c ↔ c.length = 8 ∧ IsE F w e (.agg c.toArray)) : ∀ {l : List E} {cs : List Value}, All K F w l cs ↔ AllE F w l cs
  | [], cs => by rw [AllE]; rfl
  | e :: l, cs => by
    rw [AllE]
    constructor
    · rintro ⟨c, rest, h1, h2, h3⟩
      exact ⟨c, rest, h1, ((hK _ _ _ _).1 h2).1, ((hK _ _ _ _).1 h2).2, (allE_iff hK).1 h3⟩
    · rintro ⟨c, rest, h1, h2, h3, h4⟩
      exact ⟨c, rest, h1, (hK _ _ _ _).2 ⟨h2, h3⟩, (allE_iff hK).2 h4⟩

/-- Expressions, lists of them, changes, texts, columns. -/
def kExpr : Elem E where
  size := 8
  R F w e c := c.length = 8 ∧ IsE F w e (.agg c.toArray)
  len h := h.1
  keep hk h := ⟨h.1, IsE.keep hk _ _ h.2⟩
  mono hk h := ⟨h.1, IsE.mono hk _ _ h.2⟩
theorem isEs_iff {F : Nat → Prop} {w : World} {sv : Value} {l : List E} : IsL kExpr F w sv l ↔ IsEs F w sv l :=
  ⟨fun ⟨cs, h1, h2⟩ => ⟨cs, h1, (allE_iff fun _ _ _ _ => Iff.rfl).1 h2⟩, fun ⟨cs, h1, h2⟩ => ⟨cs, h1, (allE_iff fun _ _ _ _ => Iff.rfl).2 h2⟩⟩
def kRow : Elem (List E) where
  size := 1
  R F w l c := ∃ sv, c = [sv] ∧ IsL kExpr F w sv l
  len h := by obtain ⟨sv, rfl, _⟩ := h; rfl
  keep hk h := by obtain ⟨sv, h1, h2⟩ := h; exact ⟨sv, h1, h2.keep hk⟩
  mono hk h := by obtain ⟨sv, h1, h2⟩ := h; exact ⟨sv, h1, h2.mono hk⟩
def kSetE : Elem (Wd × E) where
  size := 9
  R F w s c := ∃ d, c = .string s.1 :: d ∧ d.length = 8 ∧ IsE F w s.2 (.agg d.toArray)
  len h := by obtain ⟨d, rfl, h, _⟩ := h; simp [h]
  keep hk h := by obtain ⟨d, h1, h2, h3⟩ := h; exact ⟨d, h1, h2, IsE.keep hk _ _ h3⟩
  mono hk h := by obtain ⟨d, h1, h2, h3⟩ := h; exact ⟨d, h1, h2, IsE.mono hk _ _ h3⟩
def kStr : Elem Wd where
  size := 1
  R _ _ s c := c = [.string s]
  len h := by subst h; rfl
  keep _ h := h
  mono _ h := h
def kCol : Elem ColD where
  size := 3
  R _ _ x c := c = [.string x.name, .int .i64 x.ty, .bool x.must]
  len h := by subst h; rfl
  keep _ h := h
  mono _ h := h
/-- How an element is handed back. -/
def aggV (c : List Value) : Value := .agg c.toArray
def oneV (c : List Value) : Value := c.headD (.bool false)
theorem shape_Expr {F : Nat → Prop} {w : World} {e : E} {c : List Value} (h : kExpr.R F w e c) : ∃ op xk xn xs s name n ao k cap, c = [.int .i64 op, .int .i64 xk, .int .i64 xn, .string xs, .string s, .string name, .int .i64 n, .slice ao k cap] := by
  obtain ⟨op, ⟨xk, xn, xs⟩, s, name, n, ao, k, cap, h1⟩ := h.2.shape
  refine ⟨op, xk, xn, xs, s, name, n, ao, k, cap, ?_⟩
  have := congrArg Array.toList (Value.agg.inj h1)
  simpa using this
theorem shape_Row {F : Nat → Prop} {w : World} {l : List E} {c : List Value} (h : kRow.R F w l c) : ∃ ao k cap, c = [.slice ao k cap] := by
  obtain ⟨sv, rfl, h⟩ := h
  obtain ⟨ao, cap, rfl⟩ := h.shape
  exact ⟨_, _, _, rfl⟩
theorem shape_Set {F : Nat → Prop} {w : World} {e : Wd × E} {c : List Value} (h : kSetE.R F w e c) : ∃ cn op xk xn xs s name n ao k cap, c = [.string cn, .int .i64 op, .int .i64 xk, .int .i64 xn, .string xs, .string s, .string name, .int .i64 n, .slice ao k cap] := by
  obtain ⟨d, rfl, h1, h2⟩ := h
  obtain ⟨op, xk, xn, xs, s, name, n, ao, k, cap, rfl⟩ := shape_Expr (w := w) (F := F) (e := e.2) ⟨h1, h2⟩
  exact ⟨e.1, op, xk, xn, xs, s, name, n, ao, k, cap, rfl⟩
theorem shape_Str {F : Nat → Prop} {w : World} {e : Wd} {c : List Value} (h : kStr.R F w e c) : ∃ s, c = [.string s] := ⟨e, h⟩
theorem shape_Col {F : Nat → Prop} {w : World} {e : ColD} {c : List Value} (h : kCol.R F w e c) : ∃ s t m, c = [.string s, .int .i64 t, .bool m] := ⟨e.name, e.ty, e.must, h⟩

/-- A row of one, in a block of its own. -/
theorem own_one (w : World) (base : Nat) (t : TypeId) (l : List Value) (size : Nat) (hl : l.length = size) (hb : base ≤ w.heap.size) : (w.alloc (.cells l.toArray t)).ownsRow base t size (.slice (some ⟨w.heap.size, 0, none⟩) 1 1) 1 l :=
  by subst hl; exact ⟨by simp, .inr ⟨w.heap.size, 1, l.toArray, rfl, hb, block_alloc_at w _, Nat.le_refl _, by decide, by simp, by simp⟩⟩

/-- Blocks from one on, but for a row's own. -/
abbrev FO (n : Nat) (z : Value) : Nat → Prop := fun k => n ≤ k ∧ some k ≠ z.ownBlock

/-- An append: what is not in the row stays. -/
theorem keeps_grown {n : Nat} {z : Value} {w w' : World} (hg : w.grownBy w' z.ownBlock) : Keeps (FO n z) w w' := ⟨hg.size, fun k hk hl => hg.block k hl hk.2⟩
theorem fo_next {n : Nat} {z z' : Value} {w : World} (h : z'.ownBlock = z.ownBlock ∨ z'.ownBlock = some w.heap.size) : ∀ k, k < w.heap.size → FO n z k → FO n z' k := by
  intro k hk hf
  refine ⟨hf.1, fun e => ?_⟩
  rcases h with h | h
  · rw [h] at e; exact hf.2 e
  · rw [h] at e; simp at e; omega

/-- A command's twenty cells. -/
def sList (kind : Int) (name table col : Wd) (cols rows sets frm out : Value) (w8 : List Value) (order : Value) (down : Bool) (n : Int) : List Value :=
  [.int .i64 kind, .string name, .string table, .string col, cols, rows, sets, frm, out] ++ w8 ++ [order, .bool down, .int .i64 n]
/-- A command in memory. -/
structure IsS (F : Nat → Prop) (w : World) (s : Stm) (c : List Value) : Prop where
  is : ∃ cols rows sets frm out w8 order, c = sList s.kind s.name s.table s.col cols rows sets frm out w8 order s.down s.n ∧ w8.length = 8 ∧ IsL kCol F w cols s.cols ∧ IsL kRow F w rows s.rows ∧ IsL kSetE F w sets s.sets ∧ IsL kStr F w frm s.frm ∧ IsL kExpr F w out s.out ∧ IsE F w s.wher (.agg w8.toArray) ∧ IsL kExpr F w order s.order
def kStm : Elem Stm where
  size := 20
  R := IsS
  len h := by obtain ⟨cols, rows, sets, frm, out, w8, order, rfl, h8, _⟩ := h.is; simp [sList, h8]
  keep hk h := by
    obtain ⟨cols, rows, sets, frm, out, w8, order, h1, h2, h3, h4, h5, h6, h7, h8, h9⟩ := h.is
    exact ⟨cols, rows, sets, frm, out, w8, order, h1, h2, h3.keep hk, h4.keep hk, h5.keep hk, h6.keep hk, h7.keep hk, IsE.keep hk _ _ h8, h9.keep hk⟩
  mono hk h := by
    obtain ⟨cols, rows, sets, frm, out, w8, order, h1, h2, h3, h4, h5, h6, h7, h8, h9⟩ := h.is
    exact ⟨cols, rows, sets, frm, out, w8, order, h1, h2, h3.mono hk, h4.mono hk, h5.mono hk, h6.mono hk, h7.mono hk, IsE.mono hk _ _ h8, h9.mono hk⟩
/-- A command's cells, written out. -/
abbrev sA (kind : Int) (name table col : Wd) (cols rows sets frm out : Value) (op xk xn : Int) (xs s nmv : Wd) (n8 : Int) (sl order : Value) (down : Bool) (n : Int) : Array Value :=
  #[.int .i64 kind, .string name, .string table, .string col, cols, rows, sets, frm, out, .int .i64 op, .int .i64 xk, .int .i64 xn, .string xs, .string s, .string nmv, .int .i64 n8, sl, order, .bool down, .int .i64 n]
/-- The zero of a command; one of which nothing is said yet. -/
abbrev sZero : Array Value := sA 0 noW noW noW (.slice none 0 0) (.slice none 0 0) (.slice none 0 0) (.slice none 0 0) (.slice none 0 0) 0 0 0 noW noW noW 0 (.slice none 0 0) (.slice none 0 0) false 0
abbrev sBegun (k : Int) : Array Value := sA k noW noW noW (.slice none 0 0) (.slice none 0 0) (.slice none 0 0) (.slice none 0 0) (.slice none 0 0) 0 0 0 noW noW noW 0 (.slice none 0 0) (.slice none 0 0) false (-1)
def IsSl (v : Value) : Prop := ∃ ao n c, v = .slice ao n c
theorem isSl (ao : Option Addr) (n c : Nat) : IsSl (.slice ao n c) := ⟨ao, n, c, rfl⟩
theorem one_sA {kind : Int} {name table col : Wd} {cols rows sets frm out : Value} {op xk xn : Int} {xs s nmv : Wd} {n8 : Int} {sl order : Value} {down : Bool} {n : Int} (h1 : IsSl cols) (h2 : IsSl rows) (h3 : IsSl sets) (h4 : IsSl frm) (h5 : IsSl out) (h6 : IsSl sl) (h7 : IsSl order) :
    (sA kind name table col cols rows sets frm out op xk xn xs s nmv n8 sl order down n).all (·.oneCell') = true := by
  obtain ⟨_, _, _, rfl⟩ := h1
  obtain ⟨_, _, _, rfl⟩ := h2
  obtain ⟨_, _, _, rfl⟩ := h3
  obtain ⟨_, _, _, rfl⟩ := h4
  obtain ⟨_, _, _, rfl⟩ := h5
  obtain ⟨_, _, _, rfl⟩ := h6
  obtain ⟨_, _, _, rfl⟩ := h7
  simp [Value.oneCell']
theorem isL_one {α : Type} {K : Elem α} {F : Nat → Prop} {w : World} {sv : Value} {l : List α} (h : IsL K F w sv l) : IsSl sv := by obtain ⟨ao, c, rfl⟩ := h.shape; exact isSl _ _ _
theorem isS_mk {F : Nat → Prop} {w : World} {kind : Int} {name table col : Wd} {cols rows sets frm out : Value} {op xk xn : Int} {xs s nmv : Wd} {n8 : Int} {sl order : Value} {down : Bool} {n : Int} {lc : List ColD} {lr : List (List E)} {ls : List (Wd × E)} {lf : List Wd} {lo : List E} {e : E} {ld : List E}
    (h1 : IsL kCol F w cols lc) (h2 : IsL kRow F w rows lr) (h3 : IsL kSetE F w sets ls) (h4 : IsL kStr F w frm lf) (h5 : IsL kExpr F w out lo) (h6 : IsE F w e (.agg (eArr op ⟨xk, xn, xs⟩ s nmv n8 sl))) (h7 : IsL kExpr F w order ld) :
    kStm.R F w ⟨kind, name, table, col, lc, lr, ls, lf, lo, e, ld, down, n⟩ (sA kind name table col cols rows sets frm out op xk xn xs s nmv n8 sl order down n).toList :=
  ⟨cols, rows, sets, frm, out, (eArr op ⟨xk, xn, xs⟩ s nmv n8 sl).toList, order, rfl, rfl, h1, h2, h3, h4, h5, h6, h7⟩
/-- A block behind a store. -/
theorem upd {w : World} {b : Nat} {arr : Array Value} {t : TypeId} (h : w.heap[b]? = some (.cells arr t)) (i : Nat) (v : Value) : (w.setCell ⟨b, i, none⟩ v).heap[b]? = some (.cells (arr.setIfInBounds i v) t) := by
  simp only [World.setCell, Array.getElem?_modify, if_true, h]; rfl

theorem size_stm : (Try.prog.info? 36).map (·.size) = some 20 := by kernel_rfl
/-- A row stored whole. -/
theorem block_row {w : World} {g : Nat} {old cells : Array Value} {t : TypeId} (h : w.heap[g]? = some (.cells old t)) : (w.setRow g cells).heap[g]? = some (.cells cells t) := by
  simp only [World.setRow, Array.getElem?_modify, if_true, h]; rfl
theorem block_row_other {w : World} {g b : Nat} {x : Obj} (h : w.heap[b]? = some x) (hn : b ≠ g) (cells : Array Value) : (w.setRow g cells).heap[b]? = some x := by
  simp only [World.setRow, Array.getElem?_modify]
  rw [if_neg (fun e => hn e.symm)]; exact h
theorem Below.row {B : Nat} {w w' : World} (h : Below B w w') {b : Nat} (hb : B ≤ b) (cells : Array Value) : Below B w (w'.setRow b cells) :=
  ⟨h.os, h.tape, h.output, by simp [World.setRow]; exact h.size, fun k hk => by
    have := h.block k hk
    simp only [World.setRow, Array.getElem?_modify]
    rw [if_neg (by omega)]; exact this⟩
theorem Keeps.row {F : Nat → Prop} {w w' : World} (h : Keeps F w w') {b : Nat} (hb : ¬ F b) (cells : Array Value) : Keeps F w (w'.setRow b cells) :=
  ⟨by simp [World.setRow]; exact h.size, fun k hk hl => by
    have := h.block k hk hl
    simp only [World.setRow, Array.getElem?_modify]
    rw [if_neg (by rintro rfl; exact hb hk)]; exact this⟩

/-- Two results, of which the first lies in a block. -/
theorem results_two {P : Program} {fn : Func} {p q : Tmp} {ty : TypeId} (h : fn.results = #[.cell p ty, .tmp q]) (tmps : Array Value) (w : World) (g : Nat) (t : TypeId) (cs : Array Value) (fr : Nat × Nat) (d : TypeDesc) (v : Value)
    (hp : tmps.getD p undef = .pointer (some ⟨g, 0, none⟩)) (hq : tmps.getD q undef = v) (hg : w.heap[g]? = some (.cells cs t fr))
    (hu : P.underlying ty = some d) (hd : (match d with | .struct _ | .array _ _ => true | _ => false) = true) (hi : (P.info? ty).map (·.size) = some cs.size) :
    (results fn tmps).run P w = .ok (.tuple #[.agg cs, v]) w := by
  have hp' : tmps[p]?.getD undef = .pointer (some ⟨g, 0, none⟩) := by simpa using hp
  have hq' : tmps[q]?.getD undef = v := by simpa using hq
  simp [results, h, hp', hq', asAddr, run_loadVar_row w g t ty cs fr d hg hu hd hi]

end Go.Proofs.Ytabanbpnghidhaa

namespace Go.Proofs.Ytabanbpnghidhaa
open Go.RowKit

/-- The first number below n for which p is; -1: none. -/
def firstI (p : Nat → Bool) : Nat → Nat → Int
  | _, 0 => -1
  | i, n + 1 => if p i then (i : Int) else firstI p (i + 1) n

/-- Is there one below n for which p is? -/
def anyI (p : Nat → Bool) : Nat → Nat → Bool
  | _, 0 => false
  | i, n + 1 => p i || anyI p (i + 1) n
theorem anyI_eq (p : Nat → Bool) : ∀ (n i : Nat), anyI p i n = decide (0 ≤ firstI p i n)
  | 0, i => by simp [anyI, firstI]
  | n + 1, i => by
    rw [anyI, firstI, anyI_eq p n (i + 1)]
    cases p i
    · simp
    · simp
theorem firstI_step (p : Nat → Bool) (k n : Nat) (h : k < n) : firstI p k (n - k) = if p k then (k : Int) else firstI p (k + 1) (n - (k + 1)) := by
  rw [show n - k = (n - (k + 1)) + 1 from by omega, firstI]
/-- An index: api.Index. -/
structure IdxD where
  name : Wd
  table : Wd
  col : Wd
def kIdx : Elem IdxD where
  size := 3
  R _ _ x c := c = [.string x.name, .string x.table, .string x.col]
  len h := by subst h; rfl
  keep _ h := h
  mono _ h := h
def kNum : Elem Int where
  size := 1
  R _ _ x c := c = [.int .i64 x]
  len h := by subst h; rfl
  keep _ h := h
  mono _ h := h
/-- A table: api.Table. -/
structure TabD where
  name : Wd
  cols : List ColD
def kTab : Elem TabD where
  size := 2
  R F w x c := ∃ sv, c = [.string x.name, sv] ∧ IsL kCol F w sv x.cols
  len h := by obtain ⟨sv, rfl, _⟩ := h; rfl
  keep hk h := by obtain ⟨sv, h1, h2⟩ := h; exact ⟨sv, h1, h2.keep hk⟩
  mono hk h := by obtain ⟨sv, h1, h2⟩ := h; exact ⟨sv, h1, h2.mono hk⟩

theorem all_get {α : Type} {K : Elem α} {F : Nat → Prop} {w : World} : ∀ {l : List α} {cs : List Value} {i : Nat} {x : α}, All K F w l cs → l[i]? = some x → ∃ c, K.R F w x c ∧ ∀ j u, c[j]? = some u → cs[i * K.size + j]? = some u
  | a :: l, cs, 0, x, h, hx => by
    obtain ⟨c, rest, rfl, h2, _⟩ := h
    simp at hx; subst hx
    refine ⟨c, h2, fun j u hj => ?_⟩
    rw [List.getElem?_append_left (by have := (List.getElem?_eq_some_iff.1 hj).1; omega)]
    simpa using hj
  | a :: l, cs, i + 1, x, h, hx => by
    obtain ⟨c, rest, rfl, h2, h3⟩ := h
    simp only [List.getElem?_cons_succ] at hx
    obtain ⟨d, d1, d2⟩ := all_get h3 hx
    refine ⟨d, d1, fun j u hj => ?_⟩
    have := K.len h2
    rw [List.getElem?_append_right (by rw [this, Nat.add_mul]; omega), this, show (i + 1) * K.size + j - K.size = i * K.size + j from by rw [Nat.add_mul]; omega]
    exact d2 j u hj
  | [], _, _, _, _, hx => by simp at hx
/-- An element of a list: where it lies. -/
theorem isL_get {α : Type} {K : Elem α} {F : Nat → Prop} {w : World} {ao : Option Addr} {n c : Nat} {l : List α} (h : IsL K F w (.slice ao n c) l) {i : Nat} {x : α} (hx : l[i]? = some x) :
    ∃ b off cs, ao = some ⟨b, off, none⟩ ∧ F b ∧ b < w.heap.size ∧ K.R F w x cs ∧ ∀ j u, cs[j]? = some u → w.cell? ⟨b, off + i * K.size + j, none⟩ = some u := by
  obtain ⟨cs, hr, ha⟩ := h
  obtain ⟨d, d1, d2⟩ := all_get ha hx
  have hi : i < l.length := (List.getElem?_eq_some_iff.1 hx).1
  rcases hr.2 with ⟨h0, _⟩ | ⟨_, b, off, cap, he, hF, hb, _, _, hc⟩
  · omega
  · cases he
    exact ⟨b, off, d, rfl, hF, hb, d1, fun j u hj => by rw [Nat.add_assoc]; exact hc _ u (d2 j u hj)⟩
theorem isL_len {α : Type} {K : Elem α} {F : Nat → Prop} {w : World} {ao : Option Addr} {n c : Nat} {l : List α} (h : IsL K F w (.slice ao n c) l) : n = l.length ∧ l.length ≤ maxLen := by
  obtain ⟨cs, hr, _⟩ := h
  rcases hr.2 with ⟨h0, ao', c', he, _⟩ | ⟨_, b, off, cap, he, _, _, h1, h2, _⟩
  · cases he; exact ⟨h0.symm, by rw [h0]; exact Nat.zero_le _⟩
  · cases he; exact ⟨rfl, by omega⟩

end Go.Proofs.Ytabanbpnghidhaa


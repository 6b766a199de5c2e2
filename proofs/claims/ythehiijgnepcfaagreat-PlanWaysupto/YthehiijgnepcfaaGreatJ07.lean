/-
  8 texts of this proof in one, in build order: YFind, Vals, FMath, PMath, First, Values, Args, PMem.
-/
import Derived.Test.YthehiijgnepcfaaGreatRows
import Derived.Laws.AppendOwn
import Derived.WalkKit
import Derived.WalkSpells
import Derived.WalkLawsBesides
import Derived.Lib.Bytealg
import Derived.Lib.IndexLaws
import Derived.Lib.EndianBits
import Derived.Deep.QuietTactic
import Derived.BigQuiet
import Derived.Test.YthehiijgnepcfaaGreatJ01
import Derived.Test.YthehiijgnepcfaaGreatJ02
import Derived.Test.YthehiijgnepcfaaGreatJ04
import Derived.Test.YthehiijgnepcfaaGreatJ05
import Derived.Test.YthehiijgnepcfaaGreatJ06
namespace Go.Proofs.YthehiijgnepcfaaGreat
open Go.RowKit Go.Maps

theorem beq_str (a b : Wd) : (a.toList == b.toList) = decide (a = b) := by
  rw [Bool.eq_iff_iff, beq_iff_eq, decide_eq_true_eq, ByteArray.toList_eq, ByteArray.toList_eq]
  constructor
  · intro h; exact ByteArray.ext (Array.toList_inj.1 h)
  · rintro rfl; rfl
/-- The place of a column; -1: there is none. -/
def colAt (l : List ColD) (s : Wd) : Int := firstI (atI l fun x => decide (x.name = s)) 0 l.length
/-- The table of a name. -/
def tabOf (T : List TabD) (s : Wd) : Option TabD := T.find? fun x => decide (x.name = s)

set_option maxHeartbeats 1000000 in
theorem findCol1_any (x : ColD) (pb : Nat) (s : Wd) (w : World) (hp : w.cell? ⟨pb, 0, none⟩ = some (.string s)) (hpb : pb < w.heap.size) :
    Calls Tryz.prog 121 #[.agg #[.string x.name, .int .i64 x.ty, .bool x.must], .pointer (some ⟨pb, 0, none⟩)] w fun e w' => e = .returned (.bool (decide (x.name = s))) ∧ Below w.heap.size w w' := by
  obtain ⟨name, ty, must⟩ := x
  simp only
  have E : Hid (decide (name = s) = (name.toList == s.toList)) := (beq_str _ _).symm
  generalize decide (name = s) = r at E
  have hp1 := ((bel1 w (.cells #[.string name, .int .i64 ty, .bool must] 63)).cell (p := ⟨pb, 0, none⟩) hpb).trans hp
  go_enter Tryz.func121, Tryz.ntmps121
  go_wp2
  go_ret
  exact ⟨ret_bool (by rw [E.out]), bel1 _ _⟩

set_option maxHeartbeats 1000000 in
theorem findTable1_any (x : TabD) (sv : Value) (hsv : IsSl sv) (pb : Nat) (s : Wd) (w : World) (hp : w.cell? ⟨pb, 0, none⟩ = some (.string s)) (hpb : pb < w.heap.size) :
    Calls Tryz.prog 19 #[.agg #[.string x.name, sv], .pointer (some ⟨pb, 0, none⟩)] w fun e w' => e = .returned (.bool (decide (x.name = s))) ∧ Below w.heap.size w w' := by
  obtain ⟨name, cols⟩ := x
  obtain ⟨ao, n, c, rfl⟩ := hsv
  simp only
  have E : Hid (decide (name = s) = (name.toList == s.toList)) := (beq_str _ _).symm
  generalize decide (name = s) = r at E
  have hp1 := ((bel1 w (.cells #[.string name, .slice ao n c] 43)).cell (p := ⟨pb, 0, none⟩) hpb).trans hp
  go_enter Tryz.func19, Tryz.ntmps19
  go_wp2
  go_ret
  exact ⟨ret_bool (by rw [E.out]), bel1 _ _⟩

set_option maxHeartbeats 2000000 in
theorem findCol_any (l : List ColD) (nmv : Wd) (sv : Value) (s : Wd) (C : Nat) (w : World) (hl : IsL kCol (fun k => k < C) w sv l) (hC : C ≤ w.heap.size) :
    Calls Tryz.prog 71 #[.agg #[.string nmv, sv], .string s] w fun e w' => e = .returned (.int .i64 (colAt l s)) ∧ Below w.heap.size w w' := by
  obtain ⟨ao, c, rfl⟩ := hl.shape
  have hb2 := bel2 w (.cells #[.string nmv, .slice ao l.length c] 43) (.cells #[.string s] 9)
  have HC := index_findCol l (fun k => k < C) ao l.length c (.pointer (some ⟨w.heap.size + 1, 0, none⟩)) (atI l fun x => decide (x.name = s))
    (fun _ W => W.cell? ⟨w.heap.size + 1, 0, none⟩ = some (.string s) ∧ Below w.heap.size w W ∧ w.heap.size + 2 ≤ W.heap.size) (fun W => Below w.heap.size w W)
    ((w.alloc (.cells #[.string nmv, .slice ao l.length c] 43)).alloc (.cells #[.string s] 9)) (fun i W h => h.2.1) (fun i W h => hl.keep (keepsC (h.2.1.mono hC)))
    (by
      rintro i x cs W hx ⟨h1, h2, h3⟩ rfl
      refine (findCol1_any x (w.heap.size + 1) s W h1 (by omega)).mono ?_
      rintro e W' ⟨rfl, hb⟩
      have hbW : Below w.heap.size w W' := h2.trans (hb.mono h2.size)
      exact ⟨by rw [atI_get hx], hbW, fun _ => ⟨(hb.cell (p := ⟨w.heap.size + 1, 0, none⟩) (show w.heap.size + 1 < W.heap.size by omega)).trans h1, hbW, Nat.le_trans h3 hb.size⟩⟩)
    ⟨cell_of_block (block2 _ _ _) rfl, hb2, by simp⟩
  have E : Hid (colAt l s = firstI (atI l fun x => decide (x.name = s)) 0 l.length) := rfl
  generalize colAt l s = r at E
  generalize firstI (atI l fun x => decide (x.name = s)) 0 l.length = q at E HC
  clear hl
  go_enter Tryz.func71, Tryz.ntmps71
  go_wp2_with (go_at_call 120; go_fit HC; rintro e w1 ⟨rfl, hb1⟩)
  go_ret
  exact ⟨ret_int (by rw [E.out]), hb1⟩

/-- A table and whether it is there are answered. -/
theorem end_tab {fn : Func} {p q : Tmp} {w : World} {g : Nat} {a : Act} {c0 c1 : Value} {t : TypeId} {fr : Nat × Nat} {R : Ending → World → Prop} (nmv : Wd) (sv : Value) (there : Bool) (hr : fn.results = #[.cell p 43, .tmp q]) (hp : a.tmps.getD p undef = .pointer (some ⟨g, 0, none⟩)) (hq : a.tmps.getD q undef = .bool there) (hd : a.defers = [])
    (hg : w.heap[g]? = some (.cells #[c0, c1] t fr)) (hR : R (.returned (.tuple #[.agg #[.string nmv, sv], .bool there])) ((w.setCell ⟨g, 0, none⟩ (.string nmv)).setCell ⟨g, 1, none⟩ sv)) :
    bodyPost Tryz.prog fn R .ret a ((w.setCell ⟨g, 0, none⟩ (.string nmv)).setCell ⟨g, 1, none⟩ sv) :=
  bodyPost_ret (results_two hr a.tmps _ g t _ fr _ _ hp hq (set_at (set_at hg 0 _) 1 _) Tryz.underlying43 rfl (by kernel_rfl)) hd hR
/-- What FindTable answers. -/
def FindPost (T : List TabD) (s : Wd) (F : Nat → Prop) (w : World) (e : Ending) (w' : World) : Prop :=
  ∃ nmv ao n c there, e = .returned (.tuple #[.agg #[.string nmv, .slice ao n c], .bool there]) ∧ (match tabOf T s with | some t => there = true ∧ nmv = t.name ∧ IsL kCol F w' (.slice ao n c) t.cols | none => there = false ∧ nmv = noW ∧ ao = none ∧ n = 0 ∧ c = 0) ∧ Below w.heap.size w w'

set_option maxHeartbeats 2000000 in
theorem findTable_any (T : List TabD) (tv iv : Value) (hiv : IsSl iv) (s : Wd) (C : Nat) (w : World) (hl : IsL kTab (fun k => k < C) w tv T) (hC : C ≤ w.heap.size) :
    Calls Tryz.prog 6 #[.agg #[tv, iv], .string s] w (FindPost T s (fun k => k < C) w) := by
  obtain ⟨ao, c, rfl⟩ := hl.shape
  obtain ⟨io, il, ic, rfl⟩ := hiv
  have hb3 := bel3 w (.cells #[.slice ao T.length c, .slice io il ic] 25) (.cells #[.string s] 9) (.cells #[.string noW, .slice none 0 0] 43)
  have HC := index_findTable T (fun k => k < C) ao T.length c (.pointer (some ⟨w.heap.size + 1, 0, none⟩)) (atI T fun x => decide (x.name = s))
    (fun _ W => W.cell? ⟨w.heap.size + 1, 0, none⟩ = some (.string s) ∧ Below (w.heap.size + 3) (((w.alloc (.cells #[.slice ao T.length c, .slice io il ic] 25)).alloc (.cells #[.string s] 9)).alloc (.cells #[.string noW, .slice none 0 0] 43)) W) (fun W => Below (w.heap.size + 3) (((w.alloc (.cells #[.slice ao T.length c, .slice io il ic] 25)).alloc (.cells #[.string s] 9)).alloc (.cells #[.string noW, .slice none 0 0] 43)) W)
    (((w.alloc (.cells #[.slice ao T.length c, .slice io il ic] 25)).alloc (.cells #[.string s] 9)).alloc (.cells #[.string noW, .slice none 0 0] 43)) (fun i W h => h.2) (fun i W h => hl.keep (keepsC ((hb3.mono hC).trans (h.2.mono (by omega)))))
    (by
      rintro i x cs W hx ⟨h1, h2⟩ ⟨sv, rfl, hsv⟩
      have hsz := h2.size
      rw [show (((w.alloc (.cells #[.slice ao T.length c, .slice io il ic] 25)).alloc (.cells #[.string s] 9)).alloc (.cells #[.string noW, .slice none 0 0] 43)).heap.size = w.heap.size + 3 from by simp] at hsz
      refine (findTable1_any x sv (isL_one hsv) (w.heap.size + 1) s W h1 (by omega)).mono ?_
      rintro e W' ⟨rfl, hb⟩
      have hbW := h2.trans (hb.mono hsz)
      exact ⟨by rw [atI_get hx], hbW, fun _ => ⟨(hb.cell (p := ⟨w.heap.size + 1, 0, none⟩) (show w.heap.size + 1 < W.heap.size by omega)).trans h1, hbW⟩⟩)
    ⟨cell_of_block (block_alloc_of (block2 _ _ _) _) rfl, Below.refl _ _⟩
  rcases find_cases T (fun x => decide (x.name = s)) with ⟨h1, h2⟩ | ⟨k, t, h1, h2, h3, h4⟩
  · rw [h1] at HC
    have HP : Hid (tabOf T s = none) := h2
    clear h1 h2
    go_enter Tryz.func6, Tryz.ntmps6
    go_wp2_with (go_at_call 18; go_fit HC; rintro e w1 ⟨rfl, hb1⟩; obtain ⟨z1, q1, r1, s1, t1⟩ := three (g := w.heap.size) (hb1.mono (by simp)) (by simp))
    have hbl := (hb1.block (w.heap.size + 2) (by omega)).trans (block3 w (.cells #[.slice ao T.length c, .slice io il ic] 25) (.cells #[.string s] 9) (.cells #[.string noW, .slice none 0 0] 43))
    have hbw : Below w.heap.size w w1 := hb3.trans (hb1.mono (by omega))
    exact end_tab noW (.slice none 0 0) false Tryz.results6 rfl rfl rfl hbl ⟨noW, none, 0, 0, false, rfl, by rw [HP.out]; exact ⟨rfl, rfl, rfl, rfl, rfl⟩, (hbw.setCell (show w.heap.size ≤ w.heap.size + 2 by omega) _).setCell (show w.heap.size ≤ w.heap.size + 2 by omega) _⟩
  · rw [h1] at HC
    have HP : Hid (tabOf T s = some t) := h4
    obtain ⟨b, off, cs, rfl, hbC, hbl, ⟨sv, rfl, hsv⟩, hcell⟩ := isL_get hl h2
    obtain ⟨so, sc, rfl⟩ := hsv.shape
    have d0 := hcell 0 _ rfl
    have d1 := hcell 1 _ rfl
    simp only [kTab, Nat.add_zero] at d0 d1
    have hk : k < T.length := (List.getElem?_eq_some_iff.1 h2).1
    have k0 : (0 : Int) ≤ (k : Int) := by omega
    have k1 : (k : Int) < (T.length : Int) := by omega
    have k2 : ¬ (k : Int) < 0 := by omega
    clear h1 h2 h3 h4 hcell
    go_enter Tryz.func6, Tryz.ntmps6
    go_wp2_with (go_at_call 18; go_fit HC; rintro e w1 ⟨rfl, hb1⟩; obtain ⟨z1, q1, r1, s1, t1⟩ := three (g := w.heap.size) (hb1.mono (by simp)) (by simp); have hbw : Below w.heap.size w w1 := hb3.trans (hb1.mono (by omega)); have d2 := (hbw.cell (p := ⟨b, off + k * 2, none⟩) hbl).trans d0; have d3 := (hbw.cell (p := ⟨b, off + k * 2 + 1, none⟩) hbl).trans d1)
    have hbl2 := (hb1.block (w.heap.size + 2) (by omega)).trans (block3 w (.cells #[.slice (some ⟨b, off, none⟩) T.length c, .slice io il ic] 25) (.cells #[.string s] 9) (.cells #[.string noW, .slice none 0 0] 43))
    have hbF : Below w.heap.size w ((w1.setCell ⟨w.heap.size + 2, 0, none⟩ (.string t.name)).setCell ⟨w.heap.size + 2, 1, none⟩ (.slice so t.cols.length sc)) := (hbw.setCell (show w.heap.size ≤ w.heap.size + 2 by omega) _).setCell (show w.heap.size ≤ w.heap.size + 2 by omega) _
    exact end_tab t.name (.slice so t.cols.length sc) true Tryz.results6 rfl rfl rfl hbl2 ⟨t.name, so, t.cols.length, sc, true, rfl, by rw [HP.out]; exact ⟨rfl, rfl, hsv.keep (keepsC (hbF.mono hC))⟩, hbF⟩

end Go.Proofs.YthehiijgnepcfaaGreat

namespace Go.Proofs.YthehiijgnepcfaaGreat
open Go.RowKit

/-- The slice v has the values L. -/
def IsVals (w : World) (v : Value) (L : List V) : Prop :=
  ((∃ ao cap, v = .slice ao 0 cap ∧ (ao = none → cap = 0)) ∧ L = []) ∨ ∃ b off cap, v = .slice (some ⟨b, off, none⟩) L.length cap ∧ b < w.heap.size ∧ HoldsV w b off L

theorem IsVals.below {w w' : World} {v : Value} {L : List V} (h : IsVals w v L) (hb : Below w.heap.size w w') : IsVals w' v L := by
  rcases h with h | ⟨b, off, cap, h1, h2, h3⟩
  · exact .inl h
  · exact .inr ⟨b, off, cap, h1, Nat.lt_of_lt_of_le h2 hb.size, h3.below hb h2⟩

theorem IsVals.shape {w : World} {v : Value} {L : List V} (h : IsVals w v L) : ∃ ao cap, v = .slice ao L.length cap := by
  rcases h with ⟨⟨ao, cap, rfl, _⟩, rfl⟩ | ⟨b, off, cap, rfl, _, _⟩
  · exact ⟨ao, cap, rfl⟩
  · exact ⟨_, cap, rfl⟩

/-- Values as cells. -/
def vcells (L : List V) : List Value := L.flatMap V.cells
theorem vcells_snoc (L : List V) (v : V) : vcells (L ++ [v]) = vcells L ++ v.cells := by simp [vcells]
theorem vcells_at : ∀ (L : List V) (i : Nat) (v : V), L[i]? = some v → (vcells L)[i * 3]? = some (.int .i64 v.k) ∧ (vcells L)[i * 3 + 1]? = some (.int .i64 v.n) ∧ (vcells L)[i * 3 + 2]? = some (.string v.s)
  | x :: L, 0, v, h => by
    simp at h; subst h
    simp [vcells, V.cells]
  | x :: L, i + 1, v, h => by
    have := vcells_at L i v (by simpa using h)
    have e : vcells (x :: L) = .int .i64 x.k :: .int .i64 x.n :: .string x.s :: vcells L := by simp [vcells, V.cells]
    rw [e, show (i + 1) * 3 = i * 3 + 1 + 1 + 1 from by omega]
    exact this

/-- What Values has made is a list of values. -/
theorem IsVals.of_own {w : World} {base : Nat} {lv : Value} {L : List V} (h : w.ownsRow base 32 3 lv L.length (vcells L)) : IsVals w lv L := by
  rcases h.2 with ⟨rfl, h0⟩ | ⟨g, cap, cur, rfl, _, hg, _⟩
  · exact .inl ⟨⟨none, 0, rfl, fun _ => rfl⟩, List.eq_nil_of_length_eq_zero h0⟩
  · refine .inr ⟨g, 0, cap, rfl, lt_of_block hg, fun i v hi => ?_⟩
    obtain ⟨h0, h1, h2⟩ := vcells_at L i v hi
    have c0 := h.cells (g := g) rfl _ _ h0
    have c1 := h.cells (g := g) rfl _ _ h1
    have c2 := h.cells (g := g) rfl _ _ h2
    rw [Addr.add_lit] at c0 c1 c2
    exact ⟨c0, by rw [Nat.add_assoc]; exact c1, by rw [Nat.add_assoc]; exact c2⟩

theorem HoldsV.cells {w : World} {b off : Nat} : ∀ {L : List V}, HoldsV w b off L → ∀ j u, (vcells L)[j]? = some u → w.cell? ((⟨b, off, none⟩ : Addr).add j) = some u := by
  intro L h j u hj
  have hl : (vcells L).length = L.length * 3 := by
    clear h hj
    induction L with
    | nil => rfl
    | cons x L ih => simp [vcells, V.cells] at ih ⊢; omega
  have hjl := (List.getElem?_eq_some_iff.1 hj).1
  obtain ⟨v, hv⟩ : ∃ v, L[j / 3]? = some v := ⟨_, List.getElem?_eq_getElem (by omega)⟩
  obtain ⟨a0, a1, a2⟩ := vcells_at L _ _ hv
  obtain ⟨c0, c1, c2⟩ := h _ _ hv
  rw [Addr.add_lit]
  rcases (show j = j / 3 * 3 ∨ j = j / 3 * 3 + 1 ∨ j = j / 3 * 3 + 2 from by omega) with e | e | e
  · rw [e] at hj ⊢
    rw [a0] at hj; simp at hj; subst hj; exact c0
  · rw [e] at hj ⊢
    rw [a1] at hj; simp at hj; subst hj; rw [← Nat.add_assoc]; exact c1
  · rw [e] at hj ⊢
    rw [a2] at hj; simp at hj; subst hj; rw [← Nat.add_assoc]; exact c2
theorem vcells_length (L : List V) : (vcells L).length = L.length * 3 := by
  induction L with
  | nil => rfl
  | cons x L ih => simp [vcells, V.cells] at ih ⊢; omega
theorem vcells_one (L : List V) : ∀ u ∈ vcells L, u.oneCell' = true := by
  intro u hu
  simp only [vcells, List.mem_flatMap] at hu
  obtain ⟨v, _, hu⟩ := hu
  simp [V.cells] at hu
  rcases hu with rfl | rfl | rfl <;> rfl

end Go.Proofs.YthehiijgnepcfaaGreat

namespace Go.Proofs.YthehiijgnepcfaaGreat

/-- May a value stand in a column? A row in a table? -/
def fitV (c : ColD) (v : V) : Bool := good v && (decide (v.k = c.ty) || (!c.must && decide (v.k = 0)))
def fitsI (t : TabD) (r : List V) (i : Nat) : Bool := match t.cols[i]?, r[i]? with
  | some c, some v => !fitV c v
  | _, _ => false
def fitsRow (t : TabD) (r : List V) : Bool := decide (r.length = t.cols.length) && !anyI (fitsI t r) 0 t.cols.length

theorem anyI_false {p : Nat → Bool} : ∀ {n i : Nat}, anyI p i n = false → ∀ j, i ≤ j → j < i + n → p j = false
  | 0, i, _, j, h1, h2 => by omega
  | n + 1, i, h, j, h1, h2 => by
    rw [anyI, Bool.or_eq_false_iff] at h
    rcases Nat.eq_or_lt_of_le h1 with e | e
    · rw [← e]; exact h.1
    · exact anyI_false h.2 j e (by omega)
theorem fitsRow_good {t : TabD} {r : List V} (h : fitsRow t r = true) : r.length = t.cols.length ∧ ∀ v ∈ r, good v = true := by
  simp only [fitsRow, Bool.and_eq_true, decide_eq_true_eq, Bool.not_eq_true'] at h
  refine ⟨h.1, fun v hv => ?_⟩
  obtain ⟨i, hi, rfl⟩ := List.getElem_of_mem hv
  have := anyI_false h.2 i (Nat.zero_le _) (by omega)
  unfold fitsI at this
  rw [List.getElem?_eq_getElem hi, List.getElem?_eq_getElem (by omega : i < t.cols.length)] at this
  simp only [Bool.not_eq_false'] at this
  simp only [fitV, Bool.and_eq_true] at this
  exact this.1


end Go.Proofs.YthehiijgnepcfaaGreat

namespace Go.Proofs.YthehiijgnepcfaaGreat

abbrev PL := List (ByteArray × ByteArray)

theorem mem_putF {F : PL} {k v : ByteArray} {x : ByteArray × ByteArray} : x ∈ putF F k v ↔ x = (k, v) ∨ (x ∈ F ∧ x.1 ≠ k) := by
  unfold putF
  simp only [List.mem_append, List.mem_cons, List.mem_filter]
  constructor
  · rintro (⟨h1, h2⟩ | h | ⟨h1, h2⟩)
    · exact .inr ⟨h1, klt_ne h2⟩
    · exact .inl h
    · exact .inr ⟨h1, (klt_ne h2).symm⟩
  · rintro (h | ⟨h1, h2⟩)
    · exact .inr (.inl h)
    · cases hk : klt x.1 k with
      | true => exact .inl ⟨h1, rfl⟩
      | false =>
        rcases klt_tri hk with e | e
        · exact absurd e h2
        · exact .inr (.inr ⟨h1, e⟩)
theorem mem_dropF {F : PL} {k : ByteArray} {x : ByteArray × ByteArray} : x ∈ dropF F k ↔ x ∈ F ∧ x.1 ≠ k := by simp [dropF]
theorem getF_none {F : PL} {k : ByteArray} : getF F k = none ↔ ∀ x ∈ F, x.1 ≠ k := by simp [getF, List.find?_eq_none]

/-- With what a table's keys begin; an index's. -/
def rbeg (t : Wd) : Wd := (⟨#[114]⟩ ++ t) ++ ⟨#[0]⟩
def ibeg (x : Wd) : Wd := (⟨#[120]⟩ ++ x) ++ ⟨#[0]⟩
/-- P6.1: where a row is, and where an index has it. -/
def rkey (t : Wd) (id : V) : Wd := rbeg t ++ str (keyAns [id]).1
def ikey (x : Wd) (v id : V) : Wd := ibeg x ++ str (keyAns [v, id]).1
theorem rbeg_data (t : Wd) : (rbeg t).data.toList = 114 :: (t.data.toList ++ [0]) := by simp [rbeg, ByteArray.data_append]
theorem ibeg_data (t : Wd) : (ibeg t).data.toList = 120 :: (t.data.toList ++ [0]) := by simp [ibeg, ByteArray.data_append]
theorem rkey_data (t : Wd) (id : V) : (rkey t id).data.toList = 114 :: (t.data.toList ++ 0 :: (keyAns [id]).1) := by
  rw [rkey, ByteArray.data_append, Array.toList_append, rbeg_data, str_data]; simp
theorem ikey_data (x : Wd) (v id : V) : (ikey x v id).data.toList = 120 :: (x.data.toList ++ 0 :: (keyAns [v, id]).1) := by
  rw [ikey, ByteArray.data_append, Array.toList_append, ibeg_data, str_data]; simp
theorem rkey_ne_ikey (t x : Wd) (a v id : V) : rkey t a ≠ ikey x v id := by
  intro h
  have := congrArg (fun s : ByteArray => s.data.toList) h
  simp only [rkey_data, ikey_data, List.cons.injEq] at this
  exact absurd this.1 (by decide)

/-- The place of the column that an index is of; -1: none of the table. -/
def idxAt (t : TabD) (x : IdxD) : Int := if x.table = t.name then colAt t.cols x.col else -1
def ikOf (t : TabD) (r : List V) (x : IdxD) : Option Wd := if 0 ≤ idxAt t x then some (ikey x.name (r.getD (idxAt t x).toNat zero) (r.headD zero)) else none
def iks (I : List IdxD) (t : TabD) (r : List V) : List Wd := I.filterMap (ikOf t r)
def putsE (F : PL) (l : List Wd) : PL := l.foldl (fun F k => putF F k noW) F
def dropsE (F : PL) (l : List Wd) : PL := l.foldl dropF F
def rk (t : TabD) (r : List V) : Wd := rkey t.name (r.headD zero)
/-- P6.1: Put, Drop. -/
def putRow (F : PL) (I : List IdxD) (t : TabD) (r : List V) : PL := putsE (putF F (rk t r) (str (keyAns r).1)) (iks I t r)
def dropRow (F : PL) (I : List IdxD) (t : TabD) (r : List V) : PL := dropsE (dropF F (rk t r)) (iks I t r)

theorem mem_putsE {x : ByteArray × ByteArray} : ∀ (l : List Wd) (F : PL), (∀ y ∈ F, y.1 ∈ l → y.2 = noW) → (x ∈ putsE F l ↔ x ∈ F ∨ (x.1 ∈ l ∧ x.2 = noW))
  | [], F, _ => by simp [putsE]
  | k :: l, F, h => by
    have ih := mem_putsE (x := x) l (putF F k noW) (fun y hy hl => by
      rcases mem_putF.1 hy with e | ⟨h1, _⟩
      · rw [e]
      · exact h y h1 (by simp [hl]))
    have e : putsE F (k :: l) = putsE (putF F k noW) l := rfl
    rw [e, ih, mem_putF]
    constructor
    · rintro ((rfl | ⟨h1, _⟩) | ⟨h1, h2⟩)
      · exact .inr ⟨by simp, rfl⟩
      · exact .inl h1
      · exact .inr ⟨by simp [h1], h2⟩
    · rintro (h1 | ⟨h1, h2⟩)
      · by_cases hk : x.1 = k
        · have := h x h1 (by simp [hk])
          exact .inl (.inl (Prod.ext hk this))
        · exact .inl (.inr ⟨h1, hk⟩)
      · rcases List.mem_cons.1 h1 with h1 | h1
        · exact .inl (.inl (Prod.ext h1 h2))
        · exact .inr ⟨h1, h2⟩
theorem mem_dropsE {x : ByteArray × ByteArray} : ∀ (l : List Wd) (F : PL), x ∈ dropsE F l ↔ x ∈ F ∧ x.1 ∉ l
  | [], F => by simp [dropsE]
  | k :: l, F => by
    have e : dropsE F (k :: l) = dropsE (dropF F k) l := rfl
    rw [e, mem_dropsE l, mem_dropF]
    simp only [List.mem_cons, not_or]
    constructor
    · rintro ⟨⟨h1, h2⟩, h3⟩; exact ⟨h1, h2, h3⟩
    · rintro ⟨h1, h2, h3⟩; exact ⟨⟨h1, h2⟩, h3⟩
theorem mem_iks {I : List IdxD} {t : TabD} {r : List V} {k : Wd} (h : k ∈ iks I t r) : ∃ x v id, k = ikey x v id := by
  obtain ⟨x, _, hx⟩ := List.mem_filterMap.1 h
  unfold ikOf at hx
  split at hx
  · exact ⟨_, _, _, (Option.some.inj hx).symm⟩
  · cases hx
theorem iks_length (I : List IdxD) (t : TabD) (r : List V) : (iks I t r).length ≤ I.length := List.length_filterMap_le _ _

/-- What a row gives to a tree. -/
def Gives (I : List IdxD) (t : TabD) (r : List V) (x : ByteArray × ByteArray) : Prop := x = (rk t r, str (keyAns r).1) ∨ (x.1 ∈ iks I t r ∧ x.2 = noW)
/-- A tree has just the rows. -/
structure Kept (I : List IdxD) (t : TabD) (F : PL) (O : List (List V)) : Prop where
  mem : ∀ x, x ∈ F ↔ ∃ r ∈ O, Gives I t r x
  fit : ∀ r ∈ O, fitsRow t r = true
  uniq : O.Pairwise fun a b => rk t a ≠ rk t b
  len : O.length ≤ 20

theorem kept_nil (I : List IdxD) (t : TabD) : Kept I t [] [] := ⟨by simp, by simp, by simp, by simp⟩

theorem kept_step {I : List IdxD} {t : TabD} {F : PL} {O : List (List V)} {r : List V} (h : Kept I t F O) (hn : getF F (rk t r) = none) (hf : fitsRow t r = true) (hl : O.length < 20) : Kept I t (putRow F I t r) (O ++ [r]) := by
  have hn' := getF_none.1 hn
  refine ⟨fun x => ?_, ?_, ?_, by simp; omega⟩
  · unfold putRow
    rw [mem_putsE]
    · rw [mem_putF]
      constructor
      · rintro ((e | ⟨h1, _⟩) | h1)
        · exact ⟨r, by simp, .inl e⟩
        · obtain ⟨q, hq, hg⟩ := (h.mem x).1 h1
          exact ⟨q, by simp [hq], hg⟩
        · exact ⟨r, by simp, .inr h1⟩
      · rintro ⟨q, hq, hg⟩
        rcases List.mem_append.1 hq with hq | hq
        · have hx := (h.mem x).2 ⟨q, hq, hg⟩
          exact .inl (.inr ⟨hx, hn' x hx⟩)
        · obtain rfl : q = r := by simpa using hq
          rcases hg with e | e
          · exact .inl (.inl e)
          · exact .inr e
    · intro y hy hk
      obtain ⟨a, v, id, hk⟩ := mem_iks hk
      rcases mem_putF.1 hy with e | ⟨h1, _⟩
      · rw [e] at hk
        exact absurd hk (rkey_ne_ikey _ _ _ _ _)
      · obtain ⟨q, hq, hg⟩ := (h.mem y).1 h1
        rcases hg with e | e
        · rw [e] at hk
          exact absurd hk (rkey_ne_ikey _ _ _ _ _)
        · exact e.2
  · intro q hq
    rcases List.mem_append.1 hq with hq | hq
    · exact h.fit q hq
    · obtain rfl : q = r := by simpa using hq
      exact hf
  · rw [List.pairwise_append]
    refine ⟨h.uniq, by simp, fun a ha b hb => ?_⟩
    obtain rfl : b = r := by simpa using hb
    exact hn' (rk t a, str (keyAns a).1) ((h.mem _).2 ⟨a, ha, .inl rfl⟩)

/-- The way to all rows. -/
def allLo (t : Wd) : Wd := rbeg t ++ noW
def allHi (t : Wd) : Wd := rbeg t ++ (noW ++ ⟨#[255]⟩)
theorem allLo_data (t : Wd) : (allLo t).data.toList = 114 :: (t.data.toList ++ [0]) := by
  rw [allLo, ByteArray.data_append, Array.toList_append, rbeg_data]; simp
theorem allHi_data (t : Wd) : (allHi t).data.toList = 114 :: (t.data.toList ++ [0, 255]) := by
  rw [allHi, ByteArray.data_append, Array.toList_append, rbeg_data]; simp [ByteArray.data_append]

theorem klt_bytes (a b : ByteArray) : klt a b = Op.bytesLess a.data.toList b.data.toList := by
  unfold klt; rw [Lib.toList_data, Lib.toList_data]

theorem key_one {v : V} (h : good v = true) : (keyAns [v]).1 = keyOf v := by rw [keyAns_good (by simpa using h)]; simp [keys]
theorem less_nil (l : List UInt8) : Op.bytesLess l [] = false := by cases l <;> rfl

theorem rq_row {t : Wd} {v : V} (h : good v = true) (x : ByteArray) : rq (allLo t) (allHi t) (rkey t v, x) = true := by
  unfold rq
  rw [klt_bytes, klt_bytes, rkey_data, allLo_data, allHi_data, key_one h]
  obtain ⟨r, hr⟩ := keyOf_head h
  rw [hr]
  have e1 : ∀ (a b : List UInt8), Op.bytesLess (114 :: (t.data.toList ++ a)) (114 :: (t.data.toList ++ b)) = Op.bytesLess a b := fun a b => by
    have := less_app (114 :: t.data.toList) a b
    simpa using this
  rw [e1, e1]
  have e2 : ∀ (a b : List UInt8), Op.bytesLess (0 :: a) (0 :: b) = Op.bytesLess a b := fun a b => by
    have := less_app [0] a b
    simpa using this
  rw [e2, e2, less_nil]
  have : Op.bytesLess (UInt8.ofNat (v.k.toNat + 1) :: r) [255] = true := by
    refine less_lt ?_ _ _
    rcases good_kind h with e | e | e <;> rw [e] <;> decide
  rw [this]; rfl

theorem rq_index {t x : Wd} {v id : V} (y : ByteArray) : rq (allLo t) (allHi t) (ikey x v id, y) = false := by
  unfold rq
  rw [klt_bytes, klt_bytes, ikey_data, allLo_data, allHi_data]
  have h1 := less_asymm _ _ (less_lt (by decide : (114 : UInt8) < 120) (t.data.toList ++ [0, 255]) (x.data.toList ++ 0 :: (keyAns [v, id]).1))
  rw [h1, Bool.and_false]

/-- The row that stands at a key, if it is one of a table of n columns. -/
def rowOf (n : Nat) (x : Wd) : Option (List V) := match vals x.data.toList with
  | some L => if 0 < L.length ∧ L.length = n then some L else none
  | none => none
def rowsOf (n : Nat) (R : PL) : List (List V) := (R.map Prod.snd).filterMap (rowOf n)

theorem rowOf_key {n : Nat} {r : List V} (h0 : 0 < n) (hl : r.length = n) (h : ∀ v ∈ r, good v = true) : rowOf n (str (keyAns r).1) = some r := by
  unfold rowOf
  rw [str_data, keyAns_good h, vals_keys r h]
  simp only
  rw [if_pos (by omega)]

theorem nodup_sub {α : Type} [DecidableEq α] : ∀ {A B : List α}, A.Nodup → (∀ x ∈ A, x ∈ B) → A.length ≤ B.length
  | [], B, _, _ => Nat.zero_le _
  | a :: A, B, hn, hs => by
    rw [List.nodup_cons] at hn
    have ha := hs a (by simp)
    have := nodup_sub (A := A) (B := B.erase a) hn.2 fun x hx => (List.mem_erase_of_ne (show x ≠ a from fun e => hn.1 (by rw [← e]; exact hx))).2 (hs x (by simp [hx]))
    rw [List.length_erase_of_mem ha] at this
    have h1 := List.length_pos_of_mem ha
    rw [List.length_cons]; omega

/-- What the way to all rows has of a tree that has just the rows. -/
theorem all_rows {I : List IdxD} {t : TabD} {T : List Pg} {O : List (List V)} (hT : GoodT T) (h : Kept I t (flat T) O) (h0 : 0 < t.cols.length) :
    ∃ A : List (List V), A.length = O.length ∧ rowsOf t.cols.length (rng T (allLo t.name) (allHi t.name)) = A ∧ (∀ r, r ∈ A ↔ r ∈ O) ∧ (rng T (allLo t.name) (allHi t.name)) = A.map (fun r => (rk t r, str (keyAns r).1)) := by
  have hR : ∀ x, x ∈ rng T (allLo t.name) (allHi t.name) ↔ ∃ r ∈ O, x = (rk t r, str (keyAns r).1) := by
    intro x
    unfold rng
    rw [List.mem_filter, h.mem]
    constructor
    · rintro ⟨⟨r, hr, hg⟩, hq⟩
      rcases hg with e | ⟨hk, e⟩
      · exact ⟨r, hr, e⟩
      · obtain ⟨a, v, id, hk⟩ := mem_iks hk
        have : x = (ikey a v id, x.2) := Prod.ext hk rfl
        rw [this, rq_index] at hq; cases hq
    · rintro ⟨r, hr, rfl⟩
      refine ⟨⟨r, hr, .inl rfl⟩, ?_⟩
      obtain ⟨hl, hg⟩ := fitsRow_good (h.fit r hr)
      refine rq_row (hg _ ?_) _
      cases r with
      | nil => simp at hl; omega
      | cons a r => simp
  have hd : ∀ r ∈ O, rowOf t.cols.length (str (keyAns r).1) = some r := fun r hr => by
    obtain ⟨hl, hg⟩ := fitsRow_good (h.fit r hr)
    exact rowOf_key h0 hl hg
  have hrise : Rise ((rng T (allLo t.name) (allHi t.name)).map Prod.fst) := hT.rise.sublist ((List.filter_sublist).map _)
  generalize rng T (allLo t.name) (allHi t.name) = R at hR hrise ⊢
  have key : ∀ R : PL, (∀ x ∈ R, ∃ r ∈ O, x = (rk t r, str (keyAns r).1)) → R = (rowsOf t.cols.length R).map (fun r => (rk t r, str (keyAns r).1)) ∧ (∀ r, r ∈ rowsOf t.cols.length R → r ∈ O) := by
    intro R
    induction R with
    | nil => intro _; exact ⟨rfl, by simp [rowsOf]⟩
    | cons x R ih =>
      intro hx
      obtain ⟨r, hr, rfl⟩ := hx x (by simp)
      obtain ⟨h1, h2⟩ := ih fun y hy => hx y (by simp [hy])
      have e : rowsOf t.cols.length ((rk t r, str (keyAns r).1) :: R) = r :: rowsOf t.cols.length R := by
        simp only [rowsOf, List.map_cons, List.filterMap_cons, hd r hr]
      rw [e]
      refine ⟨by rw [List.map_cons, ← h1], fun q hq => ?_⟩
      rcases List.mem_cons.1 hq with rfl | hq
      · exact hr
      · exact h2 q hq
  obtain ⟨k1, k2⟩ := key R fun x hx => (hR x).1 hx
  generalize rowsOf t.cols.length R = A at k1 k2
  refine ⟨A, ?_, rfl, fun r => ⟨k2 r, fun hr => ?_⟩, k1⟩
  · have hmap : R.map Prod.fst = A.map (rk t) := by rw [k1, List.map_map]; rfl
    have n1 : (A.map (rk t)).Nodup := by rw [← hmap]; exact hrise.imp fun h => klt_ne h
    have n2 : (O.map (rk t)).Nodup := by rw [List.Nodup, List.pairwise_map]; exact h.uniq
    have l1 := nodup_sub n1 (B := O.map (rk t)) fun x hx => by
      obtain ⟨r, hr, rfl⟩ := List.mem_map.1 hx
      exact List.mem_map.2 ⟨r, k2 r hr, rfl⟩
    have l2 := nodup_sub n2 (B := A.map (rk t)) fun x hx => by
      obtain ⟨r, hr, rfl⟩ := List.mem_map.1 hx
      rw [← hmap]
      exact List.mem_map.2 ⟨_, (hR _).2 ⟨r, hr, rfl⟩, rfl⟩
    rw [List.length_map, List.length_map] at l1 l2
    omega
  · have := (hR _).2 ⟨r, hr, rfl⟩
    rw [k1] at this
    obtain ⟨q, hq, e⟩ := List.mem_map.1 this
    have e2 := congrArg (fun p : ByteArray × ByteArray => rowOf t.cols.length p.2) e
    simp only [hd r hr, hd q (k2 q hq)] at e2
    rw [← Option.some.inj e2]; exact hq

/-- Rows whose keys rise: by their first values. -/
theorem rk_less {t : TabD} {a b : List V} (ha : good (a.headD zero) = true) (hb : good (b.headD zero) = true) (h : klt (rk t a) (rk t b) = true) : cmpV (a.headD zero) (b.headD zero) < 0 := by
  rw [klt_bytes, rk, rk, rkey_data, rkey_data, key_one ha, key_one hb] at h
  have e1 : Op.bytesLess (114 :: (t.name.data.toList ++ 0 :: keyOf (a.headD zero))) (114 :: (t.name.data.toList ++ 0 :: keyOf (b.headD zero))) = Op.bytesLess (keyOf (a.headD zero)) (keyOf (b.headD zero)) := by
    have := less_app (114 :: (t.name.data.toList ++ [0])) (keyOf (a.headD zero)) (keyOf (b.headD zero))
    simpa using this
  rw [e1] at h
  rcases order_cases [a.headD zero] [b.headD zero] rfl (by simpa using ha) (by simpa using hb) with ⟨e, _⟩ | ⟨_, e⟩ | ⟨_, e⟩
  · have : firstC [a.headD zero] [b.headD zero] = cmpV (a.headD zero) (b.headD zero) := by
      unfold firstC
      split
      · rename_i h0; rw [h0]; rfl
      · rfl
    rw [← this, e]; decide
  · simp only [keys, List.flatMap_cons, List.flatMap_nil, List.append_nil] at e
    rw [e, less_irrefl] at h; cases h
  · simp only [keys, List.flatMap_cons, List.flatMap_nil, List.append_nil] at e
    rw [less_asymm _ _ e] at h; cases h

/-- Dropped one by one. -/
def dropsR (F : PL) (I : List IdxD) (t : TabD) (A : List (List V)) : PL := A.foldl (fun F r => dropRow F I t r) F
theorem dropsR_snoc (F : PL) (I : List IdxD) (t : TabD) (A : List (List V)) (r : List V) : dropsR F I t (A ++ [r]) = dropRow (dropsR F I t A) I t r := by simp [dropsR]
theorem mem_dropsR {I : List IdxD} {t : TabD} {x : ByteArray × ByteArray} : ∀ (A : List (List V)) (F : PL), x ∈ dropsR F I t A ↔ x ∈ F ∧ ∀ r ∈ A, x.1 ≠ rk t r ∧ x.1 ∉ iks I t r
  | [], F => by simp [dropsR]
  | r :: A, F => by
    have e : dropsR F I t (r :: A) = dropsR (dropRow F I t r) I t A := rfl
    rw [e, mem_dropsR A, dropRow, mem_dropsE, mem_dropF]
    constructor
    · rintro ⟨⟨⟨h1, h2⟩, h3⟩, h4⟩
      refine ⟨h1, fun q hq => ?_⟩
      rcases List.mem_cons.1 hq with rfl | hq
      · exact ⟨h2, h3⟩
      · exact h4 q hq
    · rintro ⟨h1, h2⟩
      exact ⟨⟨⟨h1, (h2 r (by simp)).1⟩, (h2 r (by simp)).2⟩, fun q hq => h2 q (by simp [hq])⟩
theorem drops_all {I : List IdxD} {t : TabD} {F : PL} {O A : List (List V)} (h : Kept I t F O) (hA : ∀ r, r ∈ A ↔ r ∈ O) : dropsR F I t A = [] := by
  rw [List.eq_nil_iff_forall_not_mem]
  intro x hx
  obtain ⟨h1, h2⟩ := (mem_dropsR A F).1 hx
  obtain ⟨r, hr, hg⟩ := (h.mem x).1 h1
  obtain ⟨h3, h4⟩ := h2 r ((hA r).2 hr)
  rcases hg with e | e
  · rw [e] at h3; exact h3 rfl
  · exact h4 e.1

end Go.Proofs.YthehiijgnepcfaaGreat

namespace Go.Proofs.YthehiijgnepcfaaGreat
open Go.RowKit

set_option maxRecDepth 100000 in
set_option maxHeartbeats 400000 in
theorem sliteIndexByte_any (s : ByteArray) (c : Int) (w : World) :
    Calls Tryz.prog 178 #[.string s, .int .u8 c] w fun e w' => e = .returned (.int .i64 (Lib.indexByte s.data.toList c.toNat.toUInt8)) ∧ w' = w := by
  go_enter Tryz.func178, Tryz.ntmps178
  go_wp2
  rw [run_callFunc_extern Tryz.func186 (by kernel_rfl) (by kernel_rfl) (by kernel_rfl) (e := Extern.BytealgIndexByte.indexByte) (by kernel_rfl), Lib.run_indexByteString]
  simp only [Result.andThen]
  rw [Oper.upon_value]
  go_wp2
  go_ret
  exact ⟨rfl, rfl⟩

set_option maxHeartbeats 400000 in
theorem indexByte_any (s : ByteArray) (c : Int) (w : World) :
    Calls Tryz.prog 155 #[.string s, .int .u8 c] w fun e w' => e = .returned (.int .i64 (Lib.indexByte s.data.toList c.toNat.toUInt8)) ∧ w' = w := by
  go_enter Tryz.func155, Tryz.ntmps155
  go_wp2_with (go_at_call 178; refine (sliteIndexByte_any _ _ _).mono ?_; rintro e w' ⟨rfl, rfl⟩)
  go_ret
  exact ⟨rfl, rfl⟩

set_option maxHeartbeats 400000 in
theorem firstNumber_short (s : ByteArray) (w : World) (h : s.size < 5) :
    Calls Tryz.prog 113 #[.string s] w fun e w' => e = .returned (.tuple #[.agg #[.int .i64 0, .int .i64 0, .string ⟨#[]⟩], .int .i64 0]) ∧ Below w.heap.size w w' := by
  go_enter Tryz.func113, Tryz.ntmps113
  go_wp2
  exact bodyPost_ret (v := .tuple #[.agg #[.int .i64 0, .int .i64 0, .string ⟨#[]⟩], .int .i64 0]) (by simp [results, Tryz.results113, go_sem]) rfl ⟨rfl, (Below.refl _ _).alloc (Nat.le_refl _) _⟩

theorem or4 (a b c d : Nat) (ha : a < 256) (hb : b < 256) (hc : c < 256) (hd : d < 256) :
    bits BinOp.or IntKind.u32 (bits BinOp.or IntKind.u32 (bits BinOp.or IntKind.u32 ((a : Int) * 16777216) ((b : Int) * 65536)) ((c : Int) * 256)) (d : Int) = (a : Int) * 16777216 + (b : Int) * 65536 + (c : Int) * 256 + (d : Int) := by
  have e1 := bits_join .u32 32 (by decide) wraps_u32 24 ((a : Int) * 16777216) ((b : Int) * 65536) (by omega) (by omega) (by omega) (by omega) (by omega) (by omega)
  have e2 := bits_join .u32 32 (by decide) wraps_u32 16 ((a : Int) * 16777216 + (b : Int) * 65536) ((c : Int) * 256) (by omega) (by omega) (by omega) (by omega) (by omega) (by omega)
  have e3 := bits_join .u32 32 (by decide) wraps_u32 8 ((a : Int) * 16777216 + (b : Int) * 65536 + (c : Int) * 256) (d : Int) (by omega) (by omega) (by omega) (by omega) (by omega) (by omega)
  rw [e1, e2, e3]

set_option maxHeartbeats 400000 in
theorem firstNumber_long (s : ByteArray) (w : World) (h : 5 ≤ s.size) (hs : s.size ≤ maxLen) :
    Calls Tryz.prog 113 #[.string s] w fun e w' => e = .returned (.tuple #[.agg #[.int .i64 1, .int .i64 (n4 s.data.toList - 1073741824), .string ⟨#[]⟩], .int .i64 5]) ∧ Below w.heap.size w w' := by
  unfold maxLen at hs
  have h1 : (1 : Int) < (s.size : Int) := by omega
  have h2 : (2 : Int) < (s.size : Int) := by omega
  have h3 : (3 : Int) < (s.size : Int) := by omega
  have h4 : (4 : Int) < (s.size : Int) := by omega
  have b1 : s[1].toNat < 256 := s[1].toNat_lt
  have b2 : s[2].toNat < 256 := s[2].toNat_lt
  have b3 : s[3].toNat < 256 := s[3].toNat_lt
  have b4 : s[4].toNat < 256 := s[4].toNat_lt
  have ho := or4 s[1].toNat s[2].toNat s[3].toNat s[4].toNat b1 b2 b3 b4
  have hn : n4 s.data.toList = (s[1].toNat : Int) * (16777216 : Int) + (s[2].toNat : Int) * (65536 : Int) + (s[3].toNat : Int) * (256 : Int) + (s[4].toNat : Int) := by
    unfold n4; rw [getD_byte s 1 (by omega), getD_byte s 2 (by omega), getD_byte s 3 (by omega), getD_byte s 4 (by omega)]
  rw [← hn] at ho
  have hm0 : 0 ≤ n4 s.data.toList := by omega
  have hm1 : n4 s.data.toList < 4294967296 := by omega
  clear hn
  generalize n4 s.data.toList = m at ho hm0 hm1 ⊢
  go_enter Tryz.func113, Tryz.ntmps113
  go_wp2
  go_quiet (fail)
  go_wp2
  refine bodyPost_ret (v := .tuple #[.agg #[.int .i64 1, .int .i64 (m - 1073741824), .string ⟨#[]⟩], .int .i64 5]) (by simp [results, Tryz.results113, go_sem]) rfl ⟨rfl, ?_⟩
  exact (((below_drewN ((Below.refl _ _).alloc (Nat.le_refl _) _) _).setCell (Nat.le_refl _) _).setCell (Nat.le_refl _) _).setCell (Nat.le_refl _) _

set_option maxHeartbeats 400000 in
theorem firstText_none (s : ByteArray) (w : World) (h : Lib.indexByte s.data.toList 0 < 0) :
    Calls Tryz.prog 114 #[.string s] w fun e w' => e = .returned (.tuple #[.agg #[.int .i64 0, .int .i64 0, .string ⟨#[]⟩], .int .i64 0]) ∧ Below w.heap.size w w' := by
  generalize hi : Lib.indexByte s.data.toList 0 = i at h
  have HI : Hid (Lib.indexByte s.data.toList 0 = i) := hi
  clear hi
  go_enter Tryz.func114, Tryz.ntmps114
  go_wp2_with (go_at_call 155; go_must (refine (indexByte_any _ _ _).mono ?_; rintro e w' ⟨rfl, rfl⟩; rw [show Lib.indexByte s.data.toList (0 : Int).toNat.toUInt8 = i from HI.out]))
  exact bodyPost_ret (v := .tuple #[.agg #[.int .i64 0, .int .i64 0, .string ⟨#[]⟩], .int .i64 0]) (by simp [results, Tryz.results114, go_sem]) rfl ⟨rfl, (Below.refl _ _).alloc (Nat.le_refl _) _⟩

set_option maxHeartbeats 400000 in
theorem firstText_some (s : ByteArray) (w : World) (i : Nat) (hi : Lib.indexByte s.data.toList 0 = i) (h1 : 1 ≤ i) (h2 : i < s.size) (hs : s.size ≤ maxLen) :
    Calls Tryz.prog 114 #[.string s] w fun e w' => e = .returned (.tuple #[.agg #[.int .i64 2, .int .i64 0, .string (s.extract 1 i)], .int .i64 (i + 1)]) ∧ Below w.heap.size w w' := by
  unfold maxLen at hs
  have HI : Hid (Lib.indexByte s.data.toList 0 = i) := hi
  clear hi
  go_enter Tryz.func114, Tryz.ntmps114
  go_wp2_with (go_at_call 155; go_must (refine (indexByte_any _ _ _).mono ?_; rintro e w' ⟨rfl, rfl⟩; rw [show Lib.indexByte s.data.toList (0 : Int).toNat.toUInt8 = i from HI.out]))
  refine bodyPost_ret (v := .tuple #[.agg #[.int .i64 2, .int .i64 0, .string (s.extract 1 i)], .int .i64 (i + 1)]) (by simp [results, Tryz.results114, go_sem]) rfl ⟨rfl, ?_⟩
  exact (Below.refl _ _).alloc (Nat.le_refl _) _

set_option maxHeartbeats 1000000 in
theorem firstValue_call (s : ByteArray) (w : World) (f : Nat) (h0 : 0 < s.size) (k n : Int) (t : ByteArray) (sz : Int)
    (hf : (f = 113 ∧ s[0].toNat = 2) ∨ (f = 114 ∧ s[0].toNat = 3))
    (hc : ∀ w : World, Calls Tryz.prog f #[.string s] w fun e w' => e = .returned (.tuple #[.agg #[.int .i64 k, .int .i64 n, .string t], .int .i64 sz]) ∧ Below w.heap.size w w') :
    Calls Tryz.prog 63 #[.string s] w fun e w' => e = .returned (.tuple #[.agg #[.int .i64 k, .int .i64 n, .string t], .int .i64 sz]) ∧ Below w.heap.size w w' := by
  rcases hf with ⟨rfl, hb⟩ | ⟨rfl, hb⟩
  · have h1 : (s[0].toNat : Int) = 2 := by omega
    go_enter Tryz.func63, Tryz.ntmps63
    go_wp2_with (go_at_call 113; go_must (refine (hc _).mono ?_; rintro e w1 ⟨rfl, hb1⟩; obtain ⟨hcc, hff⟩ := bcell hb1))
    refine bodyPost_ret (v := .tuple #[.agg #[.int .i64 k, .int .i64 n, .string t], .int .i64 sz]) (by simp [results, Tryz.results63, go_sem, hcc]) rfl ⟨rfl, ?_⟩
    exact (((((Below.refl _ _).alloc (Nat.le_refl _) _).trans (hb1.mono (by simp))).setCell (Nat.le_refl _) _).setCell (Nat.le_refl _) _).setCell (Nat.le_refl _) _
  · have h1 : (s[0].toNat : Int) = 3 := by omega
    go_enter Tryz.func63, Tryz.ntmps63
    go_wp2_with (go_at_call 114; go_must (refine (hc _).mono ?_; rintro e w1 ⟨rfl, hb1⟩; obtain ⟨hcc, hff⟩ := bcell hb1))
    refine bodyPost_ret (v := .tuple #[.agg #[.int .i64 k, .int .i64 n, .string t], .int .i64 sz]) (by simp [results, Tryz.results63, go_sem, hcc]) rfl ⟨rfl, ?_⟩
    exact (((((Below.refl _ _).alloc (Nat.le_refl _) _).trans (hb1.mono (by simp))).setCell (Nat.le_refl _) _).setCell (Nat.le_refl _) _).setCell (Nat.le_refl _) _

set_option maxHeartbeats 1000000 in
theorem firstValue_one (s : ByteArray) (w : World) (h0 : 0 < s.size) (hb : s[0].toNat = 1) :
    Calls Tryz.prog 63 #[.string s] w fun e w' => e = .returned (.tuple #[.agg #[.int .i64 0, .int .i64 0, .string ⟨#[]⟩], .int .i64 1]) ∧ Below w.heap.size w w' := by
  have h1 : (s[0].toNat : Int) = 1 := by omega
  go_enter Tryz.func63, Tryz.ntmps63
  go_wp2
  exact bodyPost_ret (v := .tuple #[.agg #[.int .i64 0, .int .i64 0, .string ⟨#[]⟩], .int .i64 1]) (by simp [results, Tryz.results63, go_sem]) rfl ⟨rfl, (Below.refl _ _).alloc (Nat.le_refl _) _⟩

set_option maxHeartbeats 1000000 in
theorem firstValue_other (s : ByteArray) (w : World) (h0 : 0 < s.size) (hb1 : ¬ s[0].toNat = 1) (hb2 : ¬ s[0].toNat = 2) (hb3 : ¬ s[0].toNat = 3) :
    Calls Tryz.prog 63 #[.string s] w fun e w' => e = .returned (.tuple #[.agg #[.int .i64 0, .int .i64 0, .string ⟨#[]⟩], .int .i64 0]) ∧ Below w.heap.size w w' := by
  have hlt : s[0].toNat < 256 := s[0].toNat_lt
  go_enter Tryz.func63, Tryz.ntmps63
  go_wp2
  exact bodyPost_ret (v := .tuple #[.agg #[.int .i64 0, .int .i64 0, .string ⟨#[]⟩], .int .i64 0]) (by simp [results, Tryz.results63, go_sem]) rfl ⟨rfl, (Below.refl _ _).alloc (Nat.le_refl _) _⟩

theorem byte_eq (c : UInt8) (n : Nat) (hn : n < 256) : c = UInt8.ofNat n ↔ c.toNat = n := by
  constructor
  · rintro rfl; simp; omega
  · intro h; rw [← h]; simp

/-- THE FIRST VALUE of a text that is not empty. -/
theorem firstValue_any (s : ByteArray) (w : World) (hs : s.size ≤ maxLen) (h0 : 0 < s.size) :
    Calls Tryz.prog 63 #[.string s] w fun e w' => e = .returned (.tuple #[(fv s.data.toList).1.val, .int .i64 (fv s.data.toList).2]) ∧ Below w.heap.size w w' := by
  have g0 : s.data.toList.getD 0 0 = s[0] := getD_byte s 0 h0
  have q1 : s[0] = 1 ↔ s[0].toNat = 1 := byte_eq s[0] 1 (by omega)
  have q2 : s[0] = 2 ↔ s[0].toNat = 2 := byte_eq s[0] 2 (by omega)
  have q3 : s[0] = 3 ↔ s[0].toNat = 3 := byte_eq s[0] 3 (by omega)
  by_cases h1 : s[0].toNat = 1
  · have e : fv s.data.toList = (zero, 1) := by unfold fv; rw [g0, if_pos (q1.2 h1)]
    rw [e]; exact firstValue_one s w h0 h1
  have n1 : ¬ s[0] = 1 := fun h => h1 (q1.1 h)
  by_cases h2 : s[0].toNat = 2
  · by_cases hl : s.size < 5
    · have e : fv s.data.toList = (zero, 0) := by unfold fv; rw [g0, if_neg n1, if_pos (q2.2 h2), if_pos (by rw [size_toList]; exact hl)]
      rw [e]; exact firstValue_call s w 113 h0 0 0 ⟨#[]⟩ 0 (.inl ⟨rfl, h2⟩) fun w => firstNumber_short s w hl
    · have e : fv s.data.toList = (⟨1, n4 s.data.toList - 1073741824, ⟨#[]⟩⟩, 5) := by unfold fv; rw [g0, if_neg n1, if_pos (q2.2 h2), if_neg (by rw [size_toList]; exact hl)]
      rw [e]; exact firstValue_call s w 113 h0 1 _ ⟨#[]⟩ 5 (.inl ⟨rfl, h2⟩) fun w => firstNumber_long s w (by omega) hs
  have n2 : ¬ s[0] = 2 := fun h => h2 (q2.1 h)
  by_cases h3 : s[0].toNat = 3
  · by_cases hl : Lib.indexByte s.data.toList 0 < 0
    · have e : fv s.data.toList = (zero, 0) := by unfold fv; rw [g0, if_neg n1, if_neg n2, if_pos (q3.2 h3), if_pos hl]
      rw [e]; exact firstValue_call s w 114 h0 0 0 ⟨#[]⟩ 0 (.inr ⟨rfl, h3⟩) fun w => firstText_none s w hl
    · obtain ⟨i, hi⟩ : ∃ i : Nat, Lib.indexByte s.data.toList 0 = i := ⟨(Lib.indexByte s.data.toList 0).toNat, by omega⟩
      have hsome := (Lib.indexByte_some hi).1
      have hlt : i < s.size := by rw [← size_toList]; exact (List.getElem?_eq_some_iff.1 hsome).1
      have hpos : 1 ≤ i := by
        rcases Nat.eq_zero_or_pos i with rfl | h
        · rw [List.getD_eq_getElem?_getD, hsome] at g0
          simp at g0
          rw [← g0] at h3
          simp at h3
        · exact h
      have e : fv s.data.toList = (⟨2, 0, str ((s.data.toList.drop 1).take (i - 1))⟩, i + 1) := by
        unfold fv; rw [g0, if_neg n1, if_neg n2, if_pos (q3.2 h3), if_neg hl, hi]; simp
      have e2 : s.extract 1 i = str ((s.data.toList.drop 1).take (i - 1)) := Lib.extract_eq s 1 i
      rw [e]
      refine firstValue_call s w 114 h0 2 0 _ _ (.inr ⟨rfl, h3⟩) fun w => ?_
      rw [← e2]
      exact firstText_some s w i hi hpos hlt hs
  have n3 : ¬ s[0] = 3 := fun h => h3 (q3.1 h)
  have e : fv s.data.toList = (zero, 0) := by unfold fv; rw [g0, if_neg n1, if_neg n2, if_neg n3]
  rw [e]; exact firstValue_other s w h0 h1 h2 h3

end Go.Proofs.YthehiijgnepcfaaGreat

namespace Go.Proofs.YthehiijgnepcfaaGreat
open Go.RowKit

theorem info_value : (Tryz.prog.info? 32).map (fun i => (i.zero, i.size, i.bytes)) = some (some (.agg #[.int .i64 0, .int .i64 0, .string ⟨#[]⟩]), 3, 32) := by kernel_rfl


/-- What Values answers: a slice of the call's own that has the values, and no error; or nil and ErrForm. -/
def ValuesSays (base : Nat) (l : List UInt8) (e : Ending) (w' : World) : Prop :=
  match vals l with
  | some L => ∃ lv, e = .returned (.tuple #[lv, .int .i64 0]) ∧ w'.ownsRow base 32 3 lv L.length (vcells L)
  | none => e = .returned (.tuple #[.slice none 0 0, .int .i64 1])

set_option maxHeartbeats 2000000 in
theorem values_any (s : ByteArray) (w : World) (hs : s.size * 32 ≤ 140737488355328) :
    Calls Tryz.prog 27 #[.string s] w fun e w' => ValuesSays w.heap.size s.data.toList e w' ∧ Below w.heap.size w w' := by
  obtain ⟨i0, hi, hz0, hz1, hz2⟩ := info_parts info_value
  go_enter Tryz.func27, Tryz.ntmps27
  go_wp2
  go_loopw [0, 4] (fun sv lv wr => ∃ (t : ByteArray) (L : List V), sv = .string t ∧ L.length + t.size ≤ s.size ∧ vals s.data.toList = (vals t.data.toList).map (L ++ ·) ∧ wr.ownsRow w.heap.size 32 3 lv L.length (vcells L) ∧ Below w.heap.size w wr) (fun sv _ _ => match sv with | .string t => t.size | _ => 0)
  case atStart => exact ⟨s, [], rfl, by simp, by simp, World.ownsRow_nil _ _ _ _, Below.refl _ _⟩
  case round =>
    obtain ⟨t, L, rfl, hlen, hv, hown, hbel⟩ := hrel
    have HV : Hid (vals s.data.toList = (vals t.data.toList).map (L ++ ·)) := hv
    clear hv
    have hsz := hbel.size
    by_cases ht : t.size = 0
    · have hemp : t.toList.isEmpty = true := by rw [empty_iff]; simp [ht]
      have hnil : t.data.toList = [] := by have := size_toList t; rw [ht] at this; exact List.eq_nil_of_length_eq_zero this
      have HL : Hid (vals s.data.toList = some L) := by show vals s.data.toList = some L; have := HV.out; rw [hnil, vals_nil] at this; simpa using this
      clear hnil ht
      go_wp2
      go_ret2
      refine ⟨?_, hbel⟩
      unfold ValuesSays
      rw [HL.out]
      exact ⟨_, rfl, hown⟩
    · have hpos : 0 < t.size := by omega
      have hmax : t.size ≤ maxLen := by simp only [maxLen]; omega
      have hne : t.data.toList ≠ [] := by intro h; have := size_toList t; rw [h] at this; simp at this; omega
      have hle := fv_le t.data.toList hne
      rw [size_toList] at hle
      have hemp : t.toList.isEmpty = false := by rw [empty_iff]; exact decide_eq_false ht
      have hfv0 := fun w => firstValue_any t w hmax hpos
      obtain ⟨⟨k, n, x⟩, z, hvz⟩ : ∃ v z, fv t.data.toList = (v, z) := ⟨_, _, rfl⟩
      rw [hvz] at hle hfv0
      simp only at hle
      have hfv : ∀ w : World, Calls Tryz.prog 63 #[.string t] w fun e w' => e = .returned (.tuple #[.agg #[.int .i64 k, .int .i64 n, .string x], .int .i64 (z : Int)]) ∧ Below w.heap.size w w' := hfv0
      clear hfv0
      have HVZ : Hid (fv t.data.toList = (⟨k, n, x⟩, z)) := hvz
      have HNE : Hid (t.data.toList ≠ []) := hne
      have hx : x.size ≤ maxLen := by
        have := fv_text_le t.data.toList
        rw [hvz, size_toList] at this
        exact Nat.le_trans this hmax
      clear hvz hne
      unfold maxLen at hmax
      have hgood := fun w => good_any ⟨k, n, x⟩ w hx
      by_cases hz : z = 0
      · subst hz
        have HN : Hid (vals s.data.toList = none) := by show vals s.data.toList = none; have := HV.out; rw [vals_bad HNE.out (by rw [HVZ.out]; exact .inl rfl)] at this; simpa using this
        go_wp2_with (go_at_call 63; go_must (refine (hfv _).mono ?_; rintro e w1 ⟨rfl, hb1⟩))
        go_ret2
        have hs1 := hb1.size
        refine ⟨by unfold ValuesSays; rw [HN.out]; rfl, (hbel.trans (hb1.mono hsz)).alloc (by omega) _⟩
      · have hzz : (z : Int) ≠ 0 := by omega
        cases hg : good ⟨k, n, x⟩
        · have HN : Hid (vals s.data.toList = none) := by show vals s.data.toList = none; have := HV.out; rw [vals_bad HNE.out (by rw [HVZ.out]; exact .inr hg)] at this; simpa using this
          rw [hg] at hgood
          have hd : ((z : Int) == 0) = false := by simp; omega
          go_wp2_with (first | (go_at_call 63; go_must (refine (hfv _).mono ?_; rintro e w1 ⟨rfl, hb1⟩)) | (go_at_call 57; go_must (refine (hgood _).mono ?_; rintro e w2 ⟨rfl, rfl⟩)))
          go_ret2
          have hs1 := hb1.size
          refine ⟨by unfold ValuesSays; rw [HN.out]; rfl, ((hbel.trans (hb1.mono hsz)).alloc (by omega) _).alloc (by simp; omega) _⟩
        · have HS : Hid (vals s.data.toList = (vals (t.extract z t.size).data.toList).map ((L ++ [⟨k, n, x⟩]) ++ ·)) := by
            have h1 := HV.out
            have h2 := vals_step HNE.out (by rw [HVZ.out]; exact hz) (by rw [HVZ.out]; exact hg)
            rw [HVZ.out] at h2
            rw [h2] at h1
            show _ = _
            rw [h1, extract_end]
            cases vals (t.data.toList.drop z) <;> simp
          rw [hg] at hgood
          have hd : ((z : Int) == 0) = false := by simp; omega
          go_wp2_with (first | (go_at_call 63; go_must (refine (hfv _).mono ?_; rintro e w1 ⟨rfl, hb1⟩)) | (go_at_call 57; go_must (refine (hgood _).mono ?_; rintro e w2 ⟨rfl, rfl⟩)) | (at_builtin; go_must (refine wpList_append_own _ rfl (.tmp 21) (.tmp 23) 55 rfl w.heap.size 32 i0 (.agg #[.int .i64 0, .int .i64 0, .string ⟨#[]⟩]) 3 32 Tryz.underlying55 hi hz0 hz1 hz2 rfl (by decide) _ _ _ rfl ((((ownsRow_below hown hb1).alloc _).alloc _).alloc _) ⟨w1.heap.size + 1 + 1, 0, none⟩ 1 1 [.int .i64 k, .int .i64 n, .string x] rfl rfl ?_ ?_ ?_ ?_ ?_ ?_)))
          · have N := cells_new ((w1.alloc (Obj.cells #[Value.int IntKind.i64 k, Value.int IntKind.i64 n, Value.string x] 32)).alloc (Obj.cells #[Value.int IntKind.i64 k, Value.int IntKind.i64 n, Value.string x] 32)) [.int .i64 k, .int .i64 n, .string x] 32
            simpa using N
          · intro u hu; simp at hu; rcases hu with rfl | rfl | rfl <;> rfl
          · simp only [maxLen]; omega
          · omega
          · have := hb1.size; simp; omega
          · intro lv1 w2 hown2 hg2 _
            have hs1 := hb1.size
            have Hown := (((ownsRow_below hown hb1).alloc (Obj.cells #[Value.int IntKind.i64 k, Value.int IntKind.i64 n, Value.string x] 32)).alloc (Obj.cells #[Value.int IntKind.i64 k, Value.int IntKind.i64 n, Value.string x] 32)).alloc (Obj.cells #[Value.int IntKind.i64 k, Value.int IntKind.i64 n, Value.string x] 32)
            have hb2 : Below w.heap.size w w2 := ((((hbel.trans (hb1.mono hsz)).alloc (by omega) _).alloc (by simp; omega) _).alloc (by simp; omega) _).trans (below_append Hown (by simp; omega) hg2)
            have ho2 : w2.ownsRow w.heap.size 32 3 lv1 (L ++ [(⟨k, n, x⟩ : V)]).length (vcells (L ++ [⟨k, n, x⟩])) := by rw [vcells_snoc, List.length_append]; exact hown2
            clear Hown hown2 hg2 hown hbel hb1 hfv hgood
            go_wp2
            go_roundw
            case rel => exact ⟨_, _, rfl, by simp; omega, HS.out, ho2, hb2⟩
            case measure => simp; omega

end Go.Proofs.YthehiijgnepcfaaGreat

namespace Go.Proofs.YthehiijgnepcfaaGreat
open Go.RowKit


theorem key_any (L : List V) (v : Value) (w : World) (hv : IsVals w v L) (hlen : L.length * 32 ≤ 140737488351232) (hss : ∀ v ∈ L, v.s.size ≤ maxLen) :
    Calls Tryz.prog 101 #[v] w fun e w' => e = .returned (.tuple #[.string (str (keyAns L).1), .int .i64 (keyAns L).2]) ∧ Below w.heap.size w w' := by
  rcases hv with ⟨⟨ao, cap, rfl, _⟩, rfl⟩ | ⟨b, off, cap, rfl, hb, hL⟩
  · exact key_none ao cap w
  · exact key_some L b off cap w hL hb hlen hss

end Go.Proofs.YthehiijgnepcfaaGreat

namespace Go.Proofs.YthehiijgnepcfaaGreat
open Go.RowKit

/-- A value; a row of values. -/
def kVal : Elem V where
  size := 3
  R _ _ v c := c = v.cells
  len h := by subst h; rfl
  keep _ h := h
  mono _ h := h
def kVals : Elem (List V) where
  size := 1
  R F w l c := ∃ sv, c = [sv] ∧ IsL kVal F w sv l
  len h := by obtain ⟨sv, rfl, _⟩ := h; rfl
  keep hk h := by obtain ⟨sv, h1, h2⟩ := h; exact ⟨sv, h1, h2.keep hk⟩
  mono hk h := by obtain ⟨sv, h1, h2⟩ := h; exact ⟨sv, h1, h2.mono hk⟩
theorem all_vals {F : Nat → Prop} {w : World} : ∀ {l : List V} {cs : List Value}, All kVal F w l cs ↔ cs = vcells l
  | [], cs => Iff.rfl
  | v :: l, cs => by
    have e : vcells (v :: l) = v.cells ++ vcells l := by simp [vcells]
    rw [e]
    constructor
    · rintro ⟨c, rest, rfl, h2, h3⟩
      rw [all_vals.1 h3, show c = v.cells from h2]
    · rintro rfl
      exact ⟨v.cells, vcells l, rfl, rfl, all_vals.2 rfl⟩
theorem isL_vals {F : Nat → Prop} {w : World} {sv : Value} {l : List V} (h : IsL kVal F w sv l) : IsVals w sv l := by
  obtain ⟨cs, h1, h2⟩ := h
  have := all_vals.1 h2
  subst this
  rcases h1.2 with ⟨h0, ao, cap, rfl, hc⟩ | ⟨h0, b, off, cap, rfl, _, hb, _, _, hcell⟩
  · exact .inl ⟨⟨ao, cap, rfl, hc⟩, List.eq_nil_of_length_eq_zero h0⟩
  · refine .inr ⟨b, off, cap, rfl, hb, fun i v hi => ?_⟩
    obtain ⟨a0, a1, a2⟩ := vcells_at l i v hi
    exact ⟨hcell _ _ a0, by rw [Nat.add_assoc]; exact hcell _ _ a1, by rw [Nat.add_assoc]; exact hcell _ _ a2⟩
theorem isL_own {F : Nat → Prop} {w : World} {base : Nat} {lv : Value} {L : List V} (h : w.ownsRow base 32 3 lv L.length (vcells L)) (hF : ∀ k, base ≤ k → F k) : IsL kVal F w lv L :=
  ⟨vcells L, IsRowB.of_own h hF, all_vals.2 rfl⟩

end Go.Proofs.YthehiijgnepcfaaGreat


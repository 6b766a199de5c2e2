/-
  4 texts of this proof in one, in build order: DFlat, DPut, IsValue, KeyOf.
-/
import Derived.Test.YtkncamggdfmlnaaGreatDoorRows
import Derived.WalkKit
import Derived.WalkSpells
import Derived.WalkLawsBesides
import Derived.Laws.IdiomStrings
import Derived.Test.YtkncamggdfmlnaaGreatDoorJ01
import Derived.Test.YtkncamggdfmlnaaGreatDoorJ05
import Derived.Test.YtkncamggdfmlnaaGreatDoorJ06
import Derived.Test.YtkncamggdfmlnaaGreatDoorJ11
import Derived.Test.YtkncamggdfmlnaaGreatDoorJ18
namespace Go.Proofs.YtkncamggdfmlnaaGreatDoor
open Go.RowKit

def FlatSays (w w' : World) (e : Ending) (T : List Pg) : Prop :=
  ((GoodT T ∧ ∃ v, e = .returned (.tuple #[v, .bool true]) ∧ IsPairs w' v (flat T)) ∨ (¬ GoodT T ∧ e = .returned (.tuple #[.slice none 0 0, .bool false]))) ∧ Below w.heap.size w w'

/-- What has been seen of a tree, up to a page, and up to a key of it. -/
def seen (T : List Pg) (k : Nat) (p : Pg) (q : Nat) : Prs := flat (T.take k) ++ (p.K.zip p.V).take q

theorem flat_split {T : List Pg} {k : Nat} {p : Pg} (hp : T[k]? = some p) : flat T = flat (T.take k) ++ (p.K.zip p.V ++ flat (T.drop (k + 1))) := by
  obtain ⟨h1, rfl⟩ := List.getElem?_eq_some_iff.1 hp
  conv => lhs; rw [← List.take_append_drop k T]
  rw [flat_append, List.drop_eq_getElem_cons h1, flat_cons]

theorem seen_rise {T : List Pg} {k q : Nat} {p : Pg} (hg : GoodT T) (hp : T[k]? = some p) : Rise ((seen T k p q).map Prod.fst) := by
  have h := hg.rise
  rw [flat_split hp] at h
  refine List.Pairwise.sublist (List.Sublist.map _ ?_) h
  exact List.Sublist.append_left ((List.take_sublist _ _).trans (List.sublist_append_left _ _)) _

theorem seen_step {T : List Pg} {k q : Nat} {p : Pg} {a b : ByteArray} (ha : p.K[q]? = some a) (hb : p.V[q]? = some b) : seen T k p (q + 1) = seen T k p q ++ [(a, b)] := by
  have hz : (p.K.zip p.V)[q]? = some (a, b) := by rw [List.getElem?_zip_eq_some]; exact ⟨ha, hb⟩
  unfold seen
  rw [List.take_add_one, hz, List.append_assoc]
  rfl

theorem seen_all {T : List Pg} {k : Nat} {p : Pg} (hp : T[k]? = some p) : flat (T.take (k + 1)) = seen T k p p.K.length := by
  rw [flat_take hp]
  unfold seen
  rw [List.take_of_length_le (l := p.K.zip p.V) (by rw [List.length_zip]; omega)]

theorem seen_zero (T : List Pg) (k : Nat) (p : Pg) : seen T k p 0 = flat (T.take k) := by simp [seen]

theorem rise_more {R : Prs} {x y : ByteArray × ByteArray} (h : Rise ((R ++ [x]).map Prod.fst)) (hlt : klt x.1 y.1 = true) : Rise ((R ++ [x] ++ [y]).map Prod.fst) := by
  simp only [List.map_append, List.map_cons, List.map_nil] at h ⊢
  exact rise_snoc h hlt

theorem rise_last {R : Prs} {x y : ByteArray × ByteArray} (h : Rise ((R ++ [x] ++ [y]).map Prod.fst)) : klt x.1 y.1 = true := by
  simp only [List.map_append, List.map_cons, List.map_nil] at h
  exact (rise_append.1 h).2.2 x.1 (by simp) y.1 (by simp)

theorem eq_nil_or_snoc {α : Type} (l : List α) : l = [] ∨ ∃ a x, l = a ++ [x] := by
  cases l with
  | nil => exact .inl rfl
  | cons a l => exact .inr ⟨(a :: l).dropLast, (a :: l).getLast (by simp), (List.dropLast_concat_getLast _).symm⟩

theorem flat_step {w wr W w3 : World} {P n : Nat} {z : Value} {cs : List Value} {a b : Value} (own : wr.ownsRow w.heap.size 42 2 z n cs) (hW : Below wr.heap.size wr W) (pb : wr.heap[P]? = some (.cells #[a, b] 76)) (hb : Below w.heap.size w wr) (gr : W.grownBy w3 z.ownBlock) :
    w3.heap[P]? = some (.cells #[a, b] 76) ∧ Below w.heap.size w w3 := by
  have lP := lt_of_block pb
  have hs := hW.size
  refine ⟨(gr.block _ (by omega) (own_ne own pb (by decide))).trans ((hW.block _ lP).trans pb), ?_⟩
  exact (hb.trans (hW.mono hb.size)).grown gr (by have := hb.size; omega) (fun j hj => (own.lt j hj).1)

set_option maxHeartbeats 20000000 in
set_option maxRecDepth 100000 in
theorem flatOf_any (T : List Pg) (tv : Value) (w : World) (h : IsTree w tv T) (hn : T.length ≤ 1048577) :
    Calls Tryz.prog 15 #[tv] w fun e w' => FlatSays w w' e T := by
  obtain ⟨i0, hi, hz0, hz1, hz2⟩ := info_parts info_pair
  have HKL := hid h.keysLen
  obtain ⟨sv, rfl, hs⟩ := h
  obtain ⟨so, sc, rfl⟩ := hs.shape
  have HS := hid hs
  clear hs
  generalize hnl : T.length = n at *
  have HN := hid hnl
  clear hnl
  generalize hW0 : w.alloc (.cells #[.slice so n sc] 52) = W0
  have hB0 : Below w.heap.size w W0 := by rw [← hW0]; exact balloc (Below.refl _ _) _
  have c0 : W0.cell? ⟨w.heap.size, 0, none⟩ = some (.slice so n sc) := by rw [← hW0]; exact cell_of_block (block_alloc_at w _) rfl
  go_enter Tryz.func15, Tryz.ntmps15
  go_wp2
  clear hW0
  go_loopw [4, 11] (fun z i wr => ∃ (k : Nat) (R : Prs), k ≤ n ∧ i = .int .i64 k ∧ R.length ≤ 4 * k ∧ wr.ownsRow w.heap.size 42 2 z R.length (prcells R) ∧ Below w.heap.size w wr ∧ Hid (R = flat (T.take k) ∧ (∀ p ∈ T.take k, p.ok) ∧ Rise (R.map Prod.fst))) (fun _ i _ => n - (intOf i).toNat)
  case atStart => exact ⟨0, [], Nat.zero_le _, rfl, by simp, World.ownsRow_nil _ _ _ _, hB0, hid ⟨by simp [flat], by simp, by simp [Rise]⟩⟩
  case round =>
    obtain ⟨k, R, hk, rfl, hRl, hown, hbel, HR⟩ := hrel
    by_cases hlt : k < n
    · obtain ⟨Wo, hWo⟩ : ∃ W, W = wr := ⟨_, rfl⟩
      subst hWo
      obtain ⟨p, hp⟩ : ∃ p, T[k]? = some p := ⟨_, List.getElem?_eq_getElem (by rw [HN.out]; omega)⟩
      obtain ⟨ba, oa, ka, kc, va, vc, rfl, hla, a0w, a1w, hak, hav⟩ := pages_at HS.out hp
      have a0 := (hbel.cell (p := ⟨ba, oa + k * 2, none⟩) hla).trans a0w
      have a1 := (hbel.cell (p := ⟨ba, oa + k * 2 + 1, none⟩) hla).trans a1w
      clear a0w a1w
      have hkm := HKL.out p (List.mem_of_getElem? hp)
      have HPK := hid hp
      have i0' : (0 : Int) ≤ (k : Int) := by omega
      have i1' : (k : Int) < (n : Int) := by omega
      have hsz := hbel.size
      clear hp
      unfold maxLen at hkm
      by_cases hok : p.ok
      · have HOK := hid hok
        obtain ⟨m1, m4, mvl⟩ := hok
        have HAK := hid hak
        have HAV := hid hav
        clear hak hav
        rw [mvl] at a1 HAV
        generalize hkn : p.K.length = m at *
        have HKN := hid (And.intro hkn mvl)
        clear hkn mvl
        have j1 : ¬ ((m : Int) = 0) := by omega
        have j1b : ((m : Int) == 0) = false := by simp; omega
        have j2 : ¬ ((4 : Int) < (m : Int)) := by omega
        have bmm : ((m : Int) != (m : Int)) = false := by simp
        obtain ⟨W1, hW1⟩ : ∃ W1, Wo.alloc (.cells #[.slice ka m kc, .slice va m vc] 76) = W1 := ⟨_, rfl⟩
        have hB1 : Below Wo.heap.size Wo W1 := by rw [← hW1]; exact balloc (Below.refl _ _) _
        have pb : W1.heap[Wo.heap.size]? = some (.cells #[.slice ka m kc, .slice va m vc] 76) := by rw [← hW1]; exact block_alloc_at Wo _
        have hown1 : W1.ownsRow w.heap.size 42 2 u4 R.length (prcells R) := ownsRow_below hown hB1
        have hbel1 : Below w.heap.size w W1 := hbel.trans (hB1.mono hbel.size)
        have p0 : W1.cell? ⟨Wo.heap.size, 0, none⟩ = some (.slice ka m kc) := cell_of_block pb rfl
        have p1 : W1.cell? ⟨Wo.heap.size, 1, none⟩ = some (.slice va m vc) := cell_of_block pb rfl
        go_wp2
        clear hW1 p0 p1
        go_loopw [4, 37] (fun z i wq => ∃ (q : Nat) (R : Prs), q ≤ m ∧ i = .int .i64 q ∧ R.length ≤ 4 * k + q ∧ wq.ownsRow w.heap.size 42 2 z R.length (prcells R) ∧ wq.heap[Wo.heap.size]? = some (.cells #[.slice ka m kc, .slice va m vc] 76) ∧ Below w.heap.size w wq ∧ Hid (R = seen T k p q ∧ Rise (R.map Prod.fst))) (fun _ i _ => m - (intOf i).toNat)
        case atStart => exact ⟨0, R, Nat.zero_le _, rfl, by omega, hown1, pb, hbel1, hid ⟨by rw [seen_zero]; exact HR.out.1, HR.out.2.2⟩⟩
        case round =>
          obtain ⟨q, R2, hq, rfl, hRl2, hown2, pb2, hbel2, HR2⟩ := hrel
          have p0 : wr.cell? ⟨Wo.heap.size, 0, none⟩ = some (.slice ka m kc) := cell_of_block pb2 rfl
          have p1 : wr.cell? ⟨Wo.heap.size, 1, none⟩ = some (.slice va m vc) := cell_of_block pb2 rfl
          by_cases hqlt : q < m
          · obtain ⟨s, hs⟩ : ∃ s, p.K[q]? = some s := ⟨_, List.getElem?_eq_getElem (by rw [HKN.out.1]; omega)⟩
            obtain ⟨v, hv⟩ : ∃ v, p.V[q]? = some v := ⟨_, List.getElem?_eq_getElem (by rw [HKN.out.2]; omega)⟩
            have HSS := hid (seen_step (T := T) (k := k) hs hv)
            obtain ⟨kb, ko, rfl, hkb, s0w⟩ := strs_at HAK.out hs
            obtain ⟨vb, vo, rfl, hvb, v0w⟩ := strs_at HAV.out hv
            have s0 := (hbel2.cell (p := ⟨kb, ko + q, none⟩) hkb).trans s0w
            have v0 := (hbel2.cell (p := ⟨vb, vo + q, none⟩) hvb).trans v0w
            have j3 : (0 : Int) ≤ (q : Int) := by omega
            have j4 : (q : Int) < (m : Int) := by omega
            have lP := lt_of_block pb2
            have lkb := Nat.lt_of_lt_of_le hkb hbel2.size
            have lvb := Nat.lt_of_lt_of_le hvb hbel2.size
            have ks : ∀ W, Below wr.heap.size wr W → (W.cell? ⟨Wo.heap.size, 0, none⟩ = some (.slice (some ⟨kb, ko, none⟩) m kc) ∧ W.cell? ⟨Wo.heap.size, 1, none⟩ = some (.slice (some ⟨vb, vo, none⟩) m vc) ∧ W.cell? ⟨kb, ko + q, none⟩ = some (.string s) ∧ W.cell? ⟨vb, vo + q, none⟩ = some (.string v)) := fun W hW =>
              ⟨(hW.cell (p := ⟨Wo.heap.size, 0, none⟩) lP).trans p0, (hW.cell (p := ⟨Wo.heap.size, 1, none⟩) lP).trans p1, (hW.cell (p := ⟨kb, ko + q, none⟩) lkb).trans s0, (hW.cell (p := ⟨vb, vo + q, none⟩) lvb).trans v0⟩
            have ks' : ∀ W, W.heap[Wo.heap.size]? = some (.cells #[.slice (some ⟨kb, ko, none⟩) m kc, .slice (some ⟨vb, vo, none⟩) m vc] 76) → Below w.heap.size w W → (W.cell? ⟨Wo.heap.size, 0, none⟩ = some (.slice (some ⟨kb, ko, none⟩) m kc) ∧ W.cell? ⟨Wo.heap.size, 1, none⟩ = some (.slice (some ⟨vb, vo, none⟩) m vc) ∧ W.cell? ⟨kb, ko + q, none⟩ = some (.string s) ∧ W.cell? ⟨vb, vo + q, none⟩ = some (.string v)) := fun W hP hW =>
              ⟨cell_of_block hP rfl, cell_of_block hP rfl, (hW.cell (p := ⟨kb, ko + q, none⟩) hkb).trans s0w, (hW.cell (p := ⟨vb, vo + q, none⟩) hvb).trans v0w⟩
            obtain ⟨zo, zc, ez⟩ := (IsRow.of_own hown2).shape
            subst ez
            clear hs hv s0w v0w
            rcases eq_nil_or_snoc R2 with rfl | ⟨R', x, rfl⟩
            · go_wp2
              go_quiet (fail)
              go_wp2
              have hB9 : Below wr.heap.size wr ((wr.drewN nq).alloc (.cells #[.string s, .string v] 42)).drew := (balloc (below_drewN (Below.refl _ _) nq) _).drew
              have hnew : ∀ j u, [Value.string s, Value.string v][j]? = some u → ((wr.drewN nq).alloc (.cells #[.string s, .string v] 42)).drew.cell? ((⟨wr.heap.size, 0, none⟩ : Addr).add j) = some u := cells_new (wr.drewN nq) [.string s, .string v] 42
              have hbase : w.heap.size ≤ ((wr.drewN nq).alloc (.cells #[.string s, .string v] 42)).drew.heap.size := Nat.le_trans hbel2.size hB9.size
              go_region_held3 (fun w' => w'.cell? ⟨Wo.heap.size, 0, none⟩ = some (.slice (some ⟨kb, ko, none⟩) m kc) ∧ w'.cell? ⟨Wo.heap.size, 1, none⟩ = some (.slice (some ⟨vb, vo, none⟩) m vc) ∧ w'.cell? ⟨kb, ko + q, none⟩ = some (.string s) ∧ w'.cell? ⟨vb, vo + q, none⟩ = some (.string v))
                (first | exact ks3 | exact ks _ hB9 | exact ks _ (below_drewN (Below.refl _ _) _).drew)
                ((refine step_append_own_at (by rfl) _ _ 43 (by rfl) w.heap.size 42 i0 _ 2 32 Tryz.underlying43 hi hz0 hz1 hz2 rfl (by decide) (.slice zo 0 zc) 0 (prcells []) (by rfl) (ownsRow_below hown2 hB9) ⟨wr.heap.size, 0, none⟩ 1 1 [.string s, .string v] (by rfl) rfl hnew (by simp; constructor <;> rfl) (by simp only [maxLen]; omega) (by omega) hbase ?_; intro zv w3 own3 gr3 at3; have hst := flat_step hown2 hB9 pb2 hbel2 gr3; have ks3 := ks' _ hst.1 hst.2))
              go_wp2
              go_roundw
              case rel =>
                refine ⟨q + 1, [(s, v)], by omega, by go_num, by simp; omega, own3, hst.1, hst.2, hid ⟨?_, by simp [Rise]⟩⟩
                rw [HSS.out, ← HR2.out.1]; rfl
              case measure => simp [intOf]; omega
            · have hxl : (R' ++ [x]).length = R'.length + 1 := by simp
              rw [hxl] at hown2 hRl2 ⊢
              have hxat : (R' ++ [x])[R'.length]? = some x := by simp
              have hisp : IsPairs wr (.slice zo (R'.length + 1) zc) (R' ++ [x]) := by unfold IsPairs; rw [hxl]; exact IsRow.of_own hown2
              obtain ⟨zb, zf, rfl, hzb, x0, _⟩ := pairs_at hisp hxat
              have hxl' := hid hxl
              clear hxl hxat hisp
              generalize hrn : R'.length = r at *
              have j5 : (0 : Int) ≤ (r : Int) := by omega
              have j6 : (r : Int) < (r : Int) + 1 := by omega
              have j7 : (0 : Int) < (r : Int) + 1 := by omega
              have j8 : (r : Int) ≤ 8388608 := by omega
              have j9 : IntKind.i64.wrap (r : Int) = (r : Int) := by rw [IntKind.wrap_i64]; omega
              have HRN := hid hrn
              clear hrn
              obtain ⟨xk, xv⟩ := x
              simp only at x0
              cases hc : klt xk s
              · have hc' : Op.bytesLess xk.toList s.toList = false := hc
                have HNG := hid (show ¬ GoodT T from fun hg => by
                  have h1 := seen_rise (q := q + 1) hg HPK.out
                  rw [HSS.out, ← HR2.out.1] at h1
                  have := rise_last h1
                  rw [hc] at this; cases this)
                clear hc
                go_wp2
                go_quiet (fail)
                go_wp2
                go_ret2
                exact ⟨.inr ⟨HNG.out, rfl⟩, below_drewN hbel2 _⟩
              · have hc' : Op.bytesLess xk.toList s.toList = true := hc
                have HC := hid hc
                clear hc
                go_wp2
                go_quiet (fail)
                go_wp2
                have hB9 : Below wr.heap.size wr ((wr.drewN nq).alloc (.cells #[.string s, .string v] 42)).drew := (balloc (below_drewN (Below.refl _ _) nq) _).drew
                have hnew : ∀ j u, [Value.string s, Value.string v][j]? = some u → ((wr.drewN nq).alloc (.cells #[.string s, .string v] 42)).drew.cell? ((⟨wr.heap.size, 0, none⟩ : Addr).add j) = some u := cells_new (wr.drewN nq) [.string s, .string v] 42
                have hbase : w.heap.size ≤ ((wr.drewN nq).alloc (.cells #[.string s, .string v] 42)).drew.heap.size := Nat.le_trans hbel2.size hB9.size
                go_region_held3 (fun w' => w'.cell? ⟨Wo.heap.size, 0, none⟩ = some (.slice (some ⟨kb, ko, none⟩) m kc) ∧ w'.cell? ⟨Wo.heap.size, 1, none⟩ = some (.slice (some ⟨vb, vo, none⟩) m vc) ∧ w'.cell? ⟨kb, ko + q, none⟩ = some (.string s) ∧ w'.cell? ⟨vb, vo + q, none⟩ = some (.string v))
                  (first | exact ks3 | exact ks _ hB9 | exact ks _ (below_drewN (Below.refl _ _) _).drew)
                  ((refine step_append_own_at (by rfl) _ _ 43 (by rfl) w.heap.size 42 i0 _ 2 32 Tryz.underlying43 hi hz0 hz1 hz2 rfl (by decide) (.slice (some ⟨zb, zf, none⟩) (r + 1) zc) (r + 1) (prcells (R' ++ [(xk, xv)])) (by rfl) (ownsRow_below hown2 hB9) ⟨wr.heap.size, 0, none⟩ 1 1 [.string s, .string v] (by rfl) rfl hnew (by simp; constructor <;> rfl) (by simp only [maxLen]; omega) (by omega) hbase ?_; intro zv w3 own3 gr3 at3; have hst := flat_step hown2 hB9 pb2 hbel2 gr3; have ks3 := ks' _ hst.1 hst.2))
                go_wp2
                go_roundw
                case rel =>
                  refine ⟨q + 1, R' ++ [(xk, xv)] ++ [(s, v)], by omega, by go_num, ?_, ?_, hst.1, hst.2, hid ⟨?_, rise_more HR2.out.2 HC.out⟩⟩
                  · simp only [List.length_append, List.length_cons, List.length_nil, HRN.out]; omega
                  · rw [List.length_append, hxl'.out, prcells_append]; exact own3
                  · rw [HSS.out, ← HR2.out.1]
                case measure => simp [intOf]; omega
          · have hqm : q = m := by omega
            subst hqm
            have v1 : ¬ ((q : Int) < (q : Int)) := by omega
            go_wp2
            go_roundw
            case rel =>
              refine ⟨k + 1, R2, by omega, by go_num, by omega, hown2, hbel2, hid ⟨?_, ?_, HR2.out.2⟩⟩
              · rw [seen_all HPK.out, HKN.out.1]; exact HR2.out.1
              · intro g hg
                rw [List.take_add_one, HPK.out] at hg
                rcases List.mem_append.1 hg with hg | hg
                · exact HR.out.2.1 g hg
                · obtain rfl : g = p := by simpa using hg
                  exact HOK.out
            case measure => simp [intOf]; omega
      · have HNG := hid (show ¬ GoodT T from fun hg => hok (hg.1 p (List.mem_of_getElem? HPK.out)))
        have hfin : Below w.heap.size w (Wo.alloc (.cells #[.slice ka p.K.length kc, .slice va p.V.length vc] 76)) := hbel.alloc hsz _
        have HOK := hid hok
        clear hok hak hav
        generalize hkn : p.K.length = m at *
        generalize hvn : p.V.length = mv at *
        have hbad : m = 0 ∨ (m ≠ 0 ∧ 4 < m) ∨ (m ≠ 0 ∧ m ≤ 4 ∧ m ≠ mv) := by
          have := HOK.out
          unfold Pg.ok at this
          rw [hkn, hvn] at this
          omega
        clear hkn hvn
        rcases hbad with rfl | ⟨g1, g2⟩ | ⟨g1, g2, g3⟩
        · go_wp2
          go_ret2
          exact ⟨.inr ⟨HNG.out, rfl⟩, hfin⟩
        · have j1 : ¬ ((m : Int) = 0) := by omega
          have j1b : ((m : Int) == 0) = false := by simpa using g1
          have j2 : (4 : Int) < (m : Int) := by omega
          go_wp2
          go_ret2
          exact ⟨.inr ⟨HNG.out, rfl⟩, hfin⟩
        · have j1 : ¬ ((m : Int) = 0) := by omega
          have j1b : ((m : Int) == 0) = false := by simpa using g1
          have j2 : ¬ ((4 : Int) < (m : Int)) := by omega
          have j3 : ¬ ((m : Int) = (mv : Int)) := by omega
          have j3b : ((m : Int) == (mv : Int)) = false := by simpa using j3
          have j3c : ((m : Int) != (mv : Int)) = true := by simpa using j3
          go_wp2
          go_ret2
          exact ⟨.inr ⟨HNG.out, rfl⟩, hfin⟩
    · have hkn : k = n := by omega
      subst hkn
      have v1 : ¬ ((k : Int) < (k : Int)) := by omega
      have hT : T.take k = T := by rw [← HN.out, List.take_length]
      have HG := hid (show GoodT T ∧ R = flat T from by
        have hh := HR.out
        rw [hT] at hh
        refine ⟨good_of_flat hh.2.1 ?_, hh.1⟩
        rw [← hh.1]; exact hh.2.2)
      clear hT
      go_wp2
      go_ret2
      exact ⟨.inl ⟨HG.out.1, _, rfl, by rw [← HG.out.2]; exact IsRow.of_own hown⟩, hbel⟩

end Go.Proofs.YtkncamggdfmlnaaGreatDoor

namespace Go.Proofs.YtkncamggdfmlnaaGreatDoor
open Go.RowKit

set_option maxHeartbeats 8000000 in
/-- PutPair. -/
theorem putPair_any (F : Prs) (av : Value) (k u : ByteArray) (w : World) (ha : IsPairs w av F) (hl : F.length ≤ 1073741824) :
    Calls Tryz.prog 12 #[av, .string k, .string u] w fun e w' => ∃ v, e = .returned v ∧ IsPairs w' v (putF F k u) ∧ Below w.heap.size w w' := by
  obtain ⟨i0, hi, hz0, hz1, hz2⟩ := info_parts info_pair
  obtain ⟨ao, ac, rfl⟩ := IsRow.shape ha
  have HA := hid ha
  clear ha
  generalize hn : F.length = n at *
  have HN := hid hn
  clear hn
  go_enter Tryz.func12, Tryz.ntmps12
  go_wp2
  go_loopw [7, 14] (fun z i wr => ∃ (j : Nat) (R : Prs), j ≤ n ∧ i = .int .i64 j ∧ R.length ≤ j ∧ wr.ownsRow w.heap.size 42 2 z R.length (prcells R) ∧ Below w.heap.size w wr ∧ Hid (R = (F.take j).filter fun x => klt x.1 k)) (fun _ i _ => n - (intOf i).toNat)
  case atStart => exact ⟨0, [], Nat.zero_le _, rfl, by simp, World.ownsRow_nil _ _ _ _, Below.refl _ _, hid (by simp)⟩
  case round =>
    obtain ⟨j, R, hj, rfl, hRl, hown, hbel, HR⟩ := hrel
    by_cases hlt : j < n
    · obtain ⟨⟨s, v⟩, hsv⟩ : ∃ x, F[j]? = some x := ⟨_, List.getElem?_eq_getElem (by rw [HN.out]; omega)⟩
      obtain ⟨ba, oa, rfl, _, a0, a1⟩ := pairs_at (HA.out.below hbel) hsv
      have j0 : (0 : Int) ≤ (j : Int) := by omega
      have j1 : (j : Int) < (n : Int) := by omega
      simp only at a0 a1
      have hst := drop_take (fun x => klt x.1 k) hsv
      have HST := hid hst
      clear hst hsv
      have hsz := hbel.size
      cases hq : klt s k
      · have hq' : Op.bytesLess s.toList k.toList = false := hq
        have HQ := hid hq
        clear hq
        go_wp2
        go_roundw
        case rel =>
          refine ⟨j + 1, R, by omega, by go_num, by omega, hown.alloc _, hbel.alloc hsz _, hid ?_⟩
          rw [HST.out, HR.out]; simp [HQ.out]
        case measure => simp [intOf]; omega
      · have hq' : Op.bytesLess s.toList k.toList = true := hq
        have HQ := hid hq
        clear hq
        have hB1 : Below w.heap.size w ((wr.alloc (.cells #[.string s, .string v] 42)).alloc (.cells #[.string s, .string v] 42)) := (hbel.alloc hsz _).alloc (by rw [World.size_alloc]; omega) _
        have hown2 := (hown.alloc (.cells #[.string s, .string v] 42)).alloc (.cells #[.string s, .string v] 42)
        have hbase : w.heap.size ≤ ((wr.alloc (.cells #[.string s, .string v] 42)).alloc (.cells #[.string s, .string v] 42)).heap.size := hB1.size
        have hnew := cells_new (wr.alloc (.cells #[.string s, .string v] 42)) [.string s, .string v] 42
        rw [World.size_alloc] at hnew
        go_wp2_with (at_builtin; go_must (refine wpList_append_own _ rfl _ _ 43 rfl w.heap.size 42 i0 (.agg #[.string ⟨#[]⟩, .string ⟨#[]⟩]) 2 32 Tryz.underlying43 hi hz0 hz1 hz2 rfl (by decide) _ _ _ rfl hown2 ⟨wr.heap.size + 1, 0, none⟩ 1 1 [.string s, .string v] rfl rfl hnew (by simp; constructor <;> rfl) (by simp only [maxLen]; omega) (by omega) hbase ?_))
        intro z2 w2 hown3 hg2 _
        have hb2 := hB1.trans (below_append hown2 hbase hg2)
        go_wp2
        go_roundw
        case rel =>
          refine ⟨j + 1, R ++ [(s, v)], by omega, by go_num, by simp; omega, ?_, hb2, hid ?_⟩
          · rw [List.length_append, prcells_append]; exact hown3
          · rw [HST.out, HR.out]; simp [HQ.out]
        case measure => simp [intOf]; omega
    · have hjn : j = n := by omega
      have HR1 := hid (show R = F.filter fun x => klt x.1 k by have hR := HR.out; rw [hjn, ← HN.out, List.take_length] at hR; exact hR)
      clear HR hlt
      have hRn : R.length ≤ n := by omega
      clear hRl
      subst hjn
      have hsz := hbel.size
      have hB1 : Below w.heap.size w (wr.alloc (.cells #[.string k, .string u] 42)) := hbel.alloc hsz _
      have hown2 := hown.alloc (.cells #[.string k, .string u] 42)
      have hbase : w.heap.size ≤ (wr.alloc (.cells #[.string k, .string u] 42)).heap.size := hB1.size
      have hnew := cells_new wr [.string k, .string u] 42
      go_wp2_with (at_builtin; go_must (refine wpList_append_own _ rfl _ _ 43 rfl w.heap.size 42 i0 (.agg #[.string ⟨#[]⟩, .string ⟨#[]⟩]) 2 32 Tryz.underlying43 hi hz0 hz1 hz2 rfl (by decide) _ _ _ rfl hown2 ⟨wr.heap.size, 0, none⟩ 1 1 [.string k, .string u] rfl rfl hnew (by simp; constructor <;> rfl) (by simp only [maxLen]; omega) (by omega) hbase ?_))
      intro z1 w1 hown3 hg1 _
      have hb1 := hB1.trans (below_append hown2 hbase hg1)
      have hown4 : w1.ownsRow w.heap.size 42 2 z1 (R ++ [(k, u)]).length (prcells (R ++ [(k, u)])) := by rw [List.length_append, prcells_append]; exact hown3
      have hQl : (R ++ [(k, u)]).length ≤ j + 1 := by simp; omega
      have HQ1 := hid (show R ++ [(k, u)] = F.filter (fun x => klt x.1 k) ++ [(k, u)] by rw [HR1.out])
      generalize R ++ [(k, u)] = Q at *
      clear hown3 hown2 hg1 hnew hB1 hbase hown hbel HR1
      go_wp2
      go_loopw [7, 35] (fun z i wr => ∃ (q : Nat) (R : Prs), q ≤ j ∧ i = .int .i64 q ∧ R.length ≤ q ∧ wr.ownsRow w.heap.size 42 2 z (Q ++ R).length (prcells (Q ++ R)) ∧ Below w.heap.size w wr ∧ Hid (R = (F.take q).filter fun x => klt k x.1)) (fun _ i _ => j - (intOf i).toNat)
      case atStart => exact ⟨0, [], Nat.zero_le _, rfl, by simp, by rw [List.append_nil]; exact hown4, hb1, hid (by simp)⟩
      case round =>
        obtain ⟨q, R2, hj2, rfl, hRl2, hown, hbel, HR⟩ := hrel
        by_cases hlt : q < j
        · obtain ⟨⟨s, v⟩, hsv⟩ : ∃ x, F[q]? = some x := ⟨_, List.getElem?_eq_getElem (by rw [HN.out]; omega)⟩
          obtain ⟨ba, oa, rfl, _, a0, a1⟩ := pairs_at (HA.out.below hbel) hsv
          have j0 : (0 : Int) ≤ (q : Int) := by omega
          have j1 : (q : Int) < (j : Int) := by omega
          simp only at a0 a1
          have hst := drop_take (fun x => klt k x.1) hsv
          have HST := hid hst
          clear hst hsv
          have hsz := hbel.size
          have hQR : (Q ++ R2).length ≤ 2147483650 := by rw [List.length_append]; omega
          cases hq : klt k s
          · have HQ := hid hq
            have hge : (Op.bytesLess s.toList k.toList = true) ∨ (Op.bytesLess s.toList k.toList = false ∧ (s.toList == k.toList) = true) := by
              rcases klt_tri hq with rfl | h
              · exact .inr ⟨klt_irrefl _, by simp⟩
              · exact .inl h
            clear hq
            rcases hge with g1 | ⟨g1, g2⟩
            all_goals
              go_wp2
              go_roundw
              case rel =>
                refine ⟨q + 1, R2, by omega, by go_num, by omega, hown.alloc _, hbel.alloc hsz _, hid ?_⟩
                rw [HST.out, HR.out]; simp [HQ.out]
              case measure => simp [intOf]; omega
          · have HQ := hid hq
            have g1 : Op.bytesLess s.toList k.toList = false := klt_asymm hq
            have g2 : (s.toList == k.toList) = false := by
              cases e : (s.toList == k.toList) with
              | false => rfl
              | true => exact absurd (str_eq_of e).symm (klt_ne hq)
            clear hq
            have hB1 : Below w.heap.size w ((wr.alloc (.cells #[.string s, .string v] 42)).alloc (.cells #[.string s, .string v] 42)) := (hbel.alloc hsz _).alloc (by rw [World.size_alloc]; omega) _
            have hown2 := (hown.alloc (.cells #[.string s, .string v] 42)).alloc (.cells #[.string s, .string v] 42)
            have hbase : w.heap.size ≤ ((wr.alloc (.cells #[.string s, .string v] 42)).alloc (.cells #[.string s, .string v] 42)).heap.size := hB1.size
            have hnew := cells_new (wr.alloc (.cells #[.string s, .string v] 42)) [.string s, .string v] 42
            rw [World.size_alloc] at hnew
            go_wp2_with (at_builtin; go_must (refine wpList_append_own _ rfl _ _ 43 rfl w.heap.size 42 i0 (.agg #[.string ⟨#[]⟩, .string ⟨#[]⟩]) 2 32 Tryz.underlying43 hi hz0 hz1 hz2 rfl (by decide) _ _ _ rfl hown2 ⟨wr.heap.size + 1, 0, none⟩ 1 1 [.string s, .string v] rfl rfl hnew (by simp; constructor <;> rfl) (by simp only [maxLen]; omega) (by omega) hbase ?_))
            intro z2 w2 hown3 hg2 _
            have hb2 := hB1.trans (below_append hown2 hbase hg2)
            go_wp2
            go_roundw
            case rel =>
              refine ⟨q + 1, R2 ++ [(s, v)], by omega, by go_num, by simp; omega, ?_, hb2, hid ?_⟩
              · rw [← List.append_assoc, List.length_append, List.length_append, prcells_append]; exact hown3
              · rw [HST.out, HR.out]; simp [HQ.out]
            case measure => simp [intOf]; omega
        · have hjn : q = j := by omega
          go_wp2
          go_ret
          refine ⟨_, rfl, ?_, hbel⟩
          have hR := HR.out
          rw [hjn, ← HN.out, List.take_length] at hR
          have e : putF F k u = Q ++ R2 := by unfold putF; rw [HQ1.out, hR]; simp
          rw [e]
          exact IsRow.of_own hown

end Go.Proofs.YtkncamggdfmlnaaGreatDoor

namespace Go.Proofs.YtkncamggdfmlnaaGreatDoor
open Go.RowKit

theorem bytesRow_at (s : ByteArray) (cap j : Nat) (h : j < s.size) : (bytesRow s cap)[j]? = some (.int .u8 (s[j].toNat : Int)) := by
  have h' : j < s.data.size := h
  unfold bytesRow
  rw [Array.getElem?_append_left (by simpa using h'), Array.getElem?_map, Array.getElem?_eq_getElem h']
  rfl

theorem nil_iff (s : ByteArray) : s.toList = [] ↔ s.size = 0 := by
  rw [ByteArray.toList_eq, ← size_toList]
  cases s.data.toList <;> simp

/-- What the loop has to its hand. -/
def IsvInv (w : World) (k n : Int) (s : ByteArray) (wr : World) : Prop :=
  wr.heap[w.heap.size]? = some (.cells #[.int .i64 k, .int .i64 n, .string s] 36 (0, 0)) ∧ (∀ j (h : j < s.size), wr.cell? ⟨w.heap.size + 1, j, none⟩ = some (.int .u8 (s[j].toNat : Int))) ∧ Below w.heap.size w wr

theorem isvInv_start (w : World) (k n : Int) (s : ByteArray) (cap : Nat) (fr : Nat × Nat) :
    IsvInv w k n s (((w.alloc (Obj.cells #[.int .i64 k, .int .i64 n, .string s] 36)).alloc (Obj.cells (bytesRow s cap) 5 fr)).drew) := by
  refine ⟨block_alloc_of (block_alloc_at w _) _, fun j h => ?_, (((Below.refl _ _).alloc (Nat.le_refl _) _).alloc (by simp) _).drew⟩
  have := block_alloc_at (w.alloc (Obj.cells #[.int .i64 k, .int .i64 n, .string s] 36)) (Obj.cells (bytesRow s cap) 5 fr)
  refine cell_of_block (t := 5) (fr := fr) ?_ (bytesRow_at s cap j h)
  rw [show (w.alloc (Obj.cells #[.int .i64 k, .int .i64 n, .string s] 36)).heap.size = w.heap.size + 1 from by simp] at this
  exact this

set_option maxHeartbeats 4000000 in
theorem isValue_any (v : V) (w : World) (hs : v.s.size ≤ maxLen) :
    Calls Tryz.prog 8 #[v.val] w fun e w' => e = .returned (.bool (good v)) ∧ Below w.heap.size w w' := by
  obtain ⟨k, n, s⟩ := v
  show Calls Tryz.prog 8 #[.agg #[.int .i64 k, .int .i64 n, .string s]] w _
  have HG : Hid (good ⟨k, n, s⟩ = (if k = 0 then decide (n = 0) && decide (s.size = 0) else if k = 1 then decide (-1000000 ≤ n) && decide (n ≤ 1000000) && decide (s.size = 0) else if k = 2 then decide (n = 0) && decide (s.size ≤ 8) && gtext s.data.toList else false)) := rfl
  generalize good ⟨k, n, s⟩ = G at HG ⊢
  simp only [maxLen] at hs
  have hcv := run_bytes_of_string (P := Tryz.prog) (w.alloc (Obj.cells #[.int .i64 k, .int .i64 n, .string s] 36)) 9 68 5 s Tryz.underlying9 Tryz.underlying68 Tryz.underlying5
  go_enter Tryz.func8, Tryz.ntmps8
  go_wp2
  go_loopw [3, 10] (fun ok i wr => ∃ j : Nat, j ≤ s.size ∧ i = .int .i64 j ∧ ok = .bool (gtext (s.data.toList.take j)) ∧ IsvInv w k n s wr) (fun _ i _ => s.size - (intOf i).toNat)
  case atStart => exact ⟨0, Nat.zero_le _, rfl, rfl, isvInv_start w k n s _ _⟩
  case round =>
    clear hcv
    obtain ⟨j, hj, rfl, rfl, hinv⟩ := hrel
    by_cases hlt : j < s.size
    · have hc := hinv.2.1 j hlt
      have hsn : Hid (gtext (s.data.toList.take (j + 1)) = (gtext (s.data.toList.take j) && goodb (s[j].toNat : Int))) := by show _ = _; rw [take_snoc s j hlt, gtext_snoc]
      have hb : Hid (goodb (s[j].toNat : Int) = (decide (32 ≤ (s[j].toNat : Int)) && decide ((s[j].toNat : Int) ≤ 126) && ((s[j].toNat : Int) != 39))) := rfl
      generalize gtext (s.data.toList.take j) = g at hsn
      generalize (s[j].toNat : Int) = c at hc hsn hb
      cases g
      · go_wp2
        go_roundw
        case rel => exact ⟨j + 1, by omega, by go_num, by rw [hsn.out]; rfl, hinv⟩
        case measure => simp [intOf]; omega
      · by_cases h1 : 32 ≤ c <;> by_cases h2 : c < 127 <;> by_cases h3 : c = 39
        all_goals
          go_wp2
          go_roundw
          case rel => exact ⟨j + 1, by omega, by go_num, by rw [hsn.out, hb.out]; first | rfl | (congr 1; simp_all; done) | (congr 1; simp_all; omega), hinv⟩
          case measure => simp [intOf]; omega
    · have e : s.data.toList.take j = s.data.toList := take_all s j (by omega)
      rw [e]
      clear e
      have C0 := cell_of_block hinv.1 (j := 0) rfl
      have C1 := cell_of_block hinv.1 (j := 1) rfl
      have C2 := cell_of_block hinv.1 (j := 2) rfl
      have hbel := hinv.2.2
      clear hinv
      generalize gtext s.data.toList = g at HG
      have hnil : Hid (s.toList = [] ↔ s.size = 0) := nil_iff s
      by_cases h0 : k = 0
      · subst h0
        go_wp2
        all_goals
          go_ret
          exact ⟨ret_bool (by have hn := hnil.out; rw [HG.out]; simp only [if_true]; simp_all), hbel⟩
      by_cases h1 : k = 1
      · subst h1
        by_cases hse : s.size = 0
        · have he : s.toList.isEmpty = true := by rw [empty_iff]; exact decide_eq_true hse
          rcases (show n < -1000000 ∨ 1000000 < n ∨ (-1000000 ≤ n ∧ n ≤ 1000000) from by omega) with hn | hn | ⟨hn, hm⟩
          all_goals
            go_wp2
            all_goals
              go_ret
              exact ⟨ret_bool (by rw [HG.out]; simp [hse]; try omega), hbel⟩
        · have he : s.toList.isEmpty = false := by rw [empty_iff]; exact decide_eq_false hse
          go_wp2
          all_goals
            go_ret
            exact ⟨ret_bool (by rw [HG.out]; simp [hse]), hbel⟩
      by_cases h2 : k = 2
      · subst h2
        by_cases hn : n = 0
        · subst hn
          cases g <;> by_cases h9 : s.size < 9
          all_goals
            go_wp2
            all_goals
              go_ret
              exact ⟨ret_bool (by rw [HG.out]; simp; try omega), hbel⟩
        · go_wp2
          all_goals
            go_ret
            exact ⟨ret_bool (by rw [HG.out]; simp [hn]), hbel⟩
      go_wp2
      all_goals
        go_ret
        exact ⟨ret_bool (by rw [HG.out]; simp [h0, h1, h2]), hbel⟩

end Go.Proofs.YtkncamggdfmlnaaGreatDoor

namespace Go.Proofs.YtkncamggdfmlnaaGreatDoor
open Go.RowKit

theorem convert_four (W : World) (a b c d : UInt8) :
    (convert 68 9 (.slice (some ⟨W.heap.size, 0, none⟩) 4 4)).run Tryz.prog (W.alloc (.cells #[.int .u8 (a.toNat : Int), .int .u8 (b.toNat : Int), .int .u8 (c.toNat : Int), .int .u8 (d.toNat : Int)] 5)) =
      .ok (.string (str [a, b, c, d])) (W.alloc (.cells #[.int .u8 (a.toNat : Int), .int .u8 (b.toNat : Int), .int .u8 (c.toNat : Int), .int .u8 (d.toNat : Int)] 5)) := by
  refine run_convert_bytes_back _ 68 9 5 ⟨W.heap.size, 0, none⟩ 4 [a, b, c, d] Tryz.underlying68 Tryz.underlying5 Tryz.underlying9 fun j hj => ?_
  refine cells_new W [.int .u8 (a.toNat : Int), .int .u8 (b.toNat : Int), .int .u8 (c.toNat : Int), .int .u8 (d.toNat : Int)] 5 j _ ?_
  match j, hj with
  | 0, _ => rfl
  | 1, _ => rfl
  | 2, _ => rfl
  | 3, _ => rfl

theorem convert_be4 (m : Int) (h0 : 0 ≤ m) (h1 : m < 4294967296) (W : World) :
    (convert 68 9 (.slice (some ⟨W.heap.size, 0, none⟩) 4 4)).run Tryz.prog (W.alloc (.cells #[.int .u8 (m / 16777216), .int .u8 (m / 65536 % 256), .int .u8 (m / 256 % 256), .int .u8 (m % 256)] 5)) =
      .ok (.string (str (be4 m.toNat))) (W.alloc (.cells #[.int .u8 (m / 16777216), .int .u8 (m / 65536 % 256), .int .u8 (m / 256 % 256), .int .u8 (m % 256)] 5)) := by
  have := convert_four W (UInt8.ofNat (m.toNat / 16777216)) (UInt8.ofNat (m.toNat / 65536)) (UInt8.ofNat (m.toNat / 256)) (UInt8.ofNat m.toNat)
  have e := be4V m h0 h1
  simp only [bytesV, be4, List.map_cons, List.map_nil, List.cons.injEq, and_true] at e
  rw [e.1, e.2.1, e.2.2.1, e.2.2.2] at this
  exact this

theorem key_text_str (s : ByteArray) : (⟨#[3]⟩ ++ s) ++ ⟨#[0]⟩ = str (3 :: (s.data.toList ++ [0])) := by
  have e : str (3 :: (s.data.toList ++ [0])) = (str [3] ++ str s.data.toList) ++ str [0] := by rw [str_append, str_append]; simp
  rw [e, str_toList]; rfl

set_option maxHeartbeats 2000000 in
theorem keyOf_some (L : List V) (b off cap : Nat) (w : World) (hL : HoldsV w b off L) (hb : b < w.heap.size) (hlen : L.length ≤ 1048576) (hss : ∀ v ∈ L, v.s.size ≤ maxLen) :
    Calls Tryz.prog 9 #[.slice (some ⟨b, off, none⟩) L.length cap] w fun e w' => e = .returned (.tuple #[.string (str (keyAns L).1), .int .i64 (keyAns L).2]) ∧ Below w.heap.size w w' := by
  go_enter Tryz.func9, Tryz.ntmps9
  go_wp2
  go_loopw [4, 10] (fun sv i wr => ∃ k : Nat, k ≤ L.length ∧ i = .int .i64 k ∧ (∀ v ∈ L.take k, good v = true) ∧ sv = .string (str (keys (L.take k))) ∧ Below w.heap.size w wr) (fun _ i _ => L.length - (intOf i).toNat)
  case atStart => exact ⟨0, Nat.zero_le _, rfl, by simp, rfl, Below.refl _ _⟩
  case round =>
    obtain ⟨k, hk, rfl, hgk, rfl, hbel⟩ := hrel
    by_cases hlt : k < L.length
    · obtain ⟨v, hv⟩ : ∃ v, L[k]? = some v := ⟨_, List.getElem?_eq_getElem hlt⟩
      obtain ⟨c0, c1, c2⟩ := hL.below hbel hb k v hv
      have hs : v.s.size ≤ maxLen := hss v (List.mem_of_getElem? hv)
      have hsz := hbel.size
      have hkl := keys_le (L.take k) hgk
      have htl : (L.take k).length ≤ k := List.length_take_le _ _
      have HG : Hid (∀ v ∈ L.take k, good v = true) := hgk
      have HV : Hid (L[k]? = some v) := hv
      have hks : (str (keys (L.take k))).size ≤ 10485760 := by rw [str_size]; omega
      have HT : Hid (keys (L.take (k + 1)) = keys (L.take k) ++ keyOf v) := by show _ = _; rw [take_snoc_of HV.out, keys_snoc]
      clear hgk hv hkl htl
      have hiv := fun w => isValue_any v w hs
      obtain ⟨kd, n, s⟩ := v
      cases hg : good ⟨kd, n, s⟩
      · rw [hg] at hiv
        go_wp2_with (go_at_call 8; go_must (refine (hiv _).mono ?_; rintro e w1 ⟨rfl, hb1⟩))
        go_ret2
        refine ⟨?_, bthen (hbel.alloc hsz _) hb1⟩
        rw [keyAns_bad (List.mem_of_getElem? HV.out) hg]
        rfl
      · rw [hg] at hiv
        have HG2 : Hid (∀ v ∈ L.take (k + 1), good v = true) := by
          show _
          rw [take_snoc_of HV.out]; intro x hx; simp at hx; rcases hx with hx | rfl
          · exact HG.out x hx
          · exact hg
        generalize hx : str (keys (L.take k)) = x at hks ⊢
        have HX : Hid (str (keys (L.take k)) = x) := hx
        clear hx
        by_cases h0 : kd = 0
        · subst h0
          go_wp2_with (go_at_call 8; go_must (refine (hiv _).mono ?_; rintro e w1 ⟨rfl, hb1⟩; obtain ⟨hcc, hff⟩ := bcell hb1))
          go_roundw
          case rel => exact ⟨k + 1, by omega, by go_num, HG2.out, by rw [HT.out, ← str_append, HX.out, keyOf_nothing rfl]; rfl, bthen (hbel.alloc hsz _) hb1⟩
          case measure => simp [intOf]; omega
        by_cases h1 : kd = 1
        · subst h1
          have hn := good_num (v := ⟨1, n, s⟩) rfl hg
          simp only at hn
          obtain ⟨hn1, hn2⟩ := hn
          have hcv := convert_be4 (n + 1073741824) (by omega) (by omega)
          have hz4 : (str (be4 (n + 1073741824).toNat)).size = 4 := by rw [str_size]; rfl
          generalize hy : str (be4 (n + 1073741824).toNat) = y at hcv hz4
          have HY : Hid (str (be4 (n + 1073741824).toNat) = y) := hy
          clear hy
          go_wp2_with (go_at_call 8; go_must (refine (hiv _).mono ?_; rintro e w1 ⟨rfl, hb1⟩; obtain ⟨hcc, hff⟩ := bcell hb1))
          have hs1 := hb1.size
          go_roundw
          case rel => exact ⟨k + 1, by omega, by go_num, HG2.out, by rw [HT.out, ← str_append, HX.out, keyOf_number rfl, ← HY.out]; exact congrArg (fun z => Value.string (x ++ z)) (str_append [2] _), (bthen (hbel.alloc hsz _) hb1).alloc (by simp at hs1; omega) _⟩
          case measure => simp [intOf]; omega
        have h2 : kd = 2 := by
          rcases good_kind hg with e | e | e
          · exact absurd e h0
          · exact absurd e h1
          · exact e
        subst h2
        have hs8 : s.size ≤ 8 := by simp [good] at hg; exact hg.1.2
        go_wp2_with (go_at_call 8; go_must (refine (hiv _).mono ?_; rintro e w1 ⟨rfl, hb1⟩; obtain ⟨hcc, hff⟩ := bcell hb1))
        go_roundw
        case rel => exact ⟨k + 1, by omega, by go_num, HG2.out, by rw [HT.out, ← str_append, HX.out, keyOf_text rfl]; exact congrArg (fun z => Value.string (x ++ z)) (key_text_str s), bthen (hbel.alloc hsz _) hb1⟩
        case measure => simp [intOf]; omega
    · have e : L.take k = L := List.take_of_length_le (by omega)
      rw [e] at hgk ⊢
      have HA : Hid (keyAns L = (keys L, 0)) := keyAns_good hgk
      clear hgk e
      go_wp2
      go_ret2
      exact ⟨by rw [HA.out]; rfl, hbel⟩

set_option maxHeartbeats 400000 in
theorem keyOf_none (ao : Option Addr) (cap : Nat) (w : World) :
    Calls Tryz.prog 9 #[.slice ao 0 cap] w fun e w' => e = .returned (.tuple #[.string (str (keyAns []).1), .int .i64 (keyAns []).2]) ∧ Below w.heap.size w w' := by
  go_enter Tryz.func9, Tryz.ntmps9
  go_wp2
  refine wp_loop_rounds 1 ?_
  rw [rounds_succ]
  go_wp2
  go_ret2
  exact ⟨rfl, Below.refl _ _⟩

theorem keyOf_any (L : List V) (v : Value) (w : World) (hv : IsVals w v L) (hlen : L.length ≤ 1048576) (hss : ∀ v ∈ L, v.s.size ≤ maxLen) :
    Calls Tryz.prog 9 #[v] w fun e w' => e = .returned (.tuple #[.string (str (keyAns L).1), .int .i64 (keyAns L).2]) ∧ Below w.heap.size w w' := by
  rcases hv with ⟨⟨ao, cap, rfl, _⟩, rfl⟩ | ⟨b, off, cap, rfl, hb, hL⟩
  · exact keyOf_none ao cap w
  · exact keyOf_some L b off cap w hL hb hlen hss

end Go.Proofs.YtkncamggdfmlnaaGreatDoor


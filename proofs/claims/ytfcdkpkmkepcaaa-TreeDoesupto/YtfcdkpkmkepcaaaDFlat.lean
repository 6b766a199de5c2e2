/-
  Contract of the document's FlatOf: all pairs of a good tree; of another one nothing.
-/
import Derived.Test.YtfcdkpkmkepcaaaDPages
namespace Go.Proofs.Ytfcdkpkmkepcaaa
open Go.RowKit

def FlatSays (w w' : World) (e : Ending) (T : List Pg) : Prop :=
  ((GoodT T ∧ ∃ v, e = .returned (.tuple #[v, .bool true]) ∧ IsPairs w' v (flat T)) ∨ (¬ GoodT T ∧ e = .returned (.tuple #[.slice none 0 0, .bool false]))) ∧ Below w.heap.size w w'

/-- What has been seen of a tree, up to a page, and up to a key of it. -/
def seen (T : List Pg) (k : Nat) (p : Pg) (q : Nat) : Prs := flat (T.take k) ++ (p.K.zip p.V).take q

theorem flat_split {T : List Pg} {k : Nat} {p : Pg} (hp : T[k]? = some p) : flat T = flat (T.take k) ++ (p.K.zip p.V ++ flat (T.drop (k + 1))) := by
  obtain ⟨h1, rfl⟩ := List.getElem?_eq_some_iff.1 hp
  conv => lhs; rw [← List.take_append_drop k T]
  rw [flat_append, List.drop_eq_getElem_cons h1, flat_cons]

theorem seen_rise {T : List Pg} {k q : Nat} {p : Pg} (hg : GoodT T) (hp : T[k]? = some p) : Rise ((seen T k p q).map Prod.fst) := by
  have h := hg.rise
  rw [flat_split hp] at h
  refine List.Pairwise.sublist (List.Sublist.map _ ?_) h
  exact List.Sublist.append_left ((List.take_sublist _ _).trans (List.sublist_append_left _ _)) _

theorem seen_step {T : List Pg} {k q : Nat} {p : Pg} {a b : ByteArray} (ha : p.K[q]? = some a) (hb : p.V[q]? = some b) : seen T k p (q + 1) = seen T k p q ++ [(a, b)] := by
  have hz : (p.K.zip p.V)[q]? = some (a, b) := by rw [List.getElem?_zip_eq_some]; exact ⟨ha, hb⟩
  unfold seen
  rw [List.take_add_one, hz, List.append_assoc]
  rfl

theorem seen_all {T : List Pg} {k : Nat} {p : Pg} (hp : T[k]? = some p) : flat (T.take (k + 1)) = seen T k p p.K.length := by
  rw [flat_take hp]
  unfold seen
  rw [List.take_of_length_le (l := p.K.zip p.V) (by rw [List.length_zip]; omega)]

theorem seen_zero (T : List Pg) (k : Nat) (p : Pg) : seen T k p 0 = flat (T.take k) := by simp [seen]

theorem rise_more {R : Prs} {x y : ByteArray × ByteArray} (h : Rise ((R ++ [x]).map Prod.fst)) (hlt : klt x.1 y.1 = true) : Rise ((R ++ [x] ++ [y]).map Prod.fst) := by
  simp only [List.map_append, List.map_cons, List.map_nil] at h ⊢
  exact rise_snoc h hlt

theorem rise_last {R : Prs} {x y : ByteArray × ByteArray} (h : Rise ((R ++ [x] ++ [y]).map Prod.fst)) : klt x.1 y.1 = true := by
  simp only [List.map_append, List.map_cons, List.map_nil] at h
  exact (rise_append.1 h).2.2 x.1 (by simp) y.1 (by simp)

theorem eq_nil_or_snoc {α : Type} (l : List α) : l = [] ∨ ∃ a x, l = a ++ [x] := by
  cases l with
  | nil => exact .inl rfl
  | cons a l => exact .inr ⟨(a :: l).dropLast, (a :: l).getLast (by simp), (List.dropLast_concat_getLast _).symm⟩

theorem flat_step {w wr W w3 : World} {P n : Nat} {z : Value} {cs : List Value} {a b : Value} (own : wr.ownsRow w.heap.size 54 2 z n cs) (hW : Below wr.heap.size wr W) (pb : wr.heap[P]? = some (.cells #[a, b] 69)) (hb : Below w.heap.size w wr) (gr : W.grownBy w3 z.ownBlock) :
    w3.heap[P]? = some (.cells #[a, b] 69) ∧ Below w.heap.size w w3 := by
  have lP := lt_of_block pb
  have hs := hW.size
  refine ⟨(gr.block _ (by omega) (own_ne own pb (by decide))).trans ((hW.block _ lP).trans pb), ?_⟩
  exact (hb.trans (hW.mono hb.size)).grown gr (by have := hb.size; omega) (fun j hj => (own.lt j hj).1)

set_option maxHeartbeats 20000000 in
set_option maxRecDepth 100000 in
theorem flatOf_any (T : List Pg) (tv : Value) (w : World) (h : IsTree w tv T) (hn : T.length ≤ 1048577) :
    Calls Try.prog 23 #[tv] w fun e w' => FlatSays w w' e T := by
  obtain ⟨i0, hi, hz0, hz1, hz2⟩ := info_parts info_pair
  have HKL := hid h.keysLen
  obtain ⟨sv, rfl, hs⟩ := h
  obtain ⟨so, sc, rfl⟩ := hs.shape
  have HS := hid hs
  clear hs
  generalize hnl : T.length = n at *
  have HN := hid hnl
  clear hnl
  generalize hW0 : w.alloc (.cells #[.slice so n sc] 39) = W0
  have hB0 : Below w.heap.size w W0 := by rw [← hW0]; exact balloc (Below.refl _ _) _
  have c0 : W0.cell? ⟨w.heap.size, 0, none⟩ = some (.slice so n sc) := by rw [← hW0]; exact cell_of_block (block_alloc_at w _) rfl
  go_enter Try.func23, Try.ntmps23
  go_wp2
  clear hW0
  go_loopw [4, 11] (fun z i wr => ∃ (k : Nat) (R : Prs), k ≤ n ∧ i = .int .i64 k ∧ R.length ≤ 4 * k ∧ wr.ownsRow w.heap.size 54 2 z R.length (prcells R) ∧ Below w.heap.size w wr ∧ Hid (R = flat (T.take k) ∧ (∀ p ∈ T.take k, p.ok) ∧ Rise (R.map Prod.fst))) (fun _ i _ => n - (intOf i).toNat)
  case atStart => exact ⟨0, [], Nat.zero_le _, rfl, by simp, World.ownsRow_nil _ _ _ _, hB0, hid ⟨by simp [flat], by simp, by simp [Rise]⟩⟩
  case round =>
    obtain ⟨k, R, hk, rfl, hRl, hown, hbel, HR⟩ := hrel
    by_cases hlt : k < n
    · obtain ⟨Wo, hWo⟩ : ∃ W, W = wr := ⟨_, rfl⟩
      subst hWo
      obtain ⟨p, hp⟩ : ∃ p, T[k]? = some p := ⟨_, List.getElem?_eq_getElem (by rw [HN.out]; omega)⟩
      obtain ⟨ba, oa, ka, kc, va, vc, rfl, hla, a0w, a1w, hak, hav⟩ := pages_at HS.out hp
      have a0 := (hbel.cell (p := ⟨ba, oa + k * 2, none⟩) hla).trans a0w
      have a1 := (hbel.cell (p := ⟨ba, oa + k * 2 + 1, none⟩) hla).trans a1w
      clear a0w a1w
      have hkm := HKL.out p (List.mem_of_getElem? hp)
      have HPK := hid hp
      have i0' : (0 : Int) ≤ (k : Int) := by omega
      have i1' : (k : Int) < (n : Int) := by omega
      have hsz := hbel.size
      clear hp
      unfold maxLen at hkm
      by_cases hok : p.ok
      · have HOK := hid hok
        obtain ⟨m1, m4, mvl⟩ := hok
        have HAK := hid hak
        have HAV := hid hav
        clear hak hav
        rw [mvl] at a1 HAV
        generalize hkn : p.K.length = m at *
        have HKN := hid (And.intro hkn mvl)
        clear hkn mvl
        have j1 : ¬ ((m : Int) = 0) := by omega
        have j1b : ((m : Int) == 0) = false := by simp; omega
        have j2 : ¬ ((4 : Int) < (m : Int)) := by omega
        have bmm : ((m : Int) != (m : Int)) = false := by simp
        obtain ⟨W1, hW1⟩ : ∃ W1, Wo.alloc (.cells #[.slice ka m kc, .slice va m vc] 69) = W1 := ⟨_, rfl⟩
        have hB1 : Below Wo.heap.size Wo W1 := by rw [← hW1]; exact balloc (Below.refl _ _) _
        have pb : W1.heap[Wo.heap.size]? = some (.cells #[.slice ka m kc, .slice va m vc] 69) := by rw [← hW1]; exact block_alloc_at Wo _
        have hown1 : W1.ownsRow w.heap.size 54 2 u4 R.length (prcells R) := ownsRow_below hown hB1
        have hbel1 : Below w.heap.size w W1 := hbel.trans (hB1.mono hbel.size)
        have p0 : W1.cell? ⟨Wo.heap.size, 0, none⟩ = some (.slice ka m kc) := cell_of_block pb rfl
        have p1 : W1.cell? ⟨Wo.heap.size, 1, none⟩ = some (.slice va m vc) := cell_of_block pb rfl
        go_wp2
        clear hW1 p0 p1
        go_loopw [4, 37] (fun z i wq => ∃ (q : Nat) (R : Prs), q ≤ m ∧ i = .int .i64 q ∧ R.length ≤ 4 * k + q ∧ wq.ownsRow w.heap.size 54 2 z R.length (prcells R) ∧ wq.heap[Wo.heap.size]? = some (.cells #[.slice ka m kc, .slice va m vc] 69) ∧ Below w.heap.size w wq ∧ Hid (R = seen T k p q ∧ Rise (R.map Prod.fst))) (fun _ i _ => m - (intOf i).toNat)
        case atStart => exact ⟨0, R, Nat.zero_le _, rfl, by omega, hown1, pb, hbel1, hid ⟨by rw [seen_zero]; exact HR.out.1, HR.out.2.2⟩⟩
        case round =>
          obtain ⟨q, R2, hq, rfl, hRl2, hown2, pb2, hbel2, HR2⟩ := hrel
          have p0 : wr.cell? ⟨Wo.heap.size, 0, none⟩ = some (.slice ka m kc) := cell_of_block pb2 rfl
          have p1 : wr.cell? ⟨Wo.heap.size, 1, none⟩ = some (.slice va m vc) := cell_of_block pb2 rfl
          by_cases hqlt : q < m
          · obtain ⟨s, hs⟩ : ∃ s, p.K[q]? = some s := ⟨_, List.getElem?_eq_getElem (by rw [HKN.out.1]; omega)⟩
            obtain ⟨v, hv⟩ : ∃ v, p.V[q]? = some v := ⟨_, List.getElem?_eq_getElem (by rw [HKN.out.2]; omega)⟩
            have HSS := hid (seen_step (T := T) (k := k) hs hv)
            obtain ⟨kb, ko, rfl, hkb, s0w⟩ := strs_at HAK.out hs
            obtain ⟨vb, vo, rfl, hvb, v0w⟩ := strs_at HAV.out hv
            have s0 := (hbel2.cell (p := ⟨kb, ko + q, none⟩) hkb).trans s0w
            have v0 := (hbel2.cell (p := ⟨vb, vo + q, none⟩) hvb).trans v0w
            have j3 : (0 : Int) ≤ (q : Int) := by omega
            have j4 : (q : Int) < (m : Int) := by omega
            have lP := lt_of_block pb2
            have lkb := Nat.lt_of_lt_of_le hkb hbel2.size
            have lvb := Nat.lt_of_lt_of_le hvb hbel2.size
            have ks : ∀ W, Below wr.heap.size wr W → (W.cell? ⟨Wo.heap.size, 0, none⟩ = some (.slice (some ⟨kb, ko, none⟩) m kc) ∧ W.cell? ⟨Wo.heap.size, 1, none⟩ = some (.slice (some ⟨vb, vo, none⟩) m vc) ∧ W.cell? ⟨kb, ko + q, none⟩ = some (.string s) ∧ W.cell? ⟨vb, vo + q, none⟩ = some (.string v)) := fun W hW =>
              ⟨(hW.cell (p := ⟨Wo.heap.size, 0, none⟩) lP).trans p0, (hW.cell (p := ⟨Wo.heap.size, 1, none⟩) lP).trans p1, (hW.cell (p := ⟨kb, ko + q, none⟩) lkb).trans s0, (hW.cell (p := ⟨vb, vo + q, none⟩) lvb).trans v0⟩
            have ks' : ∀ W, W.heap[Wo.heap.size]? = some (.cells #[.slice (some ⟨kb, ko, none⟩) m kc, .slice (some ⟨vb, vo, none⟩) m vc] 69) → Below w.heap.size w W → (W.cell? ⟨Wo.heap.size, 0, none⟩ = some (.slice (some ⟨kb, ko, none⟩) m kc) ∧ W.cell? ⟨Wo.heap.size, 1, none⟩ = some (.slice (some ⟨vb, vo, none⟩) m vc) ∧ W.cell? ⟨kb, ko + q, none⟩ = some (.string s) ∧ W.cell? ⟨vb, vo + q, none⟩ = some (.string v)) := fun W hP hW =>
              ⟨cell_of_block hP rfl, cell_of_block hP rfl, (hW.cell (p := ⟨kb, ko + q, none⟩) hkb).trans s0w, (hW.cell (p := ⟨vb, vo + q, none⟩) hvb).trans v0w⟩
            obtain ⟨zo, zc, ez⟩ := (IsRow.of_own hown2).shape
            subst ez
            clear hs hv s0w v0w
            rcases eq_nil_or_snoc R2 with rfl | ⟨R', x, rfl⟩
            · go_wp2
              go_quiet (fail)
              go_wp2
              have hB9 : Below wr.heap.size wr ((wr.drewN nq).alloc (.cells #[.string s, .string v] 54)).drew := (balloc (below_drewN (Below.refl _ _) nq) _).drew
              have hnew : ∀ j u, [Value.string s, Value.string v][j]? = some u → ((wr.drewN nq).alloc (.cells #[.string s, .string v] 54)).drew.cell? ((⟨wr.heap.size, 0, none⟩ : Addr).add j) = some u := cells_new (wr.drewN nq) [.string s, .string v] 54
              have hbase : w.heap.size ≤ ((wr.drewN nq).alloc (.cells #[.string s, .string v] 54)).drew.heap.size := Nat.le_trans hbel2.size hB9.size
              go_region_held3 (fun w' => w'.cell? ⟨Wo.heap.size, 0, none⟩ = some (.slice (some ⟨kb, ko, none⟩) m kc) ∧ w'.cell? ⟨Wo.heap.size, 1, none⟩ = some (.slice (some ⟨vb, vo, none⟩) m vc) ∧ w'.cell? ⟨kb, ko + q, none⟩ = some (.string s) ∧ w'.cell? ⟨vb, vo + q, none⟩ = some (.string v))
                (first | exact ks3 | exact ks _ hB9 | exact ks _ (below_drewN (Below.refl _ _) _).drew)
                ((refine step_append_own_at (by rfl) _ _ 41 (by rfl) w.heap.size 54 i0 _ 2 32 Try.underlying41 hi hz0 hz1 hz2 rfl (by decide) (.slice zo 0 zc) 0 (prcells []) (by rfl) (ownsRow_below hown2 hB9) ⟨wr.heap.size, 0, none⟩ 1 1 [.string s, .string v] (by rfl) rfl hnew (by simp; constructor <;> rfl) (by simp only [maxLen]; omega) (by omega) hbase ?_; intro zv w3 own3 gr3 at3; have hst := flat_step hown2 hB9 pb2 hbel2 gr3; have ks3 := ks' _ hst.1 hst.2))
              go_wp2
              go_roundw
              case rel =>
                refine ⟨q + 1, [(s, v)], by omega, by go_num, by simp; omega, own3, hst.1, hst.2, hid ⟨?_, by simp [Rise]⟩⟩
                rw [HSS.out, ← HR2.out.1]; rfl
              case measure => simp [intOf]; omega
            · have hxl : (R' ++ [x]).length = R'.length + 1 := by simp
              rw [hxl] at hown2 hRl2 ⊢
              have hxat : (R' ++ [x])[R'.length]? = some x := by simp
              have hisp : IsPairs wr (.slice zo (R'.length + 1) zc) (R' ++ [x]) := by unfold IsPairs; rw [hxl]; exact IsRow.of_own hown2
              obtain ⟨zb, zf, rfl, hzb, x0, _⟩ := pairs_at hisp hxat
              have hxl' := hid hxl
              clear hxl hxat hisp
              generalize hrn : R'.length = r at *
              have j5 : (0 : Int) ≤ (r : Int) := by omega
              have j6 : (r : Int) < (r : Int) + 1 := by omega
              have j7 : (0 : Int) < (r : Int) + 1 := by omega
              have j8 : (r : Int) ≤ 8388608 := by omega
              have j9 : IntKind.i64.wrap (r : Int) = (r : Int) := by rw [IntKind.wrap_i64]; omega
              have HRN := hid hrn
              clear hrn
              obtain ⟨xk, xv⟩ := x
              simp only at x0
              cases hc : klt xk s
              · have hc' : Op.bytesLess xk.toList s.toList = false := hc
                have HNG := hid (show ¬ GoodT T from fun hg => by
                  have h1 := seen_rise (q := q + 1) hg HPK.out
                  rw [HSS.out, ← HR2.out.1] at h1
                  have := rise_last h1
                  rw [hc] at this; cases this)
                clear hc
                go_wp2
                go_quiet (fail)
                go_wp2
                go_ret2
                exact ⟨.inr ⟨HNG.out, rfl⟩, below_drewN hbel2 _⟩
              · have hc' : Op.bytesLess xk.toList s.toList = true := hc
                have HC := hid hc
                clear hc
                go_wp2
                go_quiet (fail)
                go_wp2
                have hB9 : Below wr.heap.size wr ((wr.drewN nq).alloc (.cells #[.string s, .string v] 54)).drew := (balloc (below_drewN (Below.refl _ _) nq) _).drew
                have hnew : ∀ j u, [Value.string s, Value.string v][j]? = some u → ((wr.drewN nq).alloc (.cells #[.string s, .string v] 54)).drew.cell? ((⟨wr.heap.size, 0, none⟩ : Addr).add j) = some u := cells_new (wr.drewN nq) [.string s, .string v] 54
                have hbase : w.heap.size ≤ ((wr.drewN nq).alloc (.cells #[.string s, .string v] 54)).drew.heap.size := Nat.le_trans hbel2.size hB9.size
                go_region_held3 (fun w' => w'.cell? ⟨Wo.heap.size, 0, none⟩ = some (.slice (some ⟨kb, ko, none⟩) m kc) ∧ w'.cell? ⟨Wo.heap.size, 1, none⟩ = some (.slice (some ⟨vb, vo, none⟩) m vc) ∧ w'.cell? ⟨kb, ko + q, none⟩ = some (.string s) ∧ w'.cell? ⟨vb, vo + q, none⟩ = some (.string v))
                  (first | exact ks3 | exact ks _ hB9 | exact ks _ (below_drewN (Below.refl _ _) _).drew)
                  ((refine step_append_own_at (by rfl) _ _ 41 (by rfl) w.heap.size 54 i0 _ 2 32 Try.underlying41 hi hz0 hz1 hz2 rfl (by decide) (.slice (some ⟨zb, zf, none⟩) (r + 1) zc) (r + 1) (prcells (R' ++ [(xk, xv)])) (by rfl) (ownsRow_below hown2 hB9) ⟨wr.heap.size, 0, none⟩ 1 1 [.string s, .string v] (by rfl) rfl hnew (by simp; constructor <;> rfl) (by simp only [maxLen]; omega) (by omega) hbase ?_; intro zv w3 own3 gr3 at3; have hst := flat_step hown2 hB9 pb2 hbel2 gr3; have ks3 := ks' _ hst.1 hst.2))
                go_wp2
                go_roundw
                case rel =>
                  refine ⟨q + 1, R' ++ [(xk, xv)] ++ [(s, v)], by omega, by go_num, ?_, ?_, hst.1, hst.2, hid ⟨?_, rise_more HR2.out.2 HC.out⟩⟩
                  · simp only [List.length_append, List.length_cons, List.length_nil, HRN.out]; omega
                  · rw [List.length_append, hxl'.out, prcells_append]; exact own3
                  · rw [HSS.out, ← HR2.out.1]
                case measure => simp [intOf]; omega
          · have hqm : q = m := by omega
            subst hqm
            have v1 : ¬ ((q : Int) < (q : Int)) := by omega
            go_wp2
            go_roundw
            case rel =>
              refine ⟨k + 1, R2, by omega, by go_num, by omega, hown2, hbel2, hid ⟨?_, ?_, HR2.out.2⟩⟩
              · rw [seen_all HPK.out, HKN.out.1]; exact HR2.out.1
              · intro g hg
                rw [List.take_add_one, HPK.out] at hg
                rcases List.mem_append.1 hg with hg | hg
                · exact HR.out.2.1 g hg
                · obtain rfl : g = p := by simpa using hg
                  exact HOK.out
            case measure => simp [intOf]; omega
      · have HNG := hid (show ¬ GoodT T from fun hg => hok (hg.1 p (List.mem_of_getElem? HPK.out)))
        have hfin : Below w.heap.size w (Wo.alloc (.cells #[.slice ka p.K.length kc, .slice va p.V.length vc] 69)) := hbel.alloc hsz _
        have HOK := hid hok
        clear hok hak hav
        generalize hkn : p.K.length = m at *
        generalize hvn : p.V.length = mv at *
        have hbad : m = 0 ∨ (m ≠ 0 ∧ 4 < m) ∨ (m ≠ 0 ∧ m ≤ 4 ∧ m ≠ mv) := by
          have := HOK.out
          unfold Pg.ok at this
          rw [hkn, hvn] at this
          omega
        clear hkn hvn
        rcases hbad with rfl | ⟨g1, g2⟩ | ⟨g1, g2, g3⟩
        · go_wp2
          go_ret2
          exact ⟨.inr ⟨HNG.out, rfl⟩, hfin⟩
        · have j1 : ¬ ((m : Int) = 0) := by omega
          have j1b : ((m : Int) == 0) = false := by simpa using g1
          have j2 : (4 : Int) < (m : Int) := by omega
          go_wp2
          go_ret2
          exact ⟨.inr ⟨HNG.out, rfl⟩, hfin⟩
        · have j1 : ¬ ((m : Int) = 0) := by omega
          have j1b : ((m : Int) == 0) = false := by simpa using g1
          have j2 : ¬ ((4 : Int) < (m : Int)) := by omega
          have j3 : ¬ ((m : Int) = (mv : Int)) := by omega
          have j3b : ((m : Int) == (mv : Int)) = false := by simpa using j3
          have j3c : ((m : Int) != (mv : Int)) = true := by simpa using j3
          go_wp2
          go_ret2
          exact ⟨.inr ⟨HNG.out, rfl⟩, hfin⟩
    · have hkn : k = n := by omega
      subst hkn
      have v1 : ¬ ((k : Int) < (k : Int)) := by omega
      have hT : T.take k = T := by rw [← HN.out, List.take_length]
      have HG := hid (show GoodT T ∧ R = flat T from by
        have hh := HR.out
        rw [hT] at hh
        refine ⟨good_of_flat hh.2.1 ?_, hh.1⟩
        rw [← hh.1]; exact hh.2.2)
      clear hT
      go_wp2
      go_ret2
      exact ⟨.inl ⟨HG.out.1, _, rfl, by rw [← HG.out.2]; exact IsRow.of_own hown⟩, hbel⟩

end Go.Proofs.Ytfcdkpkmkepcaaa

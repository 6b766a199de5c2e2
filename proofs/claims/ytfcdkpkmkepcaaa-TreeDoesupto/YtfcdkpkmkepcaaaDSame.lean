/-
  Contract of the statements' sameTree, of two trees that have the same pages; of the statements' own question whether tree answers at all.
-/
import Derived.Test.YtfcdkpkmkepcaaaDPairs
import Derived.Test.YtfcdkpkmkepcaaaTTrees
namespace Go.Proofs.Ytfcdkpkmkepcaaa
open Go.RowKit

set_option maxHeartbeats 1000000 in
theorem treesLaw_any (w : World) : Calls Try.prog 30 #[] w fun e w' => e = .returned (.bool true) ∧ Below w.heap.size w w' := by
  have p1 := put_any [] (.agg #[.slice none 0 0]) ⟨#[98]⟩ ⟨#[49]⟩ w (tree_zero w) ⟨by simp, by simp [keysT, Rise]⟩ (by decide)
  go_enter Try.func30, Try.ntmps30
  go_wp2_with (first
    | (go_at_call_of 26 (Value.agg #[.slice none 0 0]); go_must (go_fit p1; rintro e w1 ⟨tv1, T1, rfl, ht1, hb1, hg1, hf1, hl1⟩; have p2 := put_any T1 tv1 ⟨#[97]⟩ ⟨#[50]⟩ w1 ht1 hg1 (by simp at hl1; omega)))
    | (go_at_call 26; go_must (go_fit p2; rintro e w2 ⟨tv2, T2, rfl, ht2, hb2, hg2, hf2, hl2⟩; have hfl := trees_flat hf1 hf2; obtain ⟨sv2, rfl, hs2⟩ := ht2; obtain ⟨ao, c, rfl⟩ := hs2.shape; have hbx : Below w2.heap.size w2 (w2.alloc (.cells #[.slice ao T2.length c] 39)) := (Below.refl _ _).alloc (Nat.le_refl _) _; have gt := get_good T2 (.agg #[.slice ao T2.length c]) ⟨#[97]⟩ _ ⟨_, rfl, hs2.below hbx⟩ hg2 (by simp at hl1 hl2; omega); rw [hfl, trees_get] at gt))
    | (go_at_call 24; go_must (go_fit gt; rintro e w3 ⟨rfl, hb3⟩; have sz := size_any T2 (.agg #[.slice ao T2.length c]) w3 ⟨_, rfl, (hs2.below hbx).below hb3⟩ (by rw [← length_flat hg2.1, hfl]; decide); rw [← length_flat hg2.1, hfl] at sz; have cb3 : w3.cell? ⟨w2.heap.size, 0, none⟩ = some (.slice ao T2.length c) := cell_of_block ((hb3.block _ (by simp)).trans (block_alloc_at w2 _)) rfl))
    | (go_at_call 34; go_must (go_fit sz; rintro e w4 ⟨rfl, hb4⟩)))
  go_ret
  exact ⟨rfl, bthen (bthen (bthen (bthen hb1 hb2) hbx) hb3) hb4⟩

/-- No page has more keys or texts than may be counted. -/
def Short (T : List Pg) : Prop := ∀ p ∈ T, p.K.length ≤ 1048576 ∧ p.V.length ≤ 1048576

theorem pages_at {w : World} {ao : Option Addr} {n c i : Nat} {T : List Pg} {p : Pg} (h : IsPages w (.slice ao n c) T) (hi : T[i]? = some p) : ∃ b off ka kc va vc, ao = some ⟨b, off, none⟩ ∧ b < w.heap.size ∧ w.cell? ⟨b, off + i * 2, none⟩ = some (.slice ka p.K.length kc) ∧ w.cell? ⟨b, off + i * 2 + 1, none⟩ = some (.slice va p.V.length vc) ∧ IsStrs w (.slice ka p.K.length kc) p.K ∧ IsStrs w (.slice va p.V.length vc) p.V := by
  obtain ⟨b, off, cap, e, hb, _, _, hT⟩ := h.at (by have := (List.getElem?_eq_some_iff.1 hi).1; omega)
  simp only [Value.slice.injEq] at e
  obtain ⟨kv, vv, c0, c1, hk, hv⟩ := hT i p hi
  obtain ⟨ka, kc, rfl⟩ := hk.shape
  obtain ⟨va, vc, rfl⟩ := hv.shape
  exact ⟨b, off, ka, kc, va, vc, e.1, hb, c0, c1, hk, hv⟩

set_option maxHeartbeats 8000000 in
set_option maxRecDepth 100000 in
theorem sameTree_any (T : List Pg) (av bv : Value) (w : World) (ha : IsTree w av T) (hb : IsTree w bv T) (hn : T.length ≤ 1048577) (hsh : Short T) :
    Calls Try.prog 29 #[av, bv] w fun e w' => e = .returned (.bool true) ∧ Below w.heap.size w w' := by
  obtain ⟨sa, rfl, ha⟩ := ha
  obtain ⟨sb, rfl, hb⟩ := hb
  obtain ⟨ao, ac, rfl⟩ := ha.shape
  obtain ⟨bo, bc, rfl⟩ := hb.shape
  have HA := hid ha
  have HB := hid hb
  have HSH := hid hsh
  clear ha hb hsh
  generalize hnl : T.length = n at *
  have HN := hid hnl
  clear hnl
  generalize hW0 : (w.alloc (.cells #[.slice ao n ac] 39)).alloc (.cells #[.slice bo n bc] 39) = W0
  have hB0 : Below w.heap.size w W0 := by rw [← hW0]; exact ((Below.refl _ w).alloc (Nat.le_refl _) _).alloc (by simp) _
  have b0 : W0.heap[w.heap.size]? = some (.cells #[.slice ao n ac] 39) := by rw [← hW0]; exact block_alloc_of (block_alloc_at w _) _
  have b1 : W0.heap[w.heap.size + 1]? = some (.cells #[.slice bo n bc] 39) := by
    rw [← hW0]; have := block_alloc_at (w.alloc (.cells #[.slice ao n ac] 39)) (.cells #[.slice bo n bc] 39); rwa [World.size_alloc] at this
  have ca : W0.cell? ⟨w.heap.size, 0, none⟩ = some (.slice ao n ac) := cell_of_block b0 rfl
  have cb : W0.cell? ⟨w.heap.size + 1, 0, none⟩ = some (.slice bo n bc) := cell_of_block b1 rfl
  have l1 := lt_of_block b1
  go_enter Try.func29, Try.ntmps29
  go_wp2
  clear hW0
  go_loopw [19] (fun i wr => ∃ k : Nat, k ≤ n ∧ i = .int .i64 k ∧ Below W0.heap.size W0 wr) (fun i _ => n - (intOf i).toNat)
  case atStart => exact ⟨0, Nat.zero_le _, rfl, Below.refl _ _⟩
  case round =>
    obtain ⟨k, hk, rfl, hbel⟩ := hrel
    by_cases hlt : k < n
    · obtain ⟨Wo, hWo⟩ : ∃ W, W = wr := ⟨_, rfl⟩
      subst hWo
      obtain ⟨p, hp⟩ : ∃ p, T[k]? = some p := ⟨_, List.getElem?_eq_getElem (by rw [HN.out]; omega)⟩
      obtain ⟨hs1, hs2⟩ := HSH.out p (List.mem_of_getElem? hp)
      have hbw : Below w.heap.size w Wo := hB0.trans (hbel.mono hB0.size)
      obtain ⟨ba, oa, ka, kc, va, vc, rfl, hla, a0, a1, hak, hav⟩ := pages_at (HA.out.below hbw) hp
      obtain ⟨bb, ob, ka', kc', va', vc', rfl, hlb, e0, e1, hbk, hbv⟩ := pages_at (HB.out.below hbw) hp
      have ctb : Wo.cell? ⟨w.heap.size + 1, 0, none⟩ = some (.slice (some ⟨bb, ob, none⟩) n bc) := (hbel.cell (p := ⟨w.heap.size + 1, 0, none⟩) l1).trans cb
      have lt1 := Nat.lt_of_lt_of_le l1 hbel.size
      have i0 : (0 : Int) ≤ (k : Int) := by omega
      have i1 : (k : Int) < (n : Int) := by omega
      have HAK := hid hak
      have HAV := hid hav
      have HBK := hid hbk
      have HBV := hid hbv
      generalize hkn : p.K.length = m at *
      generalize hvn : p.V.length = mv at *
      have HKN := hid (And.intro hkn hvn)
      clear hak hav hbk hbv hkn hvn hp
      obtain ⟨W1, hW1⟩ : ∃ W1, Wo.alloc (.cells #[.slice ka m kc, .slice va mv vc] 69) = W1 := ⟨_, rfl⟩
      have hB1 : Below Wo.heap.size Wo W1 := by rw [← hW1]; exact (Below.refl _ _).alloc (Nat.le_refl _) _
      have pb : W1.heap[Wo.heap.size]? = some (.cells #[.slice ka m kc, .slice va mv vc] 69) := by rw [← hW1]; exact block_alloc_at Wo _
      have lpb := lt_of_block pb
      have p0 : W1.cell? ⟨Wo.heap.size, 0, none⟩ = some (.slice ka m kc) := cell_of_block pb rfl
      have p1 : W1.cell? ⟨Wo.heap.size, 1, none⟩ = some (.slice va mv vc) := cell_of_block pb rfl
      have t1 : W1.cell? ⟨w.heap.size + 1, 0, none⟩ = some (.slice (some ⟨bb, ob, none⟩) n bc) := (hB1.cell (p := ⟨w.heap.size + 1, 0, none⟩) lt1).trans ctb
      have e10 : W1.cell? ⟨bb, ob + k * 2, none⟩ = some (.slice ka' m kc') := (hB1.cell (p := ⟨bb, ob + k * 2, none⟩) hlb).trans e0
      have e11 : W1.cell? ⟨bb, ob + k * 2 + 1, none⟩ = some (.slice va' mv vc') := (hB1.cell (p := ⟨bb, ob + k * 2 + 1, none⟩) hlb).trans e1
      have lt2 := Nat.lt_of_lt_of_le lt1 hB1.size
      have hlb1 := Nat.lt_of_lt_of_le hlb hB1.size
      have bmm : ((m : Int) != (m : Int)) = false := by simp
      have bvv : ((mv : Int) != (mv : Int)) = false := by simp
      go_wp2
      go_quiet (fail)
      go_wp2
      go_loopw [51] (fun i wq => ∃ q : Nat, q ≤ m ∧ i = .int .i64 q ∧ Below W1.heap.size W1 wq) (fun i _ => m - (intOf i).toNat)
      case atStart => exact ⟨0, Nat.zero_le _, rfl, below_drewN (Below.refl _ _) _⟩
      case round =>
        obtain ⟨q, hq, rfl, hbq⟩ := hrel
        have hbq' : Below Wo.heap.size Wo wr := hB1.trans (hbq.mono hB1.size)
        have p0' := (hbq.cell (p := ⟨Wo.heap.size, 0, none⟩) lpb).trans p0
        have p1' := (hbq.cell (p := ⟨Wo.heap.size, 1, none⟩) lpb).trans p1
        have t1' := (hbq.cell (p := ⟨w.heap.size + 1, 0, none⟩) lt2).trans t1
        have e10' := (hbq.cell (p := ⟨bb, ob + k * 2, none⟩) hlb1).trans e10
        have e11' := (hbq.cell (p := ⟨bb, ob + k * 2 + 1, none⟩) hlb1).trans e11
        by_cases hqlt : q < m
        · obtain ⟨s, hs⟩ : ∃ s, p.K[q]? = some s := ⟨_, List.getElem?_eq_getElem (by rw [HKN.out.1]; omega)⟩
          obtain ⟨kb, ko, rfl, _, s0⟩ := strs_at (HAK.out.below hbq') hs
          obtain ⟨kb', ko', rfl, _, s1⟩ := strs_at (HBK.out.below hbq') hs
          have j0 : (0 : Int) ≤ (q : Int) := by omega
          have j1 : (q : Int) < (m : Int) := by omega
          have hss : (s.toList == s.toList) = true := by simp
          clear hs
          go_wp2
          go_quiet (fail)
          go_wp2
          go_roundw
          case rel => exact ⟨q + 1, by omega, by go_num, below_drewN hbq _⟩
          case measure => simp [intOf]; omega
        · have hqm : ¬ ((q : Int) < (m : Int)) := by omega
          obtain ⟨W2, hW2⟩ : ∃ W, W = wr := ⟨_, rfl⟩
          subst hW2
          go_wp2
          go_loopw [73] (fun i wq => ∃ q : Nat, q ≤ mv ∧ i = .int .i64 q ∧ Below W2.heap.size W2 wq) (fun i _ => mv - (intOf i).toNat)
          case atStart => exact ⟨0, Nat.zero_le _, rfl, Below.refl _ _⟩
          case round =>
            obtain ⟨g, hg, rfl, hbg⟩ := hrel
            have lpb2 := Nat.lt_of_lt_of_le lpb hbq.size
            have lt3 := Nat.lt_of_lt_of_le lt2 hbq.size
            have hlb2 := Nat.lt_of_lt_of_le hlb1 hbq.size
            have hbg' : Below Wo.heap.size Wo wr := hbq'.trans (hbg.mono hbq'.size)
            have p1'' := (hbg.cell (p := ⟨Wo.heap.size, 1, none⟩) lpb2).trans p1'
            have t1'' := (hbg.cell (p := ⟨w.heap.size + 1, 0, none⟩) lt3).trans t1'
            have e11'' := (hbg.cell (p := ⟨bb, ob + k * 2 + 1, none⟩) hlb2).trans e11'
            by_cases hglt : g < mv
            · obtain ⟨s, hs⟩ : ∃ s, p.V[g]? = some s := ⟨_, List.getElem?_eq_getElem (by rw [HKN.out.2]; omega)⟩
              obtain ⟨kb, ko, rfl, _, s0⟩ := strs_at (HAV.out.below hbg') hs
              obtain ⟨kb', ko', rfl, _, s1⟩ := strs_at (HBV.out.below hbg') hs
              have j0 : (0 : Int) ≤ (g : Int) := by omega
              have j1 : (g : Int) < (mv : Int) := by omega
              have hss : (s.toList == s.toList) = true := by simp
              clear hs
              go_wp2
              go_quiet (fail)
              go_wp2
              go_roundw
              case rel => exact ⟨g + 1, by omega, by go_num, below_drewN hbg _⟩
              case measure => simp [intOf]; omega
            · have hgm : ¬ ((g : Int) < (mv : Int)) := by omega
              go_wp2
              go_roundw
              case rel => exact ⟨k + 1, by omega, by go_num, hbel.trans (hbg'.mono hbel.size)⟩
              case measure => simp [intOf]; omega
    · have v1 : ¬ ((k : Int) < (n : Int)) := by omega
      go_wp2
      go_ret
      exact ⟨rfl, hB0.trans (hbel.mono hB0.size)⟩

end Go.Proofs.Ytfcdkpkmkepcaaa

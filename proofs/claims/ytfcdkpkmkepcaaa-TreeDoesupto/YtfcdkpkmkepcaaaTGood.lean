/-
  Contracts of tree.lastKey, tree.goodPage and tree.Good: whether a tree is one.
-/
import Derived.Test.YtfcdkpkmkepcaaaProg
import Derived.Test.YtfcdkpkmkepcaaaTMem
import Derived.Test.YtfcdkpkmkepcaaaTMath2
import Derived.WalkKit
import Derived.WalkSpells
import Derived.WalkLawsBesides
import Derived.Deep.QuietTactic
import Derived.BigQuiet
import Derived.Deep.RegionHeld3
import Derived.Deep.DrawnRows
import Derived.Shelf.SlSorted.Search
attribute [local go_sem ↓] Go.wp_at_zero Go.wp_at_succ
namespace Go.Proofs.Ytfcdkpkmkepcaaa
open Go.RowKit

set_option maxHeartbeats 400000 in
theorem lastKey_any (p : Pg) (kv vv : Value) (w : World) (hk : IsStrs w kv p.K) (h0 : 0 < p.K.length) (h4 : p.K.length ≤ 4) :
    Calls Try.prog 54 #[.agg #[kv, vv]] w fun e w' => e = .returned (.string (lastK p)) ∧ w' = w.alloc (.cells #[kv, vv] 69) := by
  obtain ⟨b, off, cap, rfl, hb, hc, hm, hcell⟩ := hk.at h0
  obtain ⟨m, hm1⟩ : ∃ m, p.K.length = m + 1 := ⟨p.K.length - 1, by omega⟩
  have c0 := hcell m _ (lastK_at hm1)
  generalize lastK p = s at c0 ⊢
  rw [hm1] at hc ⊢
  have i0 : (0 : Int) ≤ ((m + 1 : Nat) : Int) - 1 := by omega
  have i1 : ((m + 1 : Nat) : Int) - 1 < ((m + 1 : Nat) : Int) := by omega
  have i2 : (((m + 1 : Nat) : Int) - 1).toNat = m := by omega
  clear hcell hk
  go_enter Try.func54, Try.ntmps54
  go_wp2
  go_ret
  exact ⟨rfl, rfl⟩

set_option maxHeartbeats 2000000 in
theorem goodPage_some (p : Pg) (b off cap : Nat) (vv : Value) (w : World) (hb : b < w.heap.size) (hcell : ∀ i s, p.K[i]? = some s → w.cell? ⟨b, off + i, none⟩ = some (.string s)) (hv : ∃ ao c, vv = .slice ao p.K.length c) (h0 : 0 < p.K.length) (h4 : p.K.length ≤ 4) :
    Calls Try.prog 53 #[.agg #[.slice (some ⟨b, off, none⟩) p.K.length cap, vv]] w fun e w' => SaysB e (Rise p.K) ∧ Below w.heap.size w w' := by
  obtain ⟨ao, c, rfl⟩ := hv
  have HC := hid hcell
  clear hcell
  generalize hn : p.K.length = n at *
  have HN := hid hn
  clear hn
  have t1 : ¬ ((n : Int) < 1) := by omega
  have t2 : ¬ ((n : Int) > 4) := by omega
  go_enter Try.func53, Try.ntmps53
  go_wp2
  go_loopw [3] (fun i wr => ∃ k : Nat, k + 1 ≤ n ∧ i = .int .i64 ((k : Int) + 1) ∧ Below w.heap.size w wr ∧ wr.cell? ⟨w.heap.size, 0, none⟩ = some (.slice (some ⟨b, off, none⟩) n cap) ∧ Hid (Rise (p.K.take (k + 1)))) (fun i _ => n - (intOf i).toNat)
  case atStart => exact ⟨0, h0, rfl, by first | exact (Below.refl _ _).alloc (Nat.le_refl _) _ | skip, by first | exact cell_of_block (block_alloc_at w _) rfl | skip, hid (by
      have : (p.K.take 1).length ≤ 1 := by simp; omega
      match hx : p.K.take 1, this with
      | [], _ => exact List.Pairwise.nil
      | [a], _ => simp [Rise]
      | _ :: _ :: _, h => simp at h)⟩
  case round =>
    obtain ⟨k, hk, rfl, hbel, hbox, HR⟩ := hrel
    by_cases hlt : k + 1 < n
    · obtain ⟨a, ha⟩ : ∃ a, p.K[k]? = some a := ⟨_, List.getElem?_eq_getElem (by rw [HN.out]; omega)⟩
      obtain ⟨d, hd⟩ : ∃ d, p.K[k + 1]? = some d := ⟨_, List.getElem?_eq_getElem (by rw [HN.out]; omega)⟩
      have c0 : wr.cell? ⟨b, off + k, none⟩ = some (.string a) := by rw [hbel.cell (p := ⟨b, off + k, none⟩) hb]; exact HC.out k a ha
      have c1 : wr.cell? ⟨b, off + (k + 1), none⟩ = some (.string d) := by rw [hbel.cell (p := ⟨b, off + (k + 1), none⟩) hb]; exact HC.out (k + 1) d hd
      have HS := hid (fun h => rise_take_step HR.out ha hd h)
      have HF := hid (fun h : Rise p.K => rise_at h ha hd)
      clear ha hd
      have j0 : (0 : Int) ≤ (k : Int) := by omega
      have j1 : (k : Int) < (n : Int) := by omega
      have j2 : (0 : Int) ≤ (k : Int) + 1 := by omega
      have j3 : (k : Int) + 1 < (n : Int) := by omega
      have j4 : (k : Int) + 1 - 1 = (k : Int) := by omega
      have j5 : ((k : Int) + 1).toNat = k + 1 := by omega
      cases had : klt a d
      · have had' : Op.bytesLess a.toList d.toList = false := had
        go_wp2
        go_quiet (fail)
        go_wp2
        go_ret
        exact ⟨says_false (fun h => by have := HF.out h; rw [had] at this; cases this), by first | exact below_drewN hbel _ | exact hbel.drew⟩
      · have had' : Op.bytesLess a.toList d.toList = true := had
        go_wp2
        go_quiet (fail)
        go_wp2
        go_roundw
        case rel => exact ⟨k + 1, by omega, by go_num, by first | exact below_drewN hbel _ | exact hbel.drew, hbox, hid (HS.out had)⟩
        case measure => simp [intOf]; omega
    · have hkn : k + 1 = n := by omega
      have j3 : ¬ ((k : Int) + 1 < (n : Int)) := by omega
      go_wp2
      go_ret
      exact ⟨says_true (by have := HR.out; rwa [hkn, ← HN.out, List.take_length] at this), hbel⟩

set_option maxHeartbeats 1000000 in
theorem goodPage_not (n m : Nat) (ao bo : Option Addr) (c d : Nat) (w : World) (hbad : n < 1 ∨ 4 < n ∨ m ≠ n) (hn : n ≤ maxLen) :
    Calls Try.prog 53 #[.agg #[.slice ao n c, .slice bo m d]] w fun e w' => e = .returned (.bool false) ∧ Below w.heap.size w w' := by
  unfold maxLen at hn
  by_cases h1 : n < 1
  · obtain rfl : n = 0 := by omega
    go_enter Try.func53, Try.ntmps53
    go_wp2
    go_ret
    exact ⟨rfl, (Below.refl _ _).alloc (Nat.le_refl _) _⟩
  · have t1 : ¬ ((n : Int) < 1) := by omega
    by_cases h2 : 4 < n
    · have t2 : (n : Int) > 4 := by omega
      go_enter Try.func53, Try.ntmps53
      go_wp2
      go_ret
      exact ⟨rfl, (Below.refl _ _).alloc (Nat.le_refl _) _⟩
    · have t2 : ¬ ((n : Int) > 4) := by omega
      have t3 : ¬ ((m : Int) = (n : Int)) := by omega
      go_enter Try.func53, Try.ntmps53
      go_wp2
      go_ret
      exact ⟨rfl, (Below.refl _ _).alloc (Nat.le_refl _) _⟩

/-- tree.goodPage. -/
theorem goodPage_any (p : Pg) (kv vv : Value) (w : World) (hk : IsStrs w kv p.K) (hv : IsStrs w vv p.V) (hl : p.K.length ≤ maxLen) :
    Calls Try.prog 53 #[.agg #[kv, vv]] w fun e w' => SaysB e (p.ok ∧ Rise p.K) ∧ Below w.heap.size w w' := by
  by_cases h : p.ok
  · obtain ⟨b, off, cap, rfl, hb, _, _, hcell⟩ := hk.at h.1
    refine (goodPage_some p b off cap vv w hb hcell (by obtain ⟨ao, c, e⟩ := hv.shape; exact ⟨ao, c, by rw [e, h.2.2]⟩) h.1 h.2.1).mono ?_
    rintro e w' ⟨⟨r, he, hr⟩, hb'⟩
    exact ⟨⟨r, he, by rw [hr]; exact ⟨fun x => ⟨h, x⟩, fun x => x.2⟩⟩, hb'⟩
  · obtain ⟨ao, c, rfl⟩ := hk.shape
    obtain ⟨bo, d, rfl⟩ := hv.shape
    refine (goodPage_not _ _ ao bo c d w (by unfold Pg.ok at h; omega) hl).mono ?_
    rintro e w' ⟨rfl, hb'⟩
    exact ⟨says_false fun x => h x.1, hb'⟩

set_option maxHeartbeats 400000 in
theorem good_empty (ao : Option Addr) (c : Nat) (w : World) : Calls Try.prog 28 #[.agg #[.slice ao 0 c]] w fun e w' => SaysB e (GoodT []) ∧ Below w.heap.size w w' := by
  go_enter Try.func28, Try.ntmps28
  go_wp2
  refine wp_loop_rounds 1 ?_
  rw [rounds_succ]
  go_wp2
  go_ret
  exact ⟨says_true ⟨by simp, by simp [keysT, Rise]⟩, (Below.refl _ _).alloc (Nat.le_refl _) _⟩

theorem bthen2 {w a b c : World} (h : Below w.heap.size w a) (k : Below a.heap.size a b) (l : Below b.heap.size b c) : Below w.heap.size w c := bthen (bthen h k) l

set_option maxHeartbeats 4000000 in
theorem good_some (T : List Pg) (b off cap : Nat) (w : World) (hb : b < w.heap.size) (hT : HoldsP w b off T) (hn : T.length ≤ cap) (hm : cap ≤ maxLen) (hl : ∀ p ∈ T, p.K.length ≤ maxLen) :
    Calls Try.prog 28 #[.agg #[.slice (some ⟨b, off, none⟩) T.length cap]] w fun e w' => SaysB e (GoodT T) ∧ Below w.heap.size w w' := by
  have HL := hid hl
  clear hl
  generalize hN : T.length = n at *
  have HN := hid hN
  clear hN
  unfold maxLen at hm
  go_enter Try.func28, Try.ntmps28
  go_wp2
  go_loopw [8] (fun i wr => ∃ k : Nat, k ≤ n ∧ i = .int .i64 k ∧ Below w.heap.size w wr ∧ wr.cell? ⟨w.heap.size, 0, none⟩ = some (.slice (some ⟨b, off, none⟩) n cap) ∧ Hid (GoodT (T.take k))) (fun i _ => n - (intOf i).toNat)
  case atStart => exact ⟨0, Nat.zero_le _, rfl, (Below.refl _ _).alloc (Nat.le_refl _) _, cell_of_block (block_alloc_at w _) rfl, hid ⟨by simp, by simp [keysT, Rise]⟩⟩
  case round =>
    obtain ⟨k, hk, rfl, hbel, hbox, HG⟩ := hrel
    by_cases hlt : k < n
    · obtain ⟨p, hp⟩ : ∃ p, T[k]? = some p := ⟨_, List.getElem?_eq_getElem (by rw [HN.out]; omega)⟩
      have hTr : HoldsP wr b off T := by
        intro i q hi
        obtain ⟨kv, vv, h1, h2, h3, h4⟩ := hT i q hi
        exact ⟨kv, vv, by rw [hbel.cell (p := ⟨b, off + i * 2, none⟩) hb]; exact h1, by rw [hbel.cell (p := ⟨b, off + i * 2 + 1, none⟩) hb]; exact h2, h3.keep hbel (Nat.le_refl _), h4.keep hbel (Nat.le_refl _)⟩
      obtain ⟨kv, vv, c0, c1, hk1, hv1⟩ := hTr k p hp
      obtain ⟨va, vc, rfl⟩ := hv1.shape
      have hbr : b < wr.heap.size := Nat.lt_of_lt_of_le hb hbel.size
      have hszw : w.heap.size < wr.heap.size := block_lt_of_cell hbox
      have hpl := HL.out p (List.mem_of_getElem? hp)
      have hW1 : Below wr.heap.size wr (wr.alloc (.cells #[kv, .slice va p.V.length vc] 69)) := (Below.refl _ _).alloc (Nat.le_refl _) _
      have gp := goodPage_any p kv (.slice va p.V.length vc) (wr.alloc (.cells #[kv, .slice va p.V.length vc] 69)) (hk1.below hW1) (hv1.below hW1) hpl
      have hboxp : (wr.alloc (.cells #[kv, .slice va p.V.length vc] 69)).cell? ⟨wr.heap.size, 0, none⟩ = some kv := cell_of_block (block_alloc_at wr _) rfl
      have hsz : (wr.alloc (.cells #[kv, .slice va p.V.length vc] 69)).heap.size = wr.heap.size + 1 := by simp
      have HT := hid hT
      have i0 : (0 : Int) ≤ (k : Int) := by omega
      have i1 : (k : Int) < (n : Int) := by omega
      clear hT hpl
      by_cases hgp : p.ok ∧ Rise p.K
      · have gp' := gp.mono (R' := fun e w' => e = .returned (.bool true) ∧ Below (wr.alloc (.cells #[kv, .slice va p.V.length vc] 69)).heap.size (wr.alloc (.cells #[kv, .slice va p.V.length vc] 69)) w') (fun e w' h => ⟨h.1.yes hgp, h.2⟩)
        clear gp
        have h0p : 0 < p.K.length := hgp.1.1
        obtain ⟨kb, ko, kc, rfl, hkb, hkc, hkm, hkcell⟩ := hk1.at h0p
        have cf := hkcell 0 _ (firstK_at h0p)
        rcases Nat.eq_zero_or_pos k with rfl | hkp
        · simp only [Nat.zero_mul, Nat.add_zero] at c0 c1
          go_wp2_with (go_at_call 53; go_must (refine gp'.mono ?_; rintro e w2 ⟨rfl, hb2⟩))
          go_quiet (fail)
          go_wp2
          go_roundw
          case rel => exact ⟨0 + 1, by omega, by go_num, by first | exact below_drewN (bthen2 hbel hW1 hb2) _ | exact (bthen2 hbel hW1 hb2).drew, by first | exact (hb2.cell (p := ⟨w.heap.size, 0, none⟩) (by simp; omega)).trans ((hW1.cell (p := ⟨w.heap.size, 0, none⟩) hszw).trans hbox) | skip, hid (good_step HG.out hp hgp.1 hgp.2 (.inl rfl))⟩
          case measure => simp [intOf]; omega
        · obtain ⟨j, hkj⟩ : ∃ j, k = j + 1 := ⟨k - 1, by omega⟩
          obtain ⟨q, hq⟩ : ∃ q, T[j]? = some q := ⟨_, List.getElem?_eq_getElem (by rw [HN.out]; omega)⟩
          obtain ⟨kq, vq, d0, d1, hkq, hvq⟩ := hTr j q hq
          have hqg : q.ok := by have := HG.out; exact this.1 q (List.mem_of_getElem? (i := j) (by rw [List.getElem?_take_of_lt (by omega)]; exact hq))
          have HNX := hid (fun h => good_step HG.out hp hgp.1 hgp.2 (.inr ⟨q, by rw [hkj, Nat.add_sub_cancel]; exact hq, h⟩))
          have HNF := hid (fun h : GoodT T => h.next hq (by rw [← hkj]; exact hp))
          have j0 : (0 : Int) ≤ (j : Int) := by omega
          have j1 : (j : Int) < (n : Int) := by omega
          have j2 : (k : Int) - 1 = (j : Int) := by omega
          have j3 : (k : Int) > 0 := by omega
          have j5 : IntKind.i64.wrap ((k : Int) - 1) = (j : Int) := by rw [IntKind.wrap_i64]; omega
          have j6 : IntKind.i64.wrap (j : Int) = (j : Int) := by rw [IntKind.wrap_i64]; omega
          clear hTr hp hq hkj
          go_wp2_with (go_at_call 53; go_must (refine gp'.mono ?_; rintro e w2 ⟨rfl, hb2⟩))
          have hbz := bthen2 hbel hW1 hb2
          have e0 : w2.cell? ⟨w.heap.size, 0, none⟩ = some (.slice (some ⟨b, off, none⟩) n cap) := (hb2.cell (p := ⟨w.heap.size, 0, none⟩) (by simp; omega)).trans ((hW1.cell (p := ⟨w.heap.size, 0, none⟩) hszw).trans hbox)
          have e1 : w2.cell? ⟨b, off + j * 2, none⟩ = some kq := (hb2.cell (p := ⟨b, off + j * 2, none⟩) (by simp; omega)).trans ((hW1.cell (p := ⟨b, off + j * 2, none⟩) hbr).trans d0)
          have e2 : w2.cell? ⟨b, off + j * 2 + 1, none⟩ = some vq := (hb2.cell (p := ⟨b, off + j * 2 + 1, none⟩) (by simp; omega)).trans ((hW1.cell (p := ⟨b, off + j * 2 + 1, none⟩) hbr).trans d1)
          have e3 : w2.cell? ⟨wr.heap.size, 0, none⟩ = some (.slice (some ⟨kb, ko, none⟩) p.K.length kc) := (hb2.cell (p := ⟨wr.heap.size, 0, none⟩) (by simp)).trans hboxp
          have e4 : w2.cell? ⟨kb, ko, none⟩ = some (.string (firstK p)) := (hb2.cell (p := ⟨kb, ko, none⟩) (by simp; omega)).trans ((hW1.cell (p := ⟨kb, ko, none⟩) hkb).trans cf)
          have lk := fun W (hW : Below w2.heap.size w2 W) => lastKey_any q kq vq W (((hkq.below hW1).below hb2).below hW) hqg.1 hqg.2.1
          have g0 : (0 : Int) < (p.K.length : Int) := by omega
          generalize p.K.length = pn at *
          have HLK := hid (show klt (lastK q) (firstK p) = true → GoodT (T.take (k + 1)) from HNX.out)
          have HLF := hid (show GoodT T → klt (lastK q) (firstK p) = true from HNF.out)
          generalize lastK q = lq at lk HLK HLF
          generalize firstK p = fp at e4 HLK HLF
          clear HNX HNF d0 d1 hbox hboxp cf c0 c1 hkcell gp' hsz
          cases hlf : klt lq fp
          · have hlf' : Op.bytesLess lq.toList fp.toList = false := hlf
            go_region_held3 (fun w' => w'.cell? ⟨w.heap.size, 0, none⟩ = some (.slice (some ⟨b, off, none⟩) n cap) ∧ w'.cell? ⟨b, off + j * 2, none⟩ = some kq ∧ w'.cell? ⟨b, off + j * 2 + 1, none⟩ = some vq ∧ w'.cell? ⟨wr.heap.size, 0, none⟩ = some (.slice (some ⟨kb, ko, none⟩) pn kc) ∧ w'.cell? ⟨kb, ko, none⟩ = some (.string fp)) (first | go_keep | skip)
              (first | (go_at_call 54; refine (lk _ ((Below.refl _ _).drew)).mono ?_; rintro e w3 ⟨rfl, rfl⟩))
            go_wp2
            go_ret
            exact ⟨says_false (fun h => by have := HLF.out h; rw [hlf] at this; cases this), hbz.drew.alloc (by simp; exact Nat.le_trans hbz.size (Nat.le_refl _)) _⟩
          · have hlf' : Op.bytesLess lq.toList fp.toList = true := hlf
            go_region_held3 (fun w' => w'.cell? ⟨w.heap.size, 0, none⟩ = some (.slice (some ⟨b, off, none⟩) n cap) ∧ w'.cell? ⟨b, off + j * 2, none⟩ = some kq ∧ w'.cell? ⟨b, off + j * 2 + 1, none⟩ = some vq ∧ w'.cell? ⟨wr.heap.size, 0, none⟩ = some (.slice (some ⟨kb, ko, none⟩) pn kc) ∧ w'.cell? ⟨kb, ko, none⟩ = some (.string fp)) (first | go_keep | skip)
              (first | (go_at_call 54; refine (lk _ ((Below.refl _ _).drew)).mono ?_; rintro e w3 ⟨rfl, rfl⟩))
            go_wp2
            go_roundw
            case rel => exact ⟨k + 1, by omega, by go_num, hbz.drew.alloc (by simp; exact Nat.le_trans hbz.size (Nat.le_refl _)) _, by first | (rw [World.cell?_alloc_past _ _ _ (block_lt_of_cell e0)]; exact e0) | (simp [*]; done), hid (HLK.out hlf)⟩
            case measure => simp [intOf]; omega
      · obtain ⟨ka, kc, rfl⟩ := hk1.shape
        have gp' := gp.mono (R' := fun e w' => e = .returned (.bool false) ∧ Below (wr.alloc (.cells #[.slice ka p.K.length kc, .slice va p.V.length vc] 69)).heap.size (wr.alloc (.cells #[.slice ka p.K.length kc, .slice va p.V.length vc] 69)) w') (fun e w' h => ⟨h.1.no hgp, h.2⟩)
        clear gp
        go_wp2_with (go_at_call 53; go_must (refine gp'.mono ?_; rintro e w2 ⟨rfl, hb2⟩))

        go_ret
        exact ⟨says_false fun h => hgp (h.page hp), (hbel.trans (hW1.mono hbel.size)).trans (hb2.mono (Nat.le_trans hbel.size hW1.size))⟩
    · have hkn : k = n := by omega
      subst hkn
      go_wp2
      go_ret
      exact ⟨says_true (by have := HG.out; rwa [← HN.out, List.take_length] at this), hbel⟩

end Go.Proofs.Ytfcdkpkmkepcaaa

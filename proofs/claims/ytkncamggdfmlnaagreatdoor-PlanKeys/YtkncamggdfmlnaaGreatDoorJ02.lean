/-
  4 texts of this proof in one, in build order: TGood, Shelf, TLib, TFind.
-/
import Derived.Test.YtkncamggdfmlnaaGreatDoorProg
import Derived.WalkKit
import Derived.WalkSpells
import Derived.WalkLawsBesides
import Derived.Deep.QuietTactic
import Derived.BigQuiet
import Derived.Deep.RegionHeld3
import Derived.Deep.DrawnRows
import Derived.Shelf.SlSorted.Search
import Derived.Shelf.SlGeneric
import Derived.Ground.Names2Prog
import Derived.Ground.Names8Prog
import Derived.Ground.SlsoProg
import Derived.Shelf.Slices.Clone
import Derived.Shelf.Slices.Cells
import Derived.Shelf.Spec.SearchS
import Derived.Shelf.Spec.SlicesInsert
import Derived.Shelf.Spec.SlicesInsertGrow
import Derived.Shelf.Spec.SlicesGrow
import Derived.Laws.AppendOwnNone
import Derived.Test.YtkncamggdfmlnaaGreatDoorJ01
attribute [local go_sem ↓] Go.wp_at_zero Go.wp_at_succ
namespace Go.Proofs.YtkncamggdfmlnaaGreatDoor
open Go.RowKit

set_option maxHeartbeats 400000 in
theorem lastKey_any (p : Pg) (kv vv : Value) (w : World) (hk : IsStrs w kv p.K) (h0 : 0 < p.K.length) (h4 : p.K.length ≤ 4) :
    Calls Tryz.prog 66 #[.agg #[kv, vv]] w fun e w' => e = .returned (.string (lastK p)) ∧ w' = w.alloc (.cells #[kv, vv] 76) := by
  obtain ⟨b, off, cap, rfl, hb, hc, hm, hcell⟩ := hk.at h0
  obtain ⟨m, hm1⟩ : ∃ m, p.K.length = m + 1 := ⟨p.K.length - 1, by omega⟩
  have c0 := hcell m _ (lastK_at hm1)
  generalize lastK p = s at c0 ⊢
  rw [hm1] at hc ⊢
  have i0 : (0 : Int) ≤ ((m + 1 : Nat) : Int) - 1 := by omega
  have i1 : ((m + 1 : Nat) : Int) - 1 < ((m + 1 : Nat) : Int) := by omega
  have i2 : (((m + 1 : Nat) : Int) - 1).toNat = m := by omega
  clear hcell hk
  go_enter Tryz.func66, Tryz.ntmps66
  go_wp2
  go_ret
  exact ⟨rfl, rfl⟩

set_option maxHeartbeats 2000000 in
theorem goodPage_some (p : Pg) (b off cap : Nat) (vv : Value) (w : World) (hb : b < w.heap.size) (hcell : ∀ i s, p.K[i]? = some s → w.cell? ⟨b, off + i, none⟩ = some (.string s)) (hv : ∃ ao c, vv = .slice ao p.K.length c) (h0 : 0 < p.K.length) (h4 : p.K.length ≤ 4) :
    Calls Tryz.prog 65 #[.agg #[.slice (some ⟨b, off, none⟩) p.K.length cap, vv]] w fun e w' => SaysB e (Rise p.K) ∧ Below w.heap.size w w' := by
  obtain ⟨ao, c, rfl⟩ := hv
  have HC := hid hcell
  clear hcell
  generalize hn : p.K.length = n at *
  have HN := hid hn
  clear hn
  have t1 : ¬ ((n : Int) < 1) := by omega
  have t2 : ¬ ((n : Int) > 4) := by omega
  go_enter Tryz.func65, Tryz.ntmps65
  go_wp2
  go_loopw [3] (fun i wr => ∃ k : Nat, k + 1 ≤ n ∧ i = .int .i64 ((k : Int) + 1) ∧ Below w.heap.size w wr ∧ wr.cell? ⟨w.heap.size, 0, none⟩ = some (.slice (some ⟨b, off, none⟩) n cap) ∧ Hid (Rise (p.K.take (k + 1)))) (fun i _ => n - (intOf i).toNat)
  case atStart => exact ⟨0, h0, rfl, by first | exact (Below.refl _ _).alloc (Nat.le_refl _) _ | skip, by first | exact cell_of_block (block_alloc_at w _) rfl | skip, hid (by
      have : (p.K.take 1).length ≤ 1 := by simp; omega
      match hx : p.K.take 1, this with
      | [], _ => exact List.Pairwise.nil
      | [a], _ => simp [Rise]
      | _ :: _ :: _, h => simp at h)⟩
  case round =>
    obtain ⟨k, hk, rfl, hbel, hbox, HR⟩ := hrel
    by_cases hlt : k + 1 < n
    · obtain ⟨a, ha⟩ : ∃ a, p.K[k]? = some a := ⟨_, List.getElem?_eq_getElem (by rw [HN.out]; omega)⟩
      obtain ⟨d, hd⟩ : ∃ d, p.K[k + 1]? = some d := ⟨_, List.getElem?_eq_getElem (by rw [HN.out]; omega)⟩
      have c0 : wr.cell? ⟨b, off + k, none⟩ = some (.string a) := by rw [hbel.cell (p := ⟨b, off + k, none⟩) hb]; exact HC.out k a ha
      have c1 : wr.cell? ⟨b, off + (k + 1), none⟩ = some (.string d) := by rw [hbel.cell (p := ⟨b, off + (k + 1), none⟩) hb]; exact HC.out (k + 1) d hd
      have HS := hid (fun h => rise_take_step HR.out ha hd h)
      have HF := hid (fun h : Rise p.K => rise_at h ha hd)
      clear ha hd
      have j0 : (0 : Int) ≤ (k : Int) := by omega
      have j1 : (k : Int) < (n : Int) := by omega
      have j2 : (0 : Int) ≤ (k : Int) + 1 := by omega
      have j3 : (k : Int) + 1 < (n : Int) := by omega
      have j4 : (k : Int) + 1 - 1 = (k : Int) := by omega
      have j5 : ((k : Int) + 1).toNat = k + 1 := by omega
      cases had : klt a d
      · have had' : Op.bytesLess a.toList d.toList = false := had
        go_wp2
        go_quiet (fail)
        go_wp2
        go_ret
        exact ⟨says_false (fun h => by have := HF.out h; rw [had] at this; cases this), by first | exact below_drewN hbel _ | exact hbel.drew⟩
      · have had' : Op.bytesLess a.toList d.toList = true := had
        go_wp2
        go_quiet (fail)
        go_wp2
        go_roundw
        case rel => exact ⟨k + 1, by omega, by go_num, by first | exact below_drewN hbel _ | exact hbel.drew, hbox, hid (HS.out had)⟩
        case measure => simp [intOf]; omega
    · have hkn : k + 1 = n := by omega
      have j3 : ¬ ((k : Int) + 1 < (n : Int)) := by omega
      go_wp2
      go_ret
      exact ⟨says_true (by have := HR.out; rwa [hkn, ← HN.out, List.take_length] at this), hbel⟩

set_option maxHeartbeats 1000000 in
theorem goodPage_not (n m : Nat) (ao bo : Option Addr) (c d : Nat) (w : World) (hbad : n < 1 ∨ 4 < n ∨ m ≠ n) (hn : n ≤ maxLen) :
    Calls Tryz.prog 65 #[.agg #[.slice ao n c, .slice bo m d]] w fun e w' => e = .returned (.bool false) ∧ Below w.heap.size w w' := by
  unfold maxLen at hn
  by_cases h1 : n < 1
  · obtain rfl : n = 0 := by omega
    go_enter Tryz.func65, Tryz.ntmps65
    go_wp2
    go_ret
    exact ⟨rfl, (Below.refl _ _).alloc (Nat.le_refl _) _⟩
  · have t1 : ¬ ((n : Int) < 1) := by omega
    by_cases h2 : 4 < n
    · have t2 : (n : Int) > 4 := by omega
      go_enter Tryz.func65, Tryz.ntmps65
      go_wp2
      go_ret
      exact ⟨rfl, (Below.refl _ _).alloc (Nat.le_refl _) _⟩
    · have t2 : ¬ ((n : Int) > 4) := by omega
      have t3 : ¬ ((m : Int) = (n : Int)) := by omega
      go_enter Tryz.func65, Tryz.ntmps65
      go_wp2
      go_ret
      exact ⟨rfl, (Below.refl _ _).alloc (Nat.le_refl _) _⟩

/-- tree.goodPage. -/
theorem goodPage_any (p : Pg) (kv vv : Value) (w : World) (hk : IsStrs w kv p.K) (hv : IsStrs w vv p.V) (hl : p.K.length ≤ maxLen) :
    Calls Tryz.prog 65 #[.agg #[kv, vv]] w fun e w' => SaysB e (p.ok ∧ Rise p.K) ∧ Below w.heap.size w w' := by
  by_cases h : p.ok
  · obtain ⟨b, off, cap, rfl, hb, _, _, hcell⟩ := hk.at h.1
    refine (goodPage_some p b off cap vv w hb hcell (by obtain ⟨ao, c, e⟩ := hv.shape; exact ⟨ao, c, by rw [e, h.2.2]⟩) h.1 h.2.1).mono ?_
    rintro e w' ⟨⟨r, he, hr⟩, hb'⟩
    exact ⟨⟨r, he, by rw [hr]; exact ⟨fun x => ⟨h, x⟩, fun x => x.2⟩⟩, hb'⟩
  · obtain ⟨ao, c, rfl⟩ := hk.shape
    obtain ⟨bo, d, rfl⟩ := hv.shape
    refine (goodPage_not _ _ ao bo c d w (by unfold Pg.ok at h; omega) hl).mono ?_
    rintro e w' ⟨rfl, hb'⟩
    exact ⟨says_false fun x => h x.1, hb'⟩

set_option maxHeartbeats 400000 in
theorem good_empty (ao : Option Addr) (c : Nat) (w : World) : Calls Tryz.prog 39 #[.agg #[.slice ao 0 c]] w fun e w' => SaysB e (GoodT []) ∧ Below w.heap.size w w' := by
  go_enter Tryz.func39, Tryz.ntmps39
  go_wp2
  refine wp_loop_rounds 1 ?_
  rw [rounds_succ]
  go_wp2
  go_ret
  exact ⟨says_true ⟨by simp, by simp [keysT, Rise]⟩, (Below.refl _ _).alloc (Nat.le_refl _) _⟩

theorem bthen2 {w a b c : World} (h : Below w.heap.size w a) (k : Below a.heap.size a b) (l : Below b.heap.size b c) : Below w.heap.size w c := bthen (bthen h k) l

set_option maxHeartbeats 4000000 in
theorem good_some (T : List Pg) (b off cap : Nat) (w : World) (hb : b < w.heap.size) (hT : HoldsP w b off T) (hn : T.length ≤ cap) (hm : cap ≤ maxLen) (hl : ∀ p ∈ T, p.K.length ≤ maxLen) :
    Calls Tryz.prog 39 #[.agg #[.slice (some ⟨b, off, none⟩) T.length cap]] w fun e w' => SaysB e (GoodT T) ∧ Below w.heap.size w w' := by
  have HL := hid hl
  clear hl
  generalize hN : T.length = n at *
  have HN := hid hN
  clear hN
  unfold maxLen at hm
  go_enter Tryz.func39, Tryz.ntmps39
  go_wp2
  go_loopw [8] (fun i wr => ∃ k : Nat, k ≤ n ∧ i = .int .i64 k ∧ Below w.heap.size w wr ∧ wr.cell? ⟨w.heap.size, 0, none⟩ = some (.slice (some ⟨b, off, none⟩) n cap) ∧ Hid (GoodT (T.take k))) (fun i _ => n - (intOf i).toNat)
  case atStart => exact ⟨0, Nat.zero_le _, rfl, (Below.refl _ _).alloc (Nat.le_refl _) _, cell_of_block (block_alloc_at w _) rfl, hid ⟨by simp, by simp [keysT, Rise]⟩⟩
  case round =>
    obtain ⟨k, hk, rfl, hbel, hbox, HG⟩ := hrel
    by_cases hlt : k < n
    · obtain ⟨p, hp⟩ : ∃ p, T[k]? = some p := ⟨_, List.getElem?_eq_getElem (by rw [HN.out]; omega)⟩
      have hTr : HoldsP wr b off T := by
        intro i q hi
        obtain ⟨kv, vv, h1, h2, h3, h4⟩ := hT i q hi
        exact ⟨kv, vv, by rw [hbel.cell (p := ⟨b, off + i * 2, none⟩) hb]; exact h1, by rw [hbel.cell (p := ⟨b, off + i * 2 + 1, none⟩) hb]; exact h2, h3.keep hbel (Nat.le_refl _), h4.keep hbel (Nat.le_refl _)⟩
      obtain ⟨kv, vv, c0, c1, hk1, hv1⟩ := hTr k p hp
      obtain ⟨va, vc, rfl⟩ := hv1.shape
      have hbr : b < wr.heap.size := Nat.lt_of_lt_of_le hb hbel.size
      have hszw : w.heap.size < wr.heap.size := block_lt_of_cell hbox
      have hpl := HL.out p (List.mem_of_getElem? hp)
      have hW1 : Below wr.heap.size wr (wr.alloc (.cells #[kv, .slice va p.V.length vc] 76)) := (Below.refl _ _).alloc (Nat.le_refl _) _
      have gp := goodPage_any p kv (.slice va p.V.length vc) (wr.alloc (.cells #[kv, .slice va p.V.length vc] 76)) (hk1.below hW1) (hv1.below hW1) hpl
      have hboxp : (wr.alloc (.cells #[kv, .slice va p.V.length vc] 76)).cell? ⟨wr.heap.size, 0, none⟩ = some kv := cell_of_block (block_alloc_at wr _) rfl
      have hsz : (wr.alloc (.cells #[kv, .slice va p.V.length vc] 76)).heap.size = wr.heap.size + 1 := by simp
      have HT := hid hT
      have i0 : (0 : Int) ≤ (k : Int) := by omega
      have i1 : (k : Int) < (n : Int) := by omega
      clear hT hpl
      by_cases hgp : p.ok ∧ Rise p.K
      · have gp' := gp.mono (R' := fun e w' => e = .returned (.bool true) ∧ Below (wr.alloc (.cells #[kv, .slice va p.V.length vc] 76)).heap.size (wr.alloc (.cells #[kv, .slice va p.V.length vc] 76)) w') (fun e w' h => ⟨h.1.yes hgp, h.2⟩)
        clear gp
        have h0p : 0 < p.K.length := hgp.1.1
        obtain ⟨kb, ko, kc, rfl, hkb, hkc, hkm, hkcell⟩ := hk1.at h0p
        have cf := hkcell 0 _ (firstK_at h0p)
        rcases Nat.eq_zero_or_pos k with rfl | hkp
        · simp only [Nat.zero_mul, Nat.add_zero] at c0 c1
          go_wp2_with (go_at_call 65; go_must (refine gp'.mono ?_; rintro e w2 ⟨rfl, hb2⟩))
          go_quiet (fail)
          go_wp2
          go_roundw
          case rel => exact ⟨0 + 1, by omega, by go_num, by first | exact below_drewN (bthen2 hbel hW1 hb2) _ | exact (bthen2 hbel hW1 hb2).drew, by first | exact (hb2.cell (p := ⟨w.heap.size, 0, none⟩) (by simp; omega)).trans ((hW1.cell (p := ⟨w.heap.size, 0, none⟩) hszw).trans hbox) | skip, hid (good_step HG.out hp hgp.1 hgp.2 (.inl rfl))⟩
          case measure => simp [intOf]; omega
        · obtain ⟨j, hkj⟩ : ∃ j, k = j + 1 := ⟨k - 1, by omega⟩
          obtain ⟨q, hq⟩ : ∃ q, T[j]? = some q := ⟨_, List.getElem?_eq_getElem (by rw [HN.out]; omega)⟩
          obtain ⟨kq, vq, d0, d1, hkq, hvq⟩ := hTr j q hq
          have hqg : q.ok := by have := HG.out; exact this.1 q (List.mem_of_getElem? (i := j) (by rw [List.getElem?_take_of_lt (by omega)]; exact hq))
          have HNX := hid (fun h => good_step HG.out hp hgp.1 hgp.2 (.inr ⟨q, by rw [hkj, Nat.add_sub_cancel]; exact hq, h⟩))
          have HNF := hid (fun h : GoodT T => h.next hq (by rw [← hkj]; exact hp))
          have j0 : (0 : Int) ≤ (j : Int) := by omega
          have j1 : (j : Int) < (n : Int) := by omega
          have j2 : (k : Int) - 1 = (j : Int) := by omega
          have j3 : (k : Int) > 0 := by omega
          have j5 : IntKind.i64.wrap ((k : Int) - 1) = (j : Int) := by rw [IntKind.wrap_i64]; omega
          have j6 : IntKind.i64.wrap (j : Int) = (j : Int) := by rw [IntKind.wrap_i64]; omega
          clear hTr hp hq hkj
          go_wp2_with (go_at_call 65; go_must (refine gp'.mono ?_; rintro e w2 ⟨rfl, hb2⟩))
          have hbz := bthen2 hbel hW1 hb2
          have e0 : w2.cell? ⟨w.heap.size, 0, none⟩ = some (.slice (some ⟨b, off, none⟩) n cap) := (hb2.cell (p := ⟨w.heap.size, 0, none⟩) (by simp; omega)).trans ((hW1.cell (p := ⟨w.heap.size, 0, none⟩) hszw).trans hbox)
          have e1 : w2.cell? ⟨b, off + j * 2, none⟩ = some kq := (hb2.cell (p := ⟨b, off + j * 2, none⟩) (by simp; omega)).trans ((hW1.cell (p := ⟨b, off + j * 2, none⟩) hbr).trans d0)
          have e2 : w2.cell? ⟨b, off + j * 2 + 1, none⟩ = some vq := (hb2.cell (p := ⟨b, off + j * 2 + 1, none⟩) (by simp; omega)).trans ((hW1.cell (p := ⟨b, off + j * 2 + 1, none⟩) hbr).trans d1)
          have e3 : w2.cell? ⟨wr.heap.size, 0, none⟩ = some (.slice (some ⟨kb, ko, none⟩) p.K.length kc) := (hb2.cell (p := ⟨wr.heap.size, 0, none⟩) (by simp)).trans hboxp
          have e4 : w2.cell? ⟨kb, ko, none⟩ = some (.string (firstK p)) := (hb2.cell (p := ⟨kb, ko, none⟩) (by simp; omega)).trans ((hW1.cell (p := ⟨kb, ko, none⟩) hkb).trans cf)
          have lk := fun W (hW : Below w2.heap.size w2 W) => lastKey_any q kq vq W (((hkq.below hW1).below hb2).below hW) hqg.1 hqg.2.1
          have g0 : (0 : Int) < (p.K.length : Int) := by omega
          generalize p.K.length = pn at *
          have HLK := hid (show klt (lastK q) (firstK p) = true → GoodT (T.take (k + 1)) from HNX.out)
          have HLF := hid (show GoodT T → klt (lastK q) (firstK p) = true from HNF.out)
          generalize lastK q = lq at lk HLK HLF
          generalize firstK p = fp at e4 HLK HLF
          clear HNX HNF d0 d1 hbox hboxp cf c0 c1 hkcell gp' hsz
          cases hlf : klt lq fp
          · have hlf' : Op.bytesLess lq.toList fp.toList = false := hlf
            go_region_held3 (fun w' => w'.cell? ⟨w.heap.size, 0, none⟩ = some (.slice (some ⟨b, off, none⟩) n cap) ∧ w'.cell? ⟨b, off + j * 2, none⟩ = some kq ∧ w'.cell? ⟨b, off + j * 2 + 1, none⟩ = some vq ∧ w'.cell? ⟨wr.heap.size, 0, none⟩ = some (.slice (some ⟨kb, ko, none⟩) pn kc) ∧ w'.cell? ⟨kb, ko, none⟩ = some (.string fp)) (first | go_keep | skip)
              (first | (go_at_call 66; refine (lk _ ((Below.refl _ _).drew)).mono ?_; rintro e w3 ⟨rfl, rfl⟩))
            go_wp2
            go_ret
            exact ⟨says_false (fun h => by have := HLF.out h; rw [hlf] at this; cases this), hbz.drew.alloc (by simp; exact Nat.le_trans hbz.size (Nat.le_refl _)) _⟩
          · have hlf' : Op.bytesLess lq.toList fp.toList = true := hlf
            go_region_held3 (fun w' => w'.cell? ⟨w.heap.size, 0, none⟩ = some (.slice (some ⟨b, off, none⟩) n cap) ∧ w'.cell? ⟨b, off + j * 2, none⟩ = some kq ∧ w'.cell? ⟨b, off + j * 2 + 1, none⟩ = some vq ∧ w'.cell? ⟨wr.heap.size, 0, none⟩ = some (.slice (some ⟨kb, ko, none⟩) pn kc) ∧ w'.cell? ⟨kb, ko, none⟩ = some (.string fp)) (first | go_keep | skip)
              (first | (go_at_call 66; refine (lk _ ((Below.refl _ _).drew)).mono ?_; rintro e w3 ⟨rfl, rfl⟩))
            go_wp2
            go_roundw
            case rel => exact ⟨k + 1, by omega, by go_num, hbz.drew.alloc (by simp; exact Nat.le_trans hbz.size (Nat.le_refl _)) _, by first | (rw [World.cell?_alloc_past _ _ _ (block_lt_of_cell e0)]; exact e0) | (simp [*]; done), hid (HLK.out hlf)⟩
            case measure => simp [intOf]; omega
      · obtain ⟨ka, kc, rfl⟩ := hk1.shape
        have gp' := gp.mono (R' := fun e w' => e = .returned (.bool false) ∧ Below (wr.alloc (.cells #[.slice ka p.K.length kc, .slice va p.V.length vc] 76)).heap.size (wr.alloc (.cells #[.slice ka p.K.length kc, .slice va p.V.length vc] 76)) w') (fun e w' h => ⟨h.1.no hgp, h.2⟩)
        clear gp
        go_wp2_with (go_at_call 65; go_must (refine gp'.mono ?_; rintro e w2 ⟨rfl, hb2⟩))

        go_ret
        exact ⟨says_false fun h => hgp (h.page hp), (hbel.trans (hW1.mono hbel.size)).trans (hb2.mono (Nat.le_trans hbel.size hW1.size))⟩
    · have hkn : k = n := by omega
      subst hkn
      go_wp2
      go_ret
      exact ⟨says_true (by have := HG.out; rwa [← HN.out, List.take_length] at this), hbel⟩

end Go.Proofs.YtkncamggdfmlnaaGreatDoor

namespace Go.Proofs
open Go.Shelf
def Tryz.laysClone_ren : Go.Shelf.Ren := ⟨fun | 16 => 67 | n => n, fun | 24 => 73 | 9 => 9 | 4 => 4 | n => n, fun | n => n⟩
theorem Tryz.laysClone : Go.Proofs.Lays2.n16 Tryz.prog Tryz.laysClone_ren := {
  mixed := by kernel_rfl
  f16 := Tryz.func67.trans (congrArg some (by kernel_rfl))
  t4 := Tryz.underlying4
  a4 := Tryz.isAgg4
  z4 := Tryz.sizeOf4
  v4 := Tryz.zeroValue4
  t9 := Tryz.underlying9
  a9 := Tryz.isAgg9
  z9 := Tryz.sizeOf9
  v9 := Tryz.zeroValue9
  t24 := Tryz.underlying73
  a24 := Tryz.isAgg73
  z24 := Tryz.sizeOf73
  v24 := Tryz.zeroValue73
  i9 := by kernel_rfl }
def Tryz.laysInsert_ren : Go.Shelf.Ren := ⟨fun | 22 => 43 | 29 => 69 | 30 => 70 | 36 => 89 | 17 => 114 | n => n, fun | 24 => 73 | 9 => 9 | 3 => 3 | 4 => 4 | 0 => 0 | n => n, fun | n => n⟩
theorem Tryz.laysInsert : Go.Proofs.Lays2.n22 Tryz.prog Tryz.laysInsert_ren := {
  mixed := by kernel_rfl
  f17 := Tryz.func114.trans (congrArg some (by kernel_rfl))
  f22 := Tryz.func43.trans (congrArg some (by kernel_rfl))
  f29 := Tryz.func69.trans (congrArg some (by kernel_rfl))
  f30 := Tryz.func70.trans (congrArg some (by kernel_rfl))
  f36 := Tryz.func89.trans (congrArg some (by kernel_rfl))
  t0 := Tryz.underlying0
  a0 := Tryz.isAgg0
  z0 := Tryz.sizeOf0
  v0 := Tryz.zeroValue0
  t3 := Tryz.underlying3
  a3 := Tryz.isAgg3
  z3 := Tryz.sizeOf3
  v3 := Tryz.zeroValue3
  t4 := Tryz.underlying4
  a4 := Tryz.isAgg4
  z4 := Tryz.sizeOf4
  v4 := Tryz.zeroValue4
  t9 := Tryz.underlying9
  a9 := Tryz.isAgg9
  z9 := Tryz.sizeOf9
  v9 := Tryz.zeroValue9
  t24 := Tryz.underlying73
  a24 := Tryz.isAgg73
  z24 := Tryz.sizeOf73
  v24 := Tryz.zeroValue73
  i9 := by kernel_rfl }
def Tryz.laysDelete_ren : Go.Shelf.Ren := ⟨fun | 24 => 46 | n => n, fun | 24 => 73 | 9 => 9 | 3 => 3 | 4 => 4 | 0 => 0 | n => n, fun | n => n⟩
theorem Tryz.laysDelete : Go.Proofs.Lays2.n24 Tryz.prog Tryz.laysDelete_ren := {
  mixed := by kernel_rfl
  f24 := Tryz.func46.trans (congrArg some (by kernel_rfl))
  t0 := Tryz.underlying0
  a0 := Tryz.isAgg0
  z0 := Tryz.sizeOf0
  v0 := Tryz.zeroValue0
  t3 := Tryz.underlying3
  a3 := Tryz.isAgg3
  z3 := Tryz.sizeOf3
  v3 := Tryz.zeroValue3
  t4 := Tryz.underlying4
  a4 := Tryz.isAgg4
  z4 := Tryz.sizeOf4
  v4 := Tryz.zeroValue4
  t9 := Tryz.underlying9
  a9 := Tryz.isAgg9
  z9 := Tryz.sizeOf9
  v9 := Tryz.zeroValue9
  t24 := Tryz.underlying73
  a24 := Tryz.isAgg73
  z24 := Tryz.sizeOf73
  v24 := Tryz.zeroValue73
  i9 := by kernel_rfl }
def Tryz.laysFind_ren : Go.Shelf.Ren := ⟨fun | 26 => 57 | 33 => 80 | 34 => 81 | 38 => 100 | n => n, fun | 24 => 73 | 9 => 9 | 3 => 3 | 4 => 4 | 40 => 131 | 0 => 0 | n => n, fun | n => n⟩
theorem Tryz.laysFind : Go.Proofs.Lays2.n26 Tryz.prog Tryz.laysFind_ren := {
  mixed := by kernel_rfl
  f26 := Tryz.func57.trans (congrArg some (by kernel_rfl))
  f33 := Tryz.func80.trans (congrArg some (by kernel_rfl))
  f34 := Tryz.func81.trans (congrArg some (by kernel_rfl))
  f38 := Tryz.func100.trans (congrArg some (by kernel_rfl))
  t0 := Tryz.underlying0
  a0 := Tryz.isAgg0
  z0 := Tryz.sizeOf0
  v0 := Tryz.zeroValue0
  t3 := Tryz.underlying3
  a3 := Tryz.isAgg3
  z3 := Tryz.sizeOf3
  v3 := Tryz.zeroValue3
  t4 := Tryz.underlying4
  a4 := Tryz.isAgg4
  z4 := Tryz.sizeOf4
  v4 := Tryz.zeroValue4
  t9 := Tryz.underlying9
  a9 := Tryz.isAgg9
  z9 := Tryz.sizeOf9
  v9 := Tryz.zeroValue9
  t24 := Tryz.underlying73
  a24 := Tryz.isAgg73
  z24 := Tryz.sizeOf73
  v24 := Tryz.zeroValue73
  t40 := Tryz.underlying131
  a40 := Tryz.isAgg131
  z40 := Tryz.sizeOf131
  v40 := Tryz.zeroValue131 }
def Tryz.laysSearch_ren : Go.Shelf.Ren := ⟨fun | 16 => 78 | n => n, fun | 3 => 3 | 35 => 130 | 4 => 4 | 38 => 131 | n => n, fun | n => n⟩
theorem Tryz.laysSearch : Go.Proofs.SlLaysO.n16 Tryz.prog Tryz.laysSearch_ren := {
  mixed := by kernel_rfl
  f16 := Tryz.func78.trans (congrArg some (by kernel_rfl))
  t3 := Tryz.underlying3
  a3 := Tryz.isAgg3
  z3 := Tryz.sizeOf3
  v3 := Tryz.zeroValue3
  t4 := Tryz.underlying4
  a4 := Tryz.isAgg4
  z4 := Tryz.sizeOf4
  v4 := Tryz.zeroValue4
  t35 := Tryz.underlying130
  a35 := Tryz.isAgg130
  z35 := Tryz.sizeOf130
  v35 := Tryz.zeroValue130
  t38 := Tryz.underlying131
  a38 := Tryz.isAgg131
  z38 := Tryz.sizeOf131
  v38 := Tryz.zeroValue131 }
def Tryz.laysGrowP_ren : Go.Shelf.Ren := ⟨fun | 4 => 88 | n => n, fun | 22 => 50 | 25 => 76 | 3 => 3 | 4 => 4 | 9 => 9 | 20 => 20 | 0 => 0 | n => n, fun | n => n⟩
theorem Tryz.laysGrowP : Go.Proofs.Lays8.n4 Tryz.prog Tryz.laysGrowP_ren := {
  mixed := by kernel_rfl
  f4 := ⟨Tryz.f88.name, by decide, Tryz.func88.trans (congrArg some (by kernel_rfl))⟩
  t0 := Tryz.underlying0
  a0 := Tryz.isAgg0
  z0 := Tryz.sizeOf0
  v0 := Tryz.zeroValue0
  t3 := Tryz.underlying3
  a3 := Tryz.isAgg3
  z3 := Tryz.sizeOf3
  v3 := Tryz.zeroValue3
  t4 := Tryz.underlying4
  a4 := Tryz.isAgg4
  z4 := Tryz.sizeOf4
  v4 := Tryz.zeroValue4
  t9 := Tryz.underlying9
  a9 := Tryz.isAgg9
  z9 := Tryz.sizeOf9
  v9 := Tryz.zeroValue9
  t20 := Tryz.underlying20
  a20 := Tryz.isAgg20
  z20 := Tryz.sizeOf20
  v20 := Tryz.zeroValue20
  t22 := Tryz.underlying50
  a22 := Tryz.isAgg50
  z22 := Tryz.sizeOf50
  v22 := Tryz.zeroValue50 }
def Tryz.laysGrowS_ren : Go.Shelf.Ren := ⟨fun | 4 => 92 | n => n, fun | 22 => 73 | 25 => 9 | 3 => 3 | 4 => 4 | 9 => 9 | 20 => 20 | 0 => 0 | n => n, fun | n => n⟩
theorem Tryz.laysGrowS : Go.Proofs.Lays8.n4 Tryz.prog Tryz.laysGrowS_ren := {
  mixed := by kernel_rfl
  f4 := ⟨Tryz.f92.name, by decide, Tryz.func92.trans (congrArg some (by kernel_rfl))⟩
  t0 := Tryz.underlying0
  a0 := Tryz.isAgg0
  z0 := Tryz.sizeOf0
  v0 := Tryz.zeroValue0
  t3 := Tryz.underlying3
  a3 := Tryz.isAgg3
  z3 := Tryz.sizeOf3
  v3 := Tryz.zeroValue3
  t4 := Tryz.underlying4
  a4 := Tryz.isAgg4
  z4 := Tryz.sizeOf4
  v4 := Tryz.zeroValue4
  t9 := Tryz.underlying9
  a9 := Tryz.isAgg9
  z9 := Tryz.sizeOf9
  v9 := Tryz.zeroValue9
  t20 := Tryz.underlying20
  a20 := Tryz.isAgg20
  z20 := Tryz.sizeOf20
  v20 := Tryz.zeroValue20
  t22 := Tryz.underlying73
  a22 := Tryz.isAgg73
  z22 := Tryz.sizeOf73
  v22 := Tryz.zeroValue73 }
end Go.Proofs

namespace Go.Proofs.YtkncamggdfmlnaaGreatDoor
open Go.RowKit

theorem zeroCells_size (z : Value) (n : Nat) : (Builtin.zeroCells z.cells n).size = n * z.cells.size := by
  simp [Builtin.zeroCells]

theorem grow_own {w : World} {t : TypeId} {z : Value} {size n G : Nat} (hz : z.cells.size = size) (hn : n ≤ G) (hG : G ≤ maxLen) :
    (w.drew.alloc (.cells (([] : List Value).toArray ++ Builtin.zeroCells z.cells n ++ Builtin.zeroCells z.cells (G - n)) t)).ownsRow w.heap.size t size (.slice (some ⟨w.heap.size, 0, none⟩) 0 G) 0 [] := by
  refine ⟨by simp, .inr ⟨w.heap.size, G, _, rfl, Nat.le_refl _, block_alloc_at w.drew _, Nat.zero_le _, hG, ?_, by simp⟩⟩
  rw [Array.size_append, Array.size_append, zeroCells_size, zeroCells_size, hz]
  simp only [List.size_toArray, List.length_nil, Nat.zero_add]
  rw [← Nat.add_mul]
  congr 1
  omega

theorem info_page : (Tryz.prog.info? 76).map (fun i => (i.zero, i.size, i.bytes)) = some (some (.agg #[.slice none 0 0, .slice none 0 0]), 2, 48) := by kernel_rfl
theorem info_string : (Tryz.prog.info? 9).map (fun i => (i.zero, i.size, i.bytes)) = some (some (.string ⟨#[]⟩), 1, 16) := by kernel_rfl

theorem growP (n : Nat) (w : World) (hn : n * 48 ≤ 140737488355328) :
    Calls Tryz.prog 88 #[.slice none 0 0, .int .i64 n] w fun e w' => ∃ v, e = .returned v ∧ w'.ownsRow w.heap.size 76 2 v 0 [] ∧ Below w.heap.size w w' := by
  obtain ⟨i0, hi, hz0, hz1, hz2⟩ := info_parts info_page
  rcases Nat.eq_zero_or_pos n with rfl | h0
  · refine (Any8.slices_Grow_room Tryz.laysGrowP none 0 0 0 w (Nat.le_refl _) (by omega) (by omega) (by omega)).mono ?_
    rintro e w' ⟨rfl, rfl⟩
    exact ⟨_, rfl, World.ownsRow_nil _ _ _ _, Below.refl _ _⟩
  · refine (Any8.slices_Grow_grow Tryz.laysGrowP i0 _ hi hz0 (by omega) none 0 0 n [] w (by omega) (by omega) (by rw [hz2]; omega) (by omega) (by simp) (fun _ => rfl) (fun a h => by cases h)).mono ?_
    rintro e w' ⟨rfl, rfl⟩
    rw [Nat.zero_add]
    have hG : grownCap w n 0 76 ≤ maxLen := grownCap_le_maxLen w n 0 _ (by unfold maxLen; omega)
    have hg := grownCap_ge w n 0 76
    exact ⟨_, rfl, grow_own rfl hg hG, ((Below.refl _ w).drew).alloc (Nat.le_refl _) _⟩

theorem growS (n : Nat) (w : World) (hn : n * 16 ≤ 140737488355328) :
    Calls Tryz.prog 92 #[.slice none 0 0, .int .i64 n] w fun e w' => ∃ v, e = .returned v ∧ w'.ownsRow w.heap.size 9 1 v 0 [] ∧ Below w.heap.size w w' := by
  obtain ⟨i0, hi, hz0, hz1, hz2⟩ := info_parts info_string
  rcases Nat.eq_zero_or_pos n with rfl | h0
  · refine (Any8.slices_Grow_room Tryz.laysGrowS none 0 0 0 w (Nat.le_refl _) (by omega) (by omega) (by omega)).mono ?_
    rintro e w' ⟨rfl, rfl⟩
    exact ⟨_, rfl, World.ownsRow_nil _ _ _ _, Below.refl _ _⟩
  · refine (Any8.slices_Grow_grow Tryz.laysGrowS i0 _ hi hz0 (by omega) none 0 0 n [] w (by omega) (by omega) (by rw [hz2]; omega) (by omega) (by simp) (fun _ => rfl) (fun a h => by cases h)).mono ?_
    rintro e w' ⟨rfl, rfl⟩
    rw [Nat.zero_add]
    have hG : grownCap w n 0 9 ≤ maxLen := grownCap_le_maxLen w n 0 _ (by unfold maxLen; omega)
    have hg := grownCap_ge w n 0 9
    exact ⟨_, rfl, grow_own rfl hg hG, ((Below.refl _ w).drew).alloc (Nat.le_refl _) _⟩

theorem bs_spec (K1 K2 : List ByteArray) (k : ByteArray) (h1 : ∀ x ∈ K1, klt x k = true) (h2 : ∀ x ∈ K2, klt x k = false) :
    Lib.bsGo (fun t => Op.bytesLess ((K1 ++ K2).getD t k).toList k.toList) (K1 ++ K2).length 0 (K1 ++ K2).length = K1.length := by
  refine Lib.bsGo_spec _ K1.length ?_ ?_ _ _ _ (by omega) (by omega) (by simp)
  · intro t ht
    show klt ((K1 ++ K2).getD t k) k = true
    rw [List.getD_eq_getElem?_getD, List.getElem?_append_left ht, List.getElem?_eq_getElem ht]
    exact h1 _ (List.getElem_mem ht)
  · intro t ht
    show klt ((K1 ++ K2).getD t k) k = false
    rw [List.getD_eq_getElem?_getD, List.getElem?_append_right ht]
    cases hg : K2[t - K1.length]? with
    | none => exact klt_irrefl k
    | some x => exact h2 x (List.mem_of_getElem? hg)

/-- slices.BinarySearch of texts that rise. -/
theorem search_any (K1 K2 : List ByteArray) (k : ByteArray) (kv : Value) (w : World) (hk : IsStrs w kv (K1 ++ K2)) (h1 : ∀ x ∈ K1, klt x k = true) (h2 : ∀ x ∈ K2, klt x k = false) (hlen : (K1 ++ K2).length ≤ 4) :
    Calls Tryz.prog 57 #[kv, .string k] w fun e w' => e = .returned (.tuple #[.int .i64 K1.length, .bool (decide (K2.head? = some k))]) ∧ Below w.heap.size w w' := by
  rcases Nat.eq_zero_or_pos (K1 ++ K2).length with h0 | h0
  · have he := List.eq_nil_of_length_eq_zero h0
    obtain ⟨rfl, rfl⟩ := List.append_eq_nil_iff.1 he
    obtain ⟨ao, cap, rfl⟩ := hk.shape
    refine (Any2.slices_BinarySearch_string_empty Tryz.laysFind ao cap k w).mono ?_
    rintro e w' ⟨rfl, rfl⟩
    exact ⟨rfl, Below.refl _ _⟩
  · obtain ⟨b, off, cap, rfl, hb, _, _, hc⟩ := hk.at h0
    refine (Any2.slices_BinarySearch_string Tryz.laysFind b off (K1 ++ K2).length cap (fun t => (K1 ++ K2).getD t k) k w (by omega) ?_).mono ?_
    · intro j hj
      exact hc j _ (by rw [List.getD_eq_getElem?_getD, List.getElem?_eq_getElem hj]; rfl)
    · rintro e w' ⟨rfl, q, rfl⟩
      rw [bs_spec K1 K2 k h1 h2]
      refine ⟨?_, below_drewN (Below.refl _ _) q⟩
      have hd : (K1.length < (K1 ++ K2).length ∧ (K1 ++ K2).getD K1.length k = k) ↔ K2.head? = some k := by
        cases K2 with
        | nil => simp
        | cons y K => simp [List.getD_eq_getElem?_getD]
      rw [decide_eq_decide.2 hd]

/-- A row of the caller's own that is not empty. -/
def OwnStrs (w : World) (B g cap : Nat) (L : List ByteArray) : Prop := B ≤ g ∧ w.ownsRow B 9 1 (.slice (some ⟨g, 0, none⟩) L.length cap) L.length (L.map .string)

/-- slices.Clone of some texts: a row of the call's own. -/
theorem clone_any (L : List ByteArray) (sv : Value) (w : World) (h : IsStrs w sv L) (h0 : 0 < L.length) (hl : L.length ≤ 8) :
    Calls Tryz.prog 67 #[sv] w fun e w' => ∃ g cap, e = .returned (.slice (some ⟨g, 0, none⟩) L.length cap) ∧ OwnStrs w' w.heap.size g cap L ∧ Below w.heap.size w w' := by
  obtain ⟨b, off, cap, rfl, hb, _, _, hc⟩ := h.at h0
  refine (Any.slices_Clone_string Tryz.laysClone b off L.length cap L w (Nat.le_refl _) (by omega) ?_).mono ?_
  · intro j hj
    exact hc j _ (by rw [List.getD_eq_getElem?_getD, List.getElem?_eq_getElem hj]; rfl)
  · rintro e w' ⟨v, rfl, ho, _, hb⟩
    rw [List.take_length] at ho
    rcases ho.2 with ⟨_, hz⟩ | ⟨g, c, cur, rfl, hg, _⟩
    · omega
    · exact ⟨g, c, rfl, ⟨hg, ho⟩, hb⟩

end Go.Proofs.YtkncamggdfmlnaaGreatDoor

attribute [local go_sem ↓] Go.wp_at_zero Go.wp_at_succ
namespace Go.Proofs.YtkncamggdfmlnaaGreatDoor
open Go.RowKit Go.Sort

set_option maxHeartbeats 2000000 in
theorem pageFrom1 (T : List Pg) (tb xb b off cap i : Nat) (p : Pg) (k : ByteArray) (W : World) (hp : T[i]? = some p) (hok : p.ok) (hT : HoldsP W b off T)
    (ht : W.cell? ⟨tb, 0, none⟩ = some (.slice (some ⟨b, off, none⟩) T.length cap)) (hx : W.cell? ⟨xb, 0, none⟩ = some (.string k)) :
    Calls Tryz.prog 79 (#[.int .i64 i] ++ #[.pointer (some ⟨tb, 0, none⟩), .pointer (some ⟨xb, 0, none⟩)]) W fun e w' => e = .returned (.bool (!klt (lastK p) k)) ∧ ∃ q os, w' = grow (W.drewN q) os := by
  obtain ⟨kv, vv, c0, c1, hk, hv⟩ := hT i p hp
  have hin : i < T.length := (List.getElem?_eq_some_iff.1 hp).1
  have lk := fun W' (h : Below W.heap.size W W') => lastKey_any p kv vv W' (hk.below h) hok.1 hok.2.1
  obtain ⟨va, vc, rfl⟩ := hv.shape
  obtain ⟨ka, kc, rfl⟩ := hk.shape
  unfold klt
  generalize lastK p = lq at lk ⊢
  generalize T.length = n at *
  have i0 : (0 : Int) ≤ (i : Int) := by omega
  have i1 : (i : Int) < (n : Int) := by omega
  clear hT hk hv hp hok
  generalize hbl : Op.bytesLess lq.toList k.toList = bl
  go_enter Tryz.func79, Tryz.ntmps79
  go_wp2
  go_region_held3 (fun w' => w'.cell? ⟨tb, 0, none⟩ = some (.slice (some ⟨b, off, none⟩) n cap) ∧ w'.cell? ⟨b, off + i * 2, none⟩ = some (.slice ka p.K.length kc) ∧ w'.cell? ⟨b, off + i * 2 + 1, none⟩ = some (.slice va p.V.length vc) ∧ w'.cell? ⟨xb, 0, none⟩ = some (.string k)) (first | go_keep | skip)
    (first | (go_at_call 66; refine (lk _ ((Below.refl _ _).drew)).mono ?_; rintro e w3 ⟨rfl, rfl⟩))
  all_goals go_wp2
  all_goals go_ret
  all_goals exact ⟨by first | rfl | simp [*], 1, #[.cells #[.slice ka p.K.length kc, .slice va p.V.length vc] 76], alloc_eq_grow W.drew _⟩

theorem count_range (T : List Pg) (f : Pg → Bool) : (List.range T.length).countP (fun i => f (T.getD i pg0)) = T.countP f := by
  induction T with
  | nil => rfl
  | cons x T ih =>
    rw [List.length_cons, List.range_succ_eq_map, List.countP_cons, List.countP_map, List.countP_cons]
    congr 1

theorem last_mono {T : List Pg} (h : GoodT T) (k : ByteArray) : ∀ a b, a ≤ b → b < T.length → (!klt (lastK (T.getD a pg0)) k) = true → (!klt (lastK (T.getD b pg0)) k) = true := by
  obtain ⟨A, B, e, hc, ha, hb⟩ := split_pages T h k
  intro a b hab hbl h1
  have hA : A.length ≤ a := by
    rcases Nat.lt_or_ge a A.length with hlt | hge
    · exfalso
      have hg : T.getD a pg0 = A[a] := by rw [e, List.getD_eq_getElem?_getD, List.getElem?_append_left hlt, List.getElem?_eq_getElem hlt]; rfl
      rw [hg] at h1
      have hm : A[a] ∈ A := List.getElem_mem hlt
      have hok : A[a].ok := h.1 _ (by rw [e]; exact List.mem_append_left _ hm)
      have := ha (lastK A[a]) (List.mem_flatMap.2 ⟨A[a], hm, lastK_mem hok⟩)
      rw [this] at h1
      cases h1
    · exact hge
  have hbt : b - A.length < B.length := by rw [e, List.length_append] at hbl; omega
  have hg : T.getD b pg0 = B[b - A.length] := by rw [e, List.getD_eq_getElem?_getD, List.getElem?_append_right (by omega), List.getElem?_eq_getElem hbt]; rfl
  rw [hg, hb _ (List.getElem_mem hbt)]; rfl

/-- How many pages are ahead of a key's. -/
def pf (T : List Pg) (k : ByteArray) : Nat := T.countP fun p => klt (lastK p) k

set_option maxHeartbeats 2000000 in
theorem pageFrom_any (T : List Pg) (tv : Value) (k : ByteArray) (w : World) (ht : IsTree w tv T) (hg : GoodT T) (hn : T.length * 48 ≤ 140737488355328) :
    Calls Tryz.prog 56 #[tv, .string k] w fun e w' => e = .returned (.int .i64 (pf T k)) ∧ Below w.heap.size w w' := by
  obtain ⟨sv, rfl, hs⟩ := ht
  obtain ⟨so, scap, rfl⟩ : ∃ so scap, sv = .slice so T.length scap := by obtain ⟨rows, h1, _⟩ := hs; exact h1.shape
  obtain ⟨W0, hW0⟩ : ∃ W0, W0 = (w.alloc (.cells #[.slice so T.length scap] 52)).alloc (.cells #[.string k] 9) := ⟨_, rfl⟩
  have hsize : W0.heap.size = w.heap.size + 1 + 1 := by rw [hW0]; simp
  have hB0 : Below w.heap.size w W0 := by rw [hW0]; exact ((Below.refl _ w).alloc (Nat.le_refl _) _).alloc (by simp) _
  have ca : W0.cell? ⟨w.heap.size, 0, none⟩ = some (.slice so T.length scap) := by
    rw [hW0]; exact cell_of_block (block_alloc_of (block_alloc_at w _) _) rfl
  have cx : W0.cell? ⟨w.heap.size + 1, 0, none⟩ = some (.string k) := by
    rw [hW0]; have := block_alloc_at (w.alloc (.cells #[.slice so T.length scap] 52)) (.cells #[.string k] 9)
    rw [World.size_alloc] at this
    exact cell_of_block this rfl
  have eg : ∀ args w, (callFunc 79 args).run Tryz.prog w = .ok (.enter 79 args) w := enters_of Tryz.func79 (by kernel_rfl) rfl
  have hS := Any.sort_Search Tryz.laysSearch 79 #[.pointer (some ⟨w.heap.size, 0, none⟩), .pointer (some ⟨w.heap.size + 1, 0, none⟩)] T.length (fun i => !klt (lastK (T.getD i pg0)) k) W0 eg (by omega)
    (fun m os i hi => by
      have hbl : Below W0.heap.size W0 (grow (W0.drewN m) os) := below_grown_sl W0.heap.size W0 m os (Nat.le_refl _)
      obtain ⟨b, off, cap, hsv, hb, _, _, hT⟩ := hs.at (by omega)
      have hpi : T[i]? = some (T.getD i pg0) := by rw [List.getD_eq_getElem?_getD, List.getElem?_eq_getElem hi]; rfl
      have hb0 : b < W0.heap.size := by omega
      refine pageFrom1 T w.heap.size (w.heap.size + 1) b off scap i (T.getD i pg0) k _ hpi (hg.1 _ (List.mem_of_getElem? hpi)) ((hT.below hB0 hb).below hbl hb0) ?_ ?_
      · rw [hbl.cell (p := ⟨w.heap.size, 0, none⟩) (by simp only; omega), ca]
        simp only [Value.slice.injEq] at hsv
        rw [hsv.1]
      · rw [hbl.cell (p := ⟨w.heap.size + 1, 0, none⟩) (by simp only; omega), cx])
    (last_mono hg k)
  have hcnt : (List.range T.length).countP (fun i => !(!klt (lastK (T.getD i pg0)) k)) = pf T k := by
    simp only [Bool.not_not]
    exact count_range T fun p => klt (lastK p) k
  rw [hcnt] at hS
  clear ca cx hcnt
  generalize pf T k = r at hS ⊢
  generalize T.length = n at *
  go_enter Tryz.func56, Tryz.ntmps56
  go_wp2_with (go_at_call 78; go_must (rw [← hW0]; refine hS.mono ?_; rintro e w' ⟨rfl, q, os, rfl⟩))
  go_ret
  refine ⟨rfl, ?_⟩
  rw [← hW0]
  exact hB0.trans (below_grown_sl w.heap.size W0 q os (by omega))

/-- tree.find, whatever the memory: where a key stands, or could be put. -/
def FindIs (T : List Pg) (k : ByteArray) (pg pl : Nat) (th : Bool) : Prop :=
  ∀ (tv : Value) (w : World), IsTree w tv T → Calls Tryz.prog 40 #[tv, .string k] w fun e w' => e = .returned (.tuple #[.int .i64 pg, .int .i64 pl, .bool th]) ∧ Below w.heap.size w w'

set_option maxHeartbeats 2000000 in
theorem find_any (T : List Pg) (k : ByteArray) (hg : GoodT T) (hn : T.length * 48 ≤ 140737488355328) : ∃ (pg pl : Nat) (th : Bool), Found T k pg pl th ∧ FindIs T k pg pl th := by
  obtain ⟨A, B, e, hc, ha, hb⟩ := split_pages T hg k
  change pf T k = A.length at hc
  cases B with
  | nil =>
    refine ⟨T.length, 0, false, .inl ⟨rfl, rfl, rfl, by rw [e, List.append_nil]; exact ha⟩, fun tv w ht => ?_⟩
    have pfc := fun W (h : Below w.heap.size w W) => pageFrom_any T tv k W (ht.below h) hg hn
    obtain ⟨sv, rfl, hs⟩ := ht
    rw [hc] at pfc
    obtain ⟨so, scap, rfl⟩ : ∃ so scap, sv = .slice so T.length scap := by obtain ⟨rows, h1, _⟩ := hs; exact h1.shape
    have hB0 : Below w.heap.size w (w.alloc (.cells #[.slice so T.length scap] 52)) := (Below.refl _ w).alloc (Nat.le_refl _) _
    have cbox : (w.alloc (.cells #[.slice so T.length scap] 52)).cell? ⟨w.heap.size, 0, none⟩ = some (.slice so T.length scap) := cell_of_block (block_alloc_at w _) rfl
    have pf0 := pfc _ hB0
    have hsz : w.heap.size < (w.alloc (.cells #[.slice so T.length scap] 52)).heap.size := by simp
    have hl : A.length = T.length := by rw [e, List.append_nil]
    clear e ha hb hs hg pfc
    rw [hl] at pf0
    generalize T.length = n at *
    go_enter Tryz.func40, Tryz.ntmps40
    go_wp2_with (go_at_call 56; go_must (refine pf0.mono ?_; rintro e w1 ⟨rfl, hb1⟩; have cb1 : w1.cell? ⟨w.heap.size, 0, none⟩ = some (.slice so n scap) := (hb1.cell (p := ⟨w.heap.size, 0, none⟩) hsz).trans cbox))
    refine bodyPost_ret (v := .tuple #[.int .i64 n, .int .i64 0, .bool false]) (by simp [results, Tryz.results40, go_sem]) rfl ?_
    exact ⟨rfl, hB0.trans (hb1.mono hB0.size)⟩
  | cons p B =>
    have hlt : A.length < T.length := by rw [e]; simp
    have hpi : T[A.length]? = some p := by rw [e]; simp
    have hpg := hg.page hpi
    obtain ⟨K1, K2, hK, hK1, hK2⟩ := split_rise p.K hpg.2 k
    cases hK2e : K2 with
    | nil =>
      exfalso
      subst hK2e
      have := hK1 (lastK p) (by have := lastK_mem hpg.1; rw [hK, List.append_nil] at this; exact this)
      rw [hb p (by simp)] at this
      cases this
    | cons y K3 =>
      subst hK2e
      refine ⟨A.length, K1.length, decide (y = k), .inr ⟨A, p, B, K1, y, K3, e, hK, rfl, rfl, ha, hK1, hK2 y (by simp), rfl⟩, fun tv w ht => ?_⟩
      have pfc := fun W (h : Below w.heap.size w W) => pageFrom_any T tv k W (ht.below h) hg hn
      obtain ⟨sv, rfl, hs⟩ := ht
      rw [hc] at pfc
      obtain ⟨so, scap, rfl⟩ : ∃ so scap, sv = .slice so T.length scap := by obtain ⟨rows, h1, _⟩ := hs; exact h1.shape
      have hB0 : Below w.heap.size w (w.alloc (.cells #[.slice so T.length scap] 52)) := (Below.refl _ w).alloc (Nat.le_refl _) _
      have cbox : (w.alloc (.cells #[.slice so T.length scap] 52)).cell? ⟨w.heap.size, 0, none⟩ = some (.slice so T.length scap) := cell_of_block (block_alloc_at w _) rfl
      have pf0 := pfc _ hB0
      have hsz : w.heap.size < (w.alloc (.cells #[.slice so T.length scap] 52)).heap.size := by simp
      obtain ⟨b, off, cap, hsv, hbl, _, _, hT⟩ := hs.at (by omega)
      simp only [Value.slice.injEq] at hsv
      obtain ⟨rfl, _, rfl⟩ := hsv
      obtain ⟨kv, vv, c0, c1, hk, hv⟩ := hT _ p hpi
      have hk2 := hk
      rw [hK] at hk2
      have sr := fun W (h : Below w.heap.size w W) => search_any K1 (y :: K3) k kv W (hk2.below h) hK1 hK2 (by rw [← hK]; exact hpg.1.2.1)
      obtain ⟨ka, kc, rfl⟩ := hk.shape
      have hyk : (decide ((y :: K3).head? = some k)) = decide (y = k) := by simp
      rw [hyk] at sr
      generalize decide (y = k) = th at sr ⊢
      clear e ha hb hs hg pfc hK hk2 hpg hT hpi hv hK1 hK2 hyk
      generalize hal : A.length = a at *
      generalize hkl : K1.length = kl at *
      have i0 : (0 : Int) ≤ (a : Int) := by omega
      have i1 : (a : Int) < (T.length : Int) := by omega
      generalize hnl : T.length = n at *
      go_enter Tryz.func40, Tryz.ntmps40
      go_wp2_with (first
        | (go_at_call 56; go_must (refine pf0.mono ?_; rintro e w1 ⟨rfl, hb1⟩; have cb1 : w1.cell? ⟨w.heap.size, 0, none⟩ = some (.slice (some ⟨b, off, none⟩) n scap) := (hb1.cell (p := ⟨w.heap.size, 0, none⟩) hsz).trans cbox; have hbz := hB0.trans (hb1.mono hB0.size); have ck := (hbz.cell (p := ⟨b, off + a * 2, none⟩) hbl).trans c0))
        | (go_at_call 57; go_must (refine (sr _ hbz).mono ?_; rintro e w2 ⟨rfl, hb2⟩)))
      refine bodyPost_ret (v := .tuple #[.int .i64 a, .int .i64 kl, .bool th]) (by simp [results, Tryz.results40, go_sem]) rfl ?_
      exact ⟨rfl, hbz.trans (hb2.mono hbz.size)⟩

end Go.Proofs.YtkncamggdfmlnaaGreatDoor


/-
  1 texts of this proof in one, in build order: WSearch.
-/
import Derived.Deep.LoopGhost
import Derived.Test.YtmgkcjiejmhgcaaGreatDoorJ04
import Derived.Test.YtmgkcjiejmhgcaaGreatDoorJ13
import Derived.Test.YtmgkcjiejmhgcaaGreatDoorJ16
set_option linter.unusedSimpArgs false
set_option linter.unusedVariables false
namespace Go.Proofs.YtmgkcjiejmhgcaaGreatDoor
open Go.RowKit
open Go.Maps
set_option maxRecDepth 100000 in
set_option maxHeartbeats 4000000 in
theorem Vx (l :List (List Value)) (ao :Option Addr) (n c :Nat) (f0 :Value) (want :Wd) (cf :Nat→Int) (m0 :Nat) (w :World) (hIs : ∀W,Below w.heap.size w W→IsL Fv (fun _=>True) W (.slice ao n c) l)
  (hm :m0≤l.length) (hm1 : ∀t,t<m0→cf t<0) (hm2 : ∀t,m0≤t→t<l.length→ ¬cf t<0) (hl :l.length≤1000000)
  (hcall : ∀i cs W,l[i]? =some cs→Below w.heap.size w W→Calls Tryz.prog 78 #[.agg cs.toArray, .string want,f0] W fun e W'=>e= .returned (.int .i64 (cf i)) ∧Below W.heap.size W W') :
  Calls Tryz.prog 80 #[.slice ao n c, .string want, .func (.func 78) #[] #[f0]] w fun e w'=> ∃b,e= .returned (.tuple #[.int .i64 m0, .bool b]) ∧Below w.heap.size w w' :=by
 obtain ⟨hn,hlm⟩ :=Bj (hIs w (Below.refl _ _))
 subst hn
 have HM1 :Hid _ :=hm1
 have HM2 :Hid _ :=hm2
 clear hm1 hm2
 go_enter Tryz.func80,Tryz.ntmps80
 go_wp2
 go_loopg [9,10] l.length (fun kx s9 s10 wr=> ∃lo hi :Nat,s9= .int .i64 lo∧s10= .int .i64 hi∧lo≤m0∧m0≤hi∧hi≤l.length∧hi - lo≤kx∧Below w.heap.size w wr)
 case atStart=>exact ⟨0,l.length,rfl,rfl,Nat.zero_le _,hm,Nat.le_refl _,by omega,Below.refl _ _⟩
 case round=>
  obtain ⟨lo,hi,rfl,rfl,hlo,hhi,hin,hg,hbel⟩ :=hrel
  by_cases hlt :lo<hi
  ·have k0 : (0 :Int) ≤ ((lo :Int) + (hi :Int)) /2 :=by omega
   have k1 : ((lo :Int) + (hi :Int)) /2< (l.length :Int) :=by omega
   have k2 : (((lo :Int) + (hi :Int)) /2).toNat= (lo+hi) /2 :=by omega
   obtain ⟨x,hx⟩ : ∃x,l[(lo+hi) /2]? =some x := ⟨_,List.getElem?_eq_getElem (by omega)⟩
   obtain ⟨b,off,cs,hao,_,hb,hR,hcell⟩ :=Av (hIs wr hbel) hx
   subst hao
   have HC :=hcall ((lo+hi) /2) x wr hx hbel
   obtain ⟨rfl,s0,a1,n1,c1,rfl⟩ :=hR
   have d0 :=hcell 0 _ rfl
   have d1 :=hcell 1 _ rfl
   simp only [Fv,Nat.add_zero] at d0 d1
   clear hcell hx
   have H1 :=HM1.out ((lo+hi) /2)
   have H2 :=HM2.out ((lo+hi) /2)
   generalize cf ((lo+hi) /2) =q at HC H1 H2
   by_cases hq :q<0
   ·have hlt2 : (lo+hi) /2<m0 :=Nat.lt_of_not_le fun h=>by have :=H2 h (by omega);omega
    clear H1 H2
    go_wp2_with (go_at_call 78;go_must (go_fit HC;rintro e W' ⟨rfl,hbW⟩))
    go_roundg (hi - ((lo+hi) /2+1))
    case measure=>omega
    case rel=>exact ⟨(lo+hi) /2+1,hi,by rw [show ((lo :Int) + (hi :Int)) /2+1= (((lo+hi) /2+1 :Nat) :Int) by omega],rfl,by omega,hhi,hin,by omega,Ak hbel hbW⟩
   ·have hge2 :m0≤ (lo+hi) /2 :=Nat.le_of_not_lt fun h=>hq (H1 h)
    clear H1 H2
    go_wp2_with (go_at_call 78;go_must (go_fit HC;rintro e W' ⟨rfl,hbW⟩))
    go_roundg ((lo+hi) /2 - lo)
    case measure=>omega
    case rel=>exact ⟨lo,(lo+hi) /2,rfl,by rw [show ((lo :Int) + (hi :Int)) /2= (((lo+hi) /2 :Nat) :Int) by omega],hlo,hge2,by omega,by omega,Ak hbel hbW⟩
  ·obtain rfl :m0=lo :=by omega
   obtain rfl :m0=hi :=by omega
   by_cases hn :m0<l.length
   ·have k0 : (0 :Int) ≤ (m0 :Int) :=by omega
    have k1 : (m0 :Int) < (l.length :Int) :=by omega
    obtain ⟨x,hx⟩ : ∃x,l[m0]? =some x := ⟨_,List.getElem?_eq_getElem (by omega)⟩
    obtain ⟨b,off,cs,hao,_,hb,hR,hcell⟩ :=Av (hIs wr hbel) hx
    subst hao
    have HC :=hcall (m0) x wr hx hbel
    obtain ⟨rfl,s0,a1,n1,c1,rfl⟩ :=hR
    have d0 :=hcell 0 _ rfl
    have d1 :=hcell 1 _ rfl
    simp only [Fv,Nat.add_zero] at d0 d1
    clear hcell hx
    generalize cf m0=q at HC
    go_wp2_with (go_at_call 78;go_must (go_fit HC;rintro e W' ⟨rfl,hbW⟩))
    go_ret2
    exact ⟨_,rfl,Ak hbel hbW⟩
   ·have k1 : ¬ (m0 :Int) < (l.length :Int) :=by omega
    go_wp2
    go_ret2
    first | exact ⟨_,rfl,hbel⟩ | exact ⟨.inl rfl,hbel⟩
set_option maxHeartbeats 2000000 in
theorem So (s0 want :Wd) (a1 :Option Addr) (n1 c1 :Nat) (pb :Nat) (w :World) (hp :w.cell? ⟨pb,0,none⟩ =some (.func (.func 41) #[] #[])) (hpb :pb<w.heap.size) :
  Calls Tryz.prog 78 #[.agg [.string s0, .slice a1 n1 c1].toArray, .string want, .pointer (some ⟨pb,0,none⟩)] w fun e w'=>e= .returned (.int .i64 (Fg s0 want)) ∧Below w.heap.size w w' :=by
 have hb1 :=Aq w (.cells [.string s0, .slice a1 n1 c1].toArray 47)
 have hp1 := (hb1.cell (p := ⟨pb,0,none⟩) hpb).trans hp
 have HC :=fun W=>Nz s0 want W
 generalize Fg s0 want=r at HC
 go_enter Tryz.func78,Tryz.ntmps78
 go_wp2_with (first | (go_at_call 41;go_must (go_fit (D6 s0 a1 n1 c1 _);rintro e W1 ⟨rfl,hbW⟩)) | (go_at_call 79;go_must (go_fit (HC _);rintro e W2 ⟨rfl,rfl⟩)))
 go_ret
 exact ⟨rfl,Ak hb1 hbW⟩
set_option maxRecDepth 100000 in
set_option maxHeartbeats 4000000 in
theorem Vy (l :List (List Value)) (ao :Option Addr) (n c :Nat) (f0 :Value) (want :Wd) (cf :Nat→Int) (m0 :Nat) (w :World) (hIs : ∀W,Below w.heap.size w W→IsL Fw (fun _=>True) W (.slice ao n c) l)
  (hm :m0≤l.length) (hm1 : ∀t,t<m0→cf t<0) (hm2 : ∀t,m0≤t→t<l.length→ ¬cf t<0) (hl :l.length≤1000000)
  (hcall : ∀i cs W,l[i]? =some cs→Below w.heap.size w W→Calls Tryz.prog 83 #[.agg cs.toArray, .string want,f0] W fun e W'=>e= .returned (.int .i64 (cf i)) ∧Below W.heap.size W W') :
  Calls Tryz.prog 84 #[.slice ao n c, .string want, .func (.func 83) #[] #[f0]] w fun e w'=> ∃b,e= .returned (.tuple #[.int .i64 m0, .bool b]) ∧Below w.heap.size w w' :=by
 obtain ⟨hn,hlm⟩ :=Bj (hIs w (Below.refl _ _))
 subst hn
 have HM1 :Hid _ :=hm1
 have HM2 :Hid _ :=hm2
 clear hm1 hm2
 go_enter Tryz.func84,Tryz.ntmps84
 go_wp2
 go_loopg [9,10] l.length (fun kx s9 s10 wr=> ∃lo hi :Nat,s9= .int .i64 lo∧s10= .int .i64 hi∧lo≤m0∧m0≤hi∧hi≤l.length∧hi - lo≤kx∧Below w.heap.size w wr)
 case atStart=>exact ⟨0,l.length,rfl,rfl,Nat.zero_le _,hm,Nat.le_refl _,by omega,Below.refl _ _⟩
 case round=>
  obtain ⟨lo,hi,rfl,rfl,hlo,hhi,hin,hg,hbel⟩ :=hrel
  by_cases hlt :lo<hi
  ·have k0 : (0 :Int) ≤ ((lo :Int) + (hi :Int)) /2 :=by omega
   have k1 : ((lo :Int) + (hi :Int)) /2< (l.length :Int) :=by omega
   have k2 : (((lo :Int) + (hi :Int)) /2).toNat= (lo+hi) /2 :=by omega
   obtain ⟨x,hx⟩ : ∃x,l[(lo+hi) /2]? =some x := ⟨_,List.getElem?_eq_getElem (by omega)⟩
   obtain ⟨b,off,cs,hao,_,hb,hR,hcell⟩ :=Av (hIs wr hbel) hx
   subst hao
   have HC :=hcall ((lo+hi) /2) x wr hx hbel
   obtain ⟨rfl,s0,s1,s2,rfl⟩ :=hR
   have d0 :=hcell 0 _ rfl
   have d1 :=hcell 1 _ rfl
   have d2 :=hcell 2 _ rfl
   simp only [Fw,Nat.add_zero] at d0 d1 d2
   clear hcell hx
   have H1 :=HM1.out ((lo+hi) /2)
   have H2 :=HM2.out ((lo+hi) /2)
   generalize cf ((lo+hi) /2) =q at HC H1 H2
   by_cases hq :q<0
   ·have hlt2 : (lo+hi) /2<m0 :=Nat.lt_of_not_le fun h=>by have :=H2 h (by omega);omega
    clear H1 H2
    go_wp2_with (go_at_call 83;go_must (go_fit HC;rintro e W' ⟨rfl,hbW⟩))
    go_roundg (hi - ((lo+hi) /2+1))
    case measure=>omega
    case rel=>exact ⟨(lo+hi) /2+1,hi,by rw [show ((lo :Int) + (hi :Int)) /2+1= (((lo+hi) /2+1 :Nat) :Int) by omega],rfl,by omega,hhi,hin,by omega,Ak hbel hbW⟩
   ·have hge2 :m0≤ (lo+hi) /2 :=Nat.le_of_not_lt fun h=>hq (H1 h)
    clear H1 H2
    go_wp2_with (go_at_call 83;go_must (go_fit HC;rintro e W' ⟨rfl,hbW⟩))
    go_roundg ((lo+hi) /2 - lo)
    case measure=>omega
    case rel=>exact ⟨lo,(lo+hi) /2,rfl,by rw [show ((lo :Int) + (hi :Int)) /2= (((lo+hi) /2 :Nat) :Int) by omega],hlo,hge2,by omega,by omega,Ak hbel hbW⟩
  ·obtain rfl :m0=lo :=by omega
   obtain rfl :m0=hi :=by omega
   by_cases hn :m0<l.length
   ·have k0 : (0 :Int) ≤ (m0 :Int) :=by omega
    have k1 : (m0 :Int) < (l.length :Int) :=by omega
    obtain ⟨x,hx⟩ : ∃x,l[m0]? =some x := ⟨_,List.getElem?_eq_getElem (by omega)⟩
    obtain ⟨b,off,cs,hao,_,hb,hR,hcell⟩ :=Av (hIs wr hbel) hx
    subst hao
    have HC :=hcall (m0) x wr hx hbel
    obtain ⟨rfl,s0,s1,s2,rfl⟩ :=hR
    have d0 :=hcell 0 _ rfl
    have d1 :=hcell 1 _ rfl
    have d2 :=hcell 2 _ rfl
    simp only [Fw,Nat.add_zero] at d0 d1 d2
    clear hcell hx
    generalize cf m0=q at HC
    go_wp2_with (go_at_call 83;go_must (go_fit HC;rintro e W' ⟨rfl,hbW⟩))
    go_ret2
    exact ⟨_,rfl,Ak hbel hbW⟩
   ·have k1 : ¬ (m0 :Int) < (l.length :Int) :=by omega
    go_wp2
    go_ret2
    first | exact ⟨_,rfl,hbel⟩ | exact ⟨.inl rfl,hbel⟩
set_option maxHeartbeats 2000000 in
theorem Sp (s0 want :Wd) (s1 s2 :Wd) (pb :Nat) (w :World) (hp :w.cell? ⟨pb,0,none⟩ =some (.func (.func 43) #[] #[])) (hpb :pb<w.heap.size) :
  Calls Tryz.prog 83 #[.agg [.string s0, .string s1, .string s2].toArray, .string want, .pointer (some ⟨pb,0,none⟩)] w fun e w'=>e= .returned (.int .i64 (Fg s0 want)) ∧Below w.heap.size w w' :=by
 have hb1 :=Aq w (.cells [.string s0, .string s1, .string s2].toArray 64)
 have hp1 := (hb1.cell (p := ⟨pb,0,none⟩) hpb).trans hp
 have HC :=fun W=>Nz s0 want W
 generalize Fg s0 want=r at HC
 go_enter Tryz.func83,Tryz.ntmps83
 go_wp2_with (first | (go_at_call 43;go_must (go_fit (D7 s0 s1 s2 _);rintro e W1 ⟨rfl,hbW⟩)) | (go_at_call 79;go_must (go_fit (HC _);rintro e W2 ⟨rfl,rfl⟩)))
 go_ret
 exact ⟨rfl,Ak hb1 hbW⟩
end Go.Proofs.YtmgkcjiejmhgcaaGreatDoor


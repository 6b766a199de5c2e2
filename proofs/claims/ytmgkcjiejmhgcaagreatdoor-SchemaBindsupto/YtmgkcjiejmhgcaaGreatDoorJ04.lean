/-
  3 texts of this proof in one, in build order: YRise, YIndexB, YCat.
-/
import Derived.Deep.RegionHeld3
import Derived.Test.YtmgkcjiejmhgcaaGreatDoorJ02
import Derived.Test.YtmgkcjiejmhgcaaGreatDoorJ03
set_option linter.unusedSimpArgs false
set_option linter.unusedVariables false
namespace Go.Proofs.YtmgkcjiejmhgcaaGreatDoor
open Go.RowKit Go.Maps
theorem O8 (p :Nat→Bool) (k n :Nat) (h :k<n) :A1 p k (n - k) = (p k || A1 p (k+1) (n - (k+1))) :=by
 rw [show n - k= (n - (k+1)) +1 from by omega,A1]
def Ce (l :List Wd) (i :Nat) :Bool :=match l[i]?,l[i+1]? with
 | some a,some b=> !Op.bytesLess a.toList b.toList
 | _,_=>false
def D3 (l :List Wd) :Bool := !A1 (Ce l) 0 (l.length - 1)
set_option maxHeartbeats 400000 in
theorem D6 (nmv :Wd) (ao :Option Addr) (n c :Nat) (w :World) :Calls Tryz.prog 41 #[.agg #[.string nmv, .slice ao n c]] w fun e w'=>e= .returned (.string nmv) ∧Below w.heap.size w w' :=by
 go_enter Tryz.func41,Tryz.ntmps41
 go_wp2
 go_ret
 exact ⟨rfl,Aq _ _⟩
set_option maxHeartbeats 400000 in
theorem D7 (nmv t c :Wd) (w :World) :Calls Tryz.prog 43 #[.agg #[.string nmv, .string t, .string c]] w fun e w'=>e= .returned (.string nmv) ∧Below w.heap.size w w' :=by
 go_enter Tryz.func43,Tryz.ntmps43
 go_wp2
 go_ret
 exact ⟨rfl,Aq _ _⟩
theorem Gd {W W' :World} {b off k :Nat} {a0 a1 a2 a3 :Value} (h :W.cell? ⟨b,off+k*2,none⟩ =some a0∧W.cell? ⟨b,off+k*2+1,none⟩ =some a1∧W.cell? ⟨b,off+ (k+1) *2,none⟩ =some a2∧W.cell? ⟨b,off+ (k+1) *2+1,none⟩ =some a3) (hb :Below W.heap.size W W') (hl :b<W.heap.size) :W'.cell? ⟨b,off+k*2,none⟩ =some a0∧W'.cell? ⟨b,off+k*2+1,none⟩ =some a1∧W'.cell? ⟨b,off+ (k+1) *2,none⟩ =some a2∧W'.cell? ⟨b,off+ (k+1) *2+1,none⟩ =some a3 :=by
 have kc : ∀o,W'.cell? ⟨b,o,none⟩ =W.cell? ⟨b,o,none⟩ :=fun o=>hb.cell (p := ⟨b,o,none⟩) hl
 obtain ⟨h0,h1,h2,h3⟩ :=h
 exact ⟨(kc _).trans h0,(kc _).trans h1,(kc _).trans h2,(kc _).trans h3⟩
set_option maxRecDepth 100000 in
set_option maxHeartbeats 4000000 in
theorem Xm (l :List TabD) (sv :Value) (C :Nat) (w :World) (hl :IsL A4 (fun k=>k<C) w sv l) (hC :C≤w.heap.size) :
  Calls Tryz.prog 66 #[sv, .func (.func 41) #[] #[]] w fun e w'=>e= .returned (.bool (D3 (l.map TabD.name))) ∧Below w.heap.size w w' :=by
 obtain ⟨ao,c,rfl⟩ :=hl.shape
 have hlm := (Bj hl).2
 unfold maxLen at hlm
 have E :Hid (D3 (l.map TabD.name) = !A1 (Ce (l.map TabD.name)) 0 (l.length - 1)) :=by show _=_;rw [D3,List.length_map]
 generalize D3 (l.map TabD.name) =r at E
 go_enter Tryz.func66,Tryz.ntmps66
 go_wp2
 go_loopw [5] (fun i wr=> ∃k :Nat,k≤l.length - 1∧i= .int .i64 ((k :Int) +1) ∧Below w.heap.size w wr∧Hid (A1 (Ce (l.map TabD.name)) 0 (l.length - 1) =A1 (Ce (l.map TabD.name)) k (l.length - 1 - k))) (fun i _=>l.length - (intOf i).toNat)
 case atStart=>exact ⟨0,Nat.zero_le _,rfl,Below.refl _ _,rfl⟩
 case round=>
  obtain ⟨k,hk,rfl,hbel,HP⟩ :=hrel
  by_cases hlt :k+1<l.length
  ·obtain ⟨x,hx⟩ : ∃x,l[k]? =some x := ⟨_,List.getElem?_eq_getElem (by omega)⟩
   obtain ⟨y,hy⟩ : ∃y,l[k+1]? =some y := ⟨_,List.getElem?_eq_getElem hlt⟩
   have hlr :=hl.keep (Ag (hbel.mono hC))
   obtain ⟨b,off,cs0,rfl,_,hb,hR0,hcell0⟩ :=Av hlr hx
   obtain ⟨b',off',cs1,hbe,_,_,hR1,hcell1⟩ :=Av hlr hy
   simp only [Option.some.injEq,Addr.mk.injEq,and_true] at hbe
   obtain ⟨rfl,rfl⟩ :=hbe
   obtain ⟨sv0,rfl,hsv0⟩ :=hR0
   obtain ⟨so0,sc0,rfl⟩ :=hsv0.shape
   obtain ⟨sv1,rfl,hsv1⟩ :=hR1
   obtain ⟨so1,sc1,rfl⟩ :=hsv1.shape
   have d0 :=hcell0 0 _ rfl
   have d1 :=hcell0 1 _ rfl
   have e0 :=hcell1 0 _ rfl
   have e1 :=hcell1 1 _ rfl
   simp only [A4,Nat.add_zero] at d0 d1 e0 e1
   have hst :Hid (A1 (Ce (l.map TabD.name)) k (l.length - 1 - k) = (!Op.bytesLess x.name.toList y.name.toList || A1 (Ce (l.map TabD.name)) (k+1) (l.length - 1 - (k+1)))) :=by
    show _=_
    rw [O8 _ k _ (by omega),Ce,List.getElem?_map,List.getElem?_map,hx,hy]
    rfl
   have k0 : (0 :Int) ≤ (k :Int) +1 :=by omega
   have k1 : (k :Int) +1< (l.length :Int) :=by omega
   have k2 :wrap64 ((k :Int) +1 - 1) = (k :Int) :=by unfold wrap64;omega
   have k3 : (0 :Int) ≤ (k :Int) :=by omega
   have k4 : (k :Int) < (l.length :Int) :=by omega
   have k5 : ((k :Int) +1).toNat=k+1 :=by omega
   have k6 :IntKind.i64.wrap (k :Int) = (k :Int) :=by rw [IntKind.wrap_i64];omega
   have S0 := (show wr.cell? ⟨b,off+k*2,none⟩ =some (.string x.name) ∧wr.cell? ⟨b,off+k*2+1,none⟩ =some (.slice so0 x.cols.length sc0) ∧wr.cell? ⟨b,off+ (k+1) *2,none⟩ =some (.string y.name) ∧wr.cell? ⟨b,off+ (k+1) *2+1,none⟩ =some (.slice so1 y.cols.length sc1) from ⟨d0,d1,e0,e1⟩)
   clear hcell0 hcell1 hx hy hlr
   cases hq :Op.bytesLess x.name.toList y.name.toList
   ·have hst2 :Hid (A1 (Ce (l.map TabD.name)) k (l.length - 1 - k) =true) :=by show _=_;rw [hst.out,hq];rfl
    clear hst
    go_wp2_with fail
    go_region_held3 (fun w'=>w'.cell? ⟨b,off+k*2,none⟩ =some (.string x.name) ∧w'.cell? ⟨b,off+k*2+1,none⟩ =some (.slice so0 x.cols.length sc0) ∧w'.cell? ⟨b,off+ (k+1) *2,none⟩ =some (.string y.name) ∧w'.cell? ⟨b,off+ (k+1) *2+1,none⟩ =some (.slice so1 y.cols.length sc1)) (first | assumption | exact S0)
     (first | (go_at_call_of 41 (Value.agg #[.string x.name, .slice so0 x.cols.length sc0]);go_fit (D6 x.name so0 x.cols.length sc0 _);rintro r0 w2 ⟨rfl,hb0⟩;have S1 :=Gd (W :=wr.drew) S0 hb0 hb;have z1 :=Nat.lt_of_lt_of_le hb hb0.size) | (go_at_call_of 41 (Value.agg #[.string y.name, .slice so1 y.cols.length sc1]);go_fit (D6 y.name so1 y.cols.length sc1 _);rintro r1 w3 ⟨rfl,hb1⟩;have S2 :=Gd S1 hb1 z1;have z2 :=Nat.lt_of_lt_of_le z1 hb1.size))
    go_wp2
    go_ret
    exact ⟨Aj (by rw [E.out,HP.out,hst2.out];rfl),hbel.trans ((Ak (Ak (Below.refl _ _).drew hb0) hb1).mono hbel.size)⟩
   ·have hst2 :Hid (A1 (Ce (l.map TabD.name)) k (l.length - 1 - k) =A1 (Ce (l.map TabD.name)) (k+1) (l.length - 1 - (k+1))) :=by show _=_;rw [hst.out,hq];rfl
    clear hst
    go_wp2_with fail
    go_region_held3 (fun w'=>w'.cell? ⟨b,off+k*2,none⟩ =some (.string x.name) ∧w'.cell? ⟨b,off+k*2+1,none⟩ =some (.slice so0 x.cols.length sc0) ∧w'.cell? ⟨b,off+ (k+1) *2,none⟩ =some (.string y.name) ∧w'.cell? ⟨b,off+ (k+1) *2+1,none⟩ =some (.slice so1 y.cols.length sc1)) (first | assumption | exact S0)
     (first | (go_at_call_of 41 (Value.agg #[.string x.name, .slice so0 x.cols.length sc0]);go_fit (D6 x.name so0 x.cols.length sc0 _);rintro r0 w2 ⟨rfl,hb0⟩;have S1 :=Gd (W :=wr.drew) S0 hb0 hb;have z1 :=Nat.lt_of_lt_of_le hb hb0.size) | (go_at_call_of 41 (Value.agg #[.string y.name, .slice so1 y.cols.length sc1]);go_fit (D6 y.name so1 y.cols.length sc1 _);rintro r1 w3 ⟨rfl,hb1⟩;have S2 :=Gd S1 hb1 z1;have z2 :=Nat.lt_of_lt_of_le z1 hb1.size))
    go_wp2
    go_roundw
    case rel=>exact ⟨k+1,by omega,by go_num,hbel.trans ((Ak (Ak (Below.refl _ _).drew hb0) hb1).mono hbel.size),HP.out.trans hst2.out⟩
    case measure=>simp [intOf];omega
  ·have HE :Hid (A1 (Ce (l.map TabD.name)) k (l.length - 1 - k) =false) :=by show _=_;rw [show l.length - 1 - k=0 from by omega];rfl
   have k1 : ¬ (k :Int) +1< (l.length :Int) :=by omega
   go_wp2
   go_ret
   exact ⟨Aj (by rw [E.out,HP.out,HE.out];rfl),hbel⟩
theorem Ge {W W' :World} {b off k :Nat} {a0 a1 a2 a3 a4 a5 :Value} (h :W.cell? ⟨b,off+k*3,none⟩ =some a0∧W.cell? ⟨b,off+k*3+1,none⟩ =some a1∧W.cell? ⟨b,off+k*3+2,none⟩ =some a2∧W.cell? ⟨b,off+ (k+1) *3,none⟩ =some a3∧W.cell? ⟨b,off+ (k+1) *3+1,none⟩ =some a4∧W.cell? ⟨b,off+ (k+1) *3+2,none⟩ =some a5) (hb :Below W.heap.size W W') (hl :b<W.heap.size) :W'.cell? ⟨b,off+k*3,none⟩ =some a0∧W'.cell? ⟨b,off+k*3+1,none⟩ =some a1∧W'.cell? ⟨b,off+k*3+2,none⟩ =some a2∧W'.cell? ⟨b,off+ (k+1) *3,none⟩ =some a3∧W'.cell? ⟨b,off+ (k+1) *3+1,none⟩ =some a4∧W'.cell? ⟨b,off+ (k+1) *3+2,none⟩ =some a5 :=by
 have kc : ∀o,W'.cell? ⟨b,o,none⟩ =W.cell? ⟨b,o,none⟩ :=fun o=>hb.cell (p := ⟨b,o,none⟩) hl
 obtain ⟨h0,h1,h2,h3,h4,h5⟩ :=h
 exact ⟨(kc _).trans h0,(kc _).trans h1,(kc _).trans h2,(kc _).trans h3,(kc _).trans h4,(kc _).trans h5⟩
set_option maxRecDepth 100000 in
set_option maxHeartbeats 4000000 in
theorem Xn (l :List IdxD) (sv :Value) (C :Nat) (w :World) (hl :IsL B7 (fun k=>k<C) w sv l) (hC :C≤w.heap.size) :
  Calls Tryz.prog 70 #[sv, .func (.func 43) #[] #[]] w fun e w'=>e= .returned (.bool (D3 (l.map IdxD.name))) ∧Below w.heap.size w w' :=by
 obtain ⟨ao,c,rfl⟩ :=hl.shape
 have hlm := (Bj hl).2
 unfold maxLen at hlm
 have E :Hid (D3 (l.map IdxD.name) = !A1 (Ce (l.map IdxD.name)) 0 (l.length - 1)) :=by show _=_;rw [D3,List.length_map]
 generalize D3 (l.map IdxD.name) =r at E
 go_enter Tryz.func70,Tryz.ntmps70
 go_wp2
 go_loopw [5] (fun i wr=> ∃k :Nat,k≤l.length - 1∧i= .int .i64 ((k :Int) +1) ∧Below w.heap.size w wr∧Hid (A1 (Ce (l.map IdxD.name)) 0 (l.length - 1) =A1 (Ce (l.map IdxD.name)) k (l.length - 1 - k))) (fun i _=>l.length - (intOf i).toNat)
 case atStart=>exact ⟨0,Nat.zero_le _,rfl,Below.refl _ _,rfl⟩
 case round=>
  obtain ⟨k,hk,rfl,hbel,HP⟩ :=hrel
  by_cases hlt :k+1<l.length
  ·obtain ⟨x,hx⟩ : ∃x,l[k]? =some x := ⟨_,List.getElem?_eq_getElem (by omega)⟩
   obtain ⟨y,hy⟩ : ∃y,l[k+1]? =some y := ⟨_,List.getElem?_eq_getElem hlt⟩
   have hlr :=hl.keep (Ag (hbel.mono hC))
   obtain ⟨b,off,cs0,rfl,_,hb,hR0,hcell0⟩ :=Av hlr hx
   obtain ⟨b',off',cs1,hbe,_,_,hR1,hcell1⟩ :=Av hlr hy
   simp only [Option.some.injEq,Addr.mk.injEq,and_true] at hbe
   obtain ⟨rfl,rfl⟩ :=hbe
   obtain rfl :=hR0
   obtain rfl :=hR1
   have d0 :=hcell0 0 _ rfl
   have d1 :=hcell0 1 _ rfl
   have d2 :=hcell0 2 _ rfl
   have e0 :=hcell1 0 _ rfl
   have e1 :=hcell1 1 _ rfl
   have e2 :=hcell1 2 _ rfl
   simp only [B7,Nat.add_zero] at d0 d1 d2 e0 e1 e2
   have hst :Hid (A1 (Ce (l.map IdxD.name)) k (l.length - 1 - k) = (!Op.bytesLess x.name.toList y.name.toList || A1 (Ce (l.map IdxD.name)) (k+1) (l.length - 1 - (k+1)))) :=by
    show _=_
    rw [O8 _ k _ (by omega),Ce,List.getElem?_map,List.getElem?_map,hx,hy]
    rfl
   have k0 : (0 :Int) ≤ (k :Int) +1 :=by omega
   have k1 : (k :Int) +1< (l.length :Int) :=by omega
   have k2 :wrap64 ((k :Int) +1 - 1) = (k :Int) :=by unfold wrap64;omega
   have k3 : (0 :Int) ≤ (k :Int) :=by omega
   have k4 : (k :Int) < (l.length :Int) :=by omega
   have k5 : ((k :Int) +1).toNat=k+1 :=by omega
   have k6 :IntKind.i64.wrap (k :Int) = (k :Int) :=by rw [IntKind.wrap_i64];omega
   have S0 := (show wr.cell? ⟨b,off+k*3,none⟩ =some (.string x.name) ∧wr.cell? ⟨b,off+k*3+1,none⟩ =some (.string x.table) ∧wr.cell? ⟨b,off+k*3+2,none⟩ =some (.string x.col) ∧wr.cell? ⟨b,off+ (k+1) *3,none⟩ =some (.string y.name) ∧wr.cell? ⟨b,off+ (k+1) *3+1,none⟩ =some (.string y.table) ∧wr.cell? ⟨b,off+ (k+1) *3+2,none⟩ =some (.string y.col) from ⟨d0,d1,d2,e0,e1,e2⟩)
   clear hcell0 hcell1 hx hy hlr
   cases hq :Op.bytesLess x.name.toList y.name.toList
   ·have hst2 :Hid (A1 (Ce (l.map IdxD.name)) k (l.length - 1 - k) =true) :=by show _=_;rw [hst.out,hq];rfl
    clear hst
    go_wp2_with fail
    go_region_held3 (fun w'=>w'.cell? ⟨b,off+k*3,none⟩ =some (.string x.name) ∧w'.cell? ⟨b,off+k*3+1,none⟩ =some (.string x.table) ∧w'.cell? ⟨b,off+k*3+2,none⟩ =some (.string x.col) ∧w'.cell? ⟨b,off+ (k+1) *3,none⟩ =some (.string y.name) ∧w'.cell? ⟨b,off+ (k+1) *3+1,none⟩ =some (.string y.table) ∧w'.cell? ⟨b,off+ (k+1) *3+2,none⟩ =some (.string y.col)) (first | assumption | exact S0)
     (first | (go_at_call_of 43 (Value.agg #[.string x.name, .string x.table, .string x.col]);go_fit (D7 x.name x.table x.col _);rintro r0 w2 ⟨rfl,hb0⟩;have S1 :=Ge (W :=wr.drew) S0 hb0 hb;have z1 :=Nat.lt_of_lt_of_le hb hb0.size) | (go_at_call_of 43 (Value.agg #[.string y.name, .string y.table, .string y.col]);go_fit (D7 y.name y.table y.col _);rintro r1 w3 ⟨rfl,hb1⟩;have S2 :=Ge S1 hb1 z1;have z2 :=Nat.lt_of_lt_of_le z1 hb1.size))
    go_wp2
    go_ret
    exact ⟨Aj (by rw [E.out,HP.out,hst2.out];rfl),hbel.trans ((Ak (Ak (Below.refl _ _).drew hb0) hb1).mono hbel.size)⟩
   ·have hst2 :Hid (A1 (Ce (l.map IdxD.name)) k (l.length - 1 - k) =A1 (Ce (l.map IdxD.name)) (k+1) (l.length - 1 - (k+1))) :=by show _=_;rw [hst.out,hq];rfl
    clear hst
    go_wp2_with fail
    go_region_held3 (fun w'=>w'.cell? ⟨b,off+k*3,none⟩ =some (.string x.name) ∧w'.cell? ⟨b,off+k*3+1,none⟩ =some (.string x.table) ∧w'.cell? ⟨b,off+k*3+2,none⟩ =some (.string x.col) ∧w'.cell? ⟨b,off+ (k+1) *3,none⟩ =some (.string y.name) ∧w'.cell? ⟨b,off+ (k+1) *3+1,none⟩ =some (.string y.table) ∧w'.cell? ⟨b,off+ (k+1) *3+2,none⟩ =some (.string y.col)) (first | assumption | exact S0)
     (first | (go_at_call_of 43 (Value.agg #[.string x.name, .string x.table, .string x.col]);go_fit (D7 x.name x.table x.col _);rintro r0 w2 ⟨rfl,hb0⟩;have S1 :=Ge (W :=wr.drew) S0 hb0 hb;have z1 :=Nat.lt_of_lt_of_le hb hb0.size) | (go_at_call_of 43 (Value.agg #[.string y.name, .string y.table, .string y.col]);go_fit (D7 y.name y.table y.col _);rintro r1 w3 ⟨rfl,hb1⟩;have S2 :=Ge S1 hb1 z1;have z2 :=Nat.lt_of_lt_of_le z1 hb1.size))
    go_wp2
    go_roundw
    case rel=>exact ⟨k+1,by omega,by go_num,hbel.trans ((Ak (Ak (Below.refl _ _).drew hb0) hb1).mono hbel.size),HP.out.trans hst2.out⟩
    case measure=>simp [intOf];omega
  ·have HE :Hid (A1 (Ce (l.map IdxD.name)) k (l.length - 1 - k) =false) :=by show _=_;rw [show l.length - 1 - k=0 from by omega];rfl
   have k1 : ¬ (k :Int) +1< (l.length :Int) :=by omega
   go_wp2
   go_ret
   exact ⟨Aj (by rw [E.out,HP.out,HE.out];rfl),hbel⟩
end Go.Proofs.YtmgkcjiejmhgcaaGreatDoor

namespace Go.Proofs.YtmgkcjiejmhgcaaGreatDoor
open Go.RowKit
set_option maxRecDepth 100000 in
set_option maxHeartbeats 2000000 in
theorem M0 (l :List (TabD)) (F :Nat→Prop) (ao :Option Addr) (n c :Nat) (p :Nat→Bool) (St :Nat→World→Prop) (En :World→Prop) (w :World) (hEn : ∀i W,St i W→En W) (hIs : ∀i W,St i W→IsL A4 F W (.slice ao n c) l)
  (hcall : ∀i x cs W,l[i]? =some x→St i W→A4.R F W x cs→Calls Tryz.prog 64 #[.agg cs.toArray] W fun e W'=>e= .returned (.bool (p i)) ∧En W'∧ (p i=false→St (i+1) W')) (h0 :St 0 w) :
  Calls Tryz.prog 38 #[.slice ao n c, .func (.func 64) #[] #[]] w fun e W'=>e= .returned (.int .i64 (Al p 0 l.length)) ∧En W' :=by
 obtain ⟨hn,hlm⟩ :=Bj (hIs 0 w h0)
 subst hn
 unfold maxLen at hlm
 go_enter Tryz.func38,Tryz.ntmps38
 go_wp2
 go_loopw [8] (fun i wr=> ∃k :Nat,k≤l.length∧i= .int .i64 k∧St k wr∧Hid (Al p 0 l.length=Al p k (l.length - k))) (fun i _=>l.length - (intOf i).toNat)
 case atStart=>exact ⟨0,Nat.zero_le _,rfl,h0,rfl⟩
 case round=>
  obtain ⟨k,hk,rfl,hSt,HP⟩ :=hrel
  by_cases hlt :k<l.length
  ·obtain ⟨x,hx⟩ : ∃x,l[k]? =some x := ⟨_,List.getElem?_eq_getElem hlt⟩
   obtain ⟨b,off,cs,rfl,_,hb,hR,hcell⟩ :=Av (hIs k wr hSt) hx
   have HC :=hcall k x cs wr hx hSt hR
   obtain ⟨sv,rfl,hsv⟩ :=hR
   obtain ⟨ao1,c1,rfl⟩ :=hsv.shape
   have d0 :=hcell 0 _ rfl
   have d1 :=hcell 1 _ rfl
   simp only [A4,Nat.add_zero] at d0 d1
   have k0 : (0 :Int) ≤ (k :Int) :=by omega
   have k1 : (k :Int) < (l.length :Int) :=by omega
   have hst :Hid (Al p k (l.length - k) =if p k then (k :Int) else Al p (k+1) (l.length - (k+1))) :=Ch p k l.length hlt
   clear hcell hx
   generalize hq :p k=q at HC hst
   clear hq
   cases q
   ·go_wp2_with (go_at_call 64;go_must (go_fit HC;rintro e W' ⟨rfl,_,hS1⟩))
    go_roundw
    case rel=>exact ⟨k+1,by omega,by go_num,hS1 (by first | rfl | trivial),by rw [HP.out,hst.out];rfl⟩
    case measure=>simp [intOf];omega
   ·go_wp2_with (go_at_call 64;go_must (go_fit HC;rintro e W' ⟨rfl,hS1,_⟩))
    go_ret
    exact ⟨A6 (by rw [HP.out,hst.out];rfl),hS1⟩
  ·have HE :Hid (Al p k (l.length - k) = -1) :=by show _=_;rw [show l.length - k=0 from by omega,Al]
   go_wp2
   go_ret
   exact ⟨A6 (by rw [HP.out,HE.out]),hEn k _ hSt⟩
set_option maxHeartbeats 2000000 in
theorem Kx (l :List (TabD)) (F :Nat→Prop) (ao :Option Addr) (n c :Nat) (p :Nat→Bool) (St :Nat→World→Prop) (En :World→Prop) (w :World) (hEn : ∀i W,St i W→En W) (hIs : ∀i W,St i W→IsL A4 F W (.slice ao n c) l)
  (hcall : ∀i x cs W,l[i]? =some x→St i W→A4.R F W x cs→Calls Tryz.prog 64 #[.agg cs.toArray] W fun e W'=>e= .returned (.bool (p i)) ∧En W'∧ (p i=false→St (i+1) W')) (h0 :St 0 w) :
  Calls Tryz.prog 65 #[.slice ao n c, .func (.func 64) #[] #[]] w fun e W'=>e= .returned (.bool (A1 p 0 l.length)) ∧En W' :=by
 have HI :=M0 l F ao n c p St En w hEn hIs hcall h0
 have HA :Hid (A1 p 0 l.length=decide (0≤Al p 0 l.length)) :=D5 p l.length 0
 generalize A1 p 0 l.length=r at HA
 generalize Al p 0 l.length=q at HI HA
 clear hIs hcall h0 hEn
 go_enter Tryz.func65,Tryz.ntmps65
 go_wp2_with (go_at_call 38;go_must (go_fit HI;rintro e W' ⟨rfl,hS1⟩))
 go_ret
 exact ⟨Aj (by rw [HA.out]),hS1⟩
set_option maxRecDepth 100000 in
set_option maxHeartbeats 2000000 in
theorem Mk (l :List (IdxD)) (F :Nat→Prop) (ao :Option Addr) (n c :Nat) (f0 :Value) (p :Nat→Bool) (St :Nat→World→Prop) (En :World→Prop) (w :World) (hEn : ∀i W,St i W→En W) (hIs : ∀i W,St i W→IsL B7 F W (.slice ao n c) l)
  (hcall : ∀i x cs W,l[i]? =some x→St i W→B7.R F W x cs→Calls Tryz.prog 67 #[.agg cs.toArray,f0] W fun e W'=>e= .returned (.bool (p i)) ∧En W'∧ (p i=false→St (i+1) W')) (h0 :St 0 w) :
  Calls Tryz.prog 110 #[.slice ao n c, .func (.func 67) #[] #[f0]] w fun e W'=>e= .returned (.int .i64 (Al p 0 l.length)) ∧En W' :=by
 obtain ⟨hn,hlm⟩ :=Bj (hIs 0 w h0)
 subst hn
 unfold maxLen at hlm
 go_enter Tryz.func110,Tryz.ntmps110
 go_wp2
 go_loopw [8] (fun i wr=> ∃k :Nat,k≤l.length∧i= .int .i64 k∧St k wr∧Hid (Al p 0 l.length=Al p k (l.length - k))) (fun i _=>l.length - (intOf i).toNat)
 case atStart=>exact ⟨0,Nat.zero_le _,rfl,h0,rfl⟩
 case round=>
  obtain ⟨k,hk,rfl,hSt,HP⟩ :=hrel
  by_cases hlt :k<l.length
  ·obtain ⟨x,hx⟩ : ∃x,l[k]? =some x := ⟨_,List.getElem?_eq_getElem hlt⟩
   obtain ⟨b,off,cs,rfl,_,hb,hR,hcell⟩ :=Av (hIs k wr hSt) hx
   have HC :=hcall k x cs wr hx hSt hR
   obtain rfl :=hR
   have d0 :=hcell 0 _ rfl
   have d1 :=hcell 1 _ rfl
   have d2 :=hcell 2 _ rfl
   simp only [B7,Nat.add_zero] at d0 d1 d2
   have k0 : (0 :Int) ≤ (k :Int) :=by omega
   have k1 : (k :Int) < (l.length :Int) :=by omega
   have hst :Hid (Al p k (l.length - k) =if p k then (k :Int) else Al p (k+1) (l.length - (k+1))) :=Ch p k l.length hlt
   clear hcell hx
   generalize hq :p k=q at HC hst
   clear hq
   cases q
   ·go_wp2_with (go_at_call 67;go_must (go_fit HC;rintro e W' ⟨rfl,_,hS1⟩))
    go_roundw
    case rel=>exact ⟨k+1,by omega,by go_num,hS1 (by first | rfl | trivial),by rw [HP.out,hst.out];rfl⟩
    case measure=>simp [intOf];omega
   ·go_wp2_with (go_at_call 67;go_must (go_fit HC;rintro e W' ⟨rfl,hS1,_⟩))
    go_ret
    exact ⟨A6 (by rw [HP.out,hst.out];rfl),hS1⟩
  ·have HE :Hid (Al p k (l.length - k) = -1) :=by show _=_;rw [show l.length - k=0 from by omega,Al]
   go_wp2
   go_ret
   exact ⟨A6 (by rw [HP.out,HE.out]),hEn k _ hSt⟩
set_option maxHeartbeats 2000000 in
theorem J2 (l :List (IdxD)) (F :Nat→Prop) (ao :Option Addr) (n c :Nat) (f0 :Value) (p :Nat→Bool) (St :Nat→World→Prop) (En :World→Prop) (w :World) (hEn : ∀i W,St i W→En W) (hIs : ∀i W,St i W→IsL B7 F W (.slice ao n c) l)
  (hcall : ∀i x cs W,l[i]? =some x→St i W→B7.R F W x cs→Calls Tryz.prog 67 #[.agg cs.toArray,f0] W fun e W'=>e= .returned (.bool (p i)) ∧En W'∧ (p i=false→St (i+1) W')) (h0 :St 0 w) :
  Calls Tryz.prog 69 #[.slice ao n c, .func (.func 67) #[] #[f0]] w fun e W'=>e= .returned (.bool (A1 p 0 l.length)) ∧En W' :=by
 have HI :=Mk l F ao n c f0 p St En w hEn hIs hcall h0
 have HA :Hid (A1 p 0 l.length=decide (0≤Al p 0 l.length)) :=D5 p l.length 0
 generalize A1 p 0 l.length=r at HA
 generalize Al p 0 l.length=q at HI HA
 clear hIs hcall h0 hEn
 go_enter Tryz.func69,Tryz.ntmps69
 go_wp2_with (go_at_call 110;go_must (go_fit HI;rintro e W' ⟨rfl,hS1⟩))
 go_ret
 exact ⟨Aj (by rw [HA.out]),hS1⟩
set_option maxRecDepth 100000 in
set_option maxHeartbeats 2000000 in
theorem Qb (l :List (IdxD)) (F :Nat→Prop) (ao :Option Addr) (n c :Nat) (f0 :Value) (p :Nat→Bool) (St :Nat→World→Prop) (En :World→Prop) (w :World) (hEn : ∀i W,St i W→En W) (hIs : ∀i W,St i W→IsL B7 F W (.slice ao n c) l)
  (hcall : ∀i x cs W,l[i]? =some x→St i W→B7.R F W x cs→Calls Tryz.prog 95 #[.agg cs.toArray,f0] W fun e W'=>e= .returned (.bool (p i)) ∧En W'∧ (p i=false→St (i+1) W')) (h0 :St 0 w) :
  Calls Tryz.prog 110 #[.slice ao n c, .func (.func 95) #[] #[f0]] w fun e W'=>e= .returned (.int .i64 (Al p 0 l.length)) ∧En W' :=by
 obtain ⟨hn,hlm⟩ :=Bj (hIs 0 w h0)
 subst hn
 unfold maxLen at hlm
 go_enter Tryz.func110,Tryz.ntmps110
 go_wp2
 go_loopw [8] (fun i wr=> ∃k :Nat,k≤l.length∧i= .int .i64 k∧St k wr∧Hid (Al p 0 l.length=Al p k (l.length - k))) (fun i _=>l.length - (intOf i).toNat)
 case atStart=>exact ⟨0,Nat.zero_le _,rfl,h0,rfl⟩
 case round=>
  obtain ⟨k,hk,rfl,hSt,HP⟩ :=hrel
  by_cases hlt :k<l.length
  ·obtain ⟨x,hx⟩ : ∃x,l[k]? =some x := ⟨_,List.getElem?_eq_getElem hlt⟩
   obtain ⟨b,off,cs,rfl,_,hb,hR,hcell⟩ :=Av (hIs k wr hSt) hx
   have HC :=hcall k x cs wr hx hSt hR
   obtain rfl :=hR
   have d0 :=hcell 0 _ rfl
   have d1 :=hcell 1 _ rfl
   have d2 :=hcell 2 _ rfl
   simp only [B7,Nat.add_zero] at d0 d1 d2
   have k0 : (0 :Int) ≤ (k :Int) :=by omega
   have k1 : (k :Int) < (l.length :Int) :=by omega
   have hst :Hid (Al p k (l.length - k) =if p k then (k :Int) else Al p (k+1) (l.length - (k+1))) :=Ch p k l.length hlt
   clear hcell hx
   generalize hq :p k=q at HC hst
   clear hq
   cases q
   ·go_wp2_with (go_at_call 95;go_must (go_fit HC;rintro e W' ⟨rfl,_,hS1⟩))
    go_roundw
    case rel=>exact ⟨k+1,by omega,by go_num,hS1 (by first | rfl | trivial),by rw [HP.out,hst.out];rfl⟩
    case measure=>simp [intOf];omega
   ·go_wp2_with (go_at_call 95;go_must (go_fit HC;rintro e W' ⟨rfl,hS1,_⟩))
    go_ret
    exact ⟨A6 (by rw [HP.out,hst.out];rfl),hS1⟩
  ·have HE :Hid (Al p k (l.length - k) = -1) :=by show _=_;rw [show l.length - k=0 from by omega,Al]
   go_wp2
   go_ret
   exact ⟨A6 (by rw [HP.out,HE.out]),hEn k _ hSt⟩
set_option maxHeartbeats 2000000 in
theorem M1 (l :List (IdxD)) (F :Nat→Prop) (ao :Option Addr) (n c :Nat) (f0 :Value) (p :Nat→Bool) (St :Nat→World→Prop) (En :World→Prop) (w :World) (hEn : ∀i W,St i W→En W) (hIs : ∀i W,St i W→IsL B7 F W (.slice ao n c) l)
  (hcall : ∀i x cs W,l[i]? =some x→St i W→B7.R F W x cs→Calls Tryz.prog 95 #[.agg cs.toArray,f0] W fun e W'=>e= .returned (.bool (p i)) ∧En W'∧ (p i=false→St (i+1) W')) (h0 :St 0 w) :
  Calls Tryz.prog 69 #[.slice ao n c, .func (.func 95) #[] #[f0]] w fun e W'=>e= .returned (.bool (A1 p 0 l.length)) ∧En W' :=by
 have HI :=Qb l F ao n c f0 p St En w hEn hIs hcall h0
 have HA :Hid (A1 p 0 l.length=decide (0≤Al p 0 l.length)) :=D5 p l.length 0
 generalize A1 p 0 l.length=r at HA
 generalize Al p 0 l.length=q at HI HA
 clear hIs hcall h0 hEn
 go_enter Tryz.func69,Tryz.ntmps69
 go_wp2_with (go_at_call 110;go_must (go_fit HI;rintro e W' ⟨rfl,hS1⟩))
 go_ret
 exact ⟨Aj (by rw [HA.out]),hS1⟩
end Go.Proofs.YtmgkcjiejmhgcaaGreatDoor

namespace Go.Proofs.YtmgkcjiejmhgcaaGreatDoor
open Go.RowKit Go.Maps
def Lb :List ColD→Bool
 | x ::_=>x.must
 | [] =>false
def Cv (t :TabD) :Bool :=nm t.name&&decide (1≤t.cols.length) &&decide (t.cols.length≤4) &&Lb t.cols&&Ii t.cols
def Js (t :TabD) :Prop :=t.name.size≤maxLen∧Ma t.cols
set_option maxRecDepth 100000 in
set_option maxHeartbeats 4000000 in
theorem Ib (t :TabD) (sv :Value) (C :Nat) (w :World) (hl :IsL Bg (fun k=>k<C) w sv t.cols) (hC :C≤w.heap.size) (hf :Js t) :
  Calls Tryz.prog 13 #[.agg #[.string t.name,sv]] w fun e w'=>e= .returned (.bool (Cv t)) ∧Below w.heap.size w w' :=by
 obtain ⟨name,cols⟩ :=t
 simp only at hl⊢
 obtain ⟨ao,c,rfl⟩ :=hl.shape
 have hN :=fun w=>Gl name w hf.1
 have hbx :=Aq w (.cells #[.string name, .slice ao cols.length c] 47)
 have hG :=fun (h :cols.length≤16777215) =>Qs cols (.slice ao cols.length c) C (w.alloc (.cells #[.string name, .slice ao cols.length c] 47)) (hl.keep (Ag (hbx.mono hC))) (Nat.le_trans hC hbx.size) hf.2 h
 have E :Hid (Cv ⟨name,cols⟩ = (nm name&&decide (1≤cols.length) &&decide (cols.length≤4) &&Lb cols&&Ii cols)) :=rfl
 generalize Cv ⟨name,cols⟩ =r at E
 generalize nm name=b at hN E
 generalize Ii cols=g at hG E
 have hlm := (Bj hl).2
 cases b
 ·clear hl hG hf
  go_enter Tryz.func13,Tryz.ntmps13
  go_wp2_with (go_at_call 34;go_fit (hN _);rintro e w1 ⟨rfl,rfl⟩)
  go_ret
  exact ⟨Aj (by rw [E.out];rfl),hbx⟩
 by_cases h1 :1≤cols.length
 rotate_left
 ·have q1 : ¬ (1 :Int) ≤ (cols.length :Int) :=by omega
  have E2 :Hid (r=false) :=by show _=_;rw [E.out];simp [h1]
  clear hl hG hf E
  go_enter Tryz.func13,Tryz.ntmps13
  go_wp2_with (go_at_call 34;go_fit (hN _);rintro e w1 ⟨rfl,rfl⟩)
  go_ret
  exact ⟨Aj (by rw [E2.out]),hbx⟩
 by_cases h4 :cols.length≤4
 rotate_left
 ·have q1 : (1 :Int) ≤ (cols.length :Int) :=by omega
  have q2 : ¬ (cols.length :Int) ≤4 :=by omega
  have E2 :Hid (r=false) :=by show _=_;rw [E.out];simp [h4]
  clear hl hG hf E
  go_enter Tryz.func13,Tryz.ntmps13
  go_wp2_with (go_at_call 34;go_fit (hN _);rintro e w1 ⟨rfl,rfl⟩)
  go_ret
  exact ⟨Aj (by rw [E2.out]),hbx⟩
 obtain ⟨x,hx⟩ : ∃x,cols[0]? =some x := ⟨_,List.getElem?_eq_getElem (by omega)⟩
 obtain ⟨b,off,cs,rfl,_,hb,hR,hcell⟩ :=Av (hl.keep (Ag (hbx.mono hC))) hx
 obtain rfl :=hR
 have d2 :=hcell 2 _ rfl
 simp only [Bg,Nat.zero_mul,Nat.add_zero] at d2
 have hm :Lb cols=x.must :=by
  match cols,hx with
  | y ::r,hx=>simp at hx;subst hx;rfl
 have q1 : (1 :Int) ≤ (cols.length :Int) :=by omega
 have q2 : (cols.length :Int) ≤4 :=by omega
 have q3 : (0 :Int) < (cols.length :Int) :=by omega
 have HG :=hG (by omega)
 have E2 :Hid (r= (x.must&&g)) :=by show _=_;rw [E.out,hm];simp [h1,h4]
 clear hl hG hf E hm hx hcell
 generalize x.must=m at d2 E2
 cases m
 ·go_enter Tryz.func13,Tryz.ntmps13
  go_wp2_with (go_at_call 34;go_fit (hN _);rintro e w1 ⟨rfl,rfl⟩)
  go_ret
  exact ⟨Aj (by rw [E2.out];rfl),hbx⟩
 ·go_enter Tryz.func13,Tryz.ntmps13
  go_wp2_with (first | (go_at_call 34;go_fit (hN _);rintro e w1 ⟨rfl,rfl⟩) | (go_at_call 35;go_fit HG;rintro e w2 ⟨rfl,hb2⟩))
  go_ret
  exact ⟨Aj (by rw [E2.out];simp),Ak hbx hb2⟩
set_option maxHeartbeats 1000000 in
theorem Nt (t :TabD) (sv :Value) (C :Nat) (w :World) (hl :IsL Bg (fun k=>k<C) w sv t.cols) (hC :C≤w.heap.size) (hf :Js t) :
  Calls Tryz.prog 64 #[.agg #[.string t.name,sv]] w fun e w'=>e= .returned (.bool (!Cv t)) ∧Below w.heap.size w w' :=by
 obtain ⟨ao,c,rfl⟩ :=hl.shape
 have hbx :=Aq w (.cells #[.string t.name, .slice ao t.cols.length c] 47)
 have HG :=Ib t (.slice ao t.cols.length c) C _ (hl.keep (Ag (hbx.mono hC))) (Nat.le_trans hC hbx.size) hf
 generalize Cv t=r at HG
 clear hl hf
 go_enter Tryz.func64,Tryz.ntmps64
 go_wp2_with (go_at_call 13;go_fit HG;rintro e w2 ⟨rfl,hb2⟩)
 go_ret
 exact ⟨rfl,Ak hbx hb2⟩
def Ij (T :List TabD) :Bool := !A1 (atI T fun t=> !Cv t) 0 T.length&&D3 (T.map TabD.name)
def Tl (T :List TabD) :Prop := ∀t∈T,Js t
set_option maxRecDepth 100000 in
set_option maxHeartbeats 2000000 in
theorem On (T :List TabD) (sv :Value) (C :Nat) (w :World) (hl :IsL A4 (fun k=>k<C) w sv T) (hC :C≤w.heap.size) (hf :Tl T) :
  Calls Tryz.prog 32 #[sv] w fun e w'=>e= .returned (.bool (Ij T)) ∧Below w.heap.size w w' :=by
 obtain ⟨ao,c,rfl⟩ :=hl.shape
 have HC :=Kx T (fun k=>k<C) ao T.length c (atI T fun t=> !Cv t) (fun _ W=>Below w.heap.size w W) (fun W=>Below w.heap.size w W) w (fun i W h=>h) (fun i W h=>hl.keep (Ag (h.mono hC)))
  (by
   rintro i x cs W hx h1 ⟨sv,rfl,hsv⟩
   refine (Nt x sv C W hsv (Nat.le_trans hC h1.size) (hf x (List.mem_of_getElem? hx))).mono ?_
   rintro e W' ⟨rfl,hb⟩
   exact ⟨by rw [Cn hx],h1.trans (hb.mono h1.size),fun _=>h1.trans (hb.mono h1.size)⟩)
  (Below.refl _ _)
 have HR :=fun w' (h :Below w.heap.size w w') =>Xm T (.slice ao T.length c) C w' (hl.keep (Ag (h.mono hC))) (Nat.le_trans hC h.size)
 have E :Hid (Ij T= (!A1 (atI T fun t=> !Cv t) 0 T.length&&D3 (T.map TabD.name))) :=rfl
 generalize Ij T=r at E
 generalize A1 (atI T fun t=> !Cv t) 0 T.length=q at E HC
 generalize D3 (T.map TabD.name) =r2 at E HR
 clear hl hf
 cases q
 ·go_enter Tryz.func32,Tryz.ntmps32
  go_wp2_with (first | (go_at_call 65;go_fit HC;rintro e w1 ⟨rfl,hb1⟩) | (go_at_call 66;go_fit (HR _ hb1);rintro e w2 ⟨rfl,hb2⟩))
  go_ret
  exact ⟨Aj (by rw [E.out];rfl),Ak hb1 hb2⟩
 ·go_enter Tryz.func32,Tryz.ntmps32
  go_wp2_with (first | (go_at_call 65;go_fit HC;rintro e w1 ⟨rfl,hb1⟩))
  go_ret
  exact ⟨Aj (by rw [E.out];rfl),hb1⟩
end Go.Proofs.YtmgkcjiejmhgcaaGreatDoor


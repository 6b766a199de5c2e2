/-
  3 texts of this proof in one, in build order: KRef, BOnly, BBindR.
-/
import Derived.Deep.Cut
import Derived.Deep.RegionHeld3
import Derived.Test.YtmgkcjiejmhgcaaGreatDoorJ03
import Derived.Test.YtmgkcjiejmhgcaaGreatDoorJ14
import Derived.Test.YtmgkcjiejmhgcaaGreatDoorJ26
import Derived.Test.YtmgkcjiejmhgcaaGreatDoorJ29
set_option linter.unusedSimpArgs false
set_option linter.unusedVariables false
namespace Go.Proofs.YtmgkcjiejmhgcaaGreatDoor
open Go.RowKit
theorem Fn {p :Prop} (h :p) :Hid p :=id h
theorem Wj {p :Nat→Bool} {n k :Nat} (hk :k<n) (hp :p k=true) (hb : ∀j,j<k→p j=false) :Al p 0 n= (k :Int) :=by
 rcases F5 p n 0 with ⟨h1,h2⟩ | ⟨m,_,h2,h3,h4,h5⟩
 ·have :=h2 k (Nat.zero_le _) (by omega);rw [hp] at this;cases this
 ·rcases Nat.lt_trichotomy m k with h | h | h
  ·have :=hb m h;rw [h4] at this;cases this
  ·rw [h3,h]
  ·have :=h5 k (Nat.zero_le _) h;rw [hp] at this;cases this
theorem S9 {p :Nat→Bool} {n :Nat} (hb : ∀j,j<n→p j=false) :Al p 0 n= -1 :=by
 rcases F5 p n 0 with ⟨h1,_⟩ | ⟨m,_,h2,_,h4,_⟩
 ·exact h1
 ·have :=hb m (by omega);rw [h4] at this;cases this
set_option maxHeartbeats 2000000 in
theorem H9 (l :List ColD) (nmv :Wd) (sv :Value) (s :Wd) (C :Nat) (w :World) (hl :IsL Bg (fun k=>k<C) w sv l) :
  Calls Tryz.prog 16 #[.agg #[.string nmv,sv], .string s] w fun e w'=>e= .returned (.int .i64 (Bk l s)) ∧Below w.heap.size w w' :=by
 obtain ⟨ao,c,rfl⟩ :=hl.shape
 have hlm := (Bj hl).2
 unfold maxLen at hlm
 have hb1 :=Aq w (.cells #[.string nmv, .slice ao l.length c] 47)
 have bT :=Ab w (.cells #[.string nmv, .slice ao l.length c] 47)
 generalize hW :w.alloc (.cells #[.string nmv, .slice ao l.length c] 47) =W1 at hb1 bT
 have HW :Hid _ :=hW
 clear hW
 have c1 :=Aa bT (j :=1) rfl
 have HL :Hid (∀ (k :Nat) (x :ColD),l[k]? =some x→ ∃b off,ao=some ⟨b,off,none⟩ ∧b<w.heap.size∧w.cell? ⟨b,off+k*3,none⟩ =some (.string x.name)) :=fun k x hx=>by
  obtain ⟨b,off,cs,hso,hbC,hbl,hR1,hcell⟩ :=Av hl hx
  obtain rfl :=hR1
  exact ⟨b,off,hso,hbl,hcell 0 _ rfl⟩
 have E :Hid (Bk l s=Al (atI l fun x=>decide (x.name=s)) 0 l.length) :=rfl
 generalize Bk l s=q at E
 clear hl
 go_enter Tryz.func16,Tryz.ntmps16
 go_upto_region 1 with fail
 rw [HW.out]
 go_wp2
 go_loopw [9] (fun i wr=> ∃k :Nat,k≤l.length∧i= .int .i64 k∧Hid (∀j,j<k→atI l (fun x=>decide (x.name=s)) j=false) ∧Hid (W1=wr)) (fun i _=>l.length - (intOf i).toNat)
 case atStart=>exact ⟨0,Nat.zero_le _,rfl,Fn (fun j h=>absurd h (Nat.not_lt_zero _)),Fn rfl⟩
 case round=>
  obtain ⟨k,hk,rfl,HJ,HWR⟩ :=hrel
  have hwr :=HWR.out
  subst hwr
  clear HWR
  by_cases hlt :k<l.length
  ·obtain ⟨x,hx⟩ : ∃x,l[k]? =some x := ⟨_,List.getElem?_eq_getElem hlt⟩
   obtain ⟨b,off,hso,hbl,g0⟩ :=HL.out k x hx
   cases hso
   have d0 := (hb1.cell (p := ⟨b,off+k*3,none⟩) hbl).trans g0
   have v0 : (0 :Int) ≤ (k :Int) :=by omega
   have v1 : (k :Int) < (l.length :Int) :=by omega
   have HX :Hid (atI l (fun x=>decide (x.name=s)) k=decide (x.name=s)) :=Cn hx
   clear hx g0
   by_cases hs :x.name=s
   ·have hq : (x.name.toList==s.toList) =true :=by rw [Bu];simp [hs]
    have HE :Hid (q= (k :Int)) :=by show _=_;rw [E.out];exact Wj hlt (by rw [HX.out];simp [hs]) HJ.out
    clear hs
    go_wp2
    go_ret
    exact ⟨A6 (by rw [HE.out]),hb1⟩
   ·have hq : (x.name.toList==s.toList) =false :=by rw [Bu];simp [hs]
    have HE :Hid (atI l (fun x=>decide (x.name=s)) k=false) :=by show _=_;rw [HX.out];simp [hs]
    clear hs
    go_wp2
    go_roundw
    case rel=>exact ⟨k+1,by omega,by go_num,Fn (fun j hj=>by rcases Nat.lt_succ_iff_lt_or_eq.1 hj with h | h;exact HJ.out j h;rw [h];exact HE.out),Fn (by first | exact rfl | exact trivial)⟩
    case measure=>simp [intOf];omega
  ·have hkn :k=l.length :=by omega
   subst hkn
   have v1 : ¬ ((l.length :Int) < (l.length :Int)) :=by omega
   go_wp2
   go_ret
   exact ⟨A6 (by rw [E.out,S9 HJ.out]),hb1⟩
theorem Wk {T :List TabD} {s :Wd} {k :Nat} {t :TabD} (ht :T[k]? =some t) (hs :t.name=s) (hb : ∀j,j<k→atI T (fun x=>decide (x.name=s)) j=false) :A5 T s=some t :=by
 unfold A5
 rw [List.find?_eq_some_iff_getElem]
 obtain ⟨hk,he⟩ :=List.getElem?_eq_some_iff.1 ht
 refine ⟨by simp [hs],k,hk,he,fun j hj=> ?_⟩
 have :=hb j hj
 rw [Cn (List.getElem?_eq_getElem (by omega))] at this
 simp [this]
theorem Ta {T :List TabD} {s :Wd} (hb : ∀j,j<T.length→atI T (fun x=>decide (x.name=s)) j=false) :A5 T s=none :=by
 unfold A5
 rw [List.find?_eq_none]
 intro x hx
 obtain ⟨j,hj,rfl⟩ :=List.getElem_of_mem hx
 have :=hb j hj
 rw [Cn (List.getElem?_eq_getElem hj)] at this
 simp [this]
set_option maxHeartbeats 2000000 in
theorem F8 (T :List TabD) (tv iv :Value) (hiv :Dx iv) (s :Wd) (C :Nat) (w :World) (hl :IsL A4 (fun k=>k<C) w tv T) (hC :C≤w.heap.size) :
  Calls Tryz.prog 18 #[.agg #[tv,iv], .string s] w (J1 T s (fun k=>k<C) w) :=by
 obtain ⟨ao,c,rfl⟩ :=hl.shape
 obtain ⟨io,il,ic,rfl⟩ :=hiv
 have hlm := (Bj hl).2
 unfold maxLen at hlm
 have hb1 :=Bz w (.cells #[.slice ao T.length c, .slice io il ic] 25) (.cells #[.string noW, .slice none 0 0] 47)
 have bC :=Ae (Ab w (.cells #[.slice ao T.length c, .slice io il ic] 25)) (.cells #[.string noW, .slice none 0 0] 47)
 have bR :=A0 w (.cells #[.slice ao T.length c, .slice io il ic] 25) (.cells #[.string noW, .slice none 0 0] 47)
 generalize hW : (w.alloc (.cells #[.slice ao T.length c, .slice io il ic] 25)).alloc (.cells #[.string noW, .slice none 0 0] 47) =W1 at hb1 bC bR
 have HW :Hid _ :=hW
 clear hW
 have c0 :=Aa bC (j :=0) rfl
 have r0 :=Aa bR (j :=0) rfl
 have r1 :=Aa bR (j :=1) rfl
 have rf : ∀o,W1.frozen? ⟨w.heap.size+1,o,none⟩ =false :=fun o=>by simp [World.frozen?,bR]
 have HL :Hid (∀ (k :Nat) (x :TabD),T[k]? =some x→ ∃b off so sc,ao=some ⟨b,off,none⟩ ∧b<w.heap.size∧w.cell? ⟨b,off+k*2,none⟩ =some (.string x.name) ∧w.cell? ⟨b,off+k*2+1,none⟩ =some (.slice so x.cols.length sc) ∧IsL Bg (fun k=>k<C) w (.slice so x.cols.length sc) x.cols) :=fun k x hx=>by
  obtain ⟨b,off,cs,hso,hbC,hbl,⟨sv,rfl,hsv⟩,hcell⟩ :=Av hl hx
  obtain ⟨so,sc,rfl⟩ :=hsv.shape
  exact ⟨b,off,so,sc,hso,hbl,hcell 0 _ rfl,hcell 1 _ rfl,hsv⟩
 clear hl
 go_enter Tryz.func18,Tryz.ntmps18
 go_upto_region 1 with fail
 rw [HW.out]
 go_wp2
 go_loopw [10] (fun i wr=> ∃k :Nat,k≤T.length∧i= .int .i64 k∧Hid (∀j,j<k→atI T (fun x=>decide (x.name=s)) j=false) ∧Hid (W1=wr)) (fun i _=>T.length - (intOf i).toNat)
 case atStart=>exact ⟨0,Nat.zero_le _,rfl,Fn (fun j h=>absurd h (Nat.not_lt_zero _)),Fn rfl⟩
 case round=>
  obtain ⟨k,hk,rfl,HJ,HWR⟩ :=hrel
  have hwr :=HWR.out
  subst hwr
  clear HWR
  by_cases hlt :k<T.length
  ·obtain ⟨x,hx⟩ : ∃x,T[k]? =some x := ⟨_,List.getElem?_eq_getElem hlt⟩
   obtain ⟨b,off,so,sc,hso,hbl,g0,g1,hcol⟩ :=HL.out k x hx
   cases hso
   have d0 := (hb1.cell (p := ⟨b,off+k*2,none⟩) hbl).trans g0
   have d1 := (hb1.cell (p := ⟨b,off+k*2+1,none⟩) hbl).trans g1
   have v0 : (0 :Int) ≤ (k :Int) :=by omega
   have v1 : (k :Int) < (T.length :Int) :=by omega
   have HX :Hid (atI T (fun x=>decide (x.name=s)) k=decide (x.name=s)) :=Cn hx
   clear g0 g1
   by_cases hs :x.name=s
   ·have hq : (x.name.toList==s.toList) =true :=by rw [Bu];simp [hs]
    have HE :Hid (A5 T s=some x) :=Wk hx hs HJ.out
    clear hs hx
    go_wp2
    have hbF :Below w.heap.size w ((W1.setCell ⟨w.heap.size+1,0,none⟩ (.string x.name)).setCell ⟨w.heap.size+1,1,none⟩ (.slice so x.cols.length sc)) := (hb1.setCell (show w.heap.size≤w.heap.size+1 by omega) _).setCell (show w.heap.size≤w.heap.size+1 by omega) _
    exact Mb x.name (.slice so x.cols.length sc) true Tryz.results18 rfl rfl rfl bR ⟨x.name,so,x.cols.length,sc,true,rfl,by rw [HE.out];exact ⟨rfl,rfl,hcol.keep (Ag (hbF.mono hC))⟩,hbF⟩
   ·have hq : (x.name.toList==s.toList) =false :=by rw [Bu];simp [hs]
    have HE :Hid (atI T (fun x=>decide (x.name=s)) k=false) :=by show _=_;rw [HX.out];simp [hs]
    clear hs hx
    go_wp2
    go_roundw
    case rel=>exact ⟨k+1,by omega,by go_num,Fn (fun j hj=>by rcases Nat.lt_succ_iff_lt_or_eq.1 hj with h | h;exact HJ.out j h;rw [h];exact HE.out),Fn (by first | exact rfl | exact trivial)⟩
    case measure=>simp [intOf];omega
  ·have hkn :k=T.length :=by omega
   subst hkn
   have v1 : ¬ ((T.length :Int) < (T.length :Int)) :=by omega
   have HE :Hid (A5 T s=none) :=Ta HJ.out
   go_wp2
   exact Mb noW (.slice none 0 0) false Tryz.results18 rfl rfl rfl bR ⟨noW,none,0,0,false,rfl,by rw [HE.out];exact ⟨rfl,rfl,rfl,rfl,rfl⟩,(hb1.setCell (show w.heap.size≤w.heap.size+1 by omega) _).setCell (show w.heap.size≤w.heap.size+1 by omega) _⟩
end Go.Proofs.YtmgkcjiejmhgcaaGreatDoor

namespace Go.Proofs.YtmgkcjiejmhgcaaGreatDoor
open Go.RowKit
abbrev Kg (ts :List Int) :Array Value := #[.bool (decide (0∈ts)), .bool (decide (1∈ts)), .bool (decide (2∈ts)), .bool (decide (3∈ts))]
theorem Zx {b1 b2 b3 :Bool} {want :Int} : (b1=true→want=1) → (b2=true→want=2) → (b3=true→want=3) → (!(b1&&decide (want≠1)) && !(b2&&decide (want≠2)) && !(b3&&decide (want≠3))) =true :=by
 intro h1 h2 h3
 cases b1<;>cases b2<;>cases b3<;>simp_all
set_option maxHeartbeats 4000000 in
theorem Ya (b0 b1 b2 b3 :Bool) (want :Int) (g :Nat) (t :TypeId) (w :World) (hg :w.heap[g]? =some (.cells #[.bool b0, .bool b1, .bool b2, .bool b3] t)) :
  Calls Tryz.prog 63 #[.int .i64 want, .pointer (some ⟨g,0,none⟩)] w fun e w'=>e= .returned (.bool (!(b1&&decide (want≠1)) && !(b2&&decide (want≠2)) && !(b3&&decide (want≠3)))) ∧w'=w :=by
 have c1 :=Aa hg (j :=1) rfl
 have c2 :=Aa hg (j :=2) rfl
 have c3 :=Aa hg (j :=3) rfl
 simp only [List.getElem_toArray,List.getElem_cons_succ,List.getElem_cons_zero] at c1 c2 c3
 obtain ⟨r,HR⟩ : ∃r,Hid ((!(b1&&decide (want≠1)) && !(b2&&decide (want≠2)) && !(b3&&decide (want≠3))) =r) := ⟨_,rfl⟩
 rw [HR.out]
 clear hg
 go_enter Tryz.func63,Tryz.ntmps63
 go_wp2_with fail
 go_loopw [4] (fun i wr=> ∃k :Nat,1≤k∧k≤4∧i= .int .i64 k∧Hid ((2≤k→b1=true→want=1) ∧ (3≤k→b2=true→want=2) ∧ (4≤k→b3=true→want=3)) ∧Hid (w=wr)) (fun i _=>4 - (intOf i).toNat)
 case atStart=>exact ⟨1,by omega,by omega,rfl,⟨fun h=>by omega,fun h=>by omega,fun h=>by omega⟩,rfl⟩
 case round=>
  obtain ⟨k,h1,h4,rfl,HK,HWR⟩ :=hrel
  have hwr :=HWR.out
  subst hwr
  clear HWR
  have hk :k=1∨k=2∨k=3∨k=4 :=by omega
  rcases hk with rfl | rfl | rfl | rfl
  ·by_cases hb :b1=true∧want≠1
   ·obtain ⟨hb,hn⟩ :=hb
    subst hb
    have q : ((1 :Int) !=want) =true :=by simpa using Ne.symm hn
    have HF :Hid (r=false) :=by show _=_;rw [←HR.out];simp [hn]
    go_wp2_with fail
    go_ret
    exact ⟨Aj (by rw [HF.out]),rfl⟩
   ·have HN :Hid (b1=true→want=1) :=fun h=>Decidable.byContradiction fun hn=>hb ⟨h,hn⟩
    cases b1
    ·go_wp2_with fail
     go_roundw
     case rel=>exact ⟨2,by omega,by omega,by go_num,⟨fun _=>HN.out,fun h=>by omega,fun h=>by omega⟩,Fn (by first | exact rfl | exact trivial)⟩
     case measure=>simp [intOf]
    ·have q : ((1 :Int) !=want) =false :=by have :=HN.out rfl;simp [this]
     go_wp2_with fail
     go_roundw
     case rel=>exact ⟨2,by omega,by omega,by go_num,⟨fun _ _=>HN.out rfl,fun h=>by omega,fun h=>by omega⟩,Fn (by first | exact rfl | exact trivial)⟩
     case measure=>simp [intOf]
  ·by_cases hb :b2=true∧want≠2
   ·obtain ⟨hb,hn⟩ :=hb
    subst hb
    have q : ((2 :Int) !=want) =true :=by simpa using Ne.symm hn
    have HF :Hid (r=false) :=by show _=_;rw [←HR.out];simp [hn]
    go_wp2_with fail
    go_ret
    exact ⟨Aj (by rw [HF.out]),rfl⟩
   ·have HN :Hid (b2=true→want=2) :=fun h=>Decidable.byContradiction fun hn=>hb ⟨h,hn⟩
    cases b2
    ·go_wp2_with fail
     go_roundw
     case rel=>exact ⟨3,by omega,by omega,by go_num,⟨fun _=>HK.out.1 (by omega),fun _=>HN.out,fun h=>by omega⟩,Fn (by first | exact rfl | exact trivial)⟩
     case measure=>simp [intOf]
    ·have q : ((2 :Int) !=want) =false :=by have :=HN.out rfl;simp [this]
     go_wp2_with fail
     go_roundw
     case rel=>exact ⟨3,by omega,by omega,by go_num,⟨fun _=>HK.out.1 (by omega),fun _ _=>HN.out rfl,fun h=>by omega⟩,Fn (by first | exact rfl | exact trivial)⟩
     case measure=>simp [intOf]
  ·by_cases hb :b3=true∧want≠3
   ·obtain ⟨hb,hn⟩ :=hb
    subst hb
    have q : ((3 :Int) !=want) =true :=by simpa using Ne.symm hn
    have HF :Hid (r=false) :=by show _=_;rw [←HR.out];simp [hn]
    go_wp2_with fail
    go_ret
    exact ⟨Aj (by rw [HF.out]),rfl⟩
   ·have HN :Hid (b3=true→want=3) :=fun h=>Decidable.byContradiction fun hn=>hb ⟨h,hn⟩
    cases b3
    ·go_wp2_with fail
     go_roundw
     case rel=>exact ⟨4,by omega,by omega,by go_num,⟨fun _=>HK.out.1 (by omega),fun _=>HK.out.2.1 (by omega),fun _=>HN.out⟩,Fn (by first | exact rfl | exact trivial)⟩
     case measure=>simp [intOf]
    ·have q : ((3 :Int) !=want) =false :=by have :=HN.out rfl;simp [this]
     go_wp2_with fail
     go_roundw
     case rel=>exact ⟨4,by omega,by omega,by go_num,⟨fun _=>HK.out.1 (by omega),fun _=>HK.out.2.1 (by omega),fun _ _=>HN.out rfl⟩,Fn (by first | exact rfl | exact trivial)⟩
     case measure=>simp [intOf]
  ·have HF :Hid (r=true) :=by show _=_;rw [←HR.out];exact Zx (HK.out.1 (by omega)) (HK.out.2.1 (by omega)) (HK.out.2.2 (by omega))
   go_wp2_with fail
   go_ret
   exact ⟨Aj (by rw [HF.out]),rfl⟩
end Go.Proofs.YtmgkcjiejmhgcaaGreatDoor

namespace Go.Proofs.YtmgkcjiejmhgcaaGreatDoor
open Go.RowKit Go.Maps
def Y6 (S :List TabD) (d :Nat) :Prop := ∀ (e :E) (v cv :Value) (C :Nat) (w :World),IsE (fun k=>k<C) w e v→IsL B8 (fun k=>k<C) w cv (Ax S) →C≤w.heap.size→geB d e=true→
  Calls Tryz.prog 28 #[cv,v] w fun r w'=> (∃v,r= .returned v∧Er S e w.heap.size w' v) ∧Below w.heap.size w w'
theorem Un {s :Wd} (h :s.size≠0) : (ByteArray.toList s).isEmpty=false :=by
 cases e : (ByteArray.toList s).isEmpty with
 | false=>rfl
 | true=>
  rw [List.isEmpty_iff,ByteArray.toList_eq] at e
  exact absurd (show s.size=0 by rw [←ByteArray.size_data,←Array.length_toList,e];rfl) h
theorem Uo {s :Wd} (h :s.size=0) : (ByteArray.toList s).isEmpty=true :=by rw [M9 h,ByteArray.toList_eq];rfl
theorem Oc {s name :Wd} : ∀ (L :List (Wd×ColD)) (r :Nat×Nat×Nat),(L.foldl (Dk s name) r).2.2≤r.2.2+L.length
 | [],r=>Nat.le_refl _
 | p ::L,r=>by
  have :=Oc (s :=s) (name :=name) L (Dk s name r p)
  rw [List.foldl_cons,List.length_cons]
  refine Nat.le_trans this ?_
  simp only [Dk]
  split<;>omega
theorem Tr (s name :Wd) (L :List (Wd×ColD)) : (C9 s name L).2.2≤L.length :=by
 have :=Oc (s :=s) (name :=name) L (0,0,0)
 simpa [C9] using this
set_option maxRecDepth 100000 in
set_option maxHeartbeats 8000000 in
theorem Wl (S :List TabD) (hu : ∀t∈S,Is t.cols) (hS : (Ax S).length≤1000000000) (x :V) (s name :Wd) (n :Int) (ao :Option Addr) (c C :Nat) (cv :Value) (w :World) (hc :ao=none→c=0) (hl :IsL B8 (fun k=>k<C) w cv (Ax S)) (hC :C≤w.heap.size) :
  Calls Tryz.prog 28 #[cv, .agg (Ad 2 x s name n (.slice ao 0 c))] w fun r w'=> (∃v,r= .returned v∧Er S (.mk 2 x s name n []) w.heap.size w' v) ∧Below w.heap.size w w' :=by
 obtain ⟨co,cc,rfl⟩ :=hl.shape
 obtain ⟨xk,xn,xs⟩ :=x
 obtain ⟨d1,d2,d3⟩ :=Nf s name n S hu
 have HB :=Lf S ⟨xk,xn,xs⟩ s name n []
 rw [←d2] at HB d3
 have hb2 :=Bz w (.cells (Ad 2 ⟨xk,xn,xs⟩ s name n (.slice ao 0 c)) 34) (.cells #[.int .i64 0, .int .i64 0, .int .i64 0, .string ⟨#[]⟩, .string ⟨#[]⟩, .string ⟨#[]⟩, .int .i64 0, .slice none 0 0] 34)
 have hB0 :=Ae (Ab w (.cells (Ad 2 ⟨xk,xn,xs⟩ s name n (.slice ao 0 c)) 34)) (.cells #[.int .i64 0, .int .i64 0, .int .i64 0, .string ⟨#[]⟩, .string ⟨#[]⟩, .string ⟨#[]⟩, .int .i64 0, .slice none 0 0] 34)
 have hB1 :=A0 w (.cells (Ad 2 ⟨xk,xn,xs⟩ s name n (.slice ao 0 c)) 34) (.cells #[.int .i64 0, .int .i64 0, .int .i64 0, .string ⟨#[]⟩, .string ⟨#[]⟩, .string ⟨#[]⟩, .int .i64 0, .slice none 0 0] 34)
 have hB1 : (((w.alloc (.cells (Ad 2 ⟨xk,xn,xs⟩ s name n (.slice ao 0 c)) 34)).alloc (.cells #[.int .i64 0, .int .i64 0, .int .i64 0, .string ⟨#[]⟩, .string ⟨#[]⟩, .string ⟨#[]⟩, .int .i64 0, .slice none 0 0] 34))).heap[w.heap.size+1]? =some (.cells (Ad 0 zero noW noW 0 (.slice none 0 0)) 34) :=hB1
 generalize hW : (w.alloc (.cells (Ad 2 ⟨xk,xn,xs⟩ s name n (.slice ao 0 c)) 34)).alloc (.cells #[.int .i64 0, .int .i64 0, .int .i64 0, .string ⟨#[]⟩, .string ⟨#[]⟩, .string ⟨#[]⟩, .int .i64 0, .slice none 0 0] 34) =W0 at hb2 hB0 hB1
 have HW :Hid _ :=hW
 have HBD :Hid _ :=HB
 have HD3 :Hid _ :=d3
 clear hW HB d1 d2 d3 hu
 generalize Bx S s name n=ra at*
 generalize Ax S=L at*
 have z0 :=Aa hB0 (j :=0) rfl
 go_enter Tryz.func28,Tryz.ntmps28
 go_upto_region 1 with fail
 rw [HW.out]
 go_wp2_with fail
 go_loopw [7,8,24] (fun nv fv i wr=> ∃k :Nat,k≤L.length∧i= .int .i64 k∧nv= .int .i64 ((C9 s name (L.take k)).2.1 :Nat) ∧fv= .int .i64 ((C9 s name (L.take k)).2.2 :Nat) ∧Below W0.heap.size W0 wr) (fun _ _ i _=>L.length - (intOf i).toNat)
 case atStart=>exact ⟨0,Nat.zero_le _,rfl,rfl,rfl,Below.refl _ _⟩
 case round=>
  obtain ⟨k,hk,rfl,rfl,rfl,hbw⟩ :=hrel
  have hbel :Below w.heap.size w wr :=hb2.trans (hbw.mono hb2.size)
  have bE := (hbw.block _ (lt_of_block hB0)).trans hB0
  by_cases hlt :k<L.length
  ·obtain ⟨p,hp⟩ : ∃p,L[k]? =some p := ⟨_,List.getElem?_eq_getElem hlt⟩
   have HT :Hid (C9 s name (L.take (k+1)) =Dk s name (C9 s name (L.take k)) p) :=Wi hp
   have HLE :Hid ((C9 s name (L.take k)).1=k) :=by show _=_;rw [C9,Kf,List.length_take];omega
   have hfl : (C9 s name (L.take k)).2.2≤k :=Nat.le_trans (Tr _ _ _) (by rw [List.length_take];omega)
   generalize C9 s name (L.take k) =q at*
   obtain ⟨q1,q2,q3⟩ :=q
   simp only at hfl HLE
   obtain ⟨b,off,cs,hso,hbC,hbl,hR,hcell⟩ :=Av hl hp
   cases hso
   obtain ⟨tn,cd⟩ :=p
   obtain rfl :cs=_ :=hR
   have g0 := (hbel.cell (p := ⟨b,_,none⟩) hbl).trans (hcell 0 _ rfl)
   have g1 := (hbel.cell (p := ⟨b,_,none⟩) hbl).trans (hcell 1 _ rfl)
   have g2 := (hbel.cell (p := ⟨b,_,none⟩) hbl).trans (hcell 2 _ rfl)
   have g3 := (hbel.cell (p := ⟨b,_,none⟩) hbl).trans (hcell 3 _ rfl)
   simp only [B8,Nat.add_zero] at g0 g1 g2 g3
   have j0 : (0 :Int) ≤ (k :Int) :=by omega
   have j1 : (k :Int) < (L.length :Int) :=by omega
   have hbx :=Aq wr (.cells #[.string tn, .string cd.name, .int .i64 cd.ty, .bool cd.must] 68)
   have bX :=Ab wr (.cells #[.string tn, .string cd.name, .int .i64 cd.ty, .bool cd.must] 68)
   have bE1 := (hbx.block _ (lt_of_block bE)).trans bE
   have x0 :=Aa bX (j :=0) rfl
   have x1 :=Aa bX (j :=1) rfl
   have e4 :=Aa bE1 (j :=4) rfl
   have e5 :=Aa bE1 (j :=5) rfl
   have hbN :Below W0.heap.size W0 (wr.alloc (.cells #[.string tn, .string cd.name, .int .i64 cd.ty, .bool cd.must] 68)) :=hbw.trans (hbx.mono hbw.size)
   have hit :Fm s name (tn,cd) = (decide (cd.name=name) && (decide (s.size=0) || decide (s=tn))) :=rfl
   have HIT :Hid _ :=hit
   have w1 :wrap64 ((q3 :Int) +1) = ((q3+1 :Nat) :Int) :=by unfold wrap64;omega
   clear hp hcell hit bE bE1
   by_cases hn :cd.name=name
   rotate_left
   ·have hq : (cd.name.toList==name.toList) =false :=by rw [Bu];simp [hn]
    have HH :Hid (Fm s name (tn,cd) =false) :=by show _=_;rw [HIT.out];simp [hn]
    clear hn
    go_wp2_with fail
    go_roundw
    case rel=>exact ⟨k+1,by omega,by go_num,by rw [HT.out];simp [Dk,HH.out],by rw [HT.out];simp [Dk,HH.out],hbN⟩
    case measure=>simp [intOf];omega
   have hq : (cd.name.toList==name.toList) =true :=by rw [Bu];simp [hn]
   by_cases hs :s.size=0
   ·have hq2 :=Uo hs
    have HH :Hid (Fm s name (tn,cd) =true) :=by show _=_;rw [HIT.out];simp [hn,hs]
    clear hn hs
    go_wp2_with fail
    go_roundw
    case rel=>exact ⟨k+1,by omega,by go_num,by rw [HT.out];simp [Dk,HH.out,HLE.out],by rw [HT.out];simp [Dk,HH.out],hbN⟩
    case measure=>simp [intOf];omega
   have hq2 :=Un hs
   by_cases hst :s=tn
   ·have hq3 : (s.toList==tn.toList) =true :=by rw [Bu];simp [hst]
    have HH :Hid (Fm s name (tn,cd) =true) :=by show _=_;rw [HIT.out];simp [hn,hst]
    clear hn hs hst
    go_wp2_with fail
    go_roundw
    case rel=>exact ⟨k+1,by omega,by go_num,by rw [HT.out];simp [Dk,HH.out,HLE.out],by rw [HT.out];simp [Dk,HH.out],hbN⟩
    case measure=>simp [intOf];omega
   ·have hq3 : (s.toList==tn.toList) =false :=by rw [Bu];simp [hst]
    have HH :Hid (Fm s name (tn,cd) =false) :=by show _=_;rw [HIT.out];simp [hs,hst]
    clear hn hs hst
    go_wp2_with fail
    go_roundw
    case rel=>exact ⟨k+1,by omega,by go_num,by rw [HT.out];simp [Dk,HH.out],by rw [HT.out];simp [Dk,HH.out],hbN⟩
    case measure=>simp [intOf];omega
  ·have hkn :k=L.length :=by omega
   subst hkn
   rw [List.take_length] at*
   have j1 : ¬ ((L.length :Int) < (L.length :Int)) :=by omega
   have hfl : (C9 s name L).2.2≤L.length :=Tr _ _ _
   have bZ := (hbw.block _ (lt_of_block hB1)).trans hB1
   have hone0 :=A8 0 zero noW noW 0 none 0 0
   obtain ⟨V0,hV0⟩ : ∃V,V=wr := ⟨_,rfl⟩
   subst hV0
   generalize C9 s name L=q at*
   obtain ⟨q1,nn,q3⟩ :=q
   simp only at hfl HD3 HBD
   by_cases hf :q3=1
   rotate_left
   ·have hq : ((q3 :Int) !=1) =true :=by simp;omega
    have HE :Hid (A3 S (.mk 2 ⟨xk,xn,xs⟩ s name n []) = .error 3) :=by show _=_;rw [HBD.out,if_neg hf]
    clear hf HBD HD3
    go_wp2_with (refine wpList_store_row rfl 34 _ _ rfl (w.heap.size+1) (Ad 0 zero noW noW 0 (.slice none 0 0)) ?_ ?_ 34 (Ad 0 zero noW noW 0 (.slice none 0 0)) ?_ ?_ ?_ ?_ ?_;exact rfl;exact rfl;exact bZ;exact Ai;exact rfl;exact hone0)
    exact bodyPost_ret (v := .tuple #[.agg (Ad 0 zero noW noW 0 (.slice none 0 0)), .int .i64 0, .int .i64 3]) (Ay Tryz.results28 _ _ (w.heap.size+1) 34 _ _ _ _ _ rfl rfl rfl (An bZ) Tryz.underlying34 rfl Ai) rfl ⟨⟨_,rfl,(A9 HE.out).2 rfl⟩,Below.row hbel (by omega) _⟩
   ·subst hf
    obtain ⟨e1,p,e2,e3⟩ :=HD3.out (Nat.le_refl _)
    have HE :Hid (A3 S (.mk 2 ⟨xk,xn,xs⟩ s name n []) = .ok (.mk 2 ⟨xk,xn,xs⟩ s name (nn :Int) [],ra.kind)) :=by show _=_;rw [HBD.out,if_pos rfl,e1]
    obtain ⟨cb,cof,cs,hso,hbC,hbl,hR,hcell⟩ :=Av hl e2
    cases hso
    obtain ⟨tn,cd⟩ :=p
    obtain rfl :cs=_ :=hR
    have hnl :nn<L.length := (List.getElem?_eq_some_iff.1 e2).1
    have g2 := (hbel.cell (p := ⟨cb,_,none⟩) hbl).trans (hcell 2 _ rfl)
    simp only [B8] at g2 e3
    rw [e3] at g2
    generalize ra.kind=ty at*
    have e6 :=Aa bE (j :=6) rfl
    have f6 :V0.frozen? ⟨w.heap.size,6,none⟩ =false :=by simp only [World.frozen?,bE];rfl
    have j2 : (0 :Int) ≤ (nn :Int) :=by omega
    have j3 : (nn :Int) < (L.length :Int) :=by omega
    have hone :=A8 2 ⟨xk,xn,xs⟩ s name (nn :Int) ao 0 c
    have bE3 : (V0.setCell ⟨w.heap.size,6,none⟩ (.int .i64 (nn :Int))).heap[w.heap.size]? =some (.cells (Ad 2 ⟨xk,xn,xs⟩ s name (nn :Int) (.slice ao 0 c)) 34) :=Cl bE 6 _
    have bZ3 := (Below.heap_setCell V0 ⟨w.heap.size,6,none⟩ (.int .i64 (nn :Int)) (w.heap.size+1) (show w.heap.size+1≠w.heap.size by omega)).trans bZ
    have hbV :Below w.heap.size w (V0.setCell ⟨w.heap.size,6,none⟩ (.int .i64 (nn :Int))) :=hbel.setCell (Nat.le_refl _) _
    have g3 : (V0.setCell ⟨w.heap.size,6,none⟩ (.int .i64 (nn :Int))).cell? ⟨cb,cof+nn*4+2,none⟩ =some (.int .i64 ty) := (World.cell?_of_block (w :=V0) (Below.heap_setCell V0 ⟨w.heap.size,6,none⟩ (.int .i64 (nn :Int)) cb (show cb≠w.heap.size by omega))).trans g2
    clear hcell e1 e2 e3 HBD HD3 HW z0
    go_upto_region 13 with fail
    generalize V0.setCell ⟨w.heap.size,6,none⟩ (.int .i64 (nn :Int)) =V1 at*
    have hZd :V1.drew.heap[w.heap.size+1]? =some (.cells (Ad 0 zero noW noW 0 (.slice none 0 0)) 34) :=bZ3
    have HK0 :Hid (V1.drew.heap[w.heap.size]? =some (.cells (Ad 2 ⟨xk,xn,xs⟩ s name (nn :Int) (.slice ao 0 c)) 34) ∧V1.drew.cell? ⟨cb,cof+nn*4+2,none⟩ =some (.int .i64 ty)) := ⟨bE3,g3⟩
    have hrow : (V1.drew.setRow (w.heap.size+1) (Ad 2 ⟨xk,xn,xs⟩ s name (nn :Int) (.slice ao 0 c))).heap[w.heap.size]? =some (.cells (Ad 2 ⟨xk,xn,xs⟩ s name (nn :Int) (.slice ao 0 c)) 34) :=Aw bE3 (by omega) _
    have HK1 :Hid ((V1.drew.setRow (w.heap.size+1) (Ad 2 ⟨xk,xn,xs⟩ s name (nn :Int) (.slice ao 0 c))).heap[w.heap.size]? =some (.cells (Ad 2 ⟨xk,xn,xs⟩ s name (nn :Int) (.slice ao 0 c)) 34) ∧ (V1.drew.setRow (w.heap.size+1) (Ad 2 ⟨xk,xn,xs⟩ s name (nn :Int) (.slice ao 0 c))).cell? ⟨cb,cof+nn*4+2,none⟩ =some (.int .i64 ty)) :=by
     refine ⟨hrow, ?_⟩
     have : (V1.drew.setRow (w.heap.size+1) (Ad 2 ⟨xk,xn,xs⟩ s name (nn :Int) (.slice ao 0 c))).heap[cb]? =V1.heap[cb]? :=by
      simp only [World.setRow,Array.getElem?_modify]
      rw [if_neg (by omega)];rfl
     exact (World.cell?_of_block (w :=V1) this).trans g3
    refine wp_region_held_drew (S :=fun W=>W.heap[w.heap.size]? =some (.cells (Ad 2 ⟨xk,xn,xs⟩ s name (nn :Int) (.slice ao 0 c)) 34) ∧W.cell? ⟨cb,cof+nn*4+2,none⟩ =some (.int .i64 ty)) (by kernel_rfl) ?_ (fun hHeld=> ?_)
    ·exact HK0.out
    refine wpAnyH_take (i :=0) (oi := {dst :=some 56,op :=Go.Op.load 34 (Go.Operand.tmp 3),type :=34,pos := "high.go:196",after := #[],guard :=none}) (v := .agg (Ad 2 ⟨xk,xn,xs⟩ s name (nn :Int) (.slice ao 0 c))) rfl (by kernel_rfl) (by kernel_rfl) (by kernel_rfl) (fun _ _ _ h=>h) (Bt rfl 34 _ rfl w.heap.size rfl (Ad 2 ⟨xk,xn,xs⟩ s name (nn :Int) (.slice ao 0 c)) 34 _ (fun _ h=>h.1) Tryz.underlying34 rfl Ai) (by assumption) ?_
    try simp only [Act.put,List.setIfInBounds_toArray,List.set_cons_zero,List.set_cons_succ]
    refine wpAnyH_take (i :=1) (oi := {dst :=some 57,op :=Go.Op.move (Go.Operand.tmp 0),type :=60,pos := "high.go:196",after := #[{on :=7,ground :=Go.Ground.gcOnly Go.Departure.lateStores}],guard :=none}) (v := ?_) rfl (by kernel_rfl) (by kernel_rfl) (by kernel_rfl) (fun _ _ _ h=>h) (Or.inl ⟨by rfl, ?_⟩) (by assumption) ?_
    rotate_left
    ·intro w hSw;(try dsimp only at hSw);go_simp;all_goals (with_reducible rfl)
    try simp only [Act.put,List.setIfInBounds_toArray,List.set_cons_zero,List.set_cons_succ]
    refine wpAnyH_take (i :=2) (oi := {dst :=some 58,op :=Go.Op.move (Go.Operand.tmp 7),type :=3,pos := "high.go:196",after := #[{on :=7,ground :=Go.Ground.gcOnly Go.Departure.lateStores}],guard :=none}) (v := ?_) rfl (by kernel_rfl) (by kernel_rfl) (by kernel_rfl) (fun _ _ _ h=>h) (Or.inl ⟨by rfl, ?_⟩) (by assumption) ?_
    rotate_left
    ·intro w hSw;(try dsimp only at hSw);go_simp;all_goals (with_reducible rfl)
    try simp only [Act.put,List.setIfInBounds_toArray,List.set_cons_zero,List.set_cons_succ]
    refine wpAnyH_take (i :=3) (oi := {dst :=some 59,op :=Go.Op.indexAddr 60 (Go.Operand.tmp 57) (Go.Operand.tmp 58),type :=0,pos := "high.go:196",after := #[{on :=1,ground :=Go.Ground.data},{on :=2,ground :=Go.Ground.data},{on :=7,ground :=Go.Ground.gcOnly Go.Departure.lateStores}],guard :=none}) (v := ?_) rfl (by kernel_rfl) (by kernel_rfl) (by kernel_rfl) (fun _ _ _ h=>h) (Or.inl ⟨by rfl, ?_⟩) (by assumption) ?_
    rotate_left
    ·intro w hSw;(try dsimp only at hSw);go_simp;all_goals (with_reducible rfl)
    try simp only [Act.put,List.setIfInBounds_toArray,List.set_cons_zero,List.set_cons_succ]
    refine wpAnyH_take (i :=4) (oi := {dst :=some 60,op :=Go.Op.fieldAddr 68 (Go.Operand.tmp 59) 1,type :=0,pos := "high.go:196",after := #[{on :=3,ground :=Go.Ground.data},{on :=7,ground :=Go.Ground.gcOnly Go.Departure.lateStores}],guard :=none}) (v := ?_) rfl (by kernel_rfl) (by kernel_rfl) (by kernel_rfl) (fun _ _ _ h=>h) (Or.inl ⟨by rfl, ?_⟩) (by assumption) ?_
    rotate_left
    ·intro w hSw;(try dsimp only at hSw);go_simp;all_goals (with_reducible rfl)
    try simp only [Act.put,List.setIfInBounds_toArray,List.set_cons_zero,List.set_cons_succ]
    refine wpAnyH_take (i :=5) (oi := {dst :=some 61,op :=Go.Op.fieldAddr 66 (Go.Operand.tmp 60) 1,type :=0,pos := "high.go:196",after := #[{on :=4,ground :=Go.Ground.data},{on :=7,ground :=Go.Ground.gcOnly Go.Departure.lateStores}],guard :=none}) (v := ?_) rfl (by kernel_rfl) (by kernel_rfl) (by kernel_rfl) (fun _ _ _ h=>h) (Or.inl ⟨by rfl, ?_⟩) (by assumption) ?_
    rotate_left
    ·intro w hSw;(try dsimp only at hSw);go_simp;all_goals (with_reducible rfl)
    try simp only [Act.put,List.setIfInBounds_toArray,List.set_cons_zero,List.set_cons_succ]
    refine wpAnyH_take (i :=6) (oi := {dst :=some 62,op :=Go.Op.load 3 (Go.Operand.tmp 61),type :=3,pos := "high.go:196",after := #[{on :=5,ground :=Go.Ground.data},{on :=7,ground :=Go.Ground.gcOnly Go.Departure.lateStores}],guard :=none}) (v := ?_) rfl (by kernel_rfl) (by kernel_rfl) (by kernel_rfl) (fun _ _ _ h=>h) (Or.inl ⟨by rfl, ?_⟩) (by assumption) ?_
    rotate_left
    ·intro w hSw;(try dsimp only at hSw);go_simp;all_goals (with_reducible rfl)
    try simp only [Act.put,List.setIfInBounds_toArray,List.set_cons_zero,List.set_cons_succ]
    refine wpAnyH_ready (rs := [7]) (by kernel_rfl) (by simp) ?_
    refine (AllReadyH.cons (o := {dst :=none,op :=Go.Op.store 34 (Go.Operand.tmp 4) (Go.Operand.tmp 56),type :=0,pos := "high.go:196",after := #[{on :=0,ground :=Go.Ground.data},{on :=0,ground :=Go.Ground.phase},{on :=1,ground :=Go.Ground.textOnly Go.Departure.lateStores},{on :=2,ground :=Go.Ground.textOnly Go.Departure.lateStores},{on :=3,ground :=Go.Ground.textOnly Go.Departure.lateStores},{on :=4,ground :=Go.Ground.textOnly Go.Departure.lateStores},{on :=5,ground :=Go.Ground.textOnly Go.Departure.lateStores},{on :=6,ground :=Go.Ground.textOnly Go.Departure.lateStores}],guard :=none}) rfl (fun K hK=> ?_) AllReadyH.nil)
    refine At rfl 34 _ _ rfl (w.heap.size+1) (Ad 2 ⟨xk,xn,xs⟩ s name (nn :Int) (.slice ao 0 c)) ?_ ?_ 34 (Ad 0 zero noW noW 0 (.slice none 0 0)) ?_ ?_ ?_ ?_ ?_;exact rfl;exact rfl;exact bZ3;exact Ai;exact rfl;exact hone
    refine hK.out _ _ ?_ (fun hHeld=> ?_)
    ·exact HK1.out
    clear hK K
    try simp only [Act.put]
    refine wpAnyH_take (i :=8) (oi := {dst :=some 5,op :=Go.Op.assign (Go.Operand.tmp 62),type :=3,pos := "high.go:196",after := #[{on :=6,ground :=Go.Ground.data},{on :=7,ground :=Go.Ground.chain},{on :=0,ground :=Go.Ground.phase},{on :=1,ground :=Go.Ground.phase},{on :=2,ground :=Go.Ground.phase},{on :=3,ground :=Go.Ground.phase},{on :=4,ground :=Go.Ground.phase},{on :=5,ground :=Go.Ground.phase},{on :=6,ground :=Go.Ground.phase},{on :=7,ground :=Go.Ground.phase}],guard :=none}) (v := ?_) rfl (by kernel_rfl) (by kernel_rfl) (by kernel_rfl) (fun _ _ _ h=>h) (Or.inl ⟨by rfl, ?_⟩) (by assumption) ?_
    rotate_left
    ·intro w hSw;(try dsimp only at hSw);go_simp;all_goals (with_reducible rfl)
    try simp only [Act.put,List.setIfInBounds_toArray,List.set_cons_zero,List.set_cons_succ]
    refine wpAnyH_take (i :=9) (oi := {dst :=some 6,op :=Go.Op.assign (Go.Operand.const (Go.Value.int Go.IntKind.i64 0)),type :=39,pos := "high.go:196",after := #[{on :=8,ground :=Go.Ground.chain},{on :=0,ground :=Go.Ground.phase},{on :=1,ground :=Go.Ground.phase},{on :=2,ground :=Go.Ground.phase},{on :=3,ground :=Go.Ground.phase},{on :=4,ground :=Go.Ground.phase},{on :=5,ground :=Go.Ground.phase},{on :=6,ground :=Go.Ground.phase},{on :=7,ground :=Go.Ground.phase},{on :=8,ground :=Go.Ground.phase}],guard :=none}) (v := ?_) rfl (by kernel_rfl) (by kernel_rfl) (by kernel_rfl) (fun _ _ _ h=>h) (Or.inl ⟨by rfl, ?_⟩) (by assumption) ?_
    rotate_left
    ·intro w hSw;(try dsimp only at hSw);go_simp;all_goals (with_reducible rfl)
    try simp only [Act.put,List.setIfInBounds_toArray,List.set_cons_zero,List.set_cons_succ]
    refine wpAnyH_done (by kernel_rfl) ?_ _
    go_wp2_with fail
    exact bodyPost_ret (v := .tuple #[.agg (Ad 2 ⟨xk,xn,xs⟩ s name (nn :Int) (.slice ao 0 c)), .int .i64 ty, .int .i64 0]) (Ay Tryz.results28 _ _ (w.heap.size+1) 34 _ _ _ _ _ rfl rfl rfl (An hZd) Tryz.underlying34 rfl Ai) rfl ⟨⟨_,rfl,(Bi HE.out).2 ⟨2,⟨xk,xn,xs⟩,s,name,nn,ao,0,c,rfl,Dn hc⟩⟩,Below.row hbV.drew (by omega) _⟩
end Go.Proofs.YtmgkcjiejmhgcaaGreatDoor


/-
  1 texts of this proof in one, in build order: BSameC.
-/
import Derived.BigQuiet
import Derived.BigRegion
import Derived.Test.YtmgkcjiejmhgcaaGreatDoorJ05
import Derived.Test.YtmgkcjiejmhgcaaGreatDoorJ06
import Derived.Test.YtmgkcjiejmhgcaaGreatDoorJ30
set_option linter.unusedSimpArgs false
set_option linter.unusedVariables false
namespace Go.Proofs.YtmgkcjiejmhgcaaGreatDoor
open Go.RowKit
def Aav (w :World) (ao :Option Addr) (T :List TabD) :Prop := ∀ (k :Nat) (x :TabD),T[k]? =some x→ ∃b off so sc,ao=some ⟨b,off,none⟩ ∧b<w.heap.size∧w.cell? ⟨b,off+k*2,none⟩ =some (.string x.name) ∧w.cell? ⟨b,off+k*2+1,none⟩ =some (.slice so x.cols.length sc) ∧ ∀ (j :Nat) (c :ColD),x.cols[j]? =some c→ ∃b' off',so=some ⟨b',off',none⟩ ∧b'<w.heap.size∧w.cell? ⟨b',off'+j*3,none⟩ =some (.string c.name) ∧w.cell? ⟨b',off'+j*3+1,none⟩ =some (.int .i64 c.ty) ∧w.cell? ⟨b',off'+j*3+2,none⟩ =some (.bool c.must)
theorem Ws {F :Nat→Prop} {w :World} {ao :Option Addr} {n c :Nat} {T :List TabD} (h :IsL A4 F w (.slice ao n c) T) :Aav w ao T :=fun k x hx=>by
 obtain ⟨b,off,cs,hso,_,hbl,⟨sv,rfl,hsv⟩,hcell⟩ :=Av h hx
 obtain ⟨so,sc,rfl⟩ :=hsv.shape
 refine ⟨b,off,so,sc,hso,hbl,hcell 0 _ rfl,hcell 1 _ rfl,fun j y hy=> ?_⟩
 obtain ⟨b',off',cs',hso',_,hbl',hR,hcell'⟩ :=Av hsv hy
 obtain rfl :=hR
 exact ⟨b',off',hso',hbl',hcell' 0 _ rfl,hcell' 1 _ rfl,hcell' 2 _ rfl⟩
def Aaw (w :World) (ao :Option Addr) (I :List IdxD) :Prop := ∀ (k :Nat) (x :IdxD),I[k]? =some x→ ∃b off,ao=some ⟨b,off,none⟩ ∧b<w.heap.size∧w.cell? ⟨b,off+k*3,none⟩ =some (.string x.name) ∧w.cell? ⟨b,off+k*3+1,none⟩ =some (.string x.table) ∧w.cell? ⟨b,off+k*3+2,none⟩ =some (.string x.col)
theorem Wt {F :Nat→Prop} {w :World} {ao :Option Addr} {n c :Nat} {I :List IdxD} (h :IsL B7 F w (.slice ao n c) I) :Aaw w ao I :=fun k x hx=>by
 obtain ⟨b,off,cs,hso,_,hbl,hR1,hcell⟩ :=Av h hx
 obtain rfl :=hR1
 exact ⟨b,off,hso,hbl,hcell 0 _ rfl,hcell 1 _ rfl,hcell 2 _ rfl⟩
set_option maxRecDepth 100000 in
set_option maxHeartbeats 8000000 in
theorem Kw (A :CatD) (va vb :Value) (F G :Nat→Prop) (w :World) (ha :Bh F w A va) (hb :Bh G w A vb) :
  Calls Tryz.prog 11 #[va,vb] w fun e w'=>e= .returned (.bool true) ∧Below w.heap.size w w' :=by
 obtain ⟨T,I⟩ :=A
 obtain ⟨tv,iv,rfl,hl,hi⟩ :=ha
 obtain ⟨uv,jv,rfl,hu,hj⟩ :=hb
 simp only at hl hi hu hj
 obtain ⟨to',tc,rfl⟩ :=hl.shape
 obtain ⟨io,ic,rfl⟩ :=hi.shape
 obtain ⟨uo,uc,rfl⟩ :=hu.shape
 obtain ⟨jo,jc,rfl⟩ :=hj.shape
 have hlm := (Bj hl).2
 have him := (Bj hi).2
 unfold maxLen at hlm him
 have HT :Hid _ :=Ws hl
 have HU :Hid _ :=Ws hu
 have HI :Hid _ :=Wt hi
 have HJ :Hid _ :=Wt hj
 have HXL :Hid (∀x∈T,x.cols.length≤9223372036854775807) :=fun x hx=>by
  obtain ⟨k,hk,rfl⟩ :=List.getElem_of_mem hx
  obtain ⟨b,off,cs,hso,_,hbl,⟨sv,rfl,hsv⟩,hcell⟩ :=Av hl (List.getElem?_eq_getElem hk)
  obtain ⟨so,sc,rfl⟩ :=hsv.shape
  have := (Bj hsv).2
  unfold maxLen at this
  omega
 have hb2 :=Bz w (.cells #[.slice to' T.length tc, .slice io I.length ic] 25) (.cells #[.slice uo T.length uc, .slice jo I.length jc] 25)
 have bA :=Ae (Ab w (.cells #[.slice to' T.length tc, .slice io I.length ic] 25)) (.cells #[.slice uo T.length uc, .slice jo I.length jc] 25)
 have bB :=A0 w (.cells #[.slice to' T.length tc, .slice io I.length ic] 25) (.cells #[.slice uo T.length uc, .slice jo I.length jc] 25)
 generalize hW : (w.alloc (.cells #[.slice to' T.length tc, .slice io I.length ic] 25)).alloc (.cells #[.slice uo T.length uc, .slice jo I.length jc] 25) =W2 at hb2 bA bB
 have HW :Hid _ :=hW
 clear hW hl hi hu hj
 have a0 :=Aa bA (j :=0) rfl
 have a1 :=Aa bA (j :=1) rfl
 have b0 :=Aa bB (j :=0) rfl
 have b1 :=Aa bB (j :=1) rfl
 go_enter Tryz.func11,Tryz.ntmps11
 go_upto_region 1 with fail
 rw [HW.out]
 go_wp2
 go_loopw [28] (fun i wr=> ∃k :Nat,k≤T.length∧i= .int .i64 k∧Below W2.heap.size W2 wr) (fun i _=>T.length - (intOf i).toNat)
 case atStart=>exact ⟨0,Nat.zero_le _,rfl,Below.refl _ _⟩
 case round=>
  obtain ⟨k,hk,rfl,hbel⟩ :=hrel
  obtain ⟨wo,hwo⟩ : ∃wo,wo=wr := ⟨_,rfl⟩
  subst hwo
  have hbw :Below w.heap.size w wo :=hb2.trans (hbel.mono hb2.size)
  have hs2 :=hb2.size
  have hsz :=hbel.size
  have bA' := (hbel.block _ (lt_of_block bA)).trans bA
  have bB' := (hbel.block _ (lt_of_block bB)).trans bB
  by_cases hlt :k<T.length
  ·obtain ⟨x,hx⟩ : ∃x,T[k]? =some x := ⟨_,List.getElem?_eq_getElem hlt⟩
   obtain ⟨b,off,so,sc,hso,hbl,g0,g1,hxc⟩ :=HT.out k x hx
   cases hso
   obtain ⟨d,off2,so2,sc2,hso,hdl,h0,h1,hyc⟩ :=HU.out k x hx
   cases hso
   have hbx :=Aq wo (.cells #[.string x.name, .slice so x.cols.length sc] 47)
   have bX :=Ab wo (.cells #[.string x.name, .slice so x.cols.length sc] 47)
   have hbwx :Below w.heap.size w (wo.alloc (.cells #[.string x.name, .slice so x.cols.length sc] 47)) :=hbw.alloc (by omega) _
   have d0 := (hbw.cell (p := ⟨b,off+k*2,none⟩) hbl).trans g0
   have d1 := (hbw.cell (p := ⟨b,off+k*2+1,none⟩) hbl).trans g1
   have e0 := (hbwx.cell (p := ⟨d,off2+k*2,none⟩) hdl).trans h0
   have e1 := (hbwx.cell (p := ⟨d,off2+k*2+1,none⟩) hdl).trans h1
   have bB2 := (hbx.block _ (lt_of_block bB')).trans bB'
   have f0 :=Aa bB2 (j :=0) rfl
   have f1 :=Aa bX (j :=0) rfl
   have f2 :=Aa bX (j :=1) rfl
   have v0 : (0 :Int) ≤ (k :Int) :=by omega
   have v1 : (k :Int) < (T.length :Int) :=by omega
   have hxl :=HXL.out x (List.mem_of_getElem? hx)
   have HXC :Hid _ :=hxc
   have HYC :Hid _ :=hyc
   clear hxc hyc hx g0 g1 h0 h1
   have hq : (x.name.toList==x.name.toList) =true :=by simp
   generalize hWx :wo.alloc (.cells #[.string x.name, .slice so x.cols.length sc] 47) =Wx at*
   go_wp2_with fail
   try rw [hWx]
   have hWs :Wx.heap.size=wo.heap.size+1 :=by rw [←hWx];simp
   have hbelx :Below W2.heap.size W2 Wx :=hbel.trans (hbx.mono hsz)
   have HWX :Hid _ :=hWs
   clear hWs
   go_quiet (fail)
   go_wp2
   go_loopw [58] (fun i wr=> ∃k2 :Nat,k2≤x.cols.length∧i= .int .i64 k2∧Below Wx.heap.size Wx wr) (fun i _=>x.cols.length - (intOf i).toNat)
   case atStart=>exact ⟨0,Nat.zero_le _,rfl,below_drewN (Below.refl _ _) _⟩
   case round=>
    obtain ⟨k2,hk2,rfl,hbel2⟩ :=hrel
    have hbwr :Below w.heap.size w wr :=hbwx.trans (hbel2.mono hbwx.size)
    by_cases hlt2 :k2<x.cols.length
    ·obtain ⟨p,hp⟩ : ∃p,x.cols[k2]? =some p := ⟨_,List.getElem?_eq_getElem hlt2⟩
     obtain ⟨pb,po,hso,hpl,p0,p1,p2⟩ :=HXC.out k2 p hp
     cases hso
     obtain ⟨qb,qo,hso,hql,q3,q4,q5⟩ :=HYC.out k2 p hp
     cases hso
     have m0 := (hbwr.cell (p := ⟨pb,po+k2*3,none⟩) hpl).trans p0
     have m1 := (hbwr.cell (p := ⟨pb,po+k2*3+1,none⟩) hpl).trans p1
     have m2 := (hbwr.cell (p := ⟨pb,po+k2*3+2,none⟩) hpl).trans p2
     have m3 := (hbwr.cell (p := ⟨qb,qo+k2*3,none⟩) hql).trans q3
     have m4 := (hbwr.cell (p := ⟨qb,qo+k2*3+1,none⟩) hql).trans q4
     have m5 := (hbwr.cell (p := ⟨qb,qo+k2*3+2,none⟩) hql).trans q5
     have bX2 := (hbel2.block _ (lt_of_block bX)).trans bX
     have bB3 := (hbel2.block _ (lt_of_block bB2)).trans bB2
     have r0 :=Aa bX2 (j :=1) rfl
     have r1 :=Aa bB3 (j :=0) rfl
     have r2 := (hbel2.cell (p := ⟨d,off2+k*2+1,none⟩) (Nat.lt_of_lt_of_le hdl hbwx.size)).trans e1
     have u0 : (0 :Int) ≤ (k2 :Int) :=by omega
     have u1 : (k2 :Int) < (x.cols.length :Int) :=by omega
     clear hp p0 p1 p2 q3 q4 q5
     obtain ⟨pn,pt,pm⟩ :=p
     simp only at m0 m1 m2 m3 m4 m5
     go_wp2_with fail
     go_quiet (fail)
     go_wp2
     go_roundw
     case rel=>exact ⟨k2+1,by omega,by go_num,below_drewN hbel2 _⟩
     case measure=>simp [intOf];omega
    ·have hkn :k2=x.cols.length :=by omega
     subst hkn
     have u1 : ¬ ((x.cols.length :Int) < (x.cols.length :Int)) :=by omega
     go_wp2
     go_roundw
     case rel=>exact ⟨k+1,by omega,by go_num,hbelx.trans (hbel2.mono hbelx.size)⟩
     case measure=>simp [intOf];omega
  ·have hkn :k=T.length :=by omega
   subst hkn
   have v1 : ¬ ((T.length :Int) < (T.length :Int)) :=by omega
   have e0 :=Aa bA' (j :=1) rfl
   clear HT HU HXL
   go_wp2
   go_loopw [81] (fun i wr=> ∃k :Nat,k≤I.length∧i= .int .i64 k∧Below W2.heap.size W2 wr) (fun i _=>I.length - (intOf i).toNat)
   case atStart=>exact ⟨0,Nat.zero_le _,rfl,hbel⟩
   case round=>
    obtain ⟨k,hk,rfl,hbel2⟩ :=hrel
    have hbwr :Below w.heap.size w wr :=hb2.trans (hbel2.mono hb2.size)
    have bA3 := (hbel2.block _ (lt_of_block bA)).trans bA
    have bB3 := (hbel2.block _ (lt_of_block bB)).trans bB
    by_cases hlt :k<I.length
    ·obtain ⟨x,hx⟩ : ∃x,I[k]? =some x := ⟨_,List.getElem?_eq_getElem hlt⟩
     obtain ⟨pb,po,hso,hpl,p0,p1,p2⟩ :=HI.out k x hx
     cases hso
     obtain ⟨qb,qo,hso,hql,q3,q4,q5⟩ :=HJ.out k x hx
     cases hso
     have m0 := (hbwr.cell (p := ⟨pb,po+k*3,none⟩) hpl).trans p0
     have m1 := (hbwr.cell (p := ⟨pb,po+k*3+1,none⟩) hpl).trans p1
     have m2 := (hbwr.cell (p := ⟨pb,po+k*3+2,none⟩) hpl).trans p2
     have m3 := (hbwr.cell (p := ⟨qb,qo+k*3,none⟩) hql).trans q3
     have m4 := (hbwr.cell (p := ⟨qb,qo+k*3+1,none⟩) hql).trans q4
     have m5 := (hbwr.cell (p := ⟨qb,qo+k*3+2,none⟩) hql).trans q5
     have r0 :=Aa bA3 (j :=1) rfl
     have r1 :=Aa bB3 (j :=1) rfl
     have u0 : (0 :Int) ≤ (k :Int) :=by omega
     have u1 : (k :Int) < (I.length :Int) :=by omega
     clear hx p0 p1 p2 q3 q4 q5
     obtain ⟨pn,pt,pm⟩ :=x
     simp only at m0 m1 m2 m3 m4 m5
     go_wp2_with fail
     go_quiet (fail)
     go_wp2
     go_roundw
     case rel=>exact ⟨k+1,by omega,by go_num,below_drewN hbel2 _⟩
     case measure=>simp [intOf];omega
    ·have hkn :k=I.length :=by omega
     subst hkn
     have v1 : ¬ ((I.length :Int) < (I.length :Int)) :=by omega
     go_wp2
     go_ret
     exact ⟨rfl,hbwr⟩
end Go.Proofs.YtmgkcjiejmhgcaaGreatDoor


/-
  21 texts of this proof in one,in build order:QWhere2,QWhere3,QWhere5,Truth,XMath,QMath,QSound,QWhere6,QWhere8,QWhere9,QRank,QChoose,QWays,TPutSm,PPut,PFits,PKept,PApp,PKept2,TTrees,PPlans.
-/
import Derived.Deep.Cut
import Derived.Deep.CutRange
import Derived.Test.YtjapkoofjlmdgaaGreatDoorRows
import Derived.WalkKit
import Derived.Deep.QuietTactic
import Derived.Deep.RegionHeld3
import Derived.Laws.Append
import Derived.Test.YtjapkoofjlmdgaaGreatDoorJ01
import Derived.Test.YtjapkoofjlmdgaaGreatDoorJ02
import Derived.Test.YtjapkoofjlmdgaaGreatDoorJ03
import Derived.Test.YtjapkoofjlmdgaaGreatDoorJ04
import Derived.Test.YtjapkoofjlmdgaaGreatDoorJ06
import Derived.Test.YtjapkoofjlmdgaaGreatDoorJ08
set_option linter.unusedSimpArgs false
set_option linter.unusedVariables false
set_option maxRecDepth 100000
set_option maxHeartbeats 0
open Go.Value renaming agg→aK,bool→aX,int→J,slice→U,string→G,string→bL
open Option renaming none→N,some→H
open Go.IntKind renaming i64→Q
open Go.Op renaming bytesLess→aA
open Bool renaming and_eq_true→aB,false→Z,false_eq_true→aJ,true→X
open Go.Obj renaming cells→Y
open Go renaming Calls→aN,World→aZ,below_drewN→bH,lt_of_block→aC,wpAnyH_done→bW
open Go.Proofs.Tryz renaming func195→aV,func197→bN,func253→bM,ntmps195→aU,ntmps197→bJ,ntmps253→bI,prog→aD,results195→aS,results253→bD,underlying230→aG
open Go.RowKit.Below renaming refl→aE
open Go.World renaming frozen?→aF,size_alloc→aI
open Go.Ending renaming returned→aH
open List renaming all_eq_true→bU,append_nil→aL,cons_append→bT,drop_eq_getElem_cons→bG,eq_nil_of_length_eq_zero→aR,flatMap_append→bQ,getElem?_eq_getElem→aM,getElem?_eq_some_iff→bF,length_append→aT,length_eq_one_iff→aW,length_zip→bX,mem_append_right→bO,mem_of_getElem?→bP,take_add_one→bS,take_append_drop→aY,take_append_of_le_length→bC,take_length→bB,zip_append→bE
open Nat renaming le_of_lt→bA,le_refl→aO,le_trans→aP
open UInt8 renaming ofNat→aQ
open Option.some renaming injEq→bK
open Go.Value.agg renaming inj→bR
open Go.Addr.mk renaming injEq→bV
namespace Go.Proofs.YtjapkoofjlmdgaaGreatDoor
section
open Go.RowKit
def isS (at' col op n:Int)(yes:Bool):Sp:=if isC at' col op n then(if yes then Ld (kb zero)else⟨kb zero++ffW,noW++ffW⟩)else Ld noW
def V0 (at' col op:Int)(ao:Int)(av:V)(an:Int)(bo:Int)(bv:V)(bn:Int)(yes:Bool):Sp:=
 if Mp ao av.k||Mp bo bv.k then noS
 else if decide (op=5)&&isC at' col ao an&&decide (bo=1)then Vz bv yes
 else if decide (op=5)&&decide (ao=1)&&isC at' col bo bn then Vz av yes
 else if decide (op=6)&&isC at' col ao an&&decide (bo=1)then Uw bv yes
 else if decide (op=6)&&decide (ao=1)&&isC at' col bo bn then Rn av yes
 else Ld noW
theorem V6 (w):aN aD 179 #[G ⟨#[]⟩] w fun e w'=>e=aH (aK #[G noW,G (noW++ffW)])∧Below w.heap.size w w':=Js noW w (by decide)
theorem A24 {at' col op n}(h:isC at' col op n=X):op=2:=by
 unfold isC at h;grind
theorem Aom (at' col)(pop pk pn)(px ps pm:Wd)(pi)(pa)(pl pc)(yes)(w)(hn:pop=2→pi≤9223372036854775807):
  aN aD 253 #[aK #[J Q at',J Q col],aK #[J Q pop,J Q pk,J Q pn,G px,G ps,G pm,J Q pi,U pa pl pc],aX yes] w fun e w'=>e=aH (isS at' col pop pi yes).val∧Below w.heap.size w w':=by
 have HI:=fun W=>Yq at' col pop ⟨pk,pn,px⟩ ps pm pi pa pl pc W hn
 have HK:=fun W vb h=>Q4 zero vb W (by decide) h
 have hz:=Ad6 zero;have HB:=fun W=>Js (kb zero) W (by omega)
 have H0:=V6;have E:Hid ((isS at' col pop pi yes).val=if isC at' col pop pi then(if yes then aK #[G (kb zero),G (kb zero++ffW)]else aK #[G (kb zero++ffW),G (noW++ffW)])else aK #[G noW,G (noW++ffW)]):=by
  show _=_;unfold isS;split
  ·split<;>rfl
  ·rfl
 rw[E.out];clear E hz;generalize kb zero=k at HK HB;generalize isC at' col pop pi=ic at HI;unfold ffW at H0⊢;simp only[zero]at HK;generalize(noW++⟨_⟩:Wd)=f1 at H0;obtain⟨ae,B0,B1,B2,-⟩:=al3 w (Y #[J Q at',J Q col] 250) (Y #[J Q pop,J Q pk,J Q pn,G px,G ps,G pm,J Q pi,U pa pl pc] 69) (Y #[G noW,G noW] 230);generalize hW:((w.alloc _).alloc _).alloc _=W at B0 B1 B2 ae;have HW:Hid _:=hW;clear hW;cases ic
 ·simp only[aJ,if_false];go_enter bM,bI;go_upto_region 1 with fail;rw[HW.out];go_wp2_with(first
   |(go_fit(HK _ _ (Ab _ _));rintro e w1 ⟨rfl,ac⟩;have z1:=Ac (Aq _ _) ac)
   |(go_at_call_of 179 (bL k);go_must(go_fit(HB _);rintro e w2 ⟨rfl,ad⟩;have z2:=Ac z1 ad;have z3:Below _ W (w2.alloc (Y #[G k,G (k++⟨#[255]⟩)] 230)):=z2.alloc z2.size _;have D0:=(z3.block _ (aC B0)).trans B0;have D1:=(z3.block _ (aC B1)).trans B1;have c0:=Aa D0 (j:=0) (u:=J _ at') rfl;have c1:=Aa D0 (j:=1) (u:=J _ col) rfl;have e0:=Aa D1 (j:=0) (u:=J _ pop) rfl;have e1:=Aa D1 (j:=1) (u:=J _ pk) rfl;have e2:=Aa D1 (j:=2) (u:=J _ pn) rfl;have e3:=Aa D1 (j:=3) (u:=G px) rfl;have e4:=Aa D1 (j:=4) (u:=G ps) rfl;have e5:=Aa D1 (j:=5) (u:=G pm) rfl;have e6:=Aa D1 (j:=6) (u:=J _ pi) rfl;have e7:=Aa D1 (j:=7) (u:=U pa pl pc) rfl))
   |(go_fit(HI _);rintro e w3 ⟨rfl,aa⟩;have z4:=Ac z3 aa;obtain⟨m0,m1,m2,m3,m4⟩:=A5 (Ab w2 (Y #[G k,G (k++⟨#[255]⟩)] 230)) aa;obtain⟨r0,r1,r2,r3,r4⟩:=A5 B2 z4)
   |(go_fit(H0 _);rintro e w4 ⟨rfl,ab⟩;have z5:=Ac z4 ab;obtain⟨r0,r1,r2,r3,r4⟩:=A5 B2 z5))
  exact Ga _ _ bD rfl rfl r0 (Ac ae z5) (by omega) aG (by rfl)
 ·cases yes
  ·simp only[aJ,if_false,if_true];have F1:=A23;go_enter bM,bI;go_upto_region 1 with fail;rw[HW.out];go_upto_region 6 with(first
   |(go_fit(HK _ _ (Ab _ _));rintro e w1 ⟨rfl,ac⟩;have z1:=Ac (Aq _ _) ac)
   |(go_at_call_of 179 (bL k);go_must(go_fit(HB _);rintro e w2 ⟨rfl,ad⟩;have z2:=Ac z1 ad;have z3:Below _ W (w2.alloc (Y #[G k,G (k++⟨#[255]⟩)] 230)):=z2.alloc z2.size _;have D0:=(z3.block _ (aC B0)).trans B0;have D1:=(z3.block _ (aC B1)).trans B1;have c0:=Aa D0 (j:=0) (u:=J _ at') rfl;have c1:=Aa D0 (j:=1) (u:=J _ col) rfl;have e0:=Aa D1 (j:=0) (u:=J _ pop) rfl;have e1:=Aa D1 (j:=1) (u:=J _ pk) rfl;have e2:=Aa D1 (j:=2) (u:=J _ pn) rfl;have e3:=Aa D1 (j:=3) (u:=G px) rfl;have e4:=Aa D1 (j:=4) (u:=G ps) rfl;have e5:=Aa D1 (j:=5) (u:=G pm) rfl;have e6:=Aa D1 (j:=6) (u:=J _ pi) rfl;have e7:=Aa D1 (j:=7) (u:=U pa pl pc) rfl))
   |(go_fit(HI _);rintro e w3 ⟨rfl,aa⟩;have z4:=Ac z3 aa;obtain⟨m0,m1,m2,m3,m4⟩:=A5 (Ab w2 (Y #[G k,G (k++⟨#[255]⟩)] 230)) aa;obtain⟨r0,r1,r2,r3,r4⟩:=A5 B2 z4)
   |(go_fit(H0 _);rintro e w4 ⟨rfl,ab⟩;have z5:Below W.heap.size W w4:=Ac z4 ab;obtain⟨r0,r1,r2,r3,r4⟩:=A5 B2 z5))
   have KS:Hid (∀V,Below _ w3 V→V.cell? _=H _):=fun V hV=>(hV.cell (aC m0)).trans m2
   have y0:=KS.out _ (aE _ _).drew;have af:w2.heap.size≠w.heap.size+2:=by have:=z2.size;have:=aC B2;omega
   go_region_held3(fun V=>V.cell? ⟨w2.heap.size,1,N⟩=H (G (k++⟨#[255]⟩)))
    (with_reducible first|omega|omega|exact(Tc af _ _ 1).trans y1)
    (first|(refine(H0 _).mono ?_;rintro e w4 ⟨rfl,ab⟩;have q4:=Ac (aE _ _).drew ab;have z5:=Ac z4 q4;obtain⟨r0,r1,r2,r3,r4⟩:=A5 B2 z5;have y1:=KS.out _ q4))
   go_wp2;exact Ga _ _ bD rfl rfl r0 (Ac ae z5) (by omega) aG (by rfl)
  ·simp only[if_true];go_enter bM,bI;go_upto_region 1 with fail;rw[HW.out];go_wp2_with(first
   |(go_fit(HK _ _ (Ab _ _));rintro e w1 ⟨rfl,ac⟩;have z1:=Ac (Aq _ _) ac)
   |(go_at_call_of 179 (bL k);go_must(go_fit(HB _);rintro e w2 ⟨rfl,ad⟩;have z2:=Ac z1 ad;have z3:Below _ W (w2.alloc (Y #[G k,G (k++⟨#[255]⟩)] 230)):=z2.alloc z2.size _;have D0:=(z3.block _ (aC B0)).trans B0;have D1:=(z3.block _ (aC B1)).trans B1;have c0:=Aa D0 (j:=0) (u:=J _ at') rfl;have c1:=Aa D0 (j:=1) (u:=J _ col) rfl;have e0:=Aa D1 (j:=0) (u:=J _ pop) rfl;have e1:=Aa D1 (j:=1) (u:=J _ pk) rfl;have e2:=Aa D1 (j:=2) (u:=J _ pn) rfl;have e3:=Aa D1 (j:=3) (u:=G px) rfl;have e4:=Aa D1 (j:=4) (u:=G ps) rfl;have e5:=Aa D1 (j:=5) (u:=G pm) rfl;have e6:=Aa D1 (j:=6) (u:=J _ pi) rfl;have e7:=Aa D1 (j:=7) (u:=U pa pl pc) rfl))
   |(go_fit(HI _);rintro e w3 ⟨rfl,aa⟩;have z4:=Ac z3 aa;obtain⟨m0,m1,m2,m3,m4⟩:=A5 (Ab w2 (Y #[G k,G (k++⟨#[255]⟩)] 230)) aa;obtain⟨r0,r1,r2,r3,r4⟩:=A5 B2 z4)
   |(go_fit(H0 _);rintro e w4 ⟨rfl,ab⟩;have z5:Below W.heap.size W w4:=Ac z4 ab;obtain⟨r0,r1,r2,r3,r4⟩:=A5 B2 z5))
   exact Ga _ _ bD rfl rfl r0 (Ac ae z4) (by omega) aG (by rfl)
theorem A4c (w)(o1 o2 o3 o4):Below w.heap.size w ((((w.alloc o1).alloc o2).alloc o3).alloc o4):=(Hx w o1 o2 o3).alloc (by simp;omega) _
theorem A25 (w:aZ)(o1 o2 o3 o4):((((w.alloc o1).alloc o2).alloc o3).alloc o4).heap[w.heap.size+3]?=H o4:=by
 have h:=Ab (((w.alloc o1).alloc o2).alloc o3) o4;simp_all
theorem A4d (w)(o1 o2 o3 o4):((((w.alloc o1).alloc o2).alloc o3).alloc o4).heap[w.heap.size]?=H o1∧((((w.alloc o1).alloc o2).alloc o3).alloc o4).heap[w.heap.size+1]?=H o2∧((((w.alloc o1).alloc o2).alloc o3).alloc o4).heap[w.heap.size+2]?=H o3∧((((w.alloc o1).alloc o2).alloc o3).alloc o4).heap[w.heap.size+3]?=H o4∧Below w.heap.size w ((((w.alloc o1).alloc o2).alloc o3).alloc o4):=
 ⟨Ad (Ad (Ad (Ab _ _) _) _) _,Ad (Ad (Ca _ _ _) _) _,Ad (Fe _ _ _ _) _,A25 _ _ _ _ _,A4c _ _ _ _ _⟩
theorem A26 {W V}{g}{t0 t1 t2 t3}{a0 a1 p0 p1 p2 p3 p4 p5 p6 p7 q0 q1 q2 q3 q4 q5 q6 q7 z0 z1}(B0:W.heap[g]?=H (Y #[a0,a1] t0))(B1:W.heap[g+1]?=H (Y #[p0,p1,p2,p3,p4,p5,p6,p7] t1))(B2:W.heap[g+2]?=H (Y #[q0,q1,q2,q3,q4,q5,q6,q7] t2))(B3:W.heap[g+3]?=H (Y #[z0,z1] t3))(zz:Below W.heap.size W V):
  V.heap[g+3]?=H (Y #[z0,z1] t3)∧V.cell? ⟨g+3,0,N⟩=H z0∧V.cell? ⟨g+3,1,N⟩=H z1∧V.frozen? ⟨g+3,0,N⟩=Z∧V.frozen? ⟨g+3,1,N⟩=Z∧V.cell? ⟨g,0,N⟩=H a0∧V.cell? ⟨g,1,N⟩=H a1∧V.cell? ⟨g+1,0,N⟩=H p0∧V.cell? ⟨g+1,1,N⟩=H p1∧V.cell? ⟨g+1,2,N⟩=H p2∧V.cell? ⟨g+1,3,N⟩=H p3∧V.cell? ⟨g+1,4,N⟩=H p4∧V.cell? ⟨g+1,5,N⟩=H p5∧V.cell? ⟨g+1,6,N⟩=H p6∧V.cell? ⟨g+1,7,N⟩=H p7∧V.cell? ⟨g+2,0,N⟩=H q0∧V.cell? ⟨g+2,1,N⟩=H q1∧V.cell? ⟨g+2,2,N⟩=H q2∧V.cell? ⟨g+2,3,N⟩=H q3∧V.cell? ⟨g+2,4,N⟩=H q4∧V.cell? ⟨g+2,5,N⟩=H q5∧V.cell? ⟨g+2,6,N⟩=H q6∧V.cell? ⟨g+2,7,N⟩=H q7:=by
 obtain⟨r0,r1,r2,r3,r4⟩:=A5 B3 zz;have D0:=(zz.block _ (aC B0)).trans B0;have D1:=(zz.block _ (aC B1)).trans B1;have D2:=(zz.block _ (aC B2)).trans B2;exact⟨r0,r1,r2,r3,r4,Aa D0 rfl,Aa D0 rfl,Aa D1 rfl,Aa D1 rfl,Aa D1 rfl,Aa D1 rfl,Aa D1 rfl,Aa D1 rfl,Aa D1 rfl,Aa D1 rfl,Aa D2 rfl,Aa D2 rfl,Aa D2 rfl,Aa D2 rfl,Aa D2 rfl,Aa D2 rfl,Aa D2 rfl,Aa D2 rfl⟩
def Alr (op:Int)(v:V)(n:Int):Prop:=(op=1→good v=X)∧v.s.size≤maxLen∧(op=2→n≤9223372036854775807)
theorem Z5 (ac col:Int)(op:Int)(aa pk pn:Int)(px ps pm:Wd)(pi:Int)(pa:Option Addr)(pl pc:Nat)(ab qk qn:Int)(qx qs qm:Wd)(qi:Int)(qa:Option Addr)(ql qc:Nat)(yes:Bool)(w:aZ)(ae:op=5∨op=6)(hp:Alr aa ⟨pk,pn,px⟩ pi)(hq:Alr ab ⟨qk,qn,qx⟩ qi):
  aN aD 254 #[aK #[J Q ac,J Q col],J Q op,aK #[J Q aa,J Q pk,J Q pn,G px,G ps,G pm,J Q pi,U pa pl pc],aK #[J Q ab,J Q qk,J Q qn,G qx,G qs,G qm,J Q qi,U qa ql qc],aX yes] w fun e w'=>e=aH (V0 ac col op aa ⟨pk,pn,px⟩ pi ab ⟨qk,qn,qx⟩ qi yes).val∧Below w.heap.size w w':=by
 have af:=fun W=>Xe aa ⟨pk,pn,px⟩ ps pm pi pa pl pc W
 have ag:=fun W=>Xe ab ⟨qk,qn,qx⟩ qs qm qi qa ql qc W
 have ah:=fun W=>Yq ac col aa ⟨pk,pn,px⟩ ps pm pi pa pl pc W hp.2.2
 have ai:=fun W=>Yq ac col ab ⟨qk,qn,qx⟩ qs qm qi qa ql qc W hq.2.2
 have D:Mp aa pk=X∨Mp aa pk=Z∧(Mp ab qk=X∨Mp ab qk=Z∧(op=5∨op=6)∧(isC ac col aa pi=X∧aa=2∧(ab=1∨ab≠1)∨isC ac col aa pi=Z∧(aa=1∧(isC ac col ab qi=X∨isC ac col ab qi=Z)∨aa≠1))):=by
  have:=@A24 ac col aa pi;grind
 clear ae;rcases D with n1|⟨n1,n2|⟨n2,rfl|rfl,⟨i1,rfl,rfl|q1⟩|⟨i1,⟨rfl,i2|i2⟩|p1⟩⟩⟩
 all_goals
  generalize hS:V0 _ _ _ _ _ _ _ _ _ _=S;simp_all only[V0,Bool.or_true,Bool.true_or,Bool.or_self,if_true,if_false,decide_true,decide_false,Bool.and_true,Bool.and_false,Bool.true_and,Bool.false_and,aJ,reduceCtorEq,ne_eq,not_false_eq_true,Int.reduceEq,Bool.and_self];subst hS;obtain⟨B0,B1,B2,B3,ad⟩:=A4d w (Y #[J Q ac,J Q col] 250) (Y (Af _ ⟨pk,pn,px⟩ ps pm pi (U pa pl pc)) 69) (Y (Af _ ⟨qk,qn,qx⟩ qs qm qi (U qa ql qc)) 69) (Y #[G noW,G noW] 230);generalize hW:(((w.alloc _).alloc _).alloc _).alloc _=W at B0 B1 B2 B3 ad;have HW:Hid _:=hW;clear hW;have zz:=aE W.heap.size W;obtain⟨r0,r1,r2,r3,r4,c0,c1,e0,e1,e2,e3,e4,e5,e6,e7,g0,g1,g2,g3,g4,g5,g6,g7⟩:=A26 B0 B1 B2 B3 zz;go_enter Tryz.func254,Tryz.ntmps254;go_upto_region 1 with fail;rw[HW.out];go_wp2_with((first|go_fit(af _)|go_fit(ag _)|go_fit(ah _)|go_fit(ai _)|go_fit(Alp ⟨qk,qn,qx⟩ yes _ (hq.1 rfl) hq.2.1)|go_fit(Alp ⟨pk,pn,px⟩ yes _ (hp.1 rfl) hp.2.1)|go_fit(Auy ⟨qk,qn,qx⟩ yes _ (hq.1 rfl) hq.2.1).1|go_fit(Auy ⟨pk,pn,px⟩ yes _ (hp.1 rfl) hp.2.1).2|go_fit(V6 _));rintro e w1 ⟨rfl,aj⟩;(try simp only[Sp.val]);have zz:=Ac zz aj;obtain⟨r0,r1,r2,r3,r4,c0,c1,e0,e1,e2,e3,e4,e5,e6,e7,g0,g1,g2,g3,g4,g5,g6,g7⟩:=A26 B0 B1 B2 B3 zz);exact Ga _ _ Tryz.results254 rfl rfl r0 (Ac ad zz) (by omega) aG (by rfl)
def Bt (at' col:Int):Nat→E→Bool→Sp
 |0,_,_=>Ld noW
 |d+1,.mk op _ _ _ _ l,yes=>
  if op=9 then(match l with|a::_=>Bt at' col d a (!yes)|[]=>Ld noW)
  else if op=7∨op=8 then(match l with|a::b::_=>(if yes=decide (op=7)then(Bt at' col d a yes).both (Bt at' col d b yes)else(Bt at' col d a yes).either (Bt at' col d b yes))|_=>Ld noW)
  else if op=10 then(match l with|a::_=>isS at' col a.opI a.nI yes|[]=>Ld noW)
  else if op=5∨op=6 then(match l with|a::b::_=>V0 at' col op a.opI a.vV a.nI b.opI b.vV b.nI yes|_=>Ld noW)
  else if op=1 then noS else Ld noW
def Td (V wx:aZ)(pa pb:Nat)(l1 h1 l2 h2:Wd):Prop:=
 wx.heap[pa]?=H (Y #[G l1,G h1] 230)∧wx.heap[pb]?=H (Y #[G l2,G h2] 230)∧Below V.heap.size V wx
theorem Lr {w:aZ}{g}{p q a b}{t}(h:w.heap[g]?=H (Y #[p,q] t)):((w.setCell ⟨g,0,N⟩ a).setCell ⟨g,1,N⟩ b).heap[g]?=H (Y #[a,b] t):=by
 rw[upd (upd h 0 a) 1 b];rfl
theorem Ez {w:aZ}{g b}{x}{a c}(h:w.heap[b]?=H x)(hn:b≠g):((w.setCell ⟨g,0,N⟩ a).setCell ⟨g,1,N⟩ c).heap[b]?=H x:=by
 simp only[World.setCell,Array.getElem?_modify];grind
theorem Auz (w:aZ)(g)(a c):((w.setCell ⟨g,0,N⟩ a).setCell ⟨g,1,N⟩ c).heap.size=w.heap.size:=by simp
theorem Au0 {V w2}{l1 h1 l2 h2:Wd}(hz:Below V.heap.size V w2):Td V ((w2.alloc (Y #[G l1,G h1] 230)).alloc (Y #[G l2,G h2] 230)) w2.heap.size (w2.heap.size+1) l1 h1 l2 h2:=
 ⟨Ad (Ab _ _) _,Al (A6 _ _) _,Am (Am hz _) _⟩
theorem A04 {V w2}{l1 h1 l2 h2:Wd}(hz:Below V.heap.size V w2):Td V ((w2.alloc (Y #[G l2,G h2] 230)).alloc (Y #[G l1,G h1] 230)) (w2.heap.size+1) w2.heap.size l1 h1 l2 h2:=by
 obtain⟨a,b,e⟩:=Au0 (l1:=l2) (h1:=h2) (l2:=l1) (h2:=h1) hz;exact⟨b,a,e⟩
theorem Ux {V w2}{l1 h1 l2 h2:Wd}{g}(hz:Below V.heap.size V w2)(p:w2.heap[g]?=H (Y #[G noW,G noW] 230))(hg:V.heap.size≤g):
  Td V (((w2.setCell ⟨g,0,N⟩ (G l1)).setCell ⟨g,1,N⟩ (G h1)).alloc (Y #[G l2,G h2] 230)) g w2.heap.size l1 h1 l2 h2:=
 ⟨Ad (Lr p) _,Al (Auz _ _ _ _) _,Am (Ho (Ho hz hg _) hg _) _⟩
theorem V8 {V w2}{l1 h1 l2 h2:Wd}{g}(hz:Below V.heap.size V w2)(p:w2.heap[g]?=H (Y #[G noW,G noW] 230))(hg:V.heap.size≤g):
  Td V (((w2.setCell ⟨g,0,N⟩ (G l2)).setCell ⟨g,1,N⟩ (G h2)).alloc (Y #[G l1,G h1] 230)) w2.heap.size g l1 h1 l2 h2:=by
 obtain⟨a,b,e⟩:=Ux (l1:=l2) (h1:=h2) (l2:=l1) (h2:=h1) hz p hg;exact⟨b,a,e⟩
theorem Se {V w2}{l1 h1 l2 h2:Wd}{g}(hz:Below V.heap.size V w2)(p:w2.heap[g]?=H (Y #[G noW,G noW] 230))(hg:V.heap.size≤g):
  Td V (((w2.alloc (Y #[G l2,G h2] 230)).setCell ⟨g,0,N⟩ (G l1)).setCell ⟨g,1,N⟩ (G h1)) g w2.heap.size l1 h1 l2 h2:=
 ⟨Lr (Ad p _),Ez (Ab _ _) (by grind),Ho (Ho (Am hz _) hg _) hg _⟩
theorem Te {V w2}{l1 h1 l2 h2:Wd}{g}(hz:Below V.heap.size V w2)(p:w2.heap[g]?=H (Y #[G noW,G noW] 230))(hg:V.heap.size≤g):
  Td V (((w2.alloc (Y #[G l1,G h1] 230)).setCell ⟨g,0,N⟩ (G l2)).setCell ⟨g,1,N⟩ (G h2)) w2.heap.size g l1 h1 l2 h2:=by
 obtain⟨a,b,e⟩:=Se (l1:=l2) (h1:=h2) (l2:=l1) (h2:=h1) hz p hg;exact⟨b,a,e⟩
theorem Ij {V w2}{l1 h1 l2 h2:Wd}{g g'}(hz:Below V.heap.size V w2)(p:w2.heap[g]?=H (Y #[G noW,G noW] 230))(p':w2.heap[g']?=H (Y #[G noW,G noW] 230))(hg:V.heap.size≤g)(aa:V.heap.size≤g')(ab:g≠g'):
  Td V ((((w2.setCell ⟨g,0,N⟩ (G l1)).setCell ⟨g,1,N⟩ (G h1)).setCell ⟨g',0,N⟩ (G l2)).setCell ⟨g',1,N⟩ (G h2)) g g' l1 h1 l2 h2:=
 ⟨Ez (Lr p) ab,Lr (Ez p' (Ne.symm ab)),Ho (Ho (Ho (Ho hz hg _) hg _) aa _) aa _⟩
def V9 (a b:Int):Int:=if a=0∨b=0 then 0 else if a=1∧b=1 then 1 else 2
def tOr (a b:Int):Int:=if a=1∨b=1 then 1 else if a=0∧b=0 then 0 else 2
def Yr (a:Int):Int:=if a=0 then 1 else if a=1 then 0 else 2
theorem A05 (a b)(w):aN aD 350 #[J Q a,J Q b] w fun e w'=>e=aH (J Q (V9 a b))∧w'=w:=by
 by_cases aa:a=0<;>by_cases ab:b=0<;>by_cases ac:a=1<;>by_cases ad:b=1
 all_goals
  go_enter Tryz.func350,Tryz.ntmps350;go_wp2
  all_goals
   go_ret;exact⟨Au (by simp_all [V9]),rfl⟩
theorem A27 (a b)(w):aN aD 351 #[J Q a,J Q b] w fun e w'=>e=aH (J Q (tOr a b))∧w'=w:=by
 by_cases aa:a=0<;>by_cases ab:b=0<;>by_cases ac:a=1<;>by_cases ad:b=1
 all_goals
  go_enter Tryz.func351,Tryz.ntmps351;go_wp2
  all_goals
   go_ret;exact⟨Au (by simp_all [tOr]),rfl⟩
theorem A06 (a)(w):aN aD 348 #[J Q a] w fun e w'=>e=aH (J Q (Yr a))∧w'=w:=by
 by_cases aa:a=0<;>by_cases ab:a=1
 all_goals
  go_enter Tryz.func348,Tryz.ntmps348;go_wp2
  all_goals
   go_ret;exact⟨Au (by simp_all [Yr]),rfl⟩
end
section
def L0 (op:Int):Nat:=if op=9∨op=10 then 1 else if 3≤op∧op≤8 then 2 else 0
theorem A07 (op):L0 op≤2:=by
 unfold L0;grind
def D4 (op:Int)(l:List E):List E:=if l.length=L0 op then l else[]
def E.kids:E→List E
 |.mk op _ _ _ _ l=>D4 op l
theorem Ap5 (e:E):e.kids.length≤2:=by
 cases e with
 |mk op v s name n l=>
  simp only[E.kids,D4];split
  ·rename_i h;rw[h];exact A07 op
  simp
def ofV (v:V):Int:=if v.k=3 then v.n%2 else 2
def Fs (n:Int):V:=if n=0∨n=1 then⟨3,n,noW⟩else zero
def whV (b:Bool):V:=⟨3,if b then 1 else 0,noW⟩
def Qd (n:Int):V:=if good ⟨1,n,noW⟩then⟨1,n,noW⟩else zero
def Mq (row:List V)(n:Int):V:=if 0≤n then(row[n.toNat]?).getD zero else zero
def Je (op:Int)(x:V)(n:Int)(row:List V):V:=if op=1 then x else if op=2 then Mq row n else zero
def Mr (op:Int)(a:V):V:=if op=9 then Fs (Yr (ofV a))else if op=10 then whV (decide (a.k=0))else zero
def Hf (v:V):Bool:=!decide (v.k=0)&&good v
def knV (op:Int)(a b:V):V:=
 if op=5 then whV (decide (Bs a b=0))else if op=6 then whV (decide (Bs a b<0))else if a.k=1 then(if op=3 then Qd (a.n+b.n)else if op=4 then Qd (a.n-b.n)else zero)else zero
def Hr (op:Int)(a b:V):V:=
 if op=7 then Fs (V9 (ofV a) (ofV b))else if op=8 then Fs (tOr (ofV a) (ofV b))else if Hf a=X∧Hf b=X∧a.k=b.k then knV op a b else zero
def Ab2 (op:Int)(x:V)(n:Int)(cs row:List V):V:=
 match cs with
 |[a]=>Mr op a
 |[a,b]=>Hr op a b
 |_=>Je op x n row
mutual
def ev (row:List V):E→V
 |.mk op x _ _ n l=>Ab2 op x n (if l.length=L0 op then evs row l else[]) row
def evs (row:List V):List E→List V
 |[]=>[]
 |e::l=>ev row e::evs row l
end
theorem Ap6 (row):∀l:List E,evs row l=l.map (ev row)
 |[]=>by rfl
 |e::l=>by rw[evs,Ap6 row l];rfl
theorem Pa (row)(op)(x)(s name)(n)(l):ev row (.mk op x s name n l)=Ab2 op x n ((D4 op l).map (ev row)) row:=by
 rw[ev,D4];split
 ·rw[Ap6]
 rfl
mutual
def E.nodes:E→Nat
 |.mk _ _ _ _ _ l=>Es l+1
def Es:List E→Nat
 |[]=>0
 |e::l=>e.nodes+Es l
end
theorem Xf:∀a b:List E,Es (a++b)=Es a+Es b
 |[],b=>by simp[Es]
 |e::a,b=>by simp[Es,Xf a b];omega
theorem Au1 (e:E):0<e.nodes:=by cases e;simp[E.nodes]
theorem Ad7:∀l:List E,l.length≤Es l
 |[]=>by simp
 |e::l=>by have:=Ad7 l;have:=Au1 e;simp[Es];omega
theorem Ad8 (e:E):Es e.kids+1≤e.nodes:=by
 cases e with
 |mk op v s name n l=>
  simp only[E.kids,D4,E.nodes];split
  ·simp
  ·simp[Es]
structure Queue (e:E) (L:List E) (i:Nat):Prop where
 eq:L=e::(L.take i).flatMap E.kids
 le:i≤L.length
 few:i+Es (L.drop i)≤e.nodes
 ahead:∀j,j<i→j<1+((L.take j).flatMap E.kids).length
 all:∀P:E→Prop,P e→(∀y,P y→∀z∈y.kids,P z)→∀x∈L,P x
theorem Aon (e):Queue e [e] 0:=⟨rfl,by simp,by simp[Es],fun j h=>absurd h (by omega),fun P h _ x hx=>by simp at hx;subst hx;exact h⟩
theorem Queue.len {e}{L}{i}(h:Queue e L i):L.length≤e.nodes:=by
 have:=Ad7 (L.drop i);have:=h.few;grind
theorem Queue.step {e}{L}{i}(h:Queue e L i){x}(hx:L[i]?=H x):Queue e (L++x.kids) (i+1):=by
 have hi:=by rw[bF]at hx;exact hx.1
 have ht:(L++x.kids).take (i+1)=L.take i++[x]:=by
  rw[bC (by omega),bS,hx];rfl
 have hd:L.drop i=x::L.drop (i+1):=by
  rw[bG hi];rw[aM hi]at hx;simp at hx;rw[hx]
 refine⟨?_,by grind,?_,fun j hj=>?_,fun P h1 h2 y hy=>?_⟩
 ·rw[ht,bQ]
  conv=>lhs;rw[h.eq]
  simp
 ·have h1:=h.few;have h2:=Ad8 x;rw[hd]at h1;rw[List.drop_append_of_le_length (by omega),Xf];simp only[Es]at h1;omega
 ·rw[bC (by omega)];rcases Nat.lt_or_eq_of_le (Nat.lt_succ_iff.mp hj)with h1|h1
  ·exact h.ahead j h1
  ·subst h1;have:L.length=1+((L.take j).flatMap E.kids).length:=by
    conv=>lhs;rw[h.eq]
    simp;omega
   omega
 ·rcases List.mem_append.1 hy with hy|hy
  ·exact h.all P h1 h2 y hy
  ·exact h2 x (h.all P h1 h2 x (bP hx)) y hy
def beg (L:List E)(i:Nat):Nat:=1+((L.take i).flatMap E.kids).length
theorem Ayn {L}{i}{x}(hx:L[i]?=H x):beg L (i+1)=beg L i+x.kids.length:=by
 unfold beg;rw[bS,hx,bQ];grind
theorem Queue.whole {e}{L}(h:Queue e L L.length):beg L L.length=L.length:=by
 unfold beg
 conv=>rhs;rw[h.eq]
 grind
theorem Queue.own {e}{L}(h:Queue e L L.length){i}{x}(hx:L[i]?=H x):(L.drop (beg L i)).take x.kids.length=x.kids:=by
 have hi:=by rw[bF]at hx;exact hx.1
 have hL:=h.eq;rw[bB]at hL;have hd:L.drop i=x::L.drop (i+1):=by
  rw[bG hi];rw[aM hi]at hx;simp at hx;rw[hx]
 have aa:L.flatMap E.kids=(L.take i).flatMap E.kids++(x.kids++(L.drop (i+1)).flatMap E.kids):=by
  conv=>lhs;rw[←aY i L,hd]
  simp
 conv=>lhs;rw[hL]
 rw[show beg _ i=((L.take i).flatMap E.kids).length+1 from by
  unfold beg;grind]
 grind
theorem Queue.behind {e}{L}(h:Queue e L L.length){i}(hi:i<L.length):i<beg L i:=h.ahead i hi
theorem Queue.at {e}{L}(h:Queue e L L.length){i}{x}(hx:L[i]?=H x){j}{y}(hy:x.kids[j]?=H y):L[beg L i+j]?=H y:=by
 rw[←h.own hx,List.getElem?_take]at hy;grind
theorem Queue.beg_le {e}{L}(h:Queue e L L.length)(i):beg L i≤L.length:=by
 rw[←h.whole];unfold beg;rw[bB]
 conv=>rhs;rw[←aY i L]
 grind
theorem Queue.first {e}{L}{i}(h:Queue e L i):L[0]?=H e:=by rw[h.eq];rfl
end
section
open Go.RowKit
def Ms (s:Sp)(k:List UInt8):Prop:=aA k s.lo.data.toList=Z∧aA k s.hi.data.toList=X
def okT (T:List UInt8):Prop:=aA T [255]=X
theorem P5 (l):aA l []=Z:=by cases l<;>rfl
theorem Ro {v}(h:good v=X):(kb v).data.toList=keyOf v:=by unfold kb;rw[Br,Rf h]
theorem I9 (a b:Wd):(a++b).data.toList=a.data.toList++b.data.toList:=by rfl
theorem Af3:ffW.data.toList=[255]:=rfl
theorem Ayo (a:Wd):(a.extract 0 1).data.toList=a.data.toList.take 1:=by simp
theorem Aax {v}(hg:good v=X)(T)(hT:okT T):∃t,keyOf v=aQ (v.k.toNat+1)::t∧aA (t++T) [255]=X:=by
 rcases Gz hg with h|h|h
 ·refine⟨[],by rw[Et h,h];rfl,by assumption⟩
 ·refine⟨_,by rw[Fv h,h];rfl,?_⟩;have hn:=U7 h hg;have h1:aQ ((v.n+1073741824).toNat/16777216)<255:=A3o (b:=255) (by omega) (by simp) (by omega);simp only[be4,bT];exact G7 h1 _ _
 ·refine⟨_,by rw[Hh h,h];rfl,?_⟩;cases hs:v.s.data.toList with
  |nil=>rfl
  |cons c l=>
   have hc:c<255:=by
    have aa:Lh v.s.data.toList=X:=by
     unfold good at hg;rw[if_neg (by omega),if_neg (by omega),if_pos h]at hg;simp only[aB]at hg;exact hg.2
    rw[hs]at aa;simp only[Lh,List.all_cons,aB,Qh,decide_eq_true_eq]at aa;have:=aa.1.1.2;rw[UInt8.lt_iff_toNat_lt];show c.toNat<255;omega
   exact G7 hc _ _
theorem Ad9 {v}(hg:good v=X){T}(hT:okT T):Ms (Ld noW) (keyOf v++T):=by
 obtain⟨t,ht,_⟩:=Aax hg T hT;refine⟨P5 _,?_⟩;show aA _ ((noW++ffW:Wd).data.toList)=X;rw[I9,Af3,ht];rcases Gz hg with h|h|h<;>rw[h]<;>exact G7 (by simp) _ _
theorem Ap7 {s o}{k}(h:Ms s k)(g:Ms o k):Ms (s.both o) k:=by
 refine⟨?_,?_⟩
 ·show aA k (Ly _ _).data.toList=Z;unfold Ly;split
  ·exact g.1
  ·exact h.1
 ·show aA k (Lz _ _).data.toList=X;unfold Lz;split
  ·exact g.2
  ·exact h.2
theorem A08 {a b c}(h:aA b a=Z)(k:aA b c=X):aA a c=X:=by
 have:=Xi (a:=str a) (b:=str b) (c:=str c) (by rw[Cw,Br,Br];omega) (by rw[Cw,Br,Br];omega);rwa[Cw,Br,Br]at this
theorem Aay {s}{k}(h:Ms s k):s.empty=Z:=by
 unfold Sp.empty;rw[Cw,A08 h.1 h.2];rfl
theorem Ahk {s o}{k}(h:Ms s k∨Ms o k):Ms (s.either o) k:=by
 unfold Sp.either;split
 ·rename_i he;rcases h with h|h
  ·rw[Aay h]at he;grind
  omega
 ·split
  ·rename_i he;rcases h with h|h
   ·omega
   ·rw[Aay h]at he;grind
  ·have aa:∀a b,(aA k a.data.toList=Z∨aA k b.data.toList=Z)→aA k (Lz a b).data.toList=Z:=by
    intro a b hh;unfold Lz;split
    ·rename_i hl;rcases hh with hh|hh
     ·cases hq:aA k _ with
      |false=>rfl
      |true=>
       rw[Cw]at hl;have h1:=Co (b:=b) (by rw[Cw,Br];omega) (by rw[Cw];omega);rw[Cw,Br,hh]at h1;grind
     omega
    ·rename_i hl;rcases hh with hh|hh
     ·omega
     ·cases hq:aA k _ with
      |false=>rfl
      |true=>
       have ab:=by simpa using hl
       have h1:=Rq (by rw[Cw,Br];omega) ab;rw[Cw,Br,hh]at h1;grind
   have ac:∀a b,(aA k a.data.toList=X∨aA k b.data.toList=X)→aA k (Ly a b).data.toList=X:=by
    intro a b hh;unfold Ly;split
    ·rename_i hl;rcases hh with hh|hh
     ·have h1:=Co (by rw[Cw,Br];omega) hl;rw[Cw,Br]at h1;omega
     omega
    ·rename_i hl;rcases hh with hh|hh
     ·omega
     ·have h1:klt _ a=X:=Rq (b:=b) (by rw[Cw,Br];omega) (by grind);rw[Cw,Br]at h1;omega
   exact⟨aa _ _ (h.imp (·.1) (·.1)),ac _ _ (h.imp (·.2) (·.2))⟩
theorem A09 {u}(hu:good u=X):(skS u).lo.data.toList=[aQ (u.k.toNat+1)]∧(skS u).hi.data.toList=[aQ (u.k.toNat+1),255]:=by
 obtain⟨t,ht⟩:=Ll hu;have h1:((kb u).extract 0 1).data.toList=[aQ (u.k.toNat+1)]:=by rw[Ayo,Ro hu,ht];rfl
 refine⟨h1,?_⟩;show(((kb u).extract 0 1)++ffW).data.toList=_;rw[I9,h1,Af3];rfl
theorem Af4 {v u}(hv:good v=X)(hu:good u=X)(hk:v.k=u.k){T}(hT:okT T):aA (keyOf v++T) (skS u).lo.data.toList=Z∧aA (keyOf v++T) (skS u).hi.data.toList=X:=by
 obtain⟨t,ht,aa⟩:=Aax hv T hT;obtain⟨e1,e2⟩:=A09 hu;rw[e1,e2,ht,hk];refine⟨?_,?_⟩
 ·have:=Dw [aQ (u.k.toNat+1)] (t++T) [];rw[P5]at this;grind
 ·have:=Dw [aQ (u.k.toNat+1)] (t++T) [255];grind
theorem P6 {u}(hu:good u=X):(kb u++ffW).data.toList=keyOf u++[255]:=by rw[I9,Ro hu,Af3]
theorem Ap8 {v u}(hv:good v=X)(hu:good u=X)(hk:v.k=u.k){T}(hT:okT T)(yes)(h:yes=X→Bs v u=0):Ms (Vz u yes) (keyOf v++T):=by
 cases yes
 ·exact Af4 hv hu hk hT
 ·have h0:=h rfl;rcases Ik v u hv hu with⟨e,_⟩|⟨_,e⟩|⟨e,_⟩
  ·omega
  ·refine⟨?_,?_⟩
   ·show aA _ (kb u).data.toList=Z;rw[Ro hu,e];have:=Dw (keyOf u) T [];rw[P5,aL]at this;omega
   ·show aA _ (kb u++ffW).data.toList=X;rw[P6 hu,e,Dw];exact hT
  omega
theorem Ayp {v u}(hv:good v=X)(hu:good u=X)(hk:v.k=u.k){T}(hT:okT T)(yes:Bool)(h:if yes then Bs v u<0 else¬Bs v u<0):Ms (Uw u yes) (keyOf v++T):=by
 obtain⟨k1,k2⟩:=Af4 hv hu hk hT;cases yes
 ·simp only[aJ,if_false]at h;refine⟨?_,k2⟩;show aA _ (kb u).data.toList=Z;rw[Ro hu];rcases Ik v u hv hu with⟨e,_⟩|⟨_,e⟩|⟨_,e⟩
  ·omega
  ·rw[e];have:=Dw (keyOf u) T [];rw[P5,aL]at this;omega
  ·have:=e T [];rw[aL]at this;exact Lk _ _ this
 ·simp only[if_true]at h;refine⟨k1,?_⟩;show aA _ (kb u).data.toList=X;rw[Ro hu];rcases Ik v u hv hu with⟨_,e⟩|⟨e,_⟩|⟨e,_⟩
  ·have:=e T [];grind
  ·omega
  omega
theorem Au2 {v u}(hv:good v=X)(hu:good u=X)(hk:v.k=u.k){T}(hT:okT T)(yes:Bool)(h:if yes then Bs u v<0 else¬Bs u v<0):Ms (Rn u yes) (keyOf v++T):=by
 obtain⟨k1,k2⟩:=Af4 hv hu hk hT;cases yes
 ·simp only[aJ,if_false]at h;refine⟨k1,?_⟩;show aA _ (kb u++ffW).data.toList=X;rw[P6 hu];rcases Ik u v hu hv with⟨e,_⟩|⟨_,e⟩|⟨_,e⟩
  ·omega
  ·rw[←e,Dw];exact hT
  grind
 ·simp only[if_true]at h;refine⟨?_,k2⟩;show aA _ (kb u++ffW).data.toList=Z;rw[P6 hu];rcases Ik u v hu hv with⟨_,e⟩|⟨e,_⟩|⟨e,_⟩
  ·exact Lk _ _ (e _ _)
  ·omega
  omega
theorem Arz:good zero=X:=by rfl
theorem A3y {at' col op n}{v}(hv:good v=X){T}(hT:okT T)(yes)(h:isC at' col op n=X→(decide (v.k=0)=yes)):Ms (isS at' col op n yes) (keyOf v++T):=by
 unfold isS;cases hc:isC at' col op n with
 |false=>exact Ad9 hv hT
 |true=>
  have h1:=h hc;simp only[if_true];have hz:keyOf zero=[1]:=Et rfl;cases yes
  ·simp only[aJ,if_false];have hk:v.k≠0:=by simpa using h1
   refine⟨?_,(Ad9 hv hT).2⟩;show aA _ (kb zero++ffW).data.toList=Z;rw[P6 Arz,hz];obtain⟨t,ht⟩:=Ll hv;refine Lk _ _ ?_;rw[ht];rcases Gz hv with q|q|q
   ·omega
   ·rw[q];rfl
   ·rw[q];rfl
  ·simp only[if_true];have hk:=by simpa using h1
   refine⟨?_,?_⟩
   ·show aA _ (kb zero).data.toList=Z;rw[Ro Arz,hz,Et hk];have:=Dw [1] T [];rw[P5]at this;grind
   ·show aA _ (kb zero++ffW).data.toList=X;rw[P6 Arz,hz,Et hk];assumption
theorem A0g (b):ofV (whV b)=if b then 1 else 0:=by cases b<;>rfl
theorem Als (n):ofV (Fs n)=if n=0 then 0 else if n=1 then 1 else 2:=by
 unfold Fs
 by_cases h0:n=0
 ·subst h0;rfl
 ·by_cases h1:n=1
  ·subst h1;rfl
  ·rw[if_neg (by omega),if_neg h0,if_neg h1];rfl
theorem A1a {v}(h:good v=X):ofV v=2:=by
 unfold ofV;rcases Gz h with q|q|q<;>rw[if_neg (by omega)]
theorem Au3 (row)(op)(x)(s name)(n)(a b)(h:L0 op=2):ev row (.mk op x s name n [a,b])=Hr op (ev row a) (ev row b):=by
 rw[Pa,D4,if_pos (by grind)];rfl
theorem Au4 (row)(op)(x)(s name)(n)(a)(h:L0 op=1):ev row (.mk op x s name n [a])=Mr op (ev row a):=by
 rw[Pa,D4,if_pos (by grind)];rfl
theorem A1b (row)(op)(x)(s name)(n)(h:L0 op=0):ev row (.mk op x s name n [])=Je op x n row:=by
 rw[Pa,D4,if_pos (by grind)];rfl
theorem Rp {d}{op}{x}{s name}{n}{l}(h:geB (d+1) (.mk op x s name n l)=X):(l.length:Int)=Gi op∧Qx op x s name=X∧∀a∈l,geB d a=X:=by
 simp only[geB,aB,decide_eq_true_eq,bU]at h;grind
theorem Alt {d}{e}(h:geB d e=X):(∃d',d=d'+1)∧(e.opI=1→good e.vV=X):=by
 obtain⟨op,x,s,name,n,l⟩:=e;cases d with
 |zero=>simp[geB]at h
 |succ d=>
  refine⟨⟨d,rfl⟩,fun h1=>?_⟩;obtain⟨_,h2,_⟩:=Rp h;have aa:op=1:=h1;subst aa;assumption
theorem Sf {row}{d}{e}(h:geB d e=X)(ho:e.opI=1):ev row e=e.vV:=by
 obtain⟨op,x,s,name,n,l⟩:=e;obtain⟨⟨d,rfl⟩,_⟩:=Alt h;obtain⟨h1,_,_⟩:=Rp h;have aa:op=1:=ho;subst aa;have hl:l=[]:=aR (by have:Gi 1=0:=(by rfl);omega);subst hl;rfl
theorem Ys {row}{d}{e}{at' col}(h:geB d e=X)(hc:isC at' col e.opI e.nI=X):ev row e=Mq row (at'+col):=by
 obtain⟨op,x,s,name,n,l⟩:=e;obtain⟨⟨d,rfl⟩,_⟩:=Alt h;obtain⟨h1,_,_⟩:=Rp h;have aa:isC at' col op n=X:=hc;unfold isC at aa;rw[aB,aB,aB,decide_eq_true_eq,decide_eq_true_eq,decide_eq_true_eq,decide_eq_true_eq]at aa;obtain⟨⟨⟨rfl,q1⟩,q2⟩,q3⟩:=aa;have hl:l=[]:=aR (by have:Gi 2=0:=(by rfl);omega);subst hl;rw[A1b _ _ _ _ _ _ (by rfl),show at'+col=n by omega];rfl
theorem A28 {l:List E}(h:l.length=1):∃a,l=[a]:=aW.1 h
theorem A29:∀{l:List E},l.length=2→∃a b,l=[a,b]
 |[a,b],_=>⟨a,b,rfl⟩
theorem Aea {n}(h:ofV (Fs n)=1):n=1:=by
 rw[Als]at h;omega
theorem Aeb {n}(h:ofV (Fs n)=0):n=0:=by
 rw[Als]at h;omega
theorem A4e {p}(h:Yr p=1):p=0:=by
 unfold Yr at h;omega
theorem A4f {p}(h:Yr p=0):p=1:=by
 unfold Yr at h;omega
theorem A3a {p q}(h:V9 p q=1):p=1∧q=1:=by
 unfold V9 at h;omega
theorem A4g {p q}(h:V9 p q=0):p=0∨q=0:=by
 unfold V9 at h;omega
theorem or1 {p q}(h:tOr p q=1):p=1∨q=1:=by
 unfold tOr at h;omega
theorem or0 {p q}(h:tOr p q=0):p=0∧q=0:=by
 unfold tOr at h;omega
theorem wh1 {b}(h:ofV (whV b)=1):b=X:=by cases b<;>simp_all [A0g]
theorem wh0 {b}(h:ofV (whV b)=0):b=Z:=by cases b<;>simp_all [A0g]
theorem A1c:ofV zero=2:=rfl
theorem A1d {op}(aa:op=5∨op=6){a b}{yes:Bool}(h:ofV (Hr op a b)=(if yes then 1 else 0)):a.k≠0∧b.k≠0∧good a=X∧good b=X∧a.k=b.k∧(if op=5 then decide (Bs a b=0)else decide (Bs a b<0))=yes:=by
 have h2:Hr op a b=if Hf a=X∧Hf b=X∧a.k=b.k then knV op a b else zero:=by
  unfold Hr;rw[if_neg (by omega),if_neg (by omega)]
 rw[h2]at h;split at h
 ·rename_i hh;obtain⟨h3,h4,h5⟩:=hh;simp only[Hf,aB,Bool.not_eq_true',decide_eq_false_iff_not]at h3 h4;refine⟨h3.1,h4.1,h3.2,h4.2,h5,?_⟩;rcases aa with rfl|rfl
  ·have e:knV 5 a b=whV _:=rfl;rw[e]at h;rw[if_pos rfl];cases yes
   ·exact wh0 (by grind)
   ·exact wh1 (by grind)
  ·have e:knV 6 a b=whV _:=rfl;rw[e]at h;rw[if_neg (by simp)];cases yes
   ·exact wh0 (by grind)
   ·exact wh1 (by grind)
 ·rw[A1c]at h;omega
theorem Au5 (at' col)(row)(T)(hT:okT T)(hv:good (Mq row (at'+col))=X){op}(aa:op=5∨op=6){d}{a b}(ha:geB d a=X)(hb:geB d b=X)(yes:Bool)
  (h:ofV (Hr op (ev row a) (ev row b))=(if yes then 1 else 0)):Ms (V0 at' col op a.opI a.vV a.nI b.opI b.vV b.nI yes) (keyOf (Mq row (at'+col))++T):=by
 obtain⟨k1,k2,g1,g2,k3,hc⟩:=A1d aa h;have na:Mp a.opI a.vV.k=Z:=by
  cases hq:Mp a.opI a.vV.k with
  |false=>rfl
  |true=>
   unfold Mp at hq;rw[aB,decide_eq_true_eq,decide_eq_true_eq]at hq;rw[Sf ha hq.1]at k1;omega
 have nb:Mp b.opI b.vV.k=Z:=by
  cases hq:Mp b.opI b.vV.k with
  |false=>rfl
  |true=>
   unfold Mp at hq;rw[aB,decide_eq_true_eq,decide_eq_true_eq]at hq;rw[Sf hb hq.1]at k2;omega
 unfold V0;rw[na,nb];rw[if_neg (by simp)];split
 ·rename_i hh;rw[aB,aB,decide_eq_true_eq,decide_eq_true_eq]at hh;obtain⟨⟨rfl,h2⟩,h3⟩:=hh;have ea:=Ys (row:=row) ha h2;have eb:=Sf (row:=row) hb h3;rw[ea,eb]at k3 hc;rw[eb]at g2;refine Ap8 hv g2 k3 hT yes fun hy=>?_
  grind
 split
 ·rename_i hh;rw[aB,aB,decide_eq_true_eq,decide_eq_true_eq]at hh;obtain⟨⟨rfl,h2⟩,h3⟩:=hh;have ea:=Sf (row:=row) ha h2;have eb:=Ys (row:=row) hb h3;rw[ea,eb]at k3 hc;rw[ea]at g1;refine Ap8 hv g1 k3.symm hT yes fun hy=>?_
  subst hy;have h0:=by simpa using hc
  rcases Ik _ _ g1 hv with⟨e,_⟩|⟨_,e⟩|⟨e,_⟩
  ·omega
  ·rcases Ik _ _ hv g1 with⟨_,q⟩|⟨q,_⟩|⟨_,q⟩
   ·have:=q [] [];rw[e,Tn]at this;grind
   ·omega
   ·have:=q [] [];rw[e,Tn]at this;grind
  omega
 split
 ·rename_i hh;rw[aB,aB,decide_eq_true_eq,decide_eq_true_eq]at hh;obtain⟨⟨rfl,h2⟩,h3⟩:=hh;have ea:=Ys (row:=row) ha h2;have eb:=Sf (row:=row) hb h3;rw[ea,eb]at k3 hc;rw[eb]at g2;refine Ayp hv g2 k3 hT yes ?_;grind
 split
 ·rename_i hh;rw[aB,aB,decide_eq_true_eq,decide_eq_true_eq]at hh;obtain⟨⟨rfl,h2⟩,h3⟩:=hh;have ea:=Sf (row:=row) ha h2;rw[ea,(Ys (row:=row) hb h3)]at k3 hc;rw[ea]at g1;refine Au2 hv g1 k3.symm hT yes ?_;grind
 ·exact Ad9 hv hT
theorem Aaz (ad col:Int)(row:List V)(T:List UInt8)(hT:okT T)(hv:good (Mq row (ad+col))=X):∀(d:Nat) (e:E) (yes:Bool),geB d e=X→ofV (ev row e)=(if yes then 1 else 0)→Ms (Bt ad col d e yes) (keyOf (Mq row (ad+col))++T):=by
 intro d
 induction d with
 |zero=>intro e yes h;simp[geB]at h
 |succ d ih=>
  intro e yes hg ho;obtain⟨op,x,s,name,n,l⟩:=e;obtain⟨hl,ah,hk⟩:=Rp hg;unfold Bt
  by_cases h9:op=9
  ·subst h9;obtain⟨a,rfl⟩:=A28 (l:=l) (by have:Gi 9=1:=(by decide);omega);rw[if_pos rfl];refine ih a (!yes) (hk a (by simp)) ?_;rw[Au4 _ _ _ _ _ _ _ (by decide)]at ho;have aa:ofV (Fs (Yr (ofV (ev row a))))=if yes then 1 else 0:=ho;cases yes
   ·exact A4f (Aeb aa)
   ·exact A4e (Aea aa)
  rw[if_neg h9]
  by_cases ab:op=7∨op=8
  ·rw[if_pos ab];obtain⟨a,b,rfl⟩:=A29 (l:=l) (by have h1:Gi 7=2:=(by decide);have h2:Gi 8=2:=(by decide);rcases ab with rfl|rfl<;>omega);have ae:=fun y h=>ih a y (hk a (by simp)) h
   have af:=fun y h=>ih b y (hk b (by simp)) h
   rw[Au3 _ _ _ _ _ _ _ _ (by rcases ab with rfl|rfl<;>decide)]at ho;simp only;rcases ab with rfl|rfl
   ·have aa:ofV (Fs (V9 (ofV (ev row a)) (ofV (ev row b))))=if yes then 1 else 0:=ho;cases yes
    ·rw[if_neg (by decide)];exact Ahk ((A4g (Aeb aa)).imp (ae Z) (af Z))
    ·rw[if_pos (by decide)];exact Ap7 (ae X (A3a (Aea aa)).1) (af X (A3a (Aea aa)).2)
   ·have aa:ofV (Fs (tOr (ofV (ev row a)) (ofV (ev row b))))=if yes then 1 else 0:=ho;cases yes
    ·rw[if_pos (by decide)];exact Ap7 (ae Z (or0 (Aeb aa)).1) (af Z (or0 (Aeb aa)).2)
    ·rw[if_neg (by decide)];exact Ahk ((or1 (Aea aa)).imp (ae X) (af X))
  rw[if_neg ab]
  by_cases ag:op=10
  ·subst ag;rw[if_pos rfl];obtain⟨a,rfl⟩:=A28 (l:=l) (by have:Gi 10=1:=(by decide);omega);rw[Au4 _ _ _ _ _ _ _ (by decide)]at ho;have aa:ofV (whV (decide ((ev row a).k=0)))=if yes then 1 else 0:=ho;refine A3y hv hT yes fun hc=>?_
   rw[←Ys (row:=row) (hk a (by simp)) hc];cases yes
   ·exact wh0 aa
   ·exact wh1 aa
  rw[if_neg ag]
  by_cases ac:op=5∨op=6
  ·rw[if_pos ac];obtain⟨a,b,rfl⟩:=A29 (l:=l) (by have h1:Gi 5=2:=(by decide);have h2:Gi 6=2:=(by decide);rcases ac with rfl|rfl<;>omega);rw[Au3 _ _ _ _ _ _ _ _ (by rcases ac with rfl|rfl<;>decide)]at ho;exact Au5 ad col row T hT hv ac (hk a (by simp)) (hk b (by simp)) yes ho
  rw[if_neg ac]
  by_cases h1:op=1
  ·subst h1;rw[if_pos rfl];rw[(Sf (row:=row) hg rfl),A1a ((Alt hg).2 rfl)]at ho;cases yes<;>simp at ho
  ·rw[if_neg h1];exact Ad9 hv hT
theorem Au6 (op:Int)(ho:op=7∨op=8)(af col:Int)(pk pn:Int)(px ps pm:Wd)(pi:Int)(b aa pc:Nat)(pl:Nat)(ag qk qn:Int)(qx qs qm:Wd)(qi:Int)(qa:Option Addr)(ql qc:Nat)(ah tk tn:Int)(tx ts tm:Wd)(ti:Int)(ta:Option Addr)(tl tc:Nat)(yes:Bool)(s1 s2:Sp)(w:aZ)(hl:2≤pl)(hb:b<w.heap.size)
  (h1:w.cell? ⟨b,aa,N⟩=H (J Q ag)∧w.cell? ⟨b,aa+1,N⟩=H (J Q qk)∧w.cell? ⟨b,aa+2,N⟩=H (J Q qn)∧w.cell? ⟨b,aa+3,N⟩=H (G qx)∧w.cell? ⟨b,aa+4,N⟩=H (G qs)∧w.cell? ⟨b,aa+5,N⟩=H (G qm)∧w.cell? ⟨b,aa+6,N⟩=H (J Q qi)∧w.cell? ⟨b,aa+7,N⟩=H (U qa ql qc)) (h2:w.cell? ⟨b,aa+8,N⟩=H (J Q ah)∧w.cell? ⟨b,aa+8+1,N⟩=H (J Q tk)∧w.cell? ⟨b,aa+8+2,N⟩=H (J Q tn)∧w.cell? ⟨b,aa+8+3,N⟩=H (G tx)∧w.cell? ⟨b,aa+8+4,N⟩=H (G ts)∧w.cell? ⟨b,aa+8+5,N⟩=H (G tm)∧w.cell? ⟨b,aa+8+6,N⟩=H (J Q ti)∧w.cell? ⟨b,aa+8+7,N⟩=H (U ta tl tc))
  (HA:∀W,Below w.heap.size w W→aN aD 195 #[aK #[J Q af,J Q col],aK #[J Q ag,J Q qk,J Q qn,G qx,G qs,G qm,J Q qi,U qa ql qc],aX yes] W fun e w'=>e=aH s1.val∧Below W.heap.size W w')
  (HB:∀W,Below w.heap.size w W→aN aD 195 #[aK #[J Q af,J Q col],aK #[J Q ah,J Q tk,J Q tn,G tx,G ts,G tm,J Q ti,U ta tl tc],aX yes] W fun e w'=>e=aH s2.val∧Below W.heap.size W w'):
  aN aD 195 #[aK #[J Q af,J Q col],aK #[J Q op,J Q pk,J Q pn,G px,G ps,G pm,J Q pi,U (H ⟨b,aa,N⟩) pl pc],aX yes] w fun e w'=>e=aH (if yes=decide (op=7)then s1.both s2 else s1.either s2).val∧Below w.heap.size w w':=by
 have an:=fun W=>Arx s1 s2 W
 have ap:=fun W=>Alq s1 s2 W
 have l1:(1:Int)<(pl:Int):=by omega
 have n0:0<pl:=by omega
 obtain⟨ai,B0,B1,B2,-⟩:=al3 w (Y #[J Q af,J Q col] 250) (Y #[J Q op,J Q pk,J Q pn,G px,G ps,G pm,J Q pi,U (H ⟨b,aa,N⟩) pl pc] 69) (Y #[G noW,G noW] 230);generalize hW:((w.alloc (Y #[J Q af,J Q col] 250)).alloc (Y #[J Q op,J Q pk,J Q pn,G px,G ps,G pm,J Q pi,U (H ⟨b,aa,N⟩) pl pc] 69)).alloc (Y #[G noW,G noW] 230)=V at B0 B1 B2 ai;have HW:Hid _:=hW;clear hW;have bc:=Aa B1 (j:=0) (u:=J Q op) rfl;have KS:Hid (∀W,Below V.heap.size V W→(W.cell? ⟨w.heap.size,0,N⟩=H (J Q af)∧W.cell? ⟨w.heap.size,1,N⟩=H (J Q col)∧W.cell? ⟨w.heap.size+1,7,N⟩=H (U (H ⟨b,aa,N⟩) pl pc)∧W.cell? ⟨b,aa,N⟩=H (J Q ag)∧W.cell? ⟨b,aa+1,N⟩=H (J Q qk)∧W.cell? ⟨b,aa+2,N⟩=H (J Q qn)∧W.cell? ⟨b,aa+3,N⟩=H (G qx)∧W.cell? ⟨b,aa+4,N⟩=H (G qs)∧W.cell? ⟨b,aa+5,N⟩=H (G qm)∧W.cell? ⟨b,aa+6,N⟩=H (J Q qi)∧W.cell? ⟨b,aa+7,N⟩=H (U qa ql qc)∧W.cell? ⟨b,aa+8,N⟩=H (J Q ah)∧W.cell? ⟨b,aa+8+1,N⟩=H (J Q tk)∧W.cell? ⟨b,aa+8+2,N⟩=H (J Q tn)∧W.cell? ⟨b,aa+8+3,N⟩=H (G tx)∧W.cell? ⟨b,aa+8+4,N⟩=H (G ts)∧W.cell? ⟨b,aa+8+5,N⟩=H (G tm)∧W.cell? ⟨b,aa+8+6,N⟩=H (J Q ti)∧W.cell? ⟨b,aa+8+7,N⟩=H (U ta tl tc))):=fun W hW=>by
  have D0:=(hW.block _ (aC B0)).trans B0;have D1:=(hW.block _ (aC B1)).trans B1;have ay:Below w.heap.size w W:=Ac ai hW;have kc:∀o,W.cell? ⟨b,o,N⟩=w.cell? ⟨b,o,N⟩:=fun o=>ay.cell (p:=⟨b,o,N⟩) hb
  obtain⟨x0,x1,x2,x3,x4,x5,x6,x7⟩:=h1;obtain⟨y0,y1,y2,y3,y4,y5,y6,y7⟩:=h2;exact⟨Aa D0 (j:=0) rfl,Aa D0 (j:=1) rfl,Aa D1 (j:=7) rfl,(kc _).trans x0,(kc _).trans x1,(kc _).trans x2,(kc _).trans x3,(kc _).trans x4,(kc _).trans x5,(kc _).trans x6,(kc _).trans x7,(kc _).trans y0,(kc _).trans y1,(kc _).trans y2,(kc _).trans y3,(kc _).trans y4,(kc _).trans y5,(kc _).trans y6,(kc _).trans y7⟩
 have ar:=fun W (hW:Below V.heap.size V W)=>HA W (Ac ai hW)
 have au:=fun W (hW:Below V.heap.size V W)=>HB W (Ac ai hW)
 have BV:Hid _:=And.intro B1 B2;clear HA HB h1 h2 B0;obtain⟨aj,ak⟩:=s1;obtain⟨al,am⟩:=s2;simp only[Sp.val]at ar au an ap;generalize az:(Sp.mk aj ak).both (Sp.mk al am)=bo at an⊢;generalize ba:(Sp.mk aj ak).either (Sp.mk al am)=ei at ap⊢;clear az ba;obtain⟨f9,f⟩:(op==9)=Z∧((op==7)=X∧decide (op=7)=X∨(op==7)=Z∧decide (op=7)=Z∧(op==8)=X):=by rcases ho with rfl|rfl<;>decide
 clear ho;generalize decide (op=7)=dd at f⊢;rcases f with⟨f7,rfl⟩|⟨f7,rfl,f8⟩
 all_goals
  go_enter aV,aU;go_upto_region 6 with fail;rw[HW.out]
  go_cut[7,8]from 9 to 79 (fun s7 s8 wx=>∃pa pb,s7=.pointer (H ⟨pa,0,N⟩)∧s8=.pointer (H ⟨pb,0,N⟩)∧Td V wx pa pb aj ak al am)
  case first=>
   have ks:=KS.out
   go_region_held3(fun W=>(W.cell? ⟨w.heap.size,0,N⟩=H (J Q af)∧W.cell? ⟨w.heap.size,1,N⟩=H (J Q col)∧W.cell? ⟨w.heap.size+1,7,N⟩=H (U (H ⟨b,aa,N⟩) pl pc)∧W.cell? ⟨b,aa,N⟩=H (J Q ag)∧W.cell? ⟨b,aa+1,N⟩=H (J Q qk)∧W.cell? ⟨b,aa+2,N⟩=H (J Q qn)∧W.cell? ⟨b,aa+3,N⟩=H (G qx)∧W.cell? ⟨b,aa+4,N⟩=H (G qs)∧W.cell? ⟨b,aa+5,N⟩=H (G qm)∧W.cell? ⟨b,aa+6,N⟩=H (J Q qi)∧W.cell? ⟨b,aa+7,N⟩=H (U qa ql qc)∧W.cell? ⟨b,aa+8,N⟩=H (J Q ah)∧W.cell? ⟨b,aa+8+1,N⟩=H (J Q tk)∧W.cell? ⟨b,aa+8+2,N⟩=H (J Q tn)∧W.cell? ⟨b,aa+8+3,N⟩=H (G tx)∧W.cell? ⟨b,aa+8+4,N⟩=H (G ts)∧W.cell? ⟨b,aa+8+5,N⟩=H (G tm)∧W.cell? ⟨b,aa+8+6,N⟩=H (J Q ti)∧W.cell? ⟨b,aa+8+7,N⟩=H (U ta tl tc)))
    (with_reducible first|exact ks _ (ab)|exact ks _ (Am ab _)|exact ks _ (Am (Am ab _) _)|exact ks _ (ac)|exact ks _ (Am ac _)|exact ks _ (Am (Am ac _) _)|exact ks _ ((aE _ _).drew)|exact ks _ ((Am (aE _ _) _).drew)|exact ks _ ((Am (Am (aE _ _) _) _).drew)|exact ks _ (Ho (Ho ab (by simp only;omega) _) (by simp only;omega) _)|exact ks _ (Ho (Ho (Ho (Ho ab (by simp only;omega) _) (by simp only;omega) _) (by simp only;omega) _) (by simp only;omega) _)|exact ks _ (Ho (Ho (Am ab _) (by simp only;omega) _) (by simp only;omega) _)|exact ks _ (Ho (Ho (Am (Am ab _) _) (by simp only;omega) _) (by simp only;omega) _)|exact ks _ (Am (Ho (Ho ab (by simp only;omega) _) (by simp only;omega) _) _)|go_keep)
    (first
     |(go_at_call_of 195 (Value.agg #[J Q ag,J Q qk,J Q qn,G qx,G qs,G qm,J Q qi,U qa ql qc]);refine(ar _ (by with_reducible first|exact(aE _ _).drew|exact(Am (aE _ _) _).drew|exact(Am (Am (aE _ _) _) _).drew)).mono ?_;rintro e w1 ⟨rfl,ae⟩;have ac:Below V.heap.size V w1:=Ac (by with_reducible first|exact(aE _ _).drew|exact(Am (aE _ _) _).drew|exact(Am (Am (aE _ _) _) _).drew) ae;have bb:=ae.size;simp only[aI,Bc]at bb;have bd:=ac.size)
     |(go_at_call_of 195 (Value.agg #[J Q ah,J Q tk,J Q tn,G tx,G ts,G tm,J Q ti,U ta tl tc]);refine(au _ (by with_reducible first|exact ac|exact Am ac _|exact Am (Am ac _) _)).mono ?_;rintro e w2 ⟨rfl,ad⟩;have ab:Below V.heap.size V w2:=Ac (by with_reducible first|exact ac|exact Am ac _|exact Am (Am ac _) _) ad;(try simp only[aI]at hs2);(first|(have pA:w2.heap[V.heap.size]?=H (Y #[G noW,G noW] 230):=(by with_reducible first|exact(ad.block _ (by first|omega|(simp only[aI];omega))).trans ((ae.block _ (by first|(rw[Bc,Be];omega)|(rw[Bc,A6];omega))).trans (A4 (Al (by with_reducible first|exact rfl|exact A6 _ _|exact Be _ _ _) _)))|exact(ad.block _ (by first|omega|(simp only[aI];omega))).trans ((ae.block _ (by first|(rw[Bc,Be];omega)|(rw[Bc,A6];omega))).trans (A4 (Ad (Al (by with_reducible first|exact rfl|exact A6 _ _|exact Be _ _ _) _) _)))|exact(ad.block _ (by first|omega|(simp only[aI];omega))).trans (Ad ((ae.block _ (by first|(rw[Bc,Be];omega)|(rw[Bc,A6];omega))).trans (A4 (Al (by with_reducible first|exact rfl|exact A6 _ _|exact Be _ _ _) _))) _)|exact(ad.block _ (by first|omega|(simp only[aI];omega))).trans (Ad ((ae.block _ (by first|(rw[Bc,Be];omega)|(rw[Bc,A6];omega))).trans (A4 (Ad (Al (by with_reducible first|exact rfl|exact A6 _ _|exact Be _ _ _) _) _))) _));have be:w2.cell? ⟨V.heap.size,0,N⟩=H (G noW):=Aa pA (j:=0) rfl;have bf:w2.cell? ⟨V.heap.size,1,N⟩=H (G noW):=Aa pA (j:=1) rfl;have bg:w2.frozen? ⟨V.heap.size,1,N⟩=Z:=(by simp[aF,pA]);have bh:w2.frozen? ⟨V.heap.size,0,N⟩=Z:=(by simp[aF,pA]);have bi:V.heap.size<w2.heap.size:=aC pA)|skip);(first|(have pB:w2.heap[V.heap.size+1]?=H (Y #[G noW,G noW] 230):=(by with_reducible first|exact(ad.block _ (by first|omega|(simp only[aI];omega))).trans ((ae.block _ (by first|(rw[Bc,Be];omega)|(rw[Bc,A6];omega))).trans (A4 (Al (by with_reducible first|exact rfl|exact A6 _ _|exact Be _ _ _) _)))|exact(ad.block _ (by first|omega|(simp only[aI];omega))).trans (Ad ((ae.block _ (by first|(rw[Bc,Be];omega)|(rw[Bc,A6];omega))).trans (A4 (Al (by with_reducible first|exact rfl|exact A6 _ _|exact Be _ _ _) _))) _));have bj:w2.cell? ⟨V.heap.size+1,0,N⟩=H (G noW):=Aa pB (j:=0) rfl;have bk:w2.cell? ⟨V.heap.size+1,1,N⟩=H (G noW):=Aa pB (j:=1) rfl;have bl:w2.frozen? ⟨V.heap.size+1,1,N⟩=Z:=(by simp[aF,pB]);have bm:w2.frozen? ⟨V.heap.size+1,0,N⟩=Z:=(by simp[aF,pB]))|skip);(first|(have pC:w2.heap[w1.heap.size]?=H (Y #[G noW,G noW] 230):=(by with_reducible first|exact(ad.block _ (by first|omega|(simp only[aI];omega))).trans (Al (by with_reducible first|exact rfl|exact A6 _ _|exact Be _ _ _) _)|exact(ad.block _ (by first|omega|(simp only[aI];omega))).trans (Ad (Al (by with_reducible first|exact rfl|exact A6 _ _|exact Be _ _ _) _) _));have bn:w2.cell? ⟨w1.heap.size,0,N⟩=H (G noW):=Aa pC (j:=0) rfl;have bp:w2.cell? ⟨w1.heap.size,1,N⟩=H (G noW):=Aa pC (j:=1) rfl;have bq:w2.frozen? ⟨w1.heap.size,1,N⟩=Z:=(by simp[aF,pC]);have bt:w2.frozen? ⟨w1.heap.size,0,N⟩=Z:=(by simp[aF,pC]);have bu:w1.heap.size<w2.heap.size:=aC pC)|skip);(first|(have pD:w2.heap[w1.heap.size+1]?=H (Y #[G noW,G noW] 230):=(by with_reducible first|exact(ad.block _ (by first|omega|(simp only[aI];omega))).trans (Al (by with_reducible first|exact rfl|exact A6 _ _|exact Be _ _ _) _));have bv:w2.cell? ⟨w1.heap.size+1,0,N⟩=H (G noW):=Aa pD (j:=0) rfl;have bw:w2.cell? ⟨w1.heap.size+1,1,N⟩=H (G noW):=Aa pD (j:=1) rfl;have bx:w2.frozen? ⟨w1.heap.size+1,1,N⟩=Z:=(by simp[aF,pD]);have bz:w2.frozen? ⟨w1.heap.size+1,0,N⟩=Z:=(by simp[aF,pD]))|skip);(try have ca:¬(w1.heap.size=V.heap.size):=(by omega));(try have cb:¬(V.heap.size=w1.heap.size):=(by omega))))
   all_goals go_wp2_with fail
   all_goals go_meet
   all_goals
    refine⟨_,_,rfl,rfl,?_⟩
    with_reducible first
     |exact Au0 ab
     |exact A04 ab
     |exact Ux ab pA (by omega)
     |exact Ux ab pB (by omega)
     |exact Ux ab pC (by omega)
     |exact Ux ab pD (by omega)
     |exact V8 ab pA (by omega)
     |exact V8 ab pB (by omega)
     |exact V8 ab pC (by omega)
     |exact V8 ab pD (by omega)
     |exact Se ab pA (by omega)
     |exact Se ab pB (by omega)
     |exact Se ab pC (by omega)
     |exact Se ab pD (by omega)
     |exact Te ab pA (by omega)
     |exact Te ab pB (by omega)
     |exact Te ab pC (by omega)
     |exact Te ab pD (by omega)
     |exact Ij ab pA pB (by omega) (by omega) (by omega)
     |exact Ij ab pA pC (by omega) (by omega) (by omega)
     |exact Ij ab pA pD (by omega) (by omega) (by omega)
     |exact Ij ab pB pA (by omega) (by omega) (by omega)
     |exact Ij ab pB pC (by omega) (by omega) (by omega)
     |exact Ij ab pB pD (by omega) (by omega) (by omega)
     |exact Ij ab pC pA (by omega) (by omega) (by omega)
     |exact Ij ab pC pB (by omega) (by omega) (by omega)
     |exact Ij ab pC pD (by omega) (by omega) (by omega)
     |exact Ij ab pD pA (by omega) (by omega) (by omega)
     |exact Ij ab pD pB (by omega) (by omega) (by omega)
     |exact Ij ab pD pC (by omega) (by omega) (by omega)
  case rest=>
   obtain⟨pa,pb,rfl,rfl,av,aw,aq⟩:=hcut;obtain⟨r0,r1,r2,r3,r4⟩:=A5 BV.out.2 aq;have cc:=Aa ((aq.block _ (aC BV.out.1)).trans BV.out.1) (j:=0) (u:=J Q op) rfl;have a0:=Aa av (j:=0) (u:=G aj) rfl;have a1:=Aa av (j:=1) (u:=G ak) rfl;have b0:=Aa aw (j:=0) (u:=G al) rfl;have b1:=Aa aw (j:=1) (u:=G am) rfl;cases yes
   all_goals
    go_wp2_with((first|go_fit(ap _)|go_fit(an _));rintro e w5 ⟨rfl,ax⟩;obtain⟨r0,r1,r2,r3,r4⟩:=A5 r0 ax);exact Ga _ _ aS rfl rfl r0 (Ac ai (Ac aq ax)) (by omega) aG (by kernel_rfl)
theorem Alu {op:Int}{fn:FuncId}{y':Bool}(at' col)(pk pn)(px ps pm:Wd)(pi)(b off pc)(pl)(qop qk qn)(qx qs qm:Wd)(qi)(qa)(ql qc)(yes)(ho:op=9∧fn=195∧y'= !yes∨op=10∧fn=253∧y'=yes)(s1:Sp)(w)(hl:1≤pl)(hb:b<w.heap.size)
  (h1:w.cell? ⟨b,off,N⟩=H (J Q qop)∧w.cell? ⟨b,off+1,N⟩=H (J Q qk)∧w.cell? ⟨b,off+2,N⟩=H (J Q qn)∧w.cell? ⟨b,off+3,N⟩=H (G qx)∧w.cell? ⟨b,off+4,N⟩=H (G qs)∧w.cell? ⟨b,off+5,N⟩=H (G qm)∧w.cell? ⟨b,off+6,N⟩=H (J Q qi)∧w.cell? ⟨b,off+7,N⟩=H (U qa ql qc))
  (HA:∀W,Below w.heap.size w W→aN aD fn #[aK #[J Q at',J Q col],aK #[J Q qop,J Q qk,J Q qn,G qx,G qs,G qm,J Q qi,U qa ql qc],aX y'] W fun e w'=>e=aH s1.val∧Below W.heap.size W w'):
  aN aD 195 #[aK #[J Q at',J Q col],aK #[J Q op,J Q pk,J Q pn,G px,G ps,G pm,J Q pi,U (H ⟨b,off,N⟩) pl pc],aX yes] w fun e w'=>e=aH s1.val∧Below w.heap.size w w':=by
 have n0:0<pl:=by omega
 obtain⟨aa,B0,B1,B2,-⟩:=al3 w (Y #[J Q at',J Q col] 250) (Y #[J Q op,J Q pk,J Q pn,G px,G ps,G pm,J Q pi,U (H ⟨b,off,N⟩) pl pc] 69) (Y #[G noW,G noW] 230);generalize hW:((w.alloc _).alloc _).alloc _=V at B0 B1 B2 aa;have HW:Hid _:=hW;clear hW;have ac:=Aa B1 (j:=0) (u:=J _ op) rfl;have KS:Hid (∀W,Below (w.heap.size+2) V W→(W.cell? ⟨_,0,N⟩=H (J _ at')∧W.cell? ⟨_,1,N⟩=H (J _ col)∧W.cell? ⟨_,7,N⟩=H (U _ pl pc)∧W.cell? _=H _∧W.cell? _=H _∧W.cell? _=H _∧W.cell? _=H _∧W.cell? _=H _∧W.cell? _=H _∧W.cell? _=H _∧W.cell? _=H _)):=fun W hW=>by
  have D0:=(hW.block _ (by omega)).trans B0;have kc:=fun o=>(aa.trans (hW.mono (by omega))).cell (p:=⟨b,o,N⟩) hb
  obtain⟨x0,x1,x2,x3,x4,x5,x6,x7⟩:=h1;exact⟨Aa D0 rfl,Aa D0 rfl,Aa ((hW.block _ (by omega)).trans B1) rfl,(kc _).trans x0,(kc _).trans x1,(kc _).trans x2,(kc _).trans x3,(kc _).trans x4,(kc _).trans x5,(kc _).trans x6,(kc _).trans x7⟩
 have lV:=aC B2;have HC:=fun W hW=>HA W (Ac aa hW)
 have y0:=KS.out _ ((aE _ V).drew);clear HA h1 B0;obtain⟨ad,ae⟩:=s1;simp only[Sp.val]at HC⊢;rcases ho with⟨rfl,rfl,rfl⟩|⟨rfl,rfl,rfl⟩
 all_goals go_enter aV,aU
 focus go_upto_region 3 with fail
 rotate_left
 focus go_upto_region 11 with fail
 all_goals
  rw[HW.out]
  go_region_held3(fun W=>(W.cell? ⟨w.heap.size,0,N⟩=H (J Q at')∧W.cell? ⟨w.heap.size,1,N⟩=H (J Q col)∧W.cell? ⟨w.heap.size+1,7,N⟩=H (U (H ⟨b,off,N⟩) pl pc)∧W.cell? ⟨b,off,N⟩=H (J Q qop)∧W.cell? ⟨b,off+1,N⟩=H (J Q qk)∧W.cell? ⟨b,off+2,N⟩=H (J Q qn)∧W.cell? ⟨b,off+3,N⟩=H (G qx)∧W.cell? ⟨b,off+4,N⟩=H (G qs)∧W.cell? ⟨b,off+5,N⟩=H (G qm)∧W.cell? ⟨b,off+6,N⟩=H (J Q qi)∧W.cell? ⟨b,off+7,N⟩=H (U qa ql qc)))
   (with_reducible first|omega|omega|exact KS.out _ ((zz.mono (bA lV)).setCell (aO _) _ |>.setCell (aO _) _))
   (first|((first|go_at_call 195|go_at_call 253);refine(HC _ ((aE _ V).drew)).mono ?_;rintro e w1 ⟨rfl,ab⟩;have zz:=Ac (aE _ V).drew ab;have y1:=KS.out _ (zz.mono (bA lV));obtain⟨r0,r1,r2,r3,r4⟩:=A5 B2 zz))
  go_wp2;exact Ga _ _ aS rfl rfl r0 (Ac aa zz) (by omega) aG (by rfl)
theorem Au7 (op:Int)(ho:op=5∨op=6)(at' col)(pk pn)(px ps pm:Wd)(pi)(b off pc)(pl)(qop qk qn)(qx qs qm:Wd)(qi)(qa)(ql qc)(top tk tn)(tx ts tm:Wd)(ti)(ta)(tl tc)(yes)(s1:Sp)(w)(hl:2≤pl)(hb:b<w.heap.size)
  (h1:w.cell? ⟨b,off,N⟩=H (J Q qop)∧w.cell? ⟨b,off+1,N⟩=H (J Q qk)∧w.cell? ⟨b,off+2,N⟩=H (J Q qn)∧w.cell? ⟨b,off+3,N⟩=H (G qx)∧w.cell? ⟨b,off+4,N⟩=H (G qs)∧w.cell? ⟨b,off+5,N⟩=H (G qm)∧w.cell? ⟨b,off+6,N⟩=H (J Q qi)∧w.cell? ⟨b,off+7,N⟩=H (U qa ql qc)) (h2:w.cell? ⟨b,off+8,N⟩=H (J Q top)∧w.cell? ⟨b,off+8+1,N⟩=H (J Q tk)∧w.cell? ⟨b,off+8+2,N⟩=H (J Q tn)∧w.cell? ⟨b,off+8+3,N⟩=H (G tx)∧w.cell? ⟨b,off+8+4,N⟩=H (G ts)∧w.cell? ⟨b,off+8+5,N⟩=H (G tm)∧w.cell? ⟨b,off+8+6,N⟩=H (J Q ti)∧w.cell? ⟨b,off+8+7,N⟩=H (U ta tl tc))
  (HA:∀W,Below w.heap.size w W→aN aD 254 #[aK #[J Q at',J Q col],J Q op,aK #[J Q qop,J Q qk,J Q qn,G qx,G qs,G qm,J Q qi,U qa ql qc],aK #[J Q top,J Q tk,J Q tn,G tx,G ts,G tm,J Q ti,U ta tl tc],aX yes] W fun e w'=>e=aH s1.val∧Below W.heap.size W w'):
  aN aD 195 #[aK #[J Q at',J Q col],aK #[J Q op,J Q pk,J Q pn,G px,G ps,G pm,J Q pi,U (H ⟨b,off,N⟩) pl pc],aX yes] w fun e w'=>e=aH s1.val∧Below w.heap.size w w':=by
 have n0:0<pl:=by omega
 have l1:(1:Int)<pl:=by omega
 obtain⟨aa,B0,B1,B2,-⟩:=al3 w (Y #[J Q at',J Q col] 250) (Y #[J Q op,J Q pk,J Q pn,G px,G ps,G pm,J Q pi,U (H ⟨b,off,N⟩) pl pc] 69) (Y #[G noW,G noW] 230);generalize hW:((w.alloc _).alloc _).alloc _=V at B0 B1 B2 aa;have HW:Hid _:=hW;clear hW;have ac:=Aa B1 (j:=0) (u:=J _ op) rfl;have KS:Hid (∀W,Below (w.heap.size+2) V W→(W.cell? ⟨_,0,N⟩=H (J _ at')∧W.cell? ⟨_,1,N⟩=H (J _ col)∧W.cell? ⟨_,0,N⟩=H (J _ op)∧W.cell? ⟨_,7,N⟩=H (U _ pl pc)∧W.cell? _=H _∧W.cell? _=H _∧W.cell? _=H _∧W.cell? _=H _∧W.cell? _=H _∧W.cell? _=H _∧W.cell? _=H _∧W.cell? _=H _∧W.cell? _=H _∧W.cell? _=H _∧W.cell? _=H _∧W.cell? _=H _∧W.cell? _=H _∧W.cell? _=H _∧W.cell? _=H _∧W.cell? _=H _)):=fun W hW=>by
  have D0:=(hW.block _ (by omega)).trans B0;have D1:=(hW.block _ (by omega)).trans B1;have kc:=fun o=>(aa.trans (hW.mono (by omega))).cell (p:=⟨b,o,N⟩) hb
  obtain⟨x0,x1,x2,x3,x4,x5,x6,x7⟩:=h1;obtain⟨y0,y1,y2,y3,y4,y5,y6,y7⟩:=h2;exact⟨Aa D0 rfl,Aa D0 rfl,Aa D1 rfl,Aa D1 rfl,(kc _).trans x0,(kc _).trans x1,(kc _).trans x2,(kc _).trans x3,(kc _).trans x4,(kc _).trans x5,(kc _).trans x6,(kc _).trans x7,(kc _).trans y0,(kc _).trans y1,(kc _).trans y2,(kc _).trans y3,(kc _).trans y4,(kc _).trans y5,(kc _).trans y6,(kc _).trans y7⟩
 have lV:=aC B2;have HC:=fun W hW=>HA W (Ac aa hW)
 have y0:=KS.out _ ((aE _ V).drew);clear HA h1 h2 B0;obtain⟨ad,ae⟩:=s1;simp only[Sp.val]at HC⊢;obtain⟨⟨f9,f7,f8,af⟩,f⟩:((op==9)=Z∧(op==7)=Z∧(op==8)=Z∧(op==10)=Z)∧((op==5)=X∨(op==5)=Z∧(op==6)=X):=by rcases ho with rfl|rfl<;>decide
 clear ho;rcases f with f5|⟨f5,f6⟩
 all_goals
  go_enter aV,aU;go_upto_region 14 with fail;rw[HW.out]
  go_region_held3(fun W=>(W.cell? ⟨w.heap.size,0,N⟩=H (J Q at')∧W.cell? ⟨w.heap.size,1,N⟩=H (J Q col)∧W.cell? ⟨w.heap.size+1,0,N⟩=H (J Q op)∧W.cell? ⟨w.heap.size+1,7,N⟩=H (U (H ⟨b,off,N⟩) pl pc)∧W.cell? ⟨b,off,N⟩=H (J Q qop)∧W.cell? ⟨b,off+1,N⟩=H (J Q qk)∧W.cell? ⟨b,off+2,N⟩=H (J Q qn)∧W.cell? ⟨b,off+3,N⟩=H (G qx)∧W.cell? ⟨b,off+4,N⟩=H (G qs)∧W.cell? ⟨b,off+5,N⟩=H (G qm)∧W.cell? ⟨b,off+6,N⟩=H (J Q qi)∧W.cell? ⟨b,off+7,N⟩=H (U qa ql qc)∧W.cell? ⟨b,off+8,N⟩=H (J Q top)∧W.cell? ⟨b,off+8+1,N⟩=H (J Q tk)∧W.cell? ⟨b,off+8+2,N⟩=H (J Q tn)∧W.cell? ⟨b,off+8+3,N⟩=H (G tx)∧W.cell? ⟨b,off+8+4,N⟩=H (G ts)∧W.cell? ⟨b,off+8+5,N⟩=H (G tm)∧W.cell? ⟨b,off+8+6,N⟩=H (J Q ti)∧W.cell? ⟨b,off+8+7,N⟩=H (U ta tl tc)))
   (with_reducible first|omega|omega|exact KS.out _ ((zz.mono (bA lV)).setCell (aO _) _ |>.setCell (aO _) _))
   (first|(go_at_call 254;refine(HC _ ((aE _ V).drew)).mono ?_;rintro e w1 ⟨rfl,ab⟩;have zz:=Ac (aE _ V).drew ab;have y1:=KS.out _ (zz.mono (bA lV));obtain⟨r0,r1,r2,r3,r4⟩:=A5 B2 zz))
  go_wp2;exact Ga _ _ aS rfl rfl r0 (Ac aa zz) (by omega) aG (by rfl)
theorem Au8 (at' col)(pk pn)(px ps pm:Wd)(pi)(pa)(pl pc)(yes)(w):
  aN aD 195 #[aK #[J Q at',J Q col],aK #[J Q 1,J Q pk,J Q pn,G px,G ps,G pm,J Q pi,U pa pl pc],aX yes] w fun e w'=>e=aH noS.val∧Below w.heap.size w w':=by
 simp only[Sp.val,noS];go_enter aV,aU;go_wp2;exact bodyPost_ret (results_cell_row aS _ _ _ 230 _ _ _ rfl (Fe w _ _ _) aG rfl (by rfl)) rfl ⟨rfl,Hx w _ _ _⟩
theorem Ar0 (at' col)(pop pk pn)(px ps pm:Wd)(pi)(pa)(pl pc)(yes)(w)(h1:¬pop=1)(h5:¬pop=5)(h6:¬pop=6)(h7:¬pop=7)(h8:¬pop=8)(h9:¬pop=9)(ac:¬pop=10):
  aN aD 195 #[aK #[J Q at',J Q col],aK #[J Q pop,J Q pk,J Q pn,G px,G ps,G pm,J Q pi,U pa pl pc],aX yes] w fun e w'=>e=aH (Ld noW).val∧Below w.heap.size w w':=by
 have H0:=V6;simp only[Sp.val,Ld];generalize(noW++ffW:Wd)=f1 at H0;obtain⟨ab,-,-,B2,-⟩:=al3 w (Y #[J Q at',J Q col] 250) (Y #[J Q pop,J Q pk,J Q pn,G px,G ps,G pm,J Q pi,U pa pl pc] 69) (Y #[G noW,G noW] 230);go_enter aV,aU;go_wp2_with(go_fit(H0 _);rintro e w1 ⟨rfl,aa⟩;obtain⟨r0,r1,r2,r3,r4⟩:=A5 B2 aa);exact Ga _ _ aS rfl rfl r0 (Ac ab aa) (by omega) aG (by rfl)
def Mt:Nat→E→Prop
 |0,_=>True
 |d+1,.mk op _ _ _ n l=>(op=2→n≤9223372036854775807)∧∀a∈l,Mt d a
theorem Zw {F}{w}{ao}{k c}{l}(h:Iz F w (U ao k c) l){op}{x}{s name}{n}{l'}(hx:l[0]?=H (.mk op x s name n l')):
  ∃b aa,ao=H ⟨b,aa,N⟩∧b<w.heap.size∧∃a8 k8 c8,IsE F w (.mk op x s name n l') (aK (Af op x s name n (U a8 k8 c8)))∧w.cell? ⟨b,aa,N⟩=H (J Q op)∧w.cell? ⟨b,aa+1,N⟩=H (J Q x.k)∧w.cell? ⟨b,aa+2,N⟩=H (J Q x.n)∧w.cell? ⟨b,aa+3,N⟩=H (G x.s)∧w.cell? ⟨b,aa+4,N⟩=H (G s)∧w.cell? ⟨b,aa+5,N⟩=H (G name)∧w.cell? ⟨b,aa+6,N⟩=H (J Q n)∧w.cell? ⟨b,aa+7,N⟩=H (U a8 k8 c8):=by
 obtain⟨b,aa,cs,h1,_,h2,hR,hc⟩:=Av (Aj7.2 h) hx;obtain⟨hl,hE⟩:=hR;obtain⟨sv,he,ab⟩:=hE.open;obtain⟨a8,c8,rfl⟩:=ab.shape;have ac:cs=(Af op x s name n (U a8 l'.length c8)).toList:=by
  have:=congrArg Array.toList (bR he);simpa using this
 subst ac;refine⟨b,aa,h1,h2,a8,_,c8,by omega,?_⟩;have g:∀j u,(Af op x s name n _).toList[j]?=H u→w.cell? ⟨b,aa+0*8+j,N⟩=H u:=hc;exact⟨g 0 _ rfl,g 1 _ rfl,g 2 _ rfl,g 3 _ rfl,g 4 _ rfl,g 5 _ rfl,g 6 _ rfl,g 7 _ rfl⟩
theorem Ap9 {F}{w}{ao}{k c}{l}(h:Iz F w (U ao k c) l){op}{x}{s name}{n}{l'}(hx:l[1]?=H (.mk op x s name n l')):
  ∃b aa,ao=H ⟨b,aa,N⟩∧b<w.heap.size∧∃a8 k8 c8,IsE F w (.mk op x s name n l') (aK (Af op x s name n (U a8 k8 c8)))∧w.cell? ⟨b,aa+8,N⟩=H (J Q op)∧w.cell? ⟨b,aa+8+1,N⟩=H (J Q x.k)∧w.cell? ⟨b,aa+8+2,N⟩=H (J Q x.n)∧w.cell? ⟨b,aa+8+3,N⟩=H (G x.s)∧w.cell? ⟨b,aa+8+4,N⟩=H (G s)∧w.cell? ⟨b,aa+8+5,N⟩=H (G name)∧w.cell? ⟨b,aa+8+6,N⟩=H (J Q n)∧w.cell? ⟨b,aa+8+7,N⟩=H (U a8 k8 c8):=by
 obtain⟨b,aa,cs,h1,_,h2,hR,hc⟩:=Av (Aj7.2 h) hx;obtain⟨hl,hE⟩:=hR;obtain⟨sv,he,ab⟩:=hE.open;obtain⟨a8,c8,rfl⟩:=ab.shape;have ac:cs=(Af op x s name n (U a8 l'.length c8)).toList:=by
  have:=congrArg Array.toList (bR he);simpa using this
 subst ac;refine⟨b,aa,h1,h2,a8,_,c8,by omega,?_⟩;have g:∀j u,(Af op x s name n _).toList[j]?=H u→w.cell? ⟨b,aa+1*8+j,N⟩=H u:=hc;exact⟨g 0 _ rfl,g 1 _ rfl,g 2 _ rfl,g 3 _ rfl,g 4 _ rfl,g 5 _ rfl,g 6 _ rfl,g 7 _ rfl⟩
theorem Af5 {d}{op}{x}{s name}{n}{l}(h:geB (d+1) (.mk op x s name n l)=X)(hf:Dd (.mk op x s name n l))(hr:Mt (d+1) (.mk op x s name n l)):Alr op x n:=by
 rw[Dd]at hf;rw[Mt]at hr;refine⟨fun h1=>?_,hf.1,hr.1⟩;subst h1;simp only[geB,Qx,aB,if_true]at h;grind
theorem Alv {α:Type}:∀{l:List α},l.length=2→∃a b,l=[a,b]
 |[a,b],_=>⟨a,b,rfl⟩
theorem Aqa {d}{e}(h:geB d e=X):∃d',d=d'+1:=by
 cases d with
 |zero=>simp[geB]at h
 |succ d=>simp
theorem Au9 (aa col:Int):∀(d:Nat) (e:E) (v:Value) (yes:Bool) (C:Nat) (w:aZ),IsE (fun k=>k<C) w e v→C≤w.heap.size→geB d e=X→Dd e→Mt d e→
  aN aD 195 #[aK #[J Q aa,J Q col],v,aX yes] w fun r w'=>r=aH (Bt aa col d e yes).val∧Below w.heap.size w w':=by
 intro d
 induction d with
 |zero=>intro e v yes C w _ _ h;simp[geB]at h
 |succ d ih=>
  intro e v yes C w he hC hg hf hr;obtain⟨op,x,s,name,n,l⟩:=e;obtain⟨sv,rfl,ag⟩:=he.open;obtain⟨ao,c,rfl⟩:=ag.shape;obtain⟨xk,xn,xs⟩:=x;have ay:=hg;simp only[geB,aB,decide_eq_true_eq,bU]at ay;obtain⟨⟨aq,bc⟩,ap⟩:=ay;rw[Dd]at hf;have ar:=hf.2.2.2;rw[Mt]at hr;have IH:∀a∈l,∀va au W,Below w.heap.size w W→IsE (fun k=>k<C) w a va→aN aD 195 #[aK #[J Q aa,J Q col],va,aX au] W fun r w'=>r=aH (Bt aa col d a au).val∧Below W.heap.size W w':=
   fun a ha va au W hW hE=>ih a va au C W (IsE.keep (Ae (hW.mono hC)) _ _ hE) (aP hC hW.size) (ap a ha) (K8 ar ha) (hr.2 a ha)
  by_cases h9:op=9
  ·subst h9;have ah:l.length=1:=by simp[Gi]at aq;omega
   obtain⟨a,rfl⟩:=aW.1 ah;obtain⟨ab,⟨ak,an,ax⟩,ac,am,ai,al⟩:=a;obtain⟨b,aj,rfl,hb,a8,k8,c8,hE,hc⟩:=Zw ag rfl;exact Alu aa col xk xn xs s name n b aj c _ ab ak an ax ac am ai a8 k8 c8 yes (.inl ⟨rfl,rfl,rfl⟩) _ w (by simp) hb hc (fun W hW=>IH _ (by simp) _ _ W hW hE)
  by_cases ae:op=7∨op=8
  ·have ah:l.length=2:=by rcases ae with rfl|rfl<;>simp[Gi]at aq<;>omega
   obtain⟨a,a',rfl⟩:=Alv ah;obtain⟨ab,⟨ak,an,ax⟩,ac,am,ai,al⟩:=a;obtain⟨af,⟨bk,bn,bx⟩,bs,bm,bi,bl⟩:=a';obtain⟨b,aj,rfl,hb,a8,k8,c8,hE,hc⟩:=Zw ag rfl;obtain⟨b',ba,e',_,a9,k9,c9,az,av⟩:=Ap9 ag rfl;simp only[bK,bV,and_true]at e';obtain⟨rfl,rfl⟩:=e';have:=Au6 op ae aa col xk xn xs s name n b aj c 2 ab ak an ax ac am ai a8 k8 c8 af bk bn bx bs bm bi a9 k9 c9 yes _ _ w (aO _) hb hc av (fun W hW=>IH _ (by simp) _ _ W hW hE) (fun W hW=>IH _ (by simp) _ _ W hW az);have e2:Bt aa col (d+1) (.mk op ⟨xk,xn,xs⟩ s name n [.mk ab ⟨ak,an,ax⟩ ac am ai al,.mk af ⟨bk,bn,bx⟩ bs bm bi bl]) yes=if yes=decide (op=7)then(Bt aa col d (.mk ab ⟨ak,an,ax⟩ ac am ai al) yes).both (Bt aa col d (.mk af ⟨bk,bn,bx⟩ bs bm bi bl) yes)else(Bt aa col d (.mk ab ⟨ak,an,ax⟩ ac am ai al) yes).either (Bt aa col d (.mk af ⟨bk,bn,bx⟩ bs bm bi bl) yes):=by
    rcases ae with rfl|rfl<;>cases yes<;>simp[Bt]
   rw[e2];exact this
  by_cases aw:op=10
  ·subst aw;have ah:l.length=1:=by simp[Gi]at aq;omega
   obtain⟨a,rfl⟩:=aW.1 ah;obtain⟨d',rfl⟩:=Aqa (ap a (by simp));obtain⟨ab,⟨ak,an,ax⟩,ac,am,ai,al⟩:=a;have bb:=Af5 (ap (.mk ab ⟨ak,an,ax⟩ ac am ai al) (by simp)) (K8 ar (by simp)) (hr.2 _ (by simp));obtain⟨b,aj,rfl,hb,a8,k8,c8,hE,hc⟩:=Zw ag rfl;exact Alu aa col xk xn xs s name n b aj c _ ab ak an ax ac am ai a8 k8 c8 yes (.inr ⟨rfl,rfl,rfl⟩) _ w (by simp) hb hc (fun W _=>Aom aa col ab ak an ax ac am ai a8 k8 c8 yes W bb.2.2)
  by_cases ad:op=5∨op=6
  ·have ah:l.length=2:=by rcases ad with rfl|rfl<;>simp[Gi]at aq<;>omega
   obtain⟨a,a',rfl⟩:=Alv ah;obtain⟨d',rfl⟩:=Aqa (ap a (by simp));obtain⟨ab,⟨ak,an,ax⟩,ac,am,ai,al⟩:=a;obtain⟨af,⟨bk,bn,bx⟩,bs,bm,bi,bl⟩:=a';obtain⟨b,aj,rfl,hb,a8,k8,c8,hE,hc⟩:=Zw ag rfl;obtain⟨b',ba,e',_,a9,k9,c9,az,av⟩:=Ap9 ag rfl;simp only[bK,bV,and_true]at e';obtain⟨rfl,rfl⟩:=e';have:=Au7 op ad aa col xk xn xs s name n b aj c 2 ab ak an ax ac am ai a8 k8 c8 af bk bn bx bs bm bi a9 k9 c9 yes _ w (aO _) hb hc av (fun W _=>Z5 aa col op ab ak an ax ac am ai a8 k8 c8 af bk bn bx bs bm bi a9 k9 c9 yes W ad (Af5 (ap (.mk ab ⟨ak,an,ax⟩ ac am ai al) (by simp)) (K8 ar (by simp)) (hr.2 _ (by simp))) (Af5 (ap (.mk af ⟨bk,bn,bx⟩ bs bm bi bl) (by simp)) (K8 ar (by simp)) (hr.2 _ (by simp))));rcases ad with rfl|rfl<;>exact this
  rw[not_or]at ae ad
  by_cases h1:op=1
  ·subst h1;exact Au8 aa col xk xn xs s name n ao _ c yes w
  ·have e2:Bt aa col (d+1) (.mk op ⟨xk,xn,xs⟩ s name n l) yes=Ld noW:=by simp[Bt,h1,ad.1,ad.2,ae.1,ae.2,h9,aw]
   rw[e2];exact Ar0 aa col op xk xn xs s name n ao _ c yes w h1 ad.1 ad.2 ae.1 ae.2 h9 aw
theorem Alw (a b c d:Wd)(w):(Op.equalIn 10000 230 (aK #[G a,G b]) (aK #[G c,G d])).run aD w=.ok (decide (a=c∧b=d)) w:=by
 have u3:=Tryz.underlying9;have a3:=Tryz.isAgg9;have z3:=Tryz.sizeOf9;have hS:Tryz.prog.underlying 230=H (.struct (Tryz.prog.fieldsOf 230)):=by kernel_rfl
 have hp:Tryz.prog.stoodInHeld 230=Z:=by kernel_rfl
 rw[show(10000:Nat)=9999+1 from rfl,run_equalIn_agg w _ 230 _ _ hS hp];simp only[Program.fieldsOf,aG];go_simp
 by_cases h1:a=c
 ·by_cases h2:b=d
  ·grind
  ·have h3:¬b.toList=d.toList:=by
    have:=Jj b d;rw[decide_eq_false h2,beq_eq_false_iff_ne]at this;exact this
   grind
 ·have h3:¬a.toList=c.toList:=by
   have:=Jj a c;rw[decide_eq_false h1,beq_eq_false_iff_ne]at this;exact this
  grind
theorem A3z (a b c d:Wd)(w):(binOp .eql 230 (aK #[G a,G b]) (aK #[G c,G d])).run aD w=.ok (aX (decide (a=c∧b=d))) w:=by
 rw[run_eql_struct,Alw];rfl
theorem A3b (a b c d:Wd)(w):(binOp .neq 230 (aK #[G a,G b]) (aK #[G c,G d])).run aD w=.ok (aX (!decide (a=c∧b=d))) w:=by
 rw[run_neq_struct,Alw];rfl
theorem Ai6 (s:Wd)(w)(hs:s.size≤1000000):aN aD 178 #[.string s] w fun e w'=>∃ao c m,e=.returned (.tuple #[.slice ao (Ary (vals s.data.toList)) c,.int .i64 m])∧Below w.heap.size w w':=by
 refine(N7 s w (by omega)).mono ?_;rintro e w' ⟨h,hb⟩;unfold Hn at h;cases hv:vals _ with
 |none=>rw[hv]at h;exact⟨N,0,1,h,hb⟩
 |some L=>
  rw[hv]at h;obtain⟨lv,rfl,aa⟩:=h;obtain⟨ao,c,rfl⟩:=Eu.shape (Eu.of_own aa);exact⟨ao,c,0,rfl,hb⟩
theorem Alx (s:Sp)(w:aZ)(hs:s.lo.size≤1000000):aN aD 197 #[s.val] w fun e w'=>e=aH (J Q s.rank)∧Below w.heap.size w w':=by
 have HV:=fun W=>Ai6 s.lo W hs
 have HE:=fun W=>Ts s W
 have HB:=fun W=>Js s.lo W (by omega)
 have H0:=fun W=>Js noW W (by decide)
 have E:Hid (s.rank=if s.empty then 0 else if Ary (vals s.lo.data.toList)=1∧s.hi=s.lo++ffW then 1 else if s.lo=noW∧s.hi=ffW then 3 else 2):=rfl;generalize s.rank=r at E;generalize s.empty=em at HE E;generalize ae:Ary (vals s.lo.data.toList)=ln at HV E;clear ae;obtain⟨lo,hi⟩:=s;simp only at HV HB E hs;simp only[Sp.val]at HE⊢;have Q1:=fun W=>A3z lo hi lo (lo++⟨#[255]⟩) W
 have Q2:=fun W=>A3b lo hi noW (noW++⟨#[255]⟩) W
 have E2:Hid (r=if em then 0 else if decide (ln=1)&&decide (lo=lo∧hi=lo++⟨#[255]⟩)then 1 else if decide (lo=noW∧hi=noW++⟨#[255]⟩)then 3 else 2):=by
  show _=_;rw[E.out];have e1:(noW++⟨#[255]⟩:Wd)=ffW:=rfl;have e2:(⟨#[255]⟩:Wd)=ffW:=rfl;rw[e1,e2];cases em
  ·simp only[aJ,if_false,aB,decide_eq_true_eq,true_and]
  ·rfl
 clear E;generalize decide (lo=lo∧hi=lo++⟨#[255]⟩)=q1 at Q1 E2;generalize decide (lo=noW∧hi=noW++⟨#[255]⟩)=q2 at Q2 E2;obtain⟨ab,B,-⟩:=al1 w (Y #[G lo,G hi] 230);generalize hW:w.alloc (Y #[G lo,G hi] 230)=V at B ab;have HW:Hid _:=hW;clear hW;have KS:Hid (∀W,Below V.heap.size V W→W.cell? ⟨w.heap.size,0,N⟩=H (G lo)∧W.cell? ⟨w.heap.size,1,N⟩=H (G hi)):=fun W hW=>by
  have D:=(hW.block _ (aC B)).trans B;exact⟨Aa D (j:=0) rfl,Aa D (j:=1) rfl⟩
 obtain⟨a0,a1⟩:=KS.out V (aE _ _);cases em;rotate_left
 ·go_enter bN,bJ;go_upto_region 1 with fail;rw[HW.out];go_wp2_with(first
   |(go_fit(HV _);rintro e w1 ⟨vo,vc,vm,rfl,aa⟩;obtain⟨b0,b1⟩:=KS.out _ aa)
   |(go_fit(HE _);rintro e w2 ⟨rfl,ac⟩))
  go_ret;exact⟨Au (by rw[E2.out];rfl),Ac ab (Ac aa ac)⟩
 by_cases h1:ln=1
 ·subst h1;go_enter bN,bJ;go_upto_region 1 with fail;rw[HW.out];go_upto_region 4 with(first
   |(go_fit(HV _);rintro e w1 ⟨vo,vc,vm,rfl,aa⟩;obtain⟨b0,b1⟩:=KS.out _ aa)
   |(go_fit(HE _);rintro e w2 ⟨rfl,ac⟩;have z2:Below V.heap.size V w2:=Ac aa ac;obtain⟨c0,c1⟩:=KS.out _ z2))
  go_region_held3(fun W=>W.cell? ⟨w.heap.size,0,N⟩=H (G lo)∧W.cell? ⟨w.heap.size,1,N⟩=H (G hi))
   (with_reducible first|exact KS.out _ (z2.drew)|exact KS.out _ z3)
   (first|(refine(HB _).mono ?_;rintro e w3 ⟨rfl,af⟩;have z3:Below V.heap.size V w3:=z2.drew.trans (af.mono z2.size)))
  cases q1
  ·go_upto_region 6 with fail
   go_region_held3(fun W=>W.cell? ⟨w.heap.size,0,N⟩=H (G lo)∧W.cell? ⟨w.heap.size,1,N⟩=H (G hi))
   (with_reducible first|exact KS.out _ (z3.drew)|exact KS.out _ z4)
   (first|(refine(H0 _).mono ?_;rintro e w4 ⟨rfl,ad⟩;have z4:Below V.heap.size V w4:=z3.drew.trans (ad.mono z3.size)))
   cases q2
   ·go_wp2;go_ret;exact⟨Au (by rw[E2.out];first|rfl|simp_all),Ac ab z4⟩
   ·go_wp2;go_ret;exact⟨Au (by rw[E2.out];first|rfl|simp_all),Ac ab z4⟩
  ·go_wp2;go_ret;exact⟨Au (by rw[E2.out];rfl),Ac ab z3⟩
 ·have v1:¬(ln:Int)=1:=by omega
  go_enter bN,bJ;go_upto_region 1 with fail;rw[HW.out];go_upto_region 4 with(first
   |(go_fit(HV _);rintro e w1 ⟨vo,vc,vm,rfl,aa⟩;obtain⟨b0,b1⟩:=KS.out _ aa)
   |(go_fit(HE _);rintro e w2 ⟨rfl,ac⟩;have z2:Below V.heap.size V w2:=Ac aa ac;obtain⟨c0,c1⟩:=KS.out _ z2))
  go_quiet(fail)
  ·go_upto_region 6 with fail
   go_region_held3(fun W=>W.cell? ⟨w.heap.size,0,N⟩=H (G lo)∧W.cell? ⟨w.heap.size,1,N⟩=H (G hi))
   (with_reducible first|exact KS.out _ (bH z2 _)|exact KS.out _ (bH z2 _).drew|exact KS.out _ z4)
   (first|(refine(H0 _).mono ?_;rintro e w4 ⟨rfl,ad⟩;have z4:Below V.heap.size V w4:=(by first|exact(bH z2 _).trans (ad.mono z2.size)|exact(bH z2 _).drew.trans (ad.mono z2.size))))
   cases q2
   ·go_wp2;go_ret;exact⟨Au (by rw[E2.out];first|rfl|simp_all),Ac ab z4⟩
   ·go_wp2;go_ret;exact⟨Au (by rw[E2.out];first|rfl|simp_all),Ac ab z4⟩
end
section
open Go.RowKit Go.Maps
structure Wy where
 x:Wd
 lo:Wd
 hi:Wd
def Du (at':Int)(e:E)(t:TabD)(p:Sp×Wy)(x:IdxD):Sp×Wy:=
 if Ej t x<0 then p
 else if(Bt at' (Ej t x) 40 e X).rank<p.1.rank then(Bt at' (Ej t x) 40 e X,⟨x.name,Hk x.name++(Bt at' (Ej t x) 40 e X).lo,Hk x.name++(Bt at' (Ej t x) 40 e X).hi⟩)
 else p
def Iv (at':Int)(e:E)(t:TabD):Sp×Wy:=(Bt at' 0 40 e X,⟨noW,Dc t.name++(Bt at' 0 40 e X).lo,Dc t.name++(Bt at' 0 40 e X).hi⟩)
def Dp (ct:CatD)(t:TabD)(at':Int)(e:E):Wy:=
 if geB 40 e then((if Ds ct then ct.indexes else[]).foldl (Du at' e t) (Iv at' e t)).2
 else⟨noW,Hl t.name,Hm t.name⟩
theorem Aec (ct)(to1)(tl1 tc1)(io)(il ic)(C)(w)(hc:Hp (fun k=>k<C) w ct (aK #[U to1 tl1 tc1,U io il ic]))(hC:C≤w.heap.size)(hf:K7 ct):
  aN aD 196 #[aK #[U to1 tl1 tc1,U io il ic]] w fun e w'=>e=aH (if Ds ct then U io il ic else U N 0 0)∧Below w.heap.size w w':=by
 obtain⟨aa,B,-⟩:=al1 w (Y #[U to1 tl1 tc1,U io il ic] 41);have HG:=Ak4 ct _ C _ (hc.keep (Ae (aa.mono hC))) (aP hC aa.size) hf;generalize Ds ct=g at HG;generalize hW:w.alloc _=V at B aa HG;have HW:Hid _:=hW;clear hW hc;have a0:=Aa B (j:=0) (u:=U to1 tl1 tc1) rfl;have a1:=Aa B (j:=1) (u:=U io il ic) rfl;cases g
 ·go_enter Tryz.func196,Tryz.ntmps196;go_upto_region 1 with fail;rw[HW.out];go_wp2_with(go_fit HG;rintro e w1 ⟨rfl,ab⟩);go_ret;exact⟨rfl,Ac aa ab⟩
 ·go_enter Tryz.func196,Tryz.ntmps196;go_upto_region 1 with fail;rw[HW.out];go_wp2_with(go_fit HG;rintro e w1 ⟨rfl,ab⟩;have b1:=Aa ((ab.block _ (aC B)).trans B) (j:=1) (u:=U io il ic) rfl);go_ret;exact⟨rfl,Ac aa ab⟩
theorem Ava (t:TabD)(at')(eop ek en)(ex es em:Wd)(ei)(ea)(el ec)(e0)(to1)(tl1 tc1)(io)(il ic)(co)(cc)(C)(w)(he:IsE (fun k=>k<C) w e0 (aK #[J Q eop,J Q ek,J Q en,G ex,G es,G em,J Q ei,U ea el ec]))(hC:C≤w.heap.size)(hx:Dd e0)(hg:geB 40 e0=Z)(ht:t.name.size≤100000):
  aN aD 116 #[aK #[U to1 tl1 tc1,U io il ic],aK #[G t.name,U co t.cols.length cc],J Q at',aK #[J Q eop,J Q ek,J Q en,G ex,G es,G em,J Q ei,U ea el ec]] w fun e w'=>e=aH (J0 noW (Hl t.name) (Hm t.name))∧Below w.heap.size w w':=by
 obtain⟨aa,B0,B1,B2,B3,-⟩:=al4 w (Y #[U to1 tl1 tc1,U io il ic] 41) (Y #[G t.name,U co t.cols.length cc] 74) (Y #[J Q eop,J Q ek,J Q en,G ex,G es,G em,J Q ei,U ea el ec] 69) (Y #[G noW,G noW,G noW] 159);generalize hW:(((w.alloc _).alloc _).alloc _).alloc _=V at B0 B1 B2 B3 aa;have HW:Hid _:=hW;clear hW;have HG:=fun W hW=>Ok 40 (aO _) e0 _ C W (IsE.keep (Ae ((Ac aa hW).mono hC)) _ _ he) (aP hC (Ac aa hW).size) hx
 rw[hg]at HG;have ad:=HG V (aE _ _);have HA:=fun W=>Apq _ W ht
 generalize Hl _=lo at HA⊢;generalize Hm _=hi at HA⊢;unfold J0 at HA⊢;have a0:=Aa B2 (j:=0) (u:=J _ eop) rfl;have a1:=Aa B2 (j:=1) (u:=J _ ek) rfl;have a2:=Aa B2 (j:=2) (u:=J _ en) rfl;have a3:=Aa B2 (j:=3) (u:=G ex) rfl;have a4:=Aa B2 (j:=4) (u:=G es) rfl;have a5:=Aa B2 (j:=5) (u:=G em) rfl;have a6:=Aa B2 (j:=6) (u:=J _ ei) rfl;have a7:=Aa B2 (j:=7) (u:=U ea el ec) rfl;have n0:=Aa B1 (j:=0) (u:=G _) rfl;clear HG;go_enter Tryz.func116,Tryz.ntmps116;go_upto_region 1 with fail;rw[HW.out];go_wp2_with(first
  |(go_fit ad;rintro e w1 ⟨rfl,ab⟩;have m0:=Aa ((ab.block _ (aC B1)).trans B1) (j:=0) (u:=G _) rfl)
  |(go_fit(HA _);rintro e w2 ⟨rfl,ac⟩;have D3:=((Ac ab ac).block _ (aC B3)).trans B3;have r0:=Aa D3 (j:=0) (u:=G noW) rfl;have r1:=Aa D3 (j:=1) (u:=G noW) rfl;have r2:=Aa D3 (j:=2) (u:=G noW) rfl;have f0:w2.frozen? ⟨w.heap.size+3,0,N⟩=Z:=(by simp[aF,D3]);have f1:w2.frozen? ⟨w.heap.size+3,1,N⟩=Z:=(by simp[aF,D3]);have f2:w2.frozen? ⟨w.heap.size+3,2,N⟩=Z:=(by simp[aF,D3])))
 exact Xz _ _ _ Tryz.results116 rfl rfl D3 (Ac aa (Ac ab ac)) (by omega) Tryz.underlying159 (by rfl)
end
section
open Go.RowKit
theorem On {α β:Type}{g:α→Option β}:∀{R:List α},R.Nodup→(∀x∈R,∀y∈R,∀r,g x=H r→g y=H r→x=y)→(R.filterMap g).Nodup
 |[],_,_=>by simp
 |a::R,hn,hi=>by
  rw[List.nodup_cons]at hn;have ih:=On hn.2 fun x hx y hy r=>hi x (by grind) y (by grind) r
  grind
theorem Aoo {T}(hT:As T){k y:Wd}(h:(k,y)∈flat T):Hy (flat T) k=H y:=by
 cases hg:Hy _ k with
 |none=>exact absurd rfl (Att.1 hg _ h)
 |some z=>
  have hr:((flat T).map _).Nodup:=hT.rise.imp fun h=>Fz h
  have:=by
   have aa:∀{F:List (Wd×Wd)},(F.map Prod.fst).Nodup→∀a∈F,∀b∈F,a.1=b.1→a=b:=by
    intro F
    induction F with
    |nil=>simp
    |cons c F ih=>
     grind
   exact aa hr _ (Vy hg) _ h rfl
  grind
section
variable {I:List IdxD}{t:TabD}{T:List Pg}{O:List (List V)}
end
theorem Aqb {b k:Wd}{s}{l}(hk:k.data.toList=b.data.toList++l)(aa:Ms s l)(y:Wd):rq (b++s.lo) (b++s.hi) (k,y)=X:=by
 unfold rq;rw[Cw,Cw,hk,I9,I9,Dw,Dw,aa.1,aa.2];rfl
theorem Ar1 (t x){v id}(hv:good v=X)(ab:good id=X):Vx t x (Id x v id)=H (H7 t id):=by
 have aa:(Id x v id).data.toList=(Hk x).data.toList++Dv [v,id]:=by
  rw[Id,I9,Br,I4 (by grind)]
 have hp:Lib.hasPrefix (Id x v id).data.toList (Hk x).data.toList=X:=by
  rw[aa,Lib.hasPrefix,List.isPrefixOf_iff_prefix];exact List.prefix_append _ _
 have hr:(Vw x (Id x v id)).data.toList=Dv [v,id]:=by
  show((Lib.trimPrefix _ _).toArray).toList=_;rw[Lib.trimPrefix,if_pos hp,aa,List.drop_left]
 unfold Vx;rw[if_pos hp,hr,Sv _ (by grind)];rfl
theorem Tt (at')(e)(t):∀(I:List IdxD) (p:Sp×Wy),(I.foldl (Du at' e t) p).2=p.2∨∃x∈I,0≤Ej t x∧(I.foldl (Du at' e t) p).2=⟨x.name,Hk x.name++(Bt at' (Ej t x) 40 e X).lo,Hk x.name++(Bt at' (Ej t x) 40 e X).hi⟩
 |[],p=>.inl rfl
 |x::I,p=>by
  rw[List.foldl_cons];rcases Tt at' e t I (Du at' e t p x)with h|⟨y,hy,h1,h2⟩
  ·rw[h];unfold Du;grind
  grind
def Hb (n:Nat)(T:List Pg)(t:Wd)(W:Wy):List (List V):=if W.x=noW then F3 n (rng T W.lo W.hi)else Ajp n T t W.x W.lo W.hi
theorem Ahl {p}(h:p.K.length≤4):(E7 p).length=1:=by unfold E7;grind
def A30 (w w':aZ)(e:Ending)(T:List Pg)(k v:ByteArray):Prop:=
 ∃tv' T',e=aH tv'∧Bi w' tv' T'∧Below w.heap.size w w'∧As T'∧flat T'=I0 (flat T) k v∧T'.length≤1
theorem A3c (T:List Pg)(tv:Value)(k v:ByteArray)(w:aZ)(h:Bi w tv T)(hg:As T)(h1:T.length≤1)(h3:(flat T).length≤3):
  aN aD 109 #[tv,G k,G v] w fun e w'=>A30 w w' e T k v:=by
 have hn:(T.length+1) *48≤140737488355328:=by omega
 rcases Nat.eq_zero_or_pos T.length with h0|h0
 ·obtain rfl:=aR h0;refine(Ag0 tv k v w h).mono ?_;rintro e w' ⟨ab,he,ht,hb⟩;have h1:∀q∈([⟨[k],[v]⟩]:List Pg),q.ok:=by
   intro q hq;obtain rfl:q=_:=List.mem_singleton.1 hq;exact⟨by simp,by simp,rfl⟩
  exact⟨ab,_,he,ht,hb,⟨h1,by simp[Cf]⟩,by rfl,by simp⟩
 ·obtain⟨pg,pl,th,hF,fi⟩:=U4 T k hg (by omega);rcases hF with⟨rfl,rfl,rfl,hall⟩|⟨A,p,B,K1,y,K3,rfl,hp,rfl,rfl,hA,hK,hy,rfl⟩
  ·obtain⟨A,p,rfl⟩:∃A p,T=A++[p]:=⟨T.dropLast,T.getLast (by rintro rfl;simp at h0),(List.dropLast_concat_getLast _).symm⟩;have aa:=hg.1 p (by simp);have ai:p.K.length≤3:=by
    rw[Bg,E6,aT,aT,bX,aa.2.2]at h3;omega
   have aj:∀x∈Cf A,klt x k=X:=fun x hx=>hall x (by rw[Di];grind)
   have c:=Zq hg (aL _).symm (aL _).symm aa.2.2 aj (fun x hx=>hall x (by rw[Di];exact bO _ (by simpa[Cf]using hx))) (by simp) (by simp[Cf]);refine(Apr A [] p p.K [] p.V [] k v tv w h hg (aL _).symm (aL _).symm aa.2.2 fi rfl rfl hn).mono ?_;rintro e w' ⟨ab,he,ht,hb⟩;have hM:=Vh ⟨p.K++[k],p.V++[v]⟩ (by simp) (by grind) (by simp;exact aa.2.2);have hq:=Oz (v:=v) hg c hM (by
    rw[Bg,Bg,Qr _ (by simp;exact aa.2.2)];simp only;rw[bE aa.2.2.symm];simp)
   refine⟨ab,_,he,ht,hb,hq.1,hq.2,?_⟩;have:(E7 ⟨p.K++[k],p.V++[v]⟩).length=1:=Ahl (by grind);grind
  ·have aa:=hg.1 p (by simp);have ai:p.K.length≤3:=by
    rw[Bg,E6,aT,aT,bX,aa.2.2]at h3;omega
   by_cases af:y=k
   ·subst af;obtain⟨V1,v0,V3,hV,ac,an,c⟩:=Pk hg hp hA hK;have ad:=by simpa using fi
    refine(Agz A B p K1 K3 V1 V3 v0 y v tv w h hg (by grind) hV ac ad hn).mono ?_;rintro e w' ⟨ab,he,ht,hb⟩;have hq:=Oz (M:=[⟨p.K,V1++v::V3⟩]) (v:=v) hg c (by
     intro q hq;obtain rfl:=by simpa using hq
     refine⟨aa.1,aa.2.1,?_⟩;grind) (by
     rw[Bg,Bg,E6,Rr,hp];simp only;rw[bE ac.symm];simp)
    exact⟨ab,_,he,ht,hb,hq.1,hq.2,by grind⟩
   ·have ag:klt k y=X:=by
     rcases Jh hy with e|e
     ·grind
     ·omega
    have ad:=by simpa[af]using fi
    have hr:=hg.2;rw[Di,Ev,hp]at hr;have ah:=(Gt.1 hr).2.1;rw[List.append_assoc]at ah;have ae:=(Gt.1 ah).2.1;rw[Cb,bT,List.pairwise_cons]at ae;have ak:∀x∈y::K3,klt k x=X:=by
     intro x hx;rcases List.mem_cons.1 hx with rfl|hx
     ·omega
     ·exact Co ag (ae.1 x (List.mem_append_left _ hx))
    have al:=fun x hx=>Co ag (ae.1 x (bO _ hx))
    have am:=aa.2.2;have ap:K1.length≤p.V.length:=by rw[am,hp];simp
    have hV:p.V=p.V.take _++p.V.drop K1.length:=(aY _ _).symm;have ac:(p.V.take K1.length).length=K1.length:=by simp;omega
    have c:=Zq hg hp hV ac hA hK ak al;refine(Ac0 A B p K1 _ _ _ k v tv w h hg hp hV ac ad hn).mono ?_;rintro e w' ⟨ab,he,ht,hb⟩;have aq:(K1++k::y::K3).length=p.K.length+1:=by rw[hp];simp;omega
    have ar:(p.V.take K1.length++v::p.V.drop K1.length).length=p.V.length+1:=by simp;omega
    have hM:=Vh ⟨K1++k::y::K3,p.V.take K1.length++v::p.V.drop K1.length⟩ (by grind) (by grind) (by grind);have hq:=Oz (v:=v) hg c hM (by
     rw[Bg,Bg,Qr _ (by grind)];simp only;rw[bE ac.symm];simp)
    refine⟨ab,_,he,ht,hb,hq.1,hq.2,?_⟩;have:(E7 ⟨K1++k::y::K3,p.V.take K1.length++v::p.V.drop K1.length⟩).length=1:=Ahl (by grind);grind
theorem Aed (I:List IdxD)(t:TabD)(r:List V)(T:List Pg)(pv tv iv sv rv:Value)(C:Nat)(w:aZ)(hp:Bi w pv T)(hg:As T)(hT:T.length≤1000000)(bi:Hj tv)
  (hi:IsL D6 (fun k=>k<C) w iv I) (hl:IsL Cp (fun k=>k<C) w sv t.cols) (hC:C≤w.heap.size) (hr:Cq w rv r) (av:r.length=t.cols.length) (h0:0<r.length) (bz:r.length≤1000000) (hs:∀v∈r,v.s.size≤maxLen) (bj:∀x∈I,x.name.size≤1000000) (bk:t.name.size≤1000000) (hn:I.length≤1000000) (m:Nat:=T.length+1) (hm:m=T.length+1∨m=1∧T.length≤1∧(flat T).length≤3:=by exact .inl rfl):
  aN aD 53 #[pv,aK #[tv,iv],aK #[G t.name,sv],rv] w fun e w'=>Apu w w' e (putRow (flat T) I t r) (m+I.length):=by
 have ca:m≤T.length+1:=by omega
 obtain⟨ai,tn,tc,rfl⟩:=bi;obtain⟨cb,rfl,az⟩:=hp;obtain⟨po,pc,rfl⟩:=Ct az;have ba:=fun W (h:Below w.heap.size w W)=>Wz I t r (U ai tn tc) iv sv rv C W (B7 _ _ _) (hi.keep (Ae (h.mono hC))) (hl.keep (Ae (h.mono hC))) (aP hC h.size) (hr.below h) av h0 hs bj hn
 obtain⟨io,ic,rfl⟩:=hi.shape;obtain⟨so,sc,rfl⟩:=hl.shape;rcases hr with⟨_,rfl⟩|⟨rb,ro,rcap,rfl,hrb,hR⟩
 ·simp at h0
 have st:=Ac2 (U ai tn tc) (U io I.length ic) (G t.name) (U so t.cols.length sc) az hg;generalize hW:(((w.alloc (Y #[U po T.length pc] 44)).alloc (Y #[U ai tn tc,U io I.length ic] 41)).alloc (Y #[G t.name,U so t.cols.length sc] 74)).alloc (Y #[U N 0 0] 44)=W4 at st;have HW:Hid _:=hW;clear hW hi hl;have e0:=Aa st.tab (j:=0) rfl;have e1:=Aa st.tab (j:=1) rfl;have HF:=Oa t.name so t.cols.length sc (H ⟨rb,ro,N⟩) r.length rcap W4;rw[show(decide (0<r.length)&&decide (r.length=t.cols.length))=X by rw[decide_eq_true h0,decide_eq_true av];rfl]at HF;obtain⟨u,hu⟩:∃u,r[0]?=H u:=⟨_,aM h0⟩;have bb:r.headD zero=u:=by rw[List.headD_eq_head?_getD,List.head?_eq_getElem?,hu];rfl
 have HR:=fun W=>Qq t.name u W bk (hs u (bP hu))
 rw[show H7 t.name u=rk t r by rw[rk,bb]]at HR;obtain⟨f0,f1,f2⟩:=hR 0 u hu;simp only[Nat.zero_mul,Nat.add_zero]at f0 f1 f2;have HS:Hid _:=hs;have bl:Hid _:=ba;clear hs ba hu bb av;obtain⟨uk,un,us⟩:=u;simp only[V.val]at HR;simp only at f0 f1 f2;go_enter Tryz.func53,Tryz.ntmps53;go_upto_region 1 with fail;rw[HW.out];go_wp2_with(go_fit HF;rintro e w1 ⟨rfl,bm⟩);have ab:=st.below bm;have ag:=ab.bel;have KS:Hid _:=fun W (h:Below w1.heap.size w1 W)=>Ag1 (W:=W) (show W.cell? ⟨w.heap.size+2,0,N⟩=H (G t.name)from Aa (ab.below h).tab (j:=0) rfl) (((ag.trans (h.mono ag.size)).cell (p:=⟨rb,ro,N⟩) hrb).trans f0) (((ag.trans (h.mono ag.size)).cell (p:=⟨rb,ro+1,N⟩) hrb).trans f1) (((ag.trans (h.mono ag.size)).cell (p:=⟨rb,ro+2,N⟩) hrb).trans f2)
 have KT:Hid _:=fun W (h:Below w1.heap.size w1 W) (x:Value)=>W7 (W:=W) (g:=w.heap.size) (x:=x) (KS.out W h) (show w.heap.size+2≠w.heap.size by omega) (show rb≠w.heap.size by omega)
 have q0:=Aa ab.blk (j:=0) rfl;have HK:=fun W (h:Below w1.heap.size w1 W)=>Qp r (U (H ⟨rb,ro,N⟩) r.length rcap) W (.inr ⟨rb,ro,rcap,rfl,Nat.lt_of_lt_of_le hrb (ag.trans (h.mono ag.size)).size,hR.below (ag.trans (h.mono ag.size)) hrb⟩) (by omega) HS.out
 have HP:∀W,Below w1.heap.size w1 W→aN aD 109 #[aK #[U po T.length pc],G (rk t r),G (str (Bb r).1)] W fun e w'=>∃bc T',e=aH bc∧Bi w' bc T'∧Below W.heap.size W w'∧As T'∧flat T'=I0 (flat T) (rk t r) (str (Bb r).1)∧T'.length≤m:=fun W h=>by
  rcases hm with rfl|⟨rfl,h1,h3⟩
  ·exact Aps T _ (rk t r) (str (Bb r).1) W ⟨_,rfl,ab.pgs.below h⟩ hg (by omega)
  ·exact A3c T _ (rk t r) (str (Bb r).1) W ⟨_,rfl,ab.pgs.below h⟩ hg h1 h3
 clear hm;have EF:Hid (putRow (flat T) I t r=Ln (I0 (flat T) (rk t r) (str (Bb r).1)) (iks I t r)):=rfl
 go_cut[4]from 16 (fun s4 wx=>s4=.pointer (H ⟨w.heap.size,0,N⟩)∧∃ao k c T1,TrSt w #[U ai tn tc,U io I.length ic] #[G t.name,U so t.cols.length sc] (I0 (flat T) (rk t r) (str (Bb r).1)) m ao k c T1 wx)
 case first=>
  refine wp_region_held_drew (S:=(fun W=>W.cell? ⟨w.heap.size+2,0,N⟩=H (G t.name)∧W.cell? ⟨rb,ro,N⟩=H (J Q uk)∧W.cell? ⟨rb,ro+1,N⟩=H (J Q un)∧W.cell? ⟨rb,ro+2,N⟩=H (G us))) (by rfl) ?_ (fun hHeld=>?_)
  ·exact KS.out _ (aE _ _).drew
  refine tk 1 ?_;refine tk 2 ?_;refine tk 3 ?_;refine tk 4 ?_;refine tk 5 ?_;refine tk 7 ?_;refine Abi 0 6 (fun K hK=>?_) (fun K hK=>?_)
  ·go_simp;go_wp2_with fail;refine hK.out _ _ ?_ (fun hHeld=>?_)
   ·omega
   clear hK K;refine Bh 6 (fun K hK=>?_);go_simp
   (go_fit(HR _);rintro e w2 ⟨rfl,aw⟩;have af:=Ac (aE _ _).drew aw;have q2:=Aa (ab.below af).blk (j:=0) rfl)
   go_wp2_with fail;refine hK.out _ _ ?_ (fun hHeld=>?_)
   ·exact KS.out _ af
   clear hK K;refine Bh 8 (fun K hK=>?_);go_simp
   (go_fit(HK _ af);rintro e w3 ⟨rfl,aj⟩;have ad:=Ac af aj;have q3:=Aa (ab.below ad).blk (j:=0) rfl)
   go_wp2_with fail;refine hK.out _ _ ?_ (fun hHeld=>?_)
   ·exact KS.out _ ad
   clear hK K;refine Bh 9 (fun K hK=>?_);go_simp
   (go_fit(HP _ ad);rintro e w4 ⟨bd,T4,rfl,ae,ak,al,am,an⟩;obtain⟨be,rfl,ae⟩:=ae;obtain⟨ap,c4,rfl⟩:=Ct ae;have ac:=Ac ad ak;have q4:=Aa (ab.below ac).blk (j:=0) rfl;have z4:w4.frozen? ⟨w.heap.size,0,N⟩=Z:=(by simp[aF,(ab.below ac).blk]))
   go_wp2_with fail;refine hK.out _ _ ?_ (fun hHeld=>?_)
   ·exact KS.out _ ac
   clear hK K;refine Bh 10 (fun K hK=>?_);go_simp;go_wp2_with fail;refine hK.out _ _ ?_ (fun hHeld=>?_)
   ·exact KT.out _ ac _
   clear hK K;refine bW (by kernel_rfl) ?_ _;go_wp2_with fail;go_meet
   case rel=>exact⟨rfl,ap,_,c4,T4,ab.store ac ae al am an⟩
  ·go_simp
   (go_fit(HR _);rintro e w2 ⟨rfl,aw⟩;have af:=Ac (aE _ _).drew aw;have q2:=Aa (ab.below af).blk (j:=0) rfl)
   go_wp2_with fail;refine hK.out _ _ ?_ (fun hHeld=>?_)
   ·exact KS.out _ af
   clear hK K;refine Abi 0 8 (fun K hK=>?_) (fun K hK=>?_)
   ·go_simp;go_wp2_with fail;refine hK.out _ _ ?_ (fun hHeld=>?_)
    ·omega
    clear hK K;refine Bh 8 (fun K hK=>?_);go_simp
    (go_fit(HK _ af);rintro e w3 ⟨rfl,aj⟩;have ad:=Ac af aj;have q3:=Aa (ab.below ad).blk (j:=0) rfl)
    go_wp2_with fail;refine hK.out _ _ ?_ (fun hHeld=>?_)
    ·exact KS.out _ ad
    clear hK K;refine Bh 9 (fun K hK=>?_);go_simp
    (go_fit(HP _ ad);rintro e w4 ⟨bd,T4,rfl,ae,ak,al,am,an⟩;obtain⟨be,rfl,ae⟩:=ae;obtain⟨ap,c4,rfl⟩:=Ct ae;have ac:=Ac ad ak;have q4:=Aa (ab.below ac).blk (j:=0) rfl;have z4:w4.frozen? ⟨w.heap.size,0,N⟩=Z:=(by simp[aF,(ab.below ac).blk]))
    go_wp2_with fail;refine hK.out _ _ ?_ (fun hHeld=>?_)
    ·exact KS.out _ ac
    clear hK K;refine Bh 10 (fun K hK=>?_);go_simp;go_wp2_with fail;refine hK.out _ _ ?_ (fun hHeld=>?_)
    ·exact KT.out _ ac _
    clear hK K;refine bW (by kernel_rfl) ?_ _;go_wp2_with fail;go_meet
    case rel=>exact⟨rfl,ap,_,c4,T4,ab.store ac ae al am an⟩
   ·go_simp
    (go_fit(HK _ af);rintro e w3 ⟨rfl,aj⟩;have ad:=Ac af aj;have q3:=Aa (ab.below ad).blk (j:=0) rfl)
    go_wp2_with fail;refine hK.out _ _ ?_ (fun hHeld=>?_)
    ·exact KS.out _ ad
    clear hK K;refine Bh 0 (fun K hK=>?_);go_simp;go_wp2_with fail;refine hK.out _ _ ?_ (fun hHeld=>?_)
    ·omega
    clear hK K;refine Bh 9 (fun K hK=>?_);go_simp
    (go_fit(HP _ ad);rintro e w4 ⟨bd,T4,rfl,ae,ak,al,am,an⟩;obtain⟨be,rfl,ae⟩:=ae;obtain⟨ap,c4,rfl⟩:=Ct ae;have ac:=Ac ad ak;have q4:=Aa (ab.below ac).blk (j:=0) rfl;have z4:w4.frozen? ⟨w.heap.size,0,N⟩=Z:=(by simp[aF,(ab.below ac).blk]))
    go_wp2_with fail;refine hK.out _ _ ?_ (fun hHeld=>?_)
    ·exact KS.out _ ac
    clear hK K;refine Bh 10 (fun K hK=>?_);go_simp;go_wp2_with fail;refine hK.out _ _ ?_ (fun hHeld=>?_)
    ·exact KT.out _ ac _
    clear hK K;refine bW (by kernel_rfl) ?_ _;go_wp2_with fail;go_meet
    case rel=>exact⟨rfl,ap,T4.length,c4,T4,ab.store ac ae al am an⟩
 case rest=>
  obtain⟨rfl,bn,k5,c5,T5,ah⟩:=hcut;have x0:=Aa ah.cat (j:=0) rfl;have x1:=Aa ah.cat (j:=1) rfl;have x2:=Aa ah.tab (j:=0) rfl;have x3:=Aa ah.tab (j:=1) rfl;have HX:=bl.out wc ah.bel;have ax:Hid ((iks I t r).length≤I.length):=Qn I t r;generalize iks I t r=K at HX EF ax;have cc:K.length≤1000000:=aP ax.out hn;clear HK HP HR HF KS KT q0;go_wp2_with(go_fit HX;rintro e w6 ⟨kv,rfl,bf,bo⟩;obtain⟨ko,kc,rfl⟩:=Eu.shape bf)
  go_loopw[31] (fun i wr=>∃k:Nat,k≤K.length∧i=J Q k∧An wr (U ko K.length kc) K∧∃aq k2 c2 T2,TrSt w #[U ai tn tc,U io I.length ic] #[G t.name,U so t.cols.length sc] (Ln (I0 (flat T) (rk t r) (str (Bb r).1)) (K.take k)) (m+k) aq k2 c2 T2 wr) (fun i _=>K.length-(intOf i).toNat)
  case atStart=>exact⟨0,Nat.zero_le _,rfl,bf,bn,k5,c5,T5,ah.below bo⟩
  case round=>
   obtain⟨k,hk,rfl,bg,aq,k2,c2,T2,aa⟩:=hrel
   by_cases bp:k<K.length
   ·obtain⟨ay,hx⟩:∃x,K[k]?=H x:=⟨_,aM bp⟩;obtain⟨b,cd,cap,bq,hb,_,_,bh⟩:=bg.at (by omega);cases bq;have d0:=bh k ay hx;have y0:=Aa aa.blk (j:=0) rfl;have E2:Hid (Ln _ _=I0 (Ln (I0 (flat T) (rk t r) (str (Bb r).1)) _) ay noW):=Arf hx;have v0:(0:Int)≤k:=by omega
    have v1:k<(K.length:Int):=by omega
    clear hx bh;go_wp2_with(go_fit(Aps T2 _ ay noW _ ⟨_,rfl,aa.pgs⟩ aa.good (by have:=aa.len;omega));rintro e w7 ⟨ce,T7,rfl,au,ar,bt,bu,bv⟩;obtain⟨cf,rfl,au⟩:=au;obtain⟨bw,c7,rfl⟩:=Ct au;have z7:w7.frozen? ⟨w.heap.size,0,N⟩=Z:=(by simp[aF,(aa.below ar).blk]);have y7:=Aa (aa.below ar).blk (j:=0) rfl);go_roundw
    case rel=>exact⟨k+1,by omega,by rfl,S5 (bg.below ar) (aa.below ar).blk _,bw,_,c7,T7,aa.store ar au bt (by rw[bu,aa.flat,E2.out]) (aP bv (by have:=aa.len;omega))⟩
    case measure=>simp[intOf];omega
   ·have bx:k=K.length:=by omega
    subst bx;have v1:¬(K.length<(K.length:Int)):=by omega
    have y0:=Aa aa.blk (j:=0) rfl;have y1:=Aa aa.res (j:=0) rfl;have y2:wr.frozen? ⟨w.heap.size+3,0,N⟩=Z:=by simp[aF,aa.res]
    rw[bB]at aa;go_wp2;refine bodyPost_ret (v:=aK #[U aq k2 c2]) (results_cell_row Tryz.results53 _ _ (w.heap.size+3) 44 #[U aq k2 c2] _ _ rfl (Dh aa.res 0 (U aq k2 c2)) Tryz.underlying44 rfl (by kernel_rfl)) rfl ?_;exact⟨_,T2,rfl,⟨_,rfl,Qs aa.pgs aa.res _⟩,aa.good,by rw[aa.flat,EF.out],aP aa.len (by have:=ax.out;omega),aa.bel.setCell (show w.heap.size≤w.heap.size+3 by omega) _⟩
theorem Avb {p}{n k}(hp:p k=X)(hk:k<n):Bz p 0 n=X:=by
 cases h:Bz p 0 n with
 |true=>rfl
 |false=>have:=Jz h k (Nat.zero_le _) (by omega);grind
theorem Yt {p}:∀(n i:Nat),(∀j,i≤j→j<i+n→p j=Z)→Bz p i n=Z
 |0,_,_=>rfl
 |n+1,i,h=>by rw[Bz,h i (aO _) (by omega),Yt n _ fun j h1 h2=>h j (by omega) (by omega)];rfl
structure TrG (w:aZ) (g:Nat) (B:List (Nat×Obj)) (ao:Option Addr) (k c:Nat) (T:List Pg) (wx:aZ):Prop where
 blk:wx.heap[g]?=H (Y #[U ao k c] 44)
 pgs:A8 wx (U ao k c) T
 good:As T
 old:∀p∈B,wx.heap[p.1]?=H p.2∧p.1≠g
 bel:Below w.heap.size w wx
 le:w.heap.size≤g
theorem TrG.below {w}{g}{B}{ao}{k c}{T}{W V}(h:TrG w g B ao k c T W)(hb:Below W.heap.size W V):TrG w g B ao k c T V:=
 ⟨(hb.block _ (aC h.blk)).trans h.blk,h.pgs.below hb,h.good,fun p hp=>⟨(hb.block _ (aC (h.old p hp).1)).trans (h.old p hp).1,(h.old p hp).2⟩,h.bel.trans (hb.mono h.bel.size),h.le⟩
theorem TrG.store {w}{g}{B}{ao ao'}{k c k' c'}{T T'}{W V}(h:TrG w g B ao k c T W)(hb:Below W.heap.size W V)(hp:A8 V (U ao' k' c') T')(hg:As T'):
  TrG w g B ao' k' c' T' (V.setCell ⟨g,0,N⟩ (U ao' k' c')):=by
 have hV:=h.below hb;exact⟨by have:=Dh hV.blk 0 (U ao' k' c');grind,Qs hp hV.blk _,hg,fun p hp=>⟨(Ob (hV.old p hp).2 _ _).trans (hV.old p hp).1,(hV.old p hp).2⟩,hV.bel.setCell hV.le _,hV.le⟩
theorem TrG.grown {w}{g}{B}{ao}{k c}{T}{W V}{base}{z}(h:TrG w g B ao k c T W)(hg:W.grownBy V z)(hz:∀j,z=H j→base≤j)(hp:A8 V (U ao k c) T)(h1:g<base)(h2:∀p∈B,p.1<base)(h3:w.heap.size≤base):TrG w g B ao k c T V:=
 ⟨(hg.block _ (aC h.blk) (fun e=>by grind)).trans h.blk,hp,h.good,fun p hp=>⟨(hg.block _ (aC (h.old p hp).1) (fun e=>by grind)).trans (h.old p hp).1,(h.old p hp).2⟩,h.bel.grown hg h.bel.size (fun j hj=>by grind),h.le⟩
theorem TrG.fst {w}{g a}{o}{B}{ao}{k c}{T}{W}(h:TrG w g ((a,o)::B) ao k c T W):W.heap[a]?=H o:=(h.old (a,o) (by simp)).1
theorem TrG.snd {w}{g a}{o}{p}{B}{ao}{k c}{T}{W}(h:TrG w g (p::(a,o)::B) ao k c T W):W.heap[a]?=H o:=(h.old (a,o) (by simp)).1
end
end Go.Proofs.YtjapkoofjlmdgaaGreatDoor

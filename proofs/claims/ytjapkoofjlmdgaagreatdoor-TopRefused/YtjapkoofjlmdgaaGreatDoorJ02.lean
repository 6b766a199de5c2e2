/-
  18 texts of this proof in one,in build order:TReplaced,TRange,OrderMath,BackMath,Good,AppendKey,Key,StmPlain,Elems,YIndex,YMap,NPlain,Named,IdxF,YGood,YFind,Vals,FMath.
-/
import Derived.Maps.AppendAt
import Derived.Deep.Cut
import Derived.Deep.DeepFit
import Derived.Test.YtjapkoofjlmdgaaGreatDoorRows
import Derived.WalkKit
import Derived.WalkSpells
import Derived.WalkLawsBesides
import Derived.Lib.AppendStr
import Derived.Laws.IdiomStrings
import Derived.OwnWalk
import Derived.Laws.Rows
import Derived.Laws.Tables
import Derived.Maps.Own
import Derived.Maps.OwnOps
import Derived.Maps.Views
import Derived.StringKeys
import Derived.Lib.Bytealg
import Derived.Lib.IndexLaws
import Derived.Shelf.Abstract
import Derived.Laws.AppendOwn
import Derived.Test.YtjapkoofjlmdgaaGreatDoorJ01
set_option linter.unusedSimpArgs false
set_option linter.unusedVariables false
attribute [local go_sem↓] Go.wp_at_zero Go.wp_at_succ
set_option maxRecDepth 100000
set_option maxHeartbeats 0
open Go.Value renaming agg→bO,bool→aY,int→aD,int→y,ownBlock→cN,pointer→cL,slice→J,string→U,string→aW,tuple→cY
open Go.Op renaming bytesLess→aA
open Option renaming none→Q,some→O
open Go.Proofs.Tryz renaming func138→cF,func175→cE,func223→bG,func245→cT,func287→cS,ntmps138→cC,ntmps175→cB,ntmps223→bD,ntmps245→cP,prog→aB,results105→dJ,underlying276→cD,underlying294→aP,underlying3→cJ,underlying5→dF,underlying54→dC,underlying9→bJ
open List renaming append_assoc→aX,append_nil→dN,cons_append→aU,drop_eq_getElem_cons→bT,eq_nil_of_length_eq_zero→aM,filter_append→bQ,getD_cons_zero→cA,getElem?_eq_getElem→aC,getElem?_eq_some_iff→aO,getElem_of_mem→cX,length_append→aH,length_cons→dH,map_append→bC,mem_append→dM,mem_cons→cQ,mem_of_getElem?→bM,nil_append→dL,of_mem_zip→bU,take_add_one→cG,take_append_drop→aJ,zip_append→dK
open Go.Obj renaming cells→Y,cells→aR
open Go.Ending renaming returned→aE
open Bool renaming and_eq_false_iff→cW,and_eq_true→bK,eq_iff_iff→bV,false→X,false_eq_true→dA,or_eq_false_iff→bY,or_eq_true→cM,true→S
open Nat renaming add_zero→cI,eq_zero_or_pos→bB,le_refl→aF,le_trans→cH,lt_of_lt_of_le→bA,zero_le→bN
open Go renaming Calls→aQ,Value→Z,World→aV,bodyPost_ret→dB,info_parts→cV,lt_of_block→bH,maxLen→aN,wpList_append_own→bL,wpList_append_own_at→dI
open Go.RowKit.Below renaming refl→aG
open Go.IntKind renaming i64→aI,i64→aZ,u8→aK
open Go.RowKit renaming Below→aL
open UInt8 renaming lt_iff_toNat_lt→cR,ofNat→aS,toNat_inj→dE
open Go.World renaming cell?_alloc_past→aT,cell?_setCell_other→bR,ownsRow_nil→bS,setRow→bP
open Array renaming getElem?_modify→bE,toList_inj→dD
open Go.ByteArray renaming toList_eq→bF
open Go.Lib renaming indexByte→bI
open Go.Value.slice renaming injEq→bW
open Option.some renaming injEq→bX
open Go.Addr.mk renaming injEq→bZ
open And renaming intro→cK
open Go.Proofs renaming intOf→cO
open Go.Addr renaming add_lit→cU
open ByteArray renaming ext→cZ
open Prod.mk renaming injEq→dG
namespace Go.Proofs.YtjapkoofjlmdgaaGreatDoor
section
open Go.RowKit
theorem Pgs.one {w}:∀{rs:List (Z×Z)}{T:List Pg},Pgs w rs T→∀u∈A3 rs,u.oneCell'=S
 |[],[],_,u,hu=>by simp[A3]at hu
 |r::rs,p::T,h,u,hu=>by
  have e:A3 (r::rs)=r.1::r.2::A3 rs:=by simp[A3]
  rw[e]at hu;rcases cQ.1 hu with rfl|hu
  ·obtain⟨a,c,e⟩:=h.1.shape;rw[e];rfl
  ·rcases cQ.1 hu with rfl|hu
   ·obtain⟨a,c,e⟩:=h.2.1.shape;rw[e];rfl
   ·exact Pgs.one h.2.2 u hu
theorem Eu.head {size}{w}{b off n cap}{cs ds}{m}(h:Eu size w (J (O ⟨b,off,Q⟩) n cap) n (cs++ds))(h0:0<n)(hc:cs.length=m*size)(hm:m≤n):Eu size w (J (O ⟨b,off,Q⟩) m cap) m cs:=by
 refine⟨hc,?_⟩;rcases h.2 with⟨rfl,_⟩|⟨_,b',off',cap',e,hb,hn,hx,hcell⟩
 ·omega
 ·simp only[bW,bX,bZ]at e;obtain⟨⟨rfl,rfl,_⟩,_,rfl⟩:=e;rcases bB m with rfl|hm0
  ·grind
  grind
theorem Eu.rest {size}{w}{b off n cap}{cs ds}{m}(h:Eu size w (J (O ⟨b,off,Q⟩) n cap) n (cs++ds))(h0:0<n)(hc:cs.length=m*size)(hm:m<n):Eu size w (J (O ⟨b,off+m*size,Q⟩) (n-m) (cap-m)) (n-m) ds:=by
 have hl:=h.1;rw[aH,hc]at hl;refine⟨by rw[Nat.sub_mul];omega,?_⟩;rcases h.2 with⟨rfl,_⟩|⟨_,b',off',cap',e,hb,hn,hx,hcell⟩
 ·omega
 ·simp only[bW,bX,bZ]at e;obtain⟨⟨rfl,rfl,_⟩,_,rfl⟩:=e;refine .inr ⟨by omega,b,_,_,rfl,hb,by omega,by omega,fun j u hj=>?_⟩;rw[Nat.add_assoc,←hc];exact hcell _ u (by grind)
theorem Eu.none {size}{w}{ad}{cap}:Eu size w (J (O ad) 0 cap) 0 []:=⟨by simp,.inl ⟨rfl,_,cap,rfl,fun h=>by grind⟩⟩
theorem Agp {w}{b off cap}{L M}(h:An w (J (O ⟨b,off,Q⟩) (L++M).length cap) (L++M))(h0:0<(L++M).length):An w (J (O ⟨b,off,Q⟩) L.length cap) L:=by
 unfold An at h;rw[bC]at h;exact Eu.head h h0 (by simp) (by simp)
theorem Agq {w}{b off cap}{L M}(h:An w (J (O ⟨b,off,Q⟩) (L++M).length cap) (L++M))(h0:0<M.length):An w (J (O ⟨b,off+L.length,Q⟩) M.length (cap-L.length)) M:=by
 unfold An at h;rw[bC]at h;have:=Eu.rest h (by grind) (m:=L.length) (by simp) (by grind);rw[Nat.mul_one,aH,Nat.add_sub_cancel_left]at this;exact this
def E7 (p:Pg):List Pg:=if p.K.length≤4 then[p]else[⟨p.K.take 2,p.V.take 2⟩,⟨p.K.drop 2,p.V.drop 2⟩]
theorem Pu {w}{g cap}{kv vv}{p}(hb:w.heap[g]?=O (Y #[kv,vv] 83))(hk:An w kv p.K)(hv:An w vv p.V)(hc:1≤cap)(hm:cap≤aN):A8 w (J (O ⟨g,0,Q⟩) 1 cap) [p]:=by
 refine⟨[(kv,vv)],⟨by rfl,.inr ⟨by simp,g,0,cap,rfl,bH hb,by omega,hm,fun j u hj=>?_⟩⟩,hk,hv,trivial⟩;rw[Nat.zero_add];exact Aa hb (by simpa[A3]using hj)
theorem Atm {w}{g cap}{kv vv kv' vv'}{p q}(hb:w.heap[g]?=O (Y #[kv,vv,kv',vv'] 83))(hk:An w kv p.K)(hv:An w vv p.V)(aa:An w kv' q.K)(ab:An w vv' q.V)(hc:2≤cap)(hm:cap≤aN):A8 w (J (O ⟨g,0,Q⟩) 2 cap) [p,q]:=by
 refine⟨[(kv,vv),(kv',vv')],⟨by rfl,.inr ⟨by simp,g,0,cap,rfl,bH hb,by omega,hm,fun j u hj=>?_⟩⟩,hk,hv,aa,ab,trivial⟩;rw[Nat.zero_add];exact Aa hb (by simpa[A3]using hj)
theorem Aj1 (p)(kv vv)(w)(hk:An w kv p.K)(hv:An w vv p.V)(h4:p.K.length≤4):
  aQ aB 187 #[bO #[kv,vv]] w fun e w'=>∃sv,e=aE sv∧A8 w' sv (E7 p)∧aL w.heap.size w w':=by
 rw[E7,if_pos h4];have ab:=hid hk;have ac:=hid hv;obtain⟨ka,kc,rfl⟩:=hk.shape;obtain⟨va,vc,rfl⟩:=hv.shape;clear hk hv;generalize p.K.length=n at*;generalize p.V.length=m at*;have i0:(n:Int)≤4:=by omega
 go_enter Tryz.func187,Tryz.ntmps187;go_wp2;go_ret;have aa:aL _ w ((w.alloc (Y #[J ka n kc,J va m vc] 83)).alloc (Y #[J ka n kc,J va m vc] 83)):=((aG _ w).alloc (aF _) _).alloc (by simp) _;refine⟨_,rfl,Pu (by have:=Ab (w.alloc (Y #[J ka n kc,J va m vc] 83)) (Y #[J ka n kc,J va m vc] 83);simp_all) (ab.out.below aa) (ac.out.below aa) (by simp) (by decide),aa⟩
theorem Aqy (K1 K2 V1 V2)(kb ko kc vb vo vc)(w)(hk:An w (J (O ⟨kb,ko,Q⟩) (K1++K2).length kc) (K1++K2))(hv:An w (J (O ⟨vb,vo,Q⟩) (V1++V2).length vc) (V1++V2))(ay:5≤kc)(ak:kc≤aN)(az:5≤vc)(al:vc≤aN)
  (h1:K1.length=2) (h2:K2.length=3) (h3:V1.length=2) (h4:V2.length=3):
  aQ aB 187 #[bO #[J (O ⟨kb,ko,Q⟩) 5 kc,J (O ⟨vb,vo,Q⟩) 5 vc]] w fun e w'=>∃sv,e=aE sv∧A8 w' sv [⟨K1,V1⟩,⟨K2,V2⟩]∧aL w.heap.size w w':=by
 have a1:=Agp hk (by grind);have a2:=Agq hk (by omega);have b1:=Agp hv (by grind);have b2:=Agq hv (by omega);rw[h1]at a1 a2;rw[h2]at a2;rw[h3]at b1 b2;rw[h4]at b2;have ah:=fun W h=>Lj ⟨K1,V1⟩ _ _ W (a1.below h) (b1.below h) (by grind) (by grind) (by grind)
 have ai:=fun W h=>Lj ⟨K2,V2⟩ _ _ W (a2.below h) (b2.below h) (by grind) (by grind) (by grind)
 simp only[h1,h2,h3,h4]at ah ai;have H:=hid (cK h1 (cK h2 (cK h3 h4)));clear a1 a2 b1 b2 hk hv h1 h2 h3 h4;unfold aN at ak al;have i1:(2:Int)≤kc:=by omega
 have i2:(2:Int)≤vc:=by omega
 have i3:¬(kc=2):=by omega
 have i4:¬(vc=2):=by omega
 have i5:(5:Int)≤kc:=by omega
 have i6:(5:Int)≤vc:=by omega
 generalize aa:w.alloc (Y #[J (O ⟨kb,ko,Q⟩) 5 kc,J (O ⟨vb,vo,Q⟩) 5 vc] 83)=W0;have ae:aL w.heap.size w W0:=by rw[←aa];exact(aG _ w).alloc (aF _) _
 have ba:W0.heap.size=w.heap.size+1:=by rw[←aa];simp
 have c0:W0.cell? ⟨w.heap.size,0,Q⟩=O (J (O ⟨kb,ko,Q⟩) 5 kc):=by rw[←aa];exact Aa (Ab w _) rfl
 have c1:W0.cell? ⟨w.heap.size,1,Q⟩=O (J (O ⟨vb,vo,Q⟩) 5 vc):=by rw[←aa];exact Aa (Ab w _) rfl
 go_enter Tryz.func187,Tryz.ntmps187;go_wp2;clear aa
 go_region_held3(fun w'=>w'.cell? ⟨w.heap.size,0,Q⟩=O (J (O ⟨kb,ko,Q⟩) 5 kc)∧w'.cell? ⟨w.heap.size,1,Q⟩=O (J (O ⟨vb,vo,Q⟩) 5 vc))
  (first|exact⟨(aT _ _ _ hZ).trans am,(aT _ _ _ hZ).trans an⟩|grind|grind|simp_all)
  (first
   |(go_at_call_of 184 (Value.agg #[J (O ⟨kb,ko,Q⟩) 2 kc,J (O ⟨vb,vo,Q⟩) 2 vc]);refine(ah _ ae.drew).mono ?_;rintro e w1 ⟨g1,k1,g2,k2,rfl,ap,aq,bb,af⟩;obtain⟨ab,ar⟩:=E5 af;have hA:w.heap.size<W0.drew.heap.size:=(by simp_all);have ag:=ae.drew.trans (af.mono (show w.heap.size≤W0.drew.heap.size from ae.size));have au:=(ab _ _ hA).trans c0;have av:=(ab _ _ hA).trans c1)
   |(go_at_call 184;refine(ai _ ag).mono ?_;rintro e w2 ⟨g3,k3,g4,k4,rfl,aw,ax,bc,ac⟩;obtain⟨ab,ar⟩:=E5 ac;replace hA:=bA hA af.size;have hZ:=bA hA ac.size;have am:=(ab _ _ hA).trans au;have an:=(ab _ _ hA).trans av))
 go_wp2;go_ret;have aj:=ag.trans (ac.mono ag.size);obtain⟨h1,h2,h3,h4⟩:=H.out;have ad:aL _ w2 (w2.alloc (Y #[J (O ⟨g1,0,Q⟩) 2 k1,J (O ⟨g2,0,Q⟩) 2 k2,J (O ⟨g3,0,Q⟩) 3 k3,J (O ⟨g4,0,Q⟩) 3 k4] 83)):=(aG _ _).alloc (aF _) _;have q1:=((ap.strs).below ac).below ad;have q2:=((aq.strs).below ac).below ad;have q3:=(aw.strs).below ad;have q4:=(ax.strs).below ad;simp only[h1,h2,h3,h4]at q1 q2 q3 q4;exact⟨_,rfl,Atm (Ab w2 _) q1 q2 q3 q4 (by simp) (by decide),aj.trans (ad.mono aj.size)⟩
theorem Acs (p:Pg)(kv vv:Z)(w:aV)(hk:An w kv p.K)(hv:An w vv p.V)(h5:p.K.length≤5)(hl:p.V.length=p.K.length):
  aQ aB 187 #[bO #[kv,vv]] w fun e w'=>∃sv,e=aE sv∧A8 w' sv (E7 p)∧aL w.heap.size w w':=by
 by_cases h4:p.K.length≤4
 ·exact Aj1 p kv vv w hk hv h4
 ·rw[E7,if_neg h4];have hn:p.K.length=5:=by omega
  have hm:p.V.length=5:=by omega
  obtain⟨kb,ko,kc,rfl,_,aa,ac,_⟩:=hk.at (by omega);obtain⟨vb,vo,vc,rfl,_,ab,ad,_⟩:=hv.at (by omega);rw[hn]at aa;rw[hm]at ab;have:=Aqy (p.K.take 2) (p.K.drop 2) (p.V.take 2) (p.V.drop 2) kb ko kc vb vo vc w (by simp_all) (by simp_all) aa ac ab ad (by grind) (by grind) (by grind) (by grind);rw[hn,hm];exact this
theorem Aqz {w}{b off n cap}{A M}(h:A8 w (J (O ⟨b,off,Q⟩) n cap) (A++M))(hn:n=(A++M).length)(h0:0<n):A8 w (J (O ⟨b,off,Q⟩) A.length cap) A:=by
 obtain⟨rows,h1,h2⟩:=h;have hp:=h2.part;refine⟨_,?_,hp.1⟩;subst hn;rw[←aJ A.length rows,Wt]at h1;refine Eu.head h1 h0 ?_ (by simp);rw[Mc,hp.1.length]
theorem Aq0 {w}{b off n cap}{A M}(h:A8 w (J (O ⟨b,off,Q⟩) n cap) (A++M))(hn:n=(A++M).length)(h0:0<M.length):A8 w (J (O ⟨b,off+A.length*2,Q⟩) M.length (cap-A.length)) M:=by
 obtain⟨rows,h1,h2⟩:=h;have hp:=h2.part;refine⟨_,?_,hp.2⟩;subst hn;rw[←aJ A.length rows,Wt]at h1;have:=Eu.rest h1 (by grind) (by rw[Mc,hp.1.length]) (by grind);grind
theorem A0q (A P B)(s1 s2 s3)(g cap)(w)(hb:w.heap[g]?=O (Y #[s1,s2,s3] 42))(h1:A8 w s1 A)(h2:A8 w s2 P)(h3:A8 w s3 B)(hs:(A.length+P.length+B.length) *48≤140737488355328):
  aQ aB 242 #[J (O ⟨g,0,Q⟩) 3 cap] w fun e w'=>∃ao c,e=aE (J ao (A++P++B).length c)∧A8 w' (J ao (A++P++B).length c) (A++P++B)∧aL w.heap.size w w':=by
 obtain⟨r1,a1,p1⟩:=h1;obtain⟨r2,a2,p2⟩:=h2;obtain⟨r3,a3,p3⟩:=h3;have ab:=A0o [(s1,A.length,A3 r1),(s2,P.length,A3 r2),(s3,B.length,A3 r3)] g cap w (bH hb) (by
   intro i x hx
   match i,hx with
   |0,hx=>simp at hx;subst hx;exact Aa hb rfl
   |1,hx=>simp at hx;subst hx;exact Aa hb rfl
   |2,hx=>simp at hx;subst hx;exact Aa hb rfl
   |n+3,hx=>grind) (by
   intro x hx;simp only[cQ,List.not_mem_nil,or_false]at hx;rcases hx with rfl|rfl|rfl
   ·exact⟨a1,p1.one⟩
   ·exact⟨a2,p2.one⟩
   ·exact⟨a3,p3.one⟩) (by simp) (by simp[U5.sum];omega)
 refine ab.mono ?_;rintro e w' ⟨v,rfl,hr,aa⟩;have ac:U5.sum [(s1,A.length,A3 r1),(s2,P.length,A3 r2),(s3,B.length,A3 r3)]=(A++P++B).length:=by simp[U5.sum]<;>omega
 have ad:U5.all [(s1,A.length,A3 r1),(s2,P.length,A3 r2),(s3,B.length,A3 r3)]=A3 (r1++r2++r3):=by simp[U5.all,A3]
 rw[ac,ad]at hr;obtain⟨ao,c,rfl⟩:=hr.shape;exact⟨ao,c,rfl,⟨_,hr,((p1.keep aa (aF _)).append (p2.keep aa (aF _))).append (p3.keep aa (aF _))⟩,aa⟩
theorem Ub {size}{w}{sv}{n}{cs}(h:Eu size w sv n cs){g}{i}(v)(hn:sv.ownBlock≠O g):Eu size (w.setCell ⟨g,i,Q⟩ v) sv n cs:=by
 refine⟨h.1,?_⟩;rcases h.2 with h2|⟨h0,b,off,cap,rfl,hlt,hc,hm,hcell⟩
 ·grind
 ·refine .inr ⟨h0,b,off,cap,rfl,?_,hc,hm,fun j u hj=>?_⟩
  ·simp_all
  ·rw[bR]
   ·grind
   ·intro e;simp only[bZ]at e;exact hn (by simp[cN,e.1])
theorem Aj2 {w:aV}{sv:Z}{L:List ByteArray}(h:An w sv L){g:Nat}{t:TypeId}(hb:w.heap[g]?=O (Y #[J Q 0 0] t))(v:Z):An (w.setCell ⟨g,0,Q⟩ v) sv L:=by
 rcases bB L.length with h0|h0
 ·refine⟨h.1,?_⟩;rcases h.2 with h2|⟨h1,_⟩
  ·exact .inl h2
  ·omega
 ·obtain⟨b,aa,cap,rfl,_,_,_,hc⟩:=h.at h0;refine Ub h v fun e=>?_
  obtain rfl:=by simpa[cN]using e
  obtain⟨x,hx⟩:∃x,L[0]?=O x:=⟨_,aC h0⟩;have:=hc 0 x hx;simp only[World.cell?,hb,cI]at this;grind
theorem Pgs.set {w}{g}{t}(hb:w.heap[g]?=O (Y #[J Q 0 0] t))(v):∀{rs:List (Z×Z)}{T:List Pg},Pgs w rs T→Pgs (w.setCell ⟨g,0,Q⟩ v) rs T
 |[],[],_=>trivial
 |_::_,_::_,h=>⟨Aj2 h.1 hb v,Aj2 h.2.1 hb v,Pgs.set hb v h.2.2⟩
theorem Gy {w:aV}{sv:Z}{T:List Pg}(h:A8 w sv T){g:Nat}{t:TypeId}(hb:w.heap[g]?=O (Y #[J Q 0 0] t))(v:Z):A8 (w.setCell ⟨g,0,Q⟩ v) sv T:=by
 obtain⟨rows,h1,h2⟩:=h;refine⟨rows,?_,Pgs.set hb v h2⟩;rcases bB T.length with h0|h0
 ·refine⟨h1.1,?_⟩;rcases h1.2 with h3|⟨h3,_⟩
  ·exact .inl h3
  ·omega
 ·have aa:=h1;rcases h1.2 with⟨h3,_⟩|⟨_,b,off,cap,rfl,_,_,_,hc⟩
  ·omega
  ·refine Ub aa v fun e=>?_
   obtain rfl:b=g:=by simpa[cN]using e
   have hl:=aa.1;obtain⟨x,hx⟩:∃x,(A3 rows)[1]?=O x:=⟨_,aC (by omega)⟩;have:=hc 1 x hx;simp only[World.cell?,hb]at this;grind
theorem Kx (A M B P:List Pg)(tv pv:Z)(t:Nat)(w:aV)(ht:Bi w tv (A++(M++B)))(hp:A8 w pv P)(hM:0<M.length)(aw:t=A.length+M.length)(hs:(A.length+P.length+B.length) *48≤140737488355328):
  aQ aB 185 #[tv,y aZ A.length,y aZ t,pv] w fun e w'=>∃ar,e=aE ar∧Bi w' ar (A++P++B)∧aL w.heap.size w w':=by
 obtain⟨sv,rfl,hT⟩:=ht;have ax:(A++(M++B)).length=A.length+M.length+B.length:=by simp;omega
 obtain⟨b,aa,cap,rfl,hb,bd,ay,az⟩:=hT.at (by omega);have e1:=Aqz hT rfl (by omega);have ah:=hT;rw[←aX]at ah;have e3:∃s3,s3=(if cap=t then(⟨b,aa,Q⟩:Addr)else⟨b,aa+t*2,Q⟩)∧A8 w (J (O s3) ((A++(M++B)).length-t) (cap-t)) B:=by
  refine⟨_,rfl,?_⟩;rcases bB B.length with h0|h0
  ·have hl:(A++(M++B)).length-t=0:=by omega
   rw[hl];obtain rfl:=aM h0;exact⟨[],Eu.none,trivial⟩
  ·rw[if_neg (by omega)];have:=Aq0 ah (by rfl) h0;grind
 obtain⟨s3,af,e3⟩:=e3;have cc:=fun W g hW hb=>A0q A P B _ pv _ g 3 W hb (e1.below hW) (hp.below hW) (e3.below hW) hs
 have be:t≤(A++(M++B)).length:=by omega
 have bf:A.length≤(A++(M++B)).length:=by omega
 obtain⟨po,pc,rfl⟩:∃po pc,pv=J po P.length pc:=by obtain⟨rows,h1,_⟩:=hp;exact h1.shape
 clear hT ah e1 e3 hp az ax hs aw;generalize bg:A++P++B=R at*;generalize A.length=a at*;generalize(A++(M++B)).length=n at*;generalize P.length=pl at*;clear hM;unfold aN at ay;have i1:(0:Int)≤a:=by omega
 have i2:a≤(cap:Int):=by omega
 have i3:(0:Int)≤t:=by omega
 have i4:t≤(n:Int):=by omega
 have i5:n≤(cap:Int):=by omega
 have i6:a≤(n:Int):=by omega
 generalize ad:(w.alloc (Y #[J (O ⟨b,aa,Q⟩) n cap] 44)).alloc (Y #[J Q 0 0] 44)=W0;have ag:aL w.heap.size w W0:=by rw[←ad];exact((aG _ w).alloc (aF _) _).alloc (by simp) _
 have au:W0.heap.size=w.heap.size+1+1:=by rw[←ad];simp
 have c0:W0.cell? ⟨w.heap.size,0,Q⟩=O (J (O ⟨b,aa,Q⟩) n cap):=by rw[←ad];exact Aa (Ad (Ab w _) _) rfl
 have r0:W0.heap[w.heap.size+1]?=O (Y #[J Q 0 0] 44):=by
  rw[←ad];have:=Ab (w.alloc (Y #[J (O ⟨b,aa,Q⟩) n cap] 44)) (Y #[J Q 0 0] 44);rwa[World.size_alloc]at this
 have q0:W0.cell? ⟨_,0,Q⟩=O (J Q 0 0):=Aa r0 rfl;have f0:W0.frozen? ⟨w.heap.size+1,0,Q⟩=X:=by simp[World.frozen?,r0]
 have av:∀i j,(⟨w.heap.size+1,i,Q⟩:Addr)≠⟨w.heap.size,j,Q⟩:=fun i j h=>by grind
 have hA:w.heap.size<W0.heap.size:=by omega
 have ae:w.heap.size+1<W0.heap.size:=by omega
 by_cases ai:cap=t
 ·rw[if_pos ai]at af;subst af;subst ai;obtain rfl:n=cap:=by omega
  simp only[Nat.sub_self]at cc;have ab:aL _ w (W0.alloc (Y #[J (O ⟨b,aa,Q⟩) a n,J po pl pc,J (O ⟨b,aa,Q⟩) 0 0] 42)).drew:=(ag.alloc ag.size _).drew;have cw:=cc _ (w.heap.size+1+1) ab (by rw[←au];exact Ab W0 _);have aj:w.heap.size<(W0.alloc (Y #[J (O ⟨b,aa,Q⟩) a n,J po pl pc,J (O ⟨b,aa,Q⟩) 0 0] 42)).drew.heap.size:=by
   show _<(W0.alloc _).heap.size;simp;omega
  have ak:w.heap.size+1<(W0.alloc (Y #[J (O ⟨b,aa,Q⟩) a n,J po pl pc,J (O ⟨b,aa,Q⟩) 0 0] 42)).drew.heap.size:=by
   show _<(W0.alloc _).heap.size;simp;omega
  have al:(W0.alloc (Y #[J (O ⟨b,aa,Q⟩) a n,J po pl pc,J (O ⟨b,aa,Q⟩) 0 0] 42)).drew.cell? _=O _:=(aT _ _ _ hA).trans c0;have ba:(W0.alloc (Y #[J (O ⟨b,aa,Q⟩) a n,J po pl pc,J (O ⟨b,aa,Q⟩) 0 0] 42)).drew.cell? _=O _:=(aT _ _ _ ae).trans q0;have bb:(W0.alloc (Y #[J (O ⟨b,aa,Q⟩) a n,J po pl pc,J (O ⟨b,aa,Q⟩) 0 0] 42)).drew.frozen? _=X:=((aG _ W0).alloc (aF _) _).frozen ae |>.trans f0;have am:=((aG _ W0).alloc (aF _) (Y #[J (O ⟨b,aa,Q⟩) a n,J po pl pc,J (O ⟨b,aa,Q⟩) 0 0] 42)).block _ ae |>.trans r0;clear cc;go_enter Tryz.func185,Tryz.ntmps185;go_wp2;clear ad r0
  go_region_held3(fun w'=>w'.cell? ⟨w.heap.size,0,Q⟩=O (J (O ⟨b,aa,Q⟩) n n))
   (first|exact(bR _ _ _ _ (av _ _)).trans an|omega|omega|exact c0)
   (first
    |(go_at_call 242;refine cw.mono ?_;rintro e w1 ⟨ao,c,rfl,ho,ac⟩;obtain⟨ap,bc⟩:=E5 ac;have an:=(ap _ _ aj).trans al;have aq:=(ac.block _ ak).trans am))
  go_wp2;refine dB (v:=bO #[J ao R.length c]) (by simp[results,go_sem, *]) rfl ?_;have hz:=ab.trans (ac.mono ab.size);refine⟨_,rfl,⟨_,rfl,?_⟩,hz.setCell (by simp) _⟩;exact Gy ho aq _
 ·rw[if_neg ai]at af;subst af;have ab:aL _ w (W0.alloc (Y #[J (O ⟨b,aa,Q⟩) a cap,J po pl pc,J (O ⟨b,aa+t*2,Q⟩) (n-t) (cap-t)] 42)).drew:=(ag.alloc ag.size _).drew;have cw:=cc _ (w.heap.size+1+1) ab (by rw[←au];exact Ab W0 _);have aj:w.heap.size<(W0.alloc (Y #[J (O ⟨b,aa,Q⟩) a cap,J po pl pc,J (O ⟨b,aa+t*2,Q⟩) (n-t) (cap-t)] 42)).drew.heap.size:=by
   show _<(W0.alloc _).heap.size;simp;omega
  have ak:w.heap.size+1<(W0.alloc (Y #[J (O ⟨b,aa,Q⟩) a cap,J po pl pc,J (O ⟨b,aa+t*2,Q⟩) (n-t) (cap-t)] 42)).drew.heap.size:=by
   show _<(W0.alloc _).heap.size;simp;omega
  have al:(W0.alloc (Y #[J (O ⟨b,aa,Q⟩) a cap,J po pl pc,J (O ⟨b,aa+t*2,Q⟩) (n-t) (cap-t)] 42)).drew.cell? _=O _:=(aT _ _ _ hA).trans c0;have ba:(W0.alloc (Y #[J (O ⟨b,aa,Q⟩) a cap,J po pl pc,J (O ⟨b,aa+t*2,Q⟩) (n-t) (cap-t)] 42)).drew.cell? _=O _:=(aT _ _ _ ae).trans q0;have bb:(W0.alloc (Y #[J (O ⟨b,aa,Q⟩) a cap,J po pl pc,J (O ⟨b,aa+t*2,Q⟩) (n-t) (cap-t)] 42)).drew.frozen? _=X:=((aG _ W0).alloc (aF _) _).frozen ae |>.trans f0;have am:=((aG _ W0).alloc (aF _) (Y #[J (O ⟨b,aa,Q⟩) a cap,J po pl pc,J (O ⟨b,aa+t*2,Q⟩) (n-t) (cap-t)] 42)).block _ ae |>.trans r0;clear cc;go_enter Tryz.func185,Tryz.ntmps185;go_wp2;clear ad r0
  go_region_held3(fun w'=>w'.cell? ⟨w.heap.size,0,Q⟩=O (J (O ⟨b,aa,Q⟩) n cap))
   (first|exact(bR _ _ _ _ (av _ _)).trans an|omega|omega|exact c0)
   (first
    |(go_at_call 242;refine cw.mono ?_;rintro e w1 ⟨ao,c,rfl,ho,ac⟩;obtain⟨ap,bc⟩:=E5 ac;have an:=(ap _ _ aj).trans al;have aq:=(ac.block _ ak).trans am))
  go_wp2;refine dB (v:=bO #[J ao R.length c]) (by simp[results,go_sem, *]) rfl ?_;refine⟨_,rfl,⟨_,rfl,?_⟩,(ab.trans (ac.mono ab.size)).setCell (by simp) _⟩;exact Gy ho aq _
def rq (lo hi:ByteArray)(x:ByteArray×ByteArray):Bool:=!klt x.1 lo&&klt x.1 hi
def rng (T:List Pg)(lo hi:ByteArray):List (ByteArray×ByteArray):=(flat T).filter (rq lo hi)
theorem Atn {T:List Pg}{k}{p}(h:T[k]?=O p):flat (T.take (k+1))=flat (T.take k)++p.K.zip p.V:=by
 rw[cG,h,Bg];simp[flat]
theorem Aj3 {T}{lo hi}(h:∀p∈T,p.ok)(hk:∀x∈Cf T,klt x lo=S∨klt x hi=X):rng T lo hi=[]:=by
 refine I1 fun x hx=>?_
 have:x.1∈Cf T:=by rw[←Hs h];exact List.mem_map.2 ⟨x,hx,rfl⟩
 unfold rq;grind
theorem Aq1 {p}(aa:p.ok)(hr:Cb p.K){lo hi}(ac:klt lo hi=S)(hl:klt (Eh p) lo=X):
  ∃K1 M K4 V1 MV V4,p.K=K1++(M++K4)∧p.V=V1++(MV++V4)∧V1.length=K1.length∧MV.length=M.length∧(∀x∈K1,klt x lo=S)∧(∀x∈M++K4,klt x lo=X)∧(∀x∈K1++M,klt x hi=S)∧(∀x∈K4,klt x hi=X)∧0<(M++K4).length∧(p.K.zip p.V).filter (rq lo hi)=M.zip MV:=by
 obtain⟨K1,K2,e,h1,h2⟩:=U2 p.K hr lo;have ad:=by rw[e]at hr;exact(Gt.1 hr).2.1
 obtain⟨M,K4,rfl,h3,h4⟩:=U2 K2 ad hi;have ab:=aa.2.2;rw[e]at ab;simp only[aH]at ab;refine⟨K1,M,K4,p.V.take K1.length,(p.V.drop K1.length).take M.length,(p.V.drop K1.length).drop M.length,e,?_,by grind,by grind,h1,h2,?_,h4,?_,?_⟩
 ·rw[aJ,aJ]
 ·intro x hx;rcases dM.1 hx with hx|hx
  ·exact Co (h1 x hx) ac
  grind
 ·rcases bB (M++K4).length with h0|h0
  ·exfalso;have:=aM h0;rw[this,dN]at e;have:=h1 (Eh p) (by have:=Kw aa;grind);grind
  omega
 ·have ev:p.V=p.V.take K1.length++((p.V.drop K1.length).take M.length++(p.V.drop K1.length).drop M.length):=by rw[aJ,aJ]
  conv=>lhs;rw[e,ev]
  rw[dK (by grind),dK (by simp;omega),bQ,bQ];rw[I1 fun x hx=>by unfold rq;rw[h1 _ (bU hx).1];rfl];rw[I1 (l:=K4.zip _) fun x hx=>by unfold rq;rw[h4 _ (bU hx).1];simp];rw[Nt fun x hx=>by unfold rq;rw[h2 _ (List.mem_append_left _ (bU hx).1),h3 _ (bU hx).1];rfl];simp
theorem Aj4 {w:aV}{b aa cap:Nat}{A M B:List ByteArray}(h:An w (J (O ⟨b,aa,Q⟩) (A++(M++B)).length cap) (A++(M++B))):∀j u,(M.map aW)[j]?=O u→w.cell? ((⟨b,aa+A.length,Q⟩:Addr).add j)=O u:=by
 intro j u hj;have ab:=(aO.1 hj).1;simp only[List.length_map]at ab;obtain⟨b',ac,c,e,_,_,_,hc⟩:=h.at (by simp;omega);simp only[bW,bX,bZ]at e;obtain⟨⟨rfl,rfl,_⟩,_,rfl⟩:=e;rw[cU,Nat.add_assoc];rw[List.getElem?_map]at hj;cases hx:M[j]? with
 |none=>grind
 |some s=>
  rw[hx]at hj;have:=hc (A.length+j) s (by grind);grind
theorem Agr {w w':aV}{base}{e}{size}{v}{n}{xs}{r}(h:w.ownsRow base e size v n xs)(hg:w.grownBy w' r)(aa:r=Q∨v.ownBlock≠r):w'.ownsRow base e size v n xs:=by
 obtain⟨h1,h2⟩:=h;refine⟨h1,?_⟩;rcases h2 with h2|⟨g,cap,cur,hv,hgb,hh,rest⟩
 ·grind
 ·refine .inr ⟨g,cap,cur,hv,hgb,(hg.block g (bH hh) ?_).trans hh,rest⟩;rcases aa with rfl|aa
  ·simp
  ·rw[hv]at aa;assumption
theorem Ato {a8 a9 b8 b9}{h4 h5:Nat}(h:a8=Q∨a8≠a9)(e8:b8=a8∨b8=O h4)(e9:b9=a9∨b9=O h5)(l8:∀k,b8=O k→k<h5)(l9:∀k,a9=O k→k<h4):(b8=Q∨b8≠b9)∧(a9=Q∨b8≠a9):=by grind
def Mz (w w':aV)(e:Ending)(R:List (ByteArray×ByteArray)):Prop:=
 ∃kv vv,e=aE (cY #[kv,vv])∧An w' kv (R.map Prod.fst)∧An w' vv (R.map Prod.snd)∧aL w.heap.size w w'
theorem Aq2 (T)(tv)(lo hi)(w)(h:Bi w tv T)(hg:As T)(bf:klt lo hi=S)(hn:T.length≤1048576)(h0:0<T.length):
  aQ aB 175 #[tv,U lo,U hi] w fun e w'=>Mz w w' e (rng T lo hi):=by
 obtain⟨i0,bg,bh,bi,bj⟩:=cV Ke;have gc:=fun W (hW:aL w.heap.size w W)=>I3 T tv W (h.below hW) hg
 have pc:=fun W (hW:aL w.heap.size w W)=>Nu T tv lo W (h.below hW) hg (by omega)
 obtain⟨A,B,eT,ak,hA,hB⟩:=Tl T hg lo
 change pf T lo=A.length at ak
 rw[ak]at pc;obtain⟨sv,rfl,hs⟩:=h;obtain⟨b,ab,cap,rfl,bk,cr,cs,hT⟩:=hs.at h0;have du:aA lo.toList hi.toList=S:=bf;generalize bl:w.alloc (Y #[J (O ⟨b,ab,Q⟩) T.length cap] 44)=W0;have al:aL w.heap.size w W0:=by rw[←bl];exact(aG _ w).alloc (aF _) _
 have b0:W0.heap[w.heap.size]?=O (Y #[J (O ⟨b,ab,Q⟩) T.length cap] 44):=by rw[←bl];exact Ab w _
 have ct:W0.cell? ⟨w.heap.size,0,Q⟩=O (J (O ⟨b,ab,Q⟩) T.length cap):=Aa b0 rfl;have bm:=bH b0;have g0:=gc _ al;have cu:A.length≤T.length:=by rw[eT];simp
 have bn:rng (T.take A.length) lo hi=[]:=by
  have e:T.take A.length=A:=by rw[eT];simp
  rw[e];exact Aj3 (fun q hq=>hg.1 q (by rw[eT];simp[hq])) fun x hx=>.inl (hA x hx)
 have bo:∀k p,A.length≤k→T[k]?=O p→klt (Eh p) lo=X:=by
  intro k p hk hp;rw[eT,List.getElem?_append_right hk]at hp;exact hB p (bM hp)
 have cv:=hid bo;have cx:=hid bn;have HG:=hid hg;have HT:=hid hT;have cy:=hid bf;clear bo bn hg hT hs gc eT hA hB ak;generalize hN:T.length=n at*;have HN:=hid hN;clear hN;generalize A.length=a at*;unfold aN at cs;go_enter cE,cB;go_wp2_with(first
  |(go_fit g0;rintro e w1 ⟨rfl,am⟩;have cz:=(am.cell (p:=⟨w.heap.size,0,Q⟩) bm).trans ct;have an:=al.trans (am.mono al.size);have bp:=bA bm am.size)
  |(go_fit(pc _ an);rintro e w2 ⟨rfl,ap⟩;have da:=(ap.cell (p:=⟨w.heap.size,0,Q⟩) bp).trans cz;have ag:=an.trans (ap.mono an.size);have db:=bA bp ap.size))
 go_loopw[8,9,10] (fun z8 z9 i wr=>∃(k:Nat) (KL VL:List ByteArray),a≤k∧k≤n∧i=y aZ k∧KL.length≤4*k∧VL.length=KL.length∧wr.ownsRow w2.heap.size 9 1 z8 KL.length (KL.map U)∧wr.ownsRow w2.heap.size 9 1 z9 VL.length (VL.map U)∧(z8.ownBlock=Q∨z8.ownBlock≠z9.ownBlock)∧aL w2.heap.size w2 wr∧Hid (KL=(rng (T.take k) lo hi).map Prod.fst∧VL=(rng (T.take k) lo hi).map Prod.snd)) (fun _ _ i _=>n-(cO i).toNat)
 case atStart=>exact⟨a,[],[],aF _,cu,rfl,by simp,rfl,bS _ _ _ _,bS _ _ _ _,.inl rfl,aG _ _,hid (by rw[cx.out];exact⟨rfl,rfl⟩)⟩
 case round=>
  obtain⟨k,KL,VL,dc,dv,rfl,dw,bq,aq,ar,bt,ad,HR⟩:=hrel;have ac:aL w.heap.size w wr:=ag.trans (ad.mono ag.size);have dx:wr.cell? ⟨w.heap.size,0,Q⟩=O (J (O ⟨b,ab,Q⟩) n cap):=(ad.cell (p:=⟨w.heap.size,0,Q⟩) db).trans da
  by_cases dy:k<n
  ·obtain⟨p,hp⟩:∃p,T[k]?=O p:=⟨_,aC (by rw[HN.out];omega)⟩;obtain⟨aa,au⟩:=HG.out.page hp;obtain⟨kv,vv,d0,d1,bu,av⟩:=HT.out k p hp;have hk:=bu.below ac;have hv:=av.below ac;have c0:=(ac.cell (p:=⟨b,ab+k*2,Q⟩) bk).trans d0;have c1:=(ac.cell (p:=⟨b,ab+k*2+1,Q⟩) bk).trans d1;clear bu d0 d1;obtain⟨kb,ko,kc,rfl,dz,ea,dd,bv⟩:=hk.at aa.1;obtain⟨vb,vo,vc,rfl,eb,ec,de,df⟩:=hv.at (by rw[aa.2.2];exact aa.1);have cf:wr.cell? ⟨kb,ko,Q⟩=O (U (Hz p)):=by have:=bv 0 _ (Agl aa.1);rwa[cI]at this
   have ed:(0:Int)<(p.K.length:Int):=by have:=aa.1;omega
   have j0:(0:Int)≤(k:Int):=by omega
   have j1:(k:Int)<(n:Int):=by omega
   clear bv df;cases hf:klt (Hz p) hi
   ·have dg:aA _ _=X:=hf;have ae:rng T lo hi=rng (T.take k) lo hi:=by
     have hd:rng (T.drop k) lo hi=[]:=by
      have bw:As (T.take k++T.drop k):=by rw[aJ];exact HG.out
      refine Aj3 (bw.part.2.1) fun x hx=>.inr ?_
      have aw:k<T.length:=by rw[HN.out];omega
      have bx:T[k]=p:=by rw[aC aw]at hp;simpa using hp
      rw[bT aw,bx]at hx;have hr:=bw.part.2.2;rw[bT aw,bx,Ev]at hr;rw[Ev]at hx;have ax:x=Hz p∨klt (Hz p) x=S:=by
       rcases dM.1 hx with hx|hx
       ·exact Acn au hx
       ·exact .inr ((Gt.1 hr).2.2 _ (Acm aa) x hx)
      rcases ax with rfl|ax
      ·omega
      ·cases dh:klt x hi with
       |false=>rfl
       |true=>have:=Co ax dh;grind
     have e:rng T lo hi=rng (T.take k++T.drop k) lo hi:=by rw[aJ]
     rw[e,rng,Bg,bQ];show _++rng (T.drop k) lo hi=_;rw[hd,dN];rfl
    have HE:=hid ae;clear ae;go_wp2;go_ret2;refine⟨_,_,rfl,?_,?_,ac⟩
    ·rw[HE.out,←HR.out.1];exact Eu.of_own aq
    ·rw[HE.out,←HR.out.2];exact Eu.of_own ar
   ·have dg:aA (Hz p).toList hi.toList=S:=hf;obtain⟨K1,M,K4,V1,MV,V4,eK,eV,l1,lM,q1,q2,q3,q4,q5,bz⟩:=Aq1 aa au cy.out (cv.out k p dc hp);have ay:=fun W hW=>U3 K1 _ lo _ W (by rw[←eK];exact hk.below hW) q1 q2 (by rw[←eK];exact aa.2.1)
    have ah:=fun W hW=>U3 _ K4 hi _ W (by rw[aX,←eK];exact hk.below hW) q3 q4 (by rw[aX,←eK];exact aa.2.1)
    have nk:=fun W hW=>Aj4 (w:=W) (by rw[←eK];exact hk.below hW)
    have nv:=fun W hW=>Aj4 (w:=W) (by rw[←eV];exact av.below hW)
    rw[l1]at nv;have ca:p.K.length=K1.length+M.length+K4.length:=by rw[eK];simp;omega
    have ee:=aa.2.1;have cb:=aa.2.2;have ef:=by simpa using q5
    have cc:=hid (show(rng (T.take (k+1)) lo hi).map Prod.fst=KL++M∧(rng _ lo hi).map Prod.snd=VL++MV by
     rw[HR.out.1,HR.out.2,rng,Atn hp,bQ,bz,bC,bC,List.map_fst_zip (by omega),List.map_snd_zip (by omega)];exact⟨rfl,rfl⟩)
    have tl:(K1++M).length=K1.length+M.length:=by simp
    rw[tl]at ah;clear eK eV q1 q2 q3 q4 q5 bz hp hk hv av au l1 tl;generalize di:p.K.length=pl at*;generalize dj:p.V.length=pv at*;generalize K1.length=f at*;generalize cd:M.length=ml at*;generalize K4.length=x4 at*;generalize decide ((M++K4).head? =O lo)=t1 at ay;generalize decide (K4.head? =O hi)=t2 at ah;unfold aN at dd de;have u0:(0:Int)≤f:=by omega
    have u1:f≤f+(ml:Int):=by omega
    have u2:f+ml≤(kc:Int):=by omega
    have u3:f+ml≤(vc:Int):=by omega
    have u6:(f+(ml:Int)).toNat=f+ml:=by omega
    have u7:(0:Int)≤f+ml:=by omega
    have u4:¬(kc=f):=by omega
    have u5:¬(vc=f):=by omega
    have ai:=hid (cK ca (cK cb cd));have eg:f+ml-f=ml:=by omega
    have ce:=lM;have eh:KL.length+ml≤4*(k+1):=by omega
    clear ca cb lM cd di dj;obtain⟨W1,az⟩:∃W1,wr.alloc (Y #[J (O ⟨kb,ko,Q⟩) pl kc,J (O ⟨vb,vo,Q⟩) pv vc] 83)=W1:=⟨_,rfl⟩;have ba:aL wr.heap.size wr W1:=by rw[←az];exact(aG _ _).alloc (aF _) _
    have bb:W1.heap[wr.heap.size]?=O (Y #[J (O ⟨kb,ko,Q⟩) pl kc,J (O ⟨vb,vo,Q⟩) pv vc] 83):=by rw[←az];exact Ab wr _
    have dk:W1.cell? ⟨_,0,Q⟩=O (J _ pl kc):=Aa bb rfl;go_upto_region 10 with(first
     |(go_fit(ay W1 ba);rintro e w3 ⟨rfl,cg⟩;have b3:=(cg.block _ (bH bb)).trans bb;have k3:w3.cell? ⟨_,0,Q⟩=O (J _ pl kc):=Aa b3 rfl;have bc:=ba.trans (cg.mono ba.size);have l3:=bH b3)
     |(go_fit(ah w3 bc);rintro e w4 ⟨rfl,ch⟩;have b4:=(ch.block _ l3).trans b3;have k4:w4.cell? ⟨_,0,Q⟩=O (J _ pl kc):=Aa b4 rfl;have af:=bc.trans (ch.mono bc.size)))
    have aj:=Aj aq af;have cj:=Aj ar af;have ck:=nk w4 af;have cl:=cH ad.size af.size;clear ay ah nk cr;go_wp2_with(at_builtin;go_must(refine dI _ rfl _ _ 54 rfl _ 9 i0 _ 1 16 dC bg bh bi bj rfl (by simp) _ _ _ rfl aj _ ml _ _ (by first|rfl|(simp;done)) (by simp;exact ai.out.2.2) ck (Ot _) (by simp only[aN];omega) (by omega) cl ?_));intro z8 w5 cm bd _ dl;have cn:=Agr cj bd (by rcases bt with e|e;exact .inl e;exact .inr (Ne.symm e));have v5:w5.cell? ⟨_,1,Q⟩=O (J _ pv vc):=Aa ((bd.block _ (bH b4) (Ack aj b4 (by simp))).trans b4) rfl;have be:=(ad.trans (af.mono ad.size)).grown bd cl (fun j hj=>(aj.lt j hj).1);have dm:=ag.trans (be.mono ag.size);have dn:=nv w5 dm;have co:=be.size;clear nv ck aj dk k3 k4 az;go_wp2_with(at_builtin;go_must(refine dI _ rfl _ _ 54 rfl _ 9 i0 _ 1 16 dC bg bh bi bj rfl (by simp) _ _ _ rfl cn _ ml _ _ (by first|rfl|(simp;done)) (by simp_all) dn (Ot _) (by simp only[aN];omega) (by omega) co ?_));intro z9 w6 cp cq _ dp;obtain⟨dq,ds⟩:=Ato bt dl dp (fun j hj=>(cm.lt j hj).2) (fun j hj=>(cj.lt j hj).2);go_wp2;go_roundw
    case rel=>
     refine⟨_,_,_,by omega,by omega,by rfl,?_,?_,?_,?_,dq,be.grown cq co (fun j hj=>(cn.lt j hj).1),hid ⟨cc.out.1.symm,cc.out.2.symm⟩⟩
     ·rw[aH,ai.out.2.2];omega
     ·rw[aH,aH,ai.out.2.2,ce,bq]
     ·rw[aH,bC,ai.out.2.2];exact Agr cm cq ds
     ·rw[aH,bC,ce];first|exact cp|(rw[bq];exact cp)
    case measure=>simp[cO];omega
  ·have dt:k=n:=by omega
   subst dt;have ae:rng T lo hi=rng (T.take k) lo hi:=by rw[←HN.out,List.take_length]
   have HE:=hid ae;clear ae;go_wp2;go_ret2;refine⟨_,_,rfl,?_,?_,ac⟩
   ·rw[HE.out,←HR.out.1];exact Eu.of_own aq
   ·rw[HE.out,←HR.out.2];exact Eu.of_own ar
theorem Ags (n)(so)(sc)(lo hi)(w)(bad)(g0:aQ aB 182 #[bO #[J so n sc]] (w.alloc (Y #[J so n sc] 44)) fun e w'=>e=aE (aY bad)∧aL (w.alloc (Y #[J so n sc] 44)).heap.size (w.alloc (Y #[J so n sc] 44)) w')(hb:bad=X∨klt lo hi=X):
  aQ aB 175 #[bO #[J so n sc],U lo,U hi] w fun e w'=>Mz w w' e []:=by
 have aa:aL _ w (w.alloc (Y #[J so n sc] 44)):=(aG _ w).alloc (aF _) _;cases bad
 ·go_enter cE,cB;go_wp2_with(go_fit g0;rintro e w1 ⟨rfl,ab⟩);go_ret2;exact⟨_,_,rfl,Eu.nil 1 _,Eu.nil 1 _,aa.trans (ab.mono aa.size)⟩
 ·have hl:aA lo.toList hi.toList=X:=by rcases hb with h|h;cases h;exact h
  go_enter cE,cB;go_wp2_with(go_fit g0;rintro e w1 ⟨rfl,ab⟩);go_ret2;exact⟨_,_,rfl,Eu.nil 1 _,Eu.nil 1 _,aa.trans (ab.mono aa.size)⟩
theorem Ang (so)(sc)(lo hi)(w)(h:Bi w (bO #[J so 0 sc]) [])(ag:klt lo hi=S):
  aQ aB 175 #[bO #[J so 0 sc],U lo,U hi] w fun e w'=>Mz w w' e []:=by
 have hl:aA _ _=S:=ag;have ac:As []:=⟨by simp,by simp[Cf]⟩;have aa:aL _ w (w.alloc (Y #[J so 0 sc] 44)):=(aG _ w).alloc (aF _) _;have pc:=fun W hW=>Nu [] _ lo W (h.below hW) ac (by simp)
 change∀W,_→aQ _ 234 _ W fun e w'=>e=aE (y _ ((0:Nat):Int))∧_ at pc
 go_enter cE,cB;go_wp2_with(first
  |(go_fit(I3 [] _ _ (h.below aa) ac);rintro e w1 ⟨rfl,ad⟩;have ae:w1.cell? ⟨_,0,Q⟩=O (J so 0 sc):=Aa ((ad.block _ (by simp)).trans (Ab w _)) rfl;have ab:=aa.trans (ad.mono aa.size);have ah:w.heap.size<w1.heap.size:=block_lt_of_cell ae)
  |(go_fit(pc _ ab);rintro e w2 ⟨rfl,af⟩;have ai:=(af.cell ah).trans ae))
 refine wp_loop_rounds 1 ?_;rw[rounds_succ];go_wp2;go_ret2;exact⟨_,_,rfl,Eu.nil 1 _,Eu.nil 1 _,ab.trans (af.mono ab.size)⟩
def U6 (g:Bool)(T:List Pg)(lo hi:ByteArray):List (ByteArray×ByteArray):=if g then rng T lo hi else[]
theorem A2p (T)(lo hi)(h:klt lo hi=X):rng T lo hi=[]:=by
 refine I1 fun x _=>?_
 unfold rq;cases h1:klt x.1 hi with
 |false=>simp
 |true=>
  have:klt x.1 lo=S:=by
   rcases Jh h with rfl|h2
   ·omega
   ·exact Co h1 h2
  grind
theorem Agt (g)(T)(ab:g=S↔As T)(tv)(lo hi)(w)(h:Bi w tv T)(hn:T.length≤1048576):
  aQ aB 175 #[tv,U lo,U hi] w fun e w'=>Mz w w' e (U6 g T lo hi):=by
 have h':=h;obtain⟨sv,rfl,hs⟩:=h';obtain⟨so,sc,rfl⟩:∃ao c,sv=J ao T.length c:=by obtain⟨rows,h1,_⟩:=hs;exact h1.shape
 have ac:aL _ w (w.alloc (Y #[J so T.length sc] 44)):=(aG _ w).alloc (aF _) _
 by_cases hg:As T
 ·rw[U6,if_pos (ab.2 hg)];cases aa:klt lo hi with
  |false=>rw[A2p T lo hi aa];exact Ags _ _ _ _ _ _ S (I3 T _ _ (h.below ac) hg) (.inr aa)
  |true=>
   rcases bB T.length with h0|h0
   ·obtain rfl:=aM h0;exact Ang so sc lo hi w h aa
   ·exact Aq2 T _ lo hi w h hg aa hn h0
 ·rw[U6,if_neg (fun e=>hg (ab.1 e))];exact Ags _ _ _ _ _ _ X (A0n T _ _ (h.below ac) hg) (.inl rfl)
theorem Aac (g)(T)(aa:g=S↔As T){lo hi}:(U6 g T lo hi).length≤4*T.length:=by
 unfold U6;split
 ·rename_i e;have h:=aa.1 e;have h1:=List.length_filter_le (rq lo hi) (flat T);have h2:=Z9 h.1;have h3:=Aaa h.1;unfold rng;omega
 simp
theorem Dw (l p q):aA (l++p) (l++q)=aA p q:=by
 induction l with
 |nil=>rfl
 |cons a l ih=>simp[aA,ih]
theorem G7 {a b}(h:a<b)(p q):aA (a::p) (b::q)=S:=by simp[aA,h]
theorem Tn (l):aA l l=X:=by
 induction l with
 |nil=>rfl
 |cons a l ih=>simp[aA,ih]
theorem Lk:∀(p q:List UInt8),aA p q=S→aA q p=X
 |_,[],h=>by simp[aA]at h
 |[],_::_,_=>by rfl
 |a::p,b::q,h=>by
  simp only[aA,cM,bK,decide_eq_true_eq,beq_iff_eq]at h;simp only[aA,bY,cW,decide_eq_false_iff_not,beq_eq_false_iff_ne];rcases h with h|⟨rfl,h⟩
  ·grind
  ·exact⟨UInt8.lt_irrefl _,.inr (Lk p q h)⟩
theorem Acu:∀(p q:List UInt8),aA p q=X→p≠q→aA q p=S
 |[],[],_,h=>absurd rfl h
 |_::_,[],_,_=>by rfl
 |[],_::_,h,_=>by simp[aA]at h
 |a::p,b::q,h,hne=>by
  simp only[aA,bY,cW,decide_eq_false_iff_not,beq_eq_false_iff_ne]at h;simp only[aA,cM,bK,decide_eq_true_eq,beq_iff_eq]
  by_cases e:a=b
  ·subst e;refine .inr ⟨rfl,Acu p q ?_ fun e=>hne (by rw[e])⟩;grind
  grind
theorem Apn (p q):∀(s t:List UInt8),(∀c∈t,0<c)→aA s t=S→aA (s++0::p) (t++0::q)=S
 |_,[],_,h=>by simp[aA]at h
 |[],b::t,ht,_=>G7 (ht b (by simp)) _ _
 |a::s,b::t,ht,h=>by
  simp only[aA,cM,bK,decide_eq_true_eq,beq_iff_eq]at h;rcases h with h|⟨rfl,h⟩
  ·exact G7 h _ _
  ·show aA ([a]++_) ([a]++_)=S;rw[Dw];exact Apn p q s t (fun c hc=>ht c (by grind)) h
theorem A3o {a b:Nat}(ha:a<256)(hb:b<256)(h:a<b):aS a<aS b:=by
 rw[cR];simp;omega
theorem Aq3 {a b:Nat}(h:a%256=b%256):aS a=aS b:=by
 apply dE.1;simp_all
theorem Xl {a b:Nat}(h:a%256<b%256):aS a<aS b:=by assumption
theorem A2q (m m')(p q)(h:m<m')(h':m'<4294967296):aA (be4 m++p) (be4 m'++q)=S:=by
 simp only[be4,aU,dL]
 by_cases e1:m/16777216=m'/16777216
 ·rw[Aq3 (show m/16777216%256=m'/16777216%256 by omega)];show aA ([aS _]++_) ([aS _]++_)=S;rw[Dw]
  by_cases e2:m/65536=m'/65536
  ·rw[Aq3 (show m/65536%256=m'/65536%256 by omega)];show aA ([aS _]++_) ([aS _]++_)=S;rw[Dw]
   by_cases e3:m/256=m'/256
   ·rw[Aq3 (show m/256%256=m'/256%256 by omega)];show aA ([aS _]++_) ([aS _]++_)=S;rw[Dw];exact G7 (Xl (by omega)) _ _
   ·exact G7 (Xl (by omega)) _ _
  ·exact G7 (Xl (by omega)) _ _
 ·exact G7 (Xl (by omega)) _ _
theorem Acv (a b):(a<b∧Hd a b= -1)∨(a=b∧Hd a b=0)∨(b<a∧Hd a b=1):=by
 unfold Hd;omega
theorem Aq4 (a b):(aA a.data.toList b.data.toList=S∧Fy a b= -1)∨(a.data.toList=b.data.toList∧Fy a b=0)∨(aA b.data.toList a.data.toList=S∧Fy a b=1):=by
 unfold Fy;rw[bF,bF]
 by_cases h:aA a.data.toList b.data.toList=S
 ·grind
 ·have h':=by simpa using h
  by_cases e:a.data.toList=b.data.toList
  ·grind
  ·right;right
   refine⟨Acu _ _ h' e,?_⟩;grind
theorem Acw {v}(hk:v.k=2)(hg:good v=S):∀c∈v.s.data.toList,0<c:=by
 intro c hc;simp[good,hk]at hg;have h0:=hg.2;unfold Lh at h0;have h:=List.all_eq_true.1 h0 c hc;simp[Qh]at h;rw[cR];grind
theorem Gz {v}(hg:good v=S):v.k=0∨v.k=1∨v.k=2:=by
 by_cases h0:v.k=0
 ·omega
 by_cases h1:v.k=1
 ·omega
 by_cases h2:v.k=2
 ·omega
 ·simp[good,h0,h1,h2]at hg
theorem U7 {v}(hk:v.k=1)(hg:good v=S):-1000000≤v.n∧v.n≤1000000:=by
 simp[good,hk]at hg;omega
theorem Ll {v}(hg:good v=S):∃t,keyOf v=aS (v.k.toNat+1)::t:=by
 rcases Gz hg with h|h|h
 ·exact⟨_,by rw[Et h,h];rfl⟩
 ·exact⟨_,by rw[Fv h,h];rfl⟩
 ·exact⟨_,by rw[Hh h,h];rfl⟩
theorem Anh {v u}(hv:good v=S)(hu:good u=S)(h:v.k<u.k)(p q):aA (keyOf v++p) (keyOf u++q)=S:=by
 obtain⟨a,ha⟩:=Ll hv;obtain⟨b,hb⟩:=Ll hu;rw[ha,hb,aU,aU];refine G7 (Xl ?_) _ _;rcases Gz hv with e|e|e<;>rcases Gz hu with f|f|f<;>rw[e,f]at h⊢<;>first|omega|simp
theorem Uc {v u}(hv:good v=S)(hu:good u=S)(h:v.k<u.k∨(v.k=u.k∧(v.n<u.n∨(v.n=u.n∧aA v.s.data.toList u.s.data.toList=S))))(p q):
  aA (keyOf v++p) (keyOf u++q)=S:=by
 rcases h with h|⟨hk,h⟩
 ·exact Anh hv hu h p q
 rcases Gz hv with e|e|e
 ·have e':=hk▸e;simp[good,e]at hv;simp[good,e']at hu;rcases h with h|⟨_,h⟩
  ·omega
  ·have h0:v.s.data.toList=[]:=by rw[hv.2];rfl
   have h1:u.s.data.toList=[]:=by rw[hu.2];rfl
   rw[h0,h1]at h;simp[aA]at h
 ·have e':=hk▸e;have bv:=U7 e hv;have bu:=U7 e' hu;simp[good,e]at hv;simp[good,e']at hu;rcases h with h|⟨_,h⟩
  ·rw[Fv e,Fv e'];show aA ([2]++(be4 _++p)) ([2]++(be4 _++q))=S;rw[Dw];exact A2q _ _ _ _ (by omega) (by omega)
  ·have h0:v.s.data.toList=[]:=by rw[hv.2];rfl
   have h1:u.s.data.toList=[]:=by rw[hu.2];rfl
   rw[h0,h1]at h;simp[aA]at h
 ·have e':=hk▸e;have gu:=Acw e' hu;simp[good,e]at hv;simp[good,e']at hu;rcases h with h|⟨_,h⟩
  ·omega
  ·rw[Hh e,Hh e'];show aA ([3]++((v.s.data.toList++[0])++p)) ([3]++((u.s.data.toList++[0])++q))=S;rw[Dw,aX,aX];exact Apn p q _ _ gu h
theorem Ik (v u)(hv:good v=S)(hu:good u=S):
  (Bs v u= -1∧∀p q,aA (keyOf v++p) (keyOf u++q)=S)∨(Bs v u=0∧keyOf v=keyOf u)∨(Bs v u=1∧∀p q,aA (keyOf u++q) (keyOf v++p)=S):=by
 unfold Bs or3;rcases Acv v.k u.k with⟨h,e⟩|⟨hk,e⟩|⟨h,e⟩
 ·left;rw[e];exact⟨rfl,fun p q=>Uc hv hu (.inl h) p q⟩
 ·rw[e];rcases Acv v.n u.n with⟨h,e⟩|⟨hn,e⟩|⟨h,e⟩
  ·left;rw[e];exact⟨rfl,fun p q=>Uc hv hu (.inr ⟨hk,.inl h⟩) p q⟩
  ·rw[e];rcases Aq4 v.s u.s with⟨h,e⟩|⟨h,e⟩|⟨h,e⟩
   ·left;rw[e];exact⟨rfl,fun p q=>Uc hv hu (.inr ⟨hk,.inr ⟨hn,h⟩⟩) p q⟩
   ·right;left;rw[e];refine⟨rfl,?_⟩;unfold keyOf;grind
   ·right;right;rw[e];exact⟨rfl,fun p q=>Uc hu hv (.inr ⟨hk.symm,.inr ⟨hn.symm,h⟩⟩) q p⟩
  ·right;right;rw[e];exact⟨rfl,fun p q=>Uc hu hv (.inr ⟨hk.symm,.inl h⟩) q p⟩
 ·right;right;rw[e];exact⟨rfl,fun p q=>Uc hu hv (.inl h) q p⟩
def Rs:List V→List V→Int
 |a::A,b::B=>if Bs a b=0 then Rs A B else Bs a b
 |_,_=>0
theorem Aad:∀(A B:List V),A.length=B.length→(∀v∈A,good v=S)→(∀v∈B,good v=S)→
  (Rs A B= -1∧aA (Dv A) (Dv B)=S)∨(Rs A B=0∧Dv A=Dv B)∨(Rs A B=1∧aA (Dv B) (Dv A)=S)
 |[],[],_,_,_=>.inr (.inl ⟨rfl,rfl⟩)
 |a::A,b::B,h,hA,hB=>by
  have ih:=Aad A B (by simpa using h) (fun v hv=>hA v (by simp[hv])) (fun v hv=>hB v (by simp[hv]));have ka:Dv (a::A)=keyOf a++Dv A:=by simp[Dv]
  have kb:Dv (b::B)=keyOf b++Dv B:=by simp[Dv]
  rw[ka,kb];unfold Rs;rcases Ik a b (hA a (by simp)) (hB b (by simp))with⟨e,h1⟩|⟨e,h1⟩|⟨e,h1⟩
  ·grind
  ·rw[e,h1,Dw,Dw];grind
  grind
theorem Xm (p):∀(l:List UInt8),(∀c∈l,c≠0)→bI (l++0::p) 0=l.length
 |[],_=>by rfl
 |b::l,h=>by
  have ih:=Xm p l fun c hc=>h c (by grind)
  have hb:(b==0)=X:=by rw[beq_eq_false_iff_ne];exact h b (by simp)
  have h1:(bI (l++0::p) 0== -1)=X:=by rw[ih,beq_eq_false_iff_ne];omega
  simp only[aU,bI,hb,h1,dA,if_false];grind
theorem A2r (c)(m)(h:m<4294967296)(p):n4 (c::(be4 m++p))=m:=by
 simp[n4,be4];omega
theorem A2s (v)(hg:good v=S)(p):fv (keyOf v++p)=(v,(keyOf v).length):=by
 rcases Gz hg with e|e|e
 ·have hz:v=zero:=by
   obtain⟨k,n,s⟩:=v;simp[good,show k=0 from e]at hg;simp only[zero,V.mk.injEq];exact⟨e,hg.1,by rw[hg.2];rfl⟩
  rw[Et e,hz];rfl
 ·have hn:=U7 e hg;have hs:v.s=⟨#[]⟩:=by simp[good,e]at hg;rw[hg.2];rfl
  rw[Fv e,aU];have hl:¬(2::(be4 (v.n+1073741824).toNat++p)).length<5:=by simp[be4]
  have h4:n4 _=((v.n+1073741824).toNat:Nat):=A2r 2 _ (by omega) p;unfold fv;rw[cA,if_neg (by simp),if_pos rfl,if_neg hl,h4];obtain⟨k,n,s⟩:=v;simp only[dG,V.mk.injEq];refine⟨⟨e.symm,?_,hs.symm⟩,by rfl⟩;grind
 ·have hb:=Acw e hg;have h0:=by simp[good,e]at hg;exact hg.1.1
  rw[Hh e,aU];have hi:bI (3::(v.s.data.toList++[0]++p)) 0=((3::v.s.data.toList).length:Nat):=by
   have:=Xm p (3::v.s.data.toList) (by grind);rw[←this];simp
  unfold fv;rw[cA,if_neg (by simp),if_neg (by simp),if_pos rfl,hi,if_neg (by omega)];obtain⟨k,n,s⟩:=v;simp only[dG,V.mk.injEq];refine⟨⟨e.symm,h0.symm,?_⟩,by simp⟩;have:List.take (((3::s.data.toList).length:Nat):Int).toNat.pred (List.drop 1 (3::(s.data.toList++[0]++p)))=s.data.toList:=by simp
  have e2:((((3::s.data.toList).length:Nat):Int).toNat-1)=(((3::s.data.toList).length:Nat):Int).toNat.pred:=rfl;rw[e2,this,Qi]
theorem Agu (v):keyOf v≠[]:=by
 unfold keyOf;grind
theorem Sv (L)(h:∀v∈L,good v=S):vals (Dv L)=O L:=by
 induction L with
 |nil=>rfl
 |cons v L ih=>
  have hv:=h v (by simp);have e:Dv (v::L)=keyOf v++Dv L:=by simp[Dv]
  have hf:=A2s v hv (Dv L);have aa:keyOf v++Dv L≠[]:=by simp[Agu v]
  have hz:(keyOf v).length≠0:=by intro x;exact Agu v (aM x)
  rw[e,Xh aa (by grind) (by grind),hf];grind
theorem A2t (c1 c2 c3 c4):be4 ((c1.toNat:Int) *16777216+(c2.toNat:Int) *65536+(c3.toNat:Int) *256+(c4.toNat:Int)).toNat=[c1,c2,c3,c4]:=by
 have h1:=c1.toNat_lt;have h2:=c2.toNat_lt;have h3:=c3.toNat_lt;have h4:=c4.toNat_lt;unfold be4;simp only[List.cons.injEq,and_true];refine⟨?_,?_,?_,?_⟩<;>(apply dE.1;simp;omega)
theorem A35 {c}:∀(l:List UInt8),¬(c::l).length<5→∃c1 c2 c3 c4 t,l=c1::c2::c3::c4::t
 |c1::c2::c3::c4::t,_=>⟨c1,c2,c3,c4,t,rfl⟩
 |[],h=>absurd (by simp) h
 |[_],h=>absurd (by simp) h
 |[_,_],h=>absurd (by simp) h
 |[_,_,_],h=>absurd (by simp) h
theorem A2u (l:List UInt8)(hl:l≠[])(hz:(fv l).2≠0)(hg:good (fv l).1=S):l=keyOf (fv l).1++l.drop (fv l).2:=by
 match l,hl with
 |c::l,_=>
  unfold fv at hz hg⊢;rw[cA]at hz hg⊢
  by_cases h1:c=1
  ·rw[if_pos h1]at hz hg⊢;rw[Et rfl,h1];simp
  rw[if_neg h1]at hz hg⊢
  by_cases h2:c=2
  ·rw[if_pos h2]at hz hg⊢
   by_cases aa:(c::l).length<5
   ·rw[if_pos aa]at hz;exact absurd rfl hz
   rw[if_neg aa]at hz hg⊢;obtain⟨c1,c2,c3,c4,t,rfl⟩:=A35 l aa;rw[Fv rfl,h2];have e:(n4 (2::c1::c2::c3::c4::t)-1073741824+1073741824).toNat=((c1.toNat:Int) *16777216+(c2.toNat:Int) *65536+(c3.toNat:Int) *256+(c4.toNat:Int)).toNat:=by
    rw[Int.sub_add_cancel];rfl
   simp only;rw[e,A2t];rfl
  rw[if_neg h2]at hz hg⊢
  by_cases h3:c=3
  ·rw[if_pos h3]at hz hg⊢
   by_cases hi:bI (c::l) 0<0
   ·grind
   rw[if_neg hi]at hz hg⊢;obtain⟨i,ab⟩:∃i:Nat,bI (c::l) 0=i:=⟨(bI (c::l) 0).toNat,by omega⟩;have hs:=(Lib.indexByte_some ab).1;rw[ab,Hh rfl];simp only[Br]
   match i,hs with
   |0,hs=>grind
   |i+1,hs=>
    simp at hs;simp only[Int.toNat_natCast,Nat.add_sub_cancel,List.drop_succ_cons,List.drop_zero];rw[h3,aU,aX]
    congr 1
    have hd:l.drop i=0::l.drop (i+1):=by
     rw[bT ((aO.1 hs).1),(aO.1 hs).2]
    rw[aU,dL,←hd,aJ]
  grind
theorem Atp:∀(n:Nat) (l:List UInt8) (L:List V),l.length≤n→vals l=O L→(∀v∈L,good v=S)∧Dv L=l∧L.length≤l.length:=by
 intro n
 induction n with
 |zero=>
  intro l L hl h;obtain rfl:=aM (Nat.le_zero.1 hl);rw[Ajs]at h;simp at h;subst h;exact⟨by simp,rfl,by simp⟩
 |succ n ih=>
  intro l L hl h
  by_cases aa:l=[]
  ·grind
  by_cases hb:(fv l).2=0∨good (fv l).1=X
  ·rw[Abf aa hb]at h;grind
  have hz:(fv l).2≠0:=fun e=>hb (.inl e)
  have hg:good (fv l).1=S:=by cases hh:good (fv l).1 with|true=>rfl|false=>grind
  rw[Xh aa hz hg]at h;obtain⟨L',h1,h2⟩:=Option.map_eq_some_iff.1 h;have ac:=List.length_pos_iff.2 aa;have ab:(l.drop (fv l).2).length≤n:=by rw[List.length_drop];omega
  obtain⟨a,b,c⟩:=ih _ L' ab h1;have hk:=A2u l aa hz hg;subst h2;refine⟨?_,?_,?_⟩
  ·grind
  ·have e:Dv ((fv l).1::L')=keyOf (fv l).1++Dv L':=by simp[Dv]
   grind
  grind
theorem Aj5 (c)(w):aQ aB 330 #[y .u8 c] w fun e w'=>e=aE (aY (Qh c))∧w'=w:=by
 by_cases h1:32≤c<;>by_cases h2:c≤126<;>by_cases h3:c=39
 all_goals
  go_enter Tryz.func330,Tryz.ntmps330;go_wp2
  all_goals
   go_ret;exact⟨Ah (by simp_all [Qh]),rfl⟩
theorem Aiq (s)(w)(h:8<s.size)(hs:s.size≤aN):
  aQ aB 289 #[U s] w fun e w'=>e=aE (aY X)∧w'=w:=by
 unfold aN at hs;go_enter Tryz.func289,Tryz.ntmps289;go_wp2;go_ret;simp
theorem Ae9 (s)(w)(h:s.size≤8):
  aQ aB 289 #[.string s] w fun e w'=>e=.returned (.bool (Lh s.data.toList))∧w'=w:=by
 go_enter Tryz.func289,Tryz.ntmps289;go_wp2
 go_loop [9] (fun i=>∃k,k≤s.size∧i=.int .i64 k∧Lh (s.data.toList.take k)=S) (fun i=>s.size-(cO i).toNat)
 case atStart=>exact⟨0,bN _,rfl,rfl⟩
 case round=>
  obtain⟨k,hk,rfl,aa⟩:=hrel;have hg:Hid _:=aa;clear aa
  by_cases ab:k<s.size
  ·have ac:Hid (Lh (s.data.toList.take (k+1))=(Lh (s.data.toList.take k)&&Qh (s[k].toNat:Int))):=by rw[Agg s k ab,Aqt];rfl
   have ad:Hid _:=Ate s k ab;cases hb:Qh (s[k].toNat:Int)
   all_goals
    go_wp2_with(refine(Aj5 _ _).mono ?_;rintro e w' ⟨rfl,rfl⟩)
   ·go_ret;exact⟨Ah (ad.out hb).symm,rfl⟩
   ·go_round
    case rel=>exact⟨k+1,by omega,by rfl,by rw[ac.out,hg.out,hb];rfl⟩
    case measure=>simp[cO];omega
  ·go_wp2;go_ret;exact⟨Ah (by have:=hg.out;rw[Axe s k (by omega)]at this;grind),rfl⟩
theorem Ky (s:ByteArray):s.toList.isEmpty=decide (s.size=0):=by
 rw[bF,show s.size=s.data.toList.length from by simp];grind
theorem Ml (v)(w)(hs:v.s.size≤aN):
  aQ aB 223 #[v.val] w fun e w'=>e=aE (aY (good v))∧w'=w.alloc (Y #[y aZ v.k,y aZ v.n,U v.s] 59):=by
 obtain⟨k,n,s⟩:=v;show aQ _ 223 #[bO #[y _ k,y _ n,U s]] w _
 by_cases h0:k=0
 ·subst h0
  by_cases hn:n=0
  all_goals
   go_enter bG,bD;go_wp2;go_ret;exact⟨Ah (by simp[good,hn,Ky]),rfl⟩
 by_cases h1:k=1
 ·subst h1;rcases(show n< -1000000∨1000000<n∨(-1000000≤n∧n≤1000000)from by omega)with hn|hn|⟨hn,hm⟩
  ·have e:decide (-1000000≤n)=X:=by simp;omega
   go_enter bG,bD;go_wp2;go_ret;exact⟨Ah (by simp[good,e]),rfl⟩
  ·have e:decide (n≤1000000)=X:=by simp;omega
   go_enter bG,bD;go_wp2;go_ret;exact⟨Ah (by simp[good,e]),rfl⟩
  ·go_enter bG,bD;go_wp2;go_ret;exact⟨Ah (by simp[good,hn,hm,Ky]),rfl⟩
 by_cases h2:k=2
 ·subst h2
  by_cases hn:n=0
  ·subst hn
   by_cases h8:s.size≤8
   ·go_enter bG,bD;go_wp2_with(refine(Ae9 _ _ h8).mono ?_;rintro e w' ⟨rfl,rfl⟩);go_ret;exact⟨Ah (by simp[good,h8]),rfl⟩
   ·have h9:8<s.size:=by omega
    have e:decide (s.size≤8)=X:=by simp;omega
    have E:Hid _:=e;clear e h8;go_enter bG,bD;go_wp2_with(refine(Aiq s _ h9 hs).mono ?_;rintro e w' ⟨rfl,rfl⟩);go_ret;exact⟨Ah (by have:=E.out;simp[good,this]),rfl⟩
  ·go_enter bG,bD;go_wp2;go_ret;exact⟨Ah (by simp[good,hn]),rfl⟩
 go_enter bG,bD;go_wp2;go_ret;exact⟨Ah (by simp[good,h0,h1,h2]),rfl⟩
theorem Afa:(Tryz.prog.info? 5).map (fun i=>(i.zero,i.size,i.bytes))=O (O (y .u8 0),1,1):=by kernel_rfl
theorem Z3 (n)(s)(kv)(bs)(base)(w)(ab:w.ownsRow base 5 1 kv bs.length (Eq bs))
  (hb:base≤w.heap.size) (ai:bs.length+10≤140737488355328):
  aQ aB 245 #[kv,bO #[y aZ 0,y aZ n,U s]] w fun e w'=>∃ac,e=aE ac∧w'.ownsRow base 5 1 ac (bs.length+1) (Eq (bs++[1]))∧aL base w w':=by
 obtain⟨i0,hi,ae,af,ag⟩:=cV Afa;have H1:((w.alloc (aR #[aD aI 0,aD aI n,aW s] 59)).alloc (aR #[aD aK 1] 5)).ownsRow base 5 1 kv _ _:=(ab.alloc _).alloc _;have B1:=Ad (Ab w (aR #[aD aI 0,aD aI n,aW s] 59)) (aR #[aD aK 1] 5);have N1:=B8 (w.alloc (aR #[aD aI 0,aD aI n,aW s] 59)) [aD aK 1] 5;go_enter cT,cP;go_wp2_with(at_builtin;go_must(refine bL _ rfl _ _ 294 rfl base 5 i0 _ 1 1 aP hi ae af ag rfl (by simp) kv _ _ rfl H1 _ 1 1 [.int .u8 1] rfl rfl ?_ ?_ ?_ ?_ ?_ ?_))
 ·simp_all
 ·intro u hu;simp at hu;subst hu;rfl
 ·unfold aN;omega
 ·omega
 ·grind
 ·intro ah w1 ad aa _;have B2:=Gq aa B1 (Ack H1 B1 (by simp));have C0:=Aa B2 (j:=0) rfl;have Bl:=(((aG _ _).alloc hb _).alloc (by simp;omega) _).trans (Gx H1 (by grind) aa);have O1:w1.ownsRow base 5 1 ah (bs.length+1) (Eq (bs++[1])):=by rw[If];exact ad
  clear B2 aa H1 B1 N1 ad ab;go_wp2;go_ret;exact⟨_,rfl,O1,Bl⟩
theorem Abk (n)(s)(kv)(bs)(base)(w)(ab:w.ownsRow base 5 1 kv bs.length (Eq bs))
  (hb:base≤w.heap.size) (am:bs.length+10≤140737488355328) (hn:-1000000≤n) (hm:n≤1000000):
  aQ aB 245 #[kv,bO #[y aZ 1,y aZ n,U s]] w fun e w'=>∃ac,e=aE ac∧w'.ownsRow base 5 1 ac (bs.length+5) (Eq (bs++2::be4 (n+1073741824).toNat))∧aL base w w':=by
 obtain⟨i0,hi,ad,ae,af⟩:=cV Afa;have H1:((w.alloc (aR #[aD aI 1,aD aI n,aW s] 59)).alloc (aR #[aD aK 2] 5)).ownsRow base 5 1 kv _ _:=(ab.alloc _).alloc _;have B1:=Ad (Ab w (aR #[aD aI 1,aD aI n,aW s] 59)) (aR #[aD aK 2] 5);have N1:=B8 (w.alloc (aR #[aD aI 1,aD aI n,aW s] 59)) [aD aK 2] 5;go_enter cT,cP;go_wp2_with(at_builtin;go_must(refine bL _ rfl _ _ 294 rfl base 5 i0 _ 1 1 aP hi ad ae af rfl (by simp) kv _ _ rfl H1 _ 1 1 [.int .u8 2] rfl rfl ?_ ?_ ?_ ?_ ?_ ?_))
 ·simp_all
 ·intro u hu;simp at hu;subst hu;rfl
 ·unfold aN;omega
 ·omega
 ·grind
 ·intro ag w1 ah aa _;have B2:=Gq aa B1 (Ack H1 B1 (by simp));have C0:=Aa B2 (j:=0) rfl;have C1:=Aa B2 (j:=1) rfl;have Bl:=(((aG _ _).alloc hb _).alloc (by simp;omega) _).trans (Gx H1 (by grind) aa);have O1:w1.ownsRow base 5 1 ag (bs.length+1) (Eq (bs++[2])):=by rw[If];exact ah
  have S1:=aa.size;simp at S1;clear B2 aa H1 B1 N1 ah ab;have M0:0≤n+1073741824:=by omega
  have M1:n+1073741824<4294967296:=by omega
  have E:=A34 _ M0 M1;have O2:=O1.alloc (aR #[aD aK ((n+1073741824)/16777216),aD aK ((n+1073741824)/65536%256),aD aK ((n+1073741824)/256%256),aD aK ((n+1073741824)%256)] 5);have N2:=B8 w1 [aD aK ((n+1073741824)/16777216),aD aK ((n+1073741824)/65536%256),aD aK ((n+1073741824)/256%256),aD aK ((n+1073741824)%256)] 5;have EH:Hid _:=E;clear E;go_wp2_with(at_builtin;go_must(refine bL _ rfl _ _ 294 rfl base 5 i0 _ 1 1 aP hi ad ae af rfl (by simp) ag _ _ rfl O2 _ 4 4 _ rfl rfl N2 ?_ ?_ ?_ ?_ ?_))
  ·intro u hu;simp at hu;rcases hu with rfl|rfl|rfl|rfl<;>rfl
  ·unfold aN;omega
  ·omega
  ·simp;omega
  ·intro ak w2 ai aj _;have al:=(Bl.alloc (by omega) _).trans (Gx O2 (by simp;omega) aj);have O3:w2.ownsRow base 5 1 ak (bs.length+5) (Eq (bs++2::be4 (n+1073741824).toNat)):=by
    rw[show bs++2::be4 (n+1073741824).toNat=(bs++[2])++be4 (n+1073741824).toNat from by simp,If,EH.out];exact ai
   clear O2 N2 ai aj O1 Bl EH;go_wp2;go_ret;exact⟨_,rfl,O3,al⟩
theorem Afb (n)(s)(kv)(bs)(base)(w)(af:w.ownsRow base 5 1 kv bs.length (Eq bs))
  (hb:base≤w.heap.size) (ar:bs.length+10≤140737488355328) (h8:s.size≤8):
  aQ aB 245 #[kv,.agg #[.int .i64 2,.int .i64 n,.string s]] w fun e w'=>∃ag,e=.returned ag∧w'.ownsRow base 5 1 ag (bs.length+(s.size+2)) (Eq (bs++3::(s.data.toList++[0])))∧aL base w w':=by
 obtain⟨i0,hi,ab,ac,ad⟩:=cV Afa;have H1:((w.alloc (aR #[aD aI 2,aD aI n,aW s] 59)).alloc (aR #[aD aK 3] 5)).ownsRow base 5 1 kv _ _:=(af.alloc _).alloc _;have B1:=Ad (Ab w (aR #[aD aI 2,aD aI n,aW s] 59)) (aR #[aD aK 3] 5);have N1:=B8 (w.alloc (aR #[aD aI 2,aD aI n,aW s] 59)) [aD aK 3] 5;go_enter cT,cP;go_wp2_with(at_builtin;go_must(refine bL _ rfl _ _ 294 rfl base 5 i0 _ 1 1 aP hi ab ac ad rfl (by simp) kv _ _ rfl H1 _ 1 1 [.int .u8 3] rfl rfl ?_ ?_ ?_ ?_ ?_ ?_))
 ·simp_all
 ·intro u hu;simp at hu;subst hu;rfl
 ·unfold aN;omega
 ·omega
 ·grind
 ·intro ah w1 ai aa _;have B2:=Gq aa B1 (Ack H1 B1 (by simp));have C0:=Aa B2 (j:=0) rfl;have C2:=Aa B2 (j:=2) rfl;have Bl:=(((aG _ _).alloc hb _).alloc (by simp;omega) _).trans (Gx H1 (by grind) aa);have O1:w1.ownsRow base 5 1 ah (bs.length+1) (Eq (bs++[3])):=by rw[If];exact ai
  have S1:=aa.size;simp at S1;clear B2 aa H1 B1 N1 ai af;go_wp2_with(at_builtin;go_must(refine Lib.wpList_append_own_string _ rfl _ _ 294 9 rfl base 5 i0 aP bJ hi ab ac ad ah _ _ rfl O1 s rfl ?_ ?_ ?_ ?_))
  ·unfold aN;omega
  ·omega
  ·omega
  ·intro an w2 aj ae _;have ak:=Bl.trans (Gx O1 (by omega) ae);have S2:=ae.size;have O2:=aj.alloc (aR #[aD aK 0] 5);have N2:=B8 w2 [aD aK 0] 5;clear ae aj O1 Bl;go_wp2_with(at_builtin;go_must(refine bL _ rfl _ _ 294 rfl base 5 i0 _ 1 1 aP hi ab ac ad rfl (by simp) an _ _ rfl O2 _ 1 1 _ rfl rfl N2 ?_ ?_ ?_ ?_ ?_))
   ·intro u hu;simp at hu;subst hu;rfl
   ·unfold aN;omega
   ·omega
   ·simp;omega
   ·intro ap w3 al am _;have aq:=(ak.alloc (by omega) _).trans (Gx O2 (by simp;omega) am);have O3:w3.ownsRow base 5 1 ap (bs.length+(s.size+2)) (Eq (bs++3::(s.data.toList++[0]))):=by
     rw[show bs++3::(s.data.toList++[0])=((bs++[3])++s.data.toList)++[0]from by simp,If,If (bs++[3]),show bs.length+(s.size+2)=bs.length+1+s.size+1 from by omega,aX];exact al
    clear O2 N2 al am ak;go_wp2;go_ret;exact⟨_,rfl,O3,aq⟩
theorem Air (v)(hg:good v=S)(kv)(bs)(base)(w)(aa:w.ownsRow base 5 1 kv bs.length (Eq bs))
  (hb:base≤w.heap.size) (ab:bs.length+10≤140737488355328):
  aQ aB 245 #[kv,v.val] w fun e w'=>∃ac,e=aE ac∧w'.ownsRow base 5 1 ac (bs++keyOf v).length (Eq (bs++keyOf v))∧aL base w w':=by
 obtain⟨k,n,s⟩:=v;unfold good at hg;simp only at hg
 by_cases h0:k=0
 ·subst h0;have e:(bs++keyOf ⟨0,n,s⟩).length=bs.length+1:=by rw[Et rfl];simp
  rw[e,Et rfl];exact Z3 n s kv bs base w aa hb ab
 by_cases h1:k=1
 ·subst h1;simp at hg;have e:(bs++keyOf ⟨1,n,s⟩).length=bs.length+5:=by rw[Fv rfl];simp[be4]
  rw[e,Fv rfl];exact Abk n s kv bs base w aa hb ab (by omega) (by omega)
 by_cases h2:k=2
 ·subst h2;simp at hg;have:=Afb n s kv bs base w aa hb ab (by omega);have e:(bs++keyOf ⟨2,n,s⟩).length=bs.length+(s.size+2):=by rw[Hh rfl,aH,dH,aH,Dm];rfl
  rw[e,Hh rfl];exact this
 ·simp[h0,h1,h2]at hg
theorem Aae {w}{base n}{kv}{bs}(aa:w.ownsRow base 5 1 kv n (Eq bs))(hn:n=bs.length):
  (convert 294 9 kv).run aB w=.ok (U (str bs)) w:=by
 subst hn;rcases aa.2 with⟨rfl,h0⟩|⟨g,c,cur,rfl,_,_,_⟩
 ·obtain rfl:bs=[]:=by grind
  exact run_convert_bytes_nil w 294 5 aP dF 0 0 9 bJ
 ·refine run_convert_bytes_back w 294 9 5 _ c bs aP dF bJ fun j hj=>?_
  exact aa.cells rfl j _ (by simp[Eq,hj])
def Bb (L:List V):List UInt8×Int:=if L.all good then(Dv L,0)else([],1)
theorem I4 {L}(h:∀v∈L,good v=S):Bb L=(Dv L,0):=by
 have:L.all good=S:=by simpa using h
 simp[Bb,this]
theorem Aq5 {L}{v}(hv:v∈L)(h:good v=X):Bb L=([],1):=by
 have:L.all good=X:=by rw[List.all_eq_false];exact⟨v,hv,by grind⟩
 simp[Bb,this]
theorem Aj6 {L:List V}{k}{v}(h:L[k]?=O v):L.take (k+1)=L.take k++[v]:=by
 rw[cG,h];rfl
theorem Axi (L:List V)(b ad cap:Nat)(w:aV)(hL:Nr w b ad L)(hb:b<w.heap.size)(an:L.length*32≤140737488351232)(ah:∀v∈L,v.s.size≤aN):
  aQ aB 188 #[J (O ⟨b,ad,Q⟩) L.length cap] w fun e w'=>e=aE (cY #[U (str (Bb L).1),y aZ (Bb L).2])∧aL w.heap.size w w':=by
 go_enter Tryz.func188,Tryz.ntmps188;go_wp2
 go_loopw[4,9] (fun kv i wr=>∃k:Nat,k≤L.length∧i=y aZ k∧(∀v∈L.take k,good v=S)∧wr.ownsRow w.heap.size 5 1 kv (Dv (L.take k)).length (Eq (Dv (L.take k)))∧aL w.heap.size w wr) (fun _ i _=>L.length-(cO i).toNat)
 case atStart=>exact⟨0,bN _,rfl,by simp,bS _ _ _ _,aG _ _⟩
 case round=>
  obtain⟨k,hk,rfl,aa,ac,ab⟩:=hrel
  by_cases ai:k<L.length
  ·obtain⟨v,hv⟩:∃v,L[k]?=O v:=⟨_,aC ai⟩;obtain⟨c0,c1,c2⟩:=hL.below ab hb k v hv;have hs:=ah v (bM hv);have ae:=ab.size;have ap:=Apk _ aa;have aq:(L.take k).length≤k:=List.length_take_le _ _;have HG:Hid _:=aa;have HV:Hid _:=hv;clear aa hv;cases hg:good v
   ·go_wp2_with(refine(Ml v _ hs).mono ?_;rintro e w' ⟨rfl,rfl⟩);go_ret2;refine⟨?_,(ab.alloc ae _).alloc (by simp;omega) _⟩;rw[Aq5 (bM HV.out) hg];rfl
   ·go_wp2_with(first|(refine(Ml v _ hs).mono ?_;rintro e w' ⟨rfl,rfl⟩)|(refine(Air v hg _ _ _ _ ((ac.alloc _).alloc _) ?_ ?_).mono ?_))
    ·simp;omega
    ·omega
    ·rintro e w1 ⟨aj,rfl,af,ag⟩;have ak:=((ab.alloc ae _).alloc (by simp;omega) _).trans ag;have ht:=Aj6 HV.out;have al:w1.ownsRow w.heap.size 5 1 aj (Dv (L.take (k+1))).length (Eq (Dv (L.take (k+1)))):=by rw[ht,Atf];exact af
     have am:Hid (∀v∈L.take (k+1),good v=S):=by
      rw[ht];intro x hx;simp at hx;rcases hx with hx|rfl
      ·exact HG.out x hx
      ·omega
     clear af ag ac ab ht;go_wp2;go_roundw
     case rel=>exact⟨_,by omega,by rfl,am.out,al,ak⟩
     case measure=>simp[cO];omega
  ·have e:L.take k=L:=List.take_of_length_le (by omega);rw[e]at ac aa;have hc:=Aae ac rfl;have HA:Hid _:=I4 aa;clear aa e;go_wp2;go_ret2;exact⟨by rw[HA.out];rfl,ab⟩
theorem Axj (ao)(cap)(w):
  aQ aB 188 #[J ao 0 cap] w fun e w'=>e=aE (cY #[U (str (Bb []).1),y aZ (Bb []).2])∧aL w.heap.size w w':=by
 go_enter Tryz.func188,Tryz.ntmps188;go_wp2;refine wp_loop_rounds 1 ?_;rw[rounds_succ];have hc:=Aae (bS w w.heap.size 5 1) (bs:=[]) rfl;go_wp2;go_ret2;exact⟨rfl,aG _ _⟩
end
section
structure ColD where
 name:Wd
 ty:Int
 must:Bool
structure Stm where
 kind:Int
 name:Wd
 table:Wd
 col:Wd
 cols:List ColD
 rows:List (List E)
 sets:List (Wd×E)
 frm:List Wd
 out:List E
 wher:E
 order:List E
 down:Bool
 n:Int
def Stm.nil:Stm:=⟨0,noW,noW,noW,[],[],[],[],[],E.nil,[],X,0⟩
def Ai (k:Int):Stm:=⟨k,noW,noW,noW,[],[],[],[],[],E.nil,[],X,-1⟩
end
section
open Go.RowKit
structure Elem (α:Type) where
 size:Nat
 R:(Nat→Prop)→aV→α→List Z→Prop
 len:∀{F w a c},R F w a c→c.length=size
 keep:∀{F w w' a c},Keeps F w w'→R F w a c→R F w' a c
 mono:∀{F F':Nat→Prop}{w a c},(∀k,k<w.heap.size→F k→F' k)→R F w a c→R F' w a c
def All {α:Type}(K:Elem α)(F:Nat→Prop)(w:aV):List α→List Z→Prop
 |[],cs=>cs=[]
 |a::l,cs=>∃c rest,cs=c++rest∧K.R F w a c∧All K F w l rest
theorem All.keep {α}{K}{F}{w w'}(hk:Keeps F w w'):∀{l:List α}{cs:List Z},All K F w l cs→All K F w' l cs
 |[],cs,h=>h
 |a::l,cs,h=>by
  obtain⟨c,rest,h1,h2,h3⟩:=h;exact⟨c,rest,h1,K.keep hk h2,All.keep hk h3⟩
theorem All.mono {α}{K}{F F'}{w}(hk:∀k,k<w.heap.size→F k→F' k):∀{l:List α}{cs:List Z},All K F w l cs→All K F' w l cs
 |[],cs,h=>h
 |a::l,cs,h=>by
  obtain⟨c,rest,h1,h2,h3⟩:=h;exact⟨c,rest,h1,K.mono hk h2,All.mono hk h3⟩
theorem All.append {α}{K}{F}{w}:∀{l m:List α}{cs ds:List Z},All K F w l cs→All K F w m ds→All K F w (l++m) (cs++ds)
 |[],m,cs,ds,h,k=>by have:cs=[]:=h;grind
 |a::l,m,cs,ds,h,k=>by
  obtain⟨c,rest,rfl,h2,h3⟩:=h;exact⟨c,_,by simp,h2,All.append h3 k⟩
theorem All.one {α}{K}{F}{w}{a:α}{c}(h:K.R F w a c):All K F w [a] c:=⟨c,[],by simp,h,rfl⟩
theorem All.length {α}{K}{F}{w}:∀{l:List α}{cs:List Z},All K F w l cs→cs.length=l.length*K.size
 |[],cs,h=>by have:cs=[]:=h;grind
 |a::l,cs,h=>by
  obtain⟨c,rest,rfl,h2,h3⟩:=h;have e1:=K.len h2;have e2:=All.length h3;grind
def IsL {α:Type}(K:Elem α)(F:Nat→Prop)(w:aV)(sv:Z)(l:List α):Prop:=∃cs,Bp F K.size w sv l.length cs∧All K F w l cs
theorem IsL.keep {α}{K}{F}{w w'}{sv}{l:List α}(h:IsL K F w sv l)(hk:Keeps F w w'):IsL K F w' sv l:=by
 obtain⟨cs,h1,h2⟩:=h;exact⟨cs,h1.keep hk,h2.keep hk⟩
theorem IsL.mono {α}{K}{F F'}{w}{sv}{l:List α}(h:IsL K F w sv l)(hk:∀k,k<w.heap.size→F k→F' k):IsL K F' w sv l:=by
 obtain⟨cs,h1,h2⟩:=h;exact⟨cs,h1.mono hk,h2.mono hk⟩
theorem IsL.shape {α}{K}{F}{w}{sv}{l:List α}(h:IsL K F w sv l):∃ao c,sv=J ao l.length c:=by
 obtain⟨cs,h1,_⟩:=h;exact h1.shape
theorem IsL.nil {α}(K)(F)(w):IsL K F w (J Q 0 0) ([]:List α):=⟨[],Bp.nil F _ w,rfl⟩
theorem U8 {F}{w}{K}(hK:∀F w e c,K.R F w e c↔c.length=8∧IsE F w e (bO c.toArray)):∀{l:List E}{cs:List Z},All K F w l cs↔Fw F w l cs
 |[],cs=>by rfl
 |e::l,cs=>by
  rw[Fw];constructor
  ·rintro⟨c,rest,h1,h2,h3⟩;exact⟨c,rest,h1,((hK _ _ _ _).1 h2).1,((hK _ _ _ _).1 h2).2,(U8 hK).1 h3⟩
  ·rintro⟨c,rest,h1,h2,h3,h4⟩;exact⟨c,rest,h1,(hK _ _ _ _).2 ⟨h2,h3⟩,(U8 hK).2 h4⟩
def Az:Elem E where
 size:=8
 R F w e c:=c.length=8∧IsE F w e (bO c.toArray)
 len h:=h.1
 keep hk h:=⟨h.1,IsE.keep hk _ _ h.2⟩
 mono hk h:=⟨h.1,IsE.mono hk _ _ h.2⟩
theorem Aj7 {F}{w}{sv}{l}:IsL Az F w sv l↔Iz F w sv l:=
 ⟨fun⟨cs,h1,h2⟩=>⟨cs,h1,(U8 fun _ _ _ _=>Iff.rfl).1 h2⟩,fun⟨cs,h1,h2⟩=>⟨cs,h1,(U8 fun _ _ _ _=>Iff.rfl).2 h2⟩⟩
def H6:Elem (List E) where
 size:=1
 R F w l c:=∃sv,c=[sv]∧IsL Az F w sv l
 len h:=by grind
 keep hk h:=by obtain⟨sv,h1,h2⟩:=h;exact⟨sv,h1,h2.keep hk⟩
 mono hk h:=by obtain⟨sv,h1,h2⟩:=h;exact⟨sv,h1,h2.mono hk⟩
def E8:Elem (Wd×E) where
 size:=9
 R F w s c:=∃d,c=U s.1::d∧d.length=8∧IsE F w s.2 (bO d.toArray)
 len h:=by grind
 keep hk h:=by obtain⟨d,h1,h2,h3⟩:=h;exact⟨d,h1,h2,IsE.keep hk _ _ h3⟩
 mono hk h:=by obtain⟨d,h1,h2,h3⟩:=h;exact⟨d,h1,h2,IsE.mono hk _ _ h3⟩
def Ou:Elem Wd where
 size:=1
 R _ _ s c:=c=[U s]
 len h:=by grind
 keep _ h:=h
 mono _ h:=h
def Cp:Elem ColD where
 size:=3
 R _ _ x c:=c=[U x.name,y aZ x.ty,aY x.must]
 len h:=by grind
 keep _ h:=h
 mono _ h:=h
def I5 (c:List Z):Z:=bO c.toArray
def Afc (c:List Z):Z:=c.headD (aY X)
theorem Fh {F}{w}{e}{c}(h:Az.R F w e c):∃op xk xn xs s name n ao k cap,c=[y aZ op,y aZ xk,y aZ xn,U xs,U s,U name,y aZ n,J ao k cap]:=by
 obtain⟨op,⟨xk,xn,xs⟩,s,name,n,ao,k,cap,h1⟩:=h.2.shape;grind
theorem Xn {F}{w}{l}{c}(h:H6.R F w l c):∃ao k cap,c=[J ao k cap]:=by
 obtain⟨sv,rfl,h⟩:=h;obtain⟨ao,cap,rfl⟩:=h.shape;simp
theorem Sw {F}{w}{e}{c}(h:E8.R F w e c):∃cn op xk xn xs s name n ao k cap,c=[U cn,y aZ op,y aZ xk,y aZ xn,U xs,U s,U name,y aZ n,J ao k cap]:=by
 obtain⟨d,rfl,h1,h2⟩:=h;obtain⟨op,xk,xn,xs,s,name,n,ao,k,cap,rfl⟩:=Fh ⟨h1,h2⟩;simp
theorem Agv {F}{w}{e}{c}(h:Ou.R F w e c):∃s,c=[U s]:=⟨e,h⟩
theorem Xo {F}{w}{e}{c}(h:Cp.R F w e c):∃s t m,c=[U s,y aZ t,aY m]:=⟨e.name,e.ty,e.must,h⟩
theorem A0r (w:aV)(base)(t)(l)(size)(hl:l.length=size)(hb:base≤w.heap.size):(w.alloc (Y l.toArray t)).ownsRow base t size (J (O ⟨w.heap.size,0,Q⟩) 1 1) 1 l:=
 by subst hl;exact⟨by simp,.inr ⟨_,1,_,rfl,hb,Ab w _,aF _,by decide,by simp,by simp⟩⟩
abbrev FO (n:Nat)(z:Z):Nat→Prop:=fun k=>n≤k∧O k≠z.ownBlock
theorem Aaf {n}{z}{w w'}(hg:w.grownBy w' z.ownBlock):Keeps (FO n z) w w':=⟨hg.size,fun k hk hl=>hg.block k hl hk.2⟩
theorem Ud {n}{z z'}{w:aV}(h:z'.ownBlock=z.ownBlock∨z'.ownBlock=O w.heap.size):∀k,k<w.heap.size→FO n z k→FO n z' k:=by grind
def A0d (kind:Int)(name table col:Wd)(cols rows sets frm out:Z)(w8:List Z)(order:Z)(down:Bool)(n:Int):List Z:=
 [y aZ kind,U name,U table,U col,cols,rows,sets,frm,out]++w8++[order,aY down,y aZ n]
structure IsS (F:Nat→Prop) (w:aV) (s:Stm) (c:List Z):Prop where
 is:∃cols rows sets frm out w8 order,c=A0d s.kind s.name s.table s.col cols rows sets frm out w8 order s.down s.n∧w8.length=8∧IsL Cp F w cols s.cols∧IsL H6 F w rows s.rows∧IsL E8 F w sets s.sets∧IsL Ou F w frm s.frm∧IsL Az F w out s.out∧IsE F w s.wher (bO w8.toArray)∧IsL Az F w order s.order
def I6:Elem Stm where
 size:=20
 R:=IsS
 len h:=by obtain⟨cols,rows,sets,frm,out,w8,order,rfl,h8,_⟩:=h.is;simp[A0d,h8]
 keep hk h:=by
  obtain⟨cols,rows,sets,frm,out,w8,order,h1,h2,h3,h4,h5,h6,h7,h8,h9⟩:=h.is;exact⟨cols,rows,sets,frm,out,w8,order,h1,h2,h3.keep hk,h4.keep hk,h5.keep hk,h6.keep hk,h7.keep hk,IsE.keep hk _ _ h8,h9.keep hk⟩
 mono hk h:=by
  obtain⟨cols,rows,sets,frm,out,w8,order,h1,h2,h3,h4,h5,h6,h7,h8,h9⟩:=h.is;exact⟨cols,rows,sets,frm,out,w8,order,h1,h2,h3.mono hk,h4.mono hk,h5.mono hk,h6.mono hk,h7.mono hk,IsE.mono hk _ _ h8,h9.mono hk⟩
abbrev sA (kind:Int)(name table col:Wd)(cols rows sets frm out:Z)(op xk xn:Int)(xs s nmv:Wd)(n8:Int)(sl order:Z)(down:Bool)(n:Int):Array Z:=
 #[y aZ kind,U name,U table,U col,cols,rows,sets,frm,out,y aZ op,y aZ xk,y aZ xn,U xs,U s,U nmv,y aZ n8,sl,order,aY down,y aZ n]
abbrev Bq:Array Z:=sA 0 noW noW noW (J Q 0 0) (J Q 0 0) (J Q 0 0) (J Q 0 0) (J Q 0 0) 0 0 0 noW noW noW 0 (J Q 0 0) (J Q 0 0) X 0
abbrev Ue (k:Int):Array Z:=sA k noW noW noW (J Q 0 0) (J Q 0 0) (J Q 0 0) (J Q 0 0) (J Q 0 0) 0 0 0 noW noW noW 0 (J Q 0 0) (J Q 0 0) X (-1)
def Hj (v:Z):Prop:=∃ao n c,v=J ao n c
theorem B7 (ao)(n c):Hj (J ao n c):=⟨ao,n,c,rfl⟩
theorem Pv {kind}{name table col}{cols rows sets frm out}{op xk xn}{xs s nmv}{n8}{sl order}{down}{n}(h1:Hj cols)(h2:Hj rows)(h3:Hj sets)(h4:Hj frm)(h5:Hj out)(h6:Hj sl)(h7:Hj order):
  (sA kind name table col cols rows sets frm out op xk xn xs s nmv n8 sl order down n).all (·.oneCell')=S:=by
 obtain⟨_,_,_,rfl⟩:=h1;obtain⟨_,_,_,rfl⟩:=h2;obtain⟨_,_,_,rfl⟩:=h3;obtain⟨_,_,_,rfl⟩:=h4;obtain⟨_,_,_,rfl⟩:=h5;obtain⟨_,_,_,rfl⟩:=h6;obtain⟨_,_,_,rfl⟩:=h7;simp[Value.oneCell']
theorem Gf {α}{K}{F}{w}{sv}{l:List α}(h:IsL K F w sv l):Hj sv:=by obtain⟨ao,c,rfl⟩:=h.shape;exact B7 _ _ _
theorem Nv {F}{w}{kind}{name table col}{cols rows sets frm out}{op xk xn}{xs s aa:Wd}{n8}{sl order}{down}{n}{lc}{lr}{ls}{lf}{lo}{e}{ld}
  (h1:IsL Cp F w cols lc) (h2:IsL H6 F w rows lr) (h3:IsL E8 F w sets ls) (h4:IsL Ou F w frm lf) (h5:IsL Az F w out lo) (h6:IsE F w e (bO (Af op ⟨xk,xn,xs⟩ s aa n8 sl))) (h7:IsL Az F w order ld):
  I6.R F w ⟨kind,name,table,col,lc,lr,ls,lf,lo,e,ld,down,n⟩ (sA kind name table col cols rows sets frm out op xk xn xs s aa n8 sl order down n).toList:=
 ⟨cols,rows,sets,frm,out,(Af op ⟨xk,xn,xs⟩ s aa n8 sl).toList,order,rfl,rfl,h1,h2,h3,h4,h5,h6,h7⟩
theorem Ba {F}{w}{st}{c}(h:I6.R F w st c):∃o1 c1 o2 c2 o3 c3 o4 c4 o5 c5 op xk xn xs s aa n8 o6 k6 c6 o7 c7,
  c=(sA st.kind st.name st.table st.col (J o1 st.cols.length c1) (J o2 st.rows.length c2) (J o3 st.sets.length c3) (J o4 st.frm.length c4) (J o5 st.out.length c5) op xk xn xs s aa n8 (J o6 k6 c6) (J o7 st.order.length c7) st.down st.n).toList∧
  IsL Cp F w (J o1 st.cols.length c1) st.cols∧IsL H6 F w (J o2 st.rows.length c2) st.rows∧IsL E8 F w (J o3 st.sets.length c3) st.sets∧IsL Ou F w (J o4 st.frm.length c4) st.frm∧IsL Az F w (J o5 st.out.length c5) st.out∧IsE F w st.wher (bO (Af op ⟨xk,xn,xs⟩ s aa n8 (J o6 k6 c6)))∧IsL Az F w (J o7 st.order.length c7) st.order:=by
 obtain⟨cols,rows,sets,frm,out,w8,order,hc,h8,h1,h2,h3,h4,h5,h6,h7⟩:=h.is;obtain⟨o1,c1,rfl⟩:=h1.shape;obtain⟨o2,c2,rfl⟩:=h2.shape;obtain⟨o3,c3,rfl⟩:=h3.shape;obtain⟨o4,c4,rfl⟩:=h4.shape;obtain⟨o5,c5,rfl⟩:=h5.shape;obtain⟨o7,c7,rfl⟩:=h7.shape;obtain⟨op,xk,xn,xs,s,aa,n8,o6,k6,c6,rfl⟩:=Fh ⟨h8,h6⟩;exact⟨o1,c1,o2,c2,o3,c3,o4,c4,o5,c5,op,xk,xn,xs,s,aa,n8,o6,k6,c6,o7,c7,hc,h1,h2,h3,h4,h5,h6,h7⟩
theorem upd {w:aV}{b}{arr}{t}(h:w.heap[b]?=O (Y arr t))(i)(v):(w.setCell ⟨b,i,Q⟩ v).heap[b]?=O (Y (arr.setIfInBounds i v) t):=by
 simp only[World.setCell,bE,if_true,h];rfl
theorem D5:(Tryz.prog.info? 71).map (·.size)=O 20:=by kernel_rfl
theorem Ao {w:aV}{g}{old cells}{t}(h:w.heap[g]?=O (Y old t)):(w.setRow g cells).heap[g]?=O (Y cells t):=by
 simp only[bP,bE,if_true,h];rfl
theorem By {w:aV}{g b}{x}(h:w.heap[b]?=O x)(hn:b≠g)(cells):(w.setRow g cells).heap[b]?=O x:=by
 simp only[bP,bE];grind
theorem Below.row {B}{w w'}(h:aL B w w'){b}(hb:B≤b)(cells):aL B w (w'.setRow b cells):=
 ⟨h.os,h.tape,h.output,by simp[bP];exact h.size,fun k hk=>by
  have:=h.block k hk;simp only[bP,bE];grind⟩
theorem Keeps.row {F}{w w'}(h:Keeps F w w'){b}(hb:¬F b)(cells):Keeps F w (w'.setRow b cells):=
 ⟨by simp[bP];exact h.size,fun k hk hl=>by
  have:=h.block k hk hl;simp only[bP,bE];grind⟩
theorem Dn {P}{fn}{p q:Tmp}{ty}(h:fn.results=#[.cell p ty,.tmp q])(tmps:Array Z)(w)(g)(t)(cs)(fr)(d)(v)
  (hp:tmps.getD p undef=cL (O ⟨g,0,Q⟩)) (hq:tmps.getD q undef=v) (hg:w.heap[g]?=O (Y cs t fr))
  (hu:P.underlying ty=O d) (hd:(match d with|.struct _|.array _ _=>S|_=>X)=S) (hi:(P.info? ty).map (·.size)=O cs.size):
  (results fn tmps).run P w=.ok (cY #[bO cs,v]) w:=by
 have aa:tmps[p]?.getD undef=cL (O ⟨g,0,Q⟩):=by simpa using hp
 have ab:tmps[q]?.getD undef=v:=by simpa using hq
 simp[results,h,aa,ab,asAddr,run_loadVar_row w g t ty cs fr d hg hu hd hi]
def Bk (p:Nat→Bool):Nat→Nat→Int
 |_,0=> -1
 |i,n+1=>if p i then(i:Int)else Bk p (i+1) n
def Bz (p:Nat→Bool):Nat→Nat→Bool
 |_,0=>X
 |i,n+1=>p i||Bz p (i+1) n
theorem Zk (p):∀(n i:Nat),Bz p i n=decide (0≤Bk p i n)
 |0,i=>by rfl
 |n+1,i=>by
  rw[Bz,Bk,Zk p n _];grind
theorem L5 (p)(k n)(h:k<n):Bk p k (n-k)=if p k then(k:Int)else Bk p (k+1) (n-(k+1)):=by
 rw[show n-k=(n-(k+1))+1 from by omega,Bk]
structure IdxD where
 name:Wd
 table:Wd
 col:Wd
def D6:Elem IdxD where
 size:=3
 R _ _ x c:=c=[U x.name,U x.table,U x.col]
 len h:=by grind
 keep _ h:=h
 mono _ h:=h
def Ov:Elem Int where
 size:=1
 R _ _ x c:=c=[y aZ x]
 len h:=by grind
 keep _ h:=h
 mono _ h:=h
structure TabD where
 name:Wd
 cols:List ColD
def Ci:Elem TabD where
 size:=2
 R F w x c:=∃sv,c=[U x.name,sv]∧IsL Cp F w sv x.cols
 len h:=by grind
 keep hk h:=by obtain⟨sv,h1,h2⟩:=h;exact⟨sv,h1,h2.keep hk⟩
 mono hk h:=by obtain⟨sv,h1,h2⟩:=h;exact⟨sv,h1,h2.mono hk⟩
theorem Uf {α}{K}{F}{w}:∀{l:List α}{cs:List Z}{i:Nat}{x:α},All K F w l cs→l[i]?=O x→∃c,K.R F w x c∧∀j u,c[j]?=O u→cs[i*K.size+j]?=O u
 |a::l,cs,0,x,h,hx=>by
  obtain⟨c,rest,rfl,h2,_⟩:=h;grind
 |a::l,cs,i+1,x,h,hx=>by
  obtain⟨c,rest,rfl,h2,h3⟩:=h;simp only[List.getElem?_cons_succ]at hx;obtain⟨d,d1,d2⟩:=Uf h3 hx;refine⟨d,d1,fun j u hj=>?_⟩;have:=K.len h2;grind
 |[],_,_,_,_,hx=>by grind
theorem Av {α}{K}{F}{w}{ao}{n c}{l}(h:IsL K F w (J ao n c) l){i}{x:α}(hx:l[i]?=O x):
  ∃b aa cs,ao=O ⟨b,aa,Q⟩∧F b∧b<w.heap.size∧K.R F w x cs∧∀j u,cs[j]?=O u→w.cell? ⟨b,aa+i*K.size+j,Q⟩=O u:=by
 obtain⟨cs,hr,ha⟩:=h;obtain⟨d,d1,d2⟩:=Uf ha hx;have hi:=(aO.1 hx).1;rcases hr.2 with⟨h0,_⟩|⟨_,b,aa,cap,he,hF,hb,_,_,hc⟩
 ·omega
 grind
theorem Ew {α}{K}{F}{w}{ao}{n c}{l:List α}(h:IsL K F w (J ao n c) l):n=l.length∧l.length≤aN:=by
 obtain⟨cs,hr,_⟩:=h;rcases hr.2 with⟨h0,ao',c',he,_⟩|⟨_,b,off,cap,he,_,_,h1,h2,_⟩
 ·grind
 grind
end
section
open Go.RowKit Go.Maps
theorem Abl:Keyed aB 9:=string_keyed bJ
theorem Apo (w):(zeroValue 3).run aB w=.ok (y aZ 0) w:=by simp
def Mm (N:List Wd)(s:Wd):Nat:=N.countP fun x=>decide (x=s)
theorem Atq (N)(s t):Mm (N++[s]) t=Mm N t+if s=t then 1 else 0:=by
 unfold Mm;simp
theorem A0s (N)(s):Mm N s≤N.length:=List.countP_le_length
theorem Axk (N)(s):0<Mm N s↔s∈N:=by
 unfold Mm;simp
def Nw (N:List Wd)(s:Wd):Bool:=N.any fun x=>decide (x=s)
theorem Axl (N)(s):Nw N s=S↔s∈N:=by simp[Nw]
def Cnt (w:aV)(b:Nat)(N:List Wd):Prop:=
 ∃(D:DataW Unit),w.ownsMap aB 9 (plainElem aB 3) b N.length D∧IsMap D∧∀s:Wd,s.size≤aN→D.atKey (.string s.data.toList) (.lit (.int .i64 0))=.lit (.int .i64 (Mm N s:Nat))
theorem Abm (w:aV):Cnt (w.alloc (.map #[] 0)) w.heap.size []:=
 ⟨.map [],World.ownsMap_made _ _ _ _,isMap_empty,fun _ _=>rfl⟩
theorem Cnt.lt {w}{b}{N}(h:Cnt w b N):b<w.heap.size:=by obtain⟨D,h1,_⟩:=h;exact h1.lt
theorem Cnt.kept {w w'}{b}{N}{row}(h:Cnt w b N)(hg:w.grownBy w' row)(aa:O b≠row):Cnt w' b N:=by
 obtain⟨D,h1,h2⟩:=h;exact⟨D,h1.kept hg aa,h2⟩
theorem Aq6 {w w'}(h:aL w.heap.size w w'):w.grownBy w' Q:=⟨h.os,h.tape,h.output,h.size,fun k hk _=>h.block k hk⟩
theorem Cnt.below {w w'}{b}{N}(h:Cnt w b N)(hb:aL w.heap.size w w'):Cnt w' b N:=h.kept (Aq6 hb) (by simp)
theorem Xp (b:Nat)(N:List Wd)(s:Wd)(w:aV)(h:Cnt w b N)(hs:s.size≤aN)(hN:N.length≤16777216):
  aQ aB 225 #[.map (O b),U s] w fun e w'=>e=aE (aY (Nw N s))∧Cnt w' b (N++[s])∧w.grownBy w' (O b):=by
 obtain⟨D,ae,aa,hD⟩:=h;have ab:Go.keyOf aB 9 (.string s)=O (.string s.data.toList):=WideMaps.keyOf_string_mk bJ hs;have ah:=A0s N s;obtain⟨c1,ai,af,_⟩:=ae.lookup_int Abl cD cJ (Apo _) ab;have aj:c1=(Mm N s:Nat):=by
  have:=hD s hs;rw[af]at this;simpa using this
 subst aj;have ak:wrap64 ((Mm N s:Int)+1)=(Mm N s:Int)+1:=by
  unfold wrap64;omega
 have al:Hid (Nw N s=decide ((1:Int)<(Mm N s:Int)+1)):=by
  show _=_;rw[bV,Axl,decide_eq_true_eq,←Axk];omega
 have HD:Hid (∀t:Wd,t.size≤aN→(D.put (.string s.data.toList) (.lit (.int .i64 ((Mm N s:Int)+1)))).atKey (.string t.data.toList) (.lit (.int .i64 0))=.lit (.int .i64 (Mm (N++[s]) t:Nat))):=by
  intro t ht;rw[Atq]
  by_cases ac:s=t
  ·subst ac;rw[atKey_put_same aa (k:=.string s.data.toList) (show True from trivial),if_pos rfl];simp
  ·rw[atKey_put_other (fun e=>ac (by
    have:t.data.toList=s.data.toList:=by simpa using e
    exact(cZ (dD.1 this)).symm)),hD t ht,if_neg ac]
   simp
 have am:IsMap (D.put (.string s.data.toList) (.lit (.int .i64 ((Mm N s:Int)+1)))):=aa.put _ _;have an:Hid (IsMap D):=aa;generalize ap:Mm N s=cc at*;clear ap hD af ah aa;go_enter Tryz.func225,Tryz.ntmps225;have aq:plainElem (H:=Unit) aB 3 (.int .i64 (wrap64 ((cc:Int)+1)))=O (.lit (.int .i64 ((cc:Int)+1)),[]):=by
  rw[plainElem_int cJ (wrap64_wf _),ak]
 go_wp2_with(at_mapUpdate;refine wpList_mapUpdate_own _ rfl _ _ _ 276 rfl 9 3 Abl cD _ b N.length _ rfl ae (by unfold aN;omega) _ _ _ rfl rfl ab (.lit (.int .i64 ((cc:Int)+1))) [] aq ?_);intro w1 ag ar;obtain⟨c2,av,ad,_⟩:=ag.lookup_int Abl cD cJ (Apo _) ab;have au:=by
  rw[atKey_put_same an.out (k:=.string s.data.toList) (show True from trivial)]at ad;simpa using ad.symm
 subst au;clear ad ai;go_wp2;go_ret;exact⟨Ah (by rw[al.out]),⟨_,by rw[aH];exact ag,am,HD.out⟩,ar⟩
end
section
abbrev Axm:Wd:=⟨#[97,110,100]⟩
abbrev kBy:Wd:=⟨#[98,121]⟩
abbrev Ji:Wd:=⟨#[99,114,101,97,116,101]⟩
abbrev M6:Wd:=⟨#[100,101,108,101,116,101]⟩
abbrev Zl:Wd:=⟨#[100,101,115,99]⟩
abbrev Sx:Wd:=⟨#[100,114,111,112]⟩
abbrev U9:Wd:=⟨#[102,114,111,109]⟩
abbrev Xq:Wd:=⟨#[105,110,100,101,120]⟩
abbrev M7:Wd:=⟨#[105,110,115,101,114,116]⟩
abbrev To:Wd:=⟨#[105,110,116]⟩
abbrev Ajj:Wd:=⟨#[105,110,116,111]⟩
abbrev kIs:Wd:=⟨#[105,115]⟩
abbrev Rt:Wd:=⟨#[108,105,109,105,116]⟩
abbrev Va:Wd:=⟨#[109,117,115,116]⟩
abbrev Nx:Wd:=⟨#[110,111,116]⟩
abbrev Ft:Wd:=⟨#[110,117,108,108]⟩
abbrev kOn:Wd:=⟨#[111,110]⟩
abbrev kOr:Wd:=⟨#[111,114]⟩
abbrev Ny:Wd:=⟨#[111,114,100,101,114]⟩
abbrev M8:Wd:=⟨#[115,101,108,101,99,116]⟩
abbrev Aq7:Wd:=⟨#[115,101,116]⟩
abbrev J8:Wd:=⟨#[116,97,98,108,101]⟩
abbrev Zm:Wd:=⟨#[116,101,120,116]⟩
abbrev M9:Wd:=⟨#[117,112,100,97,116,101]⟩
abbrev Zn:Wd:=⟨#[118,97,108,117,101,115]⟩
abbrev Nz:Wd:=⟨#[119,104,101,114,101]⟩
abbrev Dj:Wd:=⟨#[40]⟩
abbrev C9:Wd:=⟨#[41]⟩
abbrev Zo:Wd:=⟨#[42]⟩
abbrev A0e:Wd:=⟨#[43]⟩
abbrev Ei:Wd:=⟨#[44]⟩
abbrev Gd:Wd:=⟨#[45]⟩
abbrev Kz:Wd:=⟨#[46]⟩
abbrev N0:Wd:=⟨#[59]⟩
abbrev kLt:Wd:=⟨#[60]⟩
abbrev kEq:Wd:=⟨#[61]⟩
def Cc (c:UInt8):Bool:=decide (97≤c.toNat)&&decide (c.toNat≤122)
def Bn (c:UInt8):Bool:=decide (48≤c.toNat)&&decide (c.toNat≤57)
def Na (w:Wd):Bool:=
 decide (w=Axm)||decide (w=kBy)||decide (w=Ji)||decide (w=M6)||decide (w=Zl)||decide (w=Sx)||decide (w=U9)||decide (w=Xq)||decide (w=M7)||decide (w=To)||decide (w=Ajj)||decide (w=kIs)||decide (w=Rt)||decide (w=Va)||decide (w=Nx)||decide (w=Ft)||decide (w=kOn)||decide (w=kOr)||decide (w=Ny)||decide (w=M8)||decide (w=Aq7)||decide (w=J8)||decide (w=Zm)||decide (w=M9)||decide (w=Zn)||decide (w=Nz)
def nm (w:Wd):Bool:=decide (1≤w.size)&&decide (w.size≤8)&&w.data.toList.all Cc&& !Na w
def I7 (f:UInt8→Bool)(l:List UInt8):Nat:=(l.takeWhile f).length
theorem Ow {f:UInt8→Bool}:∀{l:List UInt8}{k:Nat},(l.take k).all f=S→(∀c,l[k]?=O c→f c=X)→k≤l.length→I7 f l=k
 |[],k,_,_,h=>by simp at h;subst h;rfl
 |c::l,0,_,h,_=>by have:=h c rfl;simp[I7,this]
 |c::l,k+1,h1,h2,h3=>by
  simp at h1;have:=Ow (f:=f) (l:=l) (k:=k) (by simpa using h1.2) (fun x hx=>h2 x (by simpa using hx)) (by simpa using h3);simp only[I7,List.takeWhile_cons,h1.1,if_true,dH]at this⊢;omega
theorem Afd (f)(l):I7 f l≤l.length:=(List.takeWhile_prefix f).length_le
theorem Xr (f)(l:List UInt8):(l.take (I7 f l)).all f=S:=by
 induction l with
 |nil=>rfl
 |cons c l ih=>
  unfold I7 at ih⊢;cases h:f c
  ·simp[h]
  simp_all
end
section
open Go.RowKit
def Re (c:Int):Bool:=decide (97≤c)&&decide (c≤122)
def Ug (c:Int):Bool:=decide (48≤c)&&decide (c≤57)
theorem Vb (c):Re (c.toNat:Int)=Cc c:=by simp only[Re,Cc];grind
theorem Sy (c):Ug (c.toNat:Int)=Bn c:=by simp only[Ug,Bn];grind
theorem Vc (c)(w):aQ aB 65 #[y .u8 c] w fun e w'=>e=aE (aY (Re c))∧w'=w:=by
 by_cases h1:97≤c<;>by_cases h2:c≤122
 all_goals
  go_enter Tryz.func65,Tryz.ntmps65;go_wp2
  all_goals
   go_ret;exact⟨Ah (by simp_all [Re]),rfl⟩
theorem Wu {f}{s:ByteArray}{k}(h)(h1:(s.data.toList.take k).all f=S)(h2:f s[k]=S):(s.data.toList.take (k+1)).all f=S:=by
 rw[Agg s k h];grind
theorem Aj8 {s:ByteArray}{k}(h:k<s.size):s.data.toList[k]?=O s[k]:=by
 rw[aC (by simpa using h)];rfl
theorem Ru (s)(w)(hs:s.size≤aN):aQ aB 66 #[.func (.func 65) #[] #[],.string s] w fun e w'=>e=.returned (.int .i64 (I7 Cc s.data.toList:Nat))∧w'=w:=by
 unfold aN at hs;go_enter Tryz.func66,Tryz.ntmps66;go_wp2
 go_loop [5] (fun i=>∃k,k≤s.size∧i=.int .i64 k∧Hid ((s.data.toList.take k).all Cc=S)) (fun i=>s.size-(cO i).toNat)
 case atStart=>exact⟨0,bN _,rfl,rfl⟩
 case round=>
  obtain⟨k,hk,rfl,HG⟩:=hrel
  by_cases aa:k<s.size
  ·cases hc:Cc s[k]
   ·have ab:Re (s[k].toNat:Int)=X:=by rw[Vb];exact hc
    have HE:Hid _:=Ow HG.out (fun c h=>by rw[Aj8 aa]at h;grind) (by simp_all);clear hc;go_wp2_with(refine(Vc _ _).mono ?_;rintro e w' ⟨rfl,rfl⟩);go_ret;exact⟨Au (by rw[HE.out]),rfl⟩
   ·have ab:Re (s[k].toNat:Int)=S:=by rw[Vb];exact hc
    have HN:Hid _:=Wu aa HG.out hc;clear hc;go_wp2_with(refine(Vc _ _).mono ?_;rintro e w' ⟨rfl,rfl⟩);go_round
    case rel=>grind
    case measure=>simp[cO];omega
  ·have HE:Hid _:=Ow HG.out (fun c h=>by simp_all) (by simp_all);go_wp2;go_ret;exact⟨Au (by rw[HE.out]),rfl⟩
theorem Atr (w:Wd)(l):(w.toList==l)=decide (w=⟨l.toArray⟩):=by
 rw[Lib.toList_data,bV,beq_iff_eq,decide_eq_true_eq];constructor
 ·intro h;have:=congrArg List.toArray h;cases w;simpa using this
 grind
theorem Aj9 (w):Na w=(w.toList==[97,110,100]||w.toList==[98,121]||w.toList==[99,114,101,97,116,101]||w.toList==[100,101,108,101,116,101]||w.toList==[100,101,115,99]||w.toList==[100,114,111,112]||w.toList==[102,114,111,109]||w.toList==[105,110,100,101,120]||w.toList==[105,110,115,101,114,116]||w.toList==[105,110,116]||w.toList==[105,110,116,111]||w.toList==[105,115]||w.toList==[108,105,109,105,116]||w.toList==[109,117,115,116]||w.toList==[110,111,116]||w.toList==[110,117,108,108]||w.toList==[111,110]||w.toList==[111,114]||w.toList==[111,114,100,101,114]||w.toList==[115,101,108,101,99,116]||w.toList==[115,101,116]||w.toList==[116,97,98,108,101]||w.toList==[116,101,120,116]||w.toList==[117,112,100,97,116,101]||w.toList==[118,97,108,117,101,115]||w.toList==[119,104,101,114,101]):=by
 simp only[Atr];rfl
theorem Aka (s)(w):aQ aB 215 #[U s] w fun e w'=>e=aE (aY (Na s))∧w'=w:=by
 have hr:=Aj9 s;generalize Na s=b at hr⊢;have HR:Hid _:=hr;clear hr;go_enter Tryz.func215,Tryz.ntmps215;go_wp2
 all_goals first
  |(exfalso;grind)
  |(go_ret;refine⟨Ah ?_,rfl⟩;rw[HR.out];simp[*];done)
theorem A0t {f}{l}:(decide (I7 f l=l.length))=l.all f:=by
 rw[bV,decide_eq_true_eq];constructor
 ·intro h;have:=Xr f l;grind
 ·intro h;exact Ow (by grind) (fun c hc=>by grind) (aF _)
theorem K5 (s)(w)(hs:s.size≤aN):aQ aB 138 #[U s] w fun e w'=>e=aE (aY (nm s))∧w'=w:=by
 have ab:=hs;unfold aN at ab;have hn:nm s=(decide (1≤s.size)&&decide (s.size≤8)&&decide (I7 Cc s.data.toList=s.size)&& !Na s):=by
  rw[show decide (I7 Cc s.data.toList=s.size)=decide (I7 Cc s.data.toList=s.data.toList.length)from by rfl,A0t];rfl
 generalize nm s=b at hn⊢;have HN:Hid _:=hn;clear hn
 by_cases h1:1≤s.size
 ·by_cases h2:s.size≤8
  ·have aa:=Afd Cc s.data.toList;rw[Dm]at aa
   by_cases h3:I7 Cc s.data.toList=s.size
   ·have RO:=Ru s w hs;generalize I7 Cc _=n at RO HN h3 aa;subst h3;have RV:=Aka s w;generalize Na s=r at RV HN;have b1:(1:Int)≤s.size:=by omega
    have b2:(s.size:Int)≤8:=by omega
    have b3:(s.size==(s.size:Int))=S:=beq_self_eq_true _;cases r
    all_goals
     go_enter cF,cC;go_wp2_with(first
      |(go_fit RO;rintro e w' ⟨rfl,rfl⟩)
      |(go_fit RV;rintro e w' ⟨rfl,rfl⟩))
     go_ret;exact⟨Ah (by rw[HN.out];grind),rfl⟩
   ·have RO:=Ru s w hs;generalize I7 Cc _=n at RO HN h3 aa;have b1:(1:Int)≤s.size:=by omega
    have b2:(s.size:Int)≤8:=by omega
    have b3:(n==(s.size:Int))=X:=beq_eq_false_iff_ne.2 (by omega);go_enter cF,cC;go_wp2_with(first
     |(go_fit RO;rintro e w' ⟨rfl,rfl⟩))
    go_ret;exact⟨Ah (by rw[HN.out];grind),rfl⟩
  ·go_enter cF,cC;go_wp2_with fail;go_ret;exact⟨Ah (by rw[HN.out];grind),rfl⟩
 ·go_enter cF,cC;go_wp2_with fail;go_ret;exact⟨Ah (by rw[HN.out];grind),rfl⟩
def Afe (k:Nat)(sh:List Z→Prop):Elem (List Z) where
 size:=k
 R _ _ c cs:=cs=c∧sh c∧c.length=k
 len h:=by rw[h.1];exact h.2.2
 keep _ h:=h
 mono _ h:=h
def Lm (c:List Z):Prop:=∃a b n k,c=[U a,J b n k]
def Md (c:List Z):Prop:=∃a b d,c=[U a,U b,U d]
def Acx (c:List Z):Prop:=∃a n k,c=[J a n k]
def Acy (c:List Z):Prop:=∃a n k a2 n2 k2 a3 n3 k3,c=[J a n k,J a2 n2 k2,J a3 n3 k3]
theorem Ats {F}{w}{x}{c}(h:Ci.R F w x c):Lm c:=by
 obtain⟨sv,rfl,h⟩:=h;obtain⟨a,k,rfl⟩:=h.shape;exact⟨_,_,_,_,rfl⟩
theorem Xs {k sh F}{w}{x}{c}(h:(Afe k sh).R F w x c):sh c:=h.1▸h.2.1
def N3 (c:List Z):Z:=bO c.toArray
def Aff (c:List Z):Z:=c.headD (aY X)
def Fn {α:Type}(gb:Bool)(g:FuncId)(K:Elem α)(val:List Z→Z):Prop:=∀(G:FuncId),(∀args w,(callFunc G args).run aB w=.ok (.enter G args) w)→∀(cap:Array Z) (ar:Z→Array Z),(∀v,ar v=#[v]++cap)→
  ∀(l:List α) (F:Nat→Prop) (ao:Option Addr) (n c:Nat) (p:Nat→Bool) (St:Nat→aV→Prop) (En:aV→Prop) (w:aV),(∀i W,St i W→En W)→(∀i W,St i W→IsL K F W (J ao n c) l)→
  (∀i x cs W,l[i]?=O x→St i W→K.R F W x cs→aQ aB G (ar (val cs)) W fun e W'=>e=aE (aY (p i))∧En W'∧(p i=X→St (i+1) W'))→St 0 w→
  aQ aB g #[J ao n c,.func (.func G) #[] cap] w fun e W'=>e=aE (if gb then aY (Bz p 0 l.length)else y aZ (Bk p 0 l.length))∧En W'
set_option maxRecDepth 100000
set_option maxHeartbeats 8000000
theorem A4l:Fn X 173 Ci N3∧Fn X 204 Cp N3∧Fn X 222 D6 N3∧Fn X 154 Az N3∧Fn X 365 Ov Aff∧Fn X 155 H6 Aff∧Fn X 156 E8 N3∧Fn X 173 (Afe 2 Lm) N3∧Fn X 222 (Afe 3 Md) N3∧Fn X 199 (Afe 1 Acx) Aff∧Fn X 209 (Afe 3 Acy) N3:=by
 refine⟨?_,?_,?_,?_,?_,?_,?_,?_,?_,?_,?_⟩
 all_goals
  intro G ak cap ar ae l F ao n c p St En w ai af ag h0;obtain⟨hn,aj⟩:=Ew (af 0 w h0);subst hn;unfold aN at aj;simp only[ae]at ag;clear ae
  first
   |go_enter Tryz.func155,Tryz.ntmps155
   |go_enter Tryz.func199,Tryz.ntmps199
   |go_enter Tryz.func204,Tryz.ntmps204
   |go_enter Tryz.func154,Tryz.ntmps154
   |go_enter Tryz.func222,Tryz.ntmps222
   |go_enter Tryz.func156,Tryz.ntmps156
   |go_enter Tryz.func173,Tryz.ntmps173
   |go_enter Tryz.func209,Tryz.ntmps209
   |go_enter Tryz.func365,Tryz.ntmps365
  go_wp2
  go_loopw[8] (fun i wr=>∃k:Nat,k≤l.length∧i=y aZ k∧St k wr∧Hid (Bk p 0 l.length=Bk p k (l.length-k))) (fun i _=>l.length-(cO i).toNat)
  case atStart=>exact⟨0,bN _,rfl,h0,rfl⟩
  case round=>
   obtain⟨k,hk,rfl,ab,HP⟩:=hrel
   by_cases ah:k<l.length
   ·obtain⟨x,hx⟩:∃x,l[k]?=O x:=⟨_,aC ah⟩;obtain⟨b,al,cs,rfl,_,hb,hR,aa⟩:=Av (af k wr ab) hx;have HC:=ag k x cs wr hx ab hR;simp only[Ci,Cp,D6,Ov,Az,H6,E8,Afe,Nat.mul_one]at aa
    first
     |obtain⟨_,_,_,_,rfl⟩:=Ats hR
     |obtain⟨_,_,_,_,_,_,_,_,_,_,rfl⟩:=Fh hR
     |obtain⟨_,_,_,rfl⟩:=Xn hR
     |obtain⟨_,_,_,_,_,_,_,_,_,_,_,rfl⟩:=Sw hR
     |obtain⟨_,_,_,_,_,_,_,_,_,rfl⟩:=Xs hR
     |obtain⟨_,_,_,_,rfl⟩:=Xs hR
     |obtain⟨_,_,_,rfl⟩:=Xs hR
     |obtain rfl:=hR
    have d0:=aa 0 _ rfl
    try have d1:=aa 1 _ rfl
    try have d2:=aa 2 _ rfl
    try have d3:=aa 3 _ rfl
    try have d4:=aa 4 _ rfl
    try have d5:=aa 5 _ rfl
    try have d6:=aa 6 _ rfl
    try have d7:=aa 7 _ rfl
    try have d8:=aa 8 _ rfl
    simp only[cI]at d0;have k0:(0:Int)≤k:=by omega
    have k1:k<(l.length:Int):=by omega
    have ac:Hid _:=L5 p k _ ah;clear aa hx;simp only[N3,Aff,List.headD_cons]at HC;generalize hq:p k=q at HC ac;clear hq;cases q
    ·go_wp2_with(go_fit HC;rintro e W' ⟨rfl,_,ad⟩);go_roundw
     case rel=>exact⟨_,by omega,by rfl,ad (by simp),by rw[HP.out,ac.out];rfl⟩
     case measure=>simp[cO];omega
    ·go_wp2_with(go_fit HC;rintro e W' ⟨rfl,ad,_⟩);go_ret;exact⟨Au (by rw[HP.out,ac.out];rfl),ad⟩
   ·have HE:Hid (Bk p k (l.length-k)= -1):=by show _=_;rw[show l.length-k=0 from by omega,Bk]
    go_wp2;go_ret;exact⟨Au (by rw[HP.out,HE.out]),ai k _ ab⟩
theorem A33:Fn S 145 Ci N3∧Fn S 286 Cp N3∧Fn S 149 D6 N3∧Fn S 88 Az N3∧Fn S 332 Ov Aff∧Fn S 90 H6 Aff∧Fn S 91 E8 N3:=by
 refine⟨?_,?_,?_,?_,?_,?_,?_⟩;have I:=A4l.1;rotate_left;have I:=A4l.2.1;rotate_left;have I:=A4l.2.2.1;rotate_left;have I:=A4l.2.2.2.1;rotate_left;have I:=A4l.2.2.2.2.1;rotate_left;have I:=A4l.2.2.2.2.2.1;rotate_left;have I:=A4l.2.2.2.2.2.2.1
 all_goals
  intro G ae cap ar aa l F ao n c p St En w ab ac ad h0;have HI:=I G ae cap ar aa l F ao n c p St En w ab ac ad h0;have HA:Hid _:=Zk p l.length 0;generalize Bz p 0 _=r at HA⊢;simp only[dA,if_false]at HI;generalize Bk p 0 _=q at HI HA;clear ac ad h0 ab I aa
  first
   |go_enter Tryz.func145,Tryz.ntmps145
   |go_enter Tryz.func286,Tryz.ntmps286
   |go_enter Tryz.func149,Tryz.ntmps149
   |go_enter Tryz.func88,Tryz.ntmps88
   |go_enter Tryz.func332,Tryz.ntmps332
   |go_enter Tryz.func90,Tryz.ntmps90
   |go_enter Tryz.func91,Tryz.ntmps91
  go_wp2_with(go_fit HI;rintro e W' ⟨rfl,af⟩);go_ret;exact⟨Ah (by rw[HA.out]),af⟩
theorem Fn.at {α:Type}{g}{K:Elem α}{val}(I:Fn X g K val){G}{fn:Func}(hf:Tryz.prog.funcs[G]?=O fn)(cap:Array Z)(ar:Z→Array Z)(l:List α)(F:Nat→Prop)(ao:Option Addr)(n c:Nat)(p:Nat→Bool)(St:Nat→aV→Prop)(En:aV→Prop)(w:aV)(aa:∀i W,St i W→En W)(ab:∀i W,St i W→IsL K F W (J ao n c) l)
  (ac:∀i x cs W,l[i]?=O x→St i W→K.R F W x cs→aQ aB G (ar (val cs)) W fun e W'=>e=aE (aY (p i))∧En W'∧(p i=X→St (i+1) W')) (h0:St 0 w)
  (hn:(fn.name== "runtime.NumGoroutine")=X:=by decide) {b}(hb:fn.body=O b:=by rfl) (ad:∀v,ar v=#[v]++cap:=by intro v;rfl):
  aQ aB g #[J ao n c,.func (.func G) #[] cap] w fun e W'=>e=aE (y aZ (Bk p 0 l.length))∧En W':=
 I G (enters_of hf hn hb) cap ar ad l F ao n c p St En w aa ab ac h0
theorem Fn.has {α:Type}{g}{K:Elem α}{val}(I:Fn S g K val){G}{fn:Func}(hf:Tryz.prog.funcs[G]?=O fn)(cap:Array Z)(ar:Z→Array Z)(l:List α)(F:Nat→Prop)(ao:Option Addr)(n c:Nat)(p:Nat→Bool)(St:Nat→aV→Prop)(En:aV→Prop)(w:aV)(aa:∀i W,St i W→En W)(ab:∀i W,St i W→IsL K F W (J ao n c) l)
  (ac:∀i x cs W,l[i]?=O x→St i W→K.R F W x cs→aQ aB G (ar (val cs)) W fun e W'=>e=aE (aY (p i))∧En W'∧(p i=X→St (i+1) W')) (h0:St 0 w)
  (hn:(fn.name== "runtime.NumGoroutine")=X:=by decide) {b}(hb:fn.body=O b:=by rfl) (ad:∀v,ar v=#[v]++cap:=by intro v;rfl):
  aQ aB g #[J ao n c,.func (.func G) #[] cap] w fun e W'=>e=aE (aY (Bz p 0 l.length))∧En W':=
 I G (enters_of hf hn hb) cap ar ad l F ao n c p St En w aa ab ac h0
end
section
open Go.RowKit Go.Maps
theorem Aag (p):∀(n i:Nat),(Bk p i n= -1∧∀j,i≤j→j<i+n→p j=X)∨∃k,i≤k∧k<i+n∧Bk p i n=(k:Int)∧p k=S∧∀j,i≤j→j<k→p j=X
 |0,i=>.inl ⟨rfl,fun j h1 h2=>absurd h2 (by omega)⟩
 |n+1,i=>by
  rw[Bk]
  by_cases hp:p i=S
  ·grind
  ·rw[if_neg hp];have aa:=Bool.eq_false_iff.2 hp;rcases Aag p n (i+1)with⟨h1,h2⟩|⟨k,h1,h2,h3,h4,h5⟩
   ·grind
   grind
def atI {α:Type}(l:List α)(q:α→Bool)(i:Nat):Bool:=match l[i]? with
 |some x=>q x
 |none=>X
theorem Hu {α}{l}{q}{i}{x:α}(h:l[i]?=O x):atI l q i=q x:=by simp[atI,h]
theorem N4 {α}(l)(q):(Bk (atI l q) 0 l.length= -1∧l.find? q=Q)∨∃(k:Nat) (x:α),Bk (atI l q) 0 l.length=(k:Int)∧l[k]?=O x∧q x=S∧l.find? q=O x:=by
 rcases Aag (atI l q) l.length 0 with⟨h1,h2⟩|⟨k,_,h2,h3,h4,h5⟩
 ·refine .inl ⟨h1,List.find?_eq_none.2 fun x hx=>?_⟩;obtain⟨i,hi,rfl⟩:=cX hx;have:=h2 i (bN _) (by omega);rw[Hu (aC hi)]at this;grind
 ·have hk:k<l.length:=by omega
  have hx:=aC hk;rw[Hu hx]at h4;refine .inr ⟨k,_,h3,hx,h4,?_⟩;rw[List.find?_eq_some_iff_getElem];exact⟨h4,k,hk,rfl,fun j hj=>by
   have:=h5 j (bN _) hj;rw[Hu (aC (by omega))]at this;grind⟩
def N5 (x:ColD):Bool:=nm x.name&&(decide (x.ty=1)||decide (x.ty=2))
def Xt (l:List ColD)(i:Nat):Bool:=match l[i]? with
 |some x=>!N5 x||Nw ((l.take i).map ColD.name) x.name
 |none=>X
def Vd (l:List ColD):Bool:=!Bz (Xt l) 0 l.length
def Zp (l:List ColD):Prop:=∀x∈l,x.name.size≤aN
theorem Ani (x)(w)(hs:x.name.size≤aN):aQ aB 288 #[bO #[U x.name,y aZ x.ty,aY x.must]] w fun e w'=>e=aE (aY (N5 x))∧aL w.heap.size w w':=by
 obtain⟨name,ty,must⟩:=x;simp only at hs⊢;have hN:=fun w=>K5 name w hs
 have E:Hid (N5 ⟨name,ty,must⟩=(nm name&&(decide (ty=1)||decide (ty=2)))):=rfl;generalize N5 _=r at E;generalize nm name=b at hN E;clear hs;cases b<;>by_cases h1:ty=1<;>by_cases h2:ty=2
 all_goals(try omega)
 all_goals
  go_enter Tryz.func288,Tryz.ntmps288;go_wp2_with(go_fit(hN _);rintro e w1 ⟨rfl,rfl⟩);go_ret;exact⟨Ah (by rw[E.out];simp_all),(aG _ _).alloc (aF _) _⟩
theorem Below.grow {B}{a w w'}{b}(h:aL B a w)(hg:w.grownBy w' (O b))(hB:B≤w.heap.size)(hb:B≤b):aL B a w':=h.grown hg hB fun k hk=>by grind
theorem Ais (x)(mb pb)(N)(w)(hs:x.name.size≤aN)(hN:N.length≤16777215)(hc:Cnt w mb N)(hp:w.cell? ⟨pb,0,Q⟩=O (.map (O mb)))(ae:pb<w.heap.size):
  aQ aB 287 #[bO #[U x.name,y aZ x.ty,aY x.must],cL (O ⟨pb,0,Q⟩)] w fun e w'=>e=aE (aY (!N5 x||Nw N x.name))∧w.grownBy w' (O mb)∧(N5 x=S→Cnt w' mb (N++[x.name])):=by
 have hG:=fun w=>Ani x w hs
 generalize N5 x=b at hG;obtain⟨name,ty,must⟩:=x;simp only at hs hG⊢;have ad:=Aq w (Y #[U name,y aZ ty,aY must] 76);cases b
 ·go_enter cS,Tryz.ntmps287;go_wp2_with(go_fit(hG _);rintro e w1 ⟨rfl,ab⟩);go_ret;have aa:=Ac ad ab;exact⟨Ah (by simp),⟨aa.os,aa.tape,aa.output,aa.size,fun k hk _=>aa.block k hk⟩,fun h=>by grind⟩
 ·have hA:=fun w' h=>Xp mb N name w' (hc.below h) hs (by omega)
  generalize Nw N name=q at hA;clear hc;go_enter cS,Tryz.ntmps287;go_wp2_with(first|(go_fit(hG _);rintro e w1 ⟨rfl,ab⟩;have ah:=((Ac ad ab).cell ae).trans hp;obtain⟨ai,aj⟩:=E5 ab)|(go_fit(hA _ (Ac ad ab));rintro e w2 ⟨rfl,af,ac⟩));go_ret;have aa:=Ac ad ab;exact⟨Ah (by simp),⟨ac.os.trans aa.os,ac.tape.trans aa.tape,ac.output.trans aa.output,cH aa.size ac.size,fun k hk ag=>(ac.block k (bA hk aa.size) ag).trans (aa.block k hk)⟩,fun _=>af⟩
theorem Agw {w}{b}{N}(h:Cnt w b N)(o):Cnt (w.alloc o) b N:=h.below (Aq _ _)
theorem Akb (l)(sv)(C)(w)(hl:IsL Cp (fun k=>k<C) w sv l)(hC:C≤w.heap.size)(hf:Zp l)(hn:l.length≤16777215):
  aQ aB 221 #[sv] w fun e w'=>e=aE (aY (Vd l))∧aL w.heap.size w w':=by
 obtain⟨ao,c,rfl⟩:=hl.shape;have HC:=A33.2.1.has cS #[_] (fun v=>#[v,_]) l _ ao _ c (Xt l)
  (fun i W=>Cnt W _ ((l.take i).map ColD.name)∧W.cell? _=O _∧aL _ w W∧w.heap.size+2≤W.heap.size) _
  _ (fun i W h=>h.2.2.1) (fun i W h=>hl.keep (Ae (h.2.2.1.mono hC)))
  (by
   rintro i x cs W hx ⟨h1,h2,h3,h4⟩ rfl;refine(Ais x _ _ _ W (hf x (bM hx)) (by grind) h1 h2 (by omega)).mono ?_;rintro e W' ⟨rfl,hg,hc⟩;have aa:=Below.grow h3 hg (by omega) (aF _);have hE:Xt l i=(!N5 x||Nw ((l.take i).map ColD.name) x.name):=by simp[Xt,hx]
   refine⟨by grind,aa,fun hp=>⟨?_,?_,aa,cH h4 hg.size⟩⟩
   ·rw[hE]at hp;rw[cG,hx,bC];grind
   ·exact hg.cell h2 (by simp))
  ⟨Agw (Abm w) _,Aa (Ca _ _ _) rfl,Da w (.map #[] 0) (Y #[.map (O w.heap.size)] 276),by simp⟩
 have E:Hid (Vd l= !Bz _ 0 _):=rfl;generalize Vd l=r at E;generalize Bz _ 0 _=q at E HC;clear hl hf;have ac:=@run_makeMap aB;go_enter Tryz.func221,Tryz.ntmps221;go_wp2_with(go_fit HC;rintro e w1 ⟨rfl,ab⟩);go_ret;exact⟨Ah (by rw[E.out]),ab⟩
theorem Jj (a b:Wd):(a.toList==b.toList)=decide (a=b):=by
 rw[bV,beq_iff_eq,decide_eq_true_eq,bF,bF];constructor
 ·intro h;exact cZ (dD.1 h)
 grind
def Dy (l:List ColD)(s:Wd):Int:=Bk (atI l fun x=>decide (x.name=s)) 0 l.length
def Bu (T:List TabD)(s:Wd):Option TabD:=T.find? fun x=>decide (x.name=s)
theorem Akc (x:ColD)(pb)(s:Wd)(w)(hp:w.cell? ⟨pb,0,Q⟩=O (U s))(aa:pb<w.heap.size):
  aQ aB 205 #[bO #[U x.name,y aZ x.ty,aY x.must],cL (O ⟨pb,0,Q⟩)] w fun e w'=>e=aE (aY (decide (x.name=s)))∧aL w.heap.size w w':=by
 obtain⟨name,ty,must⟩:=x;simp only;have E:Hid (decide _=(name.toList==s.toList)):=(Jj _ _).symm;generalize decide (name=s)=r at E;have ab:=((Aq w (Y #[U name,y aZ ty,aY must] 76)).cell aa).trans hp;go_enter Tryz.func205,Tryz.ntmps205;go_wp2;go_ret;exact⟨Ah (by rw[E.out]),Aq _ _⟩
theorem Afg (x:TabD)(sv)(aa:Hj sv)(pb)(s:Wd)(w)(hp:w.cell? ⟨pb,0,Q⟩=O (U s))(ab:pb<w.heap.size):
  aQ aB 174 #[bO #[U x.name,sv],cL (O ⟨pb,0,Q⟩)] w fun e w'=>e=aE (aY (decide (x.name=s)))∧aL w.heap.size w w':=by
 obtain⟨name,cols⟩:=x;obtain⟨ao,n,c,rfl⟩:=aa;simp only;have E:Hid (decide _=(name.toList==s.toList)):=(Jj _ _).symm;generalize decide (name=s)=r at E;have ac:=((Aq w (Y #[U name,J ao n c] 74)).cell ab).trans hp;go_enter Tryz.func174,Tryz.ntmps174;go_wp2;go_ret;exact⟨Ah (by rw[E.out]),Aq _ _⟩
theorem L6 (l)(aa:Wd)(sv)(s:Wd)(C)(w)(hl:IsL Cp (fun k=>k<C) w sv l)(hC:C≤w.heap.size):
  aQ aB 124 #[bO #[U aa,sv],U s] w fun e w'=>e=aE (y aZ (Dy l s))∧aL w.heap.size w w':=by
 obtain⟨ao,c,rfl⟩:=hl.shape;have HC:=A4l.2.1.at Tryz.func205 #[_] (fun v=>#[v,_]) l _ ao _ c (atI l _)
  (fun _ W=>W.cell? _=O _∧aL _ w W∧w.heap.size+2≤W.heap.size) _
  _ (fun i W h=>h.2.1) (fun i W h=>hl.keep (Ae (h.2.1.mono hC)))
  (by
   rintro i x cs W hx ⟨h1,h2,h3⟩ rfl;refine(Akc x _ s W h1 (by omega)).mono ?_;rintro e W' ⟨rfl,hb⟩;have ab:=h2.trans (hb.mono h2.size);exact⟨by rw[Hu hx],ab,fun _=>⟨(hb.cell (show w.heap.size+1<W.heap.size by omega)).trans h1,ab,cH h3 hb.size⟩⟩)
  ⟨Aa (Ca _ _ _) rfl,Da w (Y #[U aa,J ao l.length c] 74) (Y #[U s] 9),by simp⟩
 have E:Hid (Dy l s=Bk _ 0 _):=rfl;generalize Dy l s=r at E;generalize Bk _ 0 _=q at E HC;clear hl;go_enter Tryz.func124,Tryz.ntmps124;go_wp2_with(go_fit HC;rintro e w1 ⟨rfl,ac⟩);go_ret;exact⟨Au (by rw[E.out]),ac⟩
theorem App {fn}{p q:Tmp}{w:aV}{g}{a}{c0 c1}{t}{fr}{R}(aa:Wd)(sv)(there)(hr:fn.results=#[.cell p 74,.tmp q])(hp:a.tmps.getD p undef=cL (O ⟨g,0,Q⟩))(hq:a.tmps.getD q undef=aY there)(hd:a.defers=[])
  (hg:w.heap[g]?=O (Y #[c0,c1] t fr)) (hR:R (aE (cY #[bO #[U aa,sv],aY there])) ((w.setCell ⟨g,0,Q⟩ (U aa)).setCell ⟨g,1,Q⟩ sv)):
  bodyPost aB fn R .ret a ((w.setCell ⟨g,0,Q⟩ (U aa)).setCell ⟨g,1,Q⟩ sv):=
 dB (Dn hr a.tmps _ g t _ fr _ _ hp hq (Dh (Dh hg 0 _) 1 _) Tryz.underlying74 rfl (by kernel_rfl)) hd hR
def Axn (T:List TabD)(s:Wd)(F:Nat→Prop)(w:aV)(e:Ending)(w':aV):Prop:=
 ∃nmv ao n c there,e=aE (cY #[bO #[U nmv,J ao n c],aY there])∧(match Bu T s with|some t=>there=S∧nmv=t.name∧IsL Cp F w' (J ao n c) t.cols|none=>there=X∧nmv=noW∧ao=Q∧n=0∧c=0)∧aL w.heap.size w w'
theorem Wv (T:List TabD)(tv iv:Z)(ak:Hj iv)(s:Wd)(C:Nat)(w:aV)(hl:IsL Ci (fun k=>k<C) w tv T)(hC:C≤w.heap.size):
  aQ aB 105 #[bO #[tv,iv],U s] w (Axn T s (fun k=>k<C) w):=by
 obtain⟨ao,c,rfl⟩:=hl.shape;obtain⟨io,il,ic,rfl⟩:=ak;have ae:=Hx w (Y #[J ao T.length c,J io il ic] 41) (Y #[U s] 9) (Y #[U noW,J Q 0 0] 74);have HC:=A4l.1.at Tryz.func174 #[_] (fun v=>#[v,_]) T (fun k=>k<C) ao _ c (atI T fun x=>decide (x.name=s))
  (fun _ W=>W.cell? _=O _∧aL (w.heap.size+3) _ W) _
  _ (fun i W h=>h.2) (fun i W h=>hl.keep (Ae ((ae.mono hC).trans (h.2.mono (by omega)))))
  (by
   rintro i x cs W hx ⟨h1,h2⟩ ⟨sv,rfl,ac⟩;have ag:=h2.size;rw[show(((w.alloc _).alloc (Y #[U s] 9)).alloc (Y #[U noW,J Q 0 0] 74)).heap.size=w.heap.size+3 from by simp]at ag;refine(Afg x sv (Gf ac) (w.heap.size+1) s W h1 (by omega)).mono ?_;rintro e W' ⟨rfl,hb⟩;have ah:=h2.trans (hb.mono ag);exact⟨by rw[Hu hx],ah,fun _=>⟨(hb.cell (p:=⟨w.heap.size+1,0,Q⟩) (show w.heap.size+1<W.heap.size by omega)).trans h1,ah⟩⟩)
  ⟨Aa (Ad (Ca _ _ _) _) rfl,aG _ _⟩
 rcases N4 T (fun x=>decide (x.name=s))with⟨h1,h2⟩|⟨k,t,h1,h2,h3,h4⟩
 ·rw[h1]at HC;have HP:Hid (Bu T s=Q):=h2;clear h1 h2;go_enter Tryz.func105,Tryz.ntmps105;go_wp2_with(go_fit HC;rintro e w1 ⟨rfl,aa⟩;obtain⟨z1,q1,r1,s1,t1⟩:=Jb (g:=w.heap.size) (aa.mono (by simp)) (by simp));have ad:=(aa.block (w.heap.size+2) (by omega)).trans (Fe w (Y #[J ao T.length c,J io il ic] 41) (Y #[U s] 9) (Y #[U noW,J Q 0 0] 74));have ab:aL w.heap.size w w1:=ae.trans (aa.mono (by omega));exact App noW (J Q 0 0) X dJ rfl rfl rfl ad ⟨noW,Q,0,0,X,rfl,by rw[HP.out];exact⟨rfl,rfl,rfl,rfl,rfl⟩,(ab.setCell (show w.heap.size≤w.heap.size+2 by omega) _).setCell (show w.heap.size≤w.heap.size+2 by omega) _⟩
 ·rw[h1]at HC;have HP:Hid (Bu T s=O t):=h4;obtain⟨b,ai,cs,rfl,al,ad,⟨sv,rfl,ac⟩,af⟩:=Av hl h2;obtain⟨so,sc,rfl⟩:=ac.shape;have d0:=af 0 _ rfl;have d1:=af 1 _ rfl;simp only[Ci,cI]at d0 d1;have hk:k<T.length:=(aO.1 h2).1;have k0:(0:Int)≤(k:Int):=by omega
  have k1:(k:Int)<(T.length:Int):=by omega
  clear h1 h2 h3 h4 af;go_enter Tryz.func105,Tryz.ntmps105;go_wp2_with(go_fit HC;rintro e w1 ⟨rfl,aa⟩;obtain⟨z1,q1,r1,s1,t1⟩:=Jb (g:=w.heap.size) (aa.mono (by simp)) (by simp);have ab:aL w.heap.size w w1:=ae.trans (aa.mono (by omega));have d2:=(ab.cell (p:=⟨b,ai+k*2,Q⟩) ad).trans d0;have d3:=(ab.cell (p:=⟨b,ai+k*2+1,Q⟩) ad).trans d1);have aj:aL _ w ((w1.setCell ⟨_,0,Q⟩ (U t.name)).setCell ⟨_,1,Q⟩ (J so t.cols.length sc)):=(ab.setCell (show w.heap.size≤w.heap.size+2 by omega) _).setCell (show w.heap.size≤w.heap.size+2 by omega) _;exact App _ _ S dJ rfl rfl rfl ((aa.block _ (by omega)).trans (Fe w _ _ _)) ⟨_,so,_,sc,S,rfl,by rw[HP.out];exact⟨rfl,rfl,ac.keep (Ae (aj.mono hC))⟩,aj⟩
end
section
open Go.RowKit
def Cq (w:aV)(v:Z)(L:List V):Prop:=
 ((∃ao cap,v=J ao 0 cap∧(ao=Q→cap=0))∧L=[])∨∃b off cap,v=J (O ⟨b,off,Q⟩) L.length cap∧b<w.heap.size∧Nr w b off L
theorem Cq.below {w w'}{v}{L}(h:Cq w v L)(hb:aL w.heap.size w w'):Cq w' v L:=by
 rcases h with h|⟨b,off,cap,h1,h2,h3⟩
 ·exact .inl h
 ·exact .inr ⟨b,off,cap,h1,bA h2 hb.size,h3.below hb h2⟩
theorem Cq.shape {w}{v}{L}(h:Cq w v L):∃ao cap,v=J ao L.length cap:=by
 rcases h with⟨⟨ao,cap,rfl,_⟩,rfl⟩|⟨b,off,cap,rfl,_,_⟩
 ·simp
 simp
def Ax (L:List V):List Z:=L.flatMap V.cells
theorem Aah (L)(v):Ax (L++[v])=Ax L++v.cells:=by simp[Ax]
theorem Sz:∀(L:List V) (i:Nat) (v:V),L[i]?=O v→(Ax L)[i*3]?=O (y aZ v.k)∧(Ax L)[i*3+1]?=O (y aZ v.n)∧(Ax L)[i*3+2]?=O (U v.s)
 |x::L,0,v,h=>by
  simp at h;subst h;simp[Ax,V.cells]
 |x::L,i+1,v,h=>by
  have:=Sz L i v (by grind);have e:Ax (x::L)=y aZ x.k::y aZ x.n::U x.s::Ax L:=by simp[Ax,V.cells]
  grind
theorem Cq.of_own {w}{base}{lv}{L}(h:w.ownsRow base 59 3 lv L.length (Ax L)):Cq w lv L:=by
 rcases h.2 with⟨rfl,h0⟩|⟨g,cap,cur,rfl,_,hg,_⟩
 ·exact .inl ⟨⟨Q,0,rfl,fun _=>rfl⟩,aM h0⟩
 ·refine .inr ⟨g,0,cap,rfl,bH hg,fun i v hi=>?_⟩;obtain⟨h0,h1,h2⟩:=Sz L i v hi;have c0:=h.cells (g:=g) rfl _ _ h0;have c1:=h.cells (g:=g) rfl _ _ h1;have c2:=h.cells (g:=g) rfl _ _ h2;rw[cU]at c0 c1 c2;grind
theorem Nr.cells {w:aV}{b aa:Nat}:∀{L:List V},Nr w b aa L→∀j u,(Ax L)[j]?=O u→w.cell? ((⟨b,aa,Q⟩:Addr).add j)=O u:=by
 intro L h j u hj;have hl:(Ax L).length=L.length*3:=by
  clear h hj
  induction L with
  |nil=>rfl
  |cons x L ih=>simp[Ax,V.cells]at ih⊢;omega
 have ab:=(aO.1 hj).1;obtain⟨v,hv⟩:∃v,L[j/3]?=O v:=⟨_,aC (by omega)⟩;obtain⟨a0,a1,a2⟩:=Sz L _ _ hv;obtain⟨c0,c1,c2⟩:=h _ _ hv;rw[cU];grind
theorem Ait (L):(Ax L).length=L.length*3:=by
 induction L with
 |nil=>rfl
 |cons x L ih=>simp[Ax,V.cells]at ih⊢;omega
theorem Ve (L):∀u∈Ax L,u.oneCell'=S:=by
 intro u hu;simp only[Ax,List.mem_flatMap]at hu;obtain⟨v,_,hu⟩:=hu;simp[V.cells]at hu;rcases hu with rfl|rfl|rfl<;>rfl
end
section
def Aq8 (c:ColD)(v:V):Bool:=good v&&(decide (v.k=c.ty)||(!c.must&&decide (v.k=0)))
def Ajk (t:TabD)(r:List V)(i:Nat):Bool:=match t.cols[i]?,r[i]? with
 |some c,O v=>!Aq8 c v
 |_,_=>X
def F9 (t:TabD)(r:List V):Bool:=decide (r.length=t.cols.length)&& !Bz (Ajk t r) 0 t.cols.length
theorem Jz {p}:∀{n i:Nat},Bz p i n=X→∀j,i≤j→j<i+n→p j=X
 |0,i,_,j,h1,h2=>by omega
 |n+1,i,h,j,h1,h2=>by
  rw[Bz,bY]at h;rcases Nat.eq_or_lt_of_le h1 with e|e
  ·grind
  ·exact Jz h.2 j e (by omega)
theorem B6 {t}{r}(h:F9 t r=S):r.length=t.cols.length∧∀v∈r,good v=S:=by
 simp only[F9,bK,decide_eq_true_eq,Bool.not_eq_true']at h;refine⟨h.1,fun v hv=>?_⟩;obtain⟨i,hi,rfl⟩:=cX hv;have:=Jz h.2 i (bN _) (by omega);unfold Ajk at this;rw[aC hi,aC (by omega:i<t.cols.length)]at this;simp only[Bool.not_eq_false']at this;simp only[Aq8,bK]at this;grind
end
end Go.Proofs.YtjapkoofjlmdgaaGreatDoor

/-
  14 texts of this proof in one,in build order:PDrop,PAll,GMath,GMath2,GMem,XOps,XPtr,XWith,XOps2,XOps3,XApply,XFlat,XWithin,GEval.
-/
import Derived.Test.YtjapkoofjlmdgaaGreatDoorRows
import Derived.WalkKit
import Derived.WalkSpells
import Derived.WalkLawsBesides
import Derived.Deep.RegionHeld3
import Derived.Laws.Bits64b
import Derived.OwnWalk
import Derived.Laws.MakeOwn
import Derived.Test.YtjapkoofjlmdgaaGreatDoorJ01
import Derived.Test.YtjapkoofjlmdgaaGreatDoorJ02
import Derived.Test.YtjapkoofjlmdgaaGreatDoorJ03
import Derived.Test.YtjapkoofjlmdgaaGreatDoorJ04
import Derived.Test.YtjapkoofjlmdgaaGreatDoorJ05
import Derived.Test.YtjapkoofjlmdgaaGreatDoorJ07
import Derived.Test.YtjapkoofjlmdgaaGreatDoorJ08
import Derived.Test.YtjapkoofjlmdgaaGreatDoorJ09
set_option linter.unusedSimpArgs false
set_option linter.unusedVariables false
set_option maxRecDepth 100000
set_option maxHeartbeats 0
open Go.Value renaming agg→Q,agg→aK,int→D,pointer→aI,slice→O,string→N
open Go.IntKind renaming i64→H,wrap_i64→bI
open Option renaming none→M,some→J,toList_some→cO
open List renaming append_assoc→cW,cons_append→aW,filter_sublist→cQ,flatMap_cons→cV,getElem?_eq_getElem→aA,getElem?_eq_none→cL,getElem?_eq_some_iff→aO,getElem?_map→bW,length_append→aU,length_cons→cY,length_map→dC,mem_cons→aR,mem_filter→aH,mem_filterMap→aT,mem_flatMap→bY,mem_map→bV,mem_of_getElem?→aJ,pairwise_cons→cS,pairwise_map→bH,take_add_one→bU,take_length→bX
open Nat renaming add_zero→bF,le_refl→aB,le_trans→aD,zero_le→bK,zero_mul→bE
open Go.Proofs.Tryz renaming func119→cK,func250→cJ,func309→cI,func310→bD,func311→bO,func347→cH,func353→bC,ntmps119→cE,ntmps250→cD,ntmps309→cC,ntmps310→aZ,ntmps311→bJ,ntmps347→cB,ntmps353→aY,prog→aC,results192→dB,results250→bZ,results309→dA,results310→aS,results353→bP,underlying57→cU
open Go.RowKit.Below renaming heap_setCell→bR,refl→aE
open Go.Obj renaming cells→X
open Go.Ending renaming returned→aF
open Go renaming Calls→Y,Value→aQ,World→aV,bodyPost_ret→aG,lt_of_block→aP,maxLen→Z,results→aX
open Bool renaming and_eq_true→aL,false→bL,not_eq_false'→bS,not_eq_true'→cX,or_eq_false_iff→cP,true→U
open Go.World renaming frozen?→aM,size_alloc→cT
open List.cons renaming injEq→aN
open ByteArray renaming size→bA
open Option.some renaming inj→bG,injEq→bB
open And renaming intro→bM
open Go.Value.string renaming injEq→bN
open Go.Op renaming bytesLess→bQ
open Go.Proofs renaming intOf→bT
open Array renaming getElem?_eq_getElem→cA
open BitVec renaming ofInt→cF
open Go.Value.slice renaming inj→cG
open Go.Value.int renaming injEq→cM
open Prod renaming fst→cN
open Go.Value.agg renaming inj→cR
open Go.Addr.mk renaming injEq→cZ
namespace Go.Proofs.YtjapkoofjlmdgaaGreatDoor
section
open Go.RowKit
theorem Aop (I)(t)(r)(T)(pv tv iv sv rv)(C)(w)(hp:Bi w pv T)(hg:As T)(hT:T.length≤1000000)(bd:Hj tv)
  (hi:IsL D6 (fun k=>k<C) w iv I) (hl:IsL Cp (fun k=>k<C) w sv t.cols) (hC:C≤w.heap.size) (hr:Cq w rv r) (al:r.length=t.cols.length) (h0:0<r.length) (bv:r.length≤1000000) (hs:∀v∈r,v.s.size≤Z) (be:∀x∈I,x.name.size≤1000000) (bf:t.name.size≤1000000) (hn:I.length≤1000000):
  Y aC 113 #[pv,Q #[tv,iv],Q #[N t.name,sv],rv] w fun e w'=>Apu w w' e (Kf (flat T) I t r) (T.length):=by
 obtain⟨ah,tn,tc,rfl⟩:=bd;obtain⟨bw,rfl,aw⟩:=hp;obtain⟨po,pc,rfl⟩:=Ct aw;have ax:=fun W (h:Below w.heap.size w W)=>Wz I t r (O ah tn tc) iv sv rv C W (B7 _ _ _) (hi.keep (Ae (h.mono hC))) (hl.keep (Ae (h.mono hC))) (aD hC h.size) (hr.below h) al h0 hs be hn
 obtain⟨io,ic,rfl⟩:=hi.shape;obtain⟨so,sc,rfl⟩:=hl.shape;rcases hr with⟨_,rfl⟩|⟨rb,ro,rcap,rfl,hrb,hR⟩
 ·simp at h0
 have st:=Ac2 (O ah tn tc) (O io I.length ic) (N t.name) (O so t.cols.length sc) aw hg;generalize hW:(((w.alloc (X #[O po T.length pc] 44)).alloc (X #[O ah tn tc,O io I.length ic] 41)).alloc (X #[N t.name,O so t.cols.length sc] 74)).alloc (X #[O M 0 0] 44)=W4 at st;have HW:Hid _:=hW;clear hW hi hl;have e0:=Aa st.tab (j:=0) rfl;have e1:=Aa st.tab (j:=1) rfl;have HF:=Oa t.name so t.cols.length sc (J ⟨rb,ro,M⟩) r.length rcap W4;rw[show(decide (0<r.length)&&decide (r.length=t.cols.length))=U by rw[decide_eq_true h0,decide_eq_true al];rfl]at HF;obtain⟨u,hu⟩:∃u,r[0]?=J u:=⟨_,aA h0⟩;have ay:r.headD zero=u:=by rw[List.headD_eq_head?_getD,List.head?_eq_getElem?,hu];rfl
 have HR:=fun W=>Qq t.name u W bf (hs u (aJ hu))
 rw[show H7 t.name u=rk t r by rw[rk,ay]]at HR;obtain⟨f0,f1,f2⟩:=hR 0 u hu;simp only[bE,bF]at f0 f1 f2;have bg:Hid _:=ax;clear hs ax hu ay al;obtain⟨uk,un,us⟩:=u;simp only[V.val]at HR;simp only at f0 f1 f2;go_enter Tryz.func113,Tryz.ntmps113;go_upto_region 1 with fail;rw[HW.out];go_wp2_with(go_fit HF;rintro e w1 ⟨rfl,bh⟩);have ab:=st.below bh;have af:=ab.bel;have KS:Hid _:=fun W (h:Below w1.heap.size w1 W)=>Ag1 (W:=W) (show W.cell? ⟨w.heap.size+2,0,M⟩=J (N t.name)from Aa (ab.below h).tab (j:=0) rfl) (((af.trans (h.mono af.size)).cell (p:=⟨rb,ro,M⟩) hrb).trans f0) (((af.trans (h.mono af.size)).cell (p:=⟨rb,ro+1,M⟩) hrb).trans f1) (((af.trans (h.mono af.size)).cell (p:=⟨rb,ro+2,M⟩) hrb).trans f2)
 have KT:Hid _:=fun W (h:Below w1.heap.size w1 W) (x:aQ)=>W7 (W:=W) (g:=w.heap.size) (x:=x) (KS.out W h) (show w.heap.size+2≠w.heap.size by omega) (show rb≠w.heap.size by omega)
 have q0:=Aa ab.blk (j:=0) rfl;have HP:=fun W (h:Below w1.heap.size w1 W)=>Akf T (Q #[O po T.length pc]) (rk t r) W ⟨_,rfl,ab.pgs.below h⟩ hg (by omega)
 have EF:Hid (Kf (flat T) I t r=J9 (Jy (flat T) (rk t r)) (iks I t r)):=rfl
 go_cut[4]from 16 (fun s4 wx=>s4=aI (J ⟨w.heap.size,0,M⟩)∧∃ao k c T1,TrSt w #[O ah tn tc,O io I.length ic] #[N t.name,O so t.cols.length sc] (Jy (flat T) (rk t r)) (T.length) ao k c T1 wx)
 case first=>
  refine wp_region_held_drew (S:=(fun W=>W.cell? ⟨w.heap.size+2,0,M⟩=J (N t.name)∧W.cell? ⟨rb,ro,M⟩=J (D H uk)∧W.cell? ⟨rb,ro+1,M⟩=J (D H un)∧W.cell? ⟨rb,ro+2,M⟩=J (N us))) (by rfl) ?_ (fun hHeld=>?_)
  ·exact KS.out _ (aE _ _).drew
  refine tk 1 ?_;refine tk 2 ?_;refine tk 3 ?_;refine tk 4 ?_;refine tk 5 ?_;refine Abi 0 6 (fun K hK=>?_) (fun K hK=>?_)
  ·go_simp;go_wp2_with fail;refine hK.out _ _ ?_ (fun hHeld=>?_)
   ·omega
   clear hK K;refine Bh 6 (fun K hK=>?_);go_simp
   (go_fit(HR _);rintro e w2 ⟨rfl,am⟩;have ad:=Ac (aE _ _).drew am;have q2:=Aa (ab.below ad).blk (j:=0) rfl)
   go_wp2_with fail;refine hK.out _ _ ?_ (fun hHeld=>?_)
   ·exact KS.out _ ad
   clear hK K;refine Bh 7 (fun K hK=>?_);go_simp
   (go_fit(HP _ ad);rintro e w4 ⟨bi,T4,rfl,ae,an,ap,aq,ar⟩;obtain⟨bj,rfl,ae⟩:=ae;obtain⟨au,c4,rfl⟩:=Ct ae;have ac:=Ac ad an;have q4:=Aa (ab.below ac).blk (j:=0) rfl;have z4:w4.frozen? ⟨w.heap.size,0,M⟩=bL:=(by simp[aM,(ab.below ac).blk]))
   go_wp2_with fail;refine hK.out _ _ ?_ (fun hHeld=>?_)
   ·exact KS.out _ ac
   clear hK K;refine Bh 8 (fun K hK=>?_);go_simp;go_wp2_with fail;refine hK.out _ _ ?_ (fun hHeld=>?_)
   ·exact KT.out _ ac _
   clear hK K;refine wpAnyH_done (by kernel_rfl) ?_ _;go_wp2_with fail;go_meet
   case rel=>exact⟨rfl,au,_,c4,T4,ab.store ac ae ap aq ar⟩
  ·go_simp
   (go_fit(HR _);rintro e w2 ⟨rfl,am⟩;have ad:=Ac (aE _ _).drew am;have q2:=Aa (ab.below ad).blk (j:=0) rfl)
   go_wp2_with fail;refine hK.out _ _ ?_ (fun hHeld=>?_)
   ·exact KS.out _ ad
   clear hK K;refine Bh 0 (fun K hK=>?_);go_simp;go_wp2_with fail;refine hK.out _ _ ?_ (fun hHeld=>?_)
   ·omega
   clear hK K;refine Bh 7 (fun K hK=>?_);go_simp
   (go_fit(HP _ ad);rintro e w4 ⟨bi,T4,rfl,ae,an,ap,aq,ar⟩;obtain⟨bj,rfl,ae⟩:=ae;obtain⟨au,c4,rfl⟩:=Ct ae;have ac:=Ac ad an;have q4:=Aa (ab.below ac).blk (j:=0) rfl;have z4:w4.frozen? ⟨w.heap.size,0,M⟩=bL:=(by simp[aM,(ab.below ac).blk]))
   go_wp2_with fail;refine hK.out _ _ ?_ (fun hHeld=>?_)
   ·exact KS.out _ ac
   clear hK K;refine Bh 8 (fun K hK=>?_);go_simp;go_wp2_with fail;refine hK.out _ _ ?_ (fun hHeld=>?_)
   ·exact KT.out _ ac _
   clear hK K;refine wpAnyH_done (by kernel_rfl) ?_ _;go_wp2_with fail;go_meet
   case rel=>exact⟨rfl,au,T4.length,c4,T4,ab.store ac ae ap aq ar⟩
 case rest=>
  obtain⟨rfl,bk,k5,c5,T5,ag⟩:=hcut;have x0:=Aa ag.cat (j:=0) rfl;have x1:=Aa ag.cat (j:=1) rfl;have x2:=Aa ag.tab (j:=0) rfl;have x3:=Aa ag.tab (j:=1) rfl;have HX:=bg.out wc ag.bel;have az:Hid ((iks I t r).length≤I.length):=Qn I t r;generalize iks I t r=K at HX EF az;have bx:K.length≤1000000:=aD az.out hn;clear HP HR HF KS KT q0;go_wp2_with(go_fit HX;rintro e w6 ⟨kv,rfl,ba,bl⟩;obtain⟨ko,kc,rfl⟩:=Eu.shape ba)
  go_loopw[29] (fun i wr=>∃k:Nat,k≤K.length∧i=D H k∧An wr (O ko K.length kc) K∧∃ai k2 c2 T2,TrSt w #[O ah tn tc,O io I.length ic] #[N t.name,O so t.cols.length sc] (J9 (Jy (flat T) (rk t r)) (K.take k)) (T.length) ai k2 c2 T2 wr) (fun i _=>K.length-(bT i).toNat)
  case atStart=>exact⟨0,bK _,rfl,ba,bk,k5,c5,T5,ag.below bl⟩
  case round=>
   obtain⟨k,hk,rfl,bb,ai,k2,c2,T2,aa⟩:=hrel
   by_cases bm:k<K.length
   ·obtain⟨av,hx⟩:∃x,K[k]?=J x:=⟨_,aA bm⟩;obtain⟨b,bz,cap,bn,hb,_,_,bc⟩:=bb.at (by omega);cases bn;have d0:=bc k av hx;have y0:=Aa aa.blk (j:=0) rfl;have E2:Hid (J9 _ _=Jy (J9 (Jy (flat T) (rk t r)) _) av):=Anl hx;have v0:(0:Int)≤k:=by omega
    have v1:k<(K.length:Int):=by omega
    clear hx bc;go_wp2_with(go_fit(Akf T2 _ av _ ⟨_,rfl,aa.pgs⟩ aa.good (by have:=aa.len;omega));rintro e w7 ⟨ca,T7,rfl,ak,aj,bo,bp,bq⟩;obtain⟨cb,rfl,ak⟩:=ak;obtain⟨bt,c7,rfl⟩:=Ct ak;have z7:w7.frozen? ⟨w.heap.size,0,M⟩=bL:=(by simp[aM,(aa.below aj).blk]);have y7:=Aa (aa.below aj).blk (j:=0) rfl);go_roundw
    case rel=>exact⟨k+1,by omega,by rfl,S5 (bb.below aj) (aa.below aj).blk _,bt,_,c7,T7,aa.store aj ak bo (by rw[bp,aa.flat,E2.out]) (aD bq aa.len)⟩
    case measure=>simp[bT];omega
   ·have bu:k=K.length:=by omega
    subst bu;have v1:¬(K.length<(K.length:Int)):=by omega
    have y0:=Aa aa.blk (j:=0) rfl;have y1:=Aa aa.res (j:=0) rfl;have y2:wr.frozen? ⟨w.heap.size+3,0,M⟩=bL:=by simp[aM,aa.res]
    rw[bX]at aa;go_wp2;refine aG (v:=Q #[O ai k2 c2]) (results_cell_row Tryz.results113 _ _ (w.heap.size+3) 44 #[O ai k2 c2] _ _ rfl (Dh aa.res 0 (O ai k2 c2)) Tryz.underlying44 rfl (by kernel_rfl)) rfl ?_;exact⟨_,T2,rfl,⟨_,rfl,Qs aa.pgs aa.res _⟩,aa.good,by rw[aa.flat,EF.out],aa.len,aa.bel.setCell (show w.heap.size≤w.heap.size+3 by omega) _⟩
theorem Aly {α}{l}{p:α→Bool}(h:Bz (atI l p) 0 l.length=bL):∀x∈l,p x=bL:=by
 intro x hx;obtain⟨i,hi,rfl⟩:=List.getElem_of_mem hx;have:=Jz h i (bK _) (by omega);rwa[Hu (aA hi)]at this
theorem Af6 {s}(h:nm s=U):s.size≤8:=by
 simp only[nm,aL,decide_eq_true_eq]at h;omega
theorem D8 {c}(h:Ds c=U):c.indexes.length≤4∧(∀x∈c.indexes,x.name.size≤8)∧∀t∈c.tables,t.name.size≤8∧0<t.cols.length∧t.cols.length≤4:=by
 simp only[Ds,aL,decide_eq_true_eq]at h;obtain⟨⟨⟨_,h2⟩,h3⟩,h4⟩:=h;simp only[Qw,Ta,aL,cX]at h3 h4;refine⟨h2,fun x hx=>?_,fun t ht=>?_⟩
 ·have:=Aly h4.1 x hx;simp only[Ka,cP,bS]at this;exact Af6 this.1
 ·have:=Aly h3.1 t ht;simp only[bS,Kp,aL,decide_eq_true_eq]at this;obtain⟨⟨⟨⟨h5,h6⟩,h7⟩,_⟩,_⟩:=this;exact⟨Af6 h5,h6,h7⟩
theorem Ea {T}{t}{s}(h:Bu T s=J t):t∈T∧t.name=s:=by
 refine⟨List.mem_of_find?_eq_some h,?_⟩;have:=List.find?_some h;grind
theorem Aoq {F}{I}{t}{A:List (List V)}{k}{r}(h:A[k]?=J r):G0 F I t (A.take (k+1))=Kf (G0 F I t (A.take k)) I t r:=by
 rw[bU,h,cO,Anj]
theorem Yu {α:Type}{r:α→α→Prop}(aa:∀a b,r a b→¬r b a):∀{l m:List α},l.Pairwise r→m.Pairwise r→(∀x,x∈l↔x∈m)→l=m
 |[],[],_,_,_=>rfl
 |[],b::m,_,_,h=>by have:=(h b).2 (by simp);cases this
 |a::l,[],_,_,h=>by have:=(h a).1 (by simp);cases this
 |a::l,b::m,h1,h2,h=>by
  rw[cS]at h1 h2;have ab:a=b:=by
   rcases aR.1 ((h a).1 (by simp))with e|e
   ·omega
   ·rcases aR.1 ((h b).2 (by simp))with e'|e'
    ·grind
    grind
  subst ab;rw[Yu aa h1.2 h2.2 fun x=>⟨fun hx=>?_,fun hx=>?_⟩]
  ·grind
  grind
theorem Aqc {s}(h:nm s=U):(0:UInt8)∉s.data.toList:=by
 simp only[nm,aL]at h;intro h0;have:=List.all_eq_true.1 h.1.2 0 h0;exact absurd this (by decide)
theorem Alz {a b:Wd}(h:a.data.toList=b.data.toList):a=b:=by
 obtain⟨a⟩:=a;simp_all
theorem Q5:∀{a b p q:List UInt8},(0:UInt8)∉a→(0:UInt8)∉b→a++0::p=b++0::q→a=b∧p=q
 |[],[],p,q,_,_,h=>⟨rfl,by grind⟩
 |[],y::b,p,q,_,hb,h=>by grind
 |x::a,[],p,q,ha,_,h=>by grind
 |x::a,y::b,p,q,ha,hb,h=>by
  simp only[aW,aN]at h;obtain⟨e1,e2⟩:=Q5 (fun h0=>ha (by simp[h0])) (fun h0=>hb (by simp[h0])) h.2;grind
theorem Ayq {a b c d}(ha:good a=U)(hb:good b=U)(hc:good c=U)(hd:good d=U)(h:(Bb [a,b]).1=(Bb [c,d]).1):a=c∧b=d:=by
 have g1:∀v∈[a,b],good v=U:=by simp[ha,hb]
 have g2:∀v∈[c,d],good v=U:=by simp[hc,hd]
 rw[I4 g1,I4 g2]at h;have h1:=Sv _ g1;have h2:=Sv _ g2;grind
theorem Al0 {s t}{a b}(hs:(0:UInt8)∉s.data.toList)(ht:(0:UInt8)∉t.data.toList)(h:H7 s a=H7 t b):s=t∧(Bb [a]).1=(Bb [b]).1:=by
 have:=congrArg (fun x=>x.data.toList) h;simp only[Jr,aN,true_and]at this;obtain⟨h1,h2⟩:=Q5 hs ht this;exact⟨Alz h1,h2⟩
theorem Ayr {s t}{a b c d}(hs:(0:UInt8)∉s.data.toList)(ht:(0:UInt8)∉t.data.toList)(h:Id s a b=Id t c d):s=t∧(Bb [a,b]).1=(Bb [c,d]).1:=by
 have:=congrArg (fun x=>x.data.toList) h;simp only[Px,aN,true_and]at this;obtain⟨h1,h2⟩:=Q5 hs ht this;exact⟨Alz h1,h2⟩
theorem Aa0:∀{p x lo hi:List UInt8},bQ x (p++lo)=bL→bQ x (p++hi)=U→∃s,x=p++s
 |[],x,_,_,_,_=>⟨x,rfl⟩
 |a::p,[],lo,hi,h1,_=>by simp[bQ]at h1
 |a::p,b::x,lo,hi,h1,h2=>by
  by_cases aa:b=a
  ·subst aa;have e:∀q,bQ (b::x) (b::q)=bQ x q:=fun q=>by have:=Dw [b] x q;grind
   rw[aW,e]at h1 h2;obtain⟨s,hs⟩:=Aa0 h1 h2;grind
  ·by_cases ab:b<a
   ·rw[aW,G7 ab]at h1;grind
   ·have ac:a<b:=by
     rw[UInt8.lt_iff_toNat_lt]at ab⊢;have:b.toNat≠a.toNat:=fun e=>aa (UInt8.toNat_inj.1 e)
     omega
    rw[aW,Lk _ _ (G7 ac _ _)]at h2;grind
structure Db where
 c:CatD
 R:Wd→List (List V)
structure DbOk (d:Db):Prop where
 cat:Ds d.c=U
 fit:∀t∈d.c.tables,∀r∈d.R t.name,F9 t r=U
 rise:∀t∈d.c.tables,(d.R t.name).Pairwise fun a b=>klt (rk t a) (rk t b)=U
 len:∀t∈d.c.tables,(d.R t.name).length≤30
 non:∀s,(∀t∈d.c.tables,t.name≠s)→d.R s=[]
def Has (d:Db)(F:PL):Prop:=∀x,x∈F↔∃t∈d.c.tables,∃r∈d.R t.name,A3p d.c.indexes t r x
def F6:Db:=⟨⟨[],[]⟩,fun _=>[]⟩
theorem Al1:DbOk F6:=⟨by rfl,by simp[F6],by simp[F6],by simp[F6],fun _ _=>rfl⟩
theorem Avc:Has F6 []:=fun x=>by simp[F6]
section
variable {c:CatD}(hc:Ds c=U)
include hc
theorem Pb {t u:TabD}(ht:t∈c.tables)(hu:u∈c.tables)(h:t.name=u.name):t=u:=Zv ((Cv c).1 hc).2.2.2.1 ht hu h
theorem A3d {t:TabD}(ht:t∈c.tables):nm t.name=U:=by
 have:=((Cv c).1 hc).2.2.1 t ht;simp only[Kp,aL]at this;grind
theorem Mu {t:TabD}(ht:t∈c.tables):(0:UInt8)∉t.name.data.toList:=Aqc (A3d hc ht)
theorem Avd {x:IdxD}(hx:x∈c.indexes):nm x.name=U:=by
 have:=((Cv c).1 hc).2.2.2.2.1 x hx;simp only[Ka,cP,bS]at this;grind
theorem Ab3 {x:IdxD}(hx:x∈c.indexes):(0:UInt8)∉x.name.data.toList:=Aqc (Avd hc hx)
theorem A1e {x y:IdxD}(hx:x∈c.indexes)(hy:y∈c.indexes)(h:x.name=y.name):x=y:=Zv ((Cv c).1 hc).2.2.2.2.2 hx hy h
theorem He {t:TabD}(ht:t∈c.tables):0<t.cols.length∧t.cols.length≤4:=((D8 hc).2.2 t ht).2
end
theorem Ps {t}{x}(h:0≤Ej t x):x.table=t.name:=by
 unfold Ej at h;grind
theorem A4h {I}{t}{r}{k}:k∈iks I t r↔∃x∈I,0≤Ej t x∧k=Id x.name (r.getD (Ej t x).toNat zero) (r.headD zero):=by
 unfold iks;rw[aT];constructor
 ·rintro⟨x,hx,h⟩;unfold Xu at h;grind
 ·rintro⟨x,hx,h0,rfl⟩;exact⟨x,hx,by rw[Xu,if_pos h0]⟩
theorem Ave {t}{r}(h0:0<t.cols.length)(h:F9 t r=U):good (r.headD zero)=U:=by
 obtain⟨h1,h2⟩:=B6 h;cases r with
 |nil=>rfl
 |cons a r=>grind
theorem Af7 {t}{r}{x}(h:F9 t r=U)(hx:0≤Ej t x):good (r.getD (Ej t x).toNat zero)=U:=by
 obtain⟨h1,h2⟩:=B6 h;rcases Vg t x with hq|⟨p,hq,hp⟩
 ·omega
 grind
theorem Al2 {T}(hT:As T)(lo hi:Wd):Cb ((rng T lo hi).map cN):=hT.rise.sublist ((cQ).map _)
section
variable {d:Db}(ok:DbOk d)
include ok
theorem Ls {t:TabD}(ht:t∈d.c.tables){r:List V}(hr:r∈d.R t.name):good (r.headD zero)=U:=Ave (He ok.cat ht).1 (ok.fit t ht r hr)
theorem A3e {t u:TabD}(ht:t∈d.c.tables)(hu:u∈d.c.tables){r q:List V}(h:rk t r=rk u q):t=u:=Pb ok.cat ht hu (Al0 (Mu ok.cat ht) (Mu ok.cat hu) h).1
theorem Yv {t:TabD}(ht:t∈d.c.tables){r q:List V}(hr:r∈d.R t.name)(hq:q∈d.R t.name)(h:rk t r=rk t q):r=q:=by
 have hp:=ok.rise t ht;have:∀{l:List _},l.Pairwise (fun a b=>klt (rk t a) (rk t b)=U)→r∈l→q∈l→r=q:=by
  intro l
  induction l with
  |nil=>simp
  |cons a l ih=>
   intro hp hr hq;rw[cS]at hp;rcases aR.1 hr with rfl|hr'
   ·rcases aR.1 hq with rfl|hq'
    ·rfl
    ·exact absurd h (Fz (hp.1 _ hq'))
   ·rcases aR.1 hq with rfl|hq'
    ·exact absurd h.symm (Fz (hp.1 _ hr'))
    grind
 grind
theorem Sg {F:PL}(h:Has d F){t:TabD}(ht:t∈d.c.tables){id:V}{v:Wd}:(H7 t.name id,v)∈F↔∃q∈d.R t.name,rk t q=H7 t.name id∧v=str (Bb q).1:=by
 rw[h];constructor
 ·rintro⟨u,hu,q,hq,hg⟩;rcases hg with e|⟨hk,_⟩
  ·have h1:=congrArg cN e;simp only[rk]at h1;have h2:=Pb ok.cat ht hu (Al0 (Mu ok.cat ht) (Mu ok.cat hu) h1).1;grind
  ·obtain⟨x,v,aa,hk⟩:=Nb hk;exact absurd hk (Jk _ _ _ _ _)
 ·rintro⟨q,hq,h1,rfl⟩;exact⟨t,ht,q,hq,.inl (by grind)⟩
theorem Aqd {F:PL}(h:Has d F){t:TabD}(ht:t∈d.c.tables)(r:List V):Hy F (rk t r)=M↔∀q∈d.R t.name,rk t q≠rk t r:=by
 rw[Att];constructor
 ·intro h1 q hq e;exact h1 _ ((Sg ok h ht).2 ⟨q,hq,e,rfl⟩) rfl
 ·intro h1 x hx e;obtain⟨k,v⟩:=x;simp only at e;subst e;obtain⟨q,hq,e,_⟩:=(Sg ok h ht).1 hx;exact h1 q hq e
theorem Af8 {T:List Pg}(h:Has d (flat T)){t:TabD}(ht:t∈d.c.tables)(lo hi:Wd){x:Wd×Wd}:x∈rng T (Dc t.name++lo) (Dc t.name++hi)↔(∃r∈d.R t.name,x=(rk t r,str (Bb r).1))∧rq (Dc t.name++lo) (Dc t.name++hi) x=U:=by
 unfold rng;rw[aH];refine and_congr_left fun hq=>?_
 rw[h];constructor
 ·rintro⟨u,hu,q,ab,hg⟩;have aa:=hq;unfold rq at aa;rw[Cw,Cw,I9,I9,aL,cX]at aa;obtain⟨s,hs⟩:=Aa0 aa.1 aa.2;rcases hg with e|⟨hk,_⟩
  ·have h1:x.1=rk u q:=congrArg _ e;rw[h1,rk,Jr,Pw]at hs;simp only[aW,cW,aN,true_and,List.nil_append]at hs;have h3:=Pb ok.cat hu ht (Alz ((Q5 (Mu ok.cat hu) (Mu ok.cat ht) hs).1));grind
  ·obtain⟨y,v,ac,hk⟩:=Nb hk;rw[hk,Px,Pw]at hs;grind
 ·rintro⟨r,hr,rfl⟩;exact⟨t,ht,r,hr,.inl rfl⟩
theorem A1f {T:List Pg}(hT:As T)(h:Has d (flat T)){t:TabD}(ht:t∈d.c.tables):rng T (Hl t.name) (Hm t.name)=(d.R t.name).map (fun r=>(rk t r,str (Bb r).1)):=by
 have aa:∀a b:Wd×Wd,klt a.1 b.1=U→¬klt b.1 a.1=U:=fun a b h1 h2=>by rw[Kv h1]at h2;grind
 refine Yu (r:=fun a b=>klt a.1 b.1=U) aa ?_ ?_ fun x=>?_
 ·have:=Al2 hT (Hl t.name) (Hm t.name);grind
 ·rw[bH];exact ok.rise t ht
 ·unfold Hl Hm;rw[Af8 ok h ht,bV];constructor
  ·grind
  ·rintro⟨r,hr,rfl⟩;exact⟨⟨r,hr,rfl⟩,Atv (Ls ok ht hr) _⟩
theorem Aqe {t:TabD}(ht:t∈d.c.tables):∀{l:List (List V)},(∀r∈l,r∈d.R t.name)→F3 t.cols.length (l.map fun r=>(rk t r,str (Bb r).1))=l
 |[],_=>rfl
 |r::l,h=>by
  obtain⟨h1,h2⟩:=B6 (ok.fit t ht r (h r (by simp)));have e:=Agy (He ok.cat ht).1 h1 h2;have ih:=Aqe ht (l:=l) fun q hq=>h q (by grind)
  unfold F3 at ih⊢;grind
theorem Ab4 {T:List Pg}(hT:As T)(h:Has d (flat T)){t:TabD}(ht:t∈d.c.tables):F3 t.cols.length (rng T (Hl t.name) (Hm t.name))=d.R t.name:=by
 rw[A1f ok hT h ht,Aqe ok ht fun r hr=>hr]
end
theorem J6 {α β:Type}(f:α→List β)(k):∀(l:List α),(∀x∈l,(f x).length≤k)→(l.flatMap f).length≤l.length*k
 |[],_=>by simp
 |a::l,h=>by
  have h1:=h a (by simp);have h2:=J6 f k l fun x hx=>h x (by grind)
  rw[cV,aU,cY,Nat.add_mul];omega
theorem Lt {d}(ok:DbOk d){T}(hT:As T)(h:Has d (flat T)):(flat T).length≤450:=by
 have hn:(flat T).Nodup:=by
  have:=hT.rise;rw[Cb,bH]at this;exact List.Pairwise.imp (fun{a b} h (e:a=b)=>Fz h (congrArg cN e)) this
 have hI:=(D8 ok.cat).1;have h3:=((Cv d.c).1 ok.cat).1;have h1:=Xw hn (B:=d.c.tables.flatMap fun t=>(d.R _).flatMap fun r=>(rk t r,str (Bb r).1)::(iks d.c.indexes t r).map fun k=>(k,noW)) fun x hx=>by
  obtain⟨t,ht,r,hr,hg⟩:=(h x).1 hx;refine bY.2 ⟨t,ht,bY.2 ⟨r,hr,?_⟩⟩;rcases hg with rfl|⟨hk,hv⟩
  ·simp
  grind
 have h2:=J6 (fun t=>(d.R t.name).flatMap fun r=>(rk t r,str (Bb r).1)::(iks d.c.indexes t r).map fun k=>(k,noW)) 150 _ fun t ht=>by
  have h4:=J6 (fun r=>(rk t r,str (Bb r).1)::(iks d.c.indexes t r).map fun k=>(k,noW)) 5 (d.R t.name) fun r _=>by
   have:=Qn d.c.indexes t r;grind
  have:=ok.len t ht;omega
 omega
theorem Ja {T}(hT:As T):T.length≤(flat T).length:=by
 rw[Z9 hT.1];have:∀(T),(∀p∈T,p.ok)→T.length≤(Cf T).length:=by
  intro T
  induction T with
  |nil=>simp
  |cons p T ih=>
   intro h;have h1:=ih fun q hq=>h q (by grind)
   have h2:=(h p (by simp)).1;simp only[Cf,cV,aU,cY]at h1⊢;omega
 exact this T hT.1
theorem P7 {d}(ok:DbOk d){F}(h:Has d F):∀x∈F,x.1.size≤1000000∧x.2.size≤1000000:=by
 intro x hx;obtain⟨t,ht,r,hr,hg⟩:=(h x).1 hx;obtain⟨_,ab,aa⟩:=D8 ok.cat;obtain⟨ac,_,h4⟩:=aa t ht;have hl:=(B6 (ok.fit t ht r hr)).1;rcases hg with rfl|⟨hk,he⟩
 ·refine⟨?_,?_⟩
  ·show(H7 _ _).size≤_;rw[H7,Ox,S3];have:=Kg [r.headD zero];grind
  ·have:=Kg r;grind
 ·refine⟨?_,by rw[he];exact bK _⟩;obtain⟨y,hy,_,hx⟩:=A4h.1 hk;rw[hx,Id,Ox,Xy];have:=Kg [r.getD (Ej t y).toNat zero,r.headD zero];grind
def Db.upd (d:Db)(s:Wd)(l:List (List V)):Db:=⟨d.c,fun n=>if n=s then l else d.R n⟩
theorem Pc {d:Db}(hc:Ds d.c=U){t u}(ht:t∈d.c.tables)(hu:u∈d.c.tables){l}{q}:q∈(d.upd t.name l).R u.name↔(u=t∧q∈l)∨(u≠t∧q∈d.R u.name):=by
 show q∈(if u.name=t.name then l else d.R _)↔_
 by_cases h:u.name=t.name
 ·have:=Pb hc hu ht h;grind
 grind
theorem Avf {d:Db}(ok:DbOk d){t:TabD}(ht:t∈d.c.tables){l:List (List V)}(h1:∀r∈l,F9 t r=U)(h2:l.Pairwise fun a b=>klt (rk t a) (rk t b)=U)(h3:l.length≤30):DbOk (d.upd t.name l):=by
 refine⟨ok.cat,fun u hu r hr=>?_,fun u hu=>?_,fun u hu=>?_,fun s hs=>?_⟩
 ·rcases(Pc ok.cat ht hu).1 hr with⟨rfl,h⟩|⟨_,h⟩
  ·grind
  ·exact ok.fit u hu r h
 ·show(if u.name=t.name then l else d.R _).Pairwise _
  by_cases h:u.name=t.name
  ·have:=Pb ok.cat hu ht h;grind
  ·rw[if_neg h];exact ok.rise u hu
 ·show(if u.name=t.name then l else d.R _).length≤30
  by_cases h:u.name=t.name
  ·grind
  ·rw[if_neg h];exact ok.len u hu
 ·show(if s=t.name then l else d.R s)=[];rw[if_neg fun e=>hs t ht e.symm];exact ok.non s hs
theorem Aor {d:Db}(ok:DbOk d){t u:TabD}(ht:t∈d.c.tables)(hu:u∈d.c.tables){r q:List V}(hr:r∈d.R t.name)(hq:q∈d.R u.name){k:Wd}(h1:k=rk t r∨k∈iks d.c.indexes t r)(h2:k=rk u q∨k∈iks d.c.indexes u q):u=t∧q=r:=by
 have fin:rk t r=rk u q→u=t∧q=r:=fun e=>by
  have:=A3e ok ht hu e;subst this;exact⟨rfl,(Yv ok ht hr hq e).symm⟩
 rcases h1 with h1|h1
 ·rcases h2 with h2|h2
  ·grind
  ·obtain⟨x,v,id,h2⟩:=Nb h2;exact absurd (h1.symm.trans h2) (Jk _ _ _ _ _)
 ·rcases h2 with h2|h2
  ·obtain⟨x,v,id,h1⟩:=Nb h1;exact absurd (h2.symm.trans h1) (Jk _ _ _ _ _)
  ·obtain⟨x,hx,aa,e1⟩:=A4h.1 h1;obtain⟨y,hy,ab,e2⟩:=A4h.1 h2;obtain⟨n1,n2⟩:=Ayr (Ab3 ok.cat hx) (Ab3 ok.cat hy) (e1.symm.trans e2);have ac:=A1e ok.cat hx hy n1;subst ac;have ad:=Pb ok.cat hu ht ((Ps ab).symm.trans (Ps aa));subst ad;have:=Ayq (Af7 (ok.fit _ ht r hr) aa) (Ls ok ht hr) (Af7 (ok.fit _ ht q hq) ab) (Ls ok ht hq) n2;refine⟨rfl,(Yv ok ht hr hq ?_).symm⟩;rw[rk,rk,this.2]
section
variable {d:Db}(ok:DbOk d) {t:TabD}(ht:t∈d.c.tables) {F:PL}(h:Has d F)
include ok ht h
theorem A1g {r:List V}(hn:∀q∈d.R t.name,rk t q≠rk t r):Has (d.upd t.name (Ec (rk t) (d.R t.name) r)) (putRow F d.c.indexes t r):=by
 have ab:=Att.1 ((Aqd ok h ht r).2 hn);intro x;unfold putRow;rw[Xv]
 ·rw[Abn];constructor
  ·rintro((e|⟨h1,_⟩)|h1)
   ·exact⟨t,ht,r,(Pc ok.cat ht ht).2 (.inl ⟨rfl,A4a.2 (.inl rfl)⟩),.inl e⟩
   ·obtain⟨u,hu,q,hq,hg⟩:=(h x).1 h1;refine⟨u,hu,q,(Pc ok.cat ht hu).2 ?_,hg⟩
    by_cases aa:u=t
    ·subst aa;exact .inl ⟨rfl,A4a.2 (.inr hq)⟩
    grind
   ·exact⟨t,ht,r,(Pc ok.cat ht ht).2 (.inl ⟨rfl,A4a.2 (.inl rfl)⟩),.inr h1⟩
  ·rintro⟨u,hu,q,hq,hg⟩;have old:q∈d.R u.name→(x=(rk t r,str (Bb r).1)∨x∈F∧x.1≠rk t r)∨x.1∈iks d.c.indexes t r∧x.2=noW:=fun hq=>by
    have hx:=(h x).2 ⟨u,hu,q,hq,hg⟩;grind
   rcases(Pc ok.cat ht hu).1 hq with⟨rfl,hq⟩|⟨_,hq⟩
   ·rcases A4a.1 hq with rfl|hq
    ·rcases hg with e|e
     ·grind
     ·exact .inr e
    grind
   grind
 ·intro y hy hk;obtain⟨a,v,id,hk⟩:=Nb hk;rcases Abn.1 hy with e|⟨h1,_⟩
  ·rw[e]at hk;exact absurd hk (Jk _ _ _ _ _)
  ·obtain⟨u,hu,q,hq,hg⟩:=(h y).1 h1;rcases hg with e|e
   ·rw[e]at hk;exact absurd hk (Jk _ _ _ _ _)
   grind
omit h in
theorem A3f {r:List V}(hf:F9 t r=U)(hn:∀q∈d.R t.name,rk t q≠rk t r)(hl:(d.R t.name).length<30):DbOk (d.upd t.name (Ec (rk t) (d.R t.name) r)):=by
 refine Avf ok ht (fun q hq=>?_) ?_ (by rw[Ma];omega)
 ·rcases A4a.1 hq with rfl|hq
  ·omega
  ·exact ok.fit t ht q hq
 ·have:=Ym (by rw[Cb,bH];exact ok.rise t ht) hn;grind
theorem Ab5 {A:List (List V)}{p:List V→Bool}(hA:∀r,r∈A↔r∈d.R t.name∧p r=U):Has (d.upd t.name ((d.R t.name).filter fun r=>!p r)) (G0 F d.c.indexes t A):=by
 intro x;rw[Acz];constructor
 ·rintro⟨hx,ac⟩;obtain⟨u,hu,q,hq,hg⟩:=(h x).1 hx;refine⟨u,hu,q,(Pc ok.cat ht hu).2 ?_,hg⟩
  by_cases ab:u=t
  ·subst ab;refine .inl ⟨rfl,aH.2 ⟨hq,?_⟩⟩;cases hp:p q with
   |false=>rfl
   |true=>
    have:=ac q ((hA q).2 ⟨hq,hp⟩);rcases hg with e|e
    ·grind
    grind
  grind
 ·rintro⟨u,hu,q,hq,hg⟩;have ad:x.1=rk u q∨x.1∈iks d.c.indexes u q:=hg.imp (congrArg _) And.left;have aa:q∈d.R u.name∧(u=t→p q=bL):=by
   rcases(Pc ok.cat ht hu).1 hq with⟨rfl,hq⟩|⟨ab,hq⟩
   ·grind
   ·grind
  refine⟨(h x).2 ⟨u,hu,q,aa.1,hg⟩,fun r hr=>?_⟩;obtain⟨ae,af⟩:=(hA r).1 hr;have no:¬(x.1=rk t r∨x.1∈iks _ t r):=fun hh=>by
   obtain⟨e1,e2⟩:=Aor ok ht hu ae aa.1 hh ad;rw[e2,af]at aa;exact absurd (aa.2 e1) (by simp)
  grind
omit h in
theorem Af9 (p:List V→Bool):DbOk (d.upd t.name ((d.R t.name).filter p)):=
 Avf ok ht (fun q hq=>ok.fit t ht q (aH.1 hq).1) ((ok.rise t ht).sublist cQ) (aD (List.length_filter_le _ _) (ok.len t ht))
end
def Mk (F:PL)(I:List IdxD)(t:TabD)(A:List (List V)):PL:=A.foldl (fun F r=>putRow F I t r) F
theorem Ar2 (F)(I)(t)(A)(r):Mk F I t (A++[r])=putRow (Mk F I t A) I t r:=by simp[Mk]
theorem Ahm {I}{t}{x:Wd×Wd}:∀(A:List (List V)) (F:PL),(∀r∈A,(rk t r,str (Bb r).1)∈F∧∀y∈F,y.1=rk t r→y.2=str (Bb r).1)→(∀r∈A,∀y∈F,y.1∈iks I t r→y.2=noW)→(x∈Mk F I t A↔x∈F∨∃r∈A,x.1∈iks I t r∧x.2=noW)
 |[],F,_,_=>by simp[Mk]
 |r::A,F,h1,h2=>by
  have step:∀y,y∈putRow F I t r↔y∈F∨(y.1∈iks I t r∧y.2=noW):=fun y=>by
   obtain⟨a1,a2⟩:=h1 r (by simp);have e:∀z,z∈I0 F (rk t r) (str (Bb r).1)↔z∈F:=fun z=>by
    rw[Abn];constructor
    ·rintro(rfl|⟨hz,_⟩)
     ·exact a1
     ·exact hz
    ·intro hz
     by_cases hk:z.1=rk t r
     ·exact .inl (Prod.ext hk (a2 z hz hk))
     ·exact .inr ⟨hz,hk⟩
   unfold putRow;rw[Xv,e];intro z hz hk;exact h2 r (by simp) z ((e z).1 hz) hk
  have e:Mk F I t (r::A)=Mk (putRow F I t r) I t A:=rfl;rw[e,Ahm A _,step]
  ·grind
  ·grind
  grind
section
variable {d:Db}(ok:DbOk d) {F:PL}(h:Has d F)
include ok h
theorem Ays {t:TabD}(ht:t∈d.c.tables){x:IdxD}(hx:x.table=t.name):Has ⟨⟨d.c.tables,Ec IdxD.name d.c.indexes x⟩,d.R⟩ (Mk F (Ec IdxD.name d.c.indexes x) t (d.R t.name)):=by
 intro y;rw[Ahm]
 ·constructor
  ·rintro(hy|⟨r,hr,hy⟩)
   ·obtain⟨u,hu,q,hq,hg⟩:=(h y).1 hy;refine⟨u,hu,q,hq,hg.imp id fun⟨a,b⟩=>⟨?_,b⟩⟩;obtain⟨z,hz,aa⟩:=A4h.1 a;exact A4h.2 ⟨z,A4a.2 (.inr hz),aa⟩
   ·exact⟨t,ht,r,hr,.inr hy⟩
  ·rintro⟨u,hu,q,hq,hg⟩;rcases hg with e|⟨a,b⟩
   ·exact .inl ((h y).2 ⟨u,hu,q,hq,.inl e⟩)
   ·obtain⟨z,hz,aa⟩:=A4h.1 a;rcases A4a.1 hz with rfl|hz
    ·have:=Pb ok.cat hu ht ((Ps aa.1).symm.trans hx);grind
    ·exact .inl ((h y).2 ⟨u,hu,q,hq,.inr ⟨A4h.2 ⟨z,hz,aa⟩,b⟩⟩)
 ·intro r hr;refine⟨(Sg ok h ht).2 ⟨r,hr,rfl,rfl⟩,fun y hy hk=>?_⟩;obtain⟨k,v⟩:=y;simp only at hk;subst hk;obtain⟨q,hq,e,e2⟩:=(Sg ok h ht).1 hy;rw[Yv ok ht hr hq e.symm];omega
 ·intro r _ y hy hk;obtain⟨a,v,id,hk⟩:=Nb hk;obtain⟨u,hu,q,hq,hg⟩:=(h y).1 hy;rcases hg with e|e
  ·rw[e]at hk;exact absurd hk (Jk _ _ _ _ _)
  grind
theorem Ar3 {t:TabD}(hn:∀u∈d.c.tables,u.name≠t.name):Has ⟨⟨Ec TabD.name d.c.tables t,d.c.indexes⟩,d.R⟩ F:=by
 intro y;rw[h];constructor
 ·rintro⟨u,hu,q⟩;exact⟨u,A4a.2 (.inr hu),q⟩
 ·rintro⟨u,hu,q,hq,hg⟩;rcases A4a.1 hu with rfl|hu
  ·have aa:q∈d.R _:=hq;rw[ok.non _ hn]at aa;grind
  grind
omit ok in
theorem Ayt {s:Wd}(hn:d.R s=[]):Has ⟨⟨d.c.tables.filter (fun t=>!decide (t.name=s)),d.c.indexes.filter (fun x=>!decide (x.table=s))⟩,d.R⟩ F:=by
 intro y;rw[h];constructor
 ·rintro⟨u,hu,q,hq,hg⟩;have ab:u.name≠s:=fun e=>by grind
  refine⟨u,aH.2 ⟨hu,by grind⟩,q,hq,hg.imp id fun⟨a,b⟩=>⟨?_,b⟩⟩;obtain⟨z,hz,aa⟩:=A4h.1 a;exact A4h.2 ⟨z,aH.2 ⟨hz,by rw[Ps aa.1];grind⟩,aa⟩
 ·rintro⟨u,hu,q,hq,hg⟩;refine⟨u,(aH.1 hu).1,q,hq,hg.imp id fun⟨a,b⟩=>⟨?_,b⟩⟩;obtain⟨z,hz,aa⟩:=A4h.1 a;exact A4h.2 ⟨z,(aH.1 hz).1,aa⟩
end
theorem A1h {d}(ok:DbOk d){x}(hc:Ds ⟨d.c.tables,Ec IdxD.name d.c.indexes x⟩=U):DbOk ⟨⟨d.c.tables,Ec IdxD.name d.c.indexes x⟩,d.R⟩:=⟨hc,ok.fit,ok.rise,ok.len,ok.non⟩
theorem Avg {d}(ok:DbOk d){t}(hn:∀u∈d.c.tables,u.name≠t.name)(hc:Ds ⟨Ec TabD.name d.c.tables t,d.c.indexes⟩=U):DbOk ⟨⟨Ec TabD.name d.c.tables t,d.c.indexes⟩,d.R⟩:=by
 have h0:=ok.non _ hn;refine⟨hc,fun u hu r hr=>?_,fun u hu=>?_,fun u hu=>?_,fun s hs=>ok.non s fun u hu=>hs u (A4a.2 (.inr hu))⟩
 ·rcases A4a.1 hu with rfl|hu
  ·grind
  ·exact ok.fit u hu r hr
 ·rcases A4a.1 hu with rfl|hu
  ·simp_all
  ·exact ok.rise u hu
 ·rcases A4a.1 hu with rfl|hu
  ·grind
  ·exact ok.len u hu
theorem A1i {d}(ok:DbOk d){s}(hn:d.R s=[])(hc:Ds ⟨d.c.tables.filter (fun t=>!decide (t.name=s)),d.c.indexes.filter (fun x=>!decide (x.table=s))⟩=U):DbOk ⟨⟨d.c.tables.filter (fun t=>!decide (t.name=s)),d.c.indexes.filter (fun x=>!decide (x.table=s))⟩,d.R⟩:=by
 refine⟨hc,fun u hu=>ok.fit u (aH.1 hu).1,fun u hu=>ok.rise u (aH.1 hu).1,fun u hu=>ok.len u (aH.1 hu).1,fun s' hs=>?_⟩
 by_cases he:s'=s
 ·grind
 ·refine ok.non s' fun u hu e=>?_
  grind
theorem Mv {d}(ok:DbOk d){T}(hT:As T)(h:Has d (flat T)){t}(ht:t∈d.c.tables)(at')(e):
  (Hb t.cols.length T t.name (Dp d.c t at' e)).Nodup∧(∀r∈Hb t.cols.length T t.name (Dp d.c t at' e),r∈d.R t.name)∧
  ∀r∈d.R t.name,(geB 40 e=U→∃q:List V,ofV (ev q e)=1∧∀k:Nat,k<t.cols.length→Mq q (at'+k)=r.getD k zero)→r∈Hb t.cols.length T t.name (Dp d.c t at' e):=by
 have h0:=(He ok.cat ht).1;have ab:=fun r hr=>by
  obtain⟨h1,h2⟩:=B6 (ok.fit t ht r hr);exact Agy h0 h1 h2
 have tab:∀(lo hi:Wd) (P:List V→Prop),(∀r∈d.R t.name,P r→rq (Dc t.name++lo) (Dc t.name++hi) (rk t r,str (Bb r).1)=U)→
   (F3 t.cols.length (rng T (Dc t.name++lo) (Dc t.name++hi))).Nodup∧(∀r∈F3 t.cols.length (rng T (Dc t.name++lo) (Dc t.name++hi)),r∈d.R t.name)∧∀r∈d.R t.name,P r→r∈F3 t.cols.length (rng T (Dc t.name++lo) (Dc t.name++hi)):=by
  intro lo hi P hP;have hn:((rng T (Dc t.name++lo) (Dc t.name++hi)).map cN).Nodup:=(Al2 hT _ _).imp fun h=>Fz h
  have ad:(rng T (Dc t.name++lo) (Dc t.name++hi)).Nodup:=by
   rw[List.Nodup,bH]at hn;exact hn.imp fun h e=>h (by rw[e])
  have e:F3 t.cols.length (rng T (Dc t.name++lo) (Dc t.name++hi))=(rng T (Dc t.name++lo) (Dc t.name++hi)).filterMap fun x=>Il t.cols.length x.2:=by
   unfold F3;rw[List.filterMap_map];rfl
  have ae:∀{x r},x∈rng T (Dc t.name++lo) (Dc t.name++hi)→Il t.cols.length x.2=J r→r∈d.R t.name∧x=(rk t r,str (Bb r).1):=by
   intro x r hx hr;obtain⟨⟨q,hq,rfl⟩,_⟩:=(Af8 ok h ht lo hi).1 hx;rw[ab q hq]at hr;obtain rfl:=bG hr;exact⟨hq,rfl⟩
  rw[e];refine⟨On ad fun x hx y hy r h1 h2=>?_,fun r hr=>?_,fun r hr hp=>?_⟩
  ·grind
  ·grind
  ·exact aT.2 ⟨_,(Af8 ok h ht lo hi).2 ⟨⟨r,hr,rfl⟩,hP r hr hp⟩,ab r hr⟩
 have Dv:∀(K),K.Nodup→(∀k∈K,∃id,k=H7 t.name id)→∀(P:List V→Prop),(∀r∈d.R t.name,P r→rk t r∈K)→
   (Cx t.cols.length (Hq T K)).Nodup∧(∀r∈Cx t.cols.length (Hq T K),r∈d.R t.name)∧∀r∈d.R t.name,P r→r∈Cx t.cols.length (Hq T K):=by
  intro K hK hid P hP;have e:Cx t.cols.length (Hq T K)=K.filterMap fun k=>(Hy (flat T) k).bind (Il t.cols.length):=by
   unfold Cx Hq;rw[List.filterMap_filterMap]
  have ae:∀{k r},k∈K→((Hy (flat T) k).bind (Il t.cols.length))=J r→r∈d.R t.name∧k=rk t r:=by
   intro k r hk hb;obtain⟨y,hy,hr⟩:=Option.bind_eq_some_iff.1 hb;obtain⟨id,rfl⟩:=hid k hk;obtain⟨q,hq,e1,rfl⟩:=(Sg ok h ht).1 (Vy hy);rw[ab q hq]at hr;obtain rfl:=bG hr;exact⟨hq,e1.symm⟩
  rw[e];refine⟨On hK fun x hx y hy r h1 h2=>?_,fun r hr=>?_,fun r hr hp=>?_⟩
  ·grind
  ·grind
  ·refine aT.2 ⟨_,hP r hr hp,?_⟩;rw[show Hy _ (rk t r)=J _ from Aoo hT ((Sg ok h ht).2 ⟨r,hr,rfl,rfl⟩)];grind
 have af:∀r∈d.R _,(rk t r).data.toList=(Dc _).data.toList++keyOf _:=fun r hr=>by
  rw[rk,H7,I9,Br,Rf (Ls ok ht hr)]
 have ag:∀r:List V,r.getD 0 zero=r.headD zero:=fun r=>by cases r<;>rfl
 unfold Dp
 by_cases aa:geB 40 e=U
 ·rw[if_pos aa,if_pos ok.cat];rcases Tt at' e t d.c.indexes (Iv at' e t)with hc|⟨x,hx,hi,hc⟩
  ·rw[hc];unfold Hb Iv;rw[if_pos rfl];refine tab _ _ _ fun r hr hp=>?_
   obtain⟨q,h1,h2⟩:=hp aa;have hz:Mq q (at'+0)=r.headD zero:=by have:=h2 0 h0;rw[ag]at this;simpa using this
   have hs:=Aaz at' 0 q [] rfl (by rw[hz];exact Ls ok ht hr) 40 e U aa (by grind);rw[hz,List.append_nil]at hs;exact Aqb (af r hr) hs _
  ·rw[hc];unfold Hb;rw[if_neg (show x.name≠noW from fun en=>by have:=Avd ok.cat hx;rw[en]at this;exact absurd this (by decide))];unfold Ajp;refine Dv _ (Aoi _) (fun k hk=>?_) _ fun r hr hp=>?_
   ·rw[Ahi]at hk;obtain⟨y,_,hy⟩:=aT.1 hk;unfold Vx at hy;grind
   ·rw[Ahi];obtain⟨q,h1,h2⟩:=hp aa;have ah:(Ej t x).toNat<t.cols.length:=by
     rcases Vg t x with hq|⟨p,hq,hp'⟩
     ·omega
     ·omega
    have hv:=Af7 (ok.fit t ht r hr) hi;have hz:=by
     have:=h2 _ ah;rwa[show((Ej t x).toNat:Int)=Ej t x from by omega]at this
    have ai:(Id _ _ _,noW)∈flat T:=
     (h _).2 ⟨t,ht,r,hr,.inr ⟨A4h.2 ⟨x,hx,hi,rfl⟩,rfl⟩⟩
    have ac:=Ls ok ht hr;have aj:okT (keyOf (r.headD zero)):=by
     obtain⟨s,hs⟩:=Ll ac;unfold okT;rw[hs];refine G7 ?_ _ _;rcases Gz ac with q|q|q<;>rw[q]<;>decide
    have hs:=Aaz at' (Ej t x) q _ aj (by grind) 40 e U aa (by grind);rw[hz]at hs;have ak:(Id x.name (r.getD (Ej t x).toNat zero) (r.headD zero)).data.toList=(Hk x.name).data.toList++(keyOf (r.getD (Ej t x).toNat zero)++keyOf (r.headD zero)):=by
     rw[Id,I9,Br,I4 (by grind)];simp[Go.Proofs.YtjapkoofjlmdgaaGreatDoor.Dv]
    refine aT.2 ⟨_,bV.2 ⟨_,aH.2 ⟨ai,Aqb ak hs _⟩,rfl⟩,?_⟩;exact Ar1 _ _ hv ac
 ·rw[if_neg aa];unfold Hb;rw[if_pos rfl];exact tab _ _ _ fun r hr _=>Atv (Ls ok ht hr) _
def Kr (F:Nat→Prop)(w:aV):List (aQ×aQ)→List Pg→Prop
 |[],[]=>True
 |r::rs,p::T=>Bp F 1 w r.1 p.K.length (p.K.map N)∧Bp F 1 w r.2 p.V.length (p.V.map N)∧Kr F w rs T
 |_,_=>False
def Kd (F:Nat→Prop)(w:aV)(sv:aQ)(T:List Pg):Prop:=∃rows,Bp F 2 w sv T.length (A3 rows)∧Kr F w rows T
theorem Kr.keep {F}{w w'}(hk:Keeps F w w'):∀{rs:List (aQ×aQ)}{T:List Pg},Kr F w rs T→Kr F w' rs T
 |[],[],_=>trivial
 |_::_,_::_,h=>⟨h.1.keep hk,h.2.1.keep hk,Kr.keep hk h.2.2⟩
theorem Kr.mono {F F'}{w}(hk:∀k,k<w.heap.size→F k→F' k):∀{rs:List (aQ×aQ)}{T:List Pg},Kr F w rs T→Kr F' w rs T
 |[],[],_=>trivial
 |_::_,_::_,h=>⟨h.1.mono hk,h.2.1.mono hk,Kr.mono hk h.2.2⟩
theorem Kr.pgs {F}{w}:∀{rs:List (aQ×aQ)}{T:List Pg},Kr F w rs T→Pgs w rs T
 |[],[],_=>trivial
 |_::_,_::_,h=>⟨h.1.row,h.2.1.row,Kr.pgs h.2.2⟩
theorem Kd.keep {F}{w w'}{sv}{T}(h:Kd F w sv T)(hk:Keeps F w w'):Kd F w' sv T:=by
 obtain⟨rows,h1,h2⟩:=h;exact⟨rows,h1.keep hk,h2.keep hk⟩
theorem Kd.mono {F F'}{w}{sv}{T}(h:Kd F w sv T)(hk:∀k,k<w.heap.size→F k→F' k):Kd F' w sv T:=by
 obtain⟨rows,h1,h2⟩:=h;exact⟨rows,h1.mono hk,h2.mono hk⟩
theorem Kd.pages {F}{w}{sv}{T}(h:Kd F w sv T):A8 w sv T:=by
 obtain⟨rows,h1,h2⟩:=h;exact⟨rows,h1.row,h2.pgs⟩
theorem Kd.nil (F)(w):Kd F w (O M 0 0) []:=⟨[],Bp.nil F 2 w,trivial⟩
theorem Wa {F G:Nat→Prop}{size}{w}{sv}{n}{cs}(h:Eu size w sv n cs)(hF:∀b aa cap,sv=O (J ⟨b,aa,M⟩) n cap→0<n→b<w.heap.size→(∀(j:Nat) (u:aQ),cs[j]?=J u→w.cell? ⟨b,aa+j,M⟩=J u)→G b)(_:F=F):Bp G size w sv n cs:=by
 obtain⟨h1,h2⟩:=h;refine⟨h1,?_⟩;grind
structure EngC (E:List Nat) (w:aV) (n:Nat) (c:CatD) (T:List Pg) (a:Int) (tv iv pv:aQ):Prop where
 blk:w.heap[n]?=J (X #[tv,iv,pv,D H a] 46)
 tabs:IsL Ci (fun k=>k∉E) w tv c.tables
 idxs:IsL D6 (fun k=>k∉E) w iv c.indexes
 pages:Kd (fun k=>k∉E) w pv T
 good:As T
theorem EngC.lt {E}{w}{n}{c}{T}{a}{tv iv pv}(h:EngC E w n c T a tv iv pv):n<w.heap.size:=aP h.blk
theorem Jq {E:List Nat}{n}{w w'}(h:But n w w')(hn:n∈E):Keeps (fun k=>k∉E) w w':=⟨h.size,fun k hk hl=>h.block k hl fun e=>hk (by grind)⟩
theorem EngC.keep {E}{w w'}{n}{c}{T}{a}{tv iv pv}(h:EngC E w n c T a tv iv pv)(hk:Keeps (fun k=>k∉E) w w')(hb:w'.heap[n]?=w.heap[n]?):EngC E w' n c T a tv iv pv:=
 ⟨hb.trans h.blk,h.tabs.keep hk,h.idxs.keep hk,h.pages.keep hk,h.good⟩
theorem EngC.below {E}{w w'}{n}{c}{T}{a}{tv iv pv}(h:EngC E w n c T a tv iv pv)(hb:Below w.heap.size w w'):EngC E w' n c T a tv iv pv:=h.keep (Ak hb) (hb.block n h.lt)
theorem EngC.but {E}{w w'}{n m}{c}{T}{a}{tv iv pv}(h:EngC E w n c T a tv iv pv)(hb:But m w w')(hm:m∈E)(aa:n≠m):EngC E w' n c T a tv iv pv:=h.keep (Jq hb hm) (hb.block n h.lt aa)
def Cl (E:List Nat)(w:aV):Prop:=∀n∈E,∃c T a tv iv pv,EngC E w n c T a tv iv pv∧Ds c=U
theorem Cl.below {E}{w w'}(h:Cl E w)(hb:Below w.heap.size w w'):Cl E w':=fun n hn=>by
 obtain⟨c,T,a,tv,iv,pv,h1,h2⟩:=h n hn;exact⟨c,T,a,tv,iv,pv,h1.below hb,h2⟩
theorem Cl.put {E}{w w'}{m}(h:Cl E w)(hb:But m w w')(hm:m∈E){c}{T}{a}{tv iv pv}(hn:EngC E w' m c T a tv iv pv)(hc:Ds c=U):Cl E w':=fun n aa=>by
 by_cases e:n=m
 ·grind
 ·obtain⟨c,T,a,tv,iv,pv,h1,h2⟩:=h n aa;exact⟨c,T,a,tv,iv,pv,h1.but hb hm e,h2⟩
theorem Al3 {E}{w}(hE:Cl E w){b o}{s:Wd}(h:w.cell? ⟨b,o,M⟩=J (N s)):b∉E:=fun hb=>by
 obtain⟨c,T,a,tv,iv,pv,h1,_⟩:=hE b hb;obtain⟨aa,tc,rfl⟩:=h1.tabs.shape;obtain⟨io,ic,rfl⟩:=h1.idxs.shape;obtain⟨po,pc,rfl⟩:=Ct h1.pages.pages;simp only[World.cell?,h1.blk]at h;grind
theorem Le {E}{F}{w}(hE:Cl E w){size}{sv}{n}{cs}(h:Bp F size w sv n cs)(ht:0<n→∃(j:Nat) (s:Wd),cs[j]?=J (N s)):Bp (fun k=>k∉E) size w sv n cs:=
 Wa h.row (fun b aa cap _ h0 _ hc=>by
  obtain⟨j,s,hj⟩:=ht h0;exact Al3 hE (hc j _ hj)) (rfl:F=F)
theorem Mw {E}{F}{w}(hE:Cl E w){sv}{l}(h:IsL Cp F w sv l):IsL Cp (fun k=>k∉E) w sv l:=by
 obtain⟨cs,h1,h2⟩:=h;refine⟨cs,Le hE h1 fun h0=>?_,?_⟩
 ·cases l with
  |nil=>grind
  |cons x l=>
   obtain⟨c,rest,rfl,h3,_⟩:=h2;obtain rfl:=h3;exact⟨0,_,rfl⟩
 ·have:∀{l}{cs},All Cp F w l cs→All Cp (fun k=>k∉E) w l cs:=by
   intro l
   induction l with
   |nil=>intro cs h;exact h
   |cons x l ih=>
    rintro cs ⟨c,rest,h1,h2,h3⟩;exact⟨c,rest,h1,h2,ih h3⟩
  grind
theorem Ayu {E}{F}{w}(hE:Cl E w){sv}{l}(h:IsL Ci F w sv l):IsL Ci (fun k=>k∉E) w sv l:=by
 obtain⟨cs,h1,h2⟩:=h;refine⟨cs,Le hE h1 fun h0=>?_,?_⟩
 ·cases l with
  |nil=>grind
  |cons x l=>
   obtain⟨c,rest,rfl,⟨sv,rfl,_⟩,_⟩:=h2;exact⟨0,_,rfl⟩
 ·have:∀{l}{cs},All Ci F w l cs→All Ci (fun k=>k∉E) w l cs:=by
   intro l
   induction l with
   |nil=>intro cs h;exact h
   |cons x l ih=>
    rintro cs ⟨c,rest,h1,⟨sv,h4,h5⟩,h3⟩;exact⟨c,rest,h1,⟨sv,h4,Mw hE h5⟩,ih h3⟩
  grind
theorem Ayv {E}{F}{w}(hE:Cl E w){sv}{l}(h:IsL D6 F w sv l):IsL D6 (fun k=>k∉E) w sv l:=by
 obtain⟨cs,h1,h2⟩:=h;refine⟨cs,Le hE h1 fun h0=>?_,?_⟩
 ·cases l with
  |nil=>grind
  |cons x l=>
   obtain⟨c,rest,rfl,h3,_⟩:=h2;obtain rfl:=h3;exact⟨0,_,rfl⟩
 ·have:∀{l}{cs},All D6 F w l cs→All D6 (fun k=>k∉E) w l cs:=by
   intro l
   induction l with
   |nil=>intro cs h;exact h
   |cons x l ih=>
    rintro cs ⟨c,rest,h1,h2,h3⟩;exact⟨c,rest,h1,h2,ih h3⟩
  grind
theorem Al4 {E}{w}(hE:Cl E w){sv}{L:List Wd}(h:An w sv L):Bp (fun k=>k∉E) 1 w sv L.length (L.map N):=
 Wa h (fun b aa cap _ h0 _ hc=>by
  obtain⟨s,hs⟩:∃s,L[0]?=J s:=⟨_,aA h0⟩;exact Al3 hE (hc 0 (N s) (by grind))) (rfl:(fun _:Nat=>True)=fun _=>True)
theorem Aqf {E}{w}(hE:Cl E w):∀{rs:List (aQ×aQ)}{T:List Pg},Pgs w rs T→Kr (fun k=>k∉E) w rs T
 |[],[],_=>trivial
 |_::_,_::_,h=>⟨Al4 hE h.1,Al4 hE h.2.1,Aqf hE h.2.2⟩
def Keyed (F:PL):Prop:=∀x∈F,(0:UInt8)∈x.1.data.toList
theorem P8 {d}{F}(h:Has d F):Keyed F:=by
 intro x hx;obtain⟨t,_,r,_,hg⟩:=(h x).1 hx;rcases hg with rfl|⟨hk,_⟩
 ·simp only[rk,Jr];simp
 ·obtain⟨y,v,id,hk⟩:=Nb hk;rw[hk,Px];simp
theorem Ahn {F}{I}{t}{r}(h:Keyed F):Keyed (putRow F I t r):=by
 have step:∀(l) (F),Keyed F→(∀k∈l,(0:UInt8)∈k.data.toList)→Keyed (Ln F l):=by
  intro l
  induction l with
  |nil=>intro F h _;exact h
  |cons k l ih=>
   intro F h hl;refine ih _ (fun x hx=>?_) fun k hk=>hl k (by grind)
   rcases Abn.1 hx with e|⟨h1,_⟩
   ·grind
   ·exact h x h1
 refine step _ _ (fun x hx=>?_) fun k hk=>?_
 ·rcases Abn.1 hx with e|⟨h1,_⟩
  ·rw[e];simp only[rk,Jr];simp
  ·exact h x h1
 ·obtain⟨y,v,id,hk⟩:=Nb hk;rw[hk,Px];simp
theorem Ar4 {F}{I}{t}{r}(h:Keyed F):Keyed (Kf F I t r):=by
 intro x hx;unfold Kf at hx;rw[Vf]at hx;exact h x (Agx.1 hx.1).1
theorem Avh {E:List Nat}{w:aV}(hE:Cl E w){sv:aQ}{T:List Pg}(h:A8 w sv T)(hT:As T)(hk:Keyed (flat T)):Kd (fun k=>k∉E) w sv T:=by
 obtain⟨rows,h1,h2⟩:=h;refine⟨rows,Wa h1 (fun b ae cap _ h0 _ hc hb=>?_) (rfl:(fun _:Nat=>True)=fun _=>True),Aqf hE h2⟩;cases T with
 |nil=>simp at h0
 |cons p T=>
  cases rows with
  |nil=>exact h2.elim
  |cons r rows=>
   obtain⟨kv,vv⟩:=r;obtain⟨af,ag,_⟩:=h2;have hp:=hT.1 p (by simp);obtain⟨k,ac⟩:∃k,p.K[0]?=J k:=⟨_,aA hp.1⟩;obtain⟨v,ah⟩:∃v,p.V[0]?=J v:=⟨_,aA (by rw[hp.2.2];exact hp.1)⟩;have aa:(0:UInt8)∈k.data.toList:=by
    refine hk (k,v) (bY.2 ⟨p,by simp,?_⟩);refine aJ (i:=0) ?_;rw[List.getElem?_zip_eq_some];exact⟨ac,ah⟩
   obtain⟨b1,o1,c1,rfl,_,_,_,ai⟩:=af.at hp.1;obtain⟨b2,o2,c2,rfl,_,_,_,aj⟩:=ag.at (by rw[hp.2.2];exact hp.1);have a0:=hc 0 _ (show(A3 ((O (J ⟨b1,o1,M⟩) p.K.length c1,O (J ⟨b2,o2,M⟩) p.V.length c2)::rows))[0]?=J (O (J ⟨b1,o1,M⟩) p.K.length c1)from rfl);have a1:=hc 1 _ (show(A3 ((O (J ⟨b1,o1,M⟩) p.K.length c1,O (J ⟨b2,o2,M⟩) p.V.length c2)::rows))[1]?=J (O (J ⟨b2,o2,M⟩) p.V.length c2)from rfl);have kc:=ai 0 k ac;obtain⟨cc,T',a,tv,iv,pv,he,ad⟩:=hE b hb;obtain⟨ak,tc,rfl⟩:=he.tabs.shape;obtain⟨io,ic,rfl⟩:=he.idxs.shape;obtain⟨po,pc,rfl⟩:=Ct he.pages.pages;simp only[World.cell?,he.blk]at a0 a1
   match ae,a0,a1 with
   |0,a0,_=>
    obtain⟨e1,e2,_⟩:=cG (bG (show J _=J _ from a0));subst e1;obtain⟨t,ht⟩:∃t,cc.tables[0]?=J t:=⟨_,aA (by rw[e2];exact hp.1)⟩;obtain⟨b',o',cs,e,_,_,⟨sv,rfl,_⟩,ab⟩:=Av he.tabs ht;simp only[bB,cZ]at e;obtain⟨rfl,rfl,_⟩:=e;have:=ab 0 _ rfl;simp only[bE,bF]at this kc;rw[kc]at this;simp only[bB,bN]at this;rw[this]at aa;exact Mu ad (aJ ht) aa
   |1,a0,_=>
    obtain⟨e1,e2,_⟩:=cG (bG (show J _=J _ from a0));subst e1;obtain⟨x,hx⟩:∃x,cc.indexes[0]?=J x:=⟨_,aA (by rw[e2];exact hp.1)⟩;obtain⟨b',o',cs,e,_,_,hR,ab⟩:=Av he.idxs hx;obtain rfl:=hR;simp only[bB,cZ]at e;obtain⟨rfl,rfl,_⟩:=e;have:=ab 0 _ rfl;simp only[bE,bF]at this kc;rw[kc]at this;simp only[bB,bN]at this;rw[this]at aa;exact Ab3 ad (aJ hx) aa
   |2,_,a1=>grind
   |3,a0,_=>grind
   |o+4,a0,_=>grind
theorem Em {fn}{p:Tmp}{w0 w}{g}{a}{c0 c1 c2}{t}{fr}(v:V)(hr:fn.results=#[.cell p 59])(hp:a.tmps.getD p undef=aI (J ⟨g,0,M⟩))(hd:a.defers=[])
  (hg:w.heap[g]?=J (X #[c0,c1,c2] t fr)) (hb:Below w0.heap.size w0 w) (aa:w0.heap.size≤g):
  bodyPost aC fn (fun e w'=>e=aF v.val∧Below w0.heap.size w0 w') .ret a (((w.setCell ⟨g,0,M⟩ (D H v.k)).setCell ⟨g,1,M⟩ (D H v.n)).setCell ⟨g,2,M⟩ (N v.s)):=
 aG (results_cell_row hr a.tmps _ g t _ fr _ hp (set3 hg) Tryz.underlying59 rfl (by kernel_rfl)) hd ⟨rfl,((hb.setCell aa _).setCell aa _).setCell aa _⟩
theorem A1j (n):bits .and H n 1=n%2:=by
 show IntKind.i64.wrap ((cF 64 n&&&cF 64 1).toNat:Int)=_;have h1:(cF 64 1).toNat=1:=by decide
 rw[BitVec.toNat_and,h1,Nat.and_one_is_mod,BitVec.toNat_ofInt,bI];omega
theorem Uy (v)(w):Y aC 200 #[v.val] w fun e w'=>e=aF (D H (ofV v))∧Below w.heap.size w w':=by
 obtain⟨k,n,s⟩:=v;show Y _ 200 #[Q #[D _ k,D _ n,N s]] w _
 by_cases h:k=3
 all_goals
  go_enter Tryz.func200,Tryz.ntmps200;go_wp2;go_ret;refine⟨Au ?_,(aE _ _).alloc (aB _) _⟩;simp[ofV,h,A1j]
theorem Tf (n)(w):Y aC 347 #[D H n] w fun e w'=>e=aF (Fs n).val∧Below w.heap.size w w':=by
 by_cases h:n=0
 ·subst h;go_enter cH,cB;go_wp2;exact aG (v:=Q #[D _ 3,D _ 0,N noW]) (by simp[aX,go_sem]) rfl ⟨rfl,(aE _ _).alloc (aB _) _⟩
 by_cases h1:n=1
 ·subst h1;go_enter cH,cB;go_wp2;exact aG (v:=Q #[D _ 3,D _ 1,N noW]) (by simp[aX,go_sem]) rfl ⟨rfl,(aE _ _).alloc (aB _) _⟩
 have E:Hid (Fs n=zero):=by show _=_;simp[Fs,h,h1]
 have e1:(n !=0)=U:=by simpa using h
 have e2:(n !=1)=U:=by simpa using h1
 go_enter cH,cB;go_wp2;exact aG (v:=Q #[D H 0,D H 0,N noW]) (by simp[aX,go_sem]) rfl ⟨by rw[E.out];rfl,(aE _ _).alloc (aB _) _⟩
theorem Tu (b)(w):Y aC 349 #[.bool b] w fun e w'=>e=aF (whV b).val∧Below w.heap.size w w':=by
 cases b
 all_goals
  go_enter Tryz.func349,Tryz.ntmps349;go_wp2_with(go_at_call 347;refine(Tf _ _).mono ?_;rintro e w1 ⟨rfl,aa⟩;simp only[V.val];obtain⟨ab,ac⟩:=E5 aa);exact Em _ Tryz.results349 rfl rfl ((aa.block _ (by simp)).trans (Ab _ _)) (Ac ((aE _ _).alloc (aB _) _) aa) (aB _)
theorem Aa1 (n)(w):Y aC 369 #[D H n] w fun e w'=>e=aF (Qd n).val∧Below w.heap.size w w':=by
 have hg:=fun w=>Ml ⟨1,n,noW⟩ w (by simp[bA])
 have E:Hid (Qd n=if good _ then⟨1,n,noW⟩else zero):=rfl;generalize good _=b at hg E;cases b
 ·go_enter Tryz.func369,Tryz.ntmps369;go_wp2_with(go_at_call 223;refine(hg _).mono ?_;rintro e w1 ⟨rfl,rfl⟩);rw[E.out];exact aG (v:=Q #[D _ 0,D _ 0,N noW]) (by simp[aX,go_sem]) rfl ⟨rfl,(((aE _ _).alloc (aB _) _).alloc (by simp) _).alloc (by simp;omega) _⟩
 ·go_enter Tryz.func369,Tryz.ntmps369;go_wp2_with(go_at_call 223;refine(hg _).mono ?_;rintro e w1 ⟨rfl,rfl⟩);rw[E.out];exact aG (v:=Q _) (by simp[aX,go_sem]) rfl ⟨rfl,(((aE _ _).alloc (aB _) _).alloc (by simp) _).alloc (by simp;omega) _⟩
theorem Aho (v)(w)(hs:v.s.size≤Z):Y aC 352 #[v.val] w fun e w'=>e=aF (.bool (Hf v))∧Below w.heap.size w w':=by
 have hg:=fun w=>Ml v w hs
 have E:Hid (Hf v=(!decide _&&good v)):=rfl;generalize good v=b at hg E;generalize Hf v=r at E;clear hs;obtain⟨k,n,s⟩:=v;simp only[V.val]at hg⊢
 by_cases h:k=0
 ·subst h;go_enter Tryz.func352,Tryz.ntmps352;go_wp2;go_ret;exact⟨Ah (by rw[E.out];rfl),(aE _ _).alloc (aB _) _⟩
 ·have h1:(k !=0)=U:=by simpa using h
  go_enter Tryz.func352,Tryz.ntmps352;go_wp2_with(go_at_call 223;refine(hg _).mono ?_;rintro e w1 ⟨rfl,rfl⟩);go_ret;exact⟨Ah (by rw[E.out];grind),((aE _ _).alloc (aB _) _).alloc (by simp) _⟩
theorem Ayw (op):(L0 op:Int)=if op=9∨op=10 then 1 else if 3≤op∧op≤8 then 2 else 0:=by
 unfold L0;grind
theorem Qg (op)(w):Y aC 308 #[D H op] w fun e w'=>e=aF (D H (L0 op:Int))∧w'=w:=by
 by_cases h9:op=9<;>by_cases aa:op=10<;>by_cases h3:op=3<;>by_cases h4:op=4<;>by_cases h5:op=5<;>by_cases h6:op=6<;>by_cases h7:op=7<;>by_cases h8:op=8
 all_goals(try omega)
 all_goals
  have E:Hid _:=Ayw op;go_enter Tryz.func308,Tryz.ntmps308;go_wp2;go_ret;refine⟨Au ?_,rfl⟩;rw[E.out];omega
theorem Ai7 (op)(x)(s name)(n)(ao)(k c)(w):
  Y aC 249 #[Q (Af op x s name n (O ao k c))] w fun e w'=>e=aF (if k=L0 op then O ao k c else O M 0 0)∧Below w.heap.size w w':=by
 obtain⟨xk,xn,xs⟩:=x
 by_cases h:k=L0 op
 ·have h1:(k !=(L0 op:Int))=bL:=by rw[h];simp
  rw[if_pos h];clear h;go_enter Tryz.func249,Tryz.ntmps249;go_wp2
  go_region_held3(fun w'=>w'.cell? ⟨w.heap.size,0,M⟩=J (D H op)∧w'.cell? ⟨w.heap.size,7,M⟩=J (O ao k c)) (go_keep)
   (first|(go_at_call 308;refine(Qg _ _).mono ?_;rintro e w' ⟨rfl,rfl⟩))
  go_wp2;go_ret;refine⟨rfl,?_⟩
  repeat first|exact aE _ _|apply Below.drew|refine Below.alloc ?_ (by simp) _
 ·have h1:(k !=(L0 op:Int))=U:=by simp;omega
  rw[if_neg h];clear h;go_enter Tryz.func249,Tryz.ntmps249;go_wp2
  go_region_held3(fun w'=>w'.cell? ⟨w.heap.size,0,M⟩=J (D H op)∧w'.cell? ⟨w.heap.size,7,M⟩=J (O ao k c)) (go_keep)
   (first|(go_at_call 308;refine(Qg _ _).mono ?_;rintro e w' ⟨rfl,rfl⟩))
  go_wp2;go_ret;refine⟨rfl,?_⟩
  repeat first|exact aE _ _|apply Below.drew|refine Below.alloc ?_ (by simp) _
def Zx (C:Nat)(w:aV)(e:E)(p:aQ):Prop:=
 ∃(b o:Nat) (op xk xn:Int) (xs s name:Wd) (n:Int) (ao:Option Addr) (c:Nat) (l:List E),p=aI (J ⟨b,o,M⟩)∧b<C∧e=.mk op ⟨xk,xn,xs⟩ s name n l∧
  (w.cell? ⟨b,o,M⟩=J (D H op)∧w.cell? ⟨b,o+1,M⟩=J (D H xk)∧w.cell? ⟨b,o+2,M⟩=J (D H xn)∧w.cell? ⟨b,o+3,M⟩=J (N xs)∧w.cell? ⟨b,o+4,M⟩=J (N s)∧w.cell? ⟨b,o+5,M⟩=J (N name)∧w.cell? ⟨b,o+6,M⟩=J (D H n)∧w.cell? ⟨b,o+7,M⟩=J (O ao l.length c))∧
  Iz (fun k=>k<C) w (O ao l.length c) l
theorem Zx.keep {C}{w w'}{e}{p}(h:Zx C w e p)(hb:Below C w w'):Zx C w' e p:=by
 obtain⟨b,o,op,xk,xn,xs,s,name,n,ao,c,l,h1,h2,h3,⟨c0,c1,c2,c3,c4,c5,c6,c7⟩,h4⟩:=h;have g:=fun o=>hb.cell (p:=⟨b,o,M⟩) h2
 exact⟨b,o,op,xk,xn,xs,s,name,n,ao,c,l,h1,h2,h3,⟨(g _).trans c0,(g _).trans c1,(g _).trans c2,(g _).trans c3,(g _).trans c4,(g _).trans c5,(g _).trans c6,(g _).trans c7⟩,h4.keep (Ae hb)⟩
def Ab6 (C:Nat)(w:aV)(L:List E)(P:List aQ):Prop:=∀(i:Nat) (e:E),L[i]?=J e→∃p,P[i]?=J p∧Zx C w e p
theorem Ab6.keep {C}{w w'}{L}{P}(h:Ab6 C w L P)(hb:Below C w w'):Ab6 C w' L P:=fun i e hi=>by
 obtain⟨p,h1,h2⟩:=h i e hi;exact⟨p,h1,h2.keep hb⟩
theorem Ab6.snoc {C}{w}{L}{P}(h:Ab6 C w L P)(hl:P.length=L.length){e}{p}(hp:Zx C w e p):Ab6 C w (L++[e]) (P++[p]):=fun i x hi=>by
 rcases Nat.lt_trichotomy i L.length with h1|h1|h1
 ·rw[List.getElem?_append_left h1]at hi;obtain⟨q,h2,h3⟩:=h i x hi;grind
 ·grind
 grind
theorem Ayx {C}{w}{b off cap}{l}(h:Iz (fun k=>k<C) w (O (J ⟨b,off,M⟩) l.length cap) l){k}{e}(hk:l[k]?=J e):Zx C w e (aI (J ⟨b,off+k*8,M⟩)):=by
 obtain⟨cs,hr,ha⟩:=h;obtain⟨xo,xk,xn,aa,xs,xm,xi,xa,xl,xc,he,hc⟩:=Ajv hr ha hk;have h0:0<l.length:=by have:=(aO.1 hk).1;omega
 have hb:b<C:=by
  rcases hr.2 with⟨h1,_⟩|⟨_,b',o',c',hh,hF,_⟩
  ·omega
  ·grind
 cases e with
 |mk op x s name n l'=>
  obtain⟨sv,h1,h2⟩:=he.open;obtain⟨ao,c,rfl⟩:=h2.shape;obtain⟨yk,yn,ys⟩:=x;simp only[Value.agg.injEq,Array.mk.injEq,aN,cM,bN,Value.slice.injEq,true_and,and_true]at h1;obtain⟨rfl,rfl,rfl,rfl,rfl,rfl,rfl,rfl,rfl,rfl⟩:=h1;exact⟨b,_,xo,xk,xn,aa,xs,xm,xi,xa,xc,l',rfl,hb,rfl,hc w (aE _ _),h2⟩
theorem Pd {C}(op)(x)(s name)(n)(ao)(c)(l)(w)(h:Iz (fun k=>k<C) w (O ao l.length c) l)(hC:C≤w.heap.size):
  Y aC 249 #[Q (Af op x s name n (O ao l.length c))] w fun e w'=>∃ko kc,e=aF (O ko (D4 op l).length kc)∧Iz (fun k=>k<C) w' (O ko (D4 op l).length kc) (D4 op l)∧Below w.heap.size w w':=by
 refine(Ai7 op x s name n ao _ c w).mono ?_;rintro e w' ⟨rfl,hb⟩;unfold D4;split
 ·exact⟨ao,c,rfl,h.keep (Ae (hb.mono hC)),hb⟩
 ·exact⟨M,0,rfl,Iz.nil _ _,hb⟩
theorem Ayy:(Tryz.prog.info? 344).map (fun i=>(i.zero,i.size,i.bytes))=J (J (aI M),1,8):=by kernel_rfl
theorem Ar5 {α:Type}{L:List α}{i}{x}(h:L[i]?=J x):L.take (i+1)=L.take i++[x]:=by rw[bU,h];rfl
theorem Z6 (e:E)(v:aQ)(C:Nat)(w:aV)(he:IsE (fun k=>k<C) w e v)(hC:C≤w.heap.size)(hn:e.nodes≤16777216):
  Y aC 307 #[v] w fun r w'=>∃zv L P,r=aF zv∧Eu 1 w' zv L.length P∧Ab6 (w.heap.size+1) w' L P∧Queue e L L.length∧Below w.heap.size w w'∧w.heap.size+1≤w'.heap.size:=by
 obtain⟨i0,hi,ax,ay,az⟩:=info_parts Ayy;have H0:∃op xk xn xs s name n ao c l,e=.mk op ⟨xk,xn,xs⟩ s name n l∧v=Q (Af op ⟨xk,xn,xs⟩ s name n (O ao l.length c))∧Iz (fun k=>k<C) w (O ao l.length c) l:=by
  cases e with
  |mk op x s name n l=>
   obtain⟨sv,h1,h2⟩:=he.open;obtain⟨ao,c,rfl⟩:=h2.shape;grind
 obtain⟨op,xk,xn,xs,s,name,n,ao,c,l,rfl,rfl,ag⟩:=H0;clear he;have ap:Below w.heap.size w (w.alloc (X (Af op ⟨xk,xn,xs⟩ s name n (O ao l.length c)) 69)):=(aE _ _).alloc (aB _) _;have ai:Below w.heap.size w ((w.alloc (X (Af op ⟨xk,xn,xs⟩ s name n (O ao l.length c)) 69)).alloc (X #[aI (J ⟨w.heap.size,0,M⟩)] 344)):=ap.alloc (by simp) _;have aj:Zx (w.heap.size+1) ((w.alloc (X (Af op ⟨xk,xn,xs⟩ s name n (O ao l.length c)) 69)).alloc (X #[aI (J ⟨w.heap.size,0,M⟩)] 344)) (.mk op ⟨xk,xn,xs⟩ s name n l) (aI (J ⟨w.heap.size,0,M⟩)):=by
  have ab:((w.alloc (X (Af op ⟨xk,xn,xs⟩ s name n (O ao l.length c)) 69)).alloc (X #[aI (J ⟨w.heap.size,0,M⟩)] 344)).heap[w.heap.size]?=J (X (Af op ⟨xk,xn,xs⟩ s name n (O ao l.length c)) 69):=Ad (Ab w _) _;refine⟨w.heap.size,0,op,xk,xn,xs,s,name,n,ao,c,l,rfl,by omega,rfl,⟨Aa ab rfl,Aa ab rfl,Aa ab rfl,Aa ab rfl,Aa ab rfl,Aa ab rfl,Aa ab rfl,Aa ab rfl⟩,?_⟩;exact(ag.keep (Ae (ai.mono hC))).mono fun k _ hk=>by omega
 have aq:((w.alloc (X (Af op ⟨xk,xn,xs⟩ s name n (O ao l.length c)) 69)).alloc (X #[aI (J ⟨w.heap.size,0,M⟩)] 344)).ownsRow (w.heap.size+1) 344 1 (O (J ⟨w.heap.size+1,0,M⟩) 1 1) 1 [aI (J ⟨w.heap.size,0,M⟩)]:=by
  refine⟨rfl,.inr ⟨w.heap.size+1,1,#[aI (J ⟨w.heap.size,0,M⟩)],rfl,aB _,?_,aB _,by decide,rfl,rfl⟩⟩;have:=Ab (w.alloc (X (Af op ⟨xk,xn,xs⟩ s name n (O ao l.length c)) 69)) (X #[aI (J ⟨w.heap.size,0,M⟩)] 344);rwa[cT]at this
 have HQ:=Aon (.mk op ⟨xk,xn,xs⟩ s name n l);generalize hE:E.mk op ⟨xk,xn,xs⟩ s name n l=e at aj HQ hn⊢;clear hE;go_enter Tryz.func307,Tryz.ntmps307;go_wp2
 go_loopw[3,4] (fun z i wr=>∃(j:Nat) (L:List E) (P:List aQ),i=D H j∧wr.ownsRow (w.heap.size+1) 344 1 z L.length P∧Hid (Queue e L j)∧Ab6 (w.heap.size+1) wr L P∧Below w.heap.size w wr∧w.heap.size+1≤wr.heap.size) (fun _ i _=>e.nodes-(bT i).toNat)
 case atStart=>exact⟨0,[e],[aI (J ⟨w.heap.size,0,M⟩)],rfl,aq,HQ,fun i x hi=>by
   match i,hi with
   |0,hi=>simp at hi;subst hi;exact⟨_,rfl,aj⟩
   |i+1,hi=>simp at hi,ai,by simp⟩
 case round=>
  obtain⟨j,L,P,rfl,aa,ae,hP,ad,ac⟩:=hrel;have ah:=Eu.of_own aa;have bo:=ae.out.len;have bp:P.length=L.length:=by have:=aa.1;omega
  by_cases ba:j<L.length
  ·obtain⟨x,hx⟩:∃x,L[j]?=J x:=⟨_,aA ba⟩;obtain⟨p,hp,ak⟩:=hP j x hx;obtain⟨b,o,op,xk,xn,xs,s,name,n,ao,c,l,rfl,bb,rfl,⟨c0,c1,c2,c3,c4,c5,c6,c7⟩,ag⟩:=ak;have HX:Hid (L[j]?=J (.mk op ⟨xk,xn,xs⟩ s name n l)):=hx;clear hx;rcases ah.2 with⟨h1,_⟩|⟨_,zb,zo,zc,rfl,_,_,_,h3⟩
   ·omega
   have bc:=h3 j _ hp;clear h3;have j0:(0:Int)≤(j:Int):=by omega
   have j1:(j:Int)<(L.length:Int):=by omega
   have ha:=Pd op ⟨xk,xn,xs⟩ s name n ao c l wr ag ac;clear hp;go_wp2_with(first|(refine ha.mono ?_;rintro e1 w1 ⟨ko,kc,rfl,ar,af⟩));have bd:Below w.heap.size w w1:=ad.trans (af.mono ad.size);have be:w.heap.size+1≤w1.heap.size:=aD ac af.size;have bf:=Aj aa af;have bg:=hP.keep (af.mono ac);have bh:(D4 op l).length≤2:=Ap5 (.mk op ⟨xk,xn,xs⟩ s name n l);have HS:Hid (Queue e (L++D4 op l) (j+1)):=ae.out.step HX.out;have au:(L++D4 op l).length≤e.nodes:=HS.out.len;rw[aU]at au;clear aa hP ag ha af ad ac HX ae c0 c1 c2 c3 c4 c5 c6 c7 ah bc ap ai aq aj HQ bb;generalize D4 op l=K at ar HS au bh
   go_loopw[3,23] (fun z k wr=>∃(m:Nat) (P':List aQ),m≤K.length∧k=D H m∧wr.ownsRow (w.heap.size+1) 344 1 z (L++K.take m).length P'∧Ab6 (w.heap.size+1) wr (L++K.take m) P'∧Below w.heap.size w wr∧w.heap.size+1≤wr.heap.size∧Iz (fun k=>k<w.heap.size+1) wr (O ko K.length kc) K) (fun _ k _=>K.length-(bT k).toNat)
   case atStart=>exact⟨0,P,bK _,rfl,by simpa using bf,by simpa using bg,bd,be,ar⟩
   case round=>
    obtain⟨m,P',hm,rfl,aa,hP,ad,ac,hk⟩:=hrel;have bi:Hid (P'.length=(L++K.take m).length):=by show _=_;have:=aa.1;omega
    have al:Hid ((L++K.take m).length=L.length+m):=by show _=_;rw[aU,List.length_take,Nat.min_eq_left hm]
    rw[al.out]at aa
    by_cases bj:m<K.length
    ·obtain⟨y,hy⟩:∃y,K[m]?=J y:=⟨_,aA bj⟩;obtain⟨kb,kf,rfl⟩:∃kb kf,ko=J ⟨kb,kf,M⟩:=by
      obtain⟨cs,hr,_⟩:=hk;rcases hr.2 with⟨h1,_⟩|⟨_,kb,kf,kc',h2,_⟩
      ·omega
      grind
     have ak:=Ayx hk hy;have HY:Hid (L++K.take (m+1)=(L++K.take m)++[y]):=by show _=_;rw[Ar5 hy,cW]
     have m0:(0:Int)≤m:=by omega
     have m1:m<(K.length:Int):=by omega
     obtain⟨zo,zc,rfl⟩:=(Eu.of_own aa).shape;have av:=aa.alloc (X #[aI (J ⟨kb,kf+m*8,M⟩)] 344);have bk:Below _ wr (wr.alloc (X #[aI (J ⟨kb,kf+m*8,M⟩)] 344)):=(aE _ _).alloc ac _;have am:w.heap.size+1≤(wr.alloc (X #[aI (J ⟨kb,kf+m*8,M⟩)] 344)).heap.size:=by rw[cT];omega
     clear hy;go_wp2_with(at_builtin;go_must(refine wpList_append_own _ rfl _ _ 342 rfl _ 344 i0 _ 1 8 Tryz.underlying342 hi ax ay az rfl (by simp) _ _ _ rfl av _ 1 1 _ rfl rfl (B8 wr [.pointer (J ⟨kb,kf+m*8,M⟩)] 344) (by simp;rfl) (by simp only[Z];omega) (by omega) am ?_));intro z2 w2 bl bm _;have aw:=Gx av am bm;have an:=bk.trans aw;go_wp2;go_roundw
     case rel=>
      refine⟨m+1,P'++[aI (J ⟨kb,kf+m*8,M⟩)],by omega,by rfl,?_,?_,ad.trans (an.mono (by omega)),aD am aw.size,hk.keep (Ae an)⟩
      ·rw[HY.out,aU,al.out];exact bl
      ·rw[HY.out];exact(hP.snoc bi.out ak).keep an
     case measure=>simp[bT];omega
    ·have bn:m=K.length:=by omega
     subst bn;rw[←al.out,bX]at aa;rw[bX]at hP;go_wp2;go_roundw
     case rel=>grind
     case measure=>simp[bT];omega
  ·obtain⟨zo,zc,rfl⟩:=ah.shape;have bq:=ae.out.le;have hj:j=L.length:=by omega
   subst hj;go_wp2;go_ret;exact⟨_,L,P,rfl,ah,hP,ae.out,ad,ac⟩
theorem Ar6 (op:Int)(x:V)(s name:Wd)(n:Int)(sv rv:aQ)(row:List V)(w:aV)(hr:Cq w rv row)(hn:row.length≤Z)(aa:∃ao k c,sv=O ao k c):
  Y aC 311 #[Q (Af op x s name n sv),rv] w fun e w'=>e=aF (Je op x n row).val∧Below w.heap.size w w':=by
 obtain⟨ao,k,c,rfl⟩:=aa
 by_cases h1:op=1
 ·subst h1;obtain⟨ro,rc,rfl⟩:=hr.shape;obtain⟨xk,xn,xs⟩:=x;go_enter bO,bJ;go_wp2;exact aG (v:=Q #[D H xk,D H xn,N xs]) (by simp[aX,Tryz.results311,go_sem]) rfl ⟨rfl,((aE _ _).alloc (aB _) _).alloc (by simp) _⟩
 by_cases h2:op=2
 ·subst h2
  by_cases h0:0≤n
  ·obtain⟨m,rfl⟩:∃m:Nat,n=m:=⟨n.toNat,by omega⟩
   by_cases hm:m<row.length
   ·obtain⟨v,hv⟩:∃v,row[m]?=J v:=⟨_,aA hm⟩;have E:Hid (Je 2 x m row=v):=by show _=_;simp[Je,Mq,hv]
    rcases hr with⟨_,rfl⟩|⟨b,off,cap,rfl,hb,hh⟩
    ·simp at hm
    obtain⟨c0,c1,c2⟩:=hh m v hv;clear hh hv;obtain⟨vk,vn,vs⟩:=v;obtain⟨xk,xn,xs⟩:=x;go_enter bO,bJ;go_wp2;rw[E.out];exact aG (v:=Q _) (by simp[aX,go_sem]) rfl ⟨rfl,((aE _ _).alloc (aB _) _).alloc (by simp) _⟩
   ·have E:Hid (Je 2 x m row=zero):=by show _=_;simp[Je,Mq,cL (by omega:row.length≤m)]
    obtain⟨ro,rc,rfl⟩:=hr.shape;obtain⟨xk,xn,xs⟩:=x;go_enter bO,bJ;go_wp2;rw[E.out];exact aG (v:=Q #[D _ 0,D _ 0,N noW]) (by simp[aX,go_sem]) rfl ⟨rfl,((aE _ _).alloc (aB _) _).alloc (by simp) _⟩
  ·have E:Hid (Je 2 x n row=zero):=by show _=_;simp[Je,Mq,h0]
   obtain⟨ro,rc,rfl⟩:=hr.shape;obtain⟨xk,xn,xs⟩:=x;go_enter bO,bJ;go_wp2;rw[E.out];exact aG (v:=Q #[D _ 0,D _ 0,N noW]) (by simp[aX,go_sem]) rfl ⟨rfl,((aE _ _).alloc (aB _) _).alloc (by simp) _⟩
 have E:Hid (Je op x n row=zero):=by show _=_;simp[Je,h1,h2]
 obtain⟨ro,rc,rfl⟩:=hr.shape;obtain⟨xk,xn,xs⟩:=x;go_enter bO,bJ;go_wp2;rw[E.out];exact aG (v:=Q #[D _ 0,D _ 0,N noW]) (by simp[aX,go_sem]) rfl ⟨rfl,((aE _ _).alloc (aB _) _).alloc (by simp) _⟩
theorem Avi (op)(a)(w):Y aC 309 #[D H op,a.val] w fun e w'=>e=aF (Mr op a).val∧Below w.heap.size w w':=by
 have ho:=fun w=>Uy a w
 by_cases h9:op=9
 ·subst h9;have E:Hid (Mr 9 a=Fs _):=rfl;generalize ofV a=o at E ho;generalize Mr 9 a=r at E;obtain⟨k,n,s⟩:=a;simp only[V.val]at ho;show Y _ 309 #[D _ 9,Q #[D _ k,D _ n,N s]] w _;go_enter cI,cC;go_wp2_with(first|(refine(ho _).mono ?_;rintro e w1 ⟨rfl,ab⟩)|(refine(A06 _ _).mono ?_;rintro e w2 ⟨rfl,rfl⟩)|(refine(Tf _ _).mono ?_;rintro e w3 ⟨rfl,aa⟩;simp only[V.val];obtain⟨ad,ae⟩:=E5 (Ac ab aa)));rw[E.out];exact Em _ dA rfl rfl (((Ac ab aa).block _ (by simp)).trans (Ca _ _ _)) (Ac (Da _ _ _) (Ac ab aa)) (Nat.le_succ _)
 by_cases ac:op=10
 ·subst ac;have E:Hid (Mr 10 a=whV _):=rfl;generalize Mr 10 a=r at E;clear ho;obtain⟨k,n,s⟩:=a;show Y _ 309 #[D _ 10,Q #[D _ k,D _ n,N s]] w _;go_enter cI,cC;go_wp2_with(first|(refine(Tu _ _).mono ?_;rintro e w3 ⟨rfl,aa⟩;simp only[V.val];obtain⟨ad,ae⟩:=E5 aa));rw[E.out];exact Em _ dA rfl rfl ((aa.block _ (by simp)).trans (Ca _ _ _)) (Ac (Da _ _ _) aa) (Nat.le_succ _)
 have E:Hid (Mr op a=zero):=by show _=_;simp[Mr,h9,ac]
 generalize Mr op a=r at E;clear ho;obtain⟨k,n,s⟩:=a;show Y _ 309 #[D _ op,Q #[D _ k,D _ n,N s]] w _;go_enter cI,cC;go_wp2;rw[E.out];exact aG (v:=Q #[D _ 0,D _ 0,N noW]) (by simp[aX,go_sem]) rfl ⟨rfl,Da _ _ _⟩
theorem Ayz {a b}(h1:-1000000≤a)(h2:a≤1000000)(h3:-1000000≤b)(h4:b≤1000000):IntKind.i64.wrap (a+b)=a+b∧IntKind.i64.wrap (a-b)=a-b:=by
 rw[bI,bI];omega
theorem Aos (op:Int)(a b:V)(w:aV)(ha:Hf a=U)(hb:Hf b=U)(hk:a.k=b.k):Y aC 353 #[D H op,a.val,b.val] w fun e w'=>e=aF (knV op a b).val∧Below w.heap.size w w':=by
 have hc:=fun w=>Anc a b w
 by_cases h5:op=5
 ·subst h5;have E:Hid (knV 5 a b=whV _):=rfl;generalize Bs a b=c at E hc;generalize knV 5 a b=r at E;clear ha hb hk;obtain⟨k,n,s⟩:=a;obtain⟨k',n',s'⟩:=b;simp only[V.val]at hc;show Y aC 353 #[D H 5,Q #[D H k,D H n,N s],Q #[D H k',D H n',N s']] w _;go_enter bC,aY;go_wp2_with(first|(refine(hc _).mono ?_;rintro e w1 ⟨rfl,ab⟩)|(refine(Tu _ _).mono ?_;rintro e w3 ⟨rfl,aa⟩;simp only[V.val];obtain⟨ac,ad⟩:=E5 (Ac ab aa)));rw[E.out];exact Em _ bP rfl rfl (((Ac ab aa).block _ (by simp)).trans (Fe _ _ _ _)) (Ac (Hx _ _ _ _) (Ac ab aa)) (by omega)
 by_cases h6:op=6
 ·subst h6;have E:Hid (knV 6 a b=whV _):=rfl;generalize Bs a b=c at E hc;generalize knV 6 a b=r at E;clear ha hb hk;obtain⟨k,n,s⟩:=a;obtain⟨k',n',s'⟩:=b;simp only[V.val]at hc;show Y aC 353 #[D H 6,Q #[D H k,D H n,N s],Q #[D H k',D H n',N s']] w _;go_enter bC,aY;go_wp2_with(first|(refine(hc _).mono ?_;rintro e w1 ⟨rfl,ab⟩)|(refine(Tu _ _).mono ?_;rintro e w3 ⟨rfl,aa⟩;simp only[V.val];obtain⟨ac,ad⟩:=E5 (Ac ab aa)));rw[E.out];exact Em _ bP rfl rfl (((Ac ab aa).block _ (by simp)).trans (Fe _ _ _ _)) (Ac (Hx _ _ _ _) (Ac ab aa)) (by omega)
 clear hc
 by_cases h1:a.k=1
 ·have hn:-1000000≤a.n∧a.n≤1000000:=by have:=ha;simp[Hf,good,h1]at this;exact⟨this.1.1,this.1.2⟩
  have ae:-1000000≤b.n∧b.n≤1000000:=by have:=hb;rw[h1]at hk;simp[Hf,good,←hk]at this;exact⟨this.1.1,this.1.2⟩
  obtain⟨e1,e2⟩:=Ayz hn.1 hn.2 ae.1 ae.2;clear hn ae ha hb hk
  by_cases h3:op=3
  ·subst h3;have E:Hid (knV 3 a b=Qd (a.n+b.n)):=by show _=_;simp[knV,h1]
   generalize knV 3 a b=r at E;obtain⟨k,n,s⟩:=a;obtain⟨k',n',s'⟩:=b;simp only at h1 e1 e2;subst h1;show Y _ 353 #[D _ 3,Q #[D _ 1,D _ n,N s],Q #[D _ k',D _ n',N s']] w _;go_enter bC,aY;go_wp2_with(first|(refine(Aa1 _ _).mono ?_;rintro e w3 ⟨rfl,aa⟩;simp only[V.val];obtain⟨ac,ad⟩:=E5 aa));rw[E.out];exact Em _ bP rfl rfl ((aa.block _ (by simp)).trans (Fe _ _ _ _)) (Ac (Hx _ _ _ _) aa) (by omega)
  by_cases h4:op=4
  ·subst h4;have E:Hid (knV 4 a b=Qd (a.n-b.n)):=by show _=_;simp[knV,h1]
   generalize knV 4 a b=r at E;obtain⟨k,n,s⟩:=a;obtain⟨k',n',s'⟩:=b;simp only at h1 e1 e2;subst h1;show Y _ 353 #[D _ 4,Q #[D _ 1,D _ n,N s],Q #[D _ k',D _ n',N s']] w _;go_enter bC,aY;go_wp2_with(first|(refine(Aa1 _ _).mono ?_;rintro e w3 ⟨rfl,aa⟩;simp only[V.val];obtain⟨ac,ad⟩:=E5 aa));rw[E.out];exact Em _ bP rfl rfl ((aa.block _ (by simp)).trans (Fe _ _ _ _)) (Ac (Hx _ _ _ _) aa) (by omega)
  have E:Hid (knV op a b=zero):=by show _=_;simp[knV,h3,h4,h5,h6]
  generalize knV op a b=r at E;obtain⟨k,n,s⟩:=a;obtain⟨k',n',s'⟩:=b;simp only at h1;subst h1;show Y _ 353 #[D _ op,Q #[D _ 1,D _ n,N s],Q #[D _ k',D _ n',N s']] w _;go_enter bC,aY;go_wp2;rw[E.out];exact aG (v:=Q #[D _ 0,D _ 0,N noW]) (by simp[aX,go_sem]) rfl ⟨rfl,Hx _ _ _ _⟩
 have E:Hid (knV op a b=zero):=by show _=_;simp[knV,h1,h5,h6]
 generalize knV op a b=r at E;clear ha hb hk;obtain⟨k,n,s⟩:=a;obtain⟨k',n',s'⟩:=b;simp only at h1;have af:(k !=1)=U:=by simpa using h1
 show Y _ 353 #[D _ op,Q #[D _ k,D _ n,N s],Q #[D _ k',D _ n',N s']] w _;go_enter bC,aY;go_wp2;rw[E.out];exact aG (v:=Q #[D _ 0,D _ 0,N noW]) (by simp[aX,go_sem]) rfl ⟨rfl,Hx _ _ _ _⟩
theorem Avj (a b:V)(w:aV):Y aC 310 #[D H 7,a.val,b.val] w fun e w'=>e=aF (Hr 7 a b).val∧Below w.heap.size w w':=by
 have ho:=fun w=>Uy a w
 have aa:=fun w=>Uy b w
 have E:Hid (Hr 7 a b=Fs (V9 (ofV a) (ofV b))):=rfl;generalize ofV a=o at E ho;generalize ofV b=o' at E aa;generalize Hr 7 a b=r at E;obtain⟨k,n,s⟩:=a;obtain⟨k',n',s'⟩:=b;simp only[V.val]at ho aa;show Y aC 310 #[D H 7,Q #[D H k,D H n,N s],Q #[D H k',D H n',N s']] w _;go_enter bD,aZ;go_wp2_with fail
 go_region_held3(fun w'=>w'.cell? ⟨w.heap.size,0,M⟩=J (D H k)∧w'.cell? ⟨w.heap.size,1,M⟩=J (D H n)∧w'.cell? ⟨w.heap.size,2,M⟩=J (N s)∧w'.cell? ⟨w.heap.size+1,0,M⟩=J (D H k')∧w'.cell? ⟨w.heap.size+1,1,M⟩=J (D H n')∧w'.cell? ⟨w.heap.size+1,2,M⟩=J (N s')) (first|(go_keep;done)|((try dsimp only);(repeat' apply bM)<;>(rw[A1 (by omega),A1 (by omega),A1 (by omega)];first|assumption|go_keep|simp_all)))
  (first|(go_at_call_of 200 (aK #[D H k,D H n,N s]);refine(ho _).mono ?_;rintro e w1 ⟨rfl,ab⟩;obtain⟨z1,q1,r1,s1,t1⟩:=Jb ab (g:=w.heap.size) (by first|(simp;done)|assumption|(simp;omega)|omega))|(go_at_call_of 200 (aK #[D H k',D H n',N s']);refine(aa _).mono ?_;rintro e w2 ⟨rfl,ac⟩;obtain⟨z2,q2,r2,s2,t2⟩:=Jb ac (g:=w.heap.size) (by first|(simp;done)|assumption|(simp;omega)|omega))|(go_at_call 350;refine(A05 _ _ _).mono ?_;rintro e w' ⟨rfl,rfl⟩)|(go_at_call 347;refine(Tf _ _).mono ?_;rintro e w3 ⟨rfl,ad⟩;simp only[V.val];obtain⟨z3,q3,r3,s3,t3⟩:=Jb ad (g:=w.heap.size) (by first|(simp;done)|assumption|(simp;omega)|omega)))
 go_wp2;rw[E.out];exact Em _ aS rfl rfl (((Ac ab (Ac ac ad)).block _ (by simp)).trans (Fe _ _ _ _)) (Ac (Hx _ _ _ _).drew (Ac ab (Ac ac ad))) (by omega)
theorem Ay0 (a b:V)(w:aV):Y aC 310 #[D H 8,a.val,b.val] w fun e w'=>e=aF (Hr 8 a b).val∧Below w.heap.size w w':=by
 have ho:=fun w=>Uy a w
 have aa:=fun w=>Uy b w
 have E:Hid (Hr 8 a b=Fs (tOr (ofV a) (ofV b))):=rfl;generalize ofV a=o at E ho;generalize ofV b=o' at E aa;generalize Hr 8 a b=r at E;obtain⟨k,n,s⟩:=a;obtain⟨k',n',s'⟩:=b;simp only[V.val]at ho aa;show Y aC 310 #[D H 8,Q #[D H k,D H n,N s],Q #[D H k',D H n',N s']] w _;go_enter bD,aZ;go_wp2_with fail
 go_region_held3(fun w'=>w'.cell? ⟨w.heap.size,0,M⟩=J (D H k)∧w'.cell? ⟨w.heap.size,1,M⟩=J (D H n)∧w'.cell? ⟨w.heap.size,2,M⟩=J (N s)∧w'.cell? ⟨w.heap.size+1,0,M⟩=J (D H k')∧w'.cell? ⟨w.heap.size+1,1,M⟩=J (D H n')∧w'.cell? ⟨w.heap.size+1,2,M⟩=J (N s')) (first|(go_keep;done)|((try dsimp only);(repeat' apply bM)<;>(rw[A1 (by omega),A1 (by omega),A1 (by omega)];first|assumption|go_keep|simp_all)))
  (first|(go_at_call_of 200 (aK #[D H k,D H n,N s]);refine(ho _).mono ?_;rintro e w1 ⟨rfl,ab⟩;obtain⟨z1,q1,r1,s1,t1⟩:=Jb ab (g:=w.heap.size) (by first|(simp;done)|assumption|(simp;omega)|omega))|(go_at_call_of 200 (aK #[D H k',D H n',N s']);refine(aa _).mono ?_;rintro e w2 ⟨rfl,ac⟩;obtain⟨z2,q2,r2,s2,t2⟩:=Jb ac (g:=w.heap.size) (by first|(simp;done)|assumption|(simp;omega)|omega))|(go_at_call 351;refine(A27 _ _ _).mono ?_;rintro e w' ⟨rfl,rfl⟩)|(go_at_call 347;refine(Tf _ _).mono ?_;rintro e w3 ⟨rfl,ad⟩;simp only[V.val];obtain⟨z3,q3,r3,s3,t3⟩:=Jb ad (g:=w.heap.size) (by first|(simp;done)|assumption|(simp;omega)|omega)))
 go_wp2;rw[E.out];exact Em _ aS rfl rfl (((Ac ab (Ac ac ad)).block _ (by simp)).trans (Fe _ _ _ _)) (Ac (Hx _ _ _ _).drew (Ac ab (Ac ac ad))) (by omega)
theorem Avk (op:Int)(a b:V)(w:aV)(ha:a.s.size≤Z)(hb:b.s.size≤Z):Y aC 310 #[D H op,a.val,b.val] w fun e w'=>e=aF (Hr op a b).val∧Below w.heap.size w w':=by
 by_cases h7:op=7
 ·subst h7;exact Avj a b w
 by_cases h8:op=8
 ·subst h8;exact Ay0 a b w
 have ho:=fun w=>Aho a w ha
 have ac:=fun w=>Aho b w hb
 clear ha hb
 by_cases h:Hf a=U∧Hf b=U∧a.k=b.k
 ·have E:Hid (Hr op a b=knV op a b):=by show _=_;simp only[Hr,h7,h8,if_false];rw[if_pos h]
  have hk:=fun w=>Aos op a b w h.1 h.2.1 h.2.2
  generalize Hr op a b=r at E;generalize knV op a b=q at E hk;obtain⟨h1,h2,h3⟩:=h;rw[h1]at ho;rw[h2]at ac;clear h1 h2;obtain⟨k,n,s⟩:=a;obtain⟨k',n',s'⟩:=b;simp only at h3;subst h3;simp only[V.val]at ho ac hk;show Y aC 310 #[D H op,Q #[D H k,D H n,N s],Q #[D H k,D H n',N s']] w _;go_enter bD,aZ;go_wp2_with(first|(go_at_call_of 352 (aK #[D H k,D H n,N s]);refine(ho _).mono ?_;rintro e w1 ⟨rfl,aa⟩;obtain⟨z1,q1,r1,s1,t1⟩:=Jb aa (g:=w.heap.size) (by first|(simp;done)|assumption|(simp;omega)|omega))|(go_at_call_of 352 (aK #[D H k,D H n',N s']);refine(ac _).mono ?_;rintro e w2 ⟨rfl,ab⟩;obtain⟨z2,q2,r2,s2,t2⟩:=Jb ab (g:=w.heap.size) (by first|(simp;done)|assumption|(simp;omega)|omega))|(go_at_call 353;refine(hk _).mono ?_;rintro e w3 ⟨rfl,ad⟩;obtain⟨z3,q3,r3,s3,t3⟩:=Jb ad (g:=w.heap.size) (by first|(simp;done)|assumption|(simp;omega)|omega)));rw[E.out];exact Em _ aS rfl rfl (((Ac aa (Ac ab ad)).block _ (by simp)).trans (Fe _ _ _ _)) (Ac (Hx _ _ _ _) (Ac aa (Ac ab ad))) (by omega)
 have E:Hid (Hr op a b=zero):=by show _=_;simp only[Hr,h7,h8,if_false];rw[if_neg h]
 generalize Hr op a b=r at E;cases h1:Hf a
 ·rw[h1]at ho;clear h1 h ac;obtain⟨k,n,s⟩:=a;obtain⟨k',n',s'⟩:=b;simp only[V.val]at ho;show Y aC 310 #[D H op,Q #[D H k,D H n,N s],Q #[D H k',D H n',N s']] w _;go_enter bD,aZ;go_wp2_with(first|(go_at_call_of 352 (aK #[D H k,D H n,N s]);refine(ho _).mono ?_;rintro e w1 ⟨rfl,aa⟩;obtain⟨z1,q1,r1,s1,t1⟩:=Jb aa (g:=w.heap.size) (by first|(simp;done)|assumption|(simp;omega)|omega)));rw[E.out];exact Em zero aS rfl rfl ((aa.block _ (by simp)).trans (Fe _ _ _ _)) (Ac (Hx _ _ _ _) aa) (by omega)
 rw[h1]at ho;cases h2:Hf b
 ·rw[h2]at ac;clear h1 h2 h;obtain⟨k,n,s⟩:=a;obtain⟨k',n',s'⟩:=b;simp only[V.val]at ho ac;show Y aC 310 #[D H op,Q #[D H k,D H n,N s],Q #[D H k',D H n',N s']] w _;go_enter bD,aZ;go_wp2_with(first|(go_at_call_of 352 (aK #[D H k,D H n,N s]);refine(ho _).mono ?_;rintro e w1 ⟨rfl,aa⟩;obtain⟨z1,q1,r1,s1,t1⟩:=Jb aa (g:=w.heap.size) (by first|(simp;done)|assumption|(simp;omega)|omega))|(go_at_call_of 352 (aK #[D H k',D H n',N s']);refine(ac _).mono ?_;rintro e w2 ⟨rfl,ab⟩;obtain⟨z2,q2,r2,s2,t2⟩:=Jb ab (g:=w.heap.size) (by first|(simp;done)|assumption|(simp;omega)|omega)));rw[E.out];exact Em zero aS rfl rfl (((Ac aa ab).block _ (by simp)).trans (Fe _ _ _ _)) (Ac (Hx _ _ _ _) (Ac aa ab)) (by omega)
 rw[h2]at ac;have h3:a.k≠b.k:=fun e=>h ⟨h1,h2,e⟩
 clear h1 h2 h;obtain⟨k,n,s⟩:=a;obtain⟨k',n',s'⟩:=b;simp only at h3;have ae:(k !=k')=U:=by simpa using h3
 simp only[V.val]at ho ac;show Y aC 310 #[D H op,Q #[D H k,D H n,N s],Q #[D H k',D H n',N s']] w _;go_enter bD,aZ;go_wp2_with(first|(go_at_call_of 352 (aK #[D H k,D H n,N s]);refine(ho _).mono ?_;rintro e w1 ⟨rfl,aa⟩;obtain⟨z1,q1,r1,s1,t1⟩:=Jb aa (g:=w.heap.size) (by first|(simp;done)|assumption|(simp;omega)|omega))|(go_at_call_of 352 (aK #[D H k',D H n',N s']);refine(ac _).mono ?_;rintro e w2 ⟨rfl,ab⟩;obtain⟨z2,q2,r2,s2,t2⟩:=Jb ab (g:=w.heap.size) (by first|(simp;done)|assumption|(simp;omega)|omega)));rw[E.out];exact Em zero aS rfl rfl (((Ac aa ab).block _ (by simp)).trans (Fe _ _ _ _)) (Ac (Hx _ _ _ _) (Ac aa ab)) (by omega)
theorem Avl (op)(x)(s name)(n)(ao)(k c)(a)(b off cap)(ro)(rl rc)(w)(hb:b<w.heap.size)(hh:Nr w b off [a]):
  Y aC 250 #[Q (Af op x s name n (O ao k c)),O (J ⟨b,off,M⟩) 1 cap,O ro rl rc] w fun e w'=>e=aF (Mr op a).val∧Below w.heap.size w w':=by
 obtain⟨c0,c1,c2⟩:=hh 0 a rfl;clear hh;simp only[bE,bF]at c0 c1 c2;have ho:=fun w=>Avi op a w
 generalize Mr op a=r at ho;obtain⟨ak,an,ab⟩:=a;obtain⟨xk,xn,xs⟩:=x;simp only[V.val]at ho;have ac:b≠w.heap.size+1:=by omega
 go_enter cJ,cD;go_wp2_with fail
 go_region_held3(fun w'=>w'.cell? ⟨w.heap.size,0,M⟩=J (D H op)∧w'.cell? ⟨b,off,M⟩=J (D H ak)∧w'.cell? ⟨b,off+1,M⟩=J (D H an)∧w'.cell? ⟨b,off+2,M⟩=J (N ab)) (first|(go_keep;done)|((try dsimp only);(repeat' apply bM)<;>(rw[A1 (by omega),A1 (by omega),A1 (by omega)];first|assumption|go_keep|simp_all)))
  (first|(go_at_call 309;refine(ho _).mono ?_;rintro e w1 ⟨rfl,aa⟩;obtain⟨z1,q1,r1,t1,s1⟩:=Atg aa (g:=w.heap.size) (b:=b) (by first|(simp;done)|assumption|(simp;omega)|omega) hb))
 go_wp2;exact Em _ bZ rfl rfl ((aa.block _ (by simp)).trans (Ca _ _ _)) (Ac (Da _ _ _).drew aa) (by omega)
theorem Avm (op:Int)(x:V)(s name:Wd)(n:Int)(ao:Option Addr)(k c:Nat)(a a':V)(b aa cap:Nat)(ro:Option Addr)(rl rc:Nat)(w:aV)(hb:b<w.heap.size)(hh:Nr w b aa [a,a'])(hs:a.s.size≤Z)(ac:a'.s.size≤Z):
  Y aC 250 #[Q (Af op x s name n (O ao k c)),O (J ⟨b,aa,M⟩) 2 cap,O ro rl rc] w fun e w'=>e=aF (Hr op a a').val∧Below w.heap.size w w':=by
 obtain⟨c0,c1,c2⟩:=hh 0 a rfl;obtain⟨d0,d1,d2⟩:=hh 1 a' rfl;clear hh;simp only[bE,bF,Nat.one_mul]at c0 c1 c2 d0 d1 d2;have ho:=fun w=>Avk op a a' w hs ac
 generalize Hr op a a'=r at ho;clear hs ac;obtain⟨ak,an,ad⟩:=a;obtain⟨bk,bn,bt⟩:=a';obtain⟨xk,xn,xs⟩:=x;simp only[V.val]at ho;have ae:b≠w.heap.size+1:=by omega
 go_enter cJ,cD;go_wp2_with fail
 go_region_held3(fun w'=>w'.cell? ⟨w.heap.size,0,M⟩=J (D H op)∧w'.cell? ⟨b,aa,M⟩=J (D H ak)∧w'.cell? ⟨b,aa+1,M⟩=J (D H an)∧w'.cell? ⟨b,aa+2,M⟩=J (N ad)∧w'.cell? ⟨b,aa+3,M⟩=J (D H bk)∧w'.cell? ⟨b,aa+3+1,M⟩=J (D H bn)∧w'.cell? ⟨b,aa+3+2,M⟩=J (N bt)) (first|(go_keep;done)|((try dsimp only);(repeat' apply bM)<;>(rw[A1 (by omega),A1 (by omega),A1 (by omega)];first|assumption|go_keep|simp_all)))
  (first|(go_at_call 310;refine(ho _).mono ?_;rintro e w1 ⟨rfl,ab⟩;obtain⟨z1,q1,r1,t1,s1⟩:=Atg ab (g:=w.heap.size) (b:=b) (by first|(simp;done)|assumption|(simp;omega)|omega) hb))
 go_wp2;exact Em _ bZ rfl rfl ((ab.block _ (by simp)).trans (Ca _ _ _)) (Ac (Da _ _ _).drew ab) (by omega)
theorem Aee (op)(x)(s name)(n)(ao)(k c)(av)(al ac)(rv)(row)(w)(hr:Cq w rv row)(hn:row.length≤Z)(h1:al≠1)(h2:al≠2):
  Y aC 250 #[Q (Af op x s name n (O ao k c)),O av al ac,rv] w fun e w'=>e=aF (Je op x n row).val∧Below w.heap.size w w':=by
 have ho:=fun w' h=>Ar6 op x s name n (O ao k c) rv row w' (hr.below h) hn ⟨_,_,_,rfl⟩
 obtain⟨ro,rc,rfl⟩:=hr.shape;generalize Je op x n row=r at ho;obtain⟨xk,xn,xs⟩:=x;simp only[V.val]at ho;have e1:((al:Int)==1)=bL:=by simp;omega
 have e2:((al:Int)==2)=bL:=by simp;omega
 go_enter cJ,cD;go_wp2_with(first|(go_at_call 311;refine(ho _ (Da _ _ _)).mono ?_;rintro e w1 ⟨rfl,aa⟩;obtain⟨ab,ad⟩:=E5 aa));exact Em _ bZ rfl rfl ((aa.block _ (by simp)).trans (Ca _ _ _)) (Ac (Da _ _ _) aa) (by omega)
theorem Ahp (op)(x)(s name)(n)(ao)(k c)(av rv)(cs row)(w)(ha:Cq w av cs)(hs:∀v∈cs,v.s.size≤Z)(hr:Cq w rv row)(hn:row.length≤Z):
  Y aC 250 #[Q (Af op x s name n (O ao k c)),av,rv] w fun e w'=>e=aF (Ab2 op x n cs row).val∧Below w.heap.size w w':=by
 match cs,ha,hs with
 |[],ha,_=>
  obtain⟨xo,xc,rfl⟩:=ha.shape;exact Aee op x s name n ao k c xo _ xc rv row w hr hn (by simp) (by simp)
 |[a],ha,_=>
  obtain⟨ro,rc,rfl⟩:=hr.shape;rcases ha with⟨_,h⟩|⟨b,off,cap,rfl,hb,hh⟩
  ·cases h
  ·exact Avl op x s name n ao k c a b off cap ro _ rc w hb hh
 |[a,a'],ha,hs=>
  obtain⟨ro,rc,rfl⟩:=hr.shape;rcases ha with⟨_,h⟩|⟨b,off,cap,rfl,hb,hh⟩
  ·cases h
  ·exact Avm op x s name n ao k c a a' b off cap ro _ rc w hb hh (hs a (by simp)) (hs a' (by simp))
 |a::b::d::r,ha,_=>
  obtain⟨xo,xc,rfl⟩:=ha.shape;exact Aee op x s name n ao k c xo _ xc rv row w hr hn (by simp) (by simp)
mutual
def Ef:E→Prop
 |.mk _ x _ _ _ l=>x.s.size≤Z∧Qe l
def Qe:List E→Prop
 |[]=>True
 |e::l=>Ef e∧Qe l
end
theorem Al5:∀{l:List E}{e:E},Qe l→e∈l→Ef e
 |[],_,_,h=>by grind
 |x::l,e,h,he=>by
  rw[Qe]at h;rcases aR.1 he with rfl|he
  ·grind
  ·exact Al5 h.2 he
theorem Yw {e}(h:Ef e):∀x∈e.kids,Ef x:=by
 cases e with
 |mk op x s name n l=>
  rw[Ef]at h;intro y hy;simp only[E.kids,D4]at hy;split at hy
  ·exact Al5 h.2 hy
  grind
theorem Fj:zero.s.size≤Z:=by simp[zero,bA]
theorem Tv (n):(Fs n).s.size≤Z:=by unfold Fs;split<;>simp[zero,bA]
theorem Ab7 (b):(whV b).s.size≤Z:=by simp[whV,bA]
theorem Ahq (n):(Qd n).s.size≤Z:=by unfold Qd;split<;>simp[zero,bA]
theorem Avn (op)(a):(Mr op a).s.size≤Z:=by
 unfold Mr;split
 ·exact Tv _
 ·split
  ·exact Ab7 _
  ·exact Fj
theorem Ay1 (op)(a b):(knV op a b).s.size≤Z:=by
 unfold knV;split
 ·exact Ab7 _
 ·split
  ·exact Ab7 _
  ·split
   ·split
    ·exact Ahq _
    ·split
     ·exact Ahq _
     ·exact Fj
   ·exact Fj
theorem Avo (op)(a b):(Hr op a b).s.size≤Z:=by
 unfold Hr;split
 ·exact Tv _
 ·split
  ·exact Tv _
  ·split
   ·exact Ay1 _ _ _
   ·exact Fj
theorem Ar7 (op)(x)(n)(row)(hx:x.s.size≤Z)(hr:∀v∈row,v.s.size≤Z):(Je op x n row).s.size≤Z:=by
 unfold Je Mq;split
 ·omega
 ·split
  ·split
   ·cases h:row[n.toNat]? with
    |none=>exact Fj
    |some v=>grind
   ·exact Fj
  ·exact Fj
theorem Al6 (row)(hr:∀v∈row,v.s.size≤Z)(e)(h:Ef e):(ev row e).s.size≤Z:=by
 cases e with
 |mk op x s name n l=>
  rw[Ef]at h;rw[Pa];unfold Ab2;split
  ·exact Avn _ _
  ·exact Avo _ _ _
  ·exact Ar7 op x n row h.1 hr
def Tw (row:List V)(L:List E)(r:Nat)(w:aV)(g:Nat):Prop:=
 ∃arr:Array aQ,w.heap[g]?=J (X arr 59 (0,0))∧arr.size=L.length*3∧
  ∀(j:Nat) (x:E),r≤j→L[j]?=J x→arr[j*3]?=J (D H (ev row x).k)∧arr[j*3+1]?=J (D H (ev row x).n)∧arr[j*3+2]?=J (N (ev row x).s)
theorem Tw.keep {row}{L}{r}{w w'}{g}(h:Tw row L r w g)(hb:w'.heap[g]?=w.heap[g]?):Tw row L r w' g:=by
 obtain⟨aa,h1,h2⟩:=h;exact⟨aa,hb.trans h1,h2⟩
theorem Tw.cell {row}{L}{r}{w}{g}(h:Tw row L r w g){j}(hj:j<L.length*3):∃u,w.cell? ⟨g,j,M⟩=J u:=by
 obtain⟨aa,h1,h2,_⟩:=h;exact⟨_,Aa h1 (cA (by omega:j<aa.size))⟩
theorem Tw.free {row}{L}{r}{w}{g}(h:Tw row L r w g)(o):w.frozen? ⟨g,o,M⟩=bL:=by
 obtain⟨aa,h1,_⟩:=h;simp[aM,h1]
theorem Tw.set {row:List V}{L:List E}{r:Nat}{w:aV}{g:Nat}(h:Tw row L (r+1) w g){x:E}(hx:L[r]?=J x)(v:V)(hv:v=ev row x):
  Tw row L r (((w.setCell ⟨g,r*3,M⟩ (D H v.k)).setCell ⟨g,r*3+1,M⟩ (D H v.n)).setCell ⟨g,r*3+2,M⟩ (N v.s)) g:=by
 obtain⟨aa,h1,h2,h3⟩:=h;have hr:r<L.length:=(aO.1 hx).1;refine⟨_,Dh (Dh (Dh h1 _ _) _ _) _ _,by simp[h2],fun j y hj hy=>?_⟩
 by_cases ab:j=r
 ·grind
 ·obtain⟨a0,a1,a2⟩:=h3 j y (by omega) hy;have n0:r*3≠j*3:=by omega
  have n1:r*3+1≠j*3:=by omega
  have n2:r*3+2≠j*3:=by omega
  have n3:r*3≠j*3+1:=by omega
  have n6:r*3≠j*3+2:=by omega
  simp_all
theorem Tw.holds {row:List V}{e:E}{L:List E}{r:Nat}{w:aV}{g:Nat}(h:Tw row L (r+1) w g)(hQ:Queue e L L.length){x:E}(hx:L[r]?=J x):Nr w g (beg L r*3) (x.kids.map (ev row)):=by
 obtain⟨aa,h1,h2,h3⟩:=h;intro i v hi;rw[bW]at hi;cases hk:x.kids[i]? with
 |none=>rw[hk]at hi;cases hi
 |some y=>
  rw[hk]at hi;simp at hi;subst hi;have hr:r<L.length:=(aO.1 hx).1;have hb:=hQ.behind hr;obtain⟨a0,a1,a2⟩:=h3 (beg L r+i) y (by omega) (hQ.at hx hk);have e0:beg L r*3+i*3=(beg L r+i) *3:=by omega
  rw[e0];exact⟨Aa h1 a0,Aa h1 a1,Aa h1 a2⟩
theorem Ay2:(Tryz.prog.info? 59).map (fun i=>(i.zero,i.size,i.bytes))=J (J (Q #[D H 0,D H 0,N ⟨#[]⟩]),3,32):=by kernel_rfl
theorem Al7 (e)(v rv)(row)(C)(w)(he:IsE (fun k=>k<C) w e v)(hC:C≤w.heap.size)(hn:e.nodes≤16777216)(hf:Ef e)(hr:Cq w rv row)(bn:∀v∈row,v.s.size≤Z)(bo:row.length≤Z):
  Y aC 248 #[v,rv] w fun r w'=>r=aF (ev row e).val∧Below w.heap.size w w':=by
 obtain⟨op,⟨xk,xn,xs⟩,s,name,n,ao,k,c,rfl⟩:=he.shape;obtain⟨ro,rc,rfl⟩:=hr.shape;have ai:Below w.heap.size w ((w.alloc (X (Af op ⟨xk,xn,xs⟩ s name n (O ao k c)) 69)).alloc (X #[D H 0,D H 0,N noW] 59)):=Da _ _ _;have hW:=Z6 e _ C _ (IsE.keep (Ae (ai.mono hC)) e _ he) (aD hC ai.size) hn;go_enter Tryz.func248,Tryz.ntmps248;go_wp2_with(first|(go_at_call 307;refine hW.mono ?_;rintro r1 w1 ⟨zv,L,P,rfl,ay,hP,hQ,al,am⟩;obtain⟨zo,zc,rfl⟩:=ay.shape));obtain⟨i0,hi,az,ba,bb⟩:=info_parts Ay2;have ca:L.length≤e.nodes:=hQ.len;have an:=run_make (P:=aC) w1 57 59 i0 (Q #[D H 0,D H 0,N ⟨#[]⟩]) cU hi az .i64 .i64 L.length L.length (by omega) (Int.le_refl _) (by rw[bb];omega) (by omega);rw[ba,Int.toNat_natCast]at an;rw[an];have ap:(madeCells (aK #[D H 0,D H 0,N ⟨#[]⟩]).cells (L.length*3)).size=L.length*3:=size_madeCells _ _;generalize madeCells (aK #[D H 0,D H 0,N ⟨#[]⟩]).cells (L.length*3)=arr0 at ap;have bp:Tw row L L.length (w1.alloc (X arr0 59)) w1.heap.size:=⟨arr0,Ab _ _,ap,fun j x hj hx=>by rw[cL hj]at hx;cases hx⟩;clear an hi az ba bb ap;have aq:Below w.heap.size w w1:=Ac ai al;have bc:w1.heap[w.heap.size+1]?=J (X #[D H 0,D H 0,N noW] 59):=(al.block _ (by simp)).trans (Ca _ _ _);have bq:=hr.below aq;have bd:Hid (∀x∈L,Ef x):=hQ.all Ef hf fun y hy=>Yw hy
 have HQ:Hid (Queue e L L.length):=hQ;have HW:Hid (beg L L.length=L.length):=hQ.whole;have H1:0<L.length:=by rw[hQ.eq];simp
 have H2:L.length≤16777216:=by omega
 generalize bt:((w.alloc (X (Af op ⟨xk,xn,xs⟩ s name n (O ao k c)) 69)).alloc (X #[D H 0,D H 0,N noW] 59)).heap.size+1=C1 at hP am;clear bt al hW ai he hr hQ hn hf;go_wp2
 go_loopw[7,8] (fun en i wr=>∃r:Nat,r≤L.length∧en=D H (beg L r:Nat)∧i=D H ((r:Int)-1)∧Tw row L r wr w1.heap.size∧Below w1.heap.size w1 wr) (fun _ i _=>(bT i+1).toNat)
 case atStart=>exact⟨L.length,aB _,by rw[HW.out],rfl,bp,(aE _ _).alloc (aB _) _⟩
 case round=>
  obtain⟨r,ar,rfl,rfl,aa,ab⟩:=hrel
  match r,ar,aa with
  |0,ar,aa=>
   have be:=HQ.out.first;obtain⟨au,a1,a2,a3⟩:=aa;obtain⟨g0,g1,g2⟩:=a3 0 e (aB _) be;have c0:=Aa a1 g0;have c1:=Aa a1 g1;have c2:=Aa a1 g2;clear be a1 a2 a3 g0 g1 g2 HQ HW bd;generalize hz:ev row e=z at*;obtain⟨zk,zn,zs⟩:=z;simp only[bE,Nat.zero_add]at c0 c1 c2;have bu:w.heap.size+1<w1.heap.size:=aP bc;have ag:=(ab.block _ bu).trans bc;have k0:=Aa ag (j:=0) rfl;have k1:=Aa ag (j:=1) rfl;have k2:=Aa ag (j:=2) rfl;have kf:∀o,wr.frozen? ⟨w.heap.size+1,o,M⟩=bL:=fun o=>by simp[aM,ag]
   go_wp2;rw[hz];exact Em ⟨zk,zn,zs⟩ Tryz.results248 rfl rfl ag (aq.trans (ab.mono aq.size)) (by omega)
  |r+1,ar,aa=>
   obtain⟨x,hx⟩:∃x,L[r]?=J x:=⟨_,aA (by omega)⟩;have bv:=bd.out x (aJ hx);obtain⟨p,hp,av⟩:=hP r x hx;have av:=av.keep (ab.mono am);have ah:Hid (Nr wr w1.heap.size (beg L r*3) (x.kids.map (ev row))):=aa.holds HQ.out hx;have bw:Hid (beg L (r+1)=beg L r+x.kids.length):=Ayn hx;have aj:=HQ.out.beg_le (r+1);rw[bw.out]at aj⊢;obtain⟨b,o,op,xk,xn,xs,s,name,n,ao,c,l,rfl,cb,rfl,⟨c0,c1,c2,c3,c4,c5,c6,c7⟩,bf⟩:=av;have HX:Hid (L[r]?=J (.mk op ⟨xk,xn,xs⟩ s name n l)):=hx;clear hx;rcases ay.2 with⟨h1,_⟩|⟨_,zb,zf,zc',h2,hzlt,_,_,h3⟩
   ·omega
   cases h2;have bx:=(ab.cell (p:=⟨zb,zf+r,M⟩) hzlt).trans (h3 r _ hp);clear h3 hp;have r0:(0:Int)≤(r:Int):=by omega
   have r1:(r:Int)<(L.length:Int):=by omega
   have ha:=Pd op ⟨xk,xn,xs⟩ s name n ao c l wr bf (aD am ab.size);rw[show(((r+1:Nat):Int)-1)=(r:Int)from by omega];simp only[E.kids]at ah aj⊢;generalize hK:D4 op l=K at ah aj ha⊢;generalize bh:beg L r=bg at ah aj⊢;have bi:Hid (beg L r=bg):=bh;clear bh;go_wp2_with(first|(go_at_call 249;refine ha.mono ?_;rintro e1 w2 ⟨ko,kc,rfl,bz,ak⟩));have cc:w1.heap.size<wr.heap.size:=by obtain⟨au,a1,_⟩:=aa;exact aP a1
   have ac:Tw row L (r+1) w2 w1.heap.size:=aa.keep (ak.block _ (by obtain⟨au,a1,_⟩:=aa;exact aP a1));have ad:w1.heap.size<w2.heap.size:=by obtain⟨au,a1,_⟩:=ac;exact aP a1
   have aw:Below w1.heap.size w1 w2:=ab.trans (ak.mono ab.size);obtain⟨p1,p2,p3,p4⟩:=Aqv (a:=zb) (b:=b) (g:=w1.heap.size) ak (by omega) (by omega) (by omega);obtain⟨u0,cd⟩:=ac.cell (j:=r*3) (by omega);obtain⟨u1,ce⟩:=ac.cell (j:=r*3+1) (by omega);obtain⟨u2,cf⟩:=ac.cell (j:=r*3+2) (by omega);have cg:=ac.free;have d:=fun o=>(p1 o)
   have bj:Cq w2 (O (if L.length=bg then J ⟨w1.heap.size,0,M⟩else J ⟨w1.heap.size,bg*3,M⟩) K.length (L.length-bg)) (K.map (ev row)):=by
    split
    ·have ax:K=[]:=List.eq_nil_of_length_eq_zero (by omega);subst ax;exact .inl ⟨⟨_,_,rfl,fun h=>by cases h⟩,rfl⟩
    ·exact .inr ⟨w1.heap.size,bg*3,L.length-bg,by rw[dC],ad,ah.out.below (ak.mono (aB _)) (by omega)⟩
   have bk:∀v∈K.map (ev row),v.s.size≤Z:=by
    intro v hv;obtain⟨y,hy,rfl⟩:=bV.1 hv;exact Al6 row bn y (Yw bv y (by simp only[E.kids];rw[hK];exact hy))
   have ae:=fun W (hW:Below w2.heap.size w2 W)=>Ahp op ⟨xk,xn,xs⟩ s name n ao l.length c _ (O ro row.length rc) _ row W (bj.below hW) bk ((bq.below aw).below hW) bo
   have bl:Hid (Ab2 op ⟨xk,xn,xs⟩ n (K.map (ev row)) row=ev row (.mk op ⟨xk,xn,xs⟩ s name n l)):=by show _=_;rw[Pa,hK]
   rw[bl.out]at ae;generalize hz:ev row (.mk op ⟨xk,xn,xs⟩ s name n l)=z at ae;obtain⟨zk,zn,zs⟩:=z;simp only[V.val]at ae;rw[←p2]at c0 c1 c2 c3 c4 c5 c6 c7;rw[←p1]at bx;clear p1 p2 p3 p4 d bk bj bl ah ha bz bf;have s0:(0:Int)≤(bg:Int):=by omega
   have s1:(bg:Int)≤(bg:Int)+(K.length:Int):=by omega
   have s2:(bg:Int)+(K.length:Int)≤(L.length:Int):=by omega
   have s3:(0:Int)≤(bg:Int)+(K.length:Int):=by omega
   have s4:((bg:Int)+(K.length:Int)).toNat=bg+K.length:=by omega
   by_cases bm:L.length=bg
   ·subst bm;have ax:K.length=0:=by omega
    rw[if_pos rfl,Nat.sub_self,ax]at ae
    go_region_held3(fun w'=>w'.cell? ⟨zb,zf+r,M⟩=J (aI (J ⟨b,o,M⟩))∧w'.cell? ⟨b,o,M⟩=J (D H op)∧w'.cell? ⟨b,o+1,M⟩=J (D H xk)∧w'.cell? ⟨b,o+2,M⟩=J (D H xn)∧w'.cell? ⟨b,o+3,M⟩=J (N xs)∧w'.cell? ⟨b,o+4,M⟩=J (N s)∧w'.cell? ⟨b,o+5,M⟩=J (N name)∧w'.cell? ⟨b,o+6,M⟩=J (D H n)∧w'.cell? ⟨b,o+7,M⟩=J (O ao l.length c)) (first|(go_keep;done)|((try dsimp only);(repeat' apply bM)<;>(rw[A1 (by omega),A1 (by omega),A1 (by omega)];first|assumption|go_keep|simp_all)))
     (first|(go_at_call 250;refine(ae _ (aE _ _).drew).mono ?_;rintro e2 w3 ⟨rfl,af⟩;obtain⟨q1,q2,q3,q4⟩:=Aqv (a:=zb) (b:=b) (g:=w1.heap.size) af (show zb<w2.heap.size by omega) (show b<w2.heap.size by omega) ad))
    go_wp2;go_roundw
    case rel=>
     refine⟨r,by omega,by rw[bi.out],by rfl,?_,?_⟩
     ·exact(ac.keep (af.block _ ad)).set HX.out ⟨zk,zn,zs⟩ hz.symm
     ·exact(((aw.drew.trans (af.mono (Nat.le_of_lt ad))).setCell (aB _) _).setCell (aB _) _).setCell (aB _) _
    case measure=>simp[bT]
   ·rw[if_neg bm]at ae
    go_region_held3(fun w'=>w'.cell? ⟨zb,zf+r,M⟩=J (aI (J ⟨b,o,M⟩))∧w'.cell? ⟨b,o,M⟩=J (D H op)∧w'.cell? ⟨b,o+1,M⟩=J (D H xk)∧w'.cell? ⟨b,o+2,M⟩=J (D H xn)∧w'.cell? ⟨b,o+3,M⟩=J (N xs)∧w'.cell? ⟨b,o+4,M⟩=J (N s)∧w'.cell? ⟨b,o+5,M⟩=J (N name)∧w'.cell? ⟨b,o+6,M⟩=J (D H n)∧w'.cell? ⟨b,o+7,M⟩=J (O ao l.length c)) (first|(go_keep;done)|((try dsimp only);(repeat' apply bM)<;>(rw[A1 (by omega),A1 (by omega),A1 (by omega)];first|assumption|go_keep|simp_all)))
     (first|(go_at_call 250;refine(ae _ (aE _ _).drew).mono ?_;rintro e2 w3 ⟨rfl,af⟩;obtain⟨q1,q2,q3,q4⟩:=Aqv (a:=zb) (b:=b) (g:=w1.heap.size) af (show zb<w2.heap.size by omega) (show b<w2.heap.size by omega) ad))
    go_wp2;go_roundw
    case rel=>
     refine⟨r,by omega,by rw[bi.out],by rfl,?_,?_⟩
     ·exact(ac.keep (af.block _ ad)).set HX.out ⟨zk,zn,zs⟩ hz.symm
     ·exact(((aw.drew.trans (af.mono (Nat.le_of_lt ad))).setCell (aB _) _).setCell (aB _) _).setCell (aB _) _
    case measure=>simp[bT]
def Had (row:List V)(K:List E)(r:Nat)(w:aV)(g:Nat):Prop:=
 ∃arr:Array aQ,w.heap[g]?=J (X arr 298 (0,0))∧arr.size=6∧
  ∀(j:Nat) (x:E),j<r→K[j]?=J x→arr[j*3]?=J (D H (ev row x).k)∧arr[j*3+1]?=J (D H (ev row x).n)∧arr[j*3+2]?=J (N (ev row x).s)
theorem Had.keep {row}{K}{r}{w w'}{g}(h:Had row K r w g)(hb:w'.heap[g]?=w.heap[g]?):Had row K r w' g:=by
 obtain⟨aa,h1,h2⟩:=h;exact⟨aa,hb.trans h1,h2⟩
theorem Had.lt {row}{K}{r}{w}{g}(h:Had row K r w g):g<w.heap.size:=by
 obtain⟨aa,h1,_⟩:=h;grind
theorem Had.cell {row}{K}{r}{w}{g}(h:Had row K r w g){j}(hj:j<6):∃u,w.cell? ⟨g,j,M⟩=J u:=by
 obtain⟨aa,h1,h2,_⟩:=h;exact⟨_,Aa h1 (cA (by omega:j<aa.size))⟩
theorem Had.free {row}{K}{r}{w}{g}(h:Had row K r w g)(o):w.frozen? ⟨g,o,M⟩=bL:=by
 obtain⟨aa,h1,_⟩:=h;simp[aM,h1]
theorem Had.set {row:List V}{K:List E}{r:Nat}{w:aV}{g:Nat}(h:Had row K r w g){x:E}(hx:K[r]?=J x)(hr:r<2)(v:V)(hv:v=ev row x):
  Had row K (r+1) (((w.setCell ⟨g,r*3,M⟩ (D H v.k)).setCell ⟨g,r*3+1,M⟩ (D H v.n)).setCell ⟨g,r*3+2,M⟩ (N v.s)) g:=by
 obtain⟨aa,h1,h2,h3⟩:=h;refine⟨_,Dh (Dh (Dh h1 _ _) _ _) _ _,by simp[h2],fun j y hj hy=>?_⟩
 by_cases ab:j=r
 ·grind
 ·obtain⟨a0,a1,a2⟩:=h3 j y (by omega) hy;have n0:r*3≠j*3:=by omega
  have n1:r*3+1≠j*3:=by omega
  have n2:r*3+2≠j*3:=by omega
  have n3:r*3≠j*3+1:=by omega
  have n6:r*3≠j*3+2:=by omega
  grind
theorem Had.vals {row}{K}{w}{g}(h:Had row K K.length w g):Cq w (O (J ⟨g,0,M⟩) K.length 2) (K.map (ev row)):=by
 refine .inr ⟨g,0,2,by rw[dC],h.lt,fun i v hi=>?_⟩;obtain⟨aa,h1,h2,h3⟩:=h;rw[bW]at hi;cases hk:K[i]? with
 |none=>grind
 |some y=>
  rw[hk]at hi;simp at hi;subst hi;obtain⟨a0,a1,a2⟩:=h3 i y (aO.1 hk).1 hk;rw[Nat.zero_add];exact⟨Aa h1 a0,Aa h1 a1,Aa h1 a2⟩
theorem Ahr {w:aV}{g k}(h:k≠g)(a b c)(x y z):(((w.setCell ⟨g,a,M⟩ x).setCell ⟨g,b,M⟩ y).setCell ⟨g,c,M⟩ z).heap[k]?=w.heap[k]?:=by
 rw[bR _ _ _ _ h,bR _ _ _ _ h,bR _ _ _ _ h]
theorem Avp (w:aV)(g a b c)(x y z):(((w.setCell ⟨g,a,M⟩ x).setCell ⟨g,b,M⟩ y).setCell ⟨g,c,M⟩ z).heap.size=w.heap.size:=by simp
theorem Aef:∀{l:List E}{x:E},x∈l→x.nodes≤Es l
 |y::l,x,h=>by
  rw[Es];rcases aR.1 h with rfl|h
  ·omega
  ·have:=Aef h;omega
theorem Avq {e x:E}(h:x∈e.kids):x.nodes≤e.nodes:=by
 have:=Aef h;have:=Ad8 e;omega
def Q6 (m:Nat):Prop:=∀(e:E) (v rv:aQ) (row:List V) (C:Nat) (w:aV),IsE (fun k=>k<C) w e v→C≤w.heap.size→e.nodes≤16777216→Ef e→Cq w rv row→(∀v∈row,v.s.size≤Z)→row.length≤Z→
  Y aC 192 #[v,rv,D H (m:Int)] w fun r w'=>r=aF (ev row e).val∧Below w.heap.size w w'
theorem Aot:Q6 0:=by
 intro e v rv row C w he hC hn hf hr ac ad;obtain⟨op,⟨xk,xn,xs⟩,s,name,n,ao,k,c,rfl⟩:=he.shape;obtain⟨ro,rc,rfl⟩:=hr.shape;have aa:Below _ w ((w.alloc (X (Af op ⟨xk,xn,xs⟩ s name n (O ao k c)) 69)).alloc (X #[D H 0,D H 0,N noW] 59)):=Da _ _ _;have hW:=Al7 e _ _ row C _ (IsE.keep (Ae (aa.mono hC)) e _ he) (aD hC aa.size) hn hf (hr.below aa) ac ad;generalize ev row e=z at hW⊢;obtain⟨zk,zn,zs⟩:=z;simp only[V.val]at hW;show Y _ 192 #[_,_,D _ 0] w _;go_enter Tryz.func192,Tryz.ntmps192;go_wp2_with(first|(refine hW.mono ?_;rintro r1 w1 ⟨rfl,ab⟩;obtain⟨ae,af⟩:=E5 ab));exact Em _ dB rfl rfl ((ab.block _ (by simp)).trans (Ca _ _ _)) (Ac (Da _ _ _) ab) (by omega)
theorem Aou (m:Nat)(hm:m<1000)(ih:Q6 m):Q6 (m+1):=by
 intro e v rv row C w he hC hn hf hr an ap;have H0:∃op xk xn xs s name n ao c l,e=.mk op ⟨xk,xn,xs⟩ s name n l∧v=Q (Af op ⟨xk,xn,xs⟩ s name n (O ao l.length c))∧Iz (fun k=>k<C) w (O ao l.length c) l:=by
  cases e with
  |mk op x s name n l=>
   obtain⟨sv,h1,h2⟩:=he.open;obtain⟨ao,c,rfl⟩:=h2.shape;obtain⟨xk,xn,xs⟩:=x;exact⟨op,xk,xn,xs,s,name,n,ao,c,l,rfl,h1,h2⟩
 obtain⟨op,xk,xn,xs,s,name,n,ao,c,l,rfl,rfl,aq⟩:=H0;obtain⟨ro,rc,rfl⟩:=hr.shape;clear he;have ab:Below w.heap.size w (((w.alloc (X (Af op ⟨xk,xn,xs⟩ s name n (O ao l.length c)) 69)).alloc (X #[D H 0,D H 0,N noW] 59)).alloc (X #[D H 0,D H 0,N noW,D H 0,D H 0,N noW] 298)):=Hx _ _ _ _;have ha:=Pd op ⟨xk,xn,xs⟩ s name n ao c l _ (aq.keep (Ae (ab.mono hC))) (aD hC ab.size);have be:(D4 op l).length≤2:=Ap5 (.mk op ⟨xk,xn,xs⟩ s name n l);have aj:Hid (∀x∈D4 op l,x.nodes≤16777216∧Ef x):=fun x hx=>⟨aD (Avq (e:=.mk op ⟨xk,xn,xs⟩ s name n l) hx) hn,Yw hf x hx⟩
 have ak:Hid (ev row (.mk op ⟨xk,xn,xs⟩ s name n l)=Ab2 op ⟨xk,xn,xs⟩ n ((D4 op l).map (ev row)) row):=Pa _ _ _ _ _ _ _;generalize D4 op l=K at ha be aj ak;have m1:IntKind.i64.wrap ((m:Int)+1-1)=(m:Int):=by rw[bI];omega
 rw[show((m+1:Nat):Int)=(m:Int)+1 from by omega];go_enter Tryz.func192,Tryz.ntmps192;go_wp2_with(first|(refine ha.mono ?_;rintro e1 w1 ⟨ko,kc,rfl,ar,af⟩));have au:Below w.heap.size w w1:=Ac ab af;have av:w1.heap[w.heap.size]?=J (X (Af op ⟨xk,xn,xs⟩ s name n (O ao l.length c)) 69):=(af.block _ (by simp;omega)).trans (Ad (Ad (Ab _ _) _) _);have aw:w1.heap[w.heap.size+1]?=J (X #[D H 0,D H 0,N noW] 59):=(af.block _ (by simp)).trans (Ad (Ca _ _ _) _);have ax:Had row K 0 w1 (w.heap.size+1+1):=⟨_,(af.block _ (by simp)).trans (Fe _ _ _ _),rfl,fun j x hj=>absurd hj (by omega)⟩;clear af ha ab aq
 go_loopw[20] (fun i wr=>∃j:Nat,j≤K.length∧i=D H j∧Had row K j wr (w.heap.size+1+1)∧wr.heap[w.heap.size]?=J (X (Af op ⟨xk,xn,xs⟩ s name n (O ao l.length c)) 69)∧wr.heap[w.heap.size+1]?=J (X #[D H 0,D H 0,N noW] 59)∧Below w.heap.size w wr∧w1.heap.size≤wr.heap.size) (fun i _=>K.length-(bT i).toNat)
 case atStart=>exact⟨0,bK _,rfl,ax,av,aw,au,aB _⟩
 case round=>
  obtain⟨j,hj,rfl,hG,hE,hR,aa,ay⟩:=hrel;have az:Iz (fun k=>k<C) wr (O ko K.length kc) K:=ar.keep ⟨ay,fun k hk _=>(aa.block k (by omega)).trans (au.block k (by omega)).symm⟩;clear av aw ax
  by_cases bf:j<K.length
  ·obtain⟨y,hy⟩:∃y,K[j]?=J y:=⟨_,aA bf⟩;obtain⟨bg,bh⟩:=aj.out y (aJ hy);obtain⟨cs,al,ba⟩:=az;obtain⟨kb,kf,rfl⟩:∃kb kf,ko=J ⟨kb,kf,M⟩:=by
    rcases al.2 with⟨h1,_⟩|⟨_,kb,kf,kc',h2,_⟩
    ·omega
    ·cases h2;exact⟨kb,kf,rfl⟩
   obtain⟨yo,yk,yn,yt,ys,ym,yi,ya,yl,yc,bi,bb⟩:=Ajv al ba hy;obtain⟨c0,c1,c2,c3,c4,c5,c6,c7⟩:=bb wr (aE _ _);have j0:(0:Int)≤(j:Int):=by omega
   have j1:(j:Int)<(K.length:Int):=by omega
   have j2:(j:Int)<2:=by omega
   have HY:Hid (K[j]?=J y):=hy;clear hy bb al ba;have ac:Below wr.heap.size wr (wr.alloc (X #[D H yo,D H yk,D H yn,N yt,N ys,N ym,D H yi,O ya yl yc] 69)):=Aq _ _;have hW:=ih y _ _ row C _ (IsE.keep (Ae (ac.mono (aD hC aa.size))) y _ bi) (aD (aD hC aa.size) ac.size) bg bh ((hr.below aa).below ac) an ap;generalize hz:ev row y=z at hW;obtain⟨zk,zn,zs⟩:=z;simp only[V.val]at hW;have ae:=hG.keep (ac.block _ hG.lt);obtain⟨u0,bk⟩:=ae.cell (j:=j*3) (by omega);obtain⟨u1,bl⟩:=ae.cell (j:=j*3+1) (by omega);obtain⟨u2,bm⟩:=ae.cell (j:=j*3+2) (by omega);have bn:=ae.free;have am:=ae.lt;go_wp2_with(first|(refine hW.mono ?_;rintro r1 w2 ⟨rfl,ad⟩;have q1:=(fun o=>ad.cell (p:=⟨_,o,M⟩) am);have q2:=(fun o=>ad.frozen (p:=⟨_,o,M⟩) am)));have ag:=aP hE;have ah:=aP hR;go_roundw
   case rel=>
    refine⟨_,by omega,by rfl,(ae.keep (ad.block _ am)).set HY.out (by omega) ⟨zk,zn,zs⟩ hz.symm,?_,?_,?_,?_⟩
    ·rw[Ahr (by omega)];exact((Ac ac ad).block _ ag).trans hE
    ·rw[Ahr (by omega)];exact((Ac ac ad).block _ ah).trans hR
    ·exact(((aa.trans ((Ac ac ad).mono aa.size)).setCell (show w.heap.size≤w.heap.size+1+1 by omega) _).setCell (show w.heap.size≤w.heap.size+1+1 by omega) _).setCell (show w.heap.size≤w.heap.size+1+1 by omega) _
    ·rw[Avp];exact aD ay (Ac ac ad).size
   case measure=>simp[bT];omega
  ·have bj:j=K.length:=by omega
   subst bj;have bc:=hG.vals;have bd:∀v∈K.map (ev row),v.s.size≤Z:=by
    intro v hv;obtain⟨y,hy,rfl⟩:=bV.1 hv;exact Al6 row an y (aj.out y hy).2
   have ai:=fun W hW=>Ahp op ⟨xk,xn,xs⟩ s name n ao l.length c _ _ _ row W (bc.below hW) bd ((hr.below aa).below hW) ap
   rw[←ak.out]at ai;have c0:=Aa hE (j:=0) rfl;have c1:=Aa hE (j:=1) rfl;have c2:=Aa hE (j:=2) rfl;have c3:=Aa hE (j:=3) rfl;have c4:=Aa hE (j:=4) rfl;have c5:=Aa hE (j:=5) rfl;have c6:=Aa hE (j:=6) rfl;have c7:=Aa hE (j:=7) rfl;have r0:=Aa hR (j:=0) rfl;have r1:=Aa hR (j:=1) rfl;have r2:=Aa hR (j:=2) rfl;have rf:∀o,wr.frozen? ⟨w.heap.size+1,o,M⟩=bL:=fun o=>by simp[aM,hR]
   have ag:=aP hE;have ah:=aP hR;have s0:(0:Int)≤K.length:=by omega
   have s1:(K.length:Int)≤2:=by omega
   generalize hz:ev row _=z at ai;obtain⟨zk,zn,zs⟩:=z;simp only[V.val]at ai;clear bc bd az ar ak hE;go_wp2
   go_region_held3(fun w'=>w'.cell? ⟨w.heap.size,0,M⟩=J (D H op)∧w'.cell? ⟨w.heap.size,1,M⟩=J (D H xk)∧w'.cell? ⟨w.heap.size,2,M⟩=J (D H xn)∧w'.cell? ⟨w.heap.size,3,M⟩=J (N xs)∧w'.cell? ⟨w.heap.size,4,M⟩=J (N s)∧w'.cell? ⟨w.heap.size,5,M⟩=J (N name)∧w'.cell? ⟨w.heap.size,6,M⟩=J (D H n)∧w'.cell? ⟨w.heap.size,7,M⟩=J (O ao l.length c)) (first|(go_keep;done)|((try dsimp only);(repeat' apply bM)<;>(rw[A1 (by omega),A1 (by omega),A1 (by omega)];first|assumption|go_keep|simp_all)))
    (first|(go_fit(ai _ (aE _ _).drew);rintro e2 w3 ⟨rfl,ab⟩;obtain⟨q1,q2,q3,q4⟩:=Aqv ab ag ag ah))
   go_wp2;rw[hz];exact Em _ dB rfl rfl ((ab.block _ ah).trans hR) (aa.drew.trans (ab.mono aa.size)) (by omega)
theorem Aeg:∀m:Nat,m≤1000→Q6 m
 |0,_=>Aot
 |m+1,h=>Aou m (by omega) (Aeg m (by omega))
theorem Ab8 (e)(v rv)(row)(C)(w)(he:IsE (fun k=>k<C) w e v)(hC:C≤w.heap.size)(hn:e.nodes≤16777216)(hf:Ef e)(hr:Cq w rv row)(ac:∀v∈row,v.s.size≤Z)(ad:row.length≤Z):
  Y aC 114 #[v,rv] w fun r w'=>r=aF (ev row e).val∧Below w.heap.size w w':=by
 obtain⟨op,⟨xk,xn,xs⟩,s,name,n,ao,k,c,rfl⟩:=he.shape;obtain⟨ro,rc,rfl⟩:=hr.shape;have aa:Below _ w ((w.alloc (X (Af op ⟨xk,xn,xs⟩ s name n (O ao k c)) 69)).alloc (X #[D H 0,D H 0,N noW] 59)):=Da _ _ _;have hW:Y _ 192 #[Q _,O ro _ rc,D _ 1000] _ _:=Aeg _ (aB _) e _ _ row C _ (IsE.keep (Ae (aa.mono hC)) e _ he) (aD hC aa.size) hn hf (hr.below aa) ac ad;generalize ev row e=z at hW⊢;obtain⟨zk,zn,zs⟩:=z;simp only[V.val]at hW;go_enter Tryz.func114,Tryz.ntmps114;go_wp2_with(first|(refine hW.mono ?_;rintro r1 w1 ⟨rfl,ab⟩;obtain⟨ae,af⟩:=E5 ab));exact Em _ Tryz.results114 rfl rfl ((ab.block _ (by simp)).trans (Ca _ _ _)) (Ac (Da _ _ _) ab) (by omega)
def Fg (e:E):Prop:=e.nodes≤16777216∧Ef e
theorem Tx (l:List E)(lv rv:aQ)(row:List V)(C:Nat)(w:aV)(hl:IsL Az (fun k=>k<C) w lv l)(hC:C≤w.heap.size)(hn:∀e∈l,Fg e)(bo:l.length≤16777216)(hr:Cq w rv row)(al:∀v∈row,v.s.size≤Z)(am:row.length≤Z):
  Y aC 55 #[lv,rv] w fun e w'=>∃vv,e=aF vv∧w'.ownsRow w.heap.size 59 3 vv l.length (Ax (l.map (ev row)))∧Below w.heap.size w w':=by
 obtain⟨i0,ba,bb,bc,bd⟩:=info_parts Qo;obtain⟨lo,lc,rfl⟩:=hl.shape;obtain⟨ro,rc,be⟩:=hr.shape;subst be;have HN:Hid _:=hn;have HS:Hid _:=al;have bf:Hid _:=am;have HL:Hid _:=hl;clear hn al hl am;go_enter Tryz.func55,Tryz.ntmps55;go_wp2
 go_loopw[5,10] (fun zv i wr=>∃k:Nat,k≤l.length∧i=D H k∧wr.ownsRow w.heap.size 59 3 zv k (Ax ((l.map (ev row)).take k))∧Below w.heap.size w wr) (fun _ i _=>l.length-(bT i).toNat)
 case atStart=>exact⟨0,bK _,rfl,World.ownsRow_nil _ _ _ _,aE _ _⟩
 case round=>
  obtain⟨k,hk,rfl,an,ac⟩:=hrel;have ab:=ac.size
  by_cases ap:k<l.length
  ·obtain⟨e0,hx⟩:∃e,l[k]?=J e:=⟨_,aA ap⟩;obtain⟨b,bp,cs,bg,bq,bt,⟨bh,af⟩,aa⟩:=Av (IsL.keep HL.out (Ae (ac.mono hC))) hx;cases bg;obtain⟨ag,⟨ah,ai,aj⟩,s',ak,n',aq,k',c',ar,_⟩:=Rm af;obtain rfl:cs=[D H ag,D H ah,D H ai,N aj,N s',N ak,D H n',O aq k' c']:=by have:=congrArg Array.toList (cR ar);simpa using this
   have d0:=aa 0 _ rfl;have d1:=aa 1 _ rfl;have d2:=aa 2 _ rfl;have d3:=aa 3 _ rfl;have d4:=aa 4 _ rfl;have d5:=aa 5 _ rfl;have d6:=aa 6 _ rfl;have d7:=aa 7 _ rfl;simp only[Az,bF]at d0 d1 d2 d3 d4 d5 d6 d7;obtain⟨au,av⟩:=HN.out e0 (aJ hx);have ad:=fun W h=>Ab8 e0 (Q (Af ag ⟨ah,ai,aj⟩ s' ak n' _)) _ row C W (IsE.keep (Ae (h.mono (aD hC ab))) _ _ af) (aD hC (aD ab h.size)) au av ((hr.below ac).below h) HS.out bf.out
   have aw:Hid (Ax ((l.map (ev row)).take (k+1))=Ax ((l.map (ev row)).take k)++(ev row e0).cells):=by
    show _=_;rw[bU,bW,hx,Option.map_some,cO,Aah]
   generalize ev row e0=v at ad aw;obtain⟨vk,vn,vs⟩:=v;simp only[V.val]at ad;obtain⟨ax,hX,-⟩:=al1 wr (X (Af ag ⟨ah,ai,aj⟩ s' ak n' (O aq k' c')) 69);have bi:=ad _ ax;have v0:(0:Int)≤k:=by omega
   have v1:k<(l.length:Int):=by omega
   have HJ:Hid (k+1≤l.length):=ap;clear hx aa af ar bh au av ad;go_wp2_with(first
    |(go_fit bi;rintro e w1 ⟨rfl,bj⟩;have ae:=Ac ax bj;have ay:=Aj an (Ac ae (Aq w1 (X [D H vk,D H vn,N vs].toArray 59)));have bk:=B8 w1 [D H vk,D H vn,N vs] 59;have az:=aD ab (aD ae.size (Aq w1 (X [D H vk,D H vn,N vs].toArray 59)).size))
    |(at_builtin;go_must(refine wpList_append_own_at _ rfl _ _ 57 rfl _ 59 i0 _ 3 32 cU ba bb bc bd rfl (by simp) _ _ _ rfl ay _ 1 1 _ rfl rfl bk ?h1 (by simp only[Z];omega) (by omega) az ?h2)))
   case h1=>intro u hu;simp at hu;rcases hu with rfl|rfl|rfl<;>rfl
   case h2=>
    intro z2 w4 bl bm _ _;go_wp2_with fail;go_roundw
    case rel=>exact⟨_,HJ.out,by rfl,by rw[aw.out];exact bl,((ac.trans (ae.mono ab)).alloc (aD ab ae.size) _).grown bm az (fun k hk=>(ay.lt k hk).1)⟩
    case measure=>have:=HJ.out;simp[bT];omega
  ·have bn:k=l.length:=by omega
   subst bn;have v1:¬(l.length<(l.length:Int)):=by omega
   rw[List.take_of_length_le (by simp)]at an;go_wp2;go_ret;simp_all
def At (e:E)(row:List V):Bool:=decide (e.opn=0)||decide (ofV (ev row e)=1)
theorem Ahs (e0)(op xk xn)(xs s ad:Wd)(n8)(ao)(kk cc)(rv)(row)(C)(w)(he:IsE (fun k=>k<C) w e0 (Q (Af op ⟨xk,xn,xs⟩ s ad n8 (O ao kk cc))))(hC:C≤w.heap.size)(hn:Fg e0)(hr:Cq w rv row)(ai:∀v∈row,v.s.size≤Z)(aj:row.length≤Z):
  Y aC 119 #[Q (Af op ⟨xk,xn,xs⟩ s ad n8 (O ao kk cc)),rv] w fun e w'=>e=aF (.bool (At e0 row))∧Below w.heap.size w w':=by
 have ag:op=e0.opn:=by
  obtain⟨al,x',s',n',i',am,k',c',h1,h2⟩:=Rm he;have h3:=congrArg Array.toList (cR h1);simp only[aN,cM]at h3;rw[h2];exact h3.1.2
 have aa:=Aq w (X (Af op ⟨xk,xn,xs⟩ s ad n8 (O ao kk cc)) 69);have ac:=Ab8 e0 _ rv row C _ (IsE.keep (Ae (aa.mono hC)) _ _ he) (aD hC aa.size) hn.1 hn.2 (hr.below aa) ai aj;have ab:=fun W=>Uy (ev row e0) W
 have HB:Hid (At e0 row=(decide (op=0)||decide (ofV (ev row e0)=1))):=by show _=_;rw[ag];rfl
 generalize At e0 row=q at HB;generalize ev row e0=v at ac ab HB;obtain⟨vk,vn,vs⟩:=v;simp only[V.val]at ac ab;generalize ofV _=o at ab HB;obtain⟨ro,rc,ak⟩:=hr.shape;subst ak;clear he ag hr
 by_cases h0:op=0
 ·subst h0;go_enter cK,cE;go_wp2;go_ret;exact⟨Ah (by rw[HB.out];rfl),aa⟩
 ·have hq:(op==0)=bL:=by simp[h0]
  have ah:Hid (q=decide (o=1)):=by show _=_;rw[HB.out,decide_eq_false h0];rfl
  clear h0 HB
  by_cases ho:o=1
  ·subst ho;go_enter cK,cE;go_wp2_with(first|(go_fit ac;rintro e w1 ⟨rfl,ae⟩)|(go_fit(ab _);rintro e w2 ⟨rfl,af⟩));go_ret;exact⟨Ah (by rw[ah.out];rfl),Ac (Ac aa ae) af⟩
  ·have an:(o==1)=bL:=by simp[ho]
   go_enter cK,cE;go_wp2_with(first|(go_fit ac;rintro e w1 ⟨rfl,ae⟩)|(go_fit(ab _);rintro e w2 ⟨rfl,af⟩));go_ret;exact⟨Ah (by rw[ah.out,decide_eq_false ho]),Ac (Ac aa ae) af⟩
end
end Go.Proofs.YtjapkoofjlmdgaaGreatDoor

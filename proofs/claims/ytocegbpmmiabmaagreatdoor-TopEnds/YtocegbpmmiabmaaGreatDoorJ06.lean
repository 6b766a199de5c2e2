/-
  31 texts of this proof in one,in build order:XFlat,XWithin,GEval,GOrd,GGrow,GConcat,GEach,GMath3,QChoose2,Same,QSame,YType,YBindS,YTypes,QFacts,GTab,QCount,PAll2,GThose,GJoin,GOrdd,GSearch1,GSearch0,GSearch,GLose,GLack,GMay,GPut,WWith3,WWith4,GWith.
-/
import Derived.Laws.MakeOwn
import Derived.Shelf.SlGeneric
import Derived.Ground.Names8Prog
import Derived.Shelf.Spec.SlicesGrow
import Derived.Test.YtocegbpmmiabmaaGreatDoorProg
import Derived.WalkKit
import Derived.WalkSpells
import Derived.WalkLawsBesides
import Derived.Deep.QuietTactic
import Derived.BigQuiet
import Derived.Laws.StructEq
import Derived.Deep.Cut
import Derived.Test.YtocegbpmmiabmaaGreatDoorJ01
import Derived.Test.YtocegbpmmiabmaaGreatDoorJ02
import Derived.Test.YtocegbpmmiabmaaGreatDoorJ04
import Derived.Test.YtocegbpmmiabmaaGreatDoorJ05
set_option linter.unusedSimpArgs false
set_option linter.unusedVariables false
set_option maxRecDepth 100000
set_option maxHeartbeats 0
open Go.Value renaming agg→aY,agg→dS,bool→dO,int→Y,ownBlock→eQ,pointer→aV,slice→D,slice→dF,string→U,tuple→dK
open Go renaming Calls→bB,Value→aX,World→bD,bodyPost_ret→bR,info_parts→dH,lt_of_block→aA,maxLen→aM,results_cell_row→cK,rounds_succ→eP,wpAnyH_done→cU,wpList_store_row→bZ,wp_region_held_drew→cP
open List renaming append_assoc→cC,append_nil→cI,drop_length→eN,eq_nil_of_length_eq_zero→aU,filter_cons→dG,filter_cons_of_pos→dZ,filter_sublist→cL,flatMap_append→eG,flatten_append→eF,getD_eq_getElem?_getD→bK,getElem?_append_left→dQ,getElem?_append_right→dL,getElem?_eq_getElem→aB,getElem?_eq_some_iff→aJ,getElem?_map→bO,getElem?_take_of_lt→dW,getElem_mem→cE,getElem_of_mem→aW,length_append→aL,length_cons→bH,length_map→aS,length_take→bG,map_cons→bQ,mem_append→dJ,mem_cons→dV,mem_cons_of_mem→bN,mem_cons_self→bJ,mem_filter→cA,mem_flatten→eM,mem_map→cN,mem_of_getElem?→aH,mem_singleton→cB,pairwise_map→eL,pairwise_singleton→dY,sum_cons→dU,take_add_one→bM,take_length→bV,take_of_length_le→cV
open Nat renaming add_zero→bC,le_refl→aG,le_trans→aC,lt_of_lt_of_le→aO,lt_succ_iff_lt_or_eq→dX,mul_one→eE,ne_of_lt→dE,pow_le_pow_right→eD,sub_self→eB,zero_add→cO,zero_le→aP
open Option renaming getD_some→dD,none→N,some→H,toList_some→cM
open Go.Obj renaming cells→aD
open Go.RowKit.Below renaming heap_setCell→bI,refl→aE,refl→dP
open Go.World renaming cell?_of_block→cG,frozen?→aF,ownsRow_nil→dB,setCell→cQ
open Go.IntKind renaming i64→Z
open Go.Proofs.Tryz renaming func126→eA,func57→dI,ntmps126→dT,ntmps57→dC,prog→aI,results199→eR,results35→cZ,results57→cY,underlying119→dA,underlying50→aQ,underlying62→aT,underlying79→bU
open Go.Ending renaming returned→aK
open And renaming intro→aN
open Bool renaming and_eq_true→cF,false→aR,false_eq_true→eK,not_eq_false'→eJ,not_eq_true'→cR,or_eq_true→cJ,true→aZ
open Except.ok renaming inj→bA,injEq→eC
open Go.Proofs renaming intOf→bL,sortWorld→cW
open Go.Sort renaming flatK→bP
open Option.some renaming inj→cD
open Array renaming getElem?_eq_getElem→dN,getElem?_modify→cX,toArray_toList→cH
open Prod renaming fst→cS
open ByteArray renaming size→cT
open List.Pairwise renaming nil→dM
open Go.Proofs.AnyF renaming slices_SortFunc_none→dR
open List.Perm renaming refl→eH
open Go.Value.agg renaming inj→eI
open Int renaming lt_trichotomy→eO
namespace Go.Proofs.YtocegbpmmiabmaaGreatDoor
section
open Go.RowKit
mutual
def Ek:E→Prop
 |.mk _ x _ _ _ l=>x.s.size≤aM∧Qj l
def Qj:List E→Prop
 |[]=>True
 |e::l=>Ek e∧Qj l
end
theorem Amp:∀{l:List E}{e:E},Qj l→e∈l→Ek e
 |[],_,_,h=>by grind
 |x::l,e,h,he=>by
  rw[Qj]at h;rcases dV.1 he with rfl|he
  ·grind
  ·exact Amp h.2 he
theorem Y5 {e}(h:Ek e):∀x∈e.kids,Ek x:=by
 cases e with
 |mk op x s name n l=>
  rw[Ek]at h;intro y hy;simp only[E.kids,Ea]at hy;split at hy
  ·exact Amp h.2 hy
  grind
theorem Fn:zero.s.size≤aM:=by simp[zero,cT]
theorem T8 (n):(Fv n).s.size≤aM:=by unfold Fv;split<;>simp[zero,cT]
theorem Acg (b):(whV b).s.size≤aM:=by simp[whV,cT]
theorem Ah3 (n):(Qi n).s.size≤aM:=by unfold Qi;split<;>simp[zero,cT]
theorem Awl (op)(a):(Mt op a).s.size≤aM:=by
 unfold Mt;split
 ·exact T8 _
 ·split
  ·exact Acg _
  ·exact Fn
theorem Azw (op)(a b):(knV op a b).s.size≤aM:=by
 unfold knV;split
 ·exact Acg _
 ·split
  ·exact Acg _
  ·split
   ·split
    ·exact Ah3 _
    ·split
     ·exact Ah3 _
     ·exact Fn
   ·exact Fn
theorem Awm (op)(a b):(Hs op a b).s.size≤aM:=by
 unfold Hs;split
 ·exact T8 _
 ·split
  ·exact T8 _
  ·split
   ·exact Azw _ _ _
   ·exact Fn
theorem As6 (op)(x)(n)(row)(hx:x.s.size≤aM)(hr:∀v∈row,v.s.size≤aM):(Jf op x n row).s.size≤aM:=by
 unfold Jf Ms;split
 ·omega
 ·split
  ·split
   ·cases h:row[n.toNat]? with
    |none=>exact Fn
    |some v=>grind
   ·exact Fn
  ·exact Fn
theorem Amq (row)(hr:∀v∈row,v.s.size≤aM)(e)(h:Ek e):(ev row e).s.size≤aM:=by
 cases e with
 |mk op x s name n l=>
  rw[Ek]at h;rw[Pe];unfold Acb;split
  ·exact Awl _ _
  ·exact Awm _ _ _
  ·exact As6 op x n row h.1 hr
def Ua (row:List V)(L:List E)(r:Nat)(w:bD)(g:Nat):Prop:=
 ∃arr:Array aX,w.heap[g]?=H (aD arr 46 (0,0))∧arr.size=L.length*3∧
  ∀(j:Nat) (x:E),r≤j→L[j]?=H x→arr[j*3]?=H (Y Z (ev row x).k)∧arr[j*3+1]?=H (Y Z (ev row x).n)∧arr[j*3+2]?=H (U (ev row x).s)
theorem Ua.keep {row}{L}{r}{w w'}{g}(h:Ua row L r w g)(hb:w'.heap[g]?=w.heap[g]?):Ua row L r w' g:=by
 obtain⟨aa,h1,h2⟩:=h;exact⟨aa,hb.trans h1,h2⟩
theorem Ua.cell {row}{L}{r}{w}{g}(h:Ua row L r w g){j}(hj:j<L.length*3):∃u,w.cell? ⟨g,j,N⟩=H u:=by
 obtain⟨aa,h1,h2,_⟩:=h;exact⟨_,Aa h1 (dN (by omega:j<aa.size))⟩
theorem Ua.free {row}{L}{r}{w}{g}(h:Ua row L r w g)(o):w.frozen? ⟨g,o,N⟩=aR:=by
 obtain⟨aa,h1,_⟩:=h;simp[aF,h1]
theorem Ua.set {row:List V}{L:List E}{r:Nat}{w:bD}{g:Nat}(h:Ua row L (r+1) w g){x:E}(hx:L[r]?=H x)(v:V)(hv:v=ev row x):
  Ua row L r (((w.setCell ⟨g,r*3,N⟩ (Y Z v.k)).setCell ⟨g,r*3+1,N⟩ (Y Z v.n)).setCell ⟨g,r*3+2,N⟩ (U v.s)) g:=by
 obtain⟨aa,h1,h2,h3⟩:=h;have hr:r<L.length:=(aJ.1 hx).1;refine⟨_,Dj (Dj (Dj h1 _ _) _ _) _ _,by simp[h2],fun j y hj hy=>?_⟩
 by_cases ab:j=r
 ·grind
 ·obtain⟨a0,a1,a2⟩:=h3 j y (by omega) hy;have n0:r*3≠j*3:=by omega
  have n1:r*3+1≠j*3:=by omega
  have n2:r*3+2≠j*3:=by omega
  have n3:r*3≠j*3+1:=by omega
  have n6:r*3≠j*3+2:=by omega
  simp_all
theorem Ua.holds {row:List V}{e:E}{L:List E}{r:Nat}{w:bD}{g:Nat}(h:Ua row L (r+1) w g)(hQ:Queue e L L.length){x:E}(hx:L[r]?=H x):Nv w g (beg L r*3) (x.kids.map (ev row)):=by
 obtain⟨aa,h1,h2,h3⟩:=h;intro i v hi;rw[bO]at hi;cases hk:x.kids[i]? with
 |none=>rw[hk]at hi;cases hi
 |some y=>
  rw[hk]at hi;simp at hi;subst hi;have hr:r<L.length:=(aJ.1 hx).1;have hb:=hQ.behind hr;obtain⟨a0,a1,a2⟩:=h3 (beg L r+i) y (by omega) (hQ.at hx hk);have e0:beg L r*3+i*3=(beg L r+i) *3:=by omega
  rw[e0];exact⟨Aa h1 a0,Aa h1 a1,Aa h1 a2⟩
theorem Azx:(Tryz.prog.info? 46).map (fun i=>(i.zero,i.size,i.bytes))=H (H (aY #[Y Z 0,Y Z 0,U ⟨#[]⟩]),3,32):=by kernel_rfl
theorem Amr (e)(v rv)(row)(C)(w)(he:IsE (fun k=>k<C) w e v)(hC:C≤w.heap.size)(hn:e.nodes≤16777216)(hf:Ek e)(hr:Cq w rv row)(bn:∀v∈row,v.s.size≤aM)(bo:row.length≤aM):
  bB aI 255 #[v,rv] w fun r w'=>r=aK (ev row e).val∧Below w.heap.size w w':=by
 obtain⟨op,⟨xk,xn,xs⟩,s,name,n,ao,k,c,rfl⟩:=he.shape;obtain⟨ro,rc,rfl⟩:=hr.shape;have ai:Below w.heap.size w ((w.alloc (aD (Af op ⟨xk,xn,xs⟩ s name n (D ao k c)) 48)).alloc (aD #[Y Z 0,Y Z 0,U noW] 46)):=Dd _ _ _;have hW:=Aag e _ C _ (IsE.keep (Ae (ai.mono hC)) e _ he) (aC hC ai.size) hn;go_enter Tryz.func255,Tryz.ntmps255;go_wp2_with(first|(go_at_call 314;refine hW.mono ?_;rintro r1 w1 ⟨zv,L,P,rfl,ay,hP,hQ,al,am⟩;obtain⟨zo,zc,rfl⟩:=ay.shape));obtain⟨i0,hi,az,ba,bb⟩:=dH Azx;have ca:L.length≤e.nodes:=hQ.len;have an:=run_make (P:=aI) w1 79 46 i0 (aY #[Y Z 0,Y Z 0,U ⟨#[]⟩]) bU hi az .i64 .i64 L.length L.length (by omega) (Int.le_refl _) (by rw[bb];omega) (by omega);rw[ba,Int.toNat_natCast]at an;rw[an];have ap:(madeCells (dS #[Y Z 0,Y Z 0,U ⟨#[]⟩]).cells (L.length*3)).size=L.length*3:=size_madeCells _ _;generalize madeCells (dS #[Y Z 0,Y Z 0,U ⟨#[]⟩]).cells (L.length*3)=arr0 at ap;have bp:Ua row L L.length (w1.alloc (aD arr0 46)) w1.heap.size:=⟨arr0,Ab _ _,ap,fun j x hj hx=>by rw[List.getElem?_eq_none hj]at hx;cases hx⟩;clear an hi az ba bb ap;have aq:Below w.heap.size w w1:=Ac ai al;have bc:w1.heap[w.heap.size+1]?=H (aD #[Y Z 0,Y Z 0,U noW] 46):=(al.block _ (by simp)).trans (Cc _ _ _);have bq:=hr.below aq;have bd:Hid (∀x∈L,Ek x):=hQ.all Ek hf fun y hy=>Y5 hy
 have HQ:Hid (Queue e L L.length):=hQ;have HW:Hid (beg L L.length=L.length):=hQ.whole;have H1:0<L.length:=by rw[hQ.eq];simp
 have H2:L.length≤16777216:=by omega
 generalize bt:((w.alloc (aD (Af op ⟨xk,xn,xs⟩ s name n (D ao k c)) 48)).alloc (aD #[Y Z 0,Y Z 0,U noW] 46)).heap.size+1=C1 at hP am;clear bt al hW ai he hr hQ hn hf;go_wp2
 go_loopw[7,8] (fun en i wr=>∃r:Nat,r≤L.length∧en=Y Z (beg L r:Nat)∧i=Y Z ((r:Int)-1)∧Ua row L r wr w1.heap.size∧Below w1.heap.size w1 wr) (fun _ i _=>(bL i+1).toNat)
 case atStart=>exact⟨L.length,aG _,by rw[HW.out],rfl,bp,(aE _ _).alloc (aG _) _⟩
 case round=>
  obtain⟨r,ar,rfl,rfl,aa,ab⟩:=hrel
  match r,ar,aa with
  |0,ar,aa=>
   have be:=HQ.out.first;obtain⟨au,a1,a2,a3⟩:=aa;obtain⟨g0,g1,g2⟩:=a3 0 e (aG _) be;have c0:=Aa a1 g0;have c1:=Aa a1 g1;have c2:=Aa a1 g2;clear be a1 a2 a3 g0 g1 g2 HQ HW bd;generalize hz:ev row e=z at*;obtain⟨zk,zn,zs⟩:=z;simp only[Nat.zero_mul,cO]at c0 c1 c2;have bu:w.heap.size+1<w1.heap.size:=aA bc;have ag:=(ab.block _ bu).trans bc;have k0:=Aa ag (j:=0) rfl;have k1:=Aa ag (j:=1) rfl;have k2:=Aa ag (j:=2) rfl;have kf:∀o,wr.frozen? ⟨w.heap.size+1,o,N⟩=aR:=fun o=>by simp[aF,ag]
   go_wp2;rw[hz];exact Er ⟨zk,zn,zs⟩ Tryz.results255 rfl rfl ag (aq.trans (ab.mono aq.size)) (by omega)
  |r+1,ar,aa=>
   obtain⟨x,hx⟩:∃x,L[r]?=H x:=⟨_,aB (by omega)⟩;have bv:=bd.out x (aH hx);obtain⟨p,hp,av⟩:=hP r x hx;have av:=av.keep (ab.mono am);have ah:Hid (Nv wr w1.heap.size (beg L r*3) (x.kids.map (ev row))):=aa.holds HQ.out hx;have bw:Hid (beg L (r+1)=beg L r+x.kids.length):=Azi hx;have aj:=HQ.out.beg_le (r+1);rw[bw.out]at aj⊢;obtain⟨b,o,op,xk,xn,xs,s,name,n,ao,c,l,rfl,cb,rfl,⟨c0,c1,c2,c3,c4,c5,c6,c7⟩,bf⟩:=av;have HX:Hid (L[r]?=H (.mk op ⟨xk,xn,xs⟩ s name n l)):=hx;clear hx;rcases ay.2 with⟨h1,_⟩|⟨_,zb,zf,zc',h2,hzlt,_,_,h3⟩
   ·omega
   cases h2;have bx:=(ab.cell (p:=⟨zb,zf+r,N⟩) hzlt).trans (h3 r _ hp);clear h3 hp;have r0:(0:Int)≤(r:Int):=by omega
   have r1:(r:Int)<(L.length:Int):=by omega
   have ha:=Pi op ⟨xk,xn,xs⟩ s name n ao c l wr bf (aC am ab.size);rw[show(((r+1:Nat):Int)-1)=(r:Int)from by omega];simp only[E.kids]at ah aj⊢;generalize hK:Ea op l=K at ah aj ha⊢;generalize bh:beg L r=bg at ah aj⊢;have bi:Hid (beg L r=bg):=bh;clear bh;go_wp2_with(first|(go_at_call 256;refine ha.mono ?_;rintro e1 w2 ⟨ko,kc,rfl,bz,ak⟩));have cc:w1.heap.size<wr.heap.size:=by obtain⟨au,a1,_⟩:=aa;exact aA a1
   have ac:Ua row L (r+1) w2 w1.heap.size:=aa.keep (ak.block _ (by obtain⟨au,a1,_⟩:=aa;exact aA a1));have ad:w1.heap.size<w2.heap.size:=by obtain⟨au,a1,_⟩:=ac;exact aA a1
   have aw:Below w1.heap.size w1 w2:=ab.trans (ak.mono ab.size);obtain⟨p1,p2,p3,p4⟩:=Art (a:=zb) (b:=b) (g:=w1.heap.size) ak (by omega) (by omega) (by omega);obtain⟨u0,cd⟩:=ac.cell (j:=r*3) (by omega);obtain⟨u1,ce⟩:=ac.cell (j:=r*3+1) (by omega);obtain⟨u2,cf⟩:=ac.cell (j:=r*3+2) (by omega);have cg:=ac.free;have d:=fun o=>(p1 o)
   have bj:Cq w2 (D (if L.length=bg then H ⟨w1.heap.size,0,N⟩else H ⟨w1.heap.size,bg*3,N⟩) K.length (L.length-bg)) (K.map (ev row)):=by
    split
    ·have ax:K=[]:=aU (by omega);subst ax;exact .inl ⟨⟨_,_,rfl,fun h=>by cases h⟩,rfl⟩
    ·exact .inr ⟨w1.heap.size,bg*3,L.length-bg,by rw[aS],ad,ah.out.below (ak.mono (aG _)) (by omega)⟩
   have bk:∀v∈K.map (ev row),v.s.size≤aM:=by
    intro v hv;obtain⟨y,hy,rfl⟩:=cN.1 hv;exact Amq row bn y (Y5 bv y (by simp only[E.kids];rw[hK];exact hy))
   have ae:=fun W (hW:Below w2.heap.size w2 W)=>Ah2 op ⟨xk,xn,xs⟩ s name n ao l.length c _ (D ro row.length rc) _ row W (bj.below hW) bk ((bq.below aw).below hW) bo
   have bl:Hid (Acb op ⟨xk,xn,xs⟩ n (K.map (ev row)) row=ev row (.mk op ⟨xk,xn,xs⟩ s name n l)):=by show _=_;rw[Pe,hK]
   rw[bl.out]at ae;generalize hz:ev row (.mk op ⟨xk,xn,xs⟩ s name n l)=z at ae;obtain⟨zk,zn,zs⟩:=z;simp only[V.val]at ae;rw[←p2]at c0 c1 c2 c3 c4 c5 c6 c7;rw[←p1]at bx;clear p1 p2 p3 p4 d bk bj bl ah ha bz bf;have s0:(0:Int)≤(bg:Int):=by omega
   have s1:(bg:Int)≤(bg:Int)+(K.length:Int):=by omega
   have s2:(bg:Int)+(K.length:Int)≤(L.length:Int):=by omega
   have s3:(0:Int)≤(bg:Int)+(K.length:Int):=by omega
   have s4:((bg:Int)+(K.length:Int)).toNat=bg+K.length:=by omega
   by_cases bm:L.length=bg
   ·subst bm;have ax:K.length=0:=by omega
    rw[if_pos rfl,eB,ax]at ae
    go_region_held3(fun w'=>w'.cell? ⟨zb,zf+r,N⟩=H (aV (H ⟨b,o,N⟩))∧w'.cell? ⟨b,o,N⟩=H (Y Z op)∧w'.cell? ⟨b,o+1,N⟩=H (Y Z xk)∧w'.cell? ⟨b,o+2,N⟩=H (Y Z xn)∧w'.cell? ⟨b,o+3,N⟩=H (U xs)∧w'.cell? ⟨b,o+4,N⟩=H (U s)∧w'.cell? ⟨b,o+5,N⟩=H (U name)∧w'.cell? ⟨b,o+6,N⟩=H (Y Z n)∧w'.cell? ⟨b,o+7,N⟩=H (D ao l.length c)) (first|(go_keep;done)|((try dsimp only);(repeat' apply aN)<;>(rw[A3 (by omega),A3 (by omega),A3 (by omega)];first|assumption|go_keep|simp_all)))
     (first|(go_at_call 257;refine(ae _ (aE _ _).drew).mono ?_;rintro e2 w3 ⟨rfl,af⟩;obtain⟨q1,q2,q3,q4⟩:=Art (a:=zb) (b:=b) (g:=w1.heap.size) af (show zb<w2.heap.size by omega) (show b<w2.heap.size by omega) ad))
    go_wp2;go_roundw
    case rel=>
     refine⟨r,by omega,by rw[bi.out],by rfl,?_,?_⟩
     ·exact(ac.keep (af.block _ ad)).set HX.out ⟨zk,zn,zs⟩ hz.symm
     ·exact(((aw.drew.trans (af.mono (Nat.le_of_lt ad))).setCell (aG _) _).setCell (aG _) _).setCell (aG _) _
    case measure=>simp[bL]
   ·rw[if_neg bm]at ae
    go_region_held3(fun w'=>w'.cell? ⟨zb,zf+r,N⟩=H (aV (H ⟨b,o,N⟩))∧w'.cell? ⟨b,o,N⟩=H (Y Z op)∧w'.cell? ⟨b,o+1,N⟩=H (Y Z xk)∧w'.cell? ⟨b,o+2,N⟩=H (Y Z xn)∧w'.cell? ⟨b,o+3,N⟩=H (U xs)∧w'.cell? ⟨b,o+4,N⟩=H (U s)∧w'.cell? ⟨b,o+5,N⟩=H (U name)∧w'.cell? ⟨b,o+6,N⟩=H (Y Z n)∧w'.cell? ⟨b,o+7,N⟩=H (D ao l.length c)) (first|(go_keep;done)|((try dsimp only);(repeat' apply aN)<;>(rw[A3 (by omega),A3 (by omega),A3 (by omega)];first|assumption|go_keep|simp_all)))
     (first|(go_at_call 257;refine(ae _ (aE _ _).drew).mono ?_;rintro e2 w3 ⟨rfl,af⟩;obtain⟨q1,q2,q3,q4⟩:=Art (a:=zb) (b:=b) (g:=w1.heap.size) af (show zb<w2.heap.size by omega) (show b<w2.heap.size by omega) ad))
    go_wp2;go_roundw
    case rel=>
     refine⟨r,by omega,by rw[bi.out],by rfl,?_,?_⟩
     ·exact(ac.keep (af.block _ ad)).set HX.out ⟨zk,zn,zs⟩ hz.symm
     ·exact(((aw.drew.trans (af.mono (Nat.le_of_lt ad))).setCell (aG _) _).setCell (aG _) _).setCell (aG _) _
    case measure=>simp[bL]
def Had (row:List V)(K:List E)(r:Nat)(w:bD)(g:Nat):Prop:=
 ∃arr:Array aX,w.heap[g]?=H (aD arr 306 (0,0))∧arr.size=6∧
  ∀(j:Nat) (x:E),j<r→K[j]?=H x→arr[j*3]?=H (Y Z (ev row x).k)∧arr[j*3+1]?=H (Y Z (ev row x).n)∧arr[j*3+2]?=H (U (ev row x).s)
theorem Had.keep {row}{K}{r}{w w'}{g}(h:Had row K r w g)(hb:w'.heap[g]?=w.heap[g]?):Had row K r w' g:=by
 obtain⟨aa,h1,h2⟩:=h;exact⟨aa,hb.trans h1,h2⟩
theorem Had.lt {row}{K}{r}{w}{g}(h:Had row K r w g):g<w.heap.size:=by
 obtain⟨aa,h1,_⟩:=h;grind
theorem Had.cell {row}{K}{r}{w}{g}(h:Had row K r w g){j}(hj:j<6):∃u,w.cell? ⟨g,j,N⟩=H u:=by
 obtain⟨aa,h1,h2,_⟩:=h;exact⟨_,Aa h1 (dN (by omega:j<aa.size))⟩
theorem Had.free {row}{K}{r}{w}{g}(h:Had row K r w g)(o):w.frozen? ⟨g,o,N⟩=aR:=by
 obtain⟨aa,h1,_⟩:=h;simp[aF,h1]
theorem Had.set {row:List V}{K:List E}{r:Nat}{w:bD}{g:Nat}(h:Had row K r w g){x:E}(hx:K[r]?=H x)(hr:r<2)(v:V)(hv:v=ev row x):
  Had row K (r+1) (((w.setCell ⟨g,r*3,N⟩ (Y Z v.k)).setCell ⟨g,r*3+1,N⟩ (Y Z v.n)).setCell ⟨g,r*3+2,N⟩ (U v.s)) g:=by
 obtain⟨aa,h1,h2,h3⟩:=h;refine⟨_,Dj (Dj (Dj h1 _ _) _ _) _ _,by simp[h2],fun j y hj hy=>?_⟩
 by_cases ab:j=r
 ·grind
 ·obtain⟨a0,a1,a2⟩:=h3 j y (by omega) hy;have n0:r*3≠j*3:=by omega
  have n1:r*3+1≠j*3:=by omega
  have n2:r*3+2≠j*3:=by omega
  have n3:r*3≠j*3+1:=by omega
  have n6:r*3≠j*3+2:=by omega
  grind
theorem Had.vals {row}{K}{w}{g}(h:Had row K K.length w g):Cq w (D (H ⟨g,0,N⟩) K.length 2) (K.map (ev row)):=by
 refine .inr ⟨g,0,2,by rw[aS],h.lt,fun i v hi=>?_⟩;obtain⟨aa,h1,h2,h3⟩:=h;rw[bO]at hi;cases hk:K[i]? with
 |none=>grind
 |some y=>
  rw[hk]at hi;simp at hi;subst hi;obtain⟨a0,a1,a2⟩:=h3 i y (aJ.1 hk).1 hk;rw[cO];exact⟨Aa h1 a0,Aa h1 a1,Aa h1 a2⟩
theorem Ah4 {w:bD}{g k}(h:k≠g)(a b c)(x y z):(((w.setCell ⟨g,a,N⟩ x).setCell ⟨g,b,N⟩ y).setCell ⟨g,c,N⟩ z).heap[k]?=w.heap[k]?:=by
 rw[bI _ _ _ _ h,bI _ _ _ _ h,bI _ _ _ _ h]
theorem Awn (w:bD)(g a b c)(x y z):(((w.setCell ⟨g,a,N⟩ x).setCell ⟨g,b,N⟩ y).setCell ⟨g,c,N⟩ z).heap.size=w.heap.size:=by simp
theorem Aeo:∀{l:List E}{x:E},x∈l→x.nodes≤Ev l
 |y::l,x,h=>by
  rw[Ev];rcases dV.1 h with rfl|h
  ·omega
  ·have:=Aeo h;omega
theorem Awo {e x:E}(h:x∈e.kids):x.nodes≤e.nodes:=by
 have:=Aeo h;have:=Aeh e;omega
def Rc (m:Nat):Prop:=∀(e:E) (v rv:aX) (row:List V) (C:Nat) (w:bD),IsE (fun k=>k<C) w e v→C≤w.heap.size→e.nodes≤16777216→Ek e→Cq w rv row→(∀v∈row,v.s.size≤aM)→row.length≤aM→
  bB aI 199 #[v,rv,Y Z (m:Int)] w fun r w'=>r=aK (ev row e).val∧Below w.heap.size w w'
theorem Aph:Rc 0:=by
 intro e v rv row C w he hC hn hf hr ac ad;obtain⟨op,⟨xk,xn,xs⟩,s,name,n,ao,k,c,rfl⟩:=he.shape;obtain⟨ro,rc,rfl⟩:=hr.shape;have aa:Below _ w ((w.alloc (aD (Af op ⟨xk,xn,xs⟩ s name n (D ao k c)) 48)).alloc (aD #[Y Z 0,Y Z 0,U noW] 46)):=Dd _ _ _;have hW:=Amr e _ _ row C _ (IsE.keep (Ae (aa.mono hC)) e _ he) (aC hC aa.size) hn hf (hr.below aa) ac ad;generalize ev row e=z at hW⊢;obtain⟨zk,zn,zs⟩:=z;simp only[V.val]at hW;show bB _ 199 #[_,_,Y _ 0] w _;go_enter Tryz.func199,Tryz.ntmps199;go_wp2_with(first|(refine hW.mono ?_;rintro r1 w1 ⟨rfl,ab⟩;obtain⟨ae,af⟩:=E9 ab));exact Er _ eR rfl rfl ((ab.block _ (by simp)).trans (Cc _ _ _)) (Ac (Dd _ _ _) ab) (by omega)
theorem Api (m:Nat)(hm:m<1000)(ih:Rc m):Rc (m+1):=by
 intro e v rv row C w he hC hn hf hr an ap;have H0:∃op xk xn xs s name n ao c l,e=.mk op ⟨xk,xn,xs⟩ s name n l∧v=aY (Af op ⟨xk,xn,xs⟩ s name n (D ao l.length c))∧I1 (fun k=>k<C) w (D ao l.length c) l:=by
  cases e with
  |mk op x s name n l=>
   obtain⟨sv,h1,h2⟩:=he.open;obtain⟨ao,c,rfl⟩:=h2.shape;obtain⟨xk,xn,xs⟩:=x;exact⟨op,xk,xn,xs,s,name,n,ao,c,l,rfl,h1,h2⟩
 obtain⟨op,xk,xn,xs,s,name,n,ao,c,l,rfl,rfl,aq⟩:=H0;obtain⟨ro,rc,rfl⟩:=hr.shape;clear he;have ab:Below w.heap.size w (((w.alloc (aD (Af op ⟨xk,xn,xs⟩ s name n (D ao l.length c)) 48)).alloc (aD #[Y Z 0,Y Z 0,U noW] 46)).alloc (aD #[Y Z 0,Y Z 0,U noW,Y Z 0,Y Z 0,U noW] 306)):=Hy _ _ _ _;have ha:=Pi op ⟨xk,xn,xs⟩ s name n ao c l _ (aq.keep (Ae (ab.mono hC))) (aC hC ab.size);have be:(Ea op l).length≤2:=Aq0 (.mk op ⟨xk,xn,xs⟩ s name n l);have aj:Hid (∀x∈Ea op l,x.nodes≤16777216∧Ek x):=fun x hx=>⟨aC (Awo (e:=.mk op ⟨xk,xn,xs⟩ s name n l) hx) hn,Y5 hf x hx⟩
 have ak:Hid (ev row (.mk op ⟨xk,xn,xs⟩ s name n l)=Acb op ⟨xk,xn,xs⟩ n ((Ea op l).map (ev row)) row):=Pe _ _ _ _ _ _ _;generalize Ea op l=K at ha be aj ak;have m1:IntKind.i64.wrap ((m:Int)+1-1)=(m:Int):=by rw[IntKind.wrap_i64];omega
 rw[show((m+1:Nat):Int)=(m:Int)+1 from by omega];go_enter Tryz.func199,Tryz.ntmps199;go_wp2_with(first|(refine ha.mono ?_;rintro e1 w1 ⟨ko,kc,rfl,ar,af⟩));have au:Below w.heap.size w w1:=Ac ab af;have av:w1.heap[w.heap.size]?=H (aD (Af op ⟨xk,xn,xs⟩ s name n (D ao l.length c)) 48):=(af.block _ (by simp;omega)).trans (Ad (Ad (Ab _ _) _) _);have aw:w1.heap[w.heap.size+1]?=H (aD #[Y Z 0,Y Z 0,U noW] 46):=(af.block _ (by simp)).trans (Ad (Cc _ _ _) _);have ax:Had row K 0 w1 (w.heap.size+1+1):=⟨_,(af.block _ (by simp)).trans (Fi _ _ _ _),rfl,fun j x hj=>absurd hj (by omega)⟩;clear af ha ab aq
 go_loopw[20] (fun i wr=>∃j:Nat,j≤K.length∧i=Y Z j∧Had row K j wr (w.heap.size+1+1)∧wr.heap[w.heap.size]?=H (aD (Af op ⟨xk,xn,xs⟩ s name n (D ao l.length c)) 48)∧wr.heap[w.heap.size+1]?=H (aD #[Y Z 0,Y Z 0,U noW] 46)∧Below w.heap.size w wr∧w1.heap.size≤wr.heap.size) (fun i _=>K.length-(bL i).toNat)
 case atStart=>exact⟨0,aP _,rfl,ax,av,aw,au,aG _⟩
 case round=>
  obtain⟨j,hj,rfl,hG,hE,hR,aa,ay⟩:=hrel;have az:I1 (fun k=>k<C) wr (D ko K.length kc) K:=ar.keep ⟨ay,fun k hk _=>(aa.block k (by omega)).trans (au.block k (by omega)).symm⟩;clear av aw ax
  by_cases bf:j<K.length
  ·obtain⟨y,hy⟩:∃y,K[j]?=H y:=⟨_,aB bf⟩;obtain⟨bg,bh⟩:=aj.out y (aH hy);obtain⟨cs,al,ba⟩:=az;obtain⟨kb,kf,rfl⟩:∃kb kf,ko=H ⟨kb,kf,N⟩:=by
    rcases al.2 with⟨h1,_⟩|⟨_,kb,kf,kc',h2,_⟩
    ·omega
    ·cases h2;exact⟨kb,kf,rfl⟩
   obtain⟨yo,yk,yn,yt,ys,ym,yi,ya,yl,yc,bi,bb⟩:=Akf al ba hy;obtain⟨c0,c1,c2,c3,c4,c5,c6,c7⟩:=bb wr (aE _ _);have j0:(0:Int)≤(j:Int):=by omega
   have j1:(j:Int)<(K.length:Int):=by omega
   have j2:(j:Int)<2:=by omega
   have HY:Hid (K[j]?=H y):=hy;clear hy bb al ba;have ac:Below wr.heap.size wr (wr.alloc (aD #[Y Z yo,Y Z yk,Y Z yn,U yt,U ys,U ym,Y Z yi,D ya yl yc] 48)):=Aq _ _;have hW:=ih y _ _ row C _ (IsE.keep (Ae (ac.mono (aC hC aa.size))) y _ bi) (aC (aC hC aa.size) ac.size) bg bh ((hr.below aa).below ac) an ap;generalize hz:ev row y=z at hW;obtain⟨zk,zn,zs⟩:=z;simp only[V.val]at hW;have ae:=hG.keep (ac.block _ hG.lt);obtain⟨u0,bk⟩:=ae.cell (j:=j*3) (by omega);obtain⟨u1,bl⟩:=ae.cell (j:=j*3+1) (by omega);obtain⟨u2,bm⟩:=ae.cell (j:=j*3+2) (by omega);have bn:=ae.free;have am:=ae.lt;go_wp2_with(first|(refine hW.mono ?_;rintro r1 w2 ⟨rfl,ad⟩;have q1:=(fun o=>ad.cell (p:=⟨_,o,N⟩) am);have q2:=(fun o=>ad.frozen (p:=⟨_,o,N⟩) am)));have ag:=aA hE;have ah:=aA hR;go_roundw
   case rel=>
    refine⟨_,by omega,by rfl,(ae.keep (ad.block _ am)).set HY.out (by omega) ⟨zk,zn,zs⟩ hz.symm,?_,?_,?_,?_⟩
    ·rw[Ah4 (by omega)];exact((Ac ac ad).block _ ag).trans hE
    ·rw[Ah4 (by omega)];exact((Ac ac ad).block _ ah).trans hR
    ·exact(((aa.trans ((Ac ac ad).mono aa.size)).setCell (show w.heap.size≤w.heap.size+1+1 by omega) _).setCell (show w.heap.size≤w.heap.size+1+1 by omega) _).setCell (show w.heap.size≤w.heap.size+1+1 by omega) _
    ·rw[Awn];exact aC ay (Ac ac ad).size
   case measure=>simp[bL];omega
  ·have bj:j=K.length:=by omega
   subst bj;have bc:=hG.vals;have bd:∀v∈K.map (ev row),v.s.size≤aM:=by
    intro v hv;obtain⟨y,hy,rfl⟩:=cN.1 hv;exact Amq row an y (aj.out y hy).2
   have ai:=fun W hW=>Ah2 op ⟨xk,xn,xs⟩ s name n ao l.length c _ _ _ row W (bc.below hW) bd ((hr.below aa).below hW) ap
   rw[←ak.out]at ai;have c0:=Aa hE (j:=0) rfl;have c1:=Aa hE (j:=1) rfl;have c2:=Aa hE (j:=2) rfl;have c3:=Aa hE (j:=3) rfl;have c4:=Aa hE (j:=4) rfl;have c5:=Aa hE (j:=5) rfl;have c6:=Aa hE (j:=6) rfl;have c7:=Aa hE (j:=7) rfl;have r0:=Aa hR (j:=0) rfl;have r1:=Aa hR (j:=1) rfl;have r2:=Aa hR (j:=2) rfl;have rf:∀o,wr.frozen? ⟨w.heap.size+1,o,N⟩=aR:=fun o=>by simp[aF,hR]
   have ag:=aA hE;have ah:=aA hR;have s0:(0:Int)≤K.length:=by omega
   have s1:(K.length:Int)≤2:=by omega
   generalize hz:ev row _=z at ai;obtain⟨zk,zn,zs⟩:=z;simp only[V.val]at ai;clear bc bd az ar ak hE;go_wp2
   go_region_held3(fun w'=>w'.cell? ⟨w.heap.size,0,N⟩=H (Y Z op)∧w'.cell? ⟨w.heap.size,1,N⟩=H (Y Z xk)∧w'.cell? ⟨w.heap.size,2,N⟩=H (Y Z xn)∧w'.cell? ⟨w.heap.size,3,N⟩=H (U xs)∧w'.cell? ⟨w.heap.size,4,N⟩=H (U s)∧w'.cell? ⟨w.heap.size,5,N⟩=H (U name)∧w'.cell? ⟨w.heap.size,6,N⟩=H (Y Z n)∧w'.cell? ⟨w.heap.size,7,N⟩=H (D ao l.length c)) (first|(go_keep;done)|((try dsimp only);(repeat' apply aN)<;>(rw[A3 (by omega),A3 (by omega),A3 (by omega)];first|assumption|go_keep|simp_all)))
    (first|(go_fit(ai _ (aE _ _).drew);rintro e2 w3 ⟨rfl,ab⟩;obtain⟨q1,q2,q3,q4⟩:=Art ab ag ag ah))
   go_wp2;rw[hz];exact Er _ eR rfl rfl ((ab.block _ ah).trans hR) (aa.drew.trans (ab.mono aa.size)) (by omega)
theorem Aep:∀m:Nat,m≤1000→Rc m
 |0,_=>Aph
 |m+1,h=>Api m (by omega) (Aep m (by omega))
theorem Ach (e)(v rv)(row)(C)(w)(he:IsE (fun k=>k<C) w e v)(hC:C≤w.heap.size)(hn:e.nodes≤16777216)(hf:Ek e)(hr:Cq w rv row)(ac:∀v∈row,v.s.size≤aM)(ad:row.length≤aM):
  bB aI 121 #[v,rv] w fun r w'=>r=aK (ev row e).val∧Below w.heap.size w w':=by
 obtain⟨op,⟨xk,xn,xs⟩,s,name,n,ao,k,c,rfl⟩:=he.shape;obtain⟨ro,rc,rfl⟩:=hr.shape;have aa:Below _ w ((w.alloc (aD (Af op ⟨xk,xn,xs⟩ s name n (D ao k c)) 48)).alloc (aD #[Y Z 0,Y Z 0,U noW] 46)):=Dd _ _ _;have hW:bB _ 199 #[aY _,D ro _ rc,Y _ 1000] _ _:=Aep _ (aG _) e _ _ row C _ (IsE.keep (Ae (aa.mono hC)) e _ he) (aC hC aa.size) hn hf (hr.below aa) ac ad;generalize ev row e=z at hW⊢;obtain⟨zk,zn,zs⟩:=z;simp only[V.val]at hW;go_enter Tryz.func121,Tryz.ntmps121;go_wp2_with(first|(refine hW.mono ?_;rintro r1 w1 ⟨rfl,ab⟩;obtain⟨ae,af⟩:=E9 ab));exact Er _ Tryz.results121 rfl rfl ((ab.block _ (by simp)).trans (Cc _ _ _)) (Ac (Dd _ _ _) ab) (by omega)
def Fk (e:E):Prop:=e.nodes≤16777216∧Ek e
theorem Ub (l:List E)(lv rv:aX)(row:List V)(C:Nat)(w:bD)(hl:IsL Az (fun k=>k<C) w lv l)(hC:C≤w.heap.size)(hn:∀e∈l,Fk e)(bo:l.length≤16777216)(hr:Cq w rv row)(al:∀v∈row,v.s.size≤aM)(am:row.length≤aM):
  bB aI 62 #[lv,rv] w fun e w'=>∃vv,e=aK vv∧w'.ownsRow w.heap.size 46 3 vv l.length (Ax (l.map (ev row)))∧Below w.heap.size w w':=by
 obtain⟨i0,ba,bb,bc,bd⟩:=dH Qt;obtain⟨lo,lc,rfl⟩:=hl.shape;obtain⟨ro,rc,be⟩:=hr.shape;subst be;have HN:Hid _:=hn;have HS:Hid _:=al;have bf:Hid _:=am;have HL:Hid _:=hl;clear hn al hl am;go_enter Tryz.func62,Tryz.ntmps62;go_wp2
 go_loopw[5,10] (fun zv i wr=>∃k:Nat,k≤l.length∧i=Y Z k∧wr.ownsRow w.heap.size 46 3 zv k (Ax ((l.map (ev row)).take k))∧Below w.heap.size w wr) (fun _ i _=>l.length-(bL i).toNat)
 case atStart=>exact⟨0,aP _,rfl,dB _ _ _ _,aE _ _⟩
 case round=>
  obtain⟨k,hk,rfl,an,ac⟩:=hrel;have ab:=ac.size
  by_cases ap:k<l.length
  ·obtain⟨e0,hx⟩:∃e,l[k]?=H e:=⟨_,aB ap⟩;obtain⟨b,bp,cs,bg,bq,bt,⟨bh,af⟩,aa⟩:=At (IsL.keep HL.out (Ae (ac.mono hC))) hx;cases bg;obtain⟨ag,⟨ah,ai,aj⟩,s',ak,n',aq,k',c',ar,_⟩:=Rr af;obtain rfl:cs=[Y Z ag,Y Z ah,Y Z ai,U aj,U s',U ak,Y Z n',D aq k' c']:=by have:=congrArg Array.toList (eI ar);simpa using this
   have d0:=aa 0 _ rfl;have d1:=aa 1 _ rfl;have d2:=aa 2 _ rfl;have d3:=aa 3 _ rfl;have d4:=aa 4 _ rfl;have d5:=aa 5 _ rfl;have d6:=aa 6 _ rfl;have d7:=aa 7 _ rfl;simp only[Az,bC]at d0 d1 d2 d3 d4 d5 d6 d7;obtain⟨au,av⟩:=HN.out e0 (aH hx);have ad:=fun W h=>Ach e0 (aY (Af ag ⟨ah,ai,aj⟩ s' ak n' _)) _ row C W (IsE.keep (Ae (h.mono (aC hC ab))) _ _ af) (aC hC (aC ab h.size)) au av ((hr.below ac).below h) HS.out bf.out
   have aw:Hid (Ax ((l.map (ev row)).take (k+1))=Ax ((l.map (ev row)).take k)++(ev row e0).cells):=by
    show _=_;rw[bM,bO,hx,Option.map_some,cM,Aas]
   generalize ev row e0=v at ad aw;obtain⟨vk,vn,vs⟩:=v;simp only[V.val]at ad;obtain⟨ax,hX,-⟩:=al1 wr (aD (Af ag ⟨ah,ai,aj⟩ s' ak n' (D aq k' c')) 48);have bi:=ad _ ax;have v0:(0:Int)≤k:=by omega
   have v1:k<(l.length:Int):=by omega
   have HJ:Hid (k+1≤l.length):=ap;clear hx aa af ar bh au av ad;go_wp2_with(first
    |(go_fit bi;rintro e w1 ⟨rfl,bj⟩;have ae:=Ac ax bj;have ay:=Ak an (Ac ae (Aq w1 (aD [Y Z vk,Y Z vn,U vs].toArray 46)));have bk:=Cb w1 [Y Z vk,Y Z vn,U vs] 46;have az:=aC ab (aC ae.size (Aq w1 (aD [Y Z vk,Y Z vn,U vs].toArray 46)).size))
    |(at_builtin;go_must(refine wpList_append_own_at _ rfl _ _ 79 rfl _ 46 i0 _ 3 32 bU ba bb bc bd rfl (by simp) _ _ _ rfl ay _ 1 1 _ rfl rfl bk ?h1 (by simp only[aM];omega) (by omega) az ?h2)))
   case h1=>intro u hu;simp at hu;rcases hu with rfl|rfl|rfl<;>rfl
   case h2=>
    intro z2 w4 bl bm _ _;go_wp2_with fail;go_roundw
    case rel=>exact⟨_,HJ.out,by rfl,by rw[aw.out];exact bl,((ac.trans (ae.mono ab)).alloc (aC ab ae.size) _).grown bm az (fun k hk=>(ay.lt k hk).1)⟩
    case measure=>have:=HJ.out;simp[bL];omega
  ·have bn:k=l.length:=by omega
   subst bn;have v1:¬(l.length<(l.length:Int)):=by omega
   rw[cV (by simp)]at an;go_wp2;go_ret;simp_all
def Au (e:E)(row:List V):Bool:=decide (e.opn=0)||decide (ofV (ev row e)=1)
theorem Ah5 (e0)(op xk xn)(xs s ad:Wd)(n8)(ao)(kk cc)(rv)(row)(C)(w)(he:IsE (fun k=>k<C) w e0 (aY (Af op ⟨xk,xn,xs⟩ s ad n8 (D ao kk cc))))(hC:C≤w.heap.size)(hn:Fk e0)(hr:Cq w rv row)(ai:∀v∈row,v.s.size≤aM)(aj:row.length≤aM):
  bB aI 126 #[aY (Af op ⟨xk,xn,xs⟩ s ad n8 (D ao kk cc)),rv] w fun e w'=>e=aK (dO (Au e0 row))∧Below w.heap.size w w':=by
 have ag:op=e0.opn:=by
  obtain⟨al,x',s',n',i',am,k',c',h1,h2⟩:=Rr he;have h3:=congrArg Array.toList (eI h1);simp only[List.cons.injEq,Value.int.injEq]at h3;rw[h2];exact h3.1.2
 have aa:=Aq w (aD (Af op ⟨xk,xn,xs⟩ s ad n8 (D ao kk cc)) 48);have ac:=Ach e0 _ rv row C _ (IsE.keep (Ae (aa.mono hC)) _ _ he) (aC hC aa.size) hn.1 hn.2 (hr.below aa) ai aj;have ab:=fun W=>U4 (ev row e0) W
 have HB:Hid (Au e0 row=(decide (op=0)||decide (ofV (ev row e0)=1))):=by show _=_;rw[ag];rfl
 generalize Au e0 row=q at HB;generalize ev row e0=v at ac ab HB;obtain⟨vk,vn,vs⟩:=v;simp only[V.val]at ac ab;generalize ofV _=o at ab HB;obtain⟨ro,rc,ak⟩:=hr.shape;subst ak;clear he ag hr
 by_cases h0:op=0
 ·subst h0;go_enter eA,dT;go_wp2;go_ret;exact⟨Ah (by rw[HB.out];rfl),aa⟩
 ·have hq:(op==0)=aR:=by simp[h0]
  have ah:Hid (q=decide (o=1)):=by show _=_;rw[HB.out,decide_eq_false h0];rfl
  clear h0 HB
  by_cases ho:o=1
  ·subst ho;go_enter eA,dT;go_wp2_with(first|(go_fit ac;rintro e w1 ⟨rfl,ae⟩)|(go_fit(ab _);rintro e w2 ⟨rfl,af⟩));go_ret;exact⟨Ah (by rw[ah.out];rfl),Ac (Ac aa ae) af⟩
  ·have an:(o==1)=aR:=by simp[ho]
   go_enter eA,dT;go_wp2_with(first|(go_fit ac;rintro e w1 ⟨rfl,ae⟩)|(go_fit(ab _);rintro e w2 ⟨rfl,af⟩));go_ret;exact⟨Ah (by rw[ah.out,decide_eq_false ho]),Ac (Ac aa ae) af⟩
end
section
open Go.RowKit
open Go.Sort (SWO PermIn SortedIn HoldsK heap_grow_old)
structure Fnd where
 row:List V
 ids:List V
 ord:List V
def Qk:Elem Fnd where
 size:=3
 R F w f c:=∃a b d,c=[a,b,d]∧IsL Ly F w a f.row∧IsL Ly F w b f.ids∧IsL Ly F w d f.ord
 len h:=by grind
 keep hk h:=by obtain⟨a,b,d,h1,h2,h3,h4⟩:=h;exact⟨a,b,d,h1,h2.keep hk,h3.keep hk,h4.keep hk⟩
 mono hk h:=by obtain⟨a,b,d,h1,h2,h3,h4⟩:=h;exact⟨a,b,d,h1,h2.mono hk,h3.mono hk,h4.mono hk⟩
def Di (base:Nat)(z:aX)(A:List Fnd)(w:bD):Prop:=∃cs,w.ownsRow base 123 3 z A.length cs∧All Qk (FO base z) w A cs
def Ku (tn:Int):Fnd→Fnd→Int:=Ak3 (fun x y=>tn*Ez x.ord y.ord) (fun x y=>Ez x.ids y.ids)
theorem Aci {tn}(h:tn=1∨tn= -1):Cmp (Ku tn):=by
 rcases h with rfl|rfl
 ·exact Cmp.lex (Cmp.one (A5b.pull _)) (A5b.pull _)
 ·exact Cmp.lex (Cmp.neg (A5b.pull _)) (A5b.pull _)
theorem A4e (x y)(b c)(w)(h0:w.cell? ⟨b,0,N⟩=H (Y Z x))(h1:w.cell? ⟨b,1,N⟩=H (Y Z y)):
  bB aI 134 #[D (H ⟨b,0,N⟩) 2 c] w fun e w'=>e=aK (Y Z (if x=0 then y else x))∧w'=w:=by
 by_cases hx:x=0<;>by_cases hy:y=0
 all_goals
  go_enter Tryz.func134,Tryz.ntmps134;go_wp2;refine wp_loop_rounds 3 ?_;rw[eP];go_wp2
  all_goals(try(rw[eP];go_wp2))
  all_goals(try(rw[eP];go_wp2))
  all_goals go_ret
  simp
theorem As7 (x y)(x1 x2 x3 y1 y2 y3)(tn)(p)(w)(be:Hk x1)(bf:Hk y1)(aj:Cq w x2 x.ids)(ak:Cq w x3 x.ord)(al:Cq w y2 y.ids)(am:Cq w y3 y.ord)(hl:x.ids.length≤1000000∧x.ord.length≤1000000∧y.ids.length≤1000000∧y.ord.length≤1000000)(hp:w.cell? ⟨p,0,N⟩=H (Y Z tn))(ar:tn=1∨tn= -1):
  bB aI 133 #[aY #[x1,x2,x3],aY #[y1,y2,y3],aV (H ⟨p,0,N⟩)] w fun e w'=>e=aK (Y Z (Ku tn x y))∧Gro w w':=by
 obtain⟨au,av,aw,rfl⟩:=be;obtain⟨ax,ay,az,rfl⟩:=bf;obtain⟨ab,ac,bg⟩:=aj.shape;subst bg;obtain⟨ad,ae,bh⟩:=ak.shape;subst bh;obtain⟨af,ag,bi⟩:=al.shape;subst bi;obtain⟨ah,ai,bj⟩:=am.shape;subst bj;have bk:p<w.heap.size:=block_lt_of_cell hp;have aa:Gro w ((w.alloc (aD #[D au av aw,D ab x.ids.length ac,D ad x.ord.length ae] 123)).alloc (aD #[D ax ay az,D af y.ids.length ag,D ah y.ord.length ai] 123)):=((Gro.refl _).alloc _).alloc _;obtain⟨-,bX,bY,-⟩:=al2 w (aD #[D au av aw,D ab x.ids.length ac,D ad x.ord.length ae] 123) (aD #[D ax ay az,D af y.ids.length ag,D ah y.ord.length ai] 123);generalize hW:(w.alloc _).alloc _=W1 at aa bX bY;have HW:Hid _:=hW;have ba:=fun W (h:Gro W1 W)=>Up _ _ _ _ W ((ak.below aa.bel).below h.bel) ((am.below aa.bel).below h.bel) hl.2.1 hl.2.2.2
 have bb:=fun W (h:Gro W1 W)=>Up _ _ _ _ W ((aj.below aa.bel).below h.bel) ((al.below aa.bel).below h.bel) hl.1 hl.2.2.1
 have KS:Hid _:=fun W (h:Gro W1 W)=>aN (show W.cell? _=H _ from((aa.trans h).bel.cell bk).trans hp) (aN (show W.cell? _=H (D ab _ ac)from Aa ((h.bel.block _ (aA bX)).trans bX) (j:=1) rfl) (aN (show W.cell? _=H (D ad _ ae)from Aa ((h.bel.block _ (aA bX)).trans bX) (j:=2) rfl) (aN (show W.cell? _=H (D af _ ag)from Aa ((h.bel.block _ (aA bY)).trans bY) (j:=1) rfl) (show W.cell? _=H (D ah _ ai)from Aa ((h.bel.block _ (aA bY)).trans bY) (j:=2) rfl))))
 have s0:=KS.out _ (Gro.refl _).drew;have EO:Hid (Ku tn x y=if tn*Ez _ _=0 then Ez _ _ else tn*Ez _ _):=rfl;have hc:=Adi x.ord y.ord;generalize Ku tn x y=res at EO;generalize Ez _ _=m1 at ba EO hc;generalize Ez _ _=m2 at bb EO;clear hW aj ak al am hp hl;have bc:IntKind.i64.wrap (tn*m1)=tn*m1:=by rcases ar with rfl|rfl<;>rcases hc with rfl|rfl|rfl<;>decide
 obtain⟨pr,an⟩:∃q,q=tn*m1:=⟨_,rfl⟩;have bo:IntKind.i64.wrap (tn*m1)=pr:=by rw[an];exact bc
 have bd:Hid (res=if pr=0 then m2 else pr):=by show _=_;rw[an];exact EO.out
 have bl:=fun b c W h0 h1=>(A4e pr m2 b c W h0 h1).mono (R':=fun e w'=>e=aK (Y _ res)∧w'=W) (fun e w' ⟨h1,h2⟩=>⟨by rw[h1,bd.out],h2⟩)
 clear EO an bc ar hc bd;go_enter Tryz.func133,Tryz.ntmps133;go_upto_region 1 with fail;rw[HW.out]
 go_region_held3(fun W=>W.cell? ⟨p,0,N⟩=H (Y Z tn)∧W.cell? ⟨w.heap.size,1,N⟩=H (D ab x.ids.length ac)∧W.cell? ⟨w.heap.size,2,N⟩=H (D ad x.ord.length ae)∧W.cell? ⟨w.heap.size+1,1,N⟩=H (D af y.ids.length ag)∧W.cell? ⟨w.heap.size+1,2,N⟩=H (D ah y.ord.length ai)) (with_reducible omega)
  (first
   |(go_fit(ba _ (Gro.refl _).drew);rintro e w2 ⟨rfl,bm⟩;have ap:=(Gro.refl _).drew.trans bm;have s1:=KS.out w2 ap)
   |(go_fit(bb _ ap);rintro e w3 ⟨rfl,bn⟩;have aq:=ap.trans bn;have s2:=KS.out w3 aq;have s3:=KS.out _ (aq.alloc (aD #[Y Z pr,Y Z m2] 3)))
   |(go_at_call 134;refine(bl _ _ _ ?_ ?_).mono ?_;(simp[go_sem]);(simp[go_sem]);rintro e w4 ⟨rfl,rfl⟩))
 go_wp2_with fail;go_ret;exact⟨rfl,aa.trans (aq.alloc _)⟩
abbrev Aeq (B:Nat)(z:aX)(w:bD):Type:={p:List aX×Fnd//Qk.R (FO B z) w p.2 p.1∧p.2.ids.length≤1000000∧p.2.ord.length≤1000000}
def Aeq.enc {B:Nat}{z:aX}{w:bD}(x:Aeq B z w):List aX:=x.1.1
def Aeq.cmp {B:Nat}{z:aX}{w:bD}(tn:Int)(x y:Aeq B z w):Int:=Ku tn x.1.2 y.1.2
theorem Ah6 {B}{z}{w}:∀{A:List Fnd}{cs:List aX},All Qk (FO B z) w A cs→(∀f∈A,f.ids.length≤1000000∧f.ord.length≤1000000)→∃L:List (Aeq B z w),(L.map Aeq.enc).flatten=cs∧L.map (fun x=>x.1.2)=A
 |[],cs,h,_=>⟨[],by have:cs=[]:=h;grind,rfl⟩
 |r::A,cs,h,hn=>by
  obtain⟨c,rest,rfl,h1,h2⟩:=h;obtain⟨L,h3,h4⟩:=Ah6 h2 fun q hq=>hn q (by simp[hq])
  exact⟨⟨(c,r),h1,hn r (by simp)⟩::L,by simp[h3,Aeq.enc],by grind⟩
theorem Aer {B}{z}{w}:∀(L:List (Aeq B z w)),All Qk (FO B z) w (L.map fun x=>x.1.2) (L.map Aeq.enc).flatten
 |[]=>rfl
 |x::L=>⟨x.enc,(L.map Aeq.enc).flatten,rfl,x.2.1,Aer L⟩
theorem Y6 {B}{z}{w}(x:Aeq B z w):x.enc.length=3:=Qk.len x.2.1
theorem Aes {α}[Inhabited α](enc)(hk:∀x,(enc x).length=3)(d:List α):(bP enc 3 d.toArray).toList=(d.map enc).flatten:=by
 have aa:∀c∈d.map enc,c.length=3:=fun c hc=>by grind
 have ab:(d.map enc).flatten.length=d.length*3:=by rw[Gv aa,aS]
 apply List.ext_getElem
 ·simp_all
 ·intro t h1 h2;have ht:=by rw[ab]at h2;exact h2
  have hq:t/3<d.length:=by omega
  have e:t=t/3*3+t%3:=by omega
  have hc:(d.map enc)[t/3]?=H (enc d[t/3]):=by rw[bO,aB hq];rfl
  have hr:(enc _)[t%3]?=H ((enc d[t/3])[t%3]'(by rw[hk];omega)):=aB _;have h3:=Kk aa hc _ _ hr;rw[←e]at h3;rw[aB h2]at h3;rw[cD h3];simp[bP,hq];grind
theorem Ajn (A)(z)(tn)(p B)(w)(h:Di B z A w)(hB:B≤w.heap.size)(hp:w.cell? ⟨p,0,N⟩=H (Y Z tn))(aj:H p≠z.ownBlock)(af:tn=1∨tn= -1)(ak:∀f∈A,f.ids.length≤1000000∧f.ord.length≤1000000)(hl:A.length≤1000000):
  bB aI 132 #[z,.func (.func 133) #[] #[aV (H ⟨p,0,N⟩)]] w fun e w'=>e=aK (dK #[])∧∃A',A'.Perm A∧(A'.Pairwise fun a b=>¬Ku tn b a<0)∧Di B z A' w'∧RowKit.Below B w w':=by
 obtain⟨cs,ag,ab⟩:=h;have ah:=ag;rcases ag.2 with⟨rfl,h0⟩|⟨g,cap,cur,rfl,hBg,hh,hnc,hcm,hcs,htake⟩
 ·have hA:=aU h0;subst hA;refine(dR Tryz.sortFound N 0 _ w).mono ?_;rintro e w' ⟨rfl,rfl⟩;exact⟨rfl,[],eH _,dM,⟨cs,ah,ab⟩,dP _ _⟩
 ·rcases A with _|⟨r0,A0⟩
  ·refine(dR Tryz.sortFound _ cap _ w).mono ?_;rintro e w' ⟨rfl,rfl⟩;exact⟨rfl,[],eH _,dM,⟨cs,ah,ab⟩,dP _ _⟩
  generalize al:r0::A0=A at*;obtain⟨L,am,an⟩:=Ah6 ab ak;have ac:=by have:=congrArg List.length an;simpa using this
  have bl:0<L.length:=by rw[ac,←al];simp
  have bm:Inhabited _:=⟨L[0]⟩;have ai:=Aes _ Y6 L;rw[am]at ai;have hH:HoldsK (Aeq.enc) 3 w g 0 L.toArray:=by
   intro j hj;refine⟨?_,by simp[aF,hh]⟩;have hc:cs[j]?=H ((bP Aeq.enc 3 L.toArray)[j]):=by rw[←ai];simp
   rw[getElem!_pos _ j hj,cO];refine Aa hh ?_;have bn:j<A.length*3:=by have:=hj;simp[ac]at this;exact this
   rw[←htake,dW (by omega)]at hc;simpa using hc
  have eg:∀args w,(callFunc 133 args).run _ w=.ok _ w:=enters_of Tryz.func133 (by rfl) rfl;have ap:Go.Proofs.CmpLays aI 133 #[aV (H ⟨p,0,N⟩)] (Aeq.enc) 3 (Aeq.cmp (B:=B) (z:=D (H ⟨g,0,N⟩) A.length cap) (w:=w) tn) g 0 L.toArray.size w:=by
   intro m os dk _ x y;have hk:=Qy (B:=B) (w:=w) (g:=g) (cap:=cap) (n:=A.length) (id:aX→aX) m (bP (Aeq.enc (B:=B) (z:=D (H ⟨g,0,N⟩) A.length cap) (w:=w)) 3 dk) os;obtain⟨⟨xc,xf⟩,hx,aq,ar⟩:=x;obtain⟨⟨yc,yf⟩,hy,au,av⟩:=y;obtain⟨x1,x2,x3,rfl,aw,ax,ay⟩:=Qk.keep hk hx;obtain⟨y1,y2,y3,rfl,az,ba,bb⟩:=Qk.keep hk hy;have bc:g≠p:=fun e=>aj (by simp[eQ,e])
   have aa:(cW (id:aX→aX) w g 0 m (bP (Aeq.enc (B:=B) (z:=D (H ⟨g,0,N⟩) A.length cap) (w:=w)) 3 dk) os).cell? ⟨p,0,N⟩=H (Y Z tn):=by
    rw[cG (w:=w) (a:=⟨p,0,N⟩)]
    ·omega
    ·unfold cW;rw[heap_grow_old _ _ (by simpa using block_lt_of_cell hp)];simp[Go.Sort.putRow,Go.Sort.mapBlock,cX,bc]
   refine(As7 xf yf x1 x2 x3 y1 y2 y3 tn p _ (Gh aw) (Gh az) (F6 ax) (F6 ay) (F6 ba) (F6 bb) ⟨aq,ar,au,av⟩ aa af).mono ?_;rintro e w' ⟨rfl,hg⟩;exact⟨rfl,hg.grow⟩
  have hS:=AnyQ.slices_SortFunc Tryz.sortFound 3 Tryz.isAgg123 Tryz.sizeOf123 _ Y6 (fun x v hv=>by
   obtain⟨a,b,d,h1,h2,h3,h4⟩:=x.2.1;have ad:v∈x.1.1:=hv;rw[h1]at ad;obtain⟨_,_,rfl⟩:=h2.shape;obtain⟨_,_,rfl⟩:=h3.shape;obtain⟨_,_,rfl⟩:=h4.shape;simp at ad;rcases ad with rfl|rfl|rfl<;>rfl) (Aeq.cmp tn) (((Aci af).pull _).swo) 133 _ g 0 cap _ w eg ap hH (aA hh) (by grind)
  have es:L.toArray.size=A.length:=by simp[ac]
  rw[es]at hS;refine hS.mono ?_;rintro e w' ⟨rfl,d',n',os,bd,hs,rfl⟩;obtain⟨be,_,aa⟩:=bd;have ae:d'.size=A.length:=by rw[be];exact es
  have bo:=by
   have e1:d'.extract 0 A.length=d':=Mg ae;have e2:L.toArray.extract 0 A.length=L.toArray:=Mg es;rw[e1,e2]at aa;simpa using aa
  have bf:=Aes _ Y6 d'.toList;rw[cH]at bf;have bg:(bP (Aeq.enc) 3 d').toList.length=A.length*3:=by simp[ae]
  have bh:Go.Proofs.sortWorldK _ 3 w g 0 n' d' os=cW _ w g 0 n' (bP (Aeq.enc) 3 d') os:=rfl;rw[bh];refine⟨rfl,d'.toList.map (fun x=>x.1.2),?_,?_,?_,Adf hBg hB _ _ _ _⟩
  ·grind
  ·rw[eL,List.pairwise_iff_getElem];intro i j hi hj bi;have bj:=by simpa using hi
   have bk:=by simpa using hj
   have:=hs i j (aP _) bi (by omega);rw[getElem!_pos d' i bj,getElem!_pos d' j bk]at this;have h2:=of_decide_eq_false this;assumption
  ·refine⟨(d'.toList.map Aeq.enc).flatten,⟨by grind,.inr ⟨g,cap,_,by grind,hBg,Ahg hh _ _ _ _,by grind,hcm,by simp[Go.Sort.putCells,hcs],?_⟩⟩,?_⟩
   ·have:=Ak1 id cur (bP (Aeq.enc) 3 d').toList (by omega);rw[bg,cH]at this;rw[aS,Array.length_toList,ae,this,List.map_id];omega
   ·exact All.keep (Qy _ n' _ os) (Aer _)
end
end Go.Proofs.YtocegbpmmiabmaaGreatDoor
namespace Go.Proofs
open Go.Shelf
def Tryz.laysGrowV_ren:Go.Shelf.Ren:=⟨fun|4=>282|n=>n,fun|22=>79|25=>46|3=>3|4=>4|9=>9|20=>20|0=>0|n=>n,fun|n=>n⟩
theorem Tryz.laysGrowV:Go.Proofs.Lays8.n4 aI Tryz.laysGrowV_ren:={
 mixed:=by kernel_rfl
 f4:=sN Tryz.func282
 t0:=Tryz.underlying0
 a0:=Tryz.isAgg0
 z0:=Tryz.sizeOf0
 v0:=Tryz.zeroValue0
 t3:=Tryz.underlying3
 a3:=Tryz.isAgg3
 z3:=Tryz.sizeOf3
 v3:=Tryz.zeroValue3
 t4:=Tryz.underlying4
 a4:=Tryz.isAgg4
 z4:=Tryz.sizeOf4
 v4:=Tryz.zeroValue4
 t9:=Tryz.underlying9
 a9:=Tryz.isAgg9
 z9:=Tryz.sizeOf9
 v9:=Tryz.zeroValue9
 t20:=Tryz.underlying20
 a20:=Tryz.isAgg20
 z20:=Tryz.sizeOf20
 v20:=Tryz.zeroValue20
 t22:=bU
 a22:=Tryz.isAgg79
 z22:=Tryz.sizeOf79
 v22:=Tryz.zeroValue79}
end Go.Proofs
namespace Go.Proofs.YtocegbpmmiabmaaGreatDoor
section
open Go.RowKit
theorem A44 (n:Nat)(w)(hn:n*32≤140737328355328):
  bB aI 282 #[D N 0 0,Y Z n] w fun e w'=>∃v,e=aK v∧w'.ownsRow w.heap.size 46 3 v 0 []∧Below w.heap.size w w':=by
 obtain⟨i0,hi,aa,ab,ac⟩:=dH Qt;rcases Nat.eq_zero_or_pos n with rfl|h0
 ·refine(Any8.slices_Grow_room Tryz.laysGrowV N 0 0 0 w (aG _) (by omega) (by omega) (by omega)).mono ?_;rintro e w' ⟨rfl,rfl⟩;exact⟨_,rfl,dB _ _ _ _,aE _ _⟩
 ·refine(Any8.slices_Grow_grow Tryz.laysGrowV i0 _ hi aa (by omega) N 0 0 n [] w (by omega) (by omega) (by grind) (by omega) (by simp) (fun _=>rfl) (fun a h=>by simp)).mono ?_;rintro e w' ⟨rfl,rfl⟩;rw[cO];have hG:grownCap w n 0 46≤aM:=grownCap_le_maxLen w n 0 _ (by unfold aM;omega);exact⟨_,rfl,Abr rfl (grownCap_ge w n 0 46) hG,((aE _ w).drew).alloc (aG _) _⟩
theorem A2l (X:Vb)(g:Nat)(cap:Nat)(w:bD)(hg:g<w.heap.size)(hc:∀i x,X[i]?=H x→w.cell? ⟨g,i,N⟩=H x.1)(hX:∀x∈X,Ex 3 w x.1 x.2.1 x.2.2∧∀u∈x.2.2,u.oneCell'=aZ)
  (az:X.length≤3) (hs:Vb.sum X*32≤140737328355328):
  bB aI 215 #[D (H ⟨g,0,N⟩) X.length cap] w fun e w'=>∃v,e=aK v∧w'.ownsRow w.heap.size 46 3 v (Vb.sum X) (Vb.all X)∧Below w.heap.size w w':=by
 obtain⟨i0,hi,an,ap,aq⟩:=dH Qt;have HX:=hid hX;have HC:=hid hc;clear hX hc;generalize ar:Vb.sum X=S at hs⊢;have HS:=hid ar;clear ar;go_enter Tryz.func215,Tryz.ntmps215;go_wp2
 go_loopw[3,11] (fun z i wr=>∃k s:Nat,k≤X.length∧s≤S∧i=Y Z k∧z=Y Z s∧w=wr∧Hid (s=Vb.sum (X.take k))) (fun _ i _=>X.length-(bL i).toNat)
 case atStart=>exact⟨0,0,aP _,aP _,rfl,rfl,rfl,hid (by simp[Vb.sum])⟩
 case round=>
  obtain⟨k,s,hk,ba,rfl,rfl,rfl,HT⟩:=hrel
  by_cases ah:k<X.length
  ·obtain⟨x,hx⟩:∃x,X[k]?=H x:=⟨_,aB ah⟩;have c0:=HC.out k x hx;obtain⟨ao,c,au⟩:=(HX.out x (aH hx)).1.shape;have ab:=Vb.sum_take X k x hx;have ag:=Vb.sum_le X (k+1);rw[HS.out,ab,←HT.out]at ag;rw[←HT.out]at ab;have ae:=hid ab;clear hx ab;rw[au]at c0;generalize x.2.1=m at*;clear au;have av:(0:Int)≤(k:Int):=by omega
   have aw:(k:Int)<(X.length:Int):=by omega
   have bb:¬((s:Int)+(m:Int)<0):=by omega
   go_wp2;go_roundw
   case rel=>exact⟨k+1,s+m,by omega,by omega,by go_num,by go_num,by first|trivial|rfl,hid (by rw[ae.out])⟩
   case measure=>simp[bL];omega
  ·have ai:k=X.length:=by omega
   have ax:s=S:=by rw[HT.out,ai,bV,HS.out]
   subst ax;go_wp2_with(refine(A44 s w hs).mono ?_;rintro e w1 ⟨v,rfl,hv,ay⟩)
   go_loopw[6,27] (fun z i wr=>∃k:Nat,k≤X.length∧i=Y Z k∧wr.ownsRow w.heap.size 46 3 z (Vb.sum (X.take k)) (Vb.all (X.take k))∧Below w.heap.size w wr) (fun _ i _=>X.length-(bL i).toNat)
   case atStart=>exact⟨0,aP _,rfl,by simpa[Vb.sum,Vb.all]using hv,ay⟩
   case round=>
    obtain⟨k,hk,rfl,ac,aa⟩:=hrel
    by_cases ah:k<X.length
    ·obtain⟨x,hx⟩:∃x,X[k]?=H x:=⟨_,aB ah⟩;have c0:=HC.out k x hx;rw[←aa.cell hg]at c0;obtain⟨hr,h1⟩:=HX.out x (aH hx);replace hr:=hr.below aa;have ab:=Vb.sum_take X k x hx;have aj:=Vb.all_take X k x hx;have ag:=Vb.sum_le X (k+1);rw[HS.out,ab]at ag;obtain⟨sv,m,cs⟩:=x;simp only at c0 hr h1 ab aj ag;have ae:=hid ab;have ak:=hid aj;clear hx ab aj;generalize Vb.sum (X.take k)=s1 at*;generalize Vb.all (X.take k)=a1 at*;have av:(0:Int)≤k:=by omega
     have aw:k<(X.length:Int):=by omega
     rcases hr.2 with⟨rfl,ao,c,rfl,hnil⟩|⟨hm0,b,off,c,rfl,hb,hmc,hcm,hcell⟩
     ·obtain rfl:=aU (by simpa using hr.1);rcases ao with _|ad
      ·obtain rfl:=hnil rfl;go_wp2_with(at_builtin;go_must(refine wpList_append_own_none rfl _ _ 79 rfl _ 46 i0 3 bU hi _ _ _ rfl ac rfl ?_));go_roundw
       case rel=>exact⟨k+1,by omega,by rfl,by rw[ae.out,ak.out,bC,cI];exact ac,aa⟩
       case measure=>simp[bL];omega
      ·have al:∀j u,([]:List aX)[j]?=H u→wr.cell? (ad.add j)=H u:=fun j u h=>by grind
       go_wp2_with(at_builtin;go_must(refine wpList_append_own _ rfl _ _ 79 rfl _ 46 i0 _ 3 32 bU hi an ap aq rfl (by simp) _ _ _ rfl ac ad 0 c [] rfl (by simp) al (by simp) (by simp only[aM];omega) (by omega) aa.size ?_));intro v2 w2 af am _;go_wp2;go_roundw
       case rel=>exact⟨k+1,by omega,by rfl,by rw[ae.out,ak.out];first|exact af|(rw[bC,cI];exact af),aa.grown am aa.size (fun j hj=>(ac.lt j hj).1)⟩
       case measure=>simp[bL];omega
     ·have al:∀j u,cs[j]?=H u→wr.cell? ((⟨b,off,N⟩:Addr).add j)=H u:=fun j u h=>by rw[Addr.add_lit];grind
      go_wp2_with(at_builtin;go_must(refine wpList_append_own _ rfl _ _ 79 rfl _ 46 i0 _ 3 32 bU hi an ap aq rfl (by simp) _ _ _ rfl ac _ m c cs rfl hr.1 al h1 (by simp only[aM];omega) (by omega) aa.size ?_));intro v2 w2 af am _;go_wp2;go_roundw
      case rel=>exact⟨k+1,by omega,by rfl,by rw[ae.out,ak.out];first|exact af|(rw[bC,cI];exact af),aa.grown am aa.size (fun j hj=>(ac.lt j hj).1)⟩
      case measure=>simp[bL];omega
    ·have ai:k=X.length:=by omega
     subst ai;rw[bV,HS.out]at ac;go_wp2;go_ret;exact⟨_,rfl,ac,aa⟩
def Ei (f:Fnd)(r:List V):Fnd:=⟨f.row++r,f.ids++r.take 1,[]⟩
def Gw (l:List Fnd)(rows:List (List V)):List Fnd:=l.flatMap fun f=>rows.map (Ei f)
def Sn (w:bD)(gF:Nat)(box:Obj)(acc:List Fnd)(zv:aX)(wq:bD):Prop:=Di w.heap.size zv acc wq∧(wq.heap[gF]?=H box∧H gF≠zv.ownBlock)∧Below w.heap.size w wq
theorem Y7 {w wr w3 w4}{gF}{box o}{acc}{f}{r}{u5 z4 v2 v3}{n1 n2}(ag:(f.row++r).length=n1)(ah:(f.ids++r.take 1).length=n2){csq}(ac:z4.ownBlock=u5.ownBlock∨z4.ownBlock=H (w3.alloc o).heap.size)(ai:w4.ownsRow w.heap.size 123 3 z4 (acc.length+1) (csq++[v2,v3,D N 0 0]))(aj:All Qk (FO w.heap.size u5) wr acc csq)(ak:wr.ownsRow w.heap.size 123 3 u5 acc.length csq)(ad:Below wr.heap.size wr w3)
  (al:w3.ownsRow wr.heap.size 46 3 v2 n1 (Ax (f.row++r))) (am:w3.ownsRow wr.heap.size 46 3 v3 n2 (Ax (f.ids++r.take 1))) (ab:(w3.alloc o).grownBy w4 u5.ownBlock) (ae:wr.heap[gF]?=H box) (an:H gF≠u5.ownBlock) (aa:Below w.heap.size w wr):Sn w gF box (acc++[Ei f r]) z4 w4:=by
 subst ag ah;have hz:=ad.alloc ad.size o;have ap:=ak.lt;have ho:∀k,wr.heap.size≤k→FO _ u5 k:=fun k hk=>⟨aC aa.size hk,fun e=>by grind⟩
 have hR:Qk.R _ (w3.alloc o) (Ei f r) _:=⟨_,_,_,rfl,(Nf al ho).keep (Ai (Aq _ _)),(Nf am ho).keep (Ai (Aq _ _)),IsL.nil _ _ _⟩;have h1:All Qk (fun k=>FO _ u5 k∧k<(w3.alloc o).heap.size) _ _ _:=All.append ((All.keep (Ai hz) aj).mono fun k hk h=>⟨h,hk⟩) (All.one (Qk.mono (fun k hk h=>⟨h,hk⟩) hR));have af:=aA ae;refine⟨⟨_,by rw[aL];exact ai,(h1.keep ((Aaq ab).mono fun k h=>h.1)).mono fun k _ h=>Uj ac k h.2 h.1⟩,⟨?_,?_⟩,?_⟩
 ·exact(ab.block gF (aO af hz.size) an).trans ((hz.block gF af).trans ae)
 ·rcases ac with e|e
  ·grind
  ·rw[e];intro h;have h3:=cD h;have:=hz.size;omega
 ·exact(aa.trans (hz.mono aa.size)).grown ab (aC aa.size hz.size) fun k hk=>(ap k hk).1
theorem Awp (a b)(n m)(x y):Vb.sum [(a,n,x),(b,m,y)]=n+m∧Vb.all [(a,n,x),(b,m,y)]=x++y:=by simp[Vb.sum,Vb.all]
theorem Aet {w}{L M}{a b}{g base}{t}(hg:w.heap[g]?=H (aD #[a,b] t))(ha:Ex 3 w a L.length (Ax L))(hb:Ex 3 w b M.length (Ax M))(hl:L.length+M.length≤1000000)(aa:base≤w.heap.size):
  bB aI 215 #[D (H ⟨g,0,N⟩) 2 2] w fun e w'=>∃v,e=aK v∧w'.ownsRow base 46 3 v (L++M).length (Ax (L++M))∧Below w.heap.size w w':=by
 obtain⟨e1,e2⟩:=Awp a b L.length M.length (Ax L) (Ax M);have h:=A2l [(a,L.length,Ax L),(b,M.length,Ax M)] g 2 w (aA hg) (fun i x hx=>by
  match i,hx with
  |0,hx=>simp at hx;subst hx;exact Aa hg rfl
  |1,hx=>simp at hx;subst hx;exact Aa hg rfl
  |i+2,hx=>grind) (fun x hx=>by
  simp at hx;rcases hx with rfl|rfl
  ·exact⟨ha,Vk L⟩
  ·exact⟨hb,Vk M⟩) (by simp) (by omega)
 rw[e1,e2]at h;refine h.mono ?_;rintro e w' ⟨v,rfl,ho,ab⟩;refine⟨v,rfl,?_,ab⟩;have e3:Ax (L++M)=Ax L++Ax M:=by simp[Ax]
 rw[aL,e3];exact Nk ho aa
theorem Azy (l:List Fnd)(rows:List (List V))(lv rv:aX)(w:bD)(hl:IsL Qk (fun k=>k<w.heap.size) w lv l)(hr:IsL C8 (fun k=>k<w.heap.size) w rv rows)(co:l.length≤1000)(cp:rows.length≤1000)(bj:∀f∈l,f.row.length≤1000∧f.ids.length≤1000)(bk:∀r∈rows,0<r.length∧r.length≤1000):
  bB aI 136 #[lv,rv] w fun e w'=>∃zv,e=aK zv∧Di w.heap.size zv (Gw l rows) w'∧Below w.heap.size w w':=by
 obtain⟨i0,av,aw,ax,ay⟩:=dH Ak4;obtain⟨lo,lc,rfl⟩:=hl.shape;obtain⟨ro,rc,rfl⟩:=hr.shape;have HL:Hid _:=hl;have HR:Hid _:=hr;have cq:Hid _:=bj;have cr:Hid _:=bk;clear hl hr bj bk;have bl:∀k,(Gw (l.take k) rows).length≤1000000:=fun k=>by
  have:=J7 (fun f:Fnd=>rows.map (Ei f)) 1000 (l.take k) (fun f _=>by rw[aS];exact cp);have h2:(l.take k).length≤1000:=aC (by simp;omega) co;unfold Gw;omega
 have cs:Hid _:=bl;clear bl;go_enter Tryz.func136,Tryz.ntmps136;go_wp2
 go_loopw[5,12] (fun zv i wr=>∃k:Nat,k≤l.length∧i=Y Z k∧Hid (Di w.heap.size zv (Gw (l.take k) rows) wr)∧Below w.heap.size w wr) (fun _ i _=>l.length-(bL i).toNat)
 case atStart=>exact⟨0,aP _,rfl,⟨[],dB _ _ _ _,rfl⟩,aE _ _⟩
 case round=>
  obtain⟨k,hk,rfl,az,ah⟩:=hrel
  by_cases bm:k<l.length
  ·obtain⟨f,hf⟩:∃f,l[k]?=H f:=⟨_,aB bm⟩;obtain⟨b,di,dj,ct,_,hb,⟨x1,x2,x3,rfl,bn,bo,bp⟩,ar⟩:=At HL.out hf;cases ct;have d0:=(ah.cell (p:=⟨b,_,N⟩) hb).trans (ar 0 _ rfl);have d1:=(ah.cell (p:=⟨b,_,N⟩) hb).trans (ar 1 _ rfl);have d2:=(ah.cell (p:=⟨b,_,N⟩) hb).trans (ar 2 _ rfl);simp only[Qk,bC]at d0 d1 d2;obtain⟨y1,z1,rfl⟩:=bn.shape;obtain⟨y2,z2,rfl⟩:=bo.shape;obtain⟨y3,z3,rfl⟩:=bp.shape;obtain⟨dk,dl⟩:=cq.out f (aH hf);obtain⟨dm,bq,bt⟩:=bn;obtain⟨dn,bu,bv⟩:=bo;have ea:=A49.1 bt;have eb:=A49.1 bv;subst ea eb;have cu:Hid _:=bq;have cv:Hid _:=bu;have bw:Hid (Gw (l.take (k+1)) rows=Gw (l.take k) rows++rows.map (Ei f)):=by
    show _=_;unfold Gw;rw[bM,hf,cM,eG];simp
   obtain⟨bx,bz,-⟩:=al1 wr (aD #[D y1 f.row.length z1,D y2 f.ids.length z2,D y3 f.ord.length z3] 123);have ba:Hid (Sn w wr.heap.size (aD #[D y1 f.row.length z1,D y2 f.ids.length z2,D y3 f.ord.length z3] 123) (Gw (l.take k) rows) u5 (wr.alloc (aD #[D y1 f.row.length z1,D y2 f.ids.length z2,D y3 f.ord.length z3] 123))):=by
    obtain⟨c0,h1,h2⟩:=az.out;exact⟨⟨c0,Ak h1 bx,h2.keep (Ai bx)⟩,⟨bz,fun e=>by have:=(h1.lt _ e.symm).2;omega⟩,ah.alloc ah.size _⟩
   have v0:(0:Int)≤(k:Int):=by omega
   have v1:(k:Int)<(l.length:Int):=by omega
   have HJ:Hid (k+1≤l.length):=bm;have dp:Hid (Below w.heap.size w wr):=ah;have cx:=cs.out k;generalize dq:wr.heap.size=gF at ba bz;obtain⟨wo,cy⟩:∃x,x=wr:=⟨_,rfl⟩;subst cy;generalize cz:Gw (l.take k) rows=acc0 at ba bw cx;clear hf ar bq bt bu bv bp cz az;go_wp2_with fail
   go_loopw[5,18] (fun zv i wr=>∃j:Nat,j≤rows.length∧i=Y Z j∧Hid (Sn w gF (aD #[D y1 f.row.length z1,D y2 f.ids.length z2,D y3 f.ord.length z3] 123) (acc0++(rows.map (Ei f)).take j) zv wr)) (fun _ i _=>rows.length-(bL i).toNat)
   case atStart=>exact⟨0,aP _,rfl,by show Sn _ _ _ _ _ _;rw[List.take_zero,cI];exact ba.out⟩
   case round=>
    obtain⟨j,hj,rfl,bb⟩:=hrel
    by_cases ca:j<rows.length
    ·obtain⟨r,hx⟩:∃r,rows[j]?=H r:=⟨_,aB ca⟩;obtain⟨⟨bc,cb,cc⟩,⟨ac,bd⟩,ai⟩:=bb.out;obtain⟨b9,ds,dt,da,_,du,⟨yv,rfl,db⟩,cd⟩:=At (IsL.keep HR.out (Ae ai)) hx;cases da;obtain⟨dv,dw⟩:=cr.out r (aH hx);obtain⟨dx,ce,cf⟩:=db;have er:=A49.1 cf;subst er;rcases ce.2 with⟨h0,_⟩|⟨_,rb,rof,rcp,rfl,_,hrbl,hrc,hrm,hrcell⟩
     ·omega
     have d9:=by have:=cd 0 _ rfl;simpa[C8]using this
     have be:Hid ((rows.map (Ei f)).take (j+1)=(rows.map (Ei f)).take j++[Ei f r]):=by
      show _=_;rw[bM,bO,hx];rfl
     have dc:Ex 3 wr (D (H ⟨rb,rof,N⟩) 1 rcp) (r.take 1).length (Ax (r.take 1)):=by
      have dy:(r.take 1).length=1:=by rw[bG];omega
      refine⟨Ai8 _,.inr ⟨by omega,rb,rof,rcp,by grind,hrbl,by omega,hrm,fun q u hq=>hrcell q u ?_⟩⟩;have e9:Ax r=Ax (r.take 1)++Ax (r.drop 1):=by unfold Ax;rw[←eG,List.take_append_drop]
      rw[e9,dQ (aJ.1 hq).1];exact hq
     have C1:=fun(W:bD) (g:Nat) (h:Below wr.heap.size wr W) (hg:W.heap[g]?=H (Obj.cells #[D y1 f.row.length z1,D (H ⟨rb,rof,N⟩) r.length rcp] 79))=>Aet (L:=f.row) (M:=r) (base:=wr.heap.size) hg (Ex.below (Bq.keep cu.out (Ae ai)).row h) (Ex.below ce.row h) (by omega) h.size
     have C2:=fun(W:bD) (g:Nat) (h:Below wr.heap.size wr W) (hg:W.heap[g]?=H (Obj.cells #[D y2 f.ids.length z2,D (H ⟨rb,rof,N⟩) 1 rcp] 79))=>Aet (L:=f.ids) (M:=r.take 1) (base:=wr.heap.size) hg (Ex.below (Bq.keep cv.out (Ae ai)).row h) (Ex.below dc h) (by rw[bG];omega) h.size
     generalize cg:(f.row++r).length=n1 at C1;generalize ch:(f.ids++r.take 1).length=n2 at C2;have bf:Hid _:=cg;have bg:Hid _:=ch;clear cg ch;have aj:Hid _:=cb;have au:Hid _:=cc;have HB:Hid _:=aN ac bd;have bh:=ai.size;have KS:Hid _:=fun W (h:Below _ wr W)=>aN (show W.cell? _=H (D y1 _ z1)from Aa ((h.block _ (aA ac)).trans ac) (j:=0) rfl) (show W.cell? _=H (D y2 _ z2)from Aa ((h.block _ (aA ac)).trans ac) (j:=1) rfl)
     have KT:Hid _:=fun W (h:Below _ wr W) W' (hg:W.grownBy W' _)=>aN (show W'.cell? _=H (D y1 _ z1)from Aa ((hg.block _ (aO (aA ac) h.size) bd).trans ((h.block _ (aA ac)).trans ac)) (j:=0) rfl) (show W'.cell? _=H (D y2 _ z2)from Aa ((hg.block _ (aO (aA ac) h.size) bd).trans ((h.block _ (aA ac)).trans ac)) (j:=1) rfl)
     have j0:(0:Int)≤j:=by omega
     have j1:j<(rows.length:Int):=by omega
     have q1:(0:Int)≤1:=by omega
     have q3:(1:Int)≤rcp:=by omega
     have al:Hid (j+1≤rows.length):=ca;have dd:(acc0++(rows.map (Ei f)).take j).length≤1100000:=by rw[aL,bG];omega
     generalize cj:acc0++(rows.map _).take j=acc at aj au dd;have bi:Hid _:=cj;clear hx cd cf cb cc cj bb;go_wp2_with fail;refine cP (S:=(fun W=>W.cell? ⟨gF,0,N⟩=H (D y1 f.row.length z1)∧W.cell? ⟨gF,1,N⟩=H (D y2 f.ids.length z2))) (by rfl) ?_ (fun hHeld=>?_)
     ·exact KS.out _ (aE _ wr).drew
     refine tk 0 ?_;refine tk 1 ?_;refine tk 2 ?_;refine tk 3 ?_;refine tk 6 ?_;refine tk 7 ?_;refine tk 8 ?_;refine tk 9 ?_;refine Aby 4 10 (fun K hK=>?_) (fun K hK=>?_)
     ·go_simp;go_wp2_with fail;refine hK.out _ _ ?_ (fun hHeld=>?_)
      ·exact KS.out _ (Am (aE _ wr).drew _)
      clear hK K;refine Aby 5 10 (fun K hK=>?_) (fun K hK=>?_)
      ·go_simp
       (refine(C1 _ _ (Am (aE _ wr).drew _) (Ab _ _)).mono ?_;rintro e w2 ⟨v2,rfl,ad,ak⟩;obtain⟨ck,cl,rfl⟩:=Ex.shape (Ex.of_own ad);have ab:=Ac (Am (aE _ wr).drew _) ak)
       go_wp2_with fail;refine hK.out _ _ ?_ (fun hHeld=>?_)
       ·exact KS.out _ (ab)
       clear hK K;refine Bi 10 (fun K hK=>?_);go_simp;go_wp2_with fail;refine hK.out _ _ ?_ (fun hHeld=>?_)
       ·exact KS.out _ (Am ab _)
       clear hK K;refine Bi 11 (fun K hK=>?_);go_simp
       (refine(C2 _ _ (Am ab _) (Ab _ _)).mono ?_;rintro e w3 ⟨v3,rfl,ae,af⟩;obtain⟨cm,cn,rfl⟩:=Ex.shape (Ex.of_own ae);have aa:=Ac (Am ab _) af;have an:=Ak ad (Ac (Aq _ _) af))
       go_wp2_with fail;refine hK.out _ _ ?_ (fun hHeld=>?_)
       ·exact KS.out _ (aa)
       clear hK K;refine tk 12 ?_;refine Bi 13 (fun K hK=>?_);go_simp;go_wp2_with fail;refine hK.out _ _ ?_ (fun hHeld=>?_)
       ·exact KS.out _ (Am aa _)
       clear hK K;refine Bi 14 (fun K hK=>?_);refine Io (by rfl) _ _ 119 (by rfl) _ 123 i0 _ 3 72 dA av aw ax ay rfl (by simp) u5 _ bc (by rfl) (Ak aj.out (Am aa _)) _ 1 1 _ (by rfl) rfl (Cb _ _ _) (by intro u hu;simp at hu;rcases hu with rfl|rfl|rfl<;>rfl) (by simp only[aM];omega) (by omega) (aC bh (Am aa _).size) ?_;intro z4 w4 ap ag aq;refine hK.out _ _ ?_ (fun hHeld=>?_)
       ·exact KT.out _ (Am aa _) _ ag
       clear hK K;refine tk 15 ?_;refine cU (by kernel_rfl) ?_ _;go_wp2_with fail;go_roundw
       case rel=>exact⟨_,al.out,by rfl,by show Sn _ _ _ _ _ _;rw[be.out,←cC,bi.out];exact Y7 bf.out bg.out aq ap au.out aj.out aa an ae ag HB.out.1 HB.out.2 ai⟩
       case measure=>have:=al.out;simp[bL];omega
      ·go_simp;go_wp2_with fail;refine hK.out _ _ ?_ (fun hHeld=>?_)
       ·exact KS.out _ (Am (Am (aE _ wr).drew _) _)
       clear hK K;refine Bi 5 (fun K hK=>?_);go_simp
       (refine(C1 _ _ (Am (Am (aE _ wr).drew _) _) (Ad (Ab _ _) _)).mono ?_;rintro e w2 ⟨v2,rfl,ad,ak⟩;obtain⟨ck,cl,rfl⟩:=Ex.shape (Ex.of_own ad);have ab:=Ac (Am (Am (aE _ wr).drew _) _) ak)
       go_wp2_with fail;refine hK.out _ _ ?_ (fun hHeld=>?_)
       ·exact KS.out _ (ab)
       clear hK K;refine Bi 11 (fun K hK=>?_);go_simp
       (refine(C2 _ _ (ab) ((ak.block _ (aA (Cc _ _ _))).trans (Cc _ _ _))).mono ?_;rintro e w3 ⟨v3,rfl,ae,af⟩;obtain⟨cm,cn,rfl⟩:=Ex.shape (Ex.of_own ae);have aa:=Ac (ab) af;have an:=Ak ad (af))
       go_wp2_with fail;refine hK.out _ _ ?_ (fun hHeld=>?_)
       ·exact KS.out _ (aa)
       clear hK K;refine tk 12 ?_;refine Bi 13 (fun K hK=>?_);go_simp;go_wp2_with fail;refine hK.out _ _ ?_ (fun hHeld=>?_)
       ·exact KS.out _ (Am aa _)
       clear hK K;refine Bi 14 (fun K hK=>?_);refine Io (by rfl) _ _ 119 (by rfl) _ 123 i0 _ 3 72 dA av aw ax ay rfl (by simp) u5 _ bc (by rfl) (Ak aj.out (Am aa _)) _ 1 1 _ (by rfl) rfl (Cb _ _ _) (by intro u hu;simp at hu;rcases hu with rfl|rfl|rfl<;>rfl) (by simp only[aM];omega) (by omega) (aC bh (Am aa _).size) ?_;intro z4 w4 ap ag aq;refine hK.out _ _ ?_ (fun hHeld=>?_)
       ·exact KT.out _ (Am aa _) _ ag
       clear hK K;refine tk 15 ?_;refine cU (by kernel_rfl) ?_ _;go_wp2_with fail;go_roundw
       case rel=>exact⟨_,al.out,by rfl,by show Sn _ _ _ _ _ _;rw[be.out,←cC,bi.out];exact Y7 bf.out bg.out aq ap au.out aj.out aa an ae ag HB.out.1 HB.out.2 ai⟩
       case measure=>have:=al.out;simp[bL];omega
     ·go_simp;go_wp2_with fail;refine hK.out _ _ ?_ (fun hHeld=>?_)
      ·exact KS.out _ (Am (aE _ wr).drew _)
      clear hK K;refine Bi 4 (fun K hK=>?_);go_simp;go_wp2_with fail;refine hK.out _ _ ?_ (fun hHeld=>?_)
      ·exact KS.out _ (Am (Am (aE _ wr).drew _) _)
      clear hK K;refine Bi 5 (fun K hK=>?_);go_simp
      (refine(C1 _ _ (Am (Am (aE _ wr).drew _) _) (Cc _ _ _)).mono ?_;rintro e w2 ⟨v2,rfl,ad,ak⟩;obtain⟨ck,cl,rfl⟩:=Ex.shape (Ex.of_own ad);have ab:=Ac (Am (Am (aE _ wr).drew _) _) ak)
      go_wp2_with fail;refine hK.out _ _ ?_ (fun hHeld=>?_)
      ·exact KS.out _ (ab)
      clear hK K;refine Bi 11 (fun K hK=>?_);go_simp
      (refine(C2 _ _ (ab) ((ak.block _ (aA (Ad (Ab _ _) _))).trans (Ad (Ab _ _) _))).mono ?_;rintro e w3 ⟨v3,rfl,ae,af⟩;obtain⟨cm,cn,rfl⟩:=Ex.shape (Ex.of_own ae);have aa:=Ac (ab) af;have an:=Ak ad (af))
      go_wp2_with fail;refine hK.out _ _ ?_ (fun hHeld=>?_)
      ·exact KS.out _ (aa)
      clear hK K;refine tk 12 ?_;refine Bi 13 (fun K hK=>?_);go_simp;go_wp2_with fail;refine hK.out _ _ ?_ (fun hHeld=>?_)
      ·exact KS.out _ (Am aa _)
      clear hK K;refine Bi 14 (fun K hK=>?_);refine Io (by rfl) _ _ 119 (by rfl) _ 123 i0 _ 3 72 dA av aw ax ay rfl (by simp) u5 _ bc (by rfl) (Ak aj.out (Am aa _)) _ 1 1 _ (by rfl) rfl (Cb _ _ _) (by intro u hu;simp at hu;rcases hu with rfl|rfl|rfl<;>rfl) (by simp only[aM];omega) (by omega) (aC bh (Am aa _).size) ?_;intro z4 w4 ap ag aq;refine hK.out _ _ ?_ (fun hHeld=>?_)
      ·exact KT.out _ (Am aa _) _ ag
      clear hK K;refine tk 15 ?_;refine cU (by kernel_rfl) ?_ _;go_wp2_with fail;go_roundw
      case rel=>exact⟨_,al.out,by rfl,by show Sn _ _ _ _ _ _;rw[be.out,←cC,bi.out];exact Y7 bf.out bg.out aq ap au.out aj.out aa an ae ag HB.out.1 HB.out.2 ai⟩
      case measure=>have:=al.out;simp[bL];omega
    ·have de:j=rows.length:=by omega
     subst de;have j1:¬(rows.length<(rows.length:Int)):=by omega
     obtain⟨am,_,df⟩:=bb.out;rw[cV (by simp)]at am;have dg:Hid (Di w.heap.size u5 (Gw (l.take (k+1)) rows) wr):=by show Di _ _ _ _;rw[bw.out];exact am
     clear am;go_wp2_with fail;go_roundw
     case rel=>exact⟨_,HJ.out,by rfl,dg,df⟩
     case measure=>have:=HJ.out;simp[bL];omega
  ·have dh:k=l.length:=by omega
   subst dh;have v1:¬(l.length<(l.length:Int)):=by omega
   have am:=az.out;rw[bV]at am;go_wp2;go_ret;exact⟨_,rfl,am,ah⟩
def Re (t:TabD)(r:List V)(i:Nat):Bool:=match t.cols[i]?,r[i]? with
 |some c,H v=>c.must&&decide (v.k=0)
 |_,_=>aR
def Rf (t:TabD)(r:List V):Bool:=B6 (Re t r) 0 t.cols.length
def Ams (T:List Pg)(t:TabD)(r:List V):Int:=if Rf t r=aZ then 7 else if(Hz (flat T) (rk t r)).isSome=aZ then 4 else if 30≤(F5 t.cols.length (rng T (Hm t.name) (Hn t.name))).length then 8 else 0
def Lh (d:Db)(t:TabD)(r:List V):Int:=if Rf t r=aZ then 7 else if(d.R t.name).any (fun q=>decide (rk t q=rk t r))=aZ then 4 else if 30≤(d.R t.name).length then 8 else 0
theorem Azz {d}(ok:DbOk d){T}(hT:As T)(h:Has d (flat T)){t}(ht:t∈d.c.tables)(r):Ams T t r=Lh d t r:=by
 unfold Ams Lh;rw[Acd ok hT h ht];have e:(Hz (flat T) (rk t r)).isSome=(d.R t.name).any (fun q=>decide (rk t q=rk t r)):=by
  cases hg:Hz (flat T) (rk t r)with
  |none=>
   have:=(Aq8 ok h ht r).1 hg;grind
  |some v=>
   symm
   rw[Option.isSome_some,List.any_eq_true];obtain⟨q,hq,e,_⟩:=(Sl ok h ht).1 (Wa hg);exact⟨q,hq,by rw[decide_eq_true_eq];exact e⟩
 rw[e]
theorem Ah7 (d)(t)(r):Lh d t r=0∨Lh d t r=4∨Lh d t r=7∨Lh d t r=8:=by
 unfold Lh;omega
def Jh (t:TabD)(r:List V):Prop:=r.length=t.cols.length∧∀(i:Nat) (c:ColD) (v:V),t.cols[i]?=H c→r[i]?=H v→good v=aZ∧(v.k=c.ty∨v.k=0)
theorem Jh.good {t}{r}(h:Jh t r):r.length=t.cols.length∧∀v∈r,good v=aZ:=by
 refine⟨h.1,fun v hv=>?_⟩;obtain⟨i,hi,rfl⟩:=aW hv;exact(h.2 i _ _ (aB (by rw[←h.1];omega)) (aB hi)).1
theorem Jh.fits {t}{r}(h:Jh t r)(hl:Rf t r=aR):Ga t r=aZ:=by
 unfold Ga;rw[decide_eq_true h.1,Bool.true_and,cR];refine Y2 _ _ fun j _ hj=>?_
 have ac:=J0 hl j (aP _) hj;have aa:j<t.cols.length:=by omega
 have ab:j<r.length:=by rw[h.1];exact aa
 obtain⟨g,ty⟩:=h.2 j _ _ (aB aa) (aB ab);simp only[Re,aB aa,aB ab]at ac;simp only[Aj4,aB aa,aB ab,Ar7,g,Bool.true_and,eJ,cJ,cF,cR,decide_eq_true_eq];grind
def C9 (t:TabD):Db→List (List V)→Db×Int
 |d,[]=>(d,0)
 |d,r::rows=>if Lh d t r=0 then C9 t (d.upd t.name (Eh (rk t) (d.R t.name) r)) rows else(d,Lh d t r)
theorem Az0 {d}{t}{r}(h:Lh d t r=0):Rf t r=aR∧(∀q∈d.R t.name,rk t q≠rk t r)∧(d.R t.name).length<30:=by
 unfold Lh at h;grind
theorem Az1 {d}(ok:DbOk d){F}(h:Has d F){t}(ht:t∈d.c.tables){r}(hr:Jh t r)(hm:Lh d t r=0):DbOk (d.upd t.name (Eh (rk t) (d.R t.name) r))∧Has (d.upd t.name (Eh (rk t) (d.R t.name) r)) (putRow F d.c.indexes t r):=by
 obtain⟨h1,h2,h3⟩:=Az0 hm;exact⟨A4d ok ht (hr.fits h1) h2 h3,A2h ok ht h h2⟩
end
section
open Go.RowKit Go.Maps
def Sp.short (s:Sp):Prop:=s.lo.size≤100∧s.hi.size≤100
theorem Tl {k}(h:k.size≤50):(Lf k).short:=⟨aC h (by simp),by show(k++ffW).size≤100;rw[O4];have:ffW.size=1:=rfl;omega⟩
theorem Az2 (k:Wd):(k.extract 0 1).size≤1:=by simp[ByteArray.size_extract];omega
theorem So (v):(skS v).short:=Tl (aC (Az2 _) (by simp))
theorem ffs (v):(kb v++ffW).size≤100:=by rw[O4];have:=Aef v;have:ffW.size=1:=rfl;omega
theorem kbs (v):(kb v).size≤100:=aC (Aef v) (by simp)
theorem Aeu (v)(yes):(Wb v yes).short:=by
 cases yes
 ·exact So v
 ·exact Tl (aC (Aef v) (by simp))
theorem Apj (v)(yes):(U2 v yes).short:=by
 cases yes
 ·exact⟨kbs v,(So v).2⟩
 ·exact⟨(So v).1,kbs v⟩
theorem Amt (v)(yes):(Rs v yes).short:=by
 cases yes
 ·exact⟨(So v).1,ffs v⟩
 ·exact⟨ffs v,(So v).2⟩
theorem As8 {s o:Sp}(h:s.short)(g:o.short):(s.both o).short:=by
 constructor
 ·show(L0 _ _).size≤100;unfold L0;split
  ·exact g.1
  ·exact h.1
 ·show(L4 _ _).size≤100;unfold L4;split
  ·exact g.2
  ·exact h.2
theorem Amu {s o:Sp}(h:s.short)(g:o.short):(s.either o).short:=by
 unfold Sp.either;split
 ·omega
 ·split
  ·omega
  ·constructor
   ·show(L4 _ _).size≤100;unfold L4;split
    ·exact g.1
    ·exact h.1
   ·show(L0 _ _).size≤100;unfold L0;split
    ·exact g.2
    ·exact h.2
theorem Jv:(Lf noW).short:=Tl (by decide)
theorem Amv:noS.short:=⟨by decide,by decide⟩
theorem Ko (at' col):∀(d:Nat) (e:E) (yes:Bool),(Bu at' col d e yes).short
 |0,e,yes=>by unfold Bu;exact Jv
 |d+1,.mk op x s name n l,yes=>by
  unfold Bu;split
  ·split
   ·exact Ko at' col d _ _
   ·exact Jv
  split
  ·split
   ·split
    ·exact As8 (Ko at' col d _ _) (Ko at' col d _ _)
    ·exact Amu (Ko at' col d _ _) (Ko at' col d _ _)
   ·exact Jv
  split
  ·split
   ·unfold isS;split
    ·split
     ·exact Tl (aC (Aef zero) (by simp))
     ·exact⟨ffs zero,by decide⟩
    ·exact Jv
   ·exact Jv
  split
  ·split
   ·unfold We;split
    ·exact Amv
    split
    ·exact Aeu _ _
    split
    ·exact Aeu _ _
    split
    ·exact Apj _ _
    split
    ·exact Amt _ _
    ·exact Jv
   ·exact Jv
  split
  ·exact Amv
  ·exact Jv
theorem As9 {w:bD}{g}{p q r a b c}{t}(h:w.heap[g]?=H (aD #[p,q,r] t)):(((w.setCell ⟨g,0,N⟩ a).setCell ⟨g,1,N⟩ b).setCell ⟨g,2,N⟩ c).heap[g]?=H (aD #[a,b,c] t):=by
 rw[upd (upd (upd h 0 a) 1 b) 2 c];rfl
theorem Gx {w:bD}{g b}{x}{p q r}(h:w.heap[b]?=H x)(hn:b≠g):(((w.setCell ⟨g,0,N⟩ p).setCell ⟨g,1,N⟩ q).setCell ⟨g,2,N⟩ r).heap[b]?=H x:=by
 simp only[cQ,cX];grind
theorem A2m {V w3}{x lo hi:Wd}(hz:Below V.heap.size V w3):(w3.alloc (aD #[U x,U lo,U hi] 167)).heap[w3.heap.size]?=H (aD #[U x,U lo,U hi] 167)∧Below V.heap.size V (w3.alloc (aD #[U x,U lo,U hi] 167))∧V.heap.size≤w3.heap.size:=⟨Ab _ _,hz.alloc hz.size _,hz.size⟩
theorem A2n {V w3}{x lo hi:Wd}{g}(hz:Below V.heap.size V w3)(p:w3.heap[g]?=H (aD #[U noW,U noW,U noW] 167))(hg:V.heap.size≤g):
  (((w3.setCell ⟨g,0,N⟩ (U x)).setCell ⟨g,1,N⟩ (U lo)).setCell ⟨g,2,N⟩ (U hi)).heap[g]?=H (aD #[U x,U lo,U hi] 167)∧Below V.heap.size V (((w3.setCell ⟨g,0,N⟩ (U x)).setCell ⟨g,1,N⟩ (U lo)).setCell ⟨g,2,N⟩ (U hi))∧V.heap.size≤g:=
 ⟨by rw[upd (upd (upd p 0 _) 1 _) 2 _];rfl,((hz.setCell hg _).setCell hg _).setCell hg _,hg⟩
theorem Ata (ct:CatD)(t:TabD)(aa:Int)(ag ek en:Int)(ex es em:Wd)(ei:Int)(ea:Option Addr)(el ec:Nat)(e0:E)(ak:Option Addr)(al am:Nat)(io:Option Addr)(il ic:Nat)(co:Option Addr)(cc:Nat)(C:Nat)(w:bD)(he:IsE (fun k=>k<C) w e0 (aY #[Y Z ag,Y Z ek,Y Z en,U ex,U es,U em,Y Z ei,D ea el ec]))(hC:C≤w.heap.size)(hx:Df e0)(ee:Mv 40 e0)(hg:geB 40 e0=aZ)(ht:t.name.size≤100000)
  (cz:Hq (fun k=>k<C) w ct (aY #[D ak al am,D io il ic])) (ef:K9 ct) (da:IsL Cp (fun k=>k<C) w (D co t.cols.length cc) t.cols) (db:∀x∈ct.indexes,x.name.size≤1000):
  bB aI 123 #[aY #[D ak al am,D io il ic],aY #[U t.name,D co t.cols.length cc],Y Z aa,aY #[Y Z ag,Y Z ek,Y Z en,U ex,U es,U em,Y Z ei,D ea el ec]] w fun e w'=>e=aK (J1 (Ds ct t aa e0).x (Ds ct t aa e0).lo (Ds ct t aa e0).hi)∧Below w.heap.size w w':=by
 obtain⟨av,B0,B1,B2,B3,-⟩:=al4 w (aD #[D ak al am,D io il ic] 62) (aD #[U t.name,D co t.cols.length cc] 82) (aD #[Y Z ag,Y Z ek,Y Z en,U ex,U es,U em,Y Z ei,D ea el ec] 48) (aD #[U noW,U noW,U noW] 167);generalize hW:(((w.alloc (aD #[D ak al am,D io il ic] 62)).alloc (aD #[U t.name,D co t.cols.length cc] 82)).alloc (aD #[Y Z ag,Y Z ek,Y Z en,U ex,U es,U em,Y Z ei,D ea el ec] 48)).alloc (aD #[U noW,U noW,U noW] 167)=V at B0 B1 B2 B3 av;have HW:Hid _:=hW;clear hW;have dc:∀W,Below w.heap.size w W→IsE (fun k=>k<C) W e0 (aY #[Y Z ag,Y Z ek,Y Z en,U ex,U es,U em,Y Z ei,D ea el ec]):=fun W hW=>IsE.keep (Ae (hW.mono hC)) _ _ he
 have bq:=Oq 40 (aG _) e0 (aY #[Y Z ag,Y Z ek,Y Z en,U ex,U es,U em,Y Z ei,D ea el ec]) C V (dc V av) (aC hC av.size) hx;rw[hg]at bq;have bt:=fun col W (hW:Below w.heap.size w W)=>Av7 aa col 40 e0 (aY #[Y Z ag,Y Z ek,Y Z en,U ex,U es,U em,Y Z ei,D ea el ec]) aZ C W (dc W hW) (aC hC hW.size) hg hx ee
 have bu:=fun W=>Qf t.name W (by omega)
 have be:=fun col=>Ko aa col 40 e0 aZ
 have aw:=fun W=>Afw (Bu aa 0 40 e0 aZ).lo (Bu aa 0 40 e0 aZ).hi noW (De t.name) W (by have:=(be 0).1;omega) (by have:=(be 0).2;omega) (by rw[S9];omega)
 have bv:=fun W (hW:Below w.heap.size w W)=>Ael ct ak al am io il ic C W (cz.keep (Ae (hW.mono hC))) (aC hC hW.size) ef
 have ES:Hid (Ds ct t aa e0=((if Dv ct then ct.indexes else[]).foldl (Dx aa e0 t) (Ix aa e0 t)).2):=by show _=_;unfold Ds;rw[if_pos hg]
 rw[ES.out];clear ES;obtain⟨tv,iv,dd,eg,de⟩:=cz;obtain⟨rfl,rfl⟩:tv=D ak al am∧iv=D io il ic:=by simpa using dd.symm
 obtain⟨I,bw,bx,df,bz⟩:∃(I:List IdxD) (bw:aX),(if Dv ct then ct.indexes else[])=I∧(if Dv ct then dF io il ic else D N 0 0)=bw∧(∀W,Below w.heap.size w W→IsL Eb (fun k=>k<C) W bw I):=by
  cases Dv ct
  ·exact⟨[],D N 0 0,rfl,rfl,fun W _=>IsL.nil _ _ _⟩
  ·exact⟨ct.indexes,_,rfl,rfl,fun W hW=>de.keep (Ae (hW.mono hC))⟩
 have dg:∀x∈I,x.name.size≤1000:=fun x bf=>by
  rw[←bx]at bf;split at bf
  ·exact db x bf
  ·cases bf
 rw[df]at bv;rw[bx];generalize dh:I.foldl (Dx aa e0 t) (Ix aa e0 t)=FF;have di:Hid _:=dh;clear dh;obtain⟨fg,fh,rfl⟩:=(bz w (aE _ _)).shape;have dj:Hid _:=bz;have eh:Hid _:=dg;have dk:Hid _:=be;have ej:Hid _:=da;clear bx df bz db dg eg de dd he be da;have EB:Hid (Ix aa e0 t=(Bu aa 0 40 e0 aZ,⟨noW,De t.name++(Bu aa 0 40 e0 aZ).lo,De t.name++(Bu aa 0 40 e0 aZ).hi⟩)):=rfl;have bg:=bt 0;generalize eo:Bu aa 0 40 e0 aZ=b0 at bg aw EB;generalize fi:De t.name=rb at bu aw EB;simp only[Sp.val]at bg;have BX:Hid _:=aN B1 (aN B2 B3);have dl:Hid _:=B0;have a0:=Aa B2 (j:=0) (u:=Y Z ag) rfl;have a1:=Aa B2 (j:=1) (u:=Y Z ek) rfl;have a2:=Aa B2 (j:=2) (u:=Y Z en) rfl;have a3:=Aa B2 (j:=3) (u:=U ex) rfl;have a4:=Aa B2 (j:=4) (u:=U es) rfl;have a5:=Aa B2 (j:=5) (u:=U em) rfl;have a6:=Aa B2 (j:=6) (u:=Y Z ei) rfl;have a7:=Aa B2 (j:=7) (u:=D ea el ec) rfl;go_enter Tryz.func123,Tryz.ntmps123;go_upto_region 1 with fail;rw[HW.out];go_upto_region 4 with(first
  |(go_fit bq;rintro e w1 ⟨rfl,ax⟩;have D2:=(ax.block _ (aA B2)).trans B2;have c0:=Aa D2 (j:=0) (u:=Y Z ag) rfl;have c1:=Aa D2 (j:=1) (u:=Y Z ek) rfl;have c2:=Aa D2 (j:=2) (u:=Y Z en) rfl;have c3:=Aa D2 (j:=3) (u:=U ex) rfl;have c4:=Aa D2 (j:=4) (u:=U es) rfl;have c5:=Aa D2 (j:=5) (u:=U em) rfl;have c6:=Aa D2 (j:=6) (u:=Y Z ei) rfl;have c7:=Aa D2 (j:=7) (u:=D ea el ec) rfl;have dm:=bg w1 (Ac av ax))
  |(go_fit dm;rintro e w2 ⟨rfl,ca⟩))
 obtain⟨V2,bh⟩:∃V2,w2.alloc (aD #[U b0.lo,U b0.hi] 238)=V2:=⟨_,rfl⟩;rw[bh];have B9:V2.heap[w2.heap.size]?=H (aD #[U b0.lo,U b0.hi] 238):=by rw[←bh];exact Ab _ _
 have ap:Below V.heap.size V V2:=by rw[←bh];exact(Ac ax ca).alloc (Ac ax ca).size _
 have lV:w.heap.size+3<V.heap.size:=aA B3;have fj:V.heap.size≤w2.heap.size:=(Ac ax ca).size;have ep:Below w.heap.size w V2:=Ac av ap;clear bh bq bg dm;generalize et:w2.heap.size=g9 at*;clear et;have KS:Hid (∀W,Below V2.heap.size V2 W→(W.cell? ⟨g9,0,N⟩=H (U b0.lo)∧W.cell? ⟨g9,1,N⟩=H (U b0.hi)∧W.cell? ⟨w.heap.size+1,0,N⟩=H (U t.name))):=fun W hW=>by
  have D9:=(hW.block _ (aA B9)).trans B9;have D1:=((Ac ap hW).block _ (aA B1)).trans B1;exact⟨Aa D9 (j:=0) rfl,Aa D9 (j:=1) rfl,Aa D1 (j:=0) rfl⟩
 go_cut[10]from 11 to 63 (fun eu wx=>∃ad,eu=aV (H ⟨ad,0,N⟩)∧wx.heap[ad]?=H (aD #[U noW,U (rb++b0.lo),U (rb++b0.hi)] 167)∧Below V2.heap.size V2 wx∧V2.heap.size≤ad)
 case first=>
  have z0:Below V2.heap.size V2 V2.drew:=(aE _ _).drew;have zA:Below V2.heap.size V2 (V2.drew.alloc (aD #[U noW,U noW,U noW] 167)):=z0.alloc (aG _) _;have zD:Below V2.heap.size V2 (V2.alloc (aD #[U noW,U noW,U noW] 167)).drew:=((aE _ _).alloc (aG _) _).drew;have y0:=KS.out _ z0;have yA:=KS.out _ zA;have yD:=KS.out _ zD;unfold J1 at aw
  go_region_held3(fun W=>(W.cell? ⟨g9,0,N⟩=H (U b0.lo)∧W.cell? ⟨g9,1,N⟩=H (U b0.hi)∧W.cell? ⟨w.heap.size+1,0,N⟩=H (U t.name)))
   (with_reducible first|exact y0|exact yA|exact yD|exact y3|exact KS.out _ (ah.alloc ah.size _)|exact KS.out _ (((ah.setCell (aG _) _).setCell (aG _) _).setCell (aG _) _)|exact KS.out _ ((((ah.alloc ah.size _).setCell ah.size _).setCell ah.size _).setCell ah.size _))
   (first
    |(go_at_call 188;refine(bu _).mono ?_;rintro e w9 ⟨rfl,rfl⟩)
    |(go_at_call 187;refine(aw _).mono ?_;rintro e w3 ⟨rfl,cb⟩;have ah:Below V2.heap.size V2 w3:=Ac (by with_reducible first|exact z0|exact zA|exact zD) cb;have y3:=KS.out _ ah;(first|(have pA:w3.heap[V2.heap.size]?=H (aD #[U noW,U noW,U noW] 167):=(by first|exact(cb.block _ (aA (w:=(V2.alloc (aD #[U noW,U noW,U noW] 167)).drew) (Ab V2 _))).trans (Ab V2 _)|exact(cb.block _ (aA (Ab V2.drew _))).trans (Ab V2.drew _));have q0:=Aa pA (j:=0) (u:=U noW) rfl;have q1:=Aa pA (j:=1) (u:=U noW) rfl;have q2:=Aa pA (j:=2) (u:=U noW) rfl;have f0:w3.frozen? ⟨V2.heap.size,0,N⟩=aR:=(by simp[aF,pA]);have f1:w3.frozen? ⟨V2.heap.size,1,N⟩=aR:=(by simp[aF,pA]);have f2:w3.frozen? ⟨V2.heap.size,2,N⟩=aR:=(by simp[aF,pA]))|skip)))
  all_goals go_wp2_with fail
  all_goals go_meet
  all_goals
   refine⟨_,rfl,?_⟩
   first|exact A2m ah|exact A2n ah pA (aG _)
 case rest=>
  obtain⟨ad,rfl,dn,ay,fk⟩:=hcut;have zc:Below w.heap.size w wc:=Ac ep ay;have dp:=Ac ap ay;have C0:=(dp.block _ (aA dl.out)).trans dl.out;have k0:=Aa C0 (j:=0) (u:=D ak al am) rfl;have k1:=Aa C0 (j:=1) (u:=D io il ic) rfl;have dq:=bv wc zc;have ds:=aA B9;have fl:=ay.size;have dt:g9≠ad:=by omega
  go_wp2_with(go_fit dq;rintro e w5 ⟨rfl,bi⟩);have D9:=(bi.block _ (aO ds ay.size)).trans ((ay.block _ ds).trans B9);have ew:=(bi.block _ (aA dn)).trans dn;have cd:=Ac dp bi;have D1:=(cd.block _ (aA BX.out.1)).trans BX.out.1;have D2:=(cd.block _ (aA BX.out.2.1)).trans BX.out.2.1;have D3:=(cd.block _ (aA BX.out.2.2)).trans BX.out.2.2;have fm:I.length≤9223372036854775807:=(D5 (dj.out w (aE _ _))).2;clear bv dq k0 k1 C0 aw bu
  go_loopw[33] (fun i wr=>∃(k:Nat) (ab:Sp) (ac:Wy),k≤I.length∧i=Y Z k∧Hid ((I.take k).foldl (Dx aa e0 t) (Ix aa e0 t)=(ab,ac))∧wr.heap[g9]?=H (aD #[U ab.lo,U ab.hi] 238)∧wr.heap[ad]?=H (aD #[U ac.x,U ac.lo,U ac.hi] 167)∧wr.heap[w.heap.size+1]?=H (aD #[U t.name,D co t.cols.length cc] 82)∧wr.heap[w.heap.size+2]?=H (aD #[Y Z ag,Y Z ek,Y Z en,U ex,U es,U em,Y Z ei,D ea el ec] 48)∧wr.heap[w.heap.size+3]?=H (aD #[U noW,U noW,U noW] 167)∧Below w.heap.size w wr∧ab.short) (fun i _=>I.length-(bL i).toNat)
  case atStart=>exact⟨0,b0,⟨noW,rb++b0.lo,rb++b0.hi⟩,aP _,rfl,by show _=_;rw[List.take_zero,List.foldl_nil];exact EB.out,D9,ew,D1,D2,D3,Ac zc bi,by rw[←eo];exact dk.out 0⟩
  case round=>
   obtain⟨k,ab,ac,hk,rfl,HF,R9,ai,R1,R2,R3,ae,bj⟩:=hrel
   by_cases ey:k<I.length
   ·obtain⟨x,bk⟩:∃x,I[k]?=H x:=⟨_,aB ey⟩;obtain⟨b,ce,cs,rfl,fn,fo,ez,bl⟩:=At (dj.out wr ae) bk;obtain rfl:=ez;have d0:wr.cell? ⟨b,ce+k*3,N⟩=H (U x.name):=by have:=bl 0 _ rfl;simpa[Eb]using this
    have d1:wr.cell? ⟨b,ce+k*3+1,N⟩=H (U x.table):=by have:=bl 1 _ rfl;simpa[Eb]using this
    have d2:wr.cell? ⟨b,ce+k*3+2,N⟩=H (U x.col):=by have:=bl 2 _ rfl;simpa[Eb]using this
    have j0:(0:Int)≤(k:Int):=by omega
    have j1:(k:Int)<(I.length:Int):=by omega
    have fp:=eh.out x (aH bk);have cf:Hid ((I.take (k+1)).foldl (Dx aa e0 t) (Ix aa e0 t)=Dx aa e0 t (ab,ac) x):=by
     show _=_;rw[bM,bk,List.foldl_append,HF.out];rfl
    have zx:Below w.heap.size w (wr.alloc (aD #[U x.name,U x.table,U x.col] 86)):=ae.alloc ae.size _;have T1:=Ad R1 (aD #[U x.name,U x.table,U x.col] 86);have t0:=Aa T1 (j:=0) (u:=U t.name) rfl;have t1:=Aa T1 (j:=1) (u:=D co t.cols.length cc) rfl;have HX:=Un t x (D co t.cols.length cc) C (wr.alloc (aD #[U x.name,U x.table,U x.col] 86)) (IsL.keep ej.out (Ae (zx.mono hC))) (aC hC zx.size);clear bl bk;rcases Vm t x with hq|⟨p,hq,hp⟩
    ·have E2:Hid (Dx aa e0 t (ab,ac) x=(ab,ac)):=by show _=_;unfold Dx;rw[if_pos (by rw[hq];decide)]
     rw[hq]at HX;go_wp2_with(go_fit HX;rintro e w6 ⟨rfl,bm⟩);have af:Below wr.heap.size wr w6:=Ac (Aq _ _) bm;go_roundw
     case rel=>exact⟨k+1,ab,ac,by omega,by go_num,by show _=_;rw[cf.out,E2.out],(af.block _ (aA R9)).trans R9,(af.block _ (aA ai)).trans ai,(af.block _ (aA R1)).trans R1,(af.block _ (aA R2)).trans R2,(af.block _ (aA R3)).trans R3,ae.trans (af.mono ae.size),bj⟩
     case measure=>simp[bL];omega
    ·have bn:=bt (p:Int);have aq:=dk.out (p:Int);have E2:Hid (Dx aa e0 t (ab,ac) x=if(Bu aa (p:Int) 40 e0 aZ).rank<ab.rank then(Bu aa (p:Int) 40 e0 aZ,⟨x.name,Hl x.name++(Bu aa (p:Int) 40 e0 aZ).lo,Hl x.name++(Bu aa (p:Int) 40 e0 aZ).hi⟩)else(ab,ac)):=by
      show _=_;unfold Dx;rw[hq,if_neg (by omega)]
     rw[hq]at HX;clear hq hp;generalize Bu aa (p:Int) 40 e0 aZ=sp at bn aq E2;have cg:=fun W=>Amh sp W (by have:=aq.1;omega)
     have ch:=fun W=>Amh ab W (by have:=bj.1;omega)
     have du:=fun W=>O5 x.name W (by omega)
     have cj:=fun W=>Afw sp.lo sp.hi x.name (Hl x.name) W (by have:=aq.1;omega) (by have:=aq.2;omega) (by rw[X9];omega)
     generalize sp.rank=r1 at cg E2;generalize ab.rank=r2 at ch E2;generalize Hl x.name=ib at du cj E2;simp only[Sp.val]at bn cg ch;unfold J1 at cj;have p0:¬(p:Int)<0:=by omega
     have fa:Hid _:=aq;have fb:Hid _:=bj;clear aq bj;go_upto_region 11 with(first
      |(go_fit HX;rintro e w6 ⟨rfl,bm⟩;have af:Below wr.heap.size wr w6:=Ac (Aq _ _) bm;have T2:=(af.block _ (aA R2)).trans R2;have c0:=Aa T2 (j:=0) (u:=Y Z ag) rfl;have c1:=Aa T2 (j:=1) (u:=Y Z ek) rfl;have c2:=Aa T2 (j:=2) (u:=Y Z en) rfl;have c3:=Aa T2 (j:=3) (u:=U ex) rfl;have c4:=Aa T2 (j:=4) (u:=U es) rfl;have c5:=Aa T2 (j:=5) (u:=U em) rfl;have c6:=Aa T2 (j:=6) (u:=Y Z ei) rfl;have c7:=Aa T2 (j:=7) (u:=D ea el ec) rfl;have dv:=bn w6 (ae.trans (af.mono ae.size)))
      |(go_fit dv;rintro e w7 ⟨rfl,bo⟩))
     have az:Below wr.heap.size wr (w7.alloc (aD #[U sp.lo,U sp.hi] 238)):=(Ac af bo).alloc (Ac af bo).size _;have ba:=Ab w7 (aD #[U sp.lo,U sp.hi] 238);have dw:=((Ac bm bo).block _ (aA (Ab wr (aD #[U x.name,U x.table,U x.col] 86)))).trans (Ab wr (aD #[U x.name,U x.table,U x.col] 86));have ck:=Ad dw (aD #[U sp.lo,U sp.hi] 238);have l7:wr.heap.size≤w7.heap.size:=(Ac af bo).size;obtain⟨V7,dx⟩:∃V7,w7.alloc (aD #[U sp.lo,U sp.hi] 238)=V7:=⟨_,rfl⟩;rw[dx]at az ba ck⊢;clear dx HX bn dv bt dw;have Q9:=(az.block _ (aA R9)).trans R9;have dy:=(az.block _ (aA ai)).trans ai;have l9:=aA R9;have fq:=aA ai;have cl:Hid (∀W,Below V7.heap.size V7 W→(W.cell? ⟨w7.heap.size,0,N⟩=H (U sp.lo)∧W.cell? ⟨w7.heap.size,1,N⟩=H (U sp.hi)∧W.cell? ⟨g9,0,N⟩=H (U ab.lo)∧W.cell? ⟨g9,1,N⟩=H (U ab.hi))):=fun W hW=>by
      have A:=(hW.block _ (aA ba)).trans ba;have B:=(hW.block _ (aA Q9)).trans Q9;exact⟨Aa A (j:=0) rfl,Aa A (j:=1) rfl,Aa B (j:=0) rfl,Aa B (j:=1) rfl⟩
     have s0:=cl.out _ (aE _ V7).drew
     go_region_held3(fun W=>(W.cell? ⟨w7.heap.size,0,N⟩=H (U sp.lo)∧W.cell? ⟨w7.heap.size,1,N⟩=H (U sp.hi)∧W.cell? ⟨g9,0,N⟩=H (U ab.lo)∧W.cell? ⟨g9,1,N⟩=H (U ab.hi)))
      (with_reducible first|exact s0|exact s8|exact s9)
      (first
       |(go_at_call_of 204 (dS #[U sp.lo,U sp.hi]);refine(cg _).mono ?_;rintro e w8 ⟨rfl,fc⟩;have z8:Below V7.heap.size V7 w8:=Ac (by with_reducible first|exact(aE _ V7).drew|exact z9) fc;have s8:=cl.out _ z8)
       |(go_at_call_of 204 (dS #[U ab.lo,U ab.hi]);refine(ch _).mono ?_;rintro e w9 ⟨rfl,fd⟩;have z9:Below V7.heap.size V7 w9:=Ac (by with_reducible first|exact z8|exact(aE _ V7).drew) fd;have s9:=cl.out _ z9))
     have ar:Below wr.heap.size wr w9:=az.trans (z9.mono az.size);have cm:=(z9.block _ (aA ba)).trans ba;have cn:=(z9.block _ (aA ck)).trans ck;have A9:=(z9.block _ (aA Q9)).trans Q9;have cp:=(z9.block _ (aA dy)).trans dy
     by_cases dz:r1<r2
     ·have cq:Hid (Dx aa e0 t (ab,ac) x=(sp,⟨x.name,ib++sp.lo,ib++sp.hi⟩)):=by show _=_;rw[E2.out,if_pos dz]
      go_upto_region 12 with fail;have au:Hid (∀W:bD,W.heap[w7.heap.size]?=H (aD #[U sp.lo,U sp.hi] 238)→W.heap[wr.heap.size]?=H (aD #[U x.name,U x.table,U x.col] 86)→(W.cell? ⟨w7.heap.size,0,N⟩=H (U sp.lo)∧W.cell? ⟨w7.heap.size,1,N⟩=H (U sp.hi)∧W.cell? ⟨wr.heap.size,0,N⟩=H (U x.name))):=fun W h1 h2=>
       ⟨Aa h1 (j:=0) rfl,Aa h1 (j:=1) rfl,Aa h2 (j:=0) rfl⟩
      have s1:=au.out w9.drew cm cn;have cr:w7.heap.size≠g9:=by omega
      have cu:wr.heap.size≠g9:=by omega
      have cv:w7.heap.size≠ad:=by omega
      have cx:wr.heap.size≠ad:=by omega
      go_region_held3(fun W=>(W.cell? ⟨w7.heap.size,0,N⟩=H (U sp.lo)∧W.cell? ⟨w7.heap.size,1,N⟩=H (U sp.hi)∧W.cell? ⟨wr.heap.size,0,N⟩=H (U x.name)))
       (with_reducible first|exact s1|exact s2|exact au.out _ (E5 bb cr) (E5 bc cu)|exact au.out _ (Gx (E5 bb cr) cv) (Gx (E5 bc cu) cx)|exact au.out _ (Gx bb cv) (Gx bc cx)|exact au.out _ (E5 (Gx bb cv) cr) (E5 (Gx bc cx) cu))
       (first
        |(go_at_call 205;refine(du _).mono ?_;rintro e fr ⟨rfl,rfl⟩)
        |(go_at_call 187;refine(cj _).mono ?_;rintro e aj ⟨rfl,fe⟩;have bd:Below w9.heap.size w9 aj:=Ac (aE _ w9).drew fe;have bb:=(bd.block _ (aA cm)).trans cm;have bc:=(bd.block _ (aA cn)).trans cn;have G9:=(bd.block _ (aA A9)).trans A9;have an:=(bd.block _ (aA cp)).trans cp;have s2:=au.out aj bb bc;have u0:=Aa G9 (j:=0) (u:=U ab.lo) rfl;have u1:=Aa G9 (j:=1) (u:=U ab.hi) rfl;have v0:=Aa an (j:=0) (u:=U ac.x) rfl;have v1:=Aa an (j:=1) (u:=U ac.lo) rfl;have v2:=Aa an (j:=2) (u:=U ac.hi) rfl;have ft:aj.frozen? ⟨g9,0,N⟩=aR:=(by simp[aF,G9]);have fu:aj.frozen? ⟨g9,1,N⟩=aR:=(by simp[aF,G9]);have fw:aj.frozen? ⟨ad,0,N⟩=aR:=(by simp[aF,an]);have fx:aj.frozen? ⟨ad,1,N⟩=aR:=(by simp[aF,an]);have fy:aj.frozen? ⟨ad,2,N⟩=aR:=(by simp[aF,an])))
      go_wp2;have bp:Below wr.heap.size wr aj:=ar.trans (bd.mono ar.size);have cy:w.heap.size≤ad:=by omega
      have eb:w.heap.size≤g9:=by omega
      have m1:w.heap.size+1≠g9:=by omega
      have m2:w.heap.size+2≠g9:=by omega
      have m3:w.heap.size+3≠g9:=by omega
      have m4:w.heap.size+1≠ad:=by have:=ap.size;omega
      have m5:w.heap.size+2≠ad:=by have:=ap.size;omega
      have m6:w.heap.size+3≠ad:=by have:=ap.size;omega
      go_roundw
      case rel=>
       refine⟨k+1,sp,⟨x.name,ib++sp.lo,ib++sp.hi⟩,by omega,by go_num,by show _=_;rw[cf.out,cq.out],?_,?_,?_,?_,?_,?_,fa.out⟩
       ·exact Gx (Lt G9) dt
       ·exact As9 (E5 an (Ne.symm dt))
       ·exact Gx (E5 ((bp.block _ (aA R1)).trans R1) m1) m4
       ·exact Gx (E5 ((bp.block _ (aA R2)).trans R2) m2) m5
       ·exact Gx (E5 ((bp.block _ (aA R3)).trans R3) m3) m6
       ·exact(((((ae.trans (bp.mono ae.size)).setCell eb _).setCell eb _).setCell cy _).setCell cy _).setCell cy _
      case measure=>simp[bL];omega
     ·have cq:Hid (Dx aa e0 t (ab,ac) x=(ab,ac)):=by show _=_;rw[E2.out,if_neg dz]
      go_wp2;go_roundw
      case rel=>exact⟨k+1,ab,ac,by omega,by go_num,by show _=_;rw[cf.out,cq.out],A9,cp,(ar.block _ (aA R1)).trans R1,(ar.block _ (aA R2)).trans R2,(ar.block _ (aA R3)).trans R3,ae.trans (ar.mono ae.size),fb.out⟩
      case measure=>simp[bL];omega
   ·have ff:k=I.length:=by omega
    subst ff;rw[bV]at HF;have ed:=di.out;rw[HF.out]at ed;subst ed;clear di HF;have v1:¬((I.length:Int)<(I.length:Int)):=by omega
    have y0:=Aa ai (j:=0) (u:=U ac.x) rfl;have y1:=Aa ai (j:=1) (u:=U ac.lo) rfl;have y2:=Aa ai (j:=2) (u:=U ac.hi) rfl;have r0:=Aa R3 (j:=0) (u:=U noW) rfl;have r1:=Aa R3 (j:=1) (u:=U noW) rfl;have r2:=Aa R3 (j:=2) (u:=U noW) rfl;have f0:wr.frozen? ⟨w.heap.size+3,0,N⟩=aR:=by simp[aF,R3]
    have f1:wr.frozen? ⟨w.heap.size+3,1,N⟩=aR:=by simp[aF,R3]
    have f2:wr.frozen? ⟨w.heap.size+3,2,N⟩=aR:=by simp[aF,R3]
    go_wp2;exact Ya _ _ _ Tryz.results123 rfl rfl R3 ae (by omega) Tryz.underlying167 (by kernel_rfl)
end
section
def Pj (ty:Int)(v:V):Prop:=(v.k=0∨v.k=ty)∧(v.k≠3→good v=aZ)
def Aka (cs:List ColD)(row:List V):Prop:=row.length=cs.length∧∀(i:Nat) (c:ColD) (v:V),cs[i]?=H c→row[i]?=H v→good v=aZ∧(v.k=0∨v.k=c.ty)
def F8 (S:List TabD):List ColD:=S.flatMap TabD.cols
theorem Awq:good zero=aZ:=rfl
theorem Jw (ty):Pj ty zero:=⟨.inl rfl,fun _=>Awq⟩
theorem Wj (n):Pj 3 (Fv n):=by
 unfold Fv;split
 ·exact⟨.inr rfl,fun h=>absurd rfl h⟩
 ·exact Jw 3
theorem Agk (b):Pj 3 (whV b):=⟨.inr rfl,fun h=>absurd rfl h⟩
theorem Amw (n):Pj 1 (Qi n):=by
 unfold Qi;split
 ·rename_i h;exact⟨.inr rfl,fun _=>h⟩
 ·exact Jw 1
theorem Az3 {op}(h:op=9∨op=10)(a):Pj (Pw op) (Mt op a):=by
 rcases h with rfl|rfl
 ·exact Wj _
 ·exact Agk _
theorem Az4 {op}(h:3≤op∧op≤8)(a b):Pj (Pw op) (Hs op a b):=by
 rcases(show op=3∨op=4∨op=5∨op=6∨op=7∨op=8 by omega)with rfl|rfl|rfl|rfl|rfl|rfl
 ·show Pj 1 (if _ then(if a.k=1 then Qi _ else zero)else zero);split
  ·split
   ·exact Amw _
   ·exact Jw _
  ·exact Jw _
 ·show Pj 1 (if _ then(if a.k=1 then Qi _ else zero)else zero);split
  ·split
   ·exact Amw _
   ·exact Jw _
  ·exact Jw _
 ·show Pj 3 (if _ then whV _ else zero);split
  ·exact Agk _
  ·exact Jw _
 ·show Pj 3 (if _ then whV _ else zero);split
  ·exact Agk _
  ·exact Jw _
 ·exact Wj _
 ·exact Wj _
theorem Awr (s name)(n:Int):∀(S P:List TabD) (r:RefS),r.ahead=(F8 P).length→(r.found≠0→∃(i:Nat) (c:ColD),r.n=(i:Int)∧(F8 P)[i]?=H c∧r.kind=c.ty)→
  (S.foldl (Fu s name) r).found≠0→∃(i:Nat) (c:ColD),(S.foldl (Fu s name) r).n=(i:Int)∧(F8 (P++S))[i]?=H c∧(S.foldl (Fu s name) r).kind=c.ty
 |[],P,r,_,h2,h3=>by grind
 |t::S,P,r,h1,h2,h3=>by
  have e1:F8 (P++[t])=F8 P++t.cols:=by simp[F8]
  have hc:P++t::S=(P++[t])++S:=by simp
  rw[hc];refine Awr s name n S _ _ ?_ ?_ h3
  ·rw[e1,aL,Fu,h1]
  ·intro hf;rw[e1]
   by_cases hh:Qh t s name=aZ
   ·have aa:=hh;simp only[Qh,cF,decide_eq_true_eq]at aa;rcases Kl t.cols name with hm|⟨k,x,hk1,hk2,_⟩
    ·omega
    ·refine⟨(F8 P).length+k,x,?_,?_,?_⟩
     ·simp only[Fu,hh,if_true,hk1,h1];omega
     ·grind
     ·simp[Fu,hh,hk1,hk2]
   ·simp only[Fu,hh]at hf⊢;grind
theorem Y8 {S}{s name}{n}(h:(Eu S s name n).found=1):∃(i:Nat) (c:ColD),(Eu S s name n).n=(i:Int)∧(F8 S)[i]?=H c∧(Eu S s name n).kind=c.ty:=by
 have:=Awr s name n S [] ⟨0,0,n,0⟩ rfl (fun h=>absurd rfl h) (by unfold Eu at h;omega);assumption
theorem Aev {S}{row}(hr:Aka (F8 S) row){d}{e}{r}(hb:Cv S e=.ok r)(hg:geB d e=aZ):Pj r.2 (ev row r.1):=by
 obtain⟨op,x,s,name,n,l⟩:=e;cases d with
 |zero=>simp[geB]at hg
 |succ d=>
  simp only[geB,cF,decide_eq_true_eq]at hg;obtain⟨⟨aa,af⟩,_⟩:=hg
  by_cases h1:op=1
  ·subst h1;rw[Ahn]at hb;obtain rfl:=bA hb;have hl:l=[]:=aU (by simp[Gk]at aa;grind);subst hl;have hx:=by simpa[Q4]using af
   exact⟨.inr rfl,fun _=>hx⟩
  ·by_cases h2:op=2
   ·subst h2;rw[Aho]at hb;have hl:l=[]:=aU (by simp[Gk]at aa;grind);subst hl
    by_cases hf:(Eu S s name n).found=1
    ·rw[if_pos hf]at hb;obtain rfl:=bA hb;obtain⟨i,c,q1,q2,q3⟩:=Y8 hf;have hi:i<row.length:=by rw[hr.1];exact(aJ.1 q2).1
     have hv:=hr.2 i c _ q2 (aB hi);have he:ev row (.mk 2 x s name (Eu S s name n).n [])=row[i]:=by
      rw[ev,q1,if_pos (by rfl),evs];simp[Acb,Jf,Ms,hi]
     simp only[he];exact⟨by omega,fun _=>hv.1⟩
    grind
   ·rw[Alu S h1 h2]at hb;cases ad:Be S l with
    |error m=>grind
    |ok rs=>
     rw[ad]at hb;simp only at hb;have ac:=Ad8 S l rs ad;split at hb
     ·obtain rfl:=bA hb;simp only;rw[Pe];have ha:(op=9∨op=10)∨(3≤op∧op≤8):=by
       simp only[Gk,h1,h2]at aa
       by_cases q:op=9∨op=10
       ·omega
       ·grind
      rcases ha with ha|ha
      ·have ab:l.length=1:=by simp[Gk,h1,h2,ha]at aa;omega
       have hk:(Ea op (rs.map cS))=rs.map cS:=by
        unfold Ea;rw[if_pos];rw[aS,ac,ab,L5,if_pos ha]
       rw[hk];obtain⟨a,rfl⟩:=List.length_eq_one_iff.1 (ac.trans ab);exact Az3 ha _
      ·have ae:¬(op=9∨op=10):=by omega
       have ab:l.length=2:=by simp[Gk,h1,h2,ae,ha]at aa;omega
       have hk:(Ea op (rs.map cS))=rs.map cS:=by
        unfold Ea;rw[if_pos];rw[aS,ac,ab,L5,if_neg ae,if_pos ha]
       rw[hk];obtain⟨a,b,rfl⟩:∃a b,rs=[a,b]:=by
        match rs,(ac.trans ab)with
        |[a,b],_=>simp
       exact Az4 ha _ _
     grind
end
section
open Go.RowKit Go.Maps
def Az5 (R:Except Int Stm)(F:Nat→Prop)(w':bD)(v:aX):Prop:=
 match R with
 |.error m=>v=dK #[aY Bn,Y Z m]
 |.ok st=>∃arr:Array aX,v=dK #[aY arr,Y Z 0]∧arr.size=20∧arr.all (·.oneCell')=aZ∧Ie.R F w' st arr.toList
theorem SeSt.row {w W}{arr}(h:SeSt w W arr){b}(hb:w.heap.size+3≤b)(cells):SeSt w (W.setRow b cells) arr:=
 ⟨Bz h.stm (by omega) _,Bz h.room (by omega) _,Below.row h.bel (by omega) _,aC h.big (by simp)⟩
theorem Da {P}{ops}{rest}{o}{a}{w}{Q}(hw:Region.wanted o (yielded ops a.tmps)=aZ)(ty)(x)(ho:o.op=.load ty x)
  (g) (hx:a.eval x=aV (H ⟨g,0,N⟩)) (t) (cs) (fr) (d) (hg:w.heap[g]?=H (aD cs t fr))
  (hu:P.underlying ty=H d) (hd:(match d with|.struct _|.array _ _=>aZ|_=>aR)=aZ) (hi:(P.info? ty).map (·.size)=H cs.size)
  (h:wpList P ops Q rest (a.put o.dst (aY cs)) w):wpList P ops Q (o::rest) a w:=
 wpList_step fun K hK=>by rw[if_pos hw];exact wp_load_row ty x ho g hx t cs fr d hg hu hd hi (hK _ _ h)
theorem Aws (ct)(v)(st)(cs)(C)(w)(hc:Hq (fun k=>k<C) w ct v)(hR:Ie.R (fun k=>k<C) w st cs)(hC:C≤w.heap.size)(an:K9 ct)(hf:FitB st):
  bB aI 35 #[v,aY cs.toArray] w fun r w'=>(∃u,r=aK u∧Az5 (Cf ct st) (Fx C w.heap.size) w' u)∧Below w.heap.size w w':=by
 obtain⟨cv,ak,rfl,rfl,B0⟩:=V6 hc hR hC;have HG:=fun W (h:BkSt ct st C w W cv ak)=>Alp ct _ C W h.ic h.leW an
 have HX:=fun W (h:BkSt ct st C w W cv ak)=>Aji st _ C W h.is h.leW hf.fs
 have HK:=fun W (h:BkSt ct st C w W cv ak) hx ab=>Al6 ct _ st _ C W h.ic h.is h.leW hf hx ab
 rw[cH]at HX HK⊢;have hz:=A4z;go_enter Tryz.func35,Tryz.ntmps35;cases ab:Dv ct
 ·rw[ab]at HG;have HE:Hid (Cf ct st=.error 1):=if_pos (.inl ab);go_wp2_with(first|(refine wpList_load_row rfl 62 _ rfl _ ?_ 62 _ _ _ B0.cat aT ?_ ?_ ?_;exact rfl;exact rfl;exact B0.ci)|(go_fit(HG _ B0);rintro e w1 ⟨rfl,aa⟩;have B1:=B0.below aa)|(refine bZ rfl 50 _ _ rfl (w.heap.size+1+1) Bn ?_ ?_ 50 Bn ?_ ?_ ?_ ?_ ?_;exact rfl;exact rfl;exact B1.se.room;exact D4;exact rfl;exact hz));refine bR (Dq cZ _ _ _ 50 Bn _ _ _ rfl rfl (Ao B1.se.room) aQ rfl D4) rfl ⟨⟨_,rfl,?_⟩,Below.row B1.se.bel (by omega) _⟩;rw[HE.out];rfl
 ·rw[ab]at HG;cases ai:Kd st
  ·rw[ai]at HX;have HE:Hid (Cf ct st=.error 1):=if_pos (.inr ai);go_wp2_with(first|(refine Da ?_ 62 _ rfl _ ?_ 62 _ _ _ B0.cat aT ?_ ?_ ?_;exact rfl;exact rfl;exact rfl;exact B0.ci)|(go_fit(HG _ B0);rintro e w1 ⟨rfl,aa⟩;have B1:=B0.below aa)|(refine Da ?_ 50 _ rfl _ ?_ 50 _ _ _ B1.se.stm aQ ?_ ?_ ?_;exact rfl;exact rfl;exact rfl;exact B1.si)|(go_fit(HX _ B1);rintro e w2 ⟨rfl,ae⟩;have B2:=B1.below ae)|(refine bZ rfl 50 _ _ rfl (w.heap.size+1+1) Bn ?_ ?_ 50 Bn ?_ ?_ ?_ ?_ ?_;exact rfl;exact rfl;exact B2.se.room;exact D4;exact rfl;exact hz));refine bR (Dq cZ _ _ _ 50 Bn _ _ _ rfl rfl (Ao B2.se.room) aQ rfl D4) rfl ⟨⟨_,rfl,?_⟩,Below.row B2.se.bel (by omega) _⟩;rw[HE.out];rfl
  ·rw[ai]at HX;have HE:Hid (Cf ct st=Ep ct st):=if_neg (by grind);have am:=fun W h=>(HK W h ai (Azf ab))
   cases af:Ep ct st with
   |error m=>
    have m1:(m !=0)=aZ:=by rcases Ahs af with rfl|rfl|rfl|rfl|rfl<;>rfl
    go_wp2_with(first|(refine Da ?_ 62 _ rfl _ ?_ 62 _ _ _ B0.cat aT ?_ ?_ ?_;exact rfl;exact rfl;exact rfl;exact B0.ci)|(go_fit(HG _ B0);rintro e w1 ⟨rfl,aa⟩;have B1:=B0.below aa)|(refine Da ?_ 50 _ rfl _ ?_ 50 _ _ _ B1.se.stm aQ ?_ ?_ ?_;exact rfl;exact rfl;exact rfl;exact B1.si)|(go_fit(HX _ B1);rintro e w2 ⟨rfl,ae⟩;have B2:=B1.below ae)|(refine Da ?_ 62 _ rfl _ ?_ 62 _ _ _ B2.cat aT ?_ ?_ ?_;exact rfl;exact rfl;exact rfl;exact B2.ci)|(refine Da ?_ 50 _ rfl _ ?_ 50 _ _ _ B2.se.stm aQ ?_ ?_ ?_;exact rfl;exact rfl;exact rfl;exact B2.si)|(go_fit(am _ B2);rintro e w3 ⟨⟨u,rfl,a3,ac,ag,ah⟩,al⟩;rw[af]at ah;subst ah;have ad:=No ac;have aj:Hid _:=ac.symm;have B4:=(B2.below al).below (Below.row (Aq w3 (.cells Bn 50)) (aG _) a3))|(refine bZ rfl 50 _ _ rfl w3.heap.size a3 ?_ ?_ 50 Bn ?_ ?_ ?_ ?_ ?_;exact rfl;exact rfl;exact Ab w3 (.cells Bn 50);exact ad;exact aj.out;exact ag)|(refine bZ rfl 50 _ _ rfl (w.heap.size+1+1) Bn ?_ ?_ 50 Bn ?_ ?_ ?_ ?_ ?_;exact rfl;exact rfl;exact B4.se.room;exact D4;exact rfl;exact hz));refine bR (Dq cZ _ _ _ 50 Bn _ _ _ rfl rfl (Ao B4.se.room) aQ rfl D4) rfl ⟨⟨_,rfl,?_⟩,Below.row B4.se.bel (by omega) _⟩;rw[HE.out,af];rfl
   |ok st2=>
    go_wp2_with(first|(refine Da ?_ 62 _ rfl _ ?_ 62 _ _ _ B0.cat aT ?_ ?_ ?_;exact rfl;exact rfl;exact rfl;exact B0.ci)|(go_fit(HG _ B0);rintro e w1 ⟨rfl,aa⟩;have B1:=B0.below aa)|(refine Da ?_ 50 _ rfl _ ?_ 50 _ _ _ B1.se.stm aQ ?_ ?_ ?_;exact rfl;exact rfl;exact rfl;exact B1.si)|(go_fit(HX _ B1);rintro e w2 ⟨rfl,ae⟩;have B2:=B1.below ae)|(refine Da ?_ 62 _ rfl _ ?_ 62 _ _ _ B2.cat aT ?_ ?_ ?_;exact rfl;exact rfl;exact rfl;exact B2.ci)|(refine Da ?_ 50 _ rfl _ ?_ 50 _ _ _ B2.se.stm aQ ?_ ?_ ?_;exact rfl;exact rfl;exact rfl;exact B2.si)|(go_fit(am _ B2);rintro e w3 ⟨⟨u,rfl,a3,ac,ag,ah⟩,al⟩;rw[af]at ah;obtain⟨rfl,ap⟩:=ah;have ad:=No ac;have aj:Hid _:=ac.symm;have B4:=(B2.below al).below (Below.row (Aq w3 (.cells Bn 50)) (aG _) a3))|(refine bZ rfl 50 _ _ rfl w3.heap.size a3 ?_ ?_ 50 Bn ?_ ?_ ?_ ?_ ?_;exact rfl;exact rfl;exact Ab w3 (.cells Bn 50);exact ad;exact aj.out;exact ag)|(refine wpList_load_row rfl 50 _ rfl _ ?_ 50 _ _ _ (Ao (cells:=a3) (Ab w3 (.cells Bn 50))) aQ ?_ ?_ ?_;exact rfl;exact rfl;exact ad)|(refine bZ rfl 50 _ _ rfl (w.heap.size+1+1) a3 ?_ ?_ 50 Bn ?_ ?_ ?_ ?_ ?_;exact rfl;exact rfl;exact B4.se.room;exact ad;exact aj.out;exact ag));refine bR (Dq cZ _ _ _ 50 a3 _ _ _ rfl rfl (Ao B4.se.room) aQ rfl ad) rfl ⟨⟨_,rfl,?_⟩,Below.row B4.se.bel (by omega) _⟩;rw[HE.out,af];have hb:=B2.se.big;exact⟨a3,rfl,ac,ag,Ie.mono (fun k _ h=>h.1.imp id (fun h=>aC (by omega) h)) (Ie.keep (((Ai (Aq w3 _)).row (fun h=>h.2 rfl) _).row (fun h=>by have:=B0.le;rcases h.1 with h|h<;>omega) _) (Ie.mono (F':=fun k=>Fx C _ k∧k≠w3.heap.size) (fun k hk h=>⟨h,dE hk⟩) ap))⟩
end
section
mutual
theorem Md (S:List TabD):∀(e:E) (r:E×Int),Cv S e=.ok r→r.1.nodes=e.nodes∧(Ek e→Ek r.1)
 |.mk op x s name n l,r,h=>by
  rw[Cv]at h;split at h
  ·grind
  ·split at h
   ·split at h
    ·obtain rfl:=bA h;exact⟨rfl,fun hf=>by assumption⟩
    grind
   ·cases hl:Be S l with
    |error j=>grind
    |ok rs=>
     rw[hl]at h;simp only at h;obtain⟨h1,h2⟩:=Y9 S l rs hl;split at h
     ·obtain rfl:=bA h;exact⟨by simp only[E.nodes,h1],fun hf=>by rw[Ek]at hf⊢;grind⟩
     grind
theorem Y9 (S:List TabD):∀(l:List E) (rs:List (E×Int)),Be S l=.ok rs→Ev (rs.map cS)=Ev l∧(Qj l→Qj (rs.map cS))
 |[],rs,h=>by
  rw[Be]at h;grind
 |e::l,rs,h=>by
  rw[Be]at h;cases he:Cv S e with
  |error j=>grind
  |ok r=>
   rw[he]at h;simp only at h;cases hl:Be S l with
   |error j=>grind
   |ok rs'=>
    rw[hl]at h;obtain rfl:=bA h;obtain⟨h1,h2⟩:=Md S e r he;obtain⟨h3,h4⟩:=Y9 S l rs' hl;exact⟨by simp only[bQ,Ev,h1,h3],fun hf=>by rw[Qj]at hf;rw[bQ,Qj];grind⟩
end
theorem Atb {t}{row}(h:Ga t row=aZ):Aka t.cols row:=by
 simp only[Ga,cF,decide_eq_true_eq,cR]at h;refine⟨h.1,fun i c v hc hv=>?_⟩;have hi:=(aJ.1 hc).1;have:=J0 h.2 i (aP _) (by omega);unfold Aj4 at this;rw[hc,hv]at this;simp only[eJ,Ar7,cF,cJ,decide_eq_true_eq,cR]at this;grind
theorem Awt {t}{row}(hr:Aka t.cols row){ty}{d}{e e'}(h:asR [t] ty e=.ok e')(hg:geB d e=aZ):Pj ty (ev row e')∧e'.nodes=e.nodes∧(Ek e→Ek e'):=by
 unfold asR at h;cases hb:Cv [t] e with
 |error m=>grind
 |ok r=>
  rw[hb]at h;simp only at h;split at h
  ·rename_i aa;obtain rfl:=bA h;have h1:=Aev (by simpa[F8]using hr) hb hg;obtain⟨h2,h3⟩:=Md [t] e r hb;refine⟨⟨?_,h1.2⟩,h2,h3⟩;simp only[Jp,cJ,decide_eq_true_eq]at aa;rcases h1.1 with h|h
   ·omega
   omega
  grind
theorem Za {t}:∀{seen:List Wd}{l rs:List (Wd×E)},Cr t seen l=.ok rs→∀q∈rs,∃p∈l,q.1=p.1∧0≤D7 t.cols q.1∧asR [t] (Ab8 t.cols q.1) p.2=.ok q.2
 |seen,[],rs,h,q,hq=>by
  simp only[Cr,eC]at h;grind
 |seen,x::l,rs,h,q,hq=>by
  simp only[Cr]at h;cases hx:Si t seen x with
  |error j=>grind
  |ok r=>
   rw[hx]at h;simp only at h;cases hl:Cr t (seen++[x.1]) l with
   |error j=>grind
   |ok rs'=>
    rw[hl]at h;simp only[eC]at h;subst h;rcases dV.1 hq with rfl|hq
    ·refine⟨x,bJ,?_⟩;unfold Si at hx;grind
    ·obtain⟨p,hp,h1⟩:=Za hl q hq;grind
end
section
open Go.RowKit
mutual
theorem Abd (S:List TabD)(hS:(F8 S).length≤1000):∀(e:E) (r:E×Int),Cv S e=.ok r→(Df e→Df r.1)∧∀d,geB d e=aZ→Mv d r.1
 |.mk op x s name n l,r,h=>by
  rw[Cv]at h;have aa:∀d,geB (d+1) (.mk op x s name n l)=aZ→Gk op=0→l=[]:=fun d hg h0=>by
   have:=(Ru hg).1;simp_all
  split at h
  ·rename_i h1;obtain rfl:=bA h;refine⟨id,fun d hg=>?_⟩;cases d with
   |zero=>trivial
   |succ d=>
    have:=aa d hg (by rw[Gk,if_pos (.inl h1)]);subst this;exact⟨fun h2=>by omega,by simp⟩
  ·split at h
   ·rename_i h2;split at h
    ·rename_i ab;obtain rfl:=bA h;refine⟨fun hf=>by assumption,fun d hg=>?_⟩;cases d with
     |zero=>trivial
     |succ d=>
      have:=aa d hg (by rw[Gk,if_pos (.inr h2)]);subst this;obtain⟨i,c,hi,hc,_⟩:=Y8 ab;have:=(aJ.1 hc).1;exact⟨fun _=>by omega,by simp⟩
    grind
   ·rename_i h1 h2;cases hl:Be S l with
    |error j=>grind
    |ok rs=>
     rw[hl]at h;simp only at h;obtain⟨k1,k2⟩:=Zb S hS l rs hl;split at h
     ·obtain rfl:=bA h;refine⟨fun hf=>by rw[Df]at hf⊢;grind,fun d hg=>?_⟩;cases d with
      |zero=>trivial
      |succ d=>exact⟨fun h=>absurd h h2,k2 d (Ru hg).2.2⟩
     grind
theorem Zb (S:List TabD)(hS:(F8 S).length≤1000):∀(l:List E) (rs:List (E×Int)),Be S l=.ok rs→(Ec l→Ec (rs.map cS))∧∀d,(∀a∈l,geB d a=aZ)→∀a∈rs.map cS,Mv d a
 |[],rs,h=>by
  rw[Be]at h;grind
 |e::l,rs,h=>by
  rw[Be]at h;cases he:Cv S e with
  |error j=>grind
  |ok r=>
   rw[he]at h;simp only at h;cases hl:Be S l with
   |error j=>grind
   |ok rs'=>
    rw[hl]at h;obtain rfl:=bA h;obtain⟨h1,h2⟩:=Abd S hS e r he;obtain⟨h3,h4⟩:=Zb S hS l rs' hl;refine⟨fun hf=>by rw[Ec]at hf;rw[bQ,Ec];grind,fun d hd a ha=>?_⟩;grind
end
theorem Acj {d}{e}(h:e.opn=0):geB d e=aR:=by
 obtain⟨op,x,s,name,n,l⟩:=e;simp only[E.opn]at h;subst h;cases d with
 |zero=>rfl
 |succ d=>
  rfl
theorem Aew (ct)(t)(at')(eop ek en)(ex es em:Wd)(ei)(ea)(el ec)(e0)(to1)(tl1 tc1)(io)(il ic)(co)(cc)(C)(w)(he:IsE (fun k=>k<C) w e0 (aY #[Y Z eop,Y Z ek,Y Z en,U ex,U es,U em,Y Z ei,D ea el ec]))(hC:C≤w.heap.size)(hx:Df e0)(aa:geB 40 e0=aZ→Mv 40 e0)(ht:t.name.size≤100000)
  (ab:Hq (fun k=>k<C) w ct (aY #[D to1 tl1 tc1,D io il ic])) (ac:K9 ct) (ad:IsL Cp (fun k=>k<C) w (D co t.cols.length cc) t.cols) (ae:∀x∈ct.indexes,x.name.size≤1000):
  bB aI 123 #[aY #[D to1 tl1 tc1,D io il ic],aY #[U t.name,D co t.cols.length cc],Y Z at',aY #[Y Z eop,Y Z ek,Y Z en,U ex,U es,U em,Y Z ei,D ea el ec]] w fun e w'=>e=aK (J1 (Ds ct t at' e0).x (Ds ct t at' e0).lo (Ds ct t at' e0).hi)∧Below w.heap.size w w':=by
 cases hg:geB 40 e0 with
 |true=>exact Ata ct t at' eop ek en ex es em ei ea el ec e0 to1 tl1 tc1 io il ic co cc C w he hC hx (aa hg) hg ht ab ac ad ae
 |false=>
  have:Ds ct t at' e0=⟨noW,Hm t.name,Hn t.name⟩:=by rw[Ds,hg];rfl
  rw[this];exact Av8 t at' eop ek en ex es em ei ea el ec e0 to1 tl1 tc1 io il ic co cc C w he hC hx hg ht
theorem Amx (t:TabD)(W)(T)(pv)(so)(sc)(w)(hp:Bj w pv T)(hg:As T)(hT:T.length≤100000)(aa:W.x.size≤1000000)(ab:t.name.size≤1000000)(hx:∀x∈flat T,x.1.size≤1000000∧x.2.size≤1000000):
  bB aI 113 #[pv,aY #[U t.name,D so t.cols.length sc],J1 W.x W.lo W.hi] w fun e w'=>Ng w w' e (Hc t.cols.length T t.name W):=by
 unfold Hc
 by_cases h0:W.x=noW
 ·rw[if_pos h0,h0];exact Aau _ T pv so _ sc _ _ w hp hg hT fun x hh=>(hx x (Agc hh)).2
 ·rw[if_neg h0];exact Ao9 _ W.x T pv so _ sc _ _ w hp hg hT h0 aa ab hx
theorem Nq {E}{n}{c}{T}{a}{to' io po}{tc ic pc}{w}(he:EngC E w n c T a (D to' c.tables.length tc) (D io c.indexes.length ic) (D po T.length pc)){s}{t}(ht:Bv c.tables s=H t):
  bB aI 58 #[aV (H ⟨n,0,N⟩),U s] w fun e w'=>∃ao cc,e=aK (aY #[U t.name,D ao t.cols.length cc])∧IsL Cp (fun k=>k<w.heap.size) w' (D ao t.cols.length cc) t.cols∧Below w.heap.size w w':=by
 obtain⟨aa,hR,-⟩:=al1 w (aD #[U noW,D N 0 0] 82);have HF:=Hw ht _ (D io c.indexes.length ic) (Ca _ _ _) _ _ ((he.tabs.mono fun k hk _=>hk).keep (Ae aa)) aa.size;have bE:=(aa.block _ he.lt).trans he.blk;have c0:=Aa bE (j:=0) rfl;have c1:=Aa bE (j:=1) rfl;generalize hW:w.alloc _=W1 at aa hR HF bE c0 c1;have HW:Hid _:=hW;clear hW;go_enter Tryz.func58,Tryz.ntmps58;go_upto_region 1 with fail;rw[HW.out];go_wp2_with(go_fit HF;rintro e w2 ⟨ao,nt,cc,rfl,ad,ac⟩;obtain⟨ae,_⟩:=D5 ad;subst ae;have ab:=Ad ((ac.block _ (aA hR)).trans hR) (aD #[U t.name,D ao t.cols.length cc] 82);have r0:=Aa ab (j:=0) rfl;have r1:=Aa ab (j:=1) rfl;have z0:(w2.alloc (aD #[U t.name,D ao t.cols.length cc] 82)).frozen? ⟨w.heap.size,0,N⟩=aR:=(by simp only[aF,ab];rfl);have z1:(w2.alloc (aD #[U t.name,D ao t.cols.length cc] 82)).frozen? ⟨w.heap.size,1,N⟩=aR:=(by simp only[aF,ab];rfl));have af:Below _ w (w2.alloc (aD #[U t.name,D ao t.cols.length cc] 82)):=Ac (aa.trans (ac.mono aa.size)) (Aq _ _);refine bR (cK Tryz.results58 _ _ _ 82 _ _ _ rfl (Lt ab) Tryz.underlying82 rfl (by rfl)) rfl ⟨ao,cc,rfl,?_,(af.setCell (aG _) _).setCell (aG _) _⟩;exact ad.keep ((Ae ((((Aq w2 _).mono (aC aa.size ac.size)).setCell (aG _) _).setCell (aG _) _)))
theorem Uc {E}{n}{c}{T}{a}{tv iv}{po}{pc}{w}(he:EngC E w n c T a tv iv (D po T.length pc))(t:TabD)(so)(sc)(hT:T.length≤100000)(ad:t.name.size≤1000)(hx:∀x∈flat T,x.1.size≤1000000∧x.2.size≤1000000):
  bB aI 59 #[aV (H ⟨n,0,N⟩),aY #[U t.name,D so t.cols.length sc]] w fun e w'=>Afx w w' e (F5 t.cols.length (rng T (Hm t.name) (Hn t.name))):=by
 obtain⟨aa,hR,-⟩:=al1 w (aD #[U t.name,D so t.cols.length sc] 82);have bE:=(aa.block _ he.lt).trans he.blk;have HA:=fun W=>Aqk _ W (aC ad (by simp))
 have HR:=fun W h=>Aoa t.name T _ so t.cols.length sc (Hm t.name) (Hn t.name) W ⟨_,rfl,he.pages.pages.below h⟩ he.good hT (fun x hh=>(hx x (Agc hh)).2)
 generalize F5 _ _=A at HR;generalize hW:w.alloc _=W1 at aa hR bE;have HW:Hid _:=hW;have KS:Hid _:=fun W (h:Below _ W1 W)=>aN (show W.cell? _=H (D po _ pc)from Aa ((h.block _ (aA bE)).trans bE) (j:=2) rfl) (aN (show W.cell? _=H (U _)from Aa ((h.block _ (aA hR)).trans hR) (j:=0) rfl) (show W.cell? _=H (D so _ sc)from Aa ((h.block _ (aA hR)).trans hR) (j:=1) rfl))
 have s0:=KS.out _ (aE _ _).drew;generalize Hm _=lo at HA HR;generalize Hn _=hi at HA HR;unfold J1 at HA HR;clear hW;go_enter Tryz.func59,Tryz.ntmps59;go_upto_region 1 with fail;rw[HW.out]
 go_region_held3(fun W=>W.cell? ⟨n,2,N⟩=H (D po T.length pc)∧W.cell? ⟨w.heap.size,0,N⟩=H (U t.name)∧W.cell? ⟨w.heap.size,1,N⟩=H (D so t.cols.length sc)) (with_reducible omega)
  (first
   |(go_fit(HA _);rintro e w7 ⟨rfl,ae⟩;have ab:=Ac (aE _ _).drew ae;have s1:=KS.out w7 ab)
   |(go_fit(HR _ (Ac aa ab));rintro e w8 ⟨ah,rfl,af,ag⟩;have ac:=Ac ab ag;have s2:=KS.out w8 ac))
 go_wp2_with fail;go_ret;exact⟨_,rfl,af.mono (fun k _ hk=>aC (Ac aa ab).size hk),Ac aa ac⟩
theorem Abe {ct}{t}{at'}{e}(hx:∀x∈ct.indexes,x.name.size≤8):(Ds ct t at' e).x.size≤8:=by
 unfold Ds;split
 ·rcases Tz at' e t (if Dv ct=aZ then ct.indexes else[]) (Ix at' e t)with hc|⟨x,hx',_,hc⟩
  ·rw[hc];exact aP _
  grind
 ·exact aP _
theorem Arb {A O:List (List V)}(hn:A.Nodup)(hs:∀r∈A,r∈O):A.length≤O.length:=
 have:DecidableEq (List V):=fun _ _=>Classical.propDecidable _
 X7 hn hs
theorem Iy {v}(h:good v=aZ):v.s.size≤aM:=by
 have h8:v.s.size≤8:=by
  unfold good at h;split at h
  ·grind
  ·grind
 exact aC h8 (by decide)
theorem Amy {a b}(h1:¬Bt a b<0)(h2:¬Bt b a<0):a=b:=by
 rw[Uo]at h1 h2;have hk:a.k=b.k:=by
  rcases eO a.k b.k with h|h|h
  ·omega
  ·omega
  ·omega
 have hn:a.n=b.n:=by
  rcases eO a.n b.n with h|h|h
  ·omega
  ·omega
  ·omega
 have hs:a.s=b.s:=by
  cases h:klt a.s b.s with
  |true=>grind
  |false=>
   rcases Ji h with e|e
   ·omega
   grind
 obtain⟨ak,an,sa⟩:=a;simp_all
theorem Apk {d}(ok:DbOk d){t}(ht:t∈d.c.tables){p}{A}(hn:A.Nodup)(hm:∀r,r∈A↔r∈d.R t.name∧p r=aZ)(hs:A.Pairwise fun a b=>¬Bt (b.headD zero) (a.headD zero)<0):A=(d.R t.name).filter p:=by
 refine Y3 (r:=fun a b=>Bt (a.headD zero) (b.headD zero)<0) (fun a b h1 h2=>Aav _ (Add h1 h2)) ?_ ?_ fun x=>?_
 ·refine(hs.and hn).imp_of_mem fun{a b} ha hb h=>?_
  obtain⟨h1,h2⟩:=h;rcases Classical.em (Bt (a.headD zero) (b.headD zero)<0)with h|h
  ·omega
  ·have e:=Amy h h1;exact absurd (Y4 ok ht ((hm a).1 ha).1 ((hm b).1 hb).1 (by rw[rk,rk,e])) h2
 ·have h1:=(ok.rise t ht).sublist (cL (p:=p));refine h1.imp_of_mem fun{a b} ha hb h=>?_
  exact A1r (Lu ok ht (cA.1 ha).1) (Lu ok ht (cA.1 hb).1) h
 grind
theorem Atc {d}(ok:DbOk d){T}(hT:As T)(h:Has d (flat T)){t}(ht:t∈d.c.tables)(e){A}(hp:A.Perm ((Hc t.cols.length T t.name (Ds d.c t 0 e)).filter (Au e)))(hs:A.Pairwise fun a b=>¬Bt (b.headD zero) (a.headD zero)<0):A=(d.R t.name).filter (Au e):=by
 obtain⟨h1,h2,h3⟩:=Mx ok hT h ht 0 e;refine Apk ok ht (hp.symm.nodup (h1.sublist cL)) (fun r=>?_) hs;rw[hp.mem_iff,cA];refine and_congr_left fun hh=>⟨h2 r,fun hr=>h3 r hr fun hg=>?_⟩
 have aa:e.opn≠0:=fun h0=>by rw[Acj h0]at hg;grind
 simp only[Au,cJ,decide_eq_true_eq,aa,false_or]at hh;refine⟨r,hh,fun k _=>?_⟩;rw[Ms,if_pos (by omega),Int.zero_add,bK];simp
theorem Ah8 {F}{w}(q)(p):∀{A:List (List V)}{cs:List aX}(i:Nat),All C8 F w A cs→(∀(j:Nat) (r:List V),A[j]?=H r→p (i+j)= !q r)→All C8 F w (A.filter q) (Bw p i (cs.map fun v=>[v])).flatten
 |[],cs,i,h,_=>by have:cs=[]:=h;subst this;rfl
 |r::A,cs,i,h,hp=>by
  obtain⟨c,rest,rfl,⟨sv,rfl,h1⟩,h2⟩:=h;have h0:=hp 0 r rfl;rw[bC]at h0;have ih:=Ah8 q p (i+1) h2 fun j x hx=>by have:=hp (j+1) x (by grind);grind
  rw[List.singleton_append,bQ,Bw];cases hq:q r with
  |true=>
   rw[hq]at h0;rw[h0,dZ hq];exact⟨_,_,rfl,⟨sv,rfl,h1⟩,ih⟩
  |false=>
   grind
theorem Awu (cs:List aX):(cs.map fun v=>[v]).flatten=cs:=by
 induction cs with
 |nil=>rfl
 |cons a l ih=>grind
theorem Ack (p):∀(cs:List aX) (i:Nat),(Bw p i (cs.map fun v=>[v])).flatten.length=(Bw p i (cs.map fun v=>[v])).length
 |[],i=>rfl
 |c::cs,i=>by
  rw[bQ,Bw];split
  ·exact Ack p cs _
  ·simp only[List.flatten_cons,aL,bH,List.length_nil,Ack p cs (i+1)];omega
theorem Atd (e0)(op xk xn)(xs s aa:Wd)(n8)(ao)(kk cc)(rv)(row)(C g)(w)(he:IsE (fun k=>k<C) w e0 (aY (Af op ⟨xk,xn,xs⟩ s aa n8 (D ao kk cc))))(hC:C≤w.heap.size)(hn:Fk e0)(hr:Cq w rv row)(ab:∀v∈row,v.s.size≤aM)(ac:row.length≤aM)(hg:w.heap[g]?=H (aD (Af op ⟨xk,xn,xs⟩ s aa n8 (D ao kk cc)) 48)):
  bB aI 125 #[rv,aV (H ⟨g,0,N⟩)] w fun e w'=>e=aK (dO (!Au e0 row))∧Below w.heap.size w w':=by
 have HH:=Ah5 e0 op xk xn xs s aa n8 ao kk cc rv row C w he hC hn hr ab ac;have d0:=Aa hg (j:=0) rfl;have d1:=Aa hg (j:=1) rfl;have d2:=Aa hg (j:=2) rfl;have d3:=Aa hg (j:=3) rfl;have d4:=Aa hg (j:=4) rfl;have d5:=Aa hg (j:=5) rfl;have d6:=Aa hg (j:=6) rfl;have d7:=Aa hg (j:=7) rfl;generalize Au e0 row=q at HH;obtain⟨ro,rc,ad⟩:=hr.shape;subst ad;clear he hr hg;cases q
 all_goals
  go_enter Tryz.func125,Tryz.ntmps125;go_wp2_with(go_fit HH;rintro e w1 ⟨rfl,ae⟩);go_ret;simp_all
theorem Pk {F}{w w'}{z}(h:w.grownBy w' z)(hF:∀k,F k→H k≠z):Keeps F w w':=⟨h.size,fun k hk hl=>h.block k hl (hF k hk)⟩
theorem Ah9 {Eg}{n}{d}{T}{a}{to' io po}{tc ic pc}{w}(he:EngC Eg w n d.c T a (D to' d.c.tables.length tc) (D io d.c.indexes.length ic) (D po T.length pc))(ok:DbOk d)(ab:Has d (flat T))(t)(so)(sc)(hl:IsL Cp (fun k=>k<w.heap.size) w (D so t.cols.length sc) t.cols)(ht:t∈d.c.tables)
  (e0) (op xk xn) (xs s ac:Wd) (n8) (ao) (kk cc) (am:IsE (fun k=>k<w.heap.size) w e0 (aY (Af op ⟨xk,xn,xs⟩ s ac n8 (D ao kk cc)))) (hn:Fk e0) (aw:Df e0) (ax:geB 40 e0=aZ→Mv 40 e0) (ay:K9 d.c):
  bB aI 64 #[aV (H ⟨n,0,N⟩),aY #[U t.name,D so t.cols.length sc],aY (Af op ⟨xk,xn,xs⟩ s ac n8 (D ao kk cc))] w fun e w'=>Ng w w' e ((d.R t.name).filter (Au e0)):=by
 obtain⟨_,an,az⟩:=Ed ok.cat;obtain⟨ba,ch,bl⟩:=az t ht;have hT:=aC (Jb he.good) (Lv ok he.good ab);obtain⟨aa,bT,bW,bm⟩:=al2 w (aD #[U t.name,D so t.cols.length sc] 82) (aD (Af op ⟨xk,xn,xs⟩ s ac n8 (D ao kk cc)) 48);generalize hW:(w.alloc _).alloc _=W1 at aa bT bW bm;have HW:Hid _:=hW;have ai:=he.below aa;have ae:=fun W h=>Aew d.c t 0 op xk xn xs s ac n8 ao kk cc e0 to' _ tc io _ ic so sc _ W (IsE.keep (Ae (Ac aa h)) _ _ am) (Ac aa h).size aw ax (aC ba (by simp)) ⟨_,_,rfl,(he.tabs.mono fun k hk _=>hk).keep (Ae (Ac aa h)),(he.idxs.mono fun k hk _=>hk).keep (Ae (Ac aa h))⟩ ay (hl.keep (Ae (Ac aa h))) (fun x hx=>aC (an x hx) (by simp))
 have ad:=fun W h=>Amx t (Ds d.c t 0 e0) T _ so sc W ⟨_,rfl,(ai.below h).pages.pages⟩ he.good (by omega) (aC (Abe an) (by simp)) (aC ba (by simp)) (Qc ok ab)
 have HM:Hid (∀A,A.Perm ((Hc t.cols.length T t.name (Ds d.c t 0 e0)).filter (Au e0))→(A.Pairwise fun a b=>¬Bt (b.headD zero) (a.headD zero)<0)→A=(d.R _).filter _):=fun A h1 h2=>Atc ok he.good ab ht e0 h1 h2
 have ap:Hid _:=(Mx ok he.good ab ht 0 e0).2.1;have bb:Hid _:=aC (Arb (Mx ok he.good ab ht 0 e0).1 (Mx ok he.good ab ht 0 e0).2.1) (ok.len t ht);have bc:Hid _:=fun r hr=>B7 (ok.fit t ht r hr)
 generalize(d.R _).filter _=RES at HM;generalize Hc _ T _ _=A at ad HM ap bb;generalize Ds d.c t 0 e0=cw at ae ad;obtain⟨cx,cj,ck⟩:=cw;unfold J1 at ae ad;simp only at ae ad;have KS:Hid _:=fun W (h:Below _ W1 W)=>aN (aN (show W.cell? _=H (D po _ pc)from Aa (ai.below h).blk (j:=2) rfl) (aN (show W.cell? _=H (D to' _ tc)from Aa (ai.below h).blk (j:=0) rfl) (aN (show W.cell? _=H (D io _ ic)from Aa (ai.below h).blk (j:=1) rfl) (aN (show W.cell? _=H (U _)from Aa ((h.block _ (aA bT)).trans bT) (j:=0) rfl) (show W.cell? _=H (D so _ sc)from Aa ((h.block _ (aA bT)).trans bT) (j:=1) rfl))))) (show W.cell? _=H (Y _ op)∧W.cell? _=H (Y _ xk)∧W.cell? _=H (Y _ xn)∧W.cell? _=H (U xs)∧W.cell? _=H (U s)∧W.cell? _=H (U ac)∧W.cell? _=H (Y _ n8)∧W.cell? _=H (D ao kk cc)from
  ⟨Aa ((h.block _ (aA bW)).trans bW) (j:=0) rfl,Aa ((h.block _ (aA bW)).trans bW) (j:=1) rfl,Aa ((h.block _ (aA bW)).trans bW) (j:=2) rfl,Aa ((h.block _ (aA bW)).trans bW) (j:=3) rfl,Aa ((h.block _ (aA bW)).trans bW) (j:=4) rfl,Aa ((h.block _ (aA bW)).trans bW) (j:=5) rfl,Aa ((h.block _ (aA bW)).trans bW) (j:=6) rfl,Aa ((h.block _ (aA bW)).trans bW) (j:=7) rfl⟩)
 have s0:=KS.out _ (aE _ _).drew;have bn:Hid _:=am;have HN:Hid _:=hn;clear hW am hn aw ax ay hl ok ab an az;go_enter Tryz.func64,Tryz.ntmps64;go_upto_region 1 with fail;rw[HW.out]
 go_region_held3(fun W=>(W.cell? ⟨n,2,N⟩=H (D po T.length pc)∧W.cell? ⟨n,0,N⟩=H (D to' d.c.tables.length tc)∧W.cell? ⟨n,1,N⟩=H (D io d.c.indexes.length ic)∧W.cell? ⟨w.heap.size,0,N⟩=H (U t.name)∧W.cell? ⟨w.heap.size,1,N⟩=H (D so t.cols.length sc))∧(W.cell? ⟨w.heap.size+1,0,N⟩=H (Y Z op)∧W.cell? ⟨w.heap.size+1,1,N⟩=H (Y Z xk)∧W.cell? ⟨w.heap.size+1,2,N⟩=H (Y Z xn)∧W.cell? ⟨w.heap.size+1,3,N⟩=H (U xs)∧W.cell? ⟨w.heap.size+1,4,N⟩=H (U s)∧W.cell? ⟨w.heap.size+1,5,N⟩=H (U ac)∧W.cell? ⟨w.heap.size+1,6,N⟩=H (Y Z n8)∧W.cell? ⟨w.heap.size+1,7,N⟩=H (D ao kk cc))) (with_reducible omega)
  (first
   |(go_fit(ae _ (aE _ _).drew);rintro e w7 ⟨rfl,bo⟩;have af:=Ac (aE _ _).drew bo;have s1:=KS.out w7 af)
   |(go_fit(ad _ af);rintro e w8 ⟨bd,rfl,bp,be⟩;have ag:=Ac af be;have s2:=KS.out w8 ag))
 obtain⟨bf,ah,aj⟩:=bp;have aq:=(Ac aa af).size;have ar:bf.length=A.length:=by have:=ah.1;omega
 have cl:=aO (aA bW) af.size;have bg:=be.size;have ak:=ah.lt;have HD:=Ak5 (bf.map fun v=>[v]) bd (aV (H ⟨w.heap.size+1,0,N⟩)) (fun i=>match A[i]? with|some r=>!Au e0 r|none=>aR) w7.heap.size w8 (by rw[aS,Awu,ar];exact ah) (by
   intro c hc;obtain⟨v,hv,rfl⟩:=cN.1 hc;obtain⟨i,hi,rfl⟩:=aW hv;obtain⟨c',⟨sv,rfl,hR⟩,h2⟩:=Ul aj (aB (show i<A.length by omega));have h3:=h2 0 sv rfl;simp only[C8,eE,bC]at h3;rw[aB hi]at h3;obtain⟨cm,c9,rfl⟩:=hR.shape;exact⟨_,_,_,by rw[cD h3]⟩) bg (by
   intro i c W hi al;rw[bO]at hi;obtain⟨v,hv,rfl⟩:=Option.map_eq_some_iff.1 hi;have au:i<A.length:=by have:=(aJ.1 hv).1;omega
   obtain⟨c',⟨sv,rfl,hR⟩,h2⟩:=Ul aj (aB au);have h3:=h2 0 sv rfl;simp only[C8,eE,bC]at h3;rw[hv]at h3;obtain rfl:=cD h3;have bq:=Pk (F:=FO w7.heap.size bd) al fun k hk=>hk.2
   have bt:=Pk (F:=fun k=>k<w.heap.size) al fun k hk e=>by have:=(ak k e.symm).1;omega
   have hr:=bc.out _ (ap.out _ (cE au));have:=Atd e0 op xk xn xs s ac n8 ao kk cc v A[i] w.heap.size (w.heap.size+1) W (IsE.keep bt _ _ (IsE.keep (Ae (Ac aa ag)) _ _ bn.out)) (aC (Ac aa ag).size al.size) HN.out (F6 (hR.keep bq)) (fun v hv=>Iy (hr.2 v hv)) (by rw[hr.1];exact aC bl (by decide)) ((al.block _ (by omega) (fun e=>by have:=(ak _ e.symm).1;omega)).trans ((ag.block _ (aA bW)).trans bW));rw[aB au];exact this)
 obtain⟨bu,bv,bw⟩:=Ex.shape (Ex.of_own ah);have bx:Hid _:=aj;have cn:Hid _:=ak;subst bw;have co:=bb.out;have cp:Hid _:=ar;clear KS s0 s1 s2 ae ad aj ak ah ar;go_upto_region 3 with(go_fit HD;rintro e w9 ⟨av,rfl,bh,bz,bi,bj⟩);have bk:Dm w7.heap.size av (A.filter (Au e0)) w9:=by
  have h1:=Ah8 (Au e0) (fun i=>match A[i]? with|some r=>!Au e0 r|none=>aR) 0 bx.out (fun j r hr=>by grind);have h2:=(All.keep (Pk (F:=FO w7.heap.size (D bu A.length bv)) bi fun k hk=>hk.2) h1).mono (F':=FO w7.heap.size av) (fun k _ hk=>⟨hk.1,by grind⟩);have h3:=h2.length;rw[Ack]at h3;simp only[C8,eE]at h3;refine⟨_,?_,h2⟩;rw[←h3];exact bh
 have ca:=aC bg bj.size;have cb:(A.filter (Au e0)).length≤1000000:=aC (List.length_filter_le _ _) (by omega);have HS:=Ak2 _ av _ w9 bk ca (fun r hr=>by have:=bc.out r (ap.out r (cA.1 hr).1);omega) cb;clear HD bh bi bz bk;go_wp2_with(go_fit HS;rintro e cq ⟨rfl,A',cd,ce,cf,cg⟩);go_ret;have hA:=HM.out A' cd ce;subst hA;refine⟨_,rfl,cf.base aq,?_⟩;exact(((Ac aa ag).trans (bj.mono aq)).trans (cg.mono aq))
theorem A5l {l}{rows}{x}:x∈Gw l rows↔∃f∈l,∃r∈rows,x=Ei f r:=by
 unfold Gw;grind
def Cj (A:TabD→Nat→List (List V)):Nat→List Fnd→List TabD→List Fnd
 |_,l,[]=>l
 |a,l,t::ts=>Cj A (a+t.cols.length) (Gw l (A t a)) ts
def Ow (d:Db)(T:List Pg)(e:E)(t:TabD)(a:Nat):List (List V):=Hc t.cols.length T t.name (Ds d.c t (a:Int) e)
def Hd (d:Db)(t:TabD)(_:Nat):List (List V):=d.R t.name
theorem H9 {A}:∀(ts:List TabD) {a:Nat}{l:List Fnd}{x:Fnd},x∈Cj A a l ts↔∃f∈l,x∈Cj A a [f] ts
 |[],_,l,x=>by simp[Cj]
 |t::ts,a,l,x=>by
  simp only[Cj];constructor
  ·intro h;obtain⟨g,hg,hx⟩:=(H9 ts).1 h;obtain⟨f,hf,r,hr,rfl⟩:=A5l.1 hg;exact⟨f,hf,(H9 ts).2 ⟨_,A5l.2 ⟨f,List.mem_singleton_self _,r,hr,rfl⟩,hx⟩⟩
  ·rintro⟨f,hf,hx⟩;obtain⟨g,hg,hy⟩:=(H9 ts).1 hx;obtain⟨f',aa,r,hr,rfl⟩:=A5l.1 hg;rw[cB]at aa;subst aa;exact(H9 ts).2 ⟨_,A5l.2 ⟨f',hf,r,hr,rfl⟩,hy⟩
theorem Amz {A B}:∀(ts:List TabD) {a:Nat}{l:List Fnd}{x:Fnd},(∀t∈ts,∀a r,r∈A t a→r∈B t a)→x∈Cj A a l ts→x∈Cj B a l ts
 |[],_,_,_,_,h=>h
 |t::ts,a,l,x,hs,h=>by
  obtain⟨g,hg,hx⟩:=(H9 ts).1 h;obtain⟨f,hf,r,hr,rfl⟩:=A5l.1 hg;exact(H9 ts).2 ⟨_,A5l.2 ⟨f,hf,r,hs t bJ _ _ hr,rfl⟩,Amz ts (fun t ht=>hs t (bN _ ht)) hx⟩
theorem Abf {A}:∀(ts:List TabD) {a:Nat}{f x:Fnd},x∈Cj A a [f] ts→∃s,x.row=f.row++s
 |[],_,f,x,h=>⟨[],by rw[Cj,cB]at h;grind⟩
 |t::ts,a,f,x,h=>by
  obtain⟨g,hg,hx⟩:=(H9 ts).1 h;obtain⟨f',aa,r,_,rfl⟩:=A5l.1 hg;rw[cB]at aa;subst aa;obtain⟨s,hs⟩:=Abf ts hx;exact⟨_,by rw[hs,Ei,cC]⟩
theorem Aia {l}{rows}{a c}(hl:∀f∈l,f.row.length=a)(hr:∀r∈rows,r.length=c):∀f∈Gw l rows,f.row.length=a+c:=fun x hx=>by
 obtain⟨f,hf,r,h,rfl⟩:=A5l.1 hx;rw[Ei,aL,hl f hf,hr r h]
theorem Aib {d}(ok:DbOk d){T}(hT:As T)(h:Has d (flat T))(e):∀(ts:List TabD) (a:Nat) (l:List Fnd) (x:Fnd),(∀t∈ts,t∈d.c.tables)→(∀f∈l,f.row.length=a)→x∈Cj (Hd d) a l ts→Au e x.row=aZ→x∈Cj (Ow d T e) a l ts
 |[],_,_,_,_,_,hx,_=>hx
 |t::ts,a,l,x,ht,hl,hx,hh=>by
  have aa:=ht t bJ;have ab:=fun r hr=>(B7 (ok.fit t aa r hr)).1
  obtain⟨g,hg,ac⟩:=(H9 ts).1 (Aib ok hT h e ts _ _ x (fun t ad=>ht t (bN _ ad)) (Aia hl ab) hx hh);obtain⟨s,hs⟩:=Abf ts ac;obtain⟨f,hf,r,hr,rfl⟩:=A5l.1 hg;refine(H9 ts).2 ⟨_,A5l.2 ⟨f,hf,r,?_,rfl⟩,ac⟩;refine(Mx ok hT h aa _ e).2.2 r hr fun ae=>?_
  have af:e.opn≠0:=fun h0=>by rw[Acj h0]at ae;grind
  simp only[Au,cJ,decide_eq_true_eq,af,false_or]at hh;refine⟨_,hh,fun k hk=>?_⟩;have ag:=hl f hf;have ah:=ab r hr;rw[Ms,if_pos (by omega),hs,Ei,show(a+(k:Int)).toNat=a+k from by omega,cC,dL (by omega),dQ (by omega),ag,Nat.add_sub_cancel_left,bK]
theorem Ate {l}{rows}{a}(hl:∀f∈l,f.row.length=a)(hp:l.Pairwise fun x y=>x.row≠y.row)(hr:rows.Nodup):(Gw l rows).Pairwise fun x y=>x.row≠y.row:=by
 unfold Gw;rw[List.pairwise_flatMap];refine⟨fun f _=>?_,hp.imp_of_mem fun{f g} hf hg aa x hx y hy he=>?_⟩
 ·rw[eL];exact hr.imp fun aa he=>aa (List.append_cancel_left he)
 ·obtain⟨r,_,rfl⟩:=cN.1 hx;obtain⟨r',_,rfl⟩:=cN.1 hy;exact aa (List.append_inj he (by grind)).1
theorem Rg {A}:∀(ts:List TabD) (a:Nat) (l:List Fnd),(∀t∈ts,∀a,(A t a).Nodup∧∀r∈A t a,r.length=t.cols.length)→(∀f∈l,f.row.length=a)→(l.Pairwise fun x y=>x.row≠y.row)→(Cj A a l ts).Pairwise fun x y=>x.row≠y.row
 |[],_,_,_,_,hp=>hp
 |t::ts,a,l,hA,hl,hp=>by
  obtain⟨h1,h2⟩:=hA t bJ a;exact Rg ts _ _ (fun t ht=>hA t (bN _ ht)) (Aia hl h2) (Ate hl hp h1)
theorem Apl {d}(ok:DbOk d){T}(hT:As T)(h:Has d (flat T))(e)(ts)(ht:∀t∈ts,t∈d.c.tables):
  ((Cj (Ow d T e) 0 [⟨[],[],[]⟩] ts).filter fun f=>Au e f.row).Perm ((Cj (Hd d) 0 [⟨[],[],[]⟩] ts).filter fun f=>Au e f.row):=by
 have ab:=fun t h r hr=>(B7 (ok.fit t (ht t h) r hr)).1
 have hw:=fun t h' (a:Nat)=>Mx ok hT h (ht t h') a e
 have h0:∀f∈[(⟨[],[],[]⟩:Fnd)],f.row.length=0:=fun f hf=>by grind
 refine(List.perm_ext_iff_of_nodup (((Rg (A:=Ow d T e) ts 0 _ (fun t h' a=>⟨(hw t h' a).1,fun r hr=>ab t h' r ((hw t h' a).2.1 r hr)⟩) h0 (dY _ _)).imp fun aa he=>aa (by grind)).sublist cL) (((Rg (A:=Hd d) ts 0 _ (fun t h' a=>⟨(ok.rise t (ht t h')).imp (fun{a b} ac he=>by rw[he]at ac;exact absurd ac (by simp[Gt])),fun r hr=>ab t h' r hr⟩) h0 (dY _ _)).imp fun aa he=>aa (by grind)).sublist cL)).2 fun x=>?_
 rw[cA,cA];refine and_congr_left fun hh=>⟨Amz ts fun t h' a r hr=>(hw t h' a).2.1 r hr,fun hx=>Aib ok hT h e ts 0 _ x ht h0 hx hh⟩
def G5 (st:Stm)(f:Fnd):Fnd:=⟨f.row,f.ids,st.order.map (ev f.row)⟩
def Hh (st:Stm):Int:=if st.down then-1 else 1
theorem Abg {F}{w}{vv}{L}(hv:IsL Ly F w vv L):∀{A:List Fnd}{cs:List aX}{i:Nat}{f:Fnd},All Qk F w A cs→A[i]?=H f→All Qk F w (A.set i ⟨f.row,f.ids,L⟩) (cs.set (i*3+2) vv)
 |a::A,cs,0,f,h,hf=>by
  obtain⟨c,rest,rfl,⟨x,y,d,rfl,h2,h3,h4⟩,h5⟩:=h;simp only[List.getElem?_cons_zero,Option.some.injEq]at hf;subst hf;exact⟨_,rest,rfl,⟨x,y,vv,rfl,h2,h3,hv⟩,h5⟩
 |a::A,cs,i+1,f,h,hf=>by
  obtain⟨c,rest,rfl,⟨x,y,d,rfl,h2⟩,h5⟩:=h;refine⟨_,_,?_,⟨x,y,d,rfl,h2⟩,Abg hv h5 (by simpa using hf)⟩;grind
 |[],cs,i,f,h,hf=>by grind
theorem Az6 {w:bD}{B g n cap}{t}{cs}(h:w.ownsRow B t 3 (D (H ⟨g,0,N⟩) n cap) n cs)(j)(v):(w.setCell ⟨g,j,N⟩ v).ownsRow B t 3 (D (H ⟨g,0,N⟩) n cap) n (cs.set j v):=by
 rcases G2 h with⟨h0,_⟩|⟨g',cap',X,hv,hB,hX,hn,hm,hl,ht⟩
 ·cases h0
 ·cases hv;refine Jm hB (X:=X.set j v) ?_ hn hm (by grind) (by rw[List.take_set,ht]);have:=Dj hX j v;grind
theorem Awv {α:Type}{l:List α}{k}{x}(h:l[k]?=H x):l.drop k=x::l.drop (k+1):=by
 obtain⟨hk,rfl⟩:=aJ.1 h;simp
theorem Ajo {B}{z}{A}{w w'}(h:Di B z A w)(hb:Below w.heap.size w w'):Di B z A w':=by
 obtain⟨cs,h1,h2⟩:=h;exact⟨cs,Ak h1 hb,h2.keep (Ai hb)⟩
theorem Apm (st)(cs)(A)(z)(B)(w)(hR:Ie.R (fun k=>k<B) w st cs)(h:Di B z A w)(hB:B≤w.heap.size)(hl:A.length≤100000)(bz:st.order.length≤1000000)(ba:∀e∈st.order,Fk e)(ai:∀f∈A,f.ids.length≤1000000∧f.row.length≤aM∧∀v∈f.row,v.s.size≤aM):
  bB aI 66 #[aY cs.toArray,z] w fun e w'=>e=aK z∧∃A',A'.Perm (A.map (G5 st))∧(A'.Pairwise fun a b=>¬Ku (Hh st) b a<0)∧Di B z A' w'∧Below B w w':=by
 obtain⟨o1,c1,o2,c2,o3,c3,o4,c4,o5,c5,op,xk,xn,xs,s,ae,n8,o6,k6,c6,o7,c7,rfl,i1,i2,i3,i4,i5,i6,i7⟩:=Bb hR;obtain⟨ca,af,bb⟩:=h;obtain⟨zo,zc,hz⟩:=Ex.shape (Ex.of_own af);subst hz;obtain⟨ac,bS,-⟩:=al1 w (aD (sA st.kind st.name st.table st.col (D o1 st.cols.length c1) (D o2 st.rows.length c2) (D o3 st.sets.length c3) (D o4 st.frm.length c4) (D o5 st.out.length c5) op xk xn xs s ae n8 (D o6 k6 c6) (D o7 st.order.length c7) st.down st.n) 50);have bc:=af.lt;have HZ:Hid (∀k,(dF zo A.length zc).ownBlock=H k→B≤k∧k<w.heap.size):=fun k hk=>bc k hk
 have aj:=i7.keep (Ai ac);have bd:Di B (D zo A.length zc) A (w.alloc (aD (sA st.kind st.name st.table st.col (D o1 st.cols.length c1) (D o2 st.rows.length c2) (D o3 st.sets.length c3) (D o4 st.frm.length c4) (D o5 st.out.length c5) op xk xn xs s ae n8 (D o6 k6 c6) (D o7 st.order.length c7) st.down st.n) 50)):=⟨ca,Ak af ac,bb.keep (Ai ac)⟩;generalize hW:w.alloc (aD (sA st.kind st.name st.table st.col (D o1 st.cols.length c1) (D o2 st.rows.length c2) (D o3 st.sets.length c3) (D o4 st.frm.length c4) (D o5 st.out.length c5) op xk xn xs s ae n8 (D o6 k6 c6) (D o7 st.order.length c7) st.down st.n) 50)=W1 at ac bS aj bd;have HW:Hid _:=hW;have HO:Hid _:=aj;have cb:Hid _:=ba;have cc:Hid _:=ai;have cd:Hid (∀f∈A.map (G5 st),f.ids.length≤1000000∧f.ord.length≤1000000):=fun f hf=>by
  obtain⟨q,hq,rfl⟩:=cN.1 hf;exact⟨(ai q hq).1,by simpa[G5]using bz⟩
 clear hW hR i1 i2 i3 i4 i5 i6 i7 aj ba ai af bb bc;generalize be:Hh st=tn;have bf:Hid _:=be;clear be;have bg:(A.map (G5 st)).length≤1000000:=by rw[aS];omega
 have ce:Hid _:=bg;clear bg;go_enter Tryz.func66,Tryz.ntmps66;go_upto_region 1 with fail;rw[HW.out];go_wp2
 go_loopw[10] (fun i wr=>∃k:Nat,k≤A.length∧i=Y Z k∧Hid (Di B (D zo A.length zc) ((A.map (G5 st)).take k++A.drop k) wr)∧wr.heap[w.heap.size]?=H (aD (sA st.kind st.name st.table st.col (D o1 st.cols.length c1) (D o2 st.rows.length c2) (D o3 st.sets.length c3) (D o4 st.frm.length c4) (D o5 st.out.length c5) op xk xn xs s ae n8 (D o6 k6 c6) (D o7 st.order.length c7) st.down st.n) 50)∧Below B w wr∧w.heap.size+1≤wr.heap.size∧Below B W1 wr) (fun i _=>A.length-(bL i).toNat)
 case atStart=>exact⟨0,aP _,rfl,by show Di _ _ _ _;simpa using bd,bS,ac.mono hB,aA bS,aE _ _⟩
 case round=>
  obtain⟨k,hk,rfl,ak,al,aa,db,bh⟩:=hrel
  by_cases bi:k<A.length
  ·obtain⟨f,hf⟩:∃f,A[k]?=H f:=⟨_,aB bi⟩;obtain⟨cf,ag,am⟩:=ak.out;have an:((A.map (G5 st)).take k++A.drop k)[k]?=H f:=by
    rw[dL (by rw[bG];omega),bG,aS,Nat.min_eq_left hk,eB,List.getElem?_drop,bC];exact hf
   have cg:((A.map (G5 st)).take k++A.drop k).length=A.length:=by simp;omega
   rw[cg]at ag;obtain⟨g,cap,X,ch,bj,hX,dc,dd,de,bk⟩:∃(g cap:Nat) (X:List aX),dF zo A.length zc=D (H ⟨g,0,N⟩) A.length cap∧B≤g∧wr.heap[g]?=H (aD X.toArray 123)∧A.length≤cap∧cap≤aM∧X.length=cap*3∧X.take (A.length*3)=cf:=by
    rcases G2 ag with⟨_,h0⟩|h
    ·omega
    ·exact h
   cases ch;obtain⟨c',⟨x1,x2,x3,rfl,ap,bl,bm⟩,bn⟩:=Ul am an;have ah:∀j u,[x1,x2,x3][j]?=H u→wr.cell? ⟨g,k*3+j,N⟩=H u:=fun j u hj=>by
    have h1:=bn j u hj;simp only[Qk]at h1;refine Aa hX ?_;have df:j<3:=by have:=(aJ.1 hj).1;simpa using this
    rw[←bk,dW (by omega)]at h1;simpa using h1
   have d0:=ah 0 _ rfl;have d1:=ah 1 _ rfl;have d2:=ah 2 _ rfl;simp only[bC]at d0;obtain⟨y1,z1,rfl⟩:=ap.shape;obtain⟨y2,z2,rfl⟩:=bl.shape;obtain⟨y3,z3,rfl⟩:=bm.shape;obtain⟨cj,bo,bp⟩:=cc.out f (aH hf);have ab:=Aq wr (aD #[D y1 f.row.length z1,D y2 f.ids.length z2,D y3 f.ord.length z3] 123);have ck:=Ub st.order (D o7 st.order.length c7) (D y1 f.row.length z1) f.row B (wr.alloc (aD #[D y1 f.row.length z1,D y2 f.ids.length z2,D y3 f.ord.length z3] 123)) ((IsL.keep HO.out (Ae (bh:Below B W1 wr))).keep (Ae (ab.mono (aC hB aa.size)))) (aC (aC hB aa.size) ab.size) cb.out (by omega) ((F6 ap).below ab) bp bo;have aq:=(ab.block g (aA hX)).trans hX;have ar:=(ab.block _ (aA al)).trans al;have dg:=Aa ar (j:=17) rfl;have cl:w.heap.size≠g:=by have:=(HZ.out g rfl).2;omega
   have v0:(0:Int)≤(k:Int):=by omega
   have v1:(k:Int)<(A.length:Int):=by omega
   have HJ:Hid (k+1≤A.length):=bi;have cm:Hid _:=am;have cn:Hid _:=ag;have co:Hid _:=an;have cp:Hid (((A.map (G5 st)).take k++A.drop k).set k ⟨f.row,f.ids,st.order.map (ev f.row)⟩=(A.map (G5 st)).take (k+1)++A.drop (k+1)):=by
    show _=_;rw[List.set_append_right _ _ (by grind),bG,aS,Nat.min_eq_left hk,eB,bM,bO,hf,Awv hf];simp[G5]
   obtain⟨xo,bq⟩:∃u,X[k*3+2]?=H u:=⟨_,aB (by omega)⟩;have cq:Hid _:=bq;clear hf ah bn am an ap bl bm cj bo bp bk ag bq;go_wp2_with(go_fit ck;rintro e w3 ⟨vv,rfl,bt,au⟩;obtain⟨vo,vc,cr⟩:=Ex.shape (Ex.of_own bt);subst cr;have bu:=(au.block g (aA aq)).trans aq;have y9:=(Aa bu (by simpa using cq.out));have z9:w3.frozen? ⟨g,k*3+2,N⟩=aR:=(by simp[aF,bu]));have ad:=Ac ab au;have ct:IsL Ly (FO B (D (H ⟨g,0,N⟩) A.length zc)) w3 (D vo st.order.length vc) (st.order.map (ev f.row)):=by
    refine Nf (base:=(wr.alloc (aD #[D y1 f.row.length z1,D y2 f.ids.length z2,D y3 f.ord.length z3] 123)).heap.size) (by rw[aS];exact bt) fun q hq=>⟨aC (aC hB aa.size) (aC ab.size hq),fun e=>?_⟩
    have h1:q=g:=by simpa[eQ]using e
    have:=aA aq;omega
   have cu:Keeps (FO B (D (H ⟨g,0,N⟩) A.length zc)) w3 (w3.setCell ⟨g,k*3+2,N⟩ (D vo st.order.length vc)):=(Keeps.refl _ _).set (fun h=>h.2 (by rfl)) _ _;go_roundw
   case rel=>
    refine⟨_,HJ.out,by rfl,?_,?_,?_,?_,?_⟩
    ·show Di _ _ _ _;rw[←cp.out];refine⟨_,?_,(Abg ct (All.keep (Ai ad) cm.out) co.out).keep cu⟩;have cv:(((A.map (G5 st)).take k++A.drop k).set k ⟨f.row,f.ids,st.order.map (ev f.row)⟩).length=A.length:=by simp;omega
     rw[cv];exact Az6 (Ak cn.out ad) (k*3+2) (D vo st.order.length vc)
    ·exact(bI _ _ _ _ cl).trans ((au.block _ (aA ar)).trans ar)
    ·exact((aa.trans (ad.mono (aC hB aa.size))).setCell bj _)
    ·have:=ad.size;simp[cQ];omega
    ·exact((bh.trans (ad.mono (aC hB aa.size))).setCell bj _)
   case measure=>have:=HJ.out;simp[bL];omega
  ·have cx:k=A.length:=by omega
   subst cx;have v1:¬(A.length<(A.length:Int)):=by omega
   have av:=ak.out;rw[eN,cI,cV (by simp)]at av;have cy:H wr.heap.size≠(dF zo _ zc).ownBlock:=fun e=>by have:=(HZ.out _ e.symm).2;omega
   have bv:=Aa (Ad al (aD #[Y Z 1] 3)) (j:=18) rfl;have bw:=fun cz W hb hp ht=>Ajn _ _ cz _ B W (Ajo av hb) (aC (aC hB aa.size) hb.size) hp cy ht cd.out ce.out
   have bx:Hid _:=bw;clear bw ak av;cases hd:st.down
   ·have aw:Hid (tn=1):=by show _=_;rw[←bf.out,Hh,hd];rfl
    rw[hd]at bv;clear hd;go_wp2_with(go_fit(bx.out 1 _ (Aq _ _) (Aa (Ab wr (aD #[Y Z 1] 3)) rfl) (.inl rfl));rintro e w9 ⟨rfl,A',ax,da,ay,az⟩);go_ret;refine⟨rfl,A',ax,by rw[aw.out];omega,ay,?_⟩;exact(aa.trans ((Aq wr _).mono (aC hB aa.size))).trans az
   ·have aw:Hid (tn= -1):=by show _=_;rw[←bf.out,Hh,hd];rfl
    rw[hd]at bv;clear hd;go_wp2_with(go_fit(bx.out _ (wr.alloc (aD #[Y _ _] 3)) (Aq _ _) (Aa (Ab wr _) rfl) (.inr rfl));rintro e w9 ⟨rfl,A',ax,da,ay,az⟩);go_ret;refine⟨rfl,A',ax,by rw[aw.out];omega,ay,?_⟩;exact(aa.trans ((Aq wr _).mono (aC hB aa.size))).trans az
theorem Apn {kd}{nm tb cl}{q1 q2 q3 q4 q5 q7}{dn}{nn}(e0)(op xk xn)(xs s aa:Wd)(n8)(ao)(kk cc)(x1 x2 x3)(row)(C g)(w)(he:IsE (fun k=>k<C) w e0 (aY (Af op ⟨xk,xn,xs⟩ s aa n8 (D ao kk cc))))(hC:C≤w.heap.size)(hn:Fk e0)(hr:Cq w x1 row)(ab:Hk x2)(ac:Hk x3)(ad:∀v∈row,v.s.size≤aM)(ae:row.length≤aM)(hg:w.heap[g]?=H (aD (sA kd nm tb cl q1 q2 q3 q4 q5 op xk xn xs s aa n8 (D ao kk cc) q7 dn nn) 50)):
  bB aI 138 #[aY #[x1,x2,x3],aV (H ⟨g,0,N⟩)] w fun e w'=>e=aK (dO (!Au e0 row))∧Below w.heap.size w w':=by
 obtain⟨y2,m2,z2,rfl⟩:=ab;obtain⟨y3,m3,z3,rfl⟩:=ac;obtain⟨ro,rc,af⟩:=hr.shape;subst af;obtain⟨hb,bF,-⟩:=al1 w (aD #[D ro row.length rc,D y2 m2 z2,D y3 m3 z3] 123);have bg:=(hb.block _ (aA hg)).trans hg;have HH:=Ah5 e0 op xk xn xs s aa n8 ao kk cc _ row C _ (IsE.keep (Ai hb) _ _ he) (aC hC hb.size) hn (hr.below hb) ad ae;generalize hW:w.alloc _=W1 at hb bF bg HH;have HW:Hid _:=hW;have a0:=Aa bF (j:=0) rfl;have d0:=Aa bg (j:=9) rfl;have d1:=Aa bg (j:=10) rfl;have d2:=Aa bg (j:=11) rfl;have d3:=Aa bg (j:=12) rfl;have d4:=Aa bg (j:=13) rfl;have d5:=Aa bg (j:=14) rfl;have d6:=Aa bg (j:=15) rfl;have d7:=Aa bg (j:=16) rfl;generalize Au e0 row=q at HH;generalize row.length=rn at*;clear he hr hg hW bF bg;cases q
 all_goals
  go_enter Tryz.func138,Tryz.ntmps138;go_upto_region 1 with fail;rw[HW.out];go_wp2_with(go_fit HH;rintro e w1 ⟨rfl,ag⟩);go_ret;exact⟨rfl,Ac hb ag⟩
def Gp {α:Type}(K:Elem α)(F:Nat→Prop)(w:bD):List α→List (List aX)→Prop
 |[],[]=>True
 |x::A,c::CS=>K.R F w x c∧Gp K F w A CS
 |_,_=>False
theorem Aww {α}{K}{F}{w}:∀{A:List α}{cs:List aX},All K F w A cs→∃CS,CS.flatten=cs∧Gp K F w A CS
 |[],cs,h=>⟨[],by have:cs=[]:=h;grind,trivial⟩
 |x::A,cs,h=>by
  obtain⟨c,rest,rfl,h1,h2⟩:=h;obtain⟨CS,rfl,h3⟩:=Aww h2;exact⟨c::CS,rfl,h1,h3⟩
theorem Awx {α}{K}{F}{w}:∀{A:List α}{CS:List (List aX)},Gp K F w A CS→All K F w A CS.flatten
 |[],[],_=>rfl
 |_::_,c::_,h=>⟨c,_,rfl,h.1,Awx h.2⟩
theorem Gp.length {α}{K}{F}{w}:∀{A:List α}{CS:List (List aX)},Gp K F w A CS→CS.length=A.length
 |[],[],_=>rfl
 |_::_,_::_,h=>congrArg (·+1) (Gp.length h.2)
theorem Gp.get {α}{K}{F}{w}:∀{A:List α}{CS:List (List aX)}{i:Nat}{c:List aX},Gp K F w A CS→CS[i]?=H c→∃x,A[i]?=H x∧K.R F w x c
 |[],[],_,_,_,hc=>by grind
 |x::_,_::_,0,_,h,hc=>⟨x,rfl,by rw[←cD hc];exact h.1⟩
 |_::_,_::_,i+1,_,h,hc=>by
  obtain⟨y,h1,h2⟩:=Gp.get h.2 (by simpa using hc);grind
theorem Gp.filter {α}{K}{F}{w}(q)(p):∀{A:List α}{CS:List (List aX)}(i:Nat),Gp K F w A CS→(∀(j:Nat) (x:α),A[j]?=H x→p (i+j)= !q x)→Gp K F w (A.filter q) (Bw p i CS)
 |[],[],_,_,_=>trivial
 |x::A,c::CS,i,h,hp=>by
  have h0:=hp 0 x rfl;rw[bC]at h0;have ih:=Gp.filter q p (i+1) h.2 fun j y hy=>by have:=hp (j+1) y (by grind);grind
  rw[Bw];cases hq:q x with
  |true=>
   rw[hq]at h0;rw[h0,dZ hq];exact⟨h.1,ih⟩
  |false=>
   grind
theorem Di.base {B B'}{z}{A}{w}(h:Di B z A w)(hB:B'≤B):Di B' z A w:=by
 obtain⟨cs,h1,h2⟩:=h;exact⟨cs,Nk h1 hB,h2.mono fun k _ hk=>⟨aC hB hk.1,hk.2⟩⟩
theorem Di.isL {B}{z}{A}{w}(h:Di B z A w):IsL Qk (fun k=>k<w.heap.size) w z A:=by
 obtain⟨cs,h1,h2⟩:=h;exact⟨cs,(Bq.of_own h1 fun _ h=>h).mono fun k hk _=>hk,h2.mono fun k hk _=>hk⟩
theorem Di.below {B}{z}{A}{w w'}(h:Di B z A w)(hb:Below w.heap.size w w'):Di B z A w':=by
 obtain⟨cs,h1,h2⟩:=h;exact⟨cs,Ak h1 hb,h2.keep (Ai hb)⟩
theorem J8 {B}{z}{A}{w}(h:Dm B z A w):IsL C8 (fun k=>k<w.heap.size) w z A:=by
 obtain⟨cs,h1,h2⟩:=h;exact⟨cs,(Bq.of_own h1 fun _ h=>h).mono fun k hk _=>hk,h2.mono fun k hk _=>hk⟩
theorem Awy (w:bD){B}(hB:B≤w.heap.size):Di B (D (H ⟨w.heap.size,0,N⟩) 1 1) [⟨[],[],[]⟩] (w.alloc (aD #[D N 0 0,D N 0 0,D N 0 0] 123)):=
 ⟨[D N 0 0,D N 0 0,D N 0 0],Jm (X:=[D N 0 0,D N 0 0,D N 0 0]) hB (Ab _ _) (by simp) (by decide) rfl rfl,⟨_,[],rfl,⟨_,_,_,rfl,IsL.nil _ _ _,IsL.nil _ _ _,IsL.nil _ _ _⟩,rfl⟩⟩
def wid (ts:List TabD):Nat:=(ts.map fun t=>t.cols.length).sum
theorem Aic {A}:∀(ts:List TabD) (a:Nat) (l:List Fnd) (t:TabD),Cj A a l (ts++[t])=Gw (Cj A a l ts) (A t (a+wid ts))
 |[],a,l,t=>by rfl
 |s::ts,a,l,t=>by
  rw[List.cons_append,Cj,Cj,Aic ts];simp only[wid,bQ,dU,Nat.add_assoc]
theorem Az7 (ts)(t):wid (ts++[t])=wid ts+t.cols.length:=by simp[wid]
theorem Am0 {c}:∀(ts:List TabD),(∀t∈ts,t.cols.length≤c)→wid ts≤c*ts.length
 |[],_=>by simp[wid]
 |t::ts,h=>by
  have h1:=Am0 ts fun t ht=>h t (bN _ ht)
  have h2:=h t bJ;simp only[wid,bQ,dU,bH]at h1⊢;grind
theorem Wk {A}:∀(ts:List TabD) (a m:Nat) (l:List Fnd),(∀t∈ts,∀a,(A t a).length≤30∧∀r∈A t a,r.length=t.cols.length)→(∀f∈l,f.row.length=a∧f.ids.length≤m)→(Cj A a l ts).length≤l.length*30^ts.length∧∀f∈Cj A a l ts,f.row.length=a+wid ts∧f.ids.length≤m+ts.length
 |[],a,m,l,_,hl=>⟨by simp[Cj],fun f hf=>by have:=hl f hf;assumption⟩
 |t::ts,a,m,l,hA,hl=>by
  obtain⟨h1,h2⟩:=hA t bJ a;obtain⟨i1,i2⟩:=Wk ts (a+t.cols.length) (m+1) (Gw l (A t a)) (fun t ht=>hA t (bN _ ht)) (fun f hf=>by
   obtain⟨g,hg,r,hr,rfl⟩:=A5l.1 hf;have:=hl g hg;have:=h2 r hr;simp only[Ei,aL,bG];omega)
  refine⟨?_,fun f hf=>?_⟩
  ·have h3:=J7 (fun f=>(A t a).map (Ei f)) 30 l (fun f _=>by grind);rw[Cj,bH,Nat.pow_succ];refine aC i1 ?_;have h4:(Gw l (A t a)).length≤l.length*30:=by unfold Gw;omega
   refine aC (Nat.mul_le_mul_right _ h4) (Nat.le_of_eq ?_);grind
  ·obtain⟨h5,h6⟩:=i2 f hf;simp only[wid,bQ,dU,bH]at h5⊢;omega
theorem Zc {A}{P:V→Prop}:∀(ts:List TabD) (a:Nat) (l:List Fnd),(∀t∈ts,∀a,∀r∈A t a,∀v∈r,P v)→(∀f∈l,∀v∈f.row,P v)→∀f∈Cj A a l ts,∀v∈f.row,P v
 |[],_,_,_,hl,f,hf=>hl f hf
 |t::ts,a,l,hA,hl,f,hf=>Zc ts _ _ (fun t ht=>hA t (bN _ ht)) (fun g hg v hv=>by
   obtain⟨g,aa,r,hr,rfl⟩:=A5l.1 hg;rcases dJ.1 hv with h|h
   ·exact hl g aa v h
   ·exact hA t bJ a r hr v h) f hf
theorem Ajp {Eg}{n}{d}{T}{a}{to' io po}{tc ic pc}{w}(he:EngC Eg w n d.c T a (D to' d.c.tables.length tc) (D io d.c.indexes.length ic) (D po T.length pc))(ok:DbOk d)(ah:Has d (flat T))(co:K9 d.c)(st)(cs)(hR:Ie.R (fun k=>k<w.heap.size) w st cs)(ts)(bl:ts.length=st.frm.length)(aw:∀(k:Nat) (nm:Wd) (t:TabD),st.frm[k]?=H nm→ts[k]?=H t→Bv d.c.tables nm=H t)(h2:ts.length≤2)(cp:Fk st.wher)(cq:Df st.wher)(cr:geB 40 st.wher=aZ→Mv 40 st.wher):
  bB aI 67 #[aV (H ⟨n,0,N⟩),aY cs.toArray] w fun e w'=>∃zv A,e=aK zv∧Di w.heap.size zv A w'∧A.Perm ((Cj (Hd d) 0 [⟨[],[],[]⟩] ts).filter fun f=>Au st.wher f.row)∧Below w.heap.size w w':=by
 obtain⟨o1,c1,o2,c2,o3,c3,o4,c4,o5,c5,op,xk,xn,xs,s,ad,n8,o6,k6,c6,o7,c7,rfl,i1,i2,i3,i4,i5,i6,i7⟩:=Bb hR;have ab:∀t∈ts,t∈d.c.tables:=fun t ht=>by
  obtain⟨k,hk,rfl⟩:=aW ht;exact(Ee (aw k _ _ (aB (show k<st.frm.length by omega)) (aB hk))).1
 obtain⟨_,bm,ax⟩:=Ed ok.cat;have hT:T.length≤450:=aC (Jb he.good) (Lv ok he.good ah);have hA:∀t∈ts,∀a,(Ow d T st.wher t a).length≤30∧∀r∈Ow d T st.wher t a,r.length=t.cols.length∧∀v∈r,good v=aZ:=fun t ht a=>by
  obtain⟨q1,q2,_⟩:=Mx ok he.good ah (ab t ht) (a:Int) st.wher;exact⟨aC (Arb q1 q2) (ok.len t (ab t ht)),fun r hr=>B7 (ok.fit t (ab t ht) r (q2 r hr))⟩
 have HA:Hid _:=hA;have bn:Hid (∀k,(Cj (Ow d T st.wher) 0 [⟨[],[],[]⟩] (ts.take k)).length≤900∧(k<ts.length→(Cj (Ow d T st.wher) 0 [⟨[],[],[]⟩] (ts.take k)).length≤30)∧wid (ts.take k)≤8∧∀f∈Cj (Ow d T st.wher) 0 [⟨[],[],[]⟩] (ts.take k),f.row.length≤8∧f.ids.length≤2∧∀v∈f.row,good v=aZ):=fun k=>by
  have am:∀t∈ts.take k,t∈ts:=fun t h=>List.mem_of_mem_take h
  obtain⟨j1,j2⟩:=Wk (A:=Ow d T st.wher) (ts.take k) 0 0 [⟨[],[],[]⟩] (fun t h a=>⟨(hA t (am t h) a).1,fun r hr=>((hA t (am t h) a).2 r hr).1⟩) (fun f hf=>by rw[cB]at hf;rw[hf];exact⟨rfl,aG _⟩);have j3:=Am0 (c:=4) (ts.take k) fun t h=>(ax t (ab t (am t h))).2.2
  have j4:(ts.take k).length≤2:=aC (by simp;omega) h2;have j5:=Zc (A:=Ow d T st.wher) (P:=fun v=>good v=aZ) (ts.take k) 0 [⟨[],[],[]⟩] (fun t h a r hr=>((hA t (am t h) a).2 r hr).2) (fun f hf v hv=>by rw[cB]at hf;rw[hf]at hv;cases hv);rw[List.length_singleton,Nat.one_mul]at j1;refine⟨aC j1 (eD (by decide) j4),fun hk=>aC j1 (aC (eD (by decide) (show _≤1 by rw[bG];omega)) (by decide)),by omega,fun f hf=>?_⟩;have:=j2 f hf;exact⟨by omega,by omega,j5 f hf⟩
 obtain⟨ae,bS,-⟩:=al1 w (aD (sA st.kind st.name st.table st.col (D o1 st.cols.length c1) (D o2 st.rows.length c2) (D o3 st.sets.length c3) (D o4 st.frm.length c4) (D o5 st.out.length c5) op xk xn xs s ad n8 (D o6 k6 c6) (D o7 st.order.length c7) st.down st.n) 50);have ay:=he.below ae;have ct:Hid _:=i4;have bo:Hid _:=i6;have cu:Hid _:=aw;have cv:Hid _:=ab;have cy:Hid _:=ok;have cz:Hid _:=ah;have da:Hid _:=ax;have bp:Hid _:=bm;have bq:Hid _:=bl;have ea:st.frm.length≤2:=by omega
 have db:Hid _:=Apl ok he.good ah st.wher ts ab;generalize hW:w.alloc (aD (sA st.kind st.name st.table st.col (D o1 st.cols.length c1) (D o2 st.rows.length c2) (D o3 st.sets.length c3) (D o4 st.frm.length c4) (D o5 st.out.length c5) op xk xn xs s ad n8 (D o6 k6 c6) (D o7 st.order.length c7) st.down st.n) 50)=W1 at ae bS ay;have HW:Hid _:=hW;have dc:=Awy W1 (aG _);have bt:=Aq W1 (aD #[D N 0 0,D N 0 0,D N 0 0] 123);have a7:=Aa ((bt.block _ (aA bS)).trans bS) (j:=7) rfl;have eb:w.heap.size<W1.heap.size:=aA bS;clear hW hR i1 i2 i3 i4 i5 i6 i7 aw ab ok ah ax bm hA bl h2;go_enter Tryz.func67,Tryz.ntmps67;go_upto_region 1 with fail;rw[HW.out];go_wp2_with fail
 go_loopw[5,6,15] (fun zv av i wr=>∃k:Nat,k≤st.frm.length∧i=Y Z k∧av=Y Z (wid (ts.take k):Nat)∧Hid (Di W1.heap.size zv (Cj (Ow d T st.wher) 0 [⟨[],[],[]⟩] (ts.take k)) wr)∧Below W1.heap.size W1 wr) (fun _ _ i _=>st.frm.length-(bL i).toNat)
 case atStart=>exact⟨0,aP _,rfl,rfl,dc,bt⟩
 case round=>
  obtain⟨k,hk,rfl,rfl,az,ai⟩:=hrel;have an:Below w.heap.size w wr:=Ac ae ai
  by_cases bu:k<st.frm.length
  ·have bv:k<ts.length:=by have:=bq.out;omega
   obtain⟨nm,ba⟩:∃x,st.frm[k]?=H x:=⟨_,aB bu⟩;obtain⟨t,aj⟩:∃x,ts[k]?=H x:=⟨_,aB bv⟩;have bw:=aH aj;have ab:=cv.out t bw;obtain⟨bx,ec,ed⟩:=da.out t ab;obtain⟨b,ee,dd,de,_,hb,bz,ca⟩:=At (IsL.keep ct.out (Ae an)) ba;cases de;have df:dd=[U nm]:=bz;subst df;have d0:=by have:=ca 0 _ rfl;simpa[Nz]using this
   have dg:=Nq (ay.below ai) (cu.out k nm t ba aj);obtain⟨_,s2,s3,s4⟩:=bn.out k;have s5:=s2 bv;have ap:Hid _:=HA.out t bw (wid (ts.take k));have bb:Hid (Cj (Ow d T st.wher) 0 [⟨[],[],[]⟩] (ts.take (k+1))=Gw (Cj (Ow d T st.wher) 0 [⟨[],[],[]⟩] (ts.take k)) (Hc t.cols.length T t.name (Ds d.c t ((wid (ts.take k):Nat):Int) st.wher))):=by
    show _=_;rw[bM,aj,cM,Aic,cO];rfl
   have dh:Hid (wid (ts.take (k+1))=wid (ts.take k)+t.cols.length):=by
    show _=_;rw[bM,aj,cM,Az7]
   have cb:Hid _:=s4;have v0:(0:Int)≤k:=by omega
   have v1:k<(st.frm.length:Int):=by omega
   have HJ:Hid (k+1≤st.frm.length):=bu;unfold Ow at ap;generalize Cj _ 0 _ _=J at az bb cb s5;generalize di:wid _=a0 at*;clear ba aj ca bz s2 s4 di;go_upto_region 7 with(go_fit dg;rintro e w2 ⟨ao,cc,rfl,cd,dj⟩);obtain⟨bc,bT,-⟩:=al1 w2 (aD #[U t.name,D ao t.cols.length cc] 82);have bd:=Ac dj bc;have af:=Ac ai bd;have aa:=(af.block _ (aA bS)).trans bS;have ac:=ay.below af;have be:=(cd.mono fun k hk _=>hk).keep (Ai bc);have bf:=IsE.mono (F':=fun k=>k<(w2.alloc (aD #[U t.name,D ao t.cols.length cc] 82)).heap.size) (fun k hk _=>hk) _ _ (IsE.keep (Ae (Ac ae af)) _ _ bo.out);have bg:=Di.below az.out bd;generalize w2.alloc _=W3 at bc bd af bT aa ac be bf bg⊢;generalize w2.heap.size=gT at bT⊢;have ce:=be.mono fun k hk _=>hk
   have ak:=fun W h=>Aew d.c t a0 op xk xn xs s ad n8 o6 k6 c6 _ to' _ tc io _ ic ao cc _ W (IsE.keep (Ae h) _ _ bf) h.size cq cr (aC bx (by simp)) ⟨_,_,rfl,(ac.tabs.mono fun k hk _=>hk).keep (Ae h),(ac.idxs.mono fun k hk _=>hk).keep (Ae h)⟩ co (ce.keep (Ae h)) (fun x hx=>aC (bp.out x hx) (by simp))
   have ag:=fun W h=>Amx t (Ds d.c t a0 st.wher) T _ ao cc W ⟨_,rfl,(ac.below h).pages.pages⟩ he.good (by omega) (aC (Abe bp.out) (by simp)) (aC bx (by simp)) (Qc cy.out cz.out)
   generalize Hc _ T _ _=RW at ag bb ap;generalize Ds d.c t _ _=cw at ak ag;obtain⟨cx,ef,eg⟩:=cw;unfold J1 at ak ag;simp only at ak ag;have cf:=fun W rv h hr=>Azy J RW u5 rv W (Di.isL (bg.below h)) hr (by omega) (by have:=ap.out.1;omega) (fun f hf=>by have:=cb.out f hf;omega) (fun r hr=>by have:=(ap.out.2 r hr).1;omega)
   have KS:Hid _:=fun W (h:Below _ W3 W)=>(show(W.cell? _=H (D po _ pc)∧W.cell? _=H (D to' _ tc)∧W.cell? _=H (D io _ ic)∧W.cell? _=H (U _)∧W.cell? _=H (D ao _ cc))∧(W.cell? _=H (Y _ op)∧W.cell? _=H (Y _ xk)∧W.cell? _=H (Y _ xn)∧W.cell? _=H (U xs)∧W.cell? _=H (U s)∧W.cell? _=H (U ad)∧W.cell? _=H (Y _ n8)∧W.cell? _=H (D o6 k6 c6))from⟨⟨Aa (ac.below h).blk (j:=2) rfl,Aa (ac.below h).blk (j:=0) rfl,Aa (ac.below h).blk (j:=1) rfl,Aa ((h.block _ (aA bT)).trans bT) (j:=0) rfl,Aa ((h.block _ (aA bT)).trans bT) (j:=1) rfl⟩,⟨Aa ((h.block _ (aA aa)).trans aa) (j:=9) rfl,Aa ((h.block _ (aA aa)).trans aa) (j:=10) rfl,Aa ((h.block _ (aA aa)).trans aa) (j:=11) rfl,Aa ((h.block _ (aA aa)).trans aa) (j:=12) rfl,Aa ((h.block _ (aA aa)).trans aa) (j:=13) rfl,Aa ((h.block _ (aA aa)).trans aa) (j:=14) rfl,Aa ((h.block _ (aA aa)).trans aa) (j:=15) rfl,Aa ((h.block _ (aA aa)).trans aa) (j:=16) rfl⟩⟩)
   have s0:=KS.out _ (aE _ _).drew;have cg:=Di.isL bg;obtain⟨zo,zc,hz⟩:=cg.shape;subst hz;clear cg bf be ce cd
   go_region_held3(fun W=>(W.cell? ⟨n,2,N⟩=H (D po T.length pc)∧W.cell? ⟨n,0,N⟩=H (D to' d.c.tables.length tc)∧W.cell? ⟨n,1,N⟩=H (D io d.c.indexes.length ic)∧W.cell? ⟨gT,0,N⟩=H (U t.name)∧W.cell? ⟨gT,1,N⟩=H (D ao t.cols.length cc))∧(W.cell? ⟨w.heap.size,9,N⟩=H (Y Z op)∧W.cell? ⟨w.heap.size,10,N⟩=H (Y Z xk)∧W.cell? ⟨w.heap.size,11,N⟩=H (Y Z xn)∧W.cell? ⟨w.heap.size,12,N⟩=H (U xs)∧W.cell? ⟨w.heap.size,13,N⟩=H (U s)∧W.cell? ⟨w.heap.size,14,N⟩=H (U ad)∧W.cell? ⟨w.heap.size,15,N⟩=H (Y Z n8)∧W.cell? ⟨w.heap.size,16,N⟩=H (D o6 k6 c6))) (with_reducible omega)
    (first
     |(go_fit(ak _ (aE _ _).drew);rintro e w7 ⟨rfl,dk⟩;have bh:=Ac (aE _ _).drew dk;have s1:=KS.out w7 bh)
     |(go_fit(ag _ bh);rintro e w8 ⟨eh,rfl,dl,dm⟩;have aq:=Ac bh dm;have s7:=KS.out w8 aq;have dn:=J8 dl)
     |(go_fit(cf _ _ aq dn);rintro e w9 ⟨ei,rfl,dp,dq⟩;have ch:=Ac aq dq;have s8:=KS.out w9 ch))
   have ej:=dp.base (B':=W1.heap.size) (aC af.size aq.size);clear KS s0 s1 s7 ak ag cf;go_wp2_with fail;go_roundw
   case rel=>exact⟨_,HJ.out,by rfl,by rw[dh.out];rfl,by show Di _ _ _ _;rw[bb.out];omega,Ac af ch⟩
   case measure=>have:=HJ.out;simp[bL];omega
  ·have ds:k=st.frm.length:=by omega
   subst ds;have v1:¬(st.frm.length<(st.frm.length:Int)):=by omega
   have bi:=az.out;have cj:=bn.out st.frm.length;rw[←bq.out,bV]at bi cj;obtain⟨h9,_,_,ck⟩:=cj;have bj:=db.out;generalize Cj _ 0 _ ts=J at bi h9 ck bj;obtain⟨ek,ar,cl⟩:=bi;obtain⟨CS,rfl,al⟩:=Aww cl;have bk:=ar.lt;have cm:=(ai.block _ (aA bS)).trans bS;have HD:=Ai9 CS u5 (aV (H ⟨w.heap.size,0,N⟩)) (fun i=>match J[i]? with|some f=>!Au st.wher f.row|none=>aR) W1.heap.size wr (by rw[al.length];exact ar) (by
    intro c hc;obtain⟨i,hi,rfl⟩:=aW hc;obtain⟨x,_,⟨q1,q2,q3,hq,h1,h2,h3⟩⟩:=al.get (aB hi);obtain⟨e1,f1,rfl⟩:=h1.shape;obtain⟨e2,f2,rfl⟩:=h2.shape;obtain⟨e3,f3,rfl⟩:=h3.shape;exact⟨_,_,_,_,_,_,_,_,_,hq⟩) ai.size (by
    intro i c W hi au;obtain⟨x,hx,⟨q1,q2,q3,rfl,h1,h2,h3⟩⟩:=al.get hi;obtain⟨e2,f2,rfl⟩:=h2.shape;obtain⟨e3,f3,rfl⟩:=h3.shape;have dt:=Pk (F:=FO W1.heap.size u5) au fun k hk=>hk.2
    have du:=Pk (F:=fun k=>k<w.heap.size) au fun k hk e=>by have:=(bk k e.symm).1;omega
    have hg:=ck x (aH hx);have:=Apn st.wher op xk xn xs s ad n8 o6 k6 c6 q1 (D e2 x.ids.length f2) (D e3 x.ord.length f3) x.row w.heap.size w.heap.size W (IsE.keep du _ _ (IsE.keep (Ae an) _ _ bo.out)) (aC an.size au.size) cp (F6 (h1.keep dt)) ⟨_,_,_,rfl⟩ ⟨_,_,_,rfl⟩ (fun v hv=>Iy (hg.2.2 v hv)) (aC hg.1 (by decide)) ((au.block _ (aA cm) (fun e=>by have:=(bk _ e.symm).1;omega)).trans cm);rw[hx];exact this)
   obtain⟨zo,zc,hz⟩:=Ex.shape (Ex.of_own ar);have dv:Hid _:=al;have dw:Hid _:=bj;subst hz;clear cl ar al bk bj;go_wp2_with(go_fit HD;rintro e w9 ⟨dx,rfl,cn,el,dy,dz⟩);go_ret;have g1:=Gp.filter (fun f=>Au st.wher f.row) (fun i=>match J[i]? with|some f=>!Au st.wher f.row|none=>aR) 0 dv.out (fun j x hx=>by simp_all);rw[g1.length]at cn;exact⟨_,_,rfl,Di.base ⟨_,cn,(All.keep (Pk dy fun k hk=>hk.2) (Awx g1)).mono (F':=FO _ dx) (fun k _ hk=>⟨hk.1,by grind⟩)⟩ ae.size,dw.out,an.trans (dz.mono ae.size)⟩
theorem EngC.store {E}{w}{n}{c}{T T'}{a}{tv iv pv sv}(h:EngC E w n c T a tv iv pv)(hE:Br E w)(hn:n∈E)(hp:Ba w sv T')(hg:As T')(hk:Keyed (flat T')):EngC E (w.setCell ⟨n,2,N⟩ sv) n c T' a tv iv sv:=by
 have aa:Keeps (fun k=>k∉E) w (w.setCell ⟨n,2,N⟩ sv):=(Keeps.refl _ _).set (fun h=>h hn) _ _;refine⟨?_,h.tabs.keep aa,h.idxs.keep aa,(Awf hE hp hg hk).keep aa,hg⟩;have:=Dj h.blk 2 sv;grind
theorem Zd {W:bD}{n g}{a b c d e f}{t1 t2}(h1:W.heap[n]?=H (aD #[a,b,c,d] t1))(h2:W.heap[g]?=H (aD #[e,f] t2))(hn:n≠g)(x):
  (W.setCell ⟨n,2,N⟩ x).cell? ⟨n,0,N⟩=H a∧(W.setCell ⟨n,2,N⟩ x).cell? ⟨n,1,N⟩=H b∧(W.setCell ⟨n,2,N⟩ x).cell? ⟨g,0,N⟩=H e∧(W.setCell ⟨n,2,N⟩ x).cell? ⟨g,1,N⟩=H f:=by
 have h3:=by have:=Dj h1 2 x;simpa using this
 have h4:(W.setCell ⟨n,2,N⟩ x).heap[g]?=H _:=(bI _ _ _ _ (fun e=>hn e.symm)).trans h2;exact⟨Aa h3 rfl,Aa h3 rfl,Aa h4 rfl,Aa h4 rfl⟩
theorem Acl {E}{n}{c}{T}{a}{to' io po}{tc ic pc}{w}(hE:Br E w)(hn:n∈E)(he:EngC E w n c T a (D to' c.tables.length tc) (D io c.indexes.length ic) (D po T.length pc))(an:Dv c=aZ)(t)(so)(sc)(hl:IsL Cp (fun k=>k∉E) w (D so t.cols.length sc) t.cols)(rows)(rv)(hr:IsL C8 (fun k=>k∉E) w rv rows)(ap:∀r∈rows,r.length=t.cols.length∧∀v∈r,good v=aZ)(cc:0<t.cols.length)(cd:t.cols.length≤4)(bc:t.name.size≤8)(hT:T.length≤100000)(bd:Keyed (flat T)):
  bB aI 61 #[aV (H ⟨n,0,N⟩),aY #[U t.name,D so t.cols.length sc],rv] w fun e w'=>e=aK (dK #[])∧∃be bf T',EngC E w' n c T' a (D to' c.tables.length tc) (D io c.indexes.length ic) (D be T'.length bf)∧flat T'=G1 (flat T) c.indexes t rows∧T'.length≤T.length∧But n w w':=by
 obtain⟨aq,ar,_⟩:=Ed an;obtain⟨ro,rc,rfl⟩:=hr.shape;have bg:=(D5 hr).2;unfold aM at bg;obtain⟨ab,bT,-⟩:=al1 w (aD #[U t.name,D so t.cols.length sc] 82);have au:=he.below ab;have ag:=hE.below ab;have ah:=hl.keep (Ai ab);have ai:=hr.keep (Ai ab);have av:n≠w.heap.size:=dE he.lt;generalize hW:w.alloc (aD #[U t.name,D so t.cols.length sc] 82)=W1 at ab bT au ag ah ai;have HW:Hid _:=hW;have bh:Hid _:=ap;have bi:Hid _:=ar;have bj:Hid _:=aq;have bk:Hid _:=ag;have bl:Hid _:=ah;have bm:Hid _:=ai;clear hW ap ar aq ag ah ai hl hr hE;go_enter Tryz.func61,Tryz.ntmps61;go_upto_region 1 with fail;rw[HW.out];go_wp2
 go_loopw[10] (fun i wr=>∃(k:Nat) (aj:Option Addr) (ak:Nat) (T2:List Pg),k≤rows.length∧i=Y Z k∧EngC E wr n c T2 a (D to' c.tables.length tc) (D io c.indexes.length ic) (D aj T2.length ak)∧Hid (flat T2=G1 (flat T) c.indexes t (rows.take k)∧T2.length≤T.length∧Keyed (flat T2))∧But n W1 wr) (fun i _=>rows.length-(bL i).toNat)
 case atStart=>exact⟨0,po,pc,T,aP _,rfl,au,id ⟨rfl,aG _,bd⟩,But.refl _ _⟩
 case round=>
  obtain⟨k,aj,ak,T2,hk,rfl,aa,HF,ac⟩:=hrel
  by_cases bn:k<rows.length
  ·skip
   obtain⟨r,hx⟩:∃r,rows[k]?=H r:=⟨_,aB bn⟩;obtain⟨b,bo,ce,bp,_,cf,⟨yv,rfl,al⟩,aw⟩:=At (IsL.keep bm.out (Jr ac hn)) hx;cases bp;obtain⟨yo,yc,rfl⟩:=al.shape;have bq:=F6 al;have d0:wr.cell? ⟨b,bo+k,N⟩=H (D yo r.length yc):=by have:=aw 0 _ rfl;simpa[C8]using this
   obtain⟨ax,ay⟩:=bh.out r (aH hx);have az:=fun v hv=>Iy (ay v hv)
   have bt:=IsL.keep bl.out (Jr ac hn);have ad:=(ac.block _ (aA bT) (fun e=>av e.symm)).trans bT;have bu:=Br.put bk.out ac hn aa an;have v0:(0:Int)≤k:=by omega
   have v1:k<(rows.length:Int):=by omega
   have q2:=Aa aa.blk (j:=2) rfl;have bv:Hid (G1 _ _ t _=Kh (G1 (flat T) c.indexes t _) _ t r):=Ape hx;have HD:=fun W h=>Apd _ t r T2 _ (D to' c.tables.length tc) _ _ _ _ W ⟨_,rfl,aa.pages.pages.below h⟩ aa.good (by have:=HF.out.2.1;omega) (Ca _ _ _) ((aa.below h).idxs.mono (fun k hk _=>hk)) ((bt.keep (Ai h)).mono (fun k hk _=>hk)) (aG _) (bq.below h) ax (by omega) (by omega) az (fun x hx=>aC (bi.out x hx) (by simp)) (aC bc (by simp)) (by have:=bj.out;omega)
   have KS:Hid _:=fun W (h:Below _ wr W)=>aN (show W.cell? _=H (D to' _ tc)from Aa (aa.below h).blk (j:=0) rfl) (aN (show W.cell? _=H (D io _ ic)from Aa (aa.below h).blk (j:=1) rfl) (aN (show W.cell? _=H (U _)from Aa ((h.block _ (aA ad)).trans ad) (j:=0) rfl) (show W.cell? _=H (D so _ sc)from Aa ((h.block _ (aA ad)).trans ad) (j:=1) rfl)))
   have KT:Hid _:=fun W (h:Below _ wr W) x=>Zd (aa.below h).blk ((h.block _ (aA ad)).trans ad) av x
   clear hx aw al ay az ax;go_wp2_with fail;refine cP (S:=(fun W=>W.cell? ⟨n,0,N⟩=H (D to' c.tables.length tc)∧W.cell? ⟨n,1,N⟩=H (D io c.indexes.length ic)∧W.cell? ⟨w.heap.size,0,N⟩=H (U t.name)∧W.cell? ⟨w.heap.size,1,N⟩=H (D so t.cols.length sc))) (by rfl) ?_ (fun hHeld=>?_)
   ·exact KS.out _ (aE _ _).drew
   refine tk 0 ?_;refine tk 1 ?_;refine tk 2 ?_;refine tk 3 ?_;refine tk 5 ?_;refine tk 6 ?_;refine tk 7 ?_;refine tk 8 ?_;refine tk 9 ?_;refine tk 10 ?_;refine Bi 4 (fun K hK=>?_);go_simp;go_wp2_with fail;refine hK.out _ _ ?_ (fun hHeld=>?_)
   ·omega
   clear hK K;refine Bi 11 (fun K hK=>?_);go_simp
   (go_fit(HD _ (aE _ _).drew);rintro e w4 ⟨cg,T4,rfl,af,bw,ba,bx,bz⟩;obtain⟨ch,rfl,af⟩:=af;obtain⟨ca,c4,rfl⟩:=Ct af;have ae:=Ac (aE _ _).drew bz;have am:=aa.below ae;have q4:=Aa am.blk (j:=2) rfl;have z4:w4.frozen? ⟨n,2,N⟩=aR:=(by simp only[aF,am.blk];rfl))
   go_wp2_with fail;refine hK.out _ _ ?_ (fun hHeld=>?_)
   ·exact KS.out _ ae
   clear hK K;refine tk 12 ?_;refine tk 13 ?_;refine Bi 14 (fun K hK=>?_);go_simp;go_wp2_with fail;refine hK.out _ _ ?_ (fun hHeld=>?_)
   ·exact KT.out _ ae _
   clear hK K;refine cU (by kernel_rfl) ?_ _;go_wp2_with fail;have bb:Keyed (flat T4):=by rw[ba];exact As3 HF.out.2.2
   go_roundw
   case rel=>exact⟨k+1,ca,c4,T4,by omega,by rfl,am.store (bu.below ae) hn af bw bb,id ⟨by rw[ba,HF.out.1,bv.out],aC bx HF.out.2.1,bb⟩,ac.trans ((But.of_below ae).set _ _)⟩
   case measure=>simp[bL];omega
  ·have cb:k=rows.length:=by omega
   subst cb;have v1:¬(rows.length<(rows.length:Int)):=by omega
   have h1:=HF.out.1;rw[bV]at h1;go_wp2
   go_end0
   exact⟨rfl,aj,ak,T2,aa,h1,HF.out.2.1,(But.of_below ab).trans ac⟩
theorem Awz (t:TabD)(r:List V)(sv rv:aX)(C:Nat)(w:bD)(hl:IsL Cp (fun k=>k<C) w sv t.cols)(hr:Cq w rv r)(al:r.length=t.cols.length):
  bB aI 201 #[aY #[U t.name,sv],rv] w fun e w'=>e=aK (dO (Rf t r))∧Below w.heap.size w w':=by
 obtain⟨so,sc,rfl⟩:=hl.shape;obtain⟨av,aw,am⟩:=hr.shape;subst am;have E:Hid (Rf t r=B6 (Re t r) 0 t.cols.length):=rfl;generalize Rf t r=q at E;have an:=(D5 hl).2;obtain⟨aa,bT,-⟩:=al1 w (aD #[U t.name,D so t.cols.length sc] 82);generalize hW:w.alloc (aD #[U t.name,D so t.cols.length sc] 82)=W1 at aa bT;have HW:Hid _:=hW;clear hW;have c1:=Aa bT (j:=1) rfl;have ah:Hid _:=al;have HL:Hid (∀(k:Nat) (c:ColD),t.cols[k]?=H c→∃b ab,so=H ⟨b,ab,N⟩∧b<w.heap.size∧w.cell? ⟨b,ab+k*3,N⟩=H (U c.name)∧w.cell? ⟨b,ab+k*3+1,N⟩=H (Y Z c.ty)∧w.cell? ⟨b,ab+k*3+2,N⟩=H (dO c.must)):=fun k c hc=>by
  obtain⟨b,ab,cs,ai,ax,ac,ap,aj⟩:=At hl hc;obtain rfl:=ap;exact⟨b,ab,ai,ac,aj 0 _ rfl,aj 1 _ rfl,aj 2 _ rfl⟩
 clear hl al;generalize hn:t.cols.length=n at*;have aq:Hid _:=hn;clear hn;unfold aM at an;go_enter Tryz.func201,Tryz.ntmps201;go_upto_region 1 with fail;rw[HW.out];go_wp2
 go_loopw[10] (fun i wr=>∃k:Nat,k≤n∧i=Y Z k∧Hid (∀j,j<k→Re t r j=aR)∧Below W1.heap.size W1 wr) (fun i _=>n-(bL i).toNat)
 case atStart=>exact⟨0,aP _,rfl,id (fun j h=>absurd h (Nat.not_lt_zero _)),aE _ _⟩
 case round=>
  obtain⟨k,hk,rfl,HJ,ae⟩:=hrel
  by_cases af:k<n
  ·obtain⟨c,hc⟩:∃c,t.cols[k]?=H c:=⟨_,aB (by rw[aq.out];exact af)⟩;obtain⟨v,hv⟩:∃v,r[k]?=H v:=⟨_,aB (by rw[ah.out];exact af)⟩;obtain⟨b,ab,ai,ac,g0,g1,g2⟩:=HL.out k c hc;cases ai;rcases hr with⟨_,h0⟩|⟨rb,ro,rcap,hrv,hrb,hR⟩
   ·rw[h0]at hv;simp at hv
   cases hrv;have ad:=aa.trans (ae.mono aa.size);have EI:Hid (Re t r k=(c.must&&decide (v.k=0))):=by show _=_;simp[Re,hc,hv]
   obtain⟨e0,_,_⟩:=hR k v hv;have d0:=(ad.cell ac).trans g0;have d1:=(ad.cell ac).trans g1;have d2:=(ad.cell ac).trans g2;have f0:=((Aq wr (aD #[U c.name,Y Z c.ty,dO c.must] 84)).cell (p:=⟨rb,ro+k*3,N⟩) (aO hrb ad.size)).trans ((ad.cell (p:=⟨rb,ro+k*3,N⟩) hrb).trans e0);have ak:Below _ W1 (wr.alloc (aD #[U c.name,Y Z c.ty,dO c.must] 84)):=ae.alloc ae.size _;clear g0 g1 g2 hc hv e0;obtain⟨vk,vn,vs⟩:=v;obtain⟨cn,ct,cm⟩:=c;simp only at f0 d0 d1 d2 EI;have ar:Hid _:=ah.out;have v0:(0:Int)≤k:=by omega
   have v1:k<(n:Int):=by omega
   have v2:k<r.length:=by rw[ar.out];exact af
   have v3:k<(r.length:Int):=by omega
   clear HL ah hR;cases cm
   ·have HP:Hid (Re t r k=aR):=by show _=_;rw[EI.out];rfl
    go_wp2;go_roundw
    case rel=>exact⟨k+1,by omega,by rfl,id (fun j hj=>by rcases dX.1 hj with h|h;exact HJ.out j h;rw[h];assumption),ak⟩
    case measure=>simp[bL];omega
   ·by_cases ag:vk=0
    ·subst ag;have HP:Hid (Re t r k=aZ):=by show _=_;rw[EI.out];rfl
     go_wp2;go_ret;exact⟨Ah (by rw[E.out,Av9 HP.out af]),aa.trans (ak.mono aa.size)⟩
    ·have hq:(vk==0)=aR:=by simp[ag]
     have HP:Hid (Re t r k=aR):=by show _=_;rw[EI.out];simp[ag]
     clear ag;go_wp2;go_roundw
     case rel=>exact⟨k+1,by omega,by rfl,id (fun j hj=>by rcases dX.1 hj with h|h;exact HJ.out j h;rw[h];assumption),ak⟩
     case measure=>simp[bL];omega
  ·have au:k=n:=by omega
   subst au;have v1:¬(k<(k:Int)):=by omega
   go_wp2;go_ret;exact⟨Ah (by rw[E.out,Y2 k 0 (fun j _ hj=>HJ.out j (by omega))]),aa.trans (ae.mono aa.size)⟩
theorem Aw0 {G W}{n g b o}{x0 x1 x2 x3 x4}(h:G.cell? ⟨n,2,N⟩=H x0∧G.cell? ⟨g,0,N⟩=H x1∧G.cell? ⟨b,o,N⟩=H x2∧G.cell? ⟨b,o+1,N⟩=H x3∧G.cell? ⟨b,o+2,N⟩=H x4)(hb:Below G.heap.size G W)(h1:n<G.heap.size)(h2:g<G.heap.size)(h3:b<G.heap.size):
  W.cell? ⟨n,2,N⟩=H x0∧W.cell? ⟨g,0,N⟩=H x1∧W.cell? ⟨b,o,N⟩=H x2∧W.cell? ⟨b,o+1,N⟩=H x3∧W.cell? ⟨b,o+2,N⟩=H x4:=by
 have k:=(E9 hb).1;grind
theorem Atf {E}{n}{c}{T}{a}{tv iv}{po}{pc}{w}(he:EngC E w n c T a tv iv (D po T.length pc))(t:TabD)(r:List V)(so:Option Addr)(sc:Nat)(rv:aX)(C:Nat)(hl:IsL Cp (fun k=>k<C) w (D so t.cols.length sc) t.cols)(hC:C≤w.heap.size)(hr:Cq w rv r)(ap:r.length=t.cols.length)(h0:0<r.length)(hs:∀v∈r,v.s.size≤aM)(hT:T.length≤100000)(aq:t.name.size≤1000)(hx:∀x∈flat T,x.1.size≤1000000∧x.2.size≤1000000):
  bB aI 122 #[aV (H ⟨n,0,N⟩),aY #[U t.name,D so t.cols.length sc],rv] w fun e w'=>e=aK (Y Z (Ams T t r))∧Below w.heap.size w w':=by
 obtain⟨aa,bT,-⟩:=al1 w (aD #[U t.name,D so t.cols.length sc] 82);have bE:=(aa.block _ he.lt).trans he.blk;have HL:=fun W (h:Below w.heap.size w W)=>Awz t r (D so t.cols.length sc) rv C W (hl.keep (Ae (h.mono hC))) (hr.below h) ap
 have aj:=fun W (h:Below w.heap.size w W)=>Uc (he.below h) t so sc hT aq hx
 have ah:=fun W (h:Below w.heap.size w W)=>Akj T (aY #[D po T.length pc]) (rk t r) W ⟨_,rfl,he.pages.pages.below h⟩ he.good (by omega)
 obtain⟨u,hu⟩:∃u,r[0]?=H u:=⟨_,aB h0⟩;have ar:r.headD zero=u:=by rw[List.headD_eq_head?_getD,List.head?_eq_getElem?,hu];rfl
 have ad:=fun W=>Qv _ u W (aC aq (by simp)) (hs u (aH hu))
 rw[show H8 _ u=rk t r by rw[rk,ar]]at ad;rcases hr with⟨_,h1⟩|⟨rb,ro,rcap,rfl,hrb,hR⟩
 ·rw[h1]at h0;simp at h0
 obtain⟨f0,f1,f2⟩:=hR 0 u hu;simp only[Nat.zero_mul,bC]at f0 f1 f2;obtain⟨uk,un,us⟩:=u;simp only[V.val]at ad;simp only at f0 f1 f2;obtain⟨gs,gb,ak⟩:∃gs gb,Acx (Hz (flat T) (rk t r))=dK #[U gs,dO gb]∧gb=(Hz _ _).isSome:=⟨_,_,rfl,rfl⟩;rw[ak.1]at ah;have EM:Hid (Ams T t r=if Rf t r=aZ then 7 else if(Hz _ _).isSome=aZ then 4 else if 30≤(F5 _ _).length then 8 else 0):=rfl;rw[←ak.2]at EM;clear ak hu ar hl ap;generalize Ams T t r=mb at EM;generalize Rf t r=lb at EM HL;generalize F5 _ _=A at EM aj;generalize rk t r=key at ad ah;generalize hW:w.alloc _=W1 at aa bT bE;have HW:Hid _:=hW;have KS:Hid _:=fun W h=>Aw0 (W:=W) ⟨show W1.cell? _=H (D po _ pc)from Aa bE rfl,show W1.cell? _=H (U _)from Aa bT rfl,(aa.cell hrb).trans f0,(aa.cell hrb).trans f1,(aa.cell hrb).trans f2⟩ h (aA bE) (aA bT) (aO hrb aa.size)
 have s0:=KS.out _ (aE _ _).drew;clear hW f0 f1 f2 hR;go_enter Tryz.func122,Tryz.ntmps122;go_upto_region 1 with fail;rw[HW.out]
 go_region_held3(fun W=>W.cell? ⟨n,2,N⟩=H (D po T.length pc)∧W.cell? ⟨w.heap.size,0,N⟩=H (U t.name)∧W.cell? ⟨rb,ro,N⟩=H (Y Z uk)∧W.cell? ⟨rb,ro+1,N⟩=H (Y Z un)∧W.cell? ⟨rb,ro+2,N⟩=H (U us)) (with_reducible omega)
  (first
   |(go_fit(ad _);rintro e w2 ⟨rfl,au⟩;have al:=Ac (aE _ _).drew au;have s1:=KS.out w2 al)
   |(go_fit(ah _ (Ac aa al));rintro e w3 ⟨rfl,av⟩;have ac:=Ac al av;have s2:=KS.out w3 ac))
 have ae:=(ac.block _ (aA bT)).trans bT;have t1:=Aa ae (j:=1) rfl;have ai:=HL _ (Ac aa ac);clear KS s0 s1 s2 HL ah ad;cases lb;rotate_left
 ·go_wp2_with(go_fit ai;rintro e w4 ⟨rfl,ab⟩);go_ret;exact⟨by rw[EM.out];rfl,Ac aa (Ac ac ab)⟩
 cases gb;rotate_left
 ·go_wp2_with(go_fit ai;rintro e w4 ⟨rfl,ab⟩);go_ret;exact⟨by rw[EM.out];rfl,Ac aa (Ac ac ab)⟩
 by_cases hA:30≤A.length
 ·have hq:(30:Int)≤A.length:=by omega
  go_wp2_with(first
   |(go_fit ai;rintro e w4 ⟨rfl,ab⟩;have af:=Ac ac ab;have ag:=(ab.block _ (aA ae)).trans ae;have u0:=Aa ag (j:=0) rfl;have u1:=Aa ag (j:=1) rfl)
   |(go_fit(aj _ (Ac aa af));rintro e w5 ⟨aw,rfl,am,an⟩;obtain⟨xo,xc,rfl⟩:=am.shape))
  go_ret;exact⟨by rw[EM.out];simp[hA],Ac aa (Ac af an)⟩
 ·have hq:¬(30:Int)≤A.length:=by omega
  go_wp2_with(first
   |(go_fit ai;rintro e w4 ⟨rfl,ab⟩;have af:=Ac ac ab;have ag:=(ab.block _ (aA ae)).trans ae;have u0:=Aa ag (j:=0) rfl;have u1:=Aa ag (j:=1) rfl)
   |(go_fit(aj _ (Ac aa af));rintro e w5 ⟨aw,rfl,am,an⟩;obtain⟨xo,xc,rfl⟩:=am.shape))
  go_ret;exact⟨by rw[EM.out];simp[hA],Ac aa (Ac af an)⟩
def Li (E:List Nat)(n:Nat)(t:TabD)(d:Db)(rows:List (List V))(a:Int)(tv iv:aX)(w w':bD)(e:Ending)(b:Bool:=false):Prop:=
 e=aK (dK #[Y Z (if(C9 t d rows).2=0 then(rows.length:Int)else 0),Y Z (C9 t d rows).2])∧∃po' pc' T',EngC E w' n d.c T' a tv iv (D po' T'.length pc')∧DbOk (C9 t d rows).1∧Has (C9 t d rows).1 (flat T')∧(b=aZ→T'.length≤1)∧But n w w'
theorem Arc (t):∀(rows:List (List V)) (d:Db),(C9 t d rows).1.c=d.c
 |[],d=>rfl
 |r::rows,d=>by
  unfold C9;split
  ·rw[Arc t rows];rfl
  rfl
theorem A2o (k v:Wd)(F:PL):(I3 F k v).length≤F.length+1:=by
 have h:(F.filter fun x=>klt x.1 k).length+(F.filter fun x=>klt k x.1).length≤F.length:=by
  induction F with
  |nil=>simp
  |cons x F ih=>
   rw[dG,dG,bH];cases h1:klt x.1 k with
   |true=>
    rw[Kx h1];grind
   |false=>
    grind
 unfold I3;grind
theorem Atg {F}{I}{t}{r}(h:I.length≤0):(putRow F I t r).length≤F.length+1:=by
 obtain rfl:I=[]:=aU (by omega);exact A2o _ _ F
theorem Sq {α:Type}{l:List α}{k}{x}(h:l[k]?=H x):l.drop k=x::l.drop (k+1):=by
 obtain⟨hk,rfl⟩:=aJ.1 h;simp
theorem Aex {E:List Nat}{n:Nat}{d:Db}{T:List Pg}{a:Int}{ad io po:Option Addr}{tc ic pc:Nat}{w:bD}(hE:Br E w)(hn:n∈E)(he:EngC E w n d.c T a (D ad d.c.tables.length tc) (D io d.c.indexes.length ic) (D po T.length pc))(ok:DbOk d)(be:Has d (flat T))(t:TabD)(so:Option Addr)(sc:Nat)(hl:IsL Cp (fun k=>k∉E) w (D so t.cols.length sc) t.cols)(rows:List (List V))(rv:aX)(hr:IsL C8 (fun k=>k∉E) w rv rows)(bf:∀r∈rows,Jh t r)(ht:t∈d.c.tables)(bq:Bool:=false)(aq:bq=aZ→d.c.indexes.length≤0∧T.length≤1∧(flat T).length+rows.length≤4:=by nofun):
  bB aI 63 #[aV (H ⟨n,0,N⟩),aY #[U t.name,D so t.cols.length sc],rv] w fun e w'=>Li E n t d rows a (D ad d.c.tables.length tc) (D io d.c.indexes.length ic) w w' e bq:=by
 obtain⟨bg,cv,cx⟩:=(Ed ok.cat).2.2 t ht;have ar:=ok.cat;obtain⟨c,R⟩:=d;simp only at he ht ar aq⊢;obtain⟨bh,bi,_⟩:=Ed ar;obtain⟨ro,rc,rfl⟩:=hr.shape;have cb:=(D5 hr).2;unfold aM at cb;obtain⟨ae,bT,-⟩:=al1 w (aD #[U t.name,D so t.cols.length sc] 82);have bj:=he.below ae;have au:=hE.below ae;have av:=hl.keep (Ai ae);have aw:=hr.keep (Ai ae);have bk:n≠w.heap.size:=dE he.lt;generalize hW:w.alloc (aD #[U t.name,D so t.cols.length sc] 82)=W1 at ae bT bj au av aw;have HW:Hid _:=hW;have bl:Hid _:=bf;have aj:Hid _:=aq;clear aq;have cc:Hid _:=bi;have cd:Hid _:=bh;have ce:Hid _:=au;have cf:Hid _:=av;have cg:Hid _:=aw;clear hW bf bi bh au av aw hl hr hE;have ak:Hid (DbOk ⟨c,R⟩∧Has ⟨c,R⟩ (flat T)):=⟨ok,be⟩;have HT:Hid (t∈c.tables):=ht;clear ok be ht;go_enter Tryz.func63,Tryz.ntmps63;go_upto_region 1 with fail;rw[HW.out];go_wp2
 go_loopw[13] (fun i wr=>∃(k:Nat) (al:Option Addr) (am:Nat) (T2:List Pg) (R2:Wd→List (List V)),k≤rows.length∧i=Y Z k∧EngC E wr n c T2 a (D ad c.tables.length tc) (D io c.indexes.length ic) (D al T2.length am)∧Hid (C9 t ⟨c,R⟩ rows=C9 t ⟨c,R2⟩ (rows.drop k)∧DbOk ⟨c,R2⟩∧Has ⟨c,R2⟩ (flat T2))∧Hid (bq=aZ→T2.length≤1∧(flat T2).length≤(flat T).length+k)∧But n W1 wr) (fun i _=>rows.length-(bL i).toNat)
 case atStart=>exact⟨0,po,pc,T,R,aP _,rfl,bj,id ⟨rfl,ak.out⟩,id fun hb=>⟨(aj.out hb).2.1,aG _⟩,But.refl _ _⟩
 case round=>
  obtain⟨k,al,am,T2,R2,hk,rfl,ab,HF,ag,af⟩:=hrel;have cy:T2.length≤450:=aC (Jb ab.good) (Lv HF.out.2.1 ab.good HF.out.2.2)
  by_cases ch:k<rows.length
  ·skip
   obtain⟨r,hx⟩:∃r,rows[k]?=H r:=⟨_,aB ch⟩;obtain⟨b,cj,cz,ck,_,da,⟨yv,rfl,ax⟩,bm⟩:=At (IsL.keep cg.out (Jr af hn)) hx;cases ck;obtain⟨yo,yc,rfl⟩:=ax.shape;have bn:=F6 ax;have d0:wr.cell? ⟨b,cj+k,N⟩=H (D yo r.length yc):=by have:=bm 0 _ rfl;simpa[C8]using this
   obtain⟨ay,bo⟩:=(bl.out r (aH hx)).good;have az:=fun v hv=>Iy (bo v hv)
   have bp:=IsL.keep cf.out (Jr af hn);have ac:=(af.block _ (aA bT) (fun e=>bk e.symm)).trans bT;have ba:=Br.put ce.out af hn ab ar;have v0:(0:Int)≤k:=by omega
   have v1:k<(rows.length:Int):=by omega
   have q2:=Aa ab.blk (j:=2) rfl;have bt:Hid _:=Sq hx;have cl:Hid (Jh t r):=bl.out r (aH hx);have HM:=Atf ab t r so sc _ _ (bp.mono (fun k hk _=>hk)) (aG _) bn ay (by omega) az (by omega) (aC bg (by simp)) (Qc HF.out.2.1 HF.out.2.2);rw[Azz HF.out.2.1 ab.good HF.out.2.2 HT.out]at HM;have ak:=fun w3 aa W (h:Below _ w3 W)=>Aem _ t r T2 _ (D ad c.tables.length tc) _ _ _ _ W ⟨_,rfl,(ab.below aa).pages.pages.below h⟩ ab.good (by omega) (Ca _ _ _) (((ab.below aa).below h).idxs.mono (fun k hk _=>hk)) (((bp.keep (Ai aa)).keep (Ai h)).mono (fun k hk _=>hk)) (aG _) ((bn.below aa).below h) ay (by omega) (by omega) az (fun x hx=>aC (cc.out x hx) (by simp)) (aC bg (by simp)) (by have:=cd.out;omega) (if bq=aZ then 1 else T2.length+1) (by cases hb:bq with|false=>simp |true=>exact .inr ⟨rfl,(ag.out hb).1,by have:=(ag.out hb).2;have:=(aj.out hb).2.2;omega⟩)
   have bu:Hid _:=ak;have ah:Hid (Lh ⟨c,R2⟩ t r≠0→C9 t ⟨c,R2⟩ (r::rows.drop (k+1))=(⟨c,R2⟩,Lh ⟨c,R2⟩ t r)):=fun h=>by unfold C9;grind
   have bb:Hid (Lh _ t r=0→C9 t ⟨c,R2⟩ (r::rows.drop (k+1))=C9 t ((⟨c,R2⟩:Db).upd t.name (Eh (rk t) (R2 t.name) r)) (rows.drop (k+1))∧DbOk ((⟨c,R2⟩:Db).upd _ (Eh _ (R2 _) r))∧Has ((⟨c,R2⟩:Db).upd _ (Eh _ (R2 _) r)) (putRow _ c.indexes t r)):=fun h=>by
    refine⟨?_,Az1 HF.out.2.1 HF.out.2.2 HT.out cl.out h⟩;show(if Lh _ t r=0 then _ else _)=_;grind
   have bv:=Ah7 ⟨c,R2⟩ t r;generalize Lh _ t r=m at HM ah bb bv;have x0:=Aa ac (j:=0) rfl;have x1:=Aa ac (j:=1) rfl;clear hx bm ax bo az ak ay;have bw:∀m,m=4∨m=7∨m=8→Hid (m≠0→C9 t ⟨c,R2⟩ (r::rows.drop (k+1))=(⟨c,R2⟩,m))→∀w3,Below wr.heap.size wr w3→Li E n t ⟨c,R⟩ rows a (D ad c.tables.length tc) (D io c.indexes.length ic) w w3 (aK (dK #[Y Z 0,Y Z m])) bq:=by
    intro m hm he w3 aa;have h0:m≠0:=by omega
    have e1:C9 t ⟨c,R⟩ rows=(⟨c,R2⟩,m):=by rw[HF.out.1,bt.out,he.out h0]
    unfold Li;rw[e1];exact⟨by grind,al,am,T2,ab.below aa,HF.out.2.1,HF.out.2.2,fun hb=>(ag.out hb).1,((But.of_below ae).trans af).trans (But.of_below aa)⟩
   have an:Hid _:=bw;clear bw;rcases bv with rfl|rfl|rfl|rfl
   ·obtain⟨bx,bz,ca⟩:=bb.out rfl;have cm:Hid _:=bx;have cn:Hid _:=bz;have db:Hid _:=ca;clear bx bz ca ah bb;go_upto_region 7 with(go_fit HM;rintro e w3 ⟨rfl,aa⟩);have HD:=bu.out w3 aa;replace ab:=ab.below aa;replace ac:=(aa.block _ (aA ac)).trans ac;replace ba:=ba.below aa;replace q2:=Aa ab.blk (j:=2) rfl;have KS:Hid _:=fun W (h:Below _ w3 W)=>aN (show W.cell? _=H (D ad _ tc)from Aa (ab.below h).blk (j:=0) rfl) (aN (show W.cell? _=H (D io _ ic)from Aa (ab.below h).blk (j:=1) rfl) (aN (show W.cell? _=H (U _)from Aa ((h.block _ (aA ac)).trans ac) (j:=0) rfl) (show W.cell? _=H (D so _ sc)from Aa ((h.block _ (aA ac)).trans ac) (j:=1) rfl)))
    have KT:Hid _:=fun W (h:Below _ w3 W) x=>Zd (ab.below h).blk ((h.block _ (aA ac)).trans ac) bk x
    clear HM bu x0 x1 an;refine cP (S:=(fun W=>W.cell? ⟨n,0,N⟩=H (D ad c.tables.length tc)∧W.cell? ⟨n,1,N⟩=H (D io c.indexes.length ic)∧W.cell? ⟨w.heap.size,0,N⟩=H (U t.name)∧W.cell? ⟨w.heap.size,1,N⟩=H (D so t.cols.length sc))) (by rfl) ?_ (fun hHeld=>?_)
    ·exact KS.out _ (aE _ _).drew
    refine tk 0 ?_;refine tk 1 ?_;refine tk 2 ?_;refine tk 3 ?_;refine tk 5 ?_;refine tk 6 ?_;refine tk 7 ?_;refine tk 8 ?_;refine tk 9 ?_;refine tk 10 ?_;refine Bi 4 (fun K hK=>?_);go_simp;go_wp2_with fail;refine hK.out _ _ ?_ (fun hHeld=>?_)
    ·omega
    clear hK K;refine Bi 11 (fun K hK=>?_);go_simp
    (go_fit(HD _ (aE _ _).drew);rintro e w4 ⟨dc,T4,rfl,ap,co,bc,cp,cq⟩;obtain⟨dd,rfl,ap⟩:=ap;obtain⟨cr,c4,rfl⟩:=Ct ap;have ai:=Ac (aE _ _).drew cq;have bd:=ab.below ai;have q4:=Aa bd.blk (j:=2) rfl;have z4:w4.frozen? ⟨n,2,N⟩=aR:=(by simp only[aF,bd.blk];rfl))
    go_wp2_with fail;refine hK.out _ _ ?_ (fun hHeld=>?_)
    ·exact KS.out _ ai
    clear hK K;refine tk 12 ?_;refine tk 13 ?_;refine Bi 14 (fun K hK=>?_);go_simp;go_wp2_with fail;refine hK.out _ _ ?_ (fun hHeld=>?_)
    ·exact KT.out _ ai _
    clear hK K;refine cU (by kernel_rfl) ?_ _;go_wp2_with fail;have cs:Keyed (flat T4):=by rw[bc];exact Ah0 (Qd HF.out.2.2)
    go_roundw
    case rel=>exact⟨k+1,cr,c4,T4,_,by omega,by rfl,bd.store (ba.below ai) hn ap co cs,id ⟨by rw[HF.out.1,bt.out,cm.out];rfl,cn.out,by rw[bc];assumption⟩,id fun hb=>⟨by rw[if_pos hb]at cp;have:=(aj.out hb).1;omega,by rw[bc];have:=Atg (F:=flat T2) (t:=t) (r:=r) (aj.out hb).1;have:=(ag.out hb).2;omega⟩,af.trans ((But.of_below (Ac aa ai)).set _ _)⟩
    case measure=>simp[bL];omega
   ·go_wp2_with(go_fit HM;rintro e w3 ⟨rfl,aa⟩);go_ret2;exact an.out 4 (by omega) ah w3 aa
   ·go_wp2_with(go_fit HM;rintro e w3 ⟨rfl,aa⟩);go_ret2;exact an.out 7 (by omega) ah w3 aa
   ·go_wp2_with(go_fit HM;rintro e w3 ⟨rfl,aa⟩);go_ret2;exact an.out 8 (by omega) ah w3 aa
  ·have ct:k=rows.length:=by omega
   subst ct;have v1:¬(rows.length<(rows.length:Int)):=by omega
   have h1:=HF.out.1;rw[eN]at h1;have cu:Hid (C9 t _ rows=(⟨c,R2⟩,0)):=h1;clear h1;go_wp2;go_ret2;unfold Li;rw[cu.out];exact⟨rfl,al,am,T2,ab,HF.out.2.1,HF.out.2.2,fun hb=>(ag.out hb).1,(But.of_below ae).trans af⟩
end
section
open Go.RowKit Go.Maps
theorem Ud {α β:Type}(p)(q:α→Bool):∀(l:List α) (CS:List β) (i:Nat),CS.length=l.length→(∀(j:Nat) (x:α),l[j]?=H x→p (i+j)=q x)→
  (Bw p i CS).length=(l.filter (fun x=>!q x)).length∧∀(R:α→β→Prop),(∀(j:Nat) (x:α) (c:β),l[j]?=H x→CS[j]?=H c→R x c)→∀(j:Nat) (x:α) (c:β),(l.filter (fun x=>!q x))[j]?=H x→(Bw p i CS)[j]?=H c→R x c
 |[],[],i,_,_=>⟨rfl,fun R _ j x c hx=>by grind⟩
 |[],_::_,i,h,_=>by grind
 |_::_,[],i,h,_=>by grind
 |a::l,d::CS,i,h,hp=>by
  have aa:=by simpa using hp 0 a rfl
  have ih:=Ud p q l CS _ (by grind) fun j x hx=>by
   rw[show i+1+j=i+(j+1) by omega];simp_all
  rw[Bw,dG,aa];cases q a with
  |true=>
   simp only[if_true,Bool.not_true,eK,if_false];exact⟨ih.1,fun R hR=>ih.2 R fun j x c hx hc=>hR (j+1) x c (by grind) (by grind)⟩
  |false=>
   simp only[eK,if_false,Bool.not_false,if_true,bH];refine⟨by omega,fun R hR j x c hx hc=>?_⟩;cases j with
   |zero=>simp at hx hc;subst hx;subst hc;exact hR 0 _ _ rfl rfl
   |succ j=>exact ih.2 R (fun j x c hx hc=>hR (j+1) x c (by grind) (by grind)) j x c (by grind) (by grind)
theorem Ath {F}{w}{sv}{l}(h:IsL Ck F w sv l):∃CS:List (List aX),CS.length=l.length∧Bq F 2 w sv CS.length CS.flatten∧(∀c∈CS,Lo c)∧(∀(i:Nat) (x:TabD) (c:List aX),l[i]?=H x→CS[i]?=H c→Ck.R F w x c∧nmC c=x.name):=by
 obtain⟨cs,hr,ha⟩:=h;obtain⟨CS,rfl,h2,h3,h4⟩:=Als ha;exact⟨CS,h2,by rw[h2];exact hr,h3,h4⟩
theorem Ati (l)(x)(sv)(cx)(C)(w)(h:IsL Ck (fun k=>k<C) w sv l)(hx:Ck.R (fun k=>k<C) w x cx)(_:C≤w.heap.size)(hr:Cd (l.map TabD.name))(hl:l.length≤1000000):
  bB aI 104 #[sv,aY cx.toArray,.func (.func 105) #[] #[]] w fun e w'=>∃v,e=aK v∧IsL Ck (Fx C w.heap.size) w' v (Eh TabD.name l x)∧Below w.heap.size w w':=by
 have aa:=Sg _ x.name l hr;generalize ad:l.filter _=l1 at aa;generalize ae:l.filter _=l2 at aa;have af:Eh TabD.name l x=l1++x::l2:=by rw[Eh,ad,ae]
 rw[af];have k1:∀y∈l1,klt y.name x.name=aZ:=fun y hy=>by grind
 have k2:∀y∈l2,klt y.name x.name=aR:=fun y hy=>by grind
 clear ad ae af;obtain⟨cs,ag,ha⟩:=h;rw[aa]at ha;obtain⟨c1,c2,rfl,a1,a2⟩:=All.split ha;obtain⟨ab,rfl,e1,s1,r1⟩:=Als a1;obtain⟨ac,rfl,e2,s2,r2⟩:=Als a2;have ah:l.length=(ab++ac).length:=by rw[aa,aL,aL,e1,e2]
 have hs:=fun c hc=>(dJ.1 hc).elim (s1 c) (s2 c)
 obtain⟨aj,ak⟩:=Ym hx;have hR:=hx;obtain⟨cv,rfl,ai⟩:=hx;obtain⟨co,cc,rfl⟩:=ai.shape;refine(Asm ab ac nmC sv _ co _ cc w (Ayy (by rw[←ah,eF];exact ag) hs) hs (fun c _ s r=>Avh c s r) ?_ ?_ (by omega)).mono ?_
 ·intro c hc;obtain⟨i,hi,rfl⟩:=aW hc;rw[(r1 i _ _ (aB (by omega)) (aB hi)).2];have:=k1 _ (cE (n:=i) (by omega));exact this
 ·intro c hc;obtain⟨i,hi,rfl⟩:=aW hc;rw[(r2 i _ _ (aB (by omega)) (aB hi)).2];have:=k2 _ (cE (n:=i) (by omega));exact this
 ·rintro e w' ⟨v,rfl,own,hb⟩;have hA:=All.append ((a1.keep (Ai hb)).mono (F':=Fx C w.heap.size) fun k _ hk=>.inl hk) (All.append (All.one (Ck.mono (F':=Fx C w.heap.size) (fun k _ hk=>.inl hk) (Ck.keep (Ai hb) hR))) ((a2.keep (Ai hb)).mono (F':=Fx C w.heap.size) fun k _ hk=>.inl hk));have hB:=Bq.of_own own (F:=Fx C _) fun k hk=>.inr hk
  have hn:(l1++x::l2).length=ab.length+ac.length+1:=by simp only[aL,bH];omega
  exact⟨v,rfl,⟨_,(by rw[hn];exact hB),hA⟩,hb⟩
theorem Atj {F}{w}{sv}{l}(h:IsL Eb F w sv l):∃CS:List (List aX),CS.length=l.length∧Bq F 3 w sv CS.length CS.flatten∧(∀c∈CS,Mf c)∧(∀(i:Nat) (x:IdxD) (c:List aX),l[i]?=H x→CS[i]?=H c→Eb.R F w x c∧nmC c=x.name):=by
 obtain⟨cs,hr,ha⟩:=h;obtain⟨CS,rfl,h2,h3,h4⟩:=Alt ha;exact⟨CS,h2,by rw[h2];exact hr,h3,h4⟩
theorem Atk (l)(x)(sv)(cx)(C)(w)(h:IsL Eb (fun k=>k<C) w sv l)(hx:Eb.R (fun k=>k<C) w x cx)(_:C≤w.heap.size)(hr:Cd (l.map IdxD.name))(hl:l.length≤1000000):
  bB aI 106 #[sv,aY cx.toArray,.func (.func 107) #[] #[]] w fun e w'=>∃v,e=aK v∧IsL Eb (Fx C w.heap.size) w' v (Eh IdxD.name l x)∧Below w.heap.size w w':=by
 have aa:=Sg _ x.name l hr;generalize ad:l.filter _=l1 at aa;generalize ae:l.filter _=l2 at aa;have af:Eh IdxD.name l x=l1++x::l2:=by rw[Eh,ad,ae]
 rw[af];have k1:∀y∈l1,klt y.name x.name=aZ:=fun y hy=>by grind
 have k2:∀y∈l2,klt y.name x.name=aR:=fun y hy=>by grind
 clear ad ae af;obtain⟨cs,ag,ha⟩:=h;rw[aa]at ha;obtain⟨c1,c2,rfl,a1,a2⟩:=All.split ha;obtain⟨ab,rfl,e1,s1,r1⟩:=Alt a1;obtain⟨ac,rfl,e2,s2,r2⟩:=Alt a2;have ah:l.length=(ab++ac).length:=by rw[aa,aL,aL,e1,e2]
 have hs:=fun c hc=>(dJ.1 hc).elim (s1 c) (s2 c)
 obtain⟨ai,aj⟩:=Yn hx;have hR:=hx;obtain rfl:=hx;refine(Asn ab ac nmC sv _ _ _ w (Ayz (by rw[←ah,eF];exact ag) hs) hs (fun c _ s r=>Avh c s r) ?_ ?_ (by omega)).mono ?_
 ·intro c hc;obtain⟨i,hi,rfl⟩:=aW hc;rw[(r1 i _ _ (aB (by omega)) (aB hi)).2];have:=k1 _ (cE (n:=i) (by omega));exact this
 ·intro c hc;obtain⟨i,hi,rfl⟩:=aW hc;rw[(r2 i _ _ (aB (by omega)) (aB hi)).2];have:=k2 _ (cE (n:=i) (by omega));exact this
 ·rintro e w' ⟨v,rfl,own,hb⟩;have hA:=All.append ((a1.keep (Ai hb)).mono (F':=Fx C w.heap.size) fun k _ hk=>.inl hk) (All.append (All.one (Eb.mono (F':=Fx C w.heap.size) (fun k _ hk=>.inl hk) (Eb.keep (Ai hb) hR))) ((a2.keep (Ai hb)).mono (F':=Fx C w.heap.size) fun k _ hk=>.inl hk));have hB:=Bq.of_own own (F:=Fx C _) fun k hk=>.inr hk
  have hn:(l1++x::l2).length=ab.length+ac.length+1:=by simp only[aL,bH];omega
  exact⟨v,rfl,⟨_,(by rw[hn];exact hB),hA⟩,hb⟩
def tbC:List aX→Wd
 |_::U s::_=>s
 |_=>noW
theorem A2p (aa:Wd)(ao)(n c)(pb)(s:Wd)(w)(hp:w.cell? ⟨pb,1,N⟩=H (U s))(ab:pb<w.heap.size):
  bB aI 109 #[aY #[U aa,D ao n c],aV (H ⟨pb,0,N⟩)] w fun e w'=>e=aK (dO (decide (aa=s)))∧Below w.heap.size w w':=by
 have E:Hid (decide _=(aa.toList==s.toList)):=(Jk _ _).symm;generalize decide (aa=s)=r at E;have ac:=((Aq w (aD #[U aa,D ao n c] 82)).cell ab).trans hp;go_enter Tryz.func109,Tryz.ntmps109;go_wp2;go_ret;exact⟨Ah (by rw[E.out]),Aq _ _⟩
theorem Atl (l)(s:Wd)(sv)(pb C)(w)(h:IsL Ck (fun k=>k<C) w sv l)(_:C≤w.heap.size)(hp:w.cell? ⟨pb,1,N⟩=H (U s))(ab:pb<w.heap.size)(hl:l.length≤1000000):
  bB aI 108 #[sv,.func (.func 109) #[] #[aV (H ⟨pb,0,N⟩)]] w fun e w'=>∃v,e=aK v∧IsL Ck (Fx C w.heap.size) w' v (l.filter (fun x=>!decide (x.name=s)))∧Below w.heap.size w w':=by
 obtain⟨CS,e1,ac,hs,hR⟩:=Ath h;have ah:∀u∈CS.flatten,u.oneCell'=aZ:=fun u hu=>by
  obtain⟨c,hc,hu⟩:=eM.1 hu;exact Ahj (hs c hc) u hu
 have HC:=Sd _ _ sv _ w ac ah (by omega);have aa:=Ud (fun i=>decide (nmC (CS.getD i [])=s)) (fun x=>decide (x.name=s)) l CS 0 e1 (fun j x hx=>by grind);have HD:=fun v V (hV:Below _ w V) own=>Af2 CS v _ (fun i=>decide (nmC (CS.getD i [])=s)) _ V own hs hV.size (fun i cs W hi hW=>by
  have ad:pb<V.heap.size:=aO ab hV.size;have ai:=(hV.cell (p:=⟨pb,1,N⟩) ab).trans hp;have aj:W.cell? ⟨pb,1,N⟩=H (U s):=(cG (hW.block pb ad (fun e=>by have:=(own.lt pb e.symm).1;omega))).trans ai;obtain⟨s0,a1,n1,c1,rfl⟩:=hs cs (aH hi);refine(A2p s0 a1 n1 c1 pb s W aj (aO ad hW.size)).mono ?_;rintro e W' ⟨rfl,hb⟩;refine⟨?_,hb⟩;simp only[bK,hi,dD];rfl)
 have ae:∀V,Below _ w V→All Ck (Fx C w.heap.size) V _ _:=fun V hV=>
  Lq aa.1 (aa.2 _ fun j x c hx hc=>Ck.mono (fun k _ hk=>.inl hk) (Ck.keep (Ai hV) (hR j x c hx hc).1))
 have HA:Hid _:=ae;have HL:Hid _:=aa.1;generalize Bw _ 0 CS=KP at HD HA HL;clear ae aa h ac hR;go_enter Tryz.func108,Tryz.ntmps108;go_wp2_with(first
  |(go_fit HC;rintro e V ⟨v,rfl,own,af⟩;have ak:=HD v V af own)
  |(go_fit ak;rintro e V2 ⟨v2,rfl,al,an,am⟩))
 go_ret;have ag:=af.trans am;refine⟨v2,rfl,⟨_,?_,HA.out V2 ag⟩,ag⟩;rw[←HL.out];exact Bq.of_own al fun k hk=>.inr hk
theorem A2q (aa tb cl:Wd)(pb)(s:Wd)(w)(hp:w.cell? ⟨pb,1,N⟩=H (U s))(ab:pb<w.heap.size):
  bB aI 111 #[aY #[U aa,U tb,U cl],aV (H ⟨pb,0,N⟩)] w fun e w'=>e=aK (dO (decide (tb=s)))∧Below w.heap.size w w':=by
 have E:Hid (decide _=(tb.toList==s.toList)):=(Jk _ _).symm;generalize decide (tb=s)=r at E;have ac:=((Aq w (aD #[U aa,U tb,U cl] 86)).cell ab).trans hp;go_enter Tryz.func111,Tryz.ntmps111;go_wp2;go_ret;exact⟨Ah (by rw[E.out]),Aq _ _⟩
theorem Atm (l)(s:Wd)(sv)(pb C)(w)(h:IsL Eb (fun k=>k<C) w sv l)(_:C≤w.heap.size)(hp:w.cell? ⟨pb,1,N⟩=H (U s))(ab:pb<w.heap.size)(hl:l.length≤1000000):
  bB aI 110 #[sv,.func (.func 111) #[] #[aV (H ⟨pb,0,N⟩)]] w fun e w'=>∃v,e=aK v∧IsL Eb (Fx C w.heap.size) w' v (l.filter (fun x=>!decide (x.table=s)))∧Below w.heap.size w w':=by
 obtain⟨CS,e1,ac,hs,hR⟩:=Atj h;have ah:∀u∈CS.flatten,u.oneCell'=aZ:=fun u hu=>by
  obtain⟨c,hc,hu⟩:=eM.1 hu;exact Ahl (hs c hc) u hu
 have HC:=Se _ _ sv _ w ac ah (by omega);have aa:=Ud (fun i=>decide (tbC (CS.getD i [])=s)) (fun x=>decide (x.table=s)) l CS 0 e1 (fun j x hx=>by
  have hj:=(aJ.1 hx).1;have hc:CS[j]?=H _:=aB (by omega);have hr:=(hR j x _ hx hc).1;simp only[cO,bK,hc,dD];have:tbC CS[j]=x.table:=by
   have h1:_=_:=hr;rw[h1];rfl
  grind)
 have HD:=fun v V (hV:Below _ w V) own=>Af3 CS v _ (fun i=>decide (tbC (CS.getD i [])=s)) _ V own hs hV.size (fun i cs W hi hW=>by
  have ad:pb<V.heap.size:=aO ab hV.size;have ai:=(hV.cell (p:=⟨pb,1,N⟩) ab).trans hp;have aj:W.cell? ⟨pb,1,N⟩=H (U s):=(cG (hW.block pb ad (fun e=>by have:=(own.lt pb e.symm).1;omega))).trans ai;obtain⟨s0,s1,s2,rfl⟩:=hs cs (aH hi);refine(A2q s0 s1 s2 pb s W aj (aO ad hW.size)).mono ?_;rintro e W' ⟨rfl,hb⟩;refine⟨?_,hb⟩;simp only[bK,hi,dD];rfl)
 have ae:∀V,Below _ w V→All Eb (Fx C w.heap.size) V _ _:=fun V hV=>
  Lq aa.1 (aa.2 _ fun j x c hx hc=>Eb.mono (fun k _ hk=>.inl hk) (Eb.keep (Ai hV) (hR j x c hx hc).1))
 have HA:Hid _:=ae;have HL:Hid _:=aa.1;generalize Bw _ 0 CS=KP at HD HA HL;clear ae aa h ac hR;go_enter Tryz.func110,Tryz.ntmps110;go_wp2_with(first
  |(go_fit HC;rintro e V ⟨v,rfl,own,af⟩;have ak:=HD v V af own)
  |(go_fit ak;rintro e V2 ⟨v2,rfl,al,an,am⟩))
 go_ret;have ag:=af.trans am;refine⟨v2,rfl,⟨_,?_,HA.out V2 ag⟩,ag⟩;rw[←HL.out];exact Bq.of_own al fun k hk=>.inr hk
theorem Iz {w:bD}{b g}{x}(h:w.heap[b]?=H x)(hn:b≠g)(o)(v):(w.setCell ⟨g,o,N⟩ v).heap[b]?=H x:=by
 simp only[cQ,cX];grind
theorem Z7 {w:bD}{g}{p q}{t}(h:w.heap[g]?=H (aD #[p,q] t))(a b):((w.setCell ⟨g,0,N⟩ a).setCell ⟨g,1,N⟩ b).heap[g]?=H (aD #[a,b] t):=by
 rw[upd (upd h 0 a) 1 b];rfl
def Sr (ct:CatD)(C:Nat)(w:bD)(e:Ending)(w':bD):Prop:=∃v,e=aK v∧Hq (Fx C w.heap.size) w' ct v∧Below w.heap.size w w'
theorem A2r (ct:CatD)(cols)(to')(tc)(io)(ic)(nmv tbv clv)(o1)(c1)(o2)(n2 c2)(o3)(n3 c3)(o4)(n4 c4)(o5)(n5 c5)(op xk xn)(xs s nm8)(n8)(o6)(k6 c6)(o7)(n7 c7)(dn)(nn)(C)(w)
  (hT:IsL Ck (fun k=>k<C) w (D to' ct.tables.length tc) ct.tables) (hI:IsL Eb (fun k=>k<C) w (D io ct.indexes.length ic) ct.indexes) (ad:IsL Cp (fun k=>k<C) w (D o1 cols.length c1) cols) (hC:C≤w.heap.size) (ai:ct.tables.length≤1000000) (_:ct.indexes.length≤1000000) (hr:Cd (ct.tables.map TabD.name)):
  bB aI 57 #[aY #[D to' ct.tables.length tc,D io ct.indexes.length ic],aY (sA 1 nmv tbv clv (D o1 cols.length c1) (D o2 n2 c2) (D o3 n3 c3) (D o4 n4 c4) (D o5 n5 c5) op xk xn xs s nm8 n8 (D o6 k6 c6) (D o7 n7 c7) dn nn)] w (Sr ⟨Eh TabD.name ct.tables ⟨nmv,cols⟩,ct.indexes⟩ C w):=by
 obtain⟨aa,B0,B1,B2,ab⟩:=al3 w (aD #[D to' ct.tables.length tc,D io ct.indexes.length ic] 62) (aD (sA 1 nmv tbv clv (D o1 cols.length c1) (D o2 n2 c2) (D o3 n3 c3) (D o4 n4 c4) (D o5 n5 c5) op xk xn xs s nm8 n8 (D o6 k6 c6) (D o7 n7 c7) dn nn) 50) (aD #[D N 0 0,D N 0 0] 62);generalize hW:((w.alloc _).alloc _).alloc _=W at aa B0 B1 B2 ab;have HW:Hid _:=hW;have aj:Hid _:=ab;clear hW ab;have a0:=Aa B0 (j:=0) (u:=D to' _ tc) rfl;have b0:=Aa B1 (j:=0) (u:=Y _ 1) rfl;have b1:=Aa B1 (j:=1) (u:=U nmv) rfl;have b4:=Aa B1 (j:=4) (u:=D o1 _ c1) rfl;have ae:=hT.keep (Ae (aa.mono hC));have af:=ad.keep (Ae (aa.mono hC));have HI:=Ati _ ⟨nmv,cols⟩ _ [U nmv,D o1 _ c1] C W ae ⟨_,rfl,af⟩ (aC hC aa.size) hr ai;rw[aj.out]at HI;clear hT ad hr af ae;generalize Eh _ ct.tables _=T2 at HI⊢;go_enter dI,dC;go_upto_region 1 with fail;rw[HW.out];go_wp2_with(go_fit HI;rintro e w1 ⟨v1,rfl,ag,ac⟩;obtain⟨vo,vc,rfl⟩:=ag.shape;have D0:=(ac.block _ (by omega)).trans B0;have D2:=(ac.block _ (by omega)).trans B2;have z0:=Aa D0 (j:=0) (u:=D to' _ tc) rfl;have z1:=Aa D0 (j:=1) (u:=D io _ ic) rfl;have z2:=Aa D2 (j:=0) (u:=D N 0 0) rfl;have z3:=Aa D2 (j:=1) (u:=D N 0 0) rfl;have f0:w1.frozen? ⟨w.heap.size,0,N⟩=aR:=(by simp[aF,D0]);have f2:w1.frozen? ⟨w.heap.size+2,0,N⟩=aR:=(by simp[aF,D2]);have f3:w1.frozen? ⟨w.heap.size+2,1,N⟩=aR:=(by simp[aF,D2]));refine bR (v:=aY #[D vo T2.length vc,D io ct.indexes.length ic]) (cK cY _ _ (w.heap.size+2) 62 #[D vo T2.length vc,D io ct.indexes.length ic] _ _ rfl (Z7 (Iz D2 (by omega) _ _) _ _) aT rfl (by kernel_rfl)) rfl ?_;have ah:=aa.trans (ac.mono (by omega));refine⟨_,rfl,⟨_,_,rfl,?_,?_⟩,((ah.setCell (show w.heap.size≤w.heap.size by omega) _).setCell (show w.heap.size≤w.heap.size+2 by omega) _).setCell (show w.heap.size≤w.heap.size+2 by omega) _⟩
 ·refine(ag.keep ((((Keeps.refl _ w1).set ?_ _ _).set ?_ _ _).set ?_ _ _)).mono fun k _ hk=>?_
  ·rintro(h|h)<;>omega
  ·rintro(h|h)<;>omega
  ·rintro(h|h)<;>omega
  ·rcases hk with h|h
   ·exact .inl h
   ·exact .inr (by omega)
 ·refine(hI.keep ?_).mono fun k _ hk=>.inl hk
  exact(((Ae (ah.mono hC)).set (by omega) _ _).set (by omega) _ _).set (by omega) _ _
theorem A2s (ct:CatD)(cols)(to')(tc)(io)(ic)(nmv tbv clv)(o1)(c1)(o2)(n2 c2)(o3)(n3 c3)(o4)(n4 c4)(o5)(n5 c5)(op xk xn)(xs s nm8)(n8)(o6)(k6 c6)(o7)(n7 c7)(dn)(nn)(C)(w)
  (hT:IsL Ck (fun k=>k<C) w (D to' ct.tables.length tc) ct.tables) (hI:IsL Eb (fun k=>k<C) w (D io ct.indexes.length ic) ct.indexes) (ad:IsL Cp (fun k=>k<C) w (D o1 cols.length c1) cols) (hC:C≤w.heap.size) (_:ct.tables.length≤1000000) (ag:ct.indexes.length≤1000000) (hr:Cd (ct.indexes.map IdxD.name)):
  bB aI 57 #[aY #[D to' ct.tables.length tc,D io ct.indexes.length ic],aY (sA 2 nmv tbv clv (D o1 cols.length c1) (D o2 n2 c2) (D o3 n3 c3) (D o4 n4 c4) (D o5 n5 c5) op xk xn xs s nm8 n8 (D o6 k6 c6) (D o7 n7 c7) dn nn)] w (Sr ⟨ct.tables,Eh IdxD.name ct.indexes ⟨nmv,tbv,clv⟩⟩ C w):=by
 obtain⟨aa,B0,B1,B2,ab⟩:=al3 w (aD #[D to' ct.tables.length tc,D io ct.indexes.length ic] 62) (aD (sA 2 nmv tbv clv (D o1 cols.length c1) (D o2 n2 c2) (D o3 n3 c3) (D o4 n4 c4) (D o5 n5 c5) op xk xn xs s nm8 n8 (D o6 k6 c6) (D o7 n7 c7) dn nn) 50) (aD #[D N 0 0,D N 0 0] 62);generalize hW:((w.alloc _).alloc _).alloc _=W at aa B0 B1 B2 ab;have HW:Hid _:=hW;have ah:Hid _:=ab;clear hW ab;have a1:=Aa B0 (j:=1) (u:=D io _ ic) rfl;have b0:=Aa B1 (j:=0) (u:=Y _ 2) rfl;have b1:=Aa B1 (j:=1) (u:=U nmv) rfl;have b2:=Aa B1 (j:=2) (u:=U tbv) rfl;have b3:=Aa B1 (j:=3) (u:=U clv) rfl;have ai:=hT.keep (Ae (aa.mono hC));have aj:=hI.keep (Ae (aa.mono hC));have ak:=ad.keep (Ae (aa.mono hC));have HI:=Atk _ ⟨nmv,tbv,clv⟩ _ [U nmv,U tbv,U clv] C W aj rfl (aC hC aa.size) hr ag;rw[ah.out]at HI;clear hI ad hr ak ai;generalize Eh _ ct.indexes _=T2 at HI⊢;go_enter dI,dC;go_upto_region 1 with fail;rw[HW.out];go_wp2_with(go_fit HI;rintro e w1 ⟨v1,rfl,ae,ac⟩;obtain⟨vo,vc,rfl⟩:=ae.shape;have D0:=(ac.block _ (by omega)).trans B0;have D2:=(ac.block _ (by omega)).trans B2;have z0:=Aa D0 (j:=0) (u:=D to' _ tc) rfl;have z1:=Aa D0 (j:=1) (u:=D io _ ic) rfl;have z2:=Aa D2 (j:=0) (u:=D N 0 0) rfl;have z3:=Aa D2 (j:=1) (u:=D N 0 0) rfl;have f0:w1.frozen? ⟨w.heap.size,1,N⟩=aR:=(by simp[aF,D0]);have f2:w1.frozen? ⟨w.heap.size+2,0,N⟩=aR:=(by simp[aF,D2]);have f3:w1.frozen? ⟨w.heap.size+2,1,N⟩=aR:=(by simp[aF,D2]));refine bR (v:=aY #[D to' ct.tables.length tc,D vo T2.length vc]) (cK cY _ _ (w.heap.size+2) 62 #[D to' ct.tables.length tc,D vo T2.length vc] _ _ rfl (Z7 (Iz D2 (by omega) _ _) _ _) aT rfl (by kernel_rfl)) rfl ?_;have af:=aa.trans (ac.mono (by omega));refine⟨_,rfl,⟨_,_,rfl,?_,?_⟩,((af.setCell (show w.heap.size≤w.heap.size by omega) _).setCell (show w.heap.size≤w.heap.size+2 by omega) _).setCell (show w.heap.size≤w.heap.size+2 by omega) _⟩;rotate_left
 ·refine(ae.keep ((((Keeps.refl _ w1).set ?_ _ _).set ?_ _ _).set ?_ _ _)).mono fun k _ hk=>?_
  ·rintro(h|h)<;>omega
  ·rintro(h|h)<;>omega
  ·rintro(h|h)<;>omega
  ·rcases hk with h|h
   ·exact .inl h
   ·exact .inr (by omega)
 ·refine(hT.keep ?_).mono fun k _ hk=>.inl hk
  exact(((Ae (af.mono hC)).set (by omega) _ _).set (by omega) _ _).set (by omega) _ _
theorem A2t (ct:CatD)(cols)(to')(tc)(io)(ic)(nmv tbv clv)(o1)(c1)(o2)(n2 c2)(o3)(n3 c3)(o4)(n4 c4)(o5)(n5 c5)(op xk xn)(xs s nm8)(n8)(o6)(k6 c6)(o7)(n7 c7)(dn)(nn)(C)(w)
  (hT:IsL Ck (fun k=>k<C) w (D to' ct.tables.length tc) ct.tables) (hI:IsL Eb (fun k=>k<C) w (D io ct.indexes.length ic) ct.indexes) (af:IsL Cp (fun k=>k<C) w (D o1 cols.length c1) cols) (hC:C≤w.heap.size) (al:ct.tables.length≤1000000) (am:ct.indexes.length≤1000000):
  bB aI 57 #[aY #[D to' ct.tables.length tc,D io ct.indexes.length ic],aY (sA 3 nmv tbv clv (D o1 cols.length c1) (D o2 n2 c2) (D o3 n3 c3) (D o4 n4 c4) (D o5 n5 c5) op xk xn xs s nm8 n8 (D o6 k6 c6) (D o7 n7 c7) dn nn)] w (Sr ⟨ct.tables.filter (fun t=>!decide (t.name=nmv)),ct.indexes.filter (fun x=>!decide (x.table=nmv))⟩ C w):=by
 obtain⟨aa,B0,B1,B2,ad⟩:=al3 w (aD #[D to' ct.tables.length tc,D io ct.indexes.length ic] 62) (aD (sA 3 nmv tbv clv (D o1 cols.length c1) (D o2 n2 c2) (D o3 n3 c3) (D o4 n4 c4) (D o5 n5 c5) op xk xn xs s nm8 n8 (D o6 k6 c6) (D o7 n7 c7) dn nn) 50) (aD #[D N 0 0,D N 0 0] 62);generalize hW:((w.alloc _).alloc _).alloc _=W at aa B0 B1 B2 ad;have HW:Hid _:=hW;have ae:Hid _:=ad;clear hW ad;have a0:=Aa B0 (j:=0) (u:=D to' _ tc) rfl;have b0:=Aa B1 (j:=0) (u:=Y _ 3) rfl;have b1:=Aa B1 (j:=1) (u:=U nmv) rfl;have b2:=Aa B1 (j:=2) (u:=U tbv) rfl;have b3:=Aa B1 (j:=3) (u:=U clv) rfl;have b4:=Aa B1 (j:=4) (u:=D o1 _ c1) rfl;have an:=aC hC aa.size;have ag:=hT.keep (Ae (aa.mono hC));have ah:=hI.keep (Ae (aa.mono hC));have ap:=af.keep (Ae (aa.mono hC));have HI:=Atl _ nmv _ _ C W ag an b1 (aA B1) al;have HJ:=fun V (hV:Below (w.heap.size+3) W V) u=>Atm _ nmv _ _ C _ (ah.keep ((Ae (hV.mono (by omega))).set (b:=w.heap.size) (by omega) _ _)) (by have:=hV.size;simp[cQ];omega)
  ((cG (Iz ((hV.block _ (by omega)).trans B1) (by omega) 0 u |>.trans B1.symm)).trans b1) (by have:=hV.size;have:=ae.out;simp[cQ];omega) am
 rw[ae.out]at HI;clear hI af ap ag hT ah;generalize ct.tables.filter _=T2 at HI⊢;generalize ct.indexes.filter _=I2 at HJ⊢;go_enter dI,dC;go_upto_region 1 with fail;rw[HW.out];go_wp2_with(first
  |(go_fit HI;rintro e w1 ⟨v1,rfl,ai,ab⟩;obtain⟨vo,vc,rfl⟩:=ai.shape;have D0:=(ab.block _ (by omega)).trans B0;have D2:=(ab.block _ (by omega)).trans B2;have z0:=Aa D0 (j:=0) (u:=D to' _ tc) rfl;have z1:=Aa D0 (j:=1) (u:=D io _ ic) rfl;have f0:w1.frozen? ⟨w.heap.size,0,N⟩=aR:=(by simp[aF,D0]);have aj:=HJ w1 ab (D vo T2.length vc);have aq:(w1.setCell ⟨w.heap.size,0,N⟩ (D vo T2.length vc)).heap.size=w1.heap.size:=(by simp);rw[aq]at aj)
  |(go_fit aj;rintro e w2 ⟨v2,rfl,ak,ac⟩;obtain⟨uo,uc,rfl⟩:=ak.shape;have E0:=(ac.block _ (by grind)).trans (upd D0 0 _);have E2:=(ac.block _ (by grind)).trans (Iz D2 (by omega) 0 _);have y0:=Aa E0 (j:=0) (u:=D vo _ vc) rfl;have y1:=Aa E0 (j:=1) (u:=D io _ ic) rfl;have y2:=Aa E2 (j:=0) (u:=D N 0 0) rfl;have y3:=Aa E2 (j:=1) (u:=D N 0 0) rfl;have g0:w2.frozen? ⟨w.heap.size,1,N⟩=aR:=(by simp[aF,E0]);have g2:w2.frozen? ⟨w.heap.size+2,0,N⟩=aR:=(by simp[aF,E2]);have g3:w2.frozen? ⟨w.heap.size+2,1,N⟩=aR:=(by simp[aF,E2])))
 refine bR (v:=aY #[D vo T2.length vc,D uo I2.length uc]) (cK cY _ _ (w.heap.size+2) 62 #[D vo T2.length vc,D uo I2.length uc] _ _ rfl (Z7 (Iz E2 (by omega) _ _) _ _) aT rfl (by kernel_rfl)) rfl ?_;have ar:=ab.size;rw[ae.out]at ar;have au:Below _ w (w1.setCell ⟨w.heap.size,0,N⟩ (D vo T2.length vc)):=(aa.trans (ab.mono (by omega))).setCell (show w.heap.size≤w.heap.size by omega) _;refine⟨_,rfl,⟨_,_,rfl,?_,?_⟩,(((au.trans (ac.mono (by omega))).setCell (show w.heap.size≤w.heap.size by omega) _).setCell (show w.heap.size≤w.heap.size+2 by omega) _).setCell (show w.heap.size≤w.heap.size+2 by omega) _⟩
 ·have av:Keeps (Fx C (w.heap.size+3)) w1 w2:=((Keeps.refl _ w1).set (by rintro(h|h)<;>omega) 0 _).trans ⟨ac.size,fun k _ hl=>ac.block k (by omega)⟩;refine(ai.keep (((av.set ?_ _ _).set ?_ _ _).set ?_ _ _)).mono fun k _ hk=>?_
  ·rintro(h|h)<;>omega
  ·rintro(h|h)<;>omega
  ·rintro(h|h)<;>omega
  ·rcases hk with h|h
   ·exact .inl h
   ·exact .inr (by omega)
 ·refine(ak.keep ((((Keeps.refl _ w2).set ?_ _ _).set ?_ _ _).set ?_ _ _)).mono fun k _ hk=>?_
  ·rintro(h|h)<;>omega
  ·rintro(h|h)<;>omega
  ·rintro(h|h)<;>omega
  ·rcases hk with h|h
   ·exact .inl h
   ·exact .inr (by omega)
theorem A2u (ct)(cols)(to')(tc)(io)(ic)(kd)(nmv tbv clv)(o1)(c1)(o2)(n2 c2)(o3)(n3 c3)(o4)(n4 c4)(o5)(n5 c5)(op xk xn)(xs s nm8)(n8)(o6)(k6 c6)(o7)(n7 c7)(dn)(nn)(C)(w)
  (hT:IsL Ck (fun k=>k<C) w (D to' ct.tables.length tc) ct.tables) (hI:IsL Eb (fun k=>k<C) w (D io ct.indexes.length ic) ct.indexes) (ac:IsL Cp (fun k=>k<C) w (D o1 cols.length c1) cols) (hC:C≤w.heap.size) (_:ct.tables.length≤1000000) (_:ct.indexes.length≤1000000) (ad:¬kd=1) (ae:¬kd=2) (af:¬kd=3):
  bB aI 57 #[aY #[D to' ct.tables.length tc,D io ct.indexes.length ic],aY (sA kd nmv tbv clv (D o1 cols.length c1) (D o2 n2 c2) (D o3 n3 c3) (D o4 n4 c4) (D o5 n5 c5) op xk xn xs s nm8 n8 (D o6 k6 c6) (D o7 n7 c7) dn nn)] w (Sr ct C w):=by
 obtain⟨aa,B0,B1,B2,ab⟩:=al3 w (aD #[D to' ct.tables.length tc,D io ct.indexes.length ic] 62) (aD (sA kd nmv tbv clv (D o1 cols.length c1) (D o2 n2 c2) (D o3 n3 c3) (D o4 n4 c4) (D o5 n5 c5) op xk xn xs s nm8 n8 (D o6 k6 c6) (D o7 n7 c7) dn nn) 50) (aD #[D N 0 0,D N 0 0] 62);generalize hW:((w.alloc _).alloc _).alloc _=W at aa B0 B1 B2 ab;have HW:Hid _:=hW;clear hW ab;have a0:=Aa B0 (j:=0) (u:=D to' _ tc) rfl;have a1:=Aa B0 (j:=1) (u:=D io _ ic) rfl;have b0:=Aa B1 (j:=0) (u:=Y _ kd) rfl;have z2:=Aa B2 (j:=0) (u:=D N 0 0) rfl;have z3:=Aa B2 (j:=1) (u:=D N 0 0) rfl;have f2:W.frozen? ⟨w.heap.size+2,0,N⟩=aR:=by simp[aF,B2]
 have f3:W.frozen? ⟨w.heap.size+2,1,N⟩=aR:=by simp[aF,B2]
 go_enter dI,dC;go_upto_region 1 with fail;rw[HW.out];go_wp2;refine bR (v:=aY #[D to' ct.tables.length tc,D io ct.indexes.length ic]) (cK cY _ _ (w.heap.size+2) 62 #[D to' ct.tables.length tc,D io ct.indexes.length ic] _ _ rfl (Z7 B2 _ _) aT rfl (by kernel_rfl)) rfl ?_;refine⟨_,rfl,⟨_,_,rfl,?_,?_⟩,(aa.setCell (show w.heap.size≤w.heap.size+2 by omega) _).setCell (show w.heap.size≤w.heap.size+2 by omega) _⟩
 ·exact(hT.keep (((Ae (aa.mono hC)).set (by omega) _ _).set (by omega) _ _)).mono fun k _ hk=>.inl hk
 ·exact(hI.keep (((Ae (aa.mono hC)).set (by omega) _ _).set (by omega) _ _)).mono fun k _ hk=>.inl hk
theorem Acm (ct)(v)(st)(c)(C)(w)(ag:Hq (fun k=>k<C) w ct v)(ah:Ie.R (fun k=>k<C) w st c)(hC:C≤w.heap.size)(aa:ct.tables.length≤1000000)(ab:ct.indexes.length≤1000000)
  (ai:Cd (ct.tables.map TabD.name)) (aj:Cd (ct.indexes.map IdxD.name)):
  bB aI 57 #[v,aY c.toArray] w (Sr (A8 ct st) C w):=by
 obtain⟨tv,iv,rfl,hT,hI⟩:=ag;obtain⟨ac,tc,rfl⟩:=hT.shape;obtain⟨io,ic,rfl⟩:=hI.shape;obtain⟨o1,c1,o2,c2,o3,c3,o4,c4,o5,c5,op,xk,xn,xs,s,ak,n8,o6,k6,c6,o7,c7,rfl,i1,_⟩:=Bb ah;obtain⟨kd,ad,ae,af,cols,rows,sets,frm,out,wh,order,dn,nn⟩:=st;simp only at i1⊢;rw[cH];unfold A8
 by_cases h1:kd=1
 ·subst h1;exact A2r ct cols ac tc io ic ad ae af o1 c1 _ _ _ _ _ _ _ _ _ _ _ _ _ _ _ _ _ _ _ _ _ _ _ _ _ _ _ C w hT hI i1 hC aa ab ai
 by_cases h2:kd=2
 ·subst h2;exact A2s ct cols ac tc io ic ad ae af o1 c1 _ _ _ _ _ _ _ _ _ _ _ _ _ _ _ _ _ _ _ _ _ _ _ _ _ _ _ C w hT hI i1 hC aa ab aj
 by_cases h3:kd=3
 ·subst h3;exact A2t ct cols ac tc io ic ad ae af o1 c1 _ _ _ _ _ _ _ _ _ _ _ _ _ _ _ _ _ _ _ _ _ _ _ _ _ _ _ C w hT hI i1 hC aa ab
 ·simp only[h1,h2,h3,if_false];exact A2u ct cols ac tc io ic kd ad ae af o1 c1 _ _ _ _ _ _ _ _ _ _ _ _ _ _ _ _ _ _ _ _ _ _ _ _ _ _ _ C w hT hI i1 hC aa ab h1 h2 h3
end
section
open Go.RowKit
theorem EngC.storeCat {E}{w}{n}{c c'}{T}{a}{tv iv pv tv' iv'}{F}(h:EngC E w n c T a tv iv pv)(hE:Br E w)(hn:n∈E)(ht:IsL Ck F w tv' c'.tables)(hi:IsL Eb F w iv' c'.indexes):EngC E ((w.setCell ⟨n,0,N⟩ tv').setCell ⟨n,1,N⟩ iv') n c' T a tv' iv' pv:=by
 have hk:Keeps (fun k=>k∉E) w ((w.setCell ⟨n,0,N⟩ tv').setCell ⟨n,1,N⟩ iv'):=((Keeps.refl _ _).set (fun h=>h hn) _ _).set (fun h=>h hn) _ _;refine⟨?_,(Azp hE ht).keep hk,(Azq hE hi).keep hk,h.pages.keep hk,h.good⟩;have h2:=Dj (Dj h.blk 0 tv') 1 iv';grind
theorem Z8 {w:bD}{n g}{o}{x y}(h:w.heap[g]?=H o)(hn:g≠n):((w.setCell ⟨n,0,N⟩ x).setCell ⟨n,1,N⟩ y).heap[g]?=H o:=
 ((bI _ ⟨n,1,N⟩ _ _ hn).trans (bI _ ⟨n,0,N⟩ _ _ hn)).trans h
theorem Ajq {E}{n}{c}{T}{a}{to' io po}{tc ic pc}{w}(hE:Br E w)(hn:n∈E)(he:EngC E w n c T a (D to' c.tables.length tc) (D io c.indexes.length ic) (D po T.length pc))(ad:Dv c=aZ)(st)(cs)(hR:Ie.R (fun k=>k<w.heap.size) w st cs):
  bB aI 36 #[aV (H ⟨n,0,N⟩),aY cs.toArray] w fun e w'=>e=aK (dK #[])∧∃ak al am an,EngC E w' n (A8 c st) T a (D ak (A8 c st).tables.length al) (D am (A8 c st).indexes.length an) (D po T.length pc)∧But n w w':=by
 obtain⟨o1,c1,o2,c2,o3,c3,o4,c4,o5,c5,op,xk,xn,xs,s,ae,n8,o6,k6,c6,o7,c7,rfl,i1,i2,i3,i4,i5,i6,i7⟩:=Bb hR;have ag:=fun W h=>Acm c _ st _ _ W ⟨_,_,rfl,(he.tabs.mono fun k hk _=>hk).keep (Ae h),(he.idxs.mono fun k hk _=>hk).keep (Ae h)⟩ (Ie.keep (Ae h) hR) h.size (by have:=((Cw c).1 ad).1;omega) (by have:=((Cw c).1 ad).2.1;omega) ((Cw c).1 ad).2.2.2.1 ((Cw c).1 ad).2.2.2.2.2
 obtain⟨aa,bS,-⟩:=al1 w (aD (sA st.kind st.name st.table st.col (D o1 st.cols.length c1) (D o2 st.rows.length c2) (D o3 st.sets.length c3) (D o4 st.frm.length c4) (D o5 st.out.length c5) op xk xn xs s ae n8 (D o6 k6 c6) (D o7 st.order.length c7) st.down st.n) 50);have af:=he.below aa;have ah:=hE.below aa;generalize hW:w.alloc _=W1 at aa bS af ah;have HW:Hid _:=hW;have ap:Hid _:=ah;replace ag:=fun W h=>ag W (Ac aa h)
 have q0:=Aa af.blk (j:=0) rfl;have q1:=Aa af.blk (j:=1) rfl;clear hW hE ah hR i1 i2 i3 i4 i5 i6 i7;go_enter Tryz.func36,Tryz.ntmps36;go_upto_region 1 with fail;rw[HW.out];refine cP (S:=(fun W=>W.heap[w.heap.size]?=H (aD (sA st.kind st.name st.table st.col (D o1 st.cols.length c1) (D o2 st.rows.length c2) (D o3 st.sets.length c3) (D o4 st.frm.length c4) (D o5 st.out.length c5) op xk xn xs s ae n8 (D o6 k6 c6) (D o7 st.order.length c7) st.down st.n) 50))) (by rfl) ?_ (fun hHeld=>?_)
 ·assumption
 refine tk 0 ?_;refine tk 1 ?_;refine tk 2 ?_;refine tk 3 ?_;refine wpAnyH_take (i:=5) (v:=aY (sA st.kind st.name st.table st.col (D o1 st.cols.length c1) (D o2 st.rows.length c2) (D o3 st.sets.length c3) (D o4 st.frm.length c4) (D o5 st.out.length c5) op xk xn xs s ae n8 (D o6 k6 c6) (D o7 st.order.length c7) st.down st.n)) rfl (by kernel_rfl) (by kernel_rfl) (by kernel_rfl) (fun _ _ _ h=>h) (Iw rfl 50 _ rfl w.heap.size rfl (sA st.kind st.name st.table st.col (D o1 st.cols.length c1) (D o2 st.rows.length c2) (D o3 st.sets.length c3) (D o4 st.frm.length c4) (D o5 st.out.length c5) op xk xn xs s ae n8 (D o6 k6 c6) (D o7 st.order.length c7) st.down st.n) 50 _ (fun _ h=>h) aQ rfl D4) (by assumption) ?_;refine Bi 4 (fun K hK=>?_);go_simp;go_wp2_with fail;refine hK.out _ _ ?_ (fun hHeld=>?_)
 ·omega
 clear hK K;refine Bi 6 (fun K hK=>?_);go_simp
 (refine(ag _ (aE _ _).drew).mono ?_;rintro e w4 ⟨v4,rfl,⟨ax,ay,rfl,ai,aj⟩,aq⟩;obtain⟨ar,au,rfl⟩:=ai.shape;obtain⟨av,aw,rfl⟩:=aj.shape;have ab:=Ac (aE _ _).drew aq;have ac:=af.below ab;have q4:=Aa ac.blk (j:=0) rfl;have q5:=Aa ac.blk (j:=1) rfl;have z4:w4.frozen? ⟨n,0,N⟩=aR:=(by simp only[aF,ac.blk];rfl);have z5:w4.frozen? ⟨n,1,N⟩=aR:=(by simp only[aF,ac.blk];rfl))
 go_wp2_with fail;refine hK.out _ _ ?_ (fun hHeld=>?_)
 ·exact(ab.block _ (aA bS)).trans bS
 clear hK K;refine tk 7 ?_;refine tk 8 ?_;refine Bi 9 (fun K hK=>?_);go_simp;go_wp2_with fail;refine hK.out _ _ ?_ (fun hHeld=>?_)
 ·exact Z8 ((ab.block _ (aA bS)).trans bS) ((dE he.lt).symm)
 clear hK K;refine cU (by kernel_rfl) ?_ _;go_wp2_with fail
 go_end0
 exact⟨rfl,ar,au,av,aw,ac.storeCat (Br.below ap.out ab) hn ai aj,(But.of_below (Ac aa ab)).set _ _ |>.set _ _⟩
end
end Go.Proofs.YtocegbpmmiabmaaGreatDoor

/-
  18 texts of this proof in one,in build order:SScript,SScript3,GParse,GAll0,GAll,GDo0,GDo,GClones,GCat,GTree,UFlat,UCat,USame,ULive0,ULive,UPlay,URefused,UActs.
-/
import Derived.Deep.QuietTactic
import Derived.BigQuiet
import Derived.Test.YtocegbpmmiabmaaGreatDoorJ01
import Derived.Test.YtocegbpmmiabmaaGreatDoorJ02
import Derived.Test.YtocegbpmmiabmaaGreatDoorJ03
import Derived.Test.YtocegbpmmiabmaaGreatDoorJ07
set_option linter.unusedSimpArgs false
set_option linter.unusedVariables false
set_option maxRecDepth 100000
set_option maxHeartbeats 0
open Go.Value renaming agg→bE,bool→bJ,int→H,oneCell'→bD,ownBlock→aV,pointer→bH,slice→D,string→X
open Go.IntKind renaming i64→J
open Go.Proofs.Tryz renaming prog→aL,results10→aR,results17→aW,underlying32→aA,underlying40→cR,underlying43→bM,underlying50→cQ,underlying63→cP,underlying67→cO
open Option renaming none→O,some→Q
open Go renaming Calls→bG,Value→bF,World→bK,below_drewN→bO,bodyPost_ret→aJ,info_parts→cH,lt_of_block→aC,maxLen→bI,results_cell_row→aE,wpList_append_own_at→aT,wpList_load_row→aN,wpList_store_row→aB
open Go.Obj renaming cells→aD
open Nat renaming le_of_lt→cC,le_refl→aF,le_trans→aK,lt_of_lt_of_le→aZ,sub_self→cL,zero_le→aO
open List renaming append_assoc→cT,append_nil→cV,drop_length→cG,eq_nil_of_length_eq_zero→aM,forall_mem_cons→bV,getElem?_append_right→aX,getElem?_eq_getElem→aH,getElem?_eq_some_iff→aY,length_append→aG,length_cons→aI,length_take→cF,mem_append→cU,mem_cons→cA,mem_cons_of_mem→cM,mem_of_getElem?→aS,mem_singleton→cB,not_mem_nil→cE,set_append_right→bS,size_toArray→cS,take_add_one→bN,take_length→cD
open Go.Ending renaming returned→aP
open Go.RowKit.Below renaming refl→aQ
open Bool renaming false→cN,true→aU
open Go.World renaming frozen?→bW,ownsRow_made→bY,ownsRow_nil→bC
open Go.Proofs renaming intOf→bL
open Go.Lib renaming run_eql_slice_nil→bU
open Option.some renaming injEq→cI
open Array renaming getElem?_modify→cJ
open Go.Addr renaming add_lit→cK
namespace Go.Proofs.YtocegbpmmiabmaaGreatDoor
section
open Go.RowKit
theorem Axt {F}{w}{s}{c}(h:Ie.R F w s c):∃kd nm tb cl a1 k1 c1 a2 k2 c2 a3 k3 c3 a4 k4 c4 a5 k5 c5 op xk xn xs sx nx n8 a6 k6 c6 a7 k7 c7 dn nn,c=[H J kd,X nm,X tb,X cl,D a1 k1 c1,D a2 k2 c2,D a3 k3 c3,D a4 k4 c4,D a5 k5 c5,H J op,H J xk,H J xn,X xs,X sx,X nx,H J n8,D a6 k6 c6,D a7 k7 c7,bJ dn,H J nn]:=by
 obtain⟨cols,rows,sets,frm,out,w8,order,rfl,h8,h1,h2,h3,h4,h5,h6,h7⟩:=h.is;obtain⟨op,xk,xn,xs,sx,nx,n8,a6,k6,c6,rfl⟩:=Fl ⟨h8,h6⟩;obtain⟨a1,c1,rfl⟩:=h1.shape;obtain⟨a2,c2,rfl⟩:=h2.shape;obtain⟨a3,c3,rfl⟩:=h3.shape;obtain⟨a4,c4,rfl⟩:=h4.shape;obtain⟨a5,c5,rfl⟩:=h5.shape;obtain⟨a7,c7,rfl⟩:=h7.shape;exact⟨_,_,_,_,a1,_,c1,a2,_,c2,a3,_,c3,a4,_,c4,a5,_,c5,op,xk,xn,xs,sx,nx,n8,a6,k6,c6,a7,_,c7,_,s.n,rfl⟩
theorem Ap4 {f}{acc}{x}{l}(hf:Bg (Q (x::l))≤f):
  ∃f',f'<f∧Ej f acc (Q (x::l))=Ej f' (acc++[(C5 (Q (x::l))).1]) (Cg Oa (C5 (Q (x::l))).2)∧Bg (Cg Oa (C5 (Q (x::l))).2)≤f'∧Bg (Cg Oa (C5 (Q (x::l))).2)+1≤Bg (Q (x::l)):=by
 have h1:=Ajc.shrinks (Q (x::l));have h2:=Alj Oa (C5 (Q (x::l))).2;have h3:1≤Bg (Q (x::l)):=by simp[Bg]
 cases f with
 |zero=>omega
 |succ f=>exact⟨f,by omega,rfl,by omega,by omega⟩
theorem A0t:(Tryz.prog.info? 50).map (fun i=>(i.zero,i.size,i.bytes))=Q (Q (bE Bn),20,320):=by kernel_rfl
theorem Anj (a:Nat)(s:St)(w:bK)(h:Rd w a s 0)(he:Env w)(ha:8≤a):
  bG aL 24 #[bH (Q ⟨a,0,O⟩)] w fun e w'=>∃sv ok,e=aP (.tuple #[sv,bJ ok])∧IsL Ie (Fr w.heap.size) w' sv (Ej (Bg s) [] s).1∧(ok=aU↔(Ej (Bg s) [] s).2=Q [])∧But a w w':=by
 obtain⟨i0,hi,ax,ay,az⟩:=cH A0t;have ag:=h.lt;have bk:=h.len;generalize hR:Ej (Bg s) [] s=R;have HR:Hid _:=hR;clear hR;go_enter Tryz.func24,Tryz.ntmps24;go_wp2_with fail
 go_loopg[4] (Bg s) (fun f z wr=>∃acc cs σ,wr.ownsRow w.heap.size 50 20 z acc.length cs∧All Ie (FO w.heap.size z) wr acc cs∧Rd wr a σ 0∧Hid (R=Ej f acc σ∧Bg σ≤f)∧acc.length+Bg σ≤1600∧But a w wr)
 case atStart=>exact⟨[],[],s,bC _ _ _ _,rfl,h,⟨HR.out.symm,aF _⟩,by simp;omega,But.refl _ _⟩
 case round=>
  clear HR;obtain⟨acc,cs,σ,ah,al,am,HF,bl,ab⟩:=hrel;have an:Hid _:=al;clear al;have ba:Hid _:=am;obtain⟨x,r,b,hc,ac⟩:=am;obtain⟨d0,d1,d2,d3⟩:=hc.cells
  by_cases hx:x.size=0
  ·have bb:x.toList.isEmpty=aU:=by rw[Pn hx,Lib.toList_data];rfl
   have ai:Hid (R=(acc,σ)∧(b=cN↔σ=Q [])):=by
    rcases ac.empty hx with⟨rfl,rfl⟩|⟨rfl,rfl⟩
    ·exact⟨HF.out.1.trans A3y.1,by simp⟩
    ·exact⟨HF.out.1.trans A3y.2,by simp⟩
   clear HF ac hx;go_wp2_with fail;go_quiet(fail);go_wp2_with fail;go_ret2;refine⟨_,_,rfl,?_,?_,ab.trans (.of_below (bO (aQ _ _) _))⟩
   ·rw[ai.out.1];have g:IsL Ie (Fr w.heap.size) wr u4 acc:=⟨cs,Bq.of_own ah (fun k hk=>hk),All.mono (F:=FO w.heap.size u4) (fun k _ hk=>hk.1) an.out⟩;exact g.keep (Ai (bO (aQ _ _) _))
   ·rw[ai.out.1,←ai.out.2];cases b<;>simp
  ·have bb:x.toList.isEmpty=cN:=by rw[Lib.toList_data,J4 x (by omega)];rfl
   obtain⟨hσ,_,_,_⟩:=ac.at (by omega);obtain⟨f',bm,aa⟩:∃f',f'<gk∧Hid (R=Ej f' (acc++[(C5 σ).1]) (Cg Oa (C5 σ).2)∧Bg (Cg Oa (C5 σ).2)≤f'∧Bg (Cg Oa (C5 σ).2)+1≤Bg σ):=by
    have h2:=HF.out.2;have h1:=HF.out.1;rw[hσ]at h1 h2⊢;obtain⟨f',g1,g2,g3,g4⟩:=Ap4 (acc:=acc) h2;grind
   clear HF ac hσ hx;have CM:=Ap3 a σ wr ba.out (he.but ab ha) ha;generalize C5 σ=q at CM aa;obtain⟨st,s2⟩:=q;simp only at CM aa;have WF:=fun v h1=>Fh a Oa s2 0 v h1 (by decide)
   generalize Cg Oa s2=s3 at WF aa;have bc:Hid _:=aa.out.2.2;go_wp2_with(first
    |(go_fit CM;rintro e w3 ⟨c3,rfl,aj,bd,ad⟩;obtain⟨kd,nm,tb,cl,a1,k1,c1,a2,k2,c2,a3,k3,c3,a4,k4,c4,a5,k5,c5,op,xk,xn,xs,sx,nx,n8,a6,k6,c6,a7,k7,c7,dn,nn,rfl⟩:=Axt aj;simp only[I7];have ae:=(U5 ah ad ag).alloc (aD [H J kd,X nm,X tb,X cl,D a1 k1 c1,D a2 k2 c2,D a3 k3 c3,D a4 k4 c4,D a5 k5 c5,H J op,H J xk,H J xn,X xs,X sx,X nx,H J n8,D a6 k6 c6,D a7 k7 c7,bJ dn,H J nn].toArray 50);have ap:=Cb w3 [H J kd,X nm,X tb,X cl,D a1 k1 c1,D a2 k2 c2,D a3 k3 c3,D a4 k4 c4,D a5 k5 c5,H J op,H J xk,H J xn,X xs,X sx,X nx,H J n8,D a6 k6 c6,D a7 k7 c7,bJ dn,H J nn] 50;have aq:w.heap.size≤(w3.alloc (aD [H J kd,X nm,X tb,X cl,D a1 k1 c1,D a2 k2 c2,D a3 k3 c3,D a4 k4 c4,D a5 k5 c5,H J op,H J xk,H J xn,X xs,X sx,X nx,H J n8,D a6 k6 c6,D a7 k7 c7,bJ dn,H J nn].toArray 50)).heap.size:=aK (ab.trans ad).size (by simp))
    |(at_builtin;go_must(refine aT _ rfl _ _ 37 rfl _ 50 i0 _ 20 320 Tryz.underlying37 hi ax ay az rfl (by simp) _ _ _ rfl ae _ 1 1 _ rfl rfl ap ?h1 (by simp only[bI];omega) (by omega) aq ?h2)))
   case h1=>simp only[bV];repeat(first|exact fun _ h=>absurd h cE|refine⟨rfl,?_⟩)
   case h2=>
    intro z2 w4 ar af _ be;have au:Below _ w3 (w3.alloc (aD [H J kd,X nm,X tb,X cl,D a1 k1 c1,D a2 k2 c2,D a3 k3 c3,D a4 k4 c4,D a5 k5 c5,H J op,H J xk,H J xn,X xs,X sx,X nx,H J n8,D a6 k6 c6,D a7 k7 c7,bJ dn,H J nn].toArray 50)):=(aQ _ _).alloc (aF _) _;have bf:=Rd.grown ae af (bd.below au) ag;have bg:=Air ae af ((ab.trans ad).alloc _) (aF _);have av:Hid (All Ie (FO w.heap.size z2) w4 (acc++[st]) (cs++[H J kd,X nm,X tb,X cl,D a1 k1 c1,D a2 k2 c2,D a3 k3 c3,D a4 k4 c4,D a5 k5 c5,H J op,H J xk,H J xn,X xs,X sx,X nx,H J n8,D a6 k6 c6,D a7 k7 c7,bJ dn,H J nn])):=by
     have bh:¬FO w.heap.size u4 a:=by intro hf;have:=hf.1;omega
     have g1:All Ie (FO w.heap.size u4) (w3.alloc (aD [H J kd,X nm,X tb,X cl,D a1 k1 c1,D a2 k2 c2,D a3 k3 c3,D a4 k4 c4,D a5 k5 c5,H J op,H J xk,H J xn,X xs,X sx,X nx,H J n8,D a6 k6 c6,D a7 k7 c7,bJ dn,H J nn].toArray 50)) acc cs:=All.keep ((ad.keeps bh).alloc _) an.out;have bi:z2.ownBlock=u4.ownBlock∨z2.ownBlock=Q (w3.alloc (aD [H J kd,X nm,X tb,X cl,D a1 k1 c1,D a2 k2 c2,D a3 k3 c3,D a4 k4 c4,D a5 k5 c5,H J op,H J xk,H J xn,X xs,X sx,X nx,H J n8,D a6 k6 c6,D a7 k7 c7,bJ dn,H J nn].toArray 50)).heap.size:=by rw[World.size_alloc];exact be
     have bn:∀k,Q k=u4.ownBlock→k<wr.heap.size:=fun k e=>(ah.lt k e.symm).2
     have g2:All Ie (FO w.heap.size u4) (w3.alloc (aD [H J kd,X nm,X tb,X cl,D a1 k1 c1,D a2 k2 c2,D a3 k3 c3,D a4 k4 c4,D a5 k5 c5,H J op,H J xk,H J xn,X xs,X sx,X nx,H J n8,D a6 k6 c6,D a7 k7 c7,bJ dn,H J nn].toArray 50)) [st] [H J kd,X nm,X tb,X cl,D a1 k1 c1,D a2 k2 c2,D a3 k3 c3,D a4 k4 c4,D a5 k5 c5,H J op,H J xk,H J xn,X xs,X sx,X nx,H J n8,D a6 k6 c6,D a7 k7 c7,bJ dn,H J nn]:=All.keep (Ai au) (All.one (Ie.mono (fun k _ hf=>⟨by have:wr.heap.size≤k:=hf;have:=ab.size;omega,fun e=>by grind⟩) aj));exact All.mono (fun k hk hf=>⟨hf.1,hf.2.2⟩) (All.keep (F:=fun k=>w.heap.size≤k∧Q k≠u4.ownBlock∧Q k≠z2.ownBlock) ⟨af.size,fun k hk hl=>af.block k hl hk.2.1⟩ (All.mono (fun k hk hf=>⟨hf.1,hf.2,(Uj bi k hk hf).2⟩) (g1.append g2)))
    have aw:w4.ownsRow w.heap.size 50 20 z2 (acc++[st]).length (cs++[H J kd,X nm,X tb,X cl,D a1 k1 c1,D a2 k2 c2,D a3 k3 c3,D a4 k4 c4,D a5 k5 c5,H J op,H J xk,H J xn,X xs,X sx,X nx,H J n8,D a6 k6 c6,D a7 k7 c7,bJ dn,H J nn]):=by rw[aG];exact ar
    have bo:(acc++[st]).length=acc.length+1:=by simp
    clear ar ap aq ae aj CM;generalize cs++[H _ kd,X nm,X tb,X cl,D a1 k1 c1,D a2 k2 c2,D a3 k3 c3,D a4 k4 c4,D a5 k5 c5,H _ op,H _ xk,H _ xn,X xs,X sx,X nx,H _ n8,D a6 k6 c6,D a7 k7 c7,bJ dn,H _ nn]=cs2 at aw av;go_wp2_with(go_fit(WF w4 bf _ rfl);rintro e w5 ⟨rfl,bj,ak⟩)
    go_roundg f'
    case measure=>omega
    case rel=>
     refine⟨_,cs2,s3,U5 aw ak ag,All.keep (ak.keeps (by omega)) av.out,bj,⟨aa.out.1,aa.out.2.1⟩,?_,bg.trans ak⟩;have:=bc.out;omega
def A1 (t:List UInt8):List Stm×Int:=
 if 1500<t.length then([],2)else match Ej (Bg (adv (Ig t))) [] (adv (Ig t))with
  |(l,Q [])=>if 6<l.length then([],2)else(l,0)
  |_=>([],1)
theorem Afa (t)(w)(he:Env w):
  bG aL 13 #[.string t] w fun e w'=>∃sv,e=.returned (.tuple #[sv,.int .i64 (A1 t.data.toList).2])∧IsL Ie (Fr w.heap.size) w' sv (A1 t.data.toList).1∧Below w.heap.size w w':=by
 by_cases hl:1500<t.size
 ·have e:A1 t.data.toList=([],2):=by rw[A1,if_pos (by simp_all)]
  rw[e];have h1:(1500:Int)<t.size:=by omega
  go_enter Tryz.func13,Tryz.ntmps13;go_wp2_with fail;go_ret2;exact⟨_,rfl,IsL.nil _ _ _,aQ _ _⟩
 ·have e:A1 t.data.toList=match Ej (Bg (adv (Ig t.data.toList))) [] (adv (Ig t.data.toList))with
    |(l,Q [])=>if 6<l.length then([],2)else(l,0)
    |_=>([],1):=by rw[A1,if_neg (by simp_all)]
  have h1:¬(1500:Int)<t.size:=by omega
  have NR:=Ajw t w (by omega);generalize adv _=s at NR e;have CF:=fun a v hr e1 ha=>Anj a s v hr e1 ha
  generalize Ej _ [] s=R at CF e;obtain⟨l,sf⟩:=R;simp only at CF;have HE:Hid ((sf=Q []→A1 t.data.toList=if 6<l.length then([],2)else(l,0))∧(sf≠Q []→A1 t.data.toList=([],1))):=by
   constructor
   ·grind
   ·grind
  generalize A1 _=A at HE⊢;clear e;go_enter Tryz.func13,Tryz.ntmps13;go_wp2_with(go_fit NR;rintro e w1 ⟨a,rfl,ha,af,aa⟩);have ah:=he.low;go_fit(CF a w1 af (he.next aa) (by omega));rintro e w2 ⟨sv,ok,rfl,hL,ad,ag⟩;have ab:=aa.trans (ag.below ha aa.size);have ac:IsL Ie (Fr w.heap.size) w2 sv l:=hL.mono (fun k _ hk=>by have h1:w1.heap.size≤k:=hk;have:=aa.size;omega);obtain⟨ao,cp,rfl⟩:=ac.shape;have ae:Hid _:=ad;have HL:Hid _:=ac;clear ad hL ac;cases ok
  ·have hA:=HE.out.2 (fun h=>by have:=ae.out.2 h;grind);subst hA;go_wp2_with fail;go_ret2;exact⟨_,rfl,IsL.nil _ _ _,ab⟩
  ·have hA:=HE.out.1 (ae.out.1 rfl)
   by_cases h6:6<l.length
   ·rw[if_pos h6]at hA;subst hA;have g6:(6:Int)<l.length:=by omega
    go_wp2_with fail;go_ret2;exact⟨_,rfl,IsL.nil _ _ _,ab⟩
   ·rw[if_neg h6]at hA;subst hA;have g6:¬(6:Int)<l.length:=by omega
    go_wp2_with fail;go_ret2;exact⟨_,rfl,HL.out,ab⟩
mutual
theorem Axu:∀{e:E},Df e→Ek e
 |.mk _ x s name _ l,h=>by
  rw[Df]at h;rw[Ek];exact⟨h.1,Are h.2.2.2⟩
theorem Are:∀{l:List E},Ec l→Qj l
 |[],_=>by assumption
 |e::l,h=>by
  rw[Ec]at h;rw[Qj];exact⟨Axu h.1,Are h.2⟩
end
def Sm (l:List Wd)(e:E):Prop:=e.nodes≤l.length∧Df e
theorem By:noW.size≤bI:=aO _
theorem At4 {v}(h:good v=aU):v.s.size≤bI:=by
 have h8:v.s.size≤8:=by
  unfold good at h;split at h
  ·grind
  ·grind
 exact aK h8 (by simp[bI])
theorem Afb {w}{l}{v}(h:v.s.size≤bI):Sm (w::l) (Lx v):=by
 refine⟨by simp[Lx,E.nodes,Ev],?_⟩;rw[Lx,Df,Ec];exact⟨h,By,By,trivial⟩
theorem Axv {w}{l}{a b}(h1:a.size≤bI)(h2:b.size≤bI):Sm (w::l) (Tq a b):=by
 refine⟨by simp[Tq,E.nodes,Ev],?_⟩;rw[Tq,Df,Ec];exact⟨Fn,h1,h2,trivial⟩
theorem Tn {k}{l}(h:Ec l):Df (Hj k l):=by
 rw[Hj,Df];exact⟨Fn,By,By,h⟩
theorem Ait {a b}(h:Df a)(h2:Df b):Ec [a,b]:=by rw[Ec,Ec,Ec];grind
theorem Aiu {a}(h:Df a):Ec [a]:=by rw[Ec,Ec];grind
theorem A25 {sub}(hs:∀l e,sub l e→Sm l e){l}{e}(h:Atom sub l e):Sm l e:=by
 cases h with
 |null=>exact Afb Fn
 |num h=>exact Afb By
 |neg h=>exact Afb By
 |text h1 h2=>exact Afb (At4 h2)
 |ref h=>exact Axv By (Dg h)
 |dot h1 h2=>exact Axv (Dg h1) (Dg h2)
 |br h=>
  have:=hs _ _ h;exact⟨by simp only[aI,aG];have:=this.1;omega,this.2⟩
theorem Aiv (k)(a b):(Hj k [a,b]).nodes=a.nodes+b.nodes+1:=by rfl
theorem Aiw (k)(a):(Hj k [a]).nodes=a.nodes+1:=by rfl
theorem Acp {P}{ops}(hs:∀l e,P l e→Sm l e){l}{e}(h:Chain P ops l e):Sm l e:=by
 induction h with
 |one h=>grind
 |more h1 h2 h3 ih=>
  have h4:=hs _ _ h3;refine⟨?_,Tn (Ait ih.2 h4.2)⟩;rw[Aiv,aG,aI];have:=ih.1;have:=h4.1;omega
theorem A26 {S T}(hs:∀l e,S l e→Sm l e)(ht:∀l e,T l e→Sm l e){l}{e}(h:Test S T l e):Sm l e:=by
 cases h with
 |neg h=>
  have h4:=ht _ _ h;refine⟨?_,Tn (Aiu h4.2)⟩;rw[Aiw,aI];have:=h4.1;omega
 |sum h=>grind
 |is h=>
  have h4:=hs _ _ h;refine⟨?_,Tn (Aiu h4.2)⟩;rw[Aiw,aG];have:=h4.1;grind
 |cmp h1 h2 h3=>
  have h4:=hs _ _ h1;have h5:=hs _ _ h3;refine⟨?_,Tn (Ait h4.2 h5.2)⟩;rw[Aiv,aG,aI];have:=h4.1;have:=h5.1;omega
theorem Arf {sub T}(hs:∀l e,sub l e→Sm l e)(ht:∀l e,T l e→Sm l e):(∀l e,Aj7 sub T l e→Sm l e)∧∀l e,Tc sub T l e→Sm l e:=by
 have h1:∀l e,Tc sub T l e→Sm l e:=fun l e h=>A26 (fun l e h=>Acp (fun l e h=>A25 hs h) h) ht h
 exact⟨fun l e h=>Acp (fun l e h=>Acp h1 h) h,h1⟩
theorem Ank:∀d,(∀l e,(Kq d).1 l e→Sm l e)∧∀l e,(Kq d).2 l e→Sm l e
 |0=>Arf (fun _ _ h=>h.elim) (fun _ _ h=>h.elim)
 |d+1=>Arf (Ank d).1 (Ank d).2
theorem Mz {l}{e}(h:Td l e):Sm l e:=(Ank 5).1 l e h
theorem Sm.fit {l}{e}(h:Sm l e)(hl:l.length≤16777216):Fk e:=⟨aK h.1 hl,Axu h.2⟩
theorem Ns {α}{P}{l}{bs:List α}(h:ListG P l bs):bs.length≤l.length+1∧bs≠[]∧∀a∈bs,∃m,P m a∧m.length≤l.length:=by
 induction h with
 |one h=>grind
 |more h1 h2 ih=>
  grind
theorem To:∀{l:List E},(∀e∈l,Df e)→Ec l
 |[],_=>by rw[Ec];simp
 |e::l,h=>by rw[Ec];exact⟨h e (by simp),To fun x hx=>h x (by grind)⟩
theorem Axw:Fk E.nil∧Df E.nil:=by
 refine⟨⟨by simp[E.nil,E.nodes,Ev],?_⟩,?_⟩
 ·rw[E.nil,Ek,Qj];exact⟨Fn,trivial⟩
 ·rw[E.nil,Df,Ec];exact⟨Fn,By,By,trivial⟩
theorem Wu {l}{e}(h:Yh l e)(hl:l.length≤1000000):Fk e∧Df e:=by
 rcases h with⟨_,rfl⟩|⟨m,rfl,h⟩
 ·exact Axw
 ·have:=Mz h;exact⟨this.fit (by grind),this.2⟩
theorem Aix {l}{es}(h:ListG Td l es)(hl:l.length≤999999):es.length≤1000000∧(∀e∈es,Fk e)∧(∀e∈es,Df e):=by
 obtain⟨h1,_,h3⟩:=Ns h;refine⟨by omega,fun e he=>?_,fun e he=>?_⟩
 ·obtain⟨m,hm,aa⟩:=h3 e he;exact(Mz hm).fit (by omega)
 ·obtain⟨m,hm,aa⟩:=h3 e he;exact(Mz hm).2
theorem A0u {l:List Wd}{st:Stm}(h:StmG l st)(hl:l.length≤100000):FitC st:=by
 obtain⟨n1,n2⟩:=Axw;have f0:Ec ([]:List E):=by rw[Ec];trivial
 cases h with
 |@table n cs l h1 h2=>
  obtain⟨a1,a2,a3⟩:=Ns h2;have ab:∀x,x∈cs→x.name.size≤bI:=fun x hx=>by
   obtain⟨m,hm,_⟩:=a3 x hx;exact Dg hm.1
  exact⟨⟨⟨by simp[Aj],by simp[Aj],f0,f0,n2,Dg h1,By,By,ab,by simp[Aj]⟩,Dg h1,ab,by simp[Aj],by simp[Aj],by simp[Aj],by simp[Aj],by simp[Aj],by simp[Aj],by simp[Aj]⟩,by simp[Aj],by simp[Aj],by simp[Aj],by simp[Aj],by simp[Aj],n1⟩
 |index h1 h2 h3=>
  exact⟨⟨⟨by simp[Aj],by simp[Aj],f0,f0,n2,Dg h1,Dg h2,Dg h3,fun x hx=>by simp[Aj]at hx,by simp[Aj]⟩,Dg h1,fun x hx=>by simp[Aj]at hx,by simp[Aj],by simp[Aj],by simp[Aj],by simp[Aj],by simp[Aj],by simp[Aj],by simp[Aj]⟩,by simp[Aj],by simp[Aj],by simp[Aj],by simp[Aj],by simp[Aj],n1⟩
 |drop h1=>
  exact⟨⟨⟨by simp[Aj],by simp[Aj],f0,f0,n2,Dg h1,By,By,fun x hx=>by simp[Aj]at hx,by simp[Aj]⟩,Dg h1,fun x hx=>by simp[Aj]at hx,by simp[Aj],by simp[Aj],by simp[Aj],by simp[Aj],by simp[Aj],by simp[Aj],by simp[Aj]⟩,by simp[Aj],by simp[Aj],by simp[Aj],by simp[Aj],by simp[Aj],n1⟩
 |@insert t l rs h1 h2=>
  obtain⟨a1,a2,a3⟩:=Ns h2;simp only[aI]at hl;have hr:∀r∈rs,(r.length≤1000000∧(∀e∈r,Fk e)∧∀e∈r,Df e)∧r≠[]:=fun r hr=>by
   obtain⟨m,⟨m',rfl,hm⟩,aa⟩:=a3 r hr;simp only[aI,aG]at aa;exact⟨Aix hm (by omega),(Ns hm).2.1⟩
  exact⟨⟨⟨fun r h=>To (hr r h).1.2.2,by simp[Aj],f0,f0,n2,By,Dg h1,By,fun x hx=>by simp[Aj]at hx,by simp[Aj]⟩,By,fun x hx=>by simp[Aj]at hx,by grind,fun r h=>aK (hr r h).1.1 (by omega),by simp[Aj],by simp[Aj],by simp[Aj],by simp[Aj],by simp[Aj]⟩,by grind,fun r h=>⟨(hr r h).2,(hr r h).1.2.1⟩,by simp[Aj],by simp[Aj],by simp[Aj],n1⟩
 |@delete t w e h1 h2=>
  simp only[aI]at hl;obtain⟨b1,b2⟩:=Wu h2 (by omega);exact⟨⟨⟨by simp[Aj],by simp[Aj],f0,f0,b2,By,Dg h1,By,fun x hx=>by simp[Aj]at hx,by simp[Aj]⟩,By,fun x hx=>by simp[Aj]at hx,by simp[Aj],by simp[Aj],by simp[Aj],by simp[Aj],by simp[Aj],by simp[Aj],by simp[Aj]⟩,by simp[Aj],by simp[Aj],by simp[Aj],by simp[Aj],by simp[Aj],b1⟩
 |@update t l ss w e h1 h2 h3=>
  simp only[aI,aG]at hl;obtain⟨b1,b2⟩:=Wu h3 (by omega);obtain⟨a1,a2,a3⟩:=Ns h2;have hr:∀p∈ss,p.1.size≤bI∧Fk p.2∧Df p.2:=fun p hp=>by
   obtain⟨m,⟨hn,m',rfl,hm⟩,aa⟩:=a3 p hp;simp only[aI]at aa;exact⟨Dg hn,(Mz hm).fit (by omega),(Mz hm).2⟩
  exact⟨⟨⟨by simp[Aj],fun p hp=>⟨(hr p hp).2.2,(hr p hp).1⟩,f0,f0,b2,By,Dg h1,By,fun x hx=>by simp[Aj]at hx,by simp[Aj]⟩,By,fun x hx=>by simp[Aj]at hx,by simp[Aj],by simp[Aj],by grind,fun p hp=>(hr p hp).1,by simp[Aj],by simp[Aj],by simp[Aj]⟩,by simp[Aj],by simp[Aj],fun p hp=>(hr p hp).2.1,by simp[Aj],by simp[Aj],b1⟩
 |@select o os f fs w e r es m n h1 h2 h3 h4 h5=>
  simp only[aI,aG]at hl;obtain⟨b1,b2⟩:=Wu h3 (by omega);have ac:∀s∈fs,s.size≤bI:=fun s hs=>by
   obtain⟨m,hm,_⟩:=(Ns h2).2.2 s hs;exact Dg hm.1
  have ho:os.length≤1000000∧(∀e∈os,Fk e)∧∀e∈os,Df e:=by
   rcases h1 with⟨_,rfl⟩|h1
   ·simp
   ·exact Aix h1 (by omega)
  have hr:es.1.length≤1000000∧(∀e∈es.1,Fk e)∧∀e∈es.1,Df e:=by
   rcases h4 with⟨_,rfl⟩|⟨m',e',hm,h6,rfl⟩
   ·simp
   ·simp only[aI,aG]at hl;rw[h6];refine⟨by simp,fun x hx=>?_,fun x hx=>?_⟩<;>rw[cB]at hx<;>subst hx
    ·exact(Mz hm).fit (by omega)
    ·exact(Mz hm).2
  exact⟨⟨⟨by simp[Aj],by simp[Aj],To ho.2.2,To hr.2.2,b2,By,By,By,fun x hx=>by simp[Aj]at hx,ac⟩,By,fun x hx=>by simp[Aj]at hx,by simp[Aj],by simp[Aj],by simp[Aj],by simp[Aj],aK ho.1 (by omega),aK hr.1 (by omega),ac⟩,by simp[Aj],by simp[Aj],by simp[Aj],ho.2.1,⟨hr.1,hr.2.1⟩,b1⟩
theorem Xo:∀(f:Nat) (acc:List Stm) (s:St) (az:List Stm),Bg s≤100000→Ej f acc s=(az,Q [])→(∀st∈acc,FitC st)→∀st∈az,FitC st
 |0,acc,s,az,_,h,ha=>by rw[Ej]at h;grind
 |f+1,acc,O,az,_,h,ha=>by rw[A3y.1]at h;grind
 |f+1,acc,Q [],az,_,h,ha=>by rw[A3y.2]at h;grind
 |f+1,acc,Q (w::l),az,hl,h,ha=>by
  rw[Ej]at h;cases h2:Cg Oa _ with
  |none=>rw[h2,A3y.1]at h;grind
  |some r=>
   rw[h2]at h;obtain⟨h3,_⟩:=Do h2;obtain⟨m,hm,hg⟩:=Ajc _ _ _ (Prod.ext rfl h3);simp only[cI]at hm;have h4:=congrArg List.length hm;simp at h4;have ab:l.length+1≤100000:=by simpa[Bg]using hl
   refine Xo f _ _ az (by simp[Bg];omega) h fun st aa=>?_
   rcases cU.1 aa with aa|aa
   ·grind
   ·rw[cB]at aa;subst aa;exact A0u hg (by omega)
theorem At5 {t}:∀st∈(A1 t).1,FitC st:=by
 unfold A1;split
 ·simp
 ·split
  ·rename_i h1 _ l hl;split
   ·simp
   ·obtain⟨ws,h2,_,h3⟩:=Aqs t.length t (aF _);refine Xo _ _ _ _ ?_ hl (by simp);have h4:(Ig t).length≤2000:=by rcases h2 with h2|h2<;>rw[h2]<;>(try simp)<;>omega
    cases h5:adv _ with
    |none=>simp[Bg]
    |some r=>obtain⟨rfl,_⟩:=Ye h5;simp[Bg];omega
  simp
theorem At6 {t}:(A1 t).1.length≤6:=by
 unfold A1;grind
def M6:Rep:=⟨0,0,[]⟩
def F9:Db→List Stm→Nat→Rep→Rep×Db
 |d,[],_,last=>(last,d)
 |d,s::l,i,_=>if(Fp d s).1.code=0 then F9 (Fp d s).2 l (i+1) (Fp d s).1 else(⟨(Fp d s).1.code,(i:Int)+1,[]⟩,(Fp d s).2)
def Sy:Db→List Stm→Bool→Bool
 |_,[],q=>q
 |d,s::l,q=>if(Fp d s).1.code=0 then Sy (Fp d s).2 l (Su d s q)else Su d s q
def doR (d:Db)(a:Int)(t:Wd):Rep×Db×Int:=
 if 150≤a then(⟨8,0,[]⟩,d,a)
 else if(A1 t.data.toList).2≠0 then(⟨(A1 t.data.toList).2,0,[]⟩,d,a+1)
 else if(F9 d (A1 t.data.toList).1 0 M6).1.code=0 then((F9 d (A1 t.data.toList).1 0 M6).1,(F9 d (A1 t.data.toList).1 0 M6).2,a+1)
 else((F9 d (A1 t.data.toList).1 0 M6).1,d,a+1)
def doQ (d:Db)(a:Int)(t:Wd)(q:Bool):Bool:=
 if 150≤a then q
 else if(A1 t.data.toList).2≠0 then q
 else if(F9 d (A1 t.data.toList).1 0 M6).1.code=0 then Sy d (A1 t.data.toList).1 q
 else q
theorem Zm (t):∀(rows:List (List V)) (d:Db),(C9 t d rows).2=0∨(C9 t d rows).2=4∨(C9 t d rows).2=7∨(C9 t d rows).2=8
 |[],_=>.inl rfl
 |r::rows,d=>by
  unfold C9;split
  ·exact Zm t rows _
  ·exact Ah7 d t r
theorem Anl (d)(st):((Fp d st).1.code=0∨(Fp d st).1.code=1∨(Fp d st).1.code=3∨(Fp d st).1.code=4∨(Fp d st).1.code=5∨(Fp d st).1.code=7∨(Fp d st).1.code=8):=by
 unfold Fp;split
 ·rename_i m hm;have:=Anb hm;grind
 ·rename_i b hb;unfold Ff;split
  ·simp
  split
  ·simp
  split
  ·simp
  split
  ·split
   ·rename_i t _;have:=Zm t (b.rows.map fun l=>l.map (ev [])) d;grind
   simp
  split
  ·grind
  split
  ·split
   ·rename_i t _;have:=Zm t (((d.R t.name).filter (Au b.wher)).map (Gn t b.sets)) (d.upd t.name ((d.R t.name).filter fun r=>!Au b.wher r));grind
   simp
  simp
theorem Anm:∀(l:List Stm) (d:Db) (i:Nat) (aa:Rep),aa.code=0→((F9 d l i aa).1.code=0∨(F9 d l i aa).1.code=1∨(F9 d l i aa).1.code=3∨(F9 d l i aa).1.code=4∨(F9 d l i aa).1.code=5∨(F9 d l i aa).1.code=7∨(F9 d l i aa).1.code=8)
 |[],_,_,_,h=>.inl h
 |s::l,d,i,aa,_=>by
  unfold F9;split
  ·rename_i h;exact Anm l _ _ _ h
  ·exact Anl d s
theorem Ap5 (t):(A1 t).2=0∨(A1 t).2=1∨(A1 t).2=2:=by
 unfold A1;grind
theorem Dm.shape {base}{z}{A}{w}(h:Dm base z A w):∃vo vc,z=D vo A.length vc:=(J8 h).shape
theorem Br.row {E}{w}(h:Br E w){g}(hd:Dull w g)(hn:g∉E)(cells):Br E (w.setRow g cells):=fun n aa=>by
 obtain⟨c,T,a,tv,iv,pv,h1,h2⟩:=h n aa;exact⟨c,T,a,tv,iv,pv,h1.row hd (fun e=>hn (by grind)) _,h2⟩
def A1h (n:Nat)(w:bK)(so:Option Addr)(sc:Nat)(ss:List Stm):Prop:=IsL Ie (fun k=>k<w.heap.size∧k≠n) w (D so ss.length sc) ss
theorem At7 {E:List Nat}{n:Nat}{d:Db}{a:Int}{w:bK}(hE:Br E w)(hn:n∈E)(q:Bool)(he:Dt E w n d a q)(ok:DbOk d)(ss:List Stm)(so:Option Addr)(sc:Nat)(hs:A1h n w so sc ss)(hf:∀st∈ss,FitC st)(hl:ss.length≤6):
  bG aL 17 #[bH (Q ⟨n,0,O⟩),D so ss.length sc] w fun e w'=>Anc E n (F9 d ss 0 M6) a (Sy d ss q) w w' e:=by
 have cl:n<w.heap.size:=Br.lt hE hn;have bc:∀k,w.heap.size≤k→k∉E:=fun k hk h=>by have:=Br.lt hE h;omega
 obtain⟨aw,bA,bB,-⟩:=al2 w (aD #[H J 0,H J 0,D O 0 0] 32) (aD #[H J 0,H J 0,D O 0 0] 32);have HS:Hid _:=hs;have HF:Hid _:=hf;have bu:Hid _:=he;have bv:Hid _:=hE;have bw:Hid _:=ok;have bx:Hid _:=bc;clear hs hf he hE ok bc;go_enter Tryz.func17,Tryz.ntmps17;go_wp2_with fail
 go_loopw[10] (fun i wr=>∃(k:Nat) (d1:Db) (N:Int) (rows:List (List V)) (q1:Bool) (vo:Option Addr) (vc:Nat),k≤ss.length∧i=H J k∧Hid (F9 d ss 0 M6=F9 d1 (ss.drop k) k ⟨0,N,rows⟩∧Sy d ss q=Sy d1 (ss.drop k) q1)∧Hid (Dt E wr n d1 a q1)∧Hid (DbOk d1)∧Hid (Br E wr)∧wr.heap[w.heap.size]?=Q (aD #[H J 0,H J 0,D O 0 0] 32)∧wr.heap[w.heap.size+1]?=Q (aD #[H J 0,H J N,D vo rows.length vc] 32)∧Hid (Dm (w.heap.size+2) (D vo rows.length vc) rows wr)∧But n w wr) (fun i _=>ss.length-(bL i).toNat)
 case atStart=>exact⟨0,d,0,[],q,O,0,aO _,rfl,⟨rfl,rfl⟩,Dt.below bu.out aw,bw.out,Br.below bv.out aw,bA,bB,B8 _ _,But.of_below aw⟩
 case round=>
  obtain⟨k,d1,N,rows,q1,vo,vc,hk,rfl,ab,ax,bd,be,b4,b5,bf,aq⟩:=hrel
  by_cases bz:k<ss.length
  ·obtain⟨st,hx⟩:∃x,ss[k]?=Q x:=⟨_,aH bz⟩;have bg:=HS.out.keep (aq.keeps fun h=>h.2 rfl);obtain⟨b,ca,cs,cb,_,hb,hR,bh⟩:=At bg hx;cases cb;have bi:cs.length=20:=Ie.len hR;have bj:wr.rangeAt b (ca+k*20) cs:=bh;have bk:(Tryz.prog.info? 50).map (·.size)=Q cs.length:=by rw[bi];exact D4
   have bl:(Tryz.prog.info? 50).map (·.size)=Q cs.toArray.size:=by rw[cS];exact bk
   have cc:cs.toArray.size=20:=by rw[cS];exact bi
   have bm:=(Aac hR).1;have bZ:=Ab wr (aD Bn 50);have bX:=Ao (cells:=cs.toArray) bZ;have ak:Below _ wr ((wr.alloc (aD Bn 50)).setRow _ cs.toArray):=Below.row (Aq wr _) (aF _) _;have bn:Hid _:=Sq hx;have cd:Hid _:=HF.out st (aS hx);have v0:(0:Int)≤k:=by omega
   have v1:k<(ss.length:Int):=by omega
   have ce:=aq.size;have cf:Hid _:=Ie.mono (fun k hk _=>hk) hR;clear bh bg hx hR;go_upto_region 5 with(first
    |(refine wpList_load_mid rfl 50 _ rfl b _ ?_ cs _ bj cQ ?_ ?_ ?_;exact rfl;exact rfl;exact bk)
    |(refine aB rfl 50 _ _ rfl wr.heap.size cs.toArray ?_ ?_ 50 Bn ?_ ?_ ?_ ?_ ?_;exact rfl;exact rfl;exact bZ;exact bl;exact cc.symm;exact bm))
   have ar:=(ak.block _ (aC b4)).trans b4;have am:=(ak.block _ (aC b5)).trans b5;have ay:Hid _:=Dt.below ax.out ak;have au:Hid _:=Br.below be.out ak;have az:=aq.trans (But.of_below ak);have av:Hid _:=Ie.keep (Ai ak) cf.out;clear bZ bj ak hb bm;generalize(wr.alloc _).setRow _ _=V at ar am ay au az av bX⊢;generalize wr.heap.size=g at bX av ce⊢;have HI:bG aL 26 #[bH (Q ⟨n,0,O⟩),bE cs.toArray] V fun e w'=>Anc E n (Fp d1 st) a (Su d1 st q1) V w' e:=by
    obtain⟨T,cg,tc,io,ic,po,pc,h1,h2,h3⟩:=ay.out;exact A2y au.out hn h1 bd.out h2 q1 h3 st cs (Ie.mono (fun k hk _=>hk) av.out) cd.out
   have an:=Anl d1 st;have ad:Hid (F9 d1 (ss.drop k) k ⟨0,N,rows⟩=if(Fp d1 st).1.code=0 then F9 (Fp d1 st).2 (ss.drop (k+1)) (k+1) (Fp d1 st).1 else(⟨(Fp d1 st).1.code,k+1,[]⟩,(Fp d1 st).2)):=by show _=_;rw[bn.out,F9]
   have ac:Hid (Sy d1 (ss.drop k) q1=if(Fp d1 st).1.code=0 then Sy (Fp d1 st).2 (ss.drop (k+1)) (Su d1 st q1)else Su d1 st q1):=by show _=_;rw[bn.out,Sy]
   generalize Su d1 st q1=q2 at HI ac;generalize Fp d1 st=p at HI ad ac an;obtain⟨⟨C,N2,af⟩,d2⟩:=p;simp only at an ad ac;go_upto_region 6 with(first
    |(go_fit HI;rintro e w8 ⟨⟨cm,rfl,ba⟩,ae⟩;obtain⟨ag,ah,rfl⟩:=ba.shape;have ap:=(ae.2.2.block _ (aC am) (by omega)).trans am;have bo:=(ae.2.2.block _ (aC ar) (by omega)).trans ar)
    |(refine aN rfl 50 _ rfl g ?_ 50 _ _ _ bX cQ ?_ ?_ ?_;exact rfl;exact rfl;exact bl)
    |(refine aB rfl 32 _ _ rfl (w.heap.size+1) #[H J C,H J N2,D ag af.length ah] ?_ ?_ 32 #[H J 0,H J N,D vo rows.length vc] ?_ ?_ ?_ ?_ ?_;exact rfl;exact rfl;exact ap;exact Ar;exact rfl;exact C3 _ _ _ _ _))
   have bb:=Ao (cells:=#[H J C,H J N2,D ag af.length ah]) ap;have aa:=Bz (g:=w.heap.size+1) bo (by omega) #[H J C,H J N2,D ag af.length ah];have ai:Hid _:=Dt.row ae.1 (Cn ap) (show n≠w.heap.size+1 by omega) #[H J C,H J N2,D ag af.length ah];have bp:Br E w8:=by
    obtain⟨T,cg,tc,io,ic,po,pc,h1,_⟩:=ae.1;exact Br.put au.out ae.2.2 hn h1 ae.2.1.cat
   have bq:Hid _:=Br.row bp (Cn ap) (bx.out _ (show w.heap.size≤w.heap.size+1 by omega)) #[H J C,H J N2,D ag af.length ah];have aj:=(az.trans ae.2.2).rowB (show w.heap.size≤w.heap.size+1 by omega) #[H J C,H J N2,D ag af.length ah];have ch:w.heap.size+2≤V.heap.size:=by have:=aC am;omega
   have bt:Hid _:=(ba.base ch).row (show w.heap.size+1<w.heap.size+2 by omega) #[H J C,H J N2,D ag af.length ah];have al:Hid _:=ae.2.1;have c0:=Aa bb (j:=0) rfl;clear HI ae ba bo ap ar am bX ay au az av bp be ax bf;generalize w8.setRow _ _=Z at bb aa ai bq aj bt c0⊢;rcases an with rfl|an
   ·rw[if_pos rfl]at ad ac;go_wp2_with fail;go_roundw
    case rel=>exact⟨_,d2,N2,af,q2,ag,ah,by omega,by rfl,⟨ab.out.1.trans ad.out,ab.out.2.trans ac.out⟩,ai,al,bq,aa,bb,bt,aj⟩
    case measure=>simp[bL];omega
   ·have cj:Hid (C≠0):=by show _≠_;omega
    rw[if_neg cj.out]at ad ac;have cn:k≤6:=by omega
    rcases an with rfl|rfl|rfl|rfl|rfl|rfl
    ·go_wp2_with(refine aB rfl 32 _ _ rfl w.heap.size #[H J 1,H J (k+1),D O 0 0] ?_ ?_ 32 #[H J 0,H J 0,D O 0 0] ?_ ?_ ?_ ?_ ?_;exact rfl;exact(by go_num);exact aa;exact Ar;exact rfl;exact C3 _ _ _ _ _);refine aJ (v:=bE #[H J 1,H J ((k:Int)+1),D O 0 0]) (aE aW _ _ w.heap.size 32 #[H J 1,H J ((k:Int)+1),D O 0 0] _ _ rfl (Ao aa) aA rfl Ar) rfl ?_;rw[ab.out.1,ab.out.2,ad.out,ac.out];exact⟨⟨_,rfl,B8 _ _⟩,Dt.row ai.out (Cn aa) (show n≠w.heap.size by omega) _,al.out,aj.rowB (aF _) _⟩
    ·go_wp2_with(refine aB rfl 32 _ _ rfl w.heap.size #[H J 3,H J (k+1),D O 0 0] ?_ ?_ 32 #[H J 0,H J 0,D O 0 0] ?_ ?_ ?_ ?_ ?_;exact rfl;exact(by go_num);exact aa;exact Ar;exact rfl;exact C3 _ _ _ _ _);refine aJ (v:=bE #[H J 3,H J ((k:Int)+1),D O 0 0]) (aE aW _ _ w.heap.size 32 #[H J 3,H J ((k:Int)+1),D O 0 0] _ _ rfl (Ao aa) aA rfl Ar) rfl ?_;rw[ab.out.1,ab.out.2,ad.out,ac.out];exact⟨⟨_,rfl,B8 _ _⟩,Dt.row ai.out (Cn aa) (show n≠w.heap.size by omega) _,al.out,aj.rowB (aF _) _⟩
    ·go_wp2_with(refine aB rfl 32 _ _ rfl w.heap.size #[H J 4,H J (k+1),D O 0 0] ?_ ?_ 32 #[H J 0,H J 0,D O 0 0] ?_ ?_ ?_ ?_ ?_;exact rfl;exact(by go_num);exact aa;exact Ar;exact rfl;exact C3 _ _ _ _ _);refine aJ (v:=bE #[H J 4,H J ((k:Int)+1),D O 0 0]) (aE aW _ _ w.heap.size 32 #[H J 4,H J ((k:Int)+1),D O 0 0] _ _ rfl (Ao aa) aA rfl Ar) rfl ?_;rw[ab.out.1,ab.out.2,ad.out,ac.out];exact⟨⟨_,rfl,B8 _ _⟩,Dt.row ai.out (Cn aa) (show n≠w.heap.size by omega) _,al.out,aj.rowB (aF _) _⟩
    ·go_wp2_with(refine aB rfl 32 _ _ rfl w.heap.size #[H J 5,H J (k+1),D O 0 0] ?_ ?_ 32 #[H J 0,H J 0,D O 0 0] ?_ ?_ ?_ ?_ ?_;exact rfl;exact(by go_num);exact aa;exact Ar;exact rfl;exact C3 _ _ _ _ _);refine aJ (v:=bE #[H J 5,H J ((k:Int)+1),D O 0 0]) (aE aW _ _ w.heap.size 32 #[H J 5,H J ((k:Int)+1),D O 0 0] _ _ rfl (Ao aa) aA rfl Ar) rfl ?_;rw[ab.out.1,ab.out.2,ad.out,ac.out];exact⟨⟨_,rfl,B8 _ _⟩,Dt.row ai.out (Cn aa) (show n≠w.heap.size by omega) _,al.out,aj.rowB (aF _) _⟩
    ·go_wp2_with(refine aB rfl 32 _ _ rfl w.heap.size #[H J 7,H J (k+1),D O 0 0] ?_ ?_ 32 #[H J 0,H J 0,D O 0 0] ?_ ?_ ?_ ?_ ?_;exact rfl;exact(by go_num);exact aa;exact Ar;exact rfl;exact C3 _ _ _ _ _);refine aJ (v:=bE #[H J 7,H J ((k:Int)+1),D O 0 0]) (aE aW _ _ w.heap.size 32 #[H J 7,H J ((k:Int)+1),D O 0 0] _ _ rfl (Ao aa) aA rfl Ar) rfl ?_;rw[ab.out.1,ab.out.2,ad.out,ac.out];exact⟨⟨_,rfl,B8 _ _⟩,Dt.row ai.out (Cn aa) (show n≠w.heap.size by omega) _,al.out,aj.rowB (aF _) _⟩
    ·go_wp2_with(refine aB rfl 32 _ _ rfl w.heap.size #[H J 8,H J (k+1),D O 0 0] ?_ ?_ 32 #[H J 0,H J 0,D O 0 0] ?_ ?_ ?_ ?_ ?_;exact rfl;exact(by go_num);exact aa;exact Ar;exact rfl;exact C3 _ _ _ _ _);refine aJ (v:=bE #[H J 8,H J ((k:Int)+1),D O 0 0]) (aE aW _ _ w.heap.size 32 #[H J 8,H J ((k:Int)+1),D O 0 0] _ _ rfl (Ao aa) aA rfl Ar) rfl ?_;rw[ab.out.1,ab.out.2,ad.out,ac.out];exact⟨⟨_,rfl,B8 _ _⟩,Dt.row ai.out (Cn aa) (show n≠w.heap.size by omega) _,al.out,aj.rowB (aF _) _⟩
  ·have ck:k=ss.length:=by omega
   subst ck;have v1:¬(ss.length<(ss.length:Int)):=by omega
   have HD:Hid (ss.drop _=[]):=cG;go_wp2_with(first
    |(refine aN rfl 32 _ rfl _ ?_ 32 _ _ _ b5 aA ?_ ?_ ?_;exact rfl;exact rfl;exact Ar)
    |(refine aB rfl 32 _ _ rfl (w.heap.size) #[H J 0,H J N,D vo rows.length vc] ?_ ?_ 32 #[H J 0,H J 0,D O 0 0] ?_ ?_ ?_ ?_ ?_;exact rfl;exact rfl;exact b4;exact Ar;exact rfl;exact C3 _ _ _ _ _))
   refine aJ (v:=bE #[H J 0,H J N,D vo rows.length vc]) (aE aW _ _ w.heap.size 32 #[H J 0,H J N,D vo rows.length vc] _ _ rfl (Ao b4) aA rfl Ar) rfl ?_;rw[ab.out.1,ab.out.2,HD.out,F9,Sy];exact⟨⟨_,rfl,(bf.out.row (show w.heap.size<w.heap.size+2 by omega) _).base (by omega)⟩,Dt.row ax.out (Cn b4) (show n≠w.heap.size by omega) _,bd.out,aq.rowB (aF _) _⟩
theorem EngC.mono {E E'}{w}{n}{c}{T}{a}{tv iv pv}(h:EngC E w n c T a tv iv pv)(hk:∀k,k<w.heap.size→k∉E→k∉E'):EngC E' w n c T a tv iv pv:=
 ⟨h.blk,h.tabs.mono hk,h.idxs.mono hk,h.pages.mono hk,h.good⟩
theorem A0v {E}{w}{n}{c}{T}{a}{tv iv pv}(hE:Br E w)(h:EngC E w n c T a tv iv pv)(hc:Dv c=aU)(z):
  Br (w.heap.size::E) ((w.alloc (aD z 67)).setRow w.heap.size #[tv,iv,pv,H J a])∧EngC (w.heap.size::E) ((w.alloc (aD z 67)).setRow w.heap.size #[tv,iv,pv,H J a]) w.heap.size c T a tv iv pv∧Below w.heap.size w ((w.alloc (aD z 67)).setRow w.heap.size #[tv,iv,pv,H J a]):=by
 have hb:Below _ w ((w.alloc (aD z 67)).setRow _ #[tv,iv,pv,H J a]):=Below.row (Aq w _) (aF _) _;have hk:∀k,k<w.heap.size→k∉E→k∉w.heap.size::E:=fun k h1 h2 h3=>by grind
 have new:EngC (w.heap.size::E) ((w.alloc (aD z 67)).setRow w.heap.size #[tv,iv,pv,H J a]) w.heap.size c T a tv iv pv:=by
  have h1:=(h.mono hk).below hb;exact⟨Ao (Ab w _),h1.tabs,h1.idxs,h1.pages,h1.good⟩
 refine⟨fun m hm=>?_,new,hb⟩;rcases cA.1 hm with rfl|hm
 ·grind
 ·obtain⟨c',T',a',aa,ab,ac,h1,h2⟩:=hE m hm;exact⟨c',T',a',aa,ab,ac,(h1.mono hk).below hb,h2⟩
theorem A0w {E}{w}{m n}{c}{T}{a}{tv iv pv}(h:EngC (m::E) w m c T a tv iv pv)(hn:n∈E){old}(hb:w.heap[n]?=Q (aD old 67)):EngC E (w.setRow n #[tv,iv,pv,H J a]) n c T a tv iv pv:=by
 have hk:Keeps (fun k=>k∉m::E) w (w.setRow n #[tv,iv,pv,H J a]):=(Keeps.refl _ _).row (fun h=>h (cM _ hn)) _;have hm:∀k,k<(w.setRow n #[tv,iv,pv,H J a]).heap.size→k∉m::E→k∉E:=fun k _ h1 h2=>h1 (cM _ h2)
 exact⟨Ao hb,(h.tabs.keep hk).mono hm,(h.idxs.keep hk).mono hm,(h.pages.keep hk).mono hm,h.good⟩
theorem EngC.tick {E}{w}{n}{c}{T}{a}{tv iv pv}(h:EngC E w n c T a tv iv pv)(hn:n∈E)(a'):EngC E (w.setCell ⟨n,3,O⟩ (H J a')) n c T a' tv iv pv:=by
 have hk:Keeps _ w (w.setCell _ (H J a')):=Jr ((But.refl n w).set 3 _) hn;exact⟨Dj h.blk 3 _,h.tabs.keep hk,h.idxs.keep hk,h.pages.keep hk,h.good⟩
theorem But.newB {a m}{u v w}(h:But a u v)(k:But m v w)(hm:u.heap.size≤m):But a u w:=
 ⟨k.os.trans h.os,k.tape.trans h.tape,k.output.trans h.output,aK h.size k.size,fun i hi hn=>(k.block i (aZ hi h.size) (by omega)).trans (h.block i hi hn)⟩
theorem But.same {a}{u v}(h:But a u v)(cells):But a u (v.setRow a cells):=
 ⟨h.os,h.tape,h.output,by simp[World.setRow];exact h.size,fun k hk hn=>by
  rw[←h.block k hk hn];simp only[World.setRow,cJ];grind⟩
theorem A27 {B}{w W}{so}{sc}{ss}(h:IsL Ie (Fr B) w (D so ss.length sc) ss)(hb:Below w.heap.size w W):A1h w.heap.size W so sc ss:=by
 refine((h.mono fun k hk _=>hk).keep (Ae hb)).mono fun k hk h=>⟨hk,by omega⟩
theorem Arg (a b c:Option Addr)(n m k n' m' k':Nat)(x:Int):(#[D a n n',D b m m',D c k k',H J x]:Array bF).all (·.oneCell')=aU:=by simp[bD]
theorem Wv:(Tryz.prog.info? 67).map (·.size)=Q 4:=by kernel_rfl
def At8 (E:List Nat)(n:Nat)(p:Rep×Db×Int)(q:Bool)(w w':bK)(e:Ending):Prop:=(∃rv,e=aP (bE #[H J p.1.code,H J p.1.n,rv])∧Dm w.heap.size rv p.1.rows w')∧Dt E w' n p.2.1 p.2.2 q∧DbOk p.2.1∧But n w w'
theorem U6 {E:List Nat}{n:Nat}{d:Db}{a:Int}{w:bK}(hE:Br E w)(hn:n∈E)(q:Bool)(cl:Dt E w n d a q)(ok:DbOk d)(ha:0≤a)(cm:Env w)(cn:8≤n)(t:Wd):
  bG aL 10 #[bH (Q ⟨n,0,O⟩),bE #[X t]] w fun e w'=>At8 E n (doR d a t) (doQ d a t q) w w' e:=by
 obtain⟨T,ac,tc,io,ic,po,pc,he,ae,hq⟩:=cl;have cy:n<w.heap.size:=he.lt;obtain⟨aj,bT,bR,-⟩:=al2 w (aD #[X t] 28) (aD #[H J 0,H J 0,D O 0 0] 32);have an:=he.below aj;have bk:=hE.below aj;have bl:=cm.next aj;generalize hW:((w.alloc (aD #[X t] 28)).alloc (aD #[H J 0,H J 0,D O 0 0] 32))=W2 at aj bT bR an bk bl;have HW:Hid _:=hW;have v3:=Aa an.blk (j:=3) rfl;have f3:W2.frozen? ⟨n,3,O⟩=cN:=by simp[bW,an.blk]
 have v9:=Aa bT (j:=0) rfl;have cz:=aj.size;clear hW
 by_cases aw:150≤a
 ·have HE:Hid (doR d a t=(⟨8,0,[]⟩,d,a)):=by show _=_;rw[doR,if_pos aw]
  have HQ:Hid (doQ d a t q=q):=by show _=_;rw[doQ,if_pos aw]
  go_enter Tryz.func10,Tryz.ntmps10;go_upto_region 1 with fail;rw[HW.out];go_wp2_with(refine aB rfl 32 _ _ rfl (w.heap.size+1) #[H J 8,H J 0,D O 0 0] ?_ ?_ 32 #[H J 0,H J 0,D O 0 0] ?_ ?_ ?_ ?_ ?_;exact rfl;exact rfl;exact bR;exact Ar;exact rfl;exact C3 _ _ _ _ _);refine aJ (v:=bE #[H J 8,H J 0,D O 0 0]) (aE aR _ _ (w.heap.size+1) 32 #[H J 8,H J 0,D O 0 0] _ _ rfl (Ao bR) aA rfl Ar) rfl ?_;rw[HE.out,HQ.out];exact⟨⟨_,rfl,B8 _ _⟩,⟨T,ac,tc,io,ic,po,pc,an.row (Cn bR) (show n≠w.heap.size+1 by omega) _,ae,hq⟩,ok,(But.of_below aj).rowB (by omega) _⟩
 ·have da:a≤149:=by omega
  have ax:∀W,But n W2 W→bG aL 13 #[X t] W _:=fun W h=>Afa t W (bl.but h cn)
  have ay:=Ap5 t.data.toList;have ce:Hid (∀st∈(A1 t.data.toList).1,FitC st):=At5;have cf:Hid ((A1 t.data.toList).1.length≤6):=At6;have HE:Hid (doR d a t=if(A1 t.data.toList).2≠0 then(⟨(A1 t.data.toList).2,0,[]⟩,d,a+1)
    else if(F9 d (A1 t.data.toList).1 0 M6).1.code=0 then((F9 d (A1 t.data.toList).1 0 M6).1,(F9 d (A1 t.data.toList).1 0 M6).2,a+1)
    else((F9 d (A1 t.data.toList).1 0 M6).1,d,a+1)):=by show _=_;rw[doR,if_neg aw]
  have HQ:Hid (doQ d a t q=if(A1 t.data.toList).2≠0 then q else if(F9 d (A1 t.data.toList).1 0 M6).1.code=0 then Sy d (A1 t.data.toList).1 q else q):=by show _=_;rw[doQ,if_neg aw]
  generalize(A1 t.data.toList).1=ss at ax ce cf HE HQ;generalize(A1 t.data.toList).2=e2 at ax ay HE HQ;have h5:=(But.refl n W2).set 3 (H J (a+1));have az:=an.tick hn (a+1);have bm:Br E (W2.setCell ⟨n,3,O⟩ (H J (a+1))):=bk.put h5 hn az ok.cat;have ba:=(h5.block _ (aC bR) (by omega)).trans bR;have bn:=(h5.block _ (aC bT) (by omega)).trans bT;have cg:=Aa bn (j:=0) rfl;have bo:=ax _ h5;have co:=h5.size;go_enter Tryz.func10,Tryz.ntmps10;go_upto_region 1 with fail;rw[HW.out];go_upto_region 6 with fail;generalize W2.setCell ⟨n,3,O⟩ (H J (a+1))=W5 at h5 az bm ba bn cg bo co⊢;clear ax;go_upto_region 7 with(go_fit bo;rintro e w6 ⟨db,rfl,bp,ap⟩);obtain⟨so,sc,rfl⟩:=bp.shape;have ak:=az.below ap;have ch:=bm.below ap;have af:=(ap.block _ (aC ba)).trans ba;have bq:=((But.of_below aj).trans h5).trans (But.of_below (a:=n) ap);have dc:=ap.size;have dd:=aC af;clear bo az bm ba bn cg v9 v3 f3 an bk bT bl;rcases ay with rfl|ay
  ·rw[if_neg (by simp)]at HE HQ;obtain⟨bt,bb,aq⟩:=A0v ch ak ok.cat #[D O 0 0,D O 0 0,D O 0 0,H J 0];have bu:=A27 bp aq;have ar:=(aq.block _ (aC af)).trans af;have bc:=(aq.block _ (aC ak.blk)).trans ak.blk;have bZ:=Ab w6 (aD #[D O 0 0,D O 0 0,D O 0 0,H J 0] 67);have b6:=ak.blk;have hM:w6.heap.size<((w6.alloc (aD #[D O 0 0,D O 0 0,D O 0 0,H J 0] 67)).setRow w6.heap.size #[D ac d.c.tables.length tc,D io d.c.indexes.length ic,D po T.length pc,H J (a+1)]).heap.size:=bb.lt;go_upto_region 10 with(first
    |(refine aN rfl 67 _ rfl n ?_ 67 _ (0,0) _ b6 cO ?_ ?_ ?_;exact rfl;exact rfl;exact Wv)
    |(refine aB rfl 67 _ _ rfl w6.heap.size #[D ac d.c.tables.length tc,D io d.c.indexes.length ic,D po T.length pc,H J (a+1)] ?_ ?_ 67 #[D O 0 0,D O 0 0,D O 0 0,H J 0] ?_ ?_ ?_ ?_ ?_;exact rfl;exact rfl;exact bZ;exact Wv;exact rfl;exact Arg _ _ _ _ _ _ _ _ _ _))
   clear bZ b6;generalize(w6.alloc (aD #[D O 0 0,D O 0 0,D O 0 0,H J 0] 67)).setRow w6.heap.size #[D ac d.c.tables.length tc,D io d.c.indexes.length ic,D po T.length pc,H J (a+1)]=W9 at bt bb aq bu ar bc hM⊢;have bd:=At7 bt (List.mem_cons_self) q ⟨T,ac,tc,io,ic,po,pc,bb,ae,hq⟩ ok ss so sc bu ce.out cf.out;have av:=Anm ss d 0 M6 rfl;have cp:=bq.trans (But.of_below (a:=n) aq);generalize Sy d ss q=q2 at bd HQ;generalize F9 d ss 0 M6=p at bd HE HQ av;obtain⟨⟨C,N2,aa⟩,d2⟩:=p;simp only at HE HQ av;have cq:w6.heap.size≠n:=by omega
   go_upto_region 11 with(first
    |(go_fit bd;rintro e ad ⟨⟨rv,rfl,bv⟩,cr⟩;obtain⟨vo,vc,rfl⟩:=bv.shape;have bw:=Ab ad (aD #[H J 0,H J 0,D O 0 0] 32))
    |(refine aB rfl 32 _ _ rfl ad.heap.size #[H J C,H J N2,D vo aa.length vc] ?_ ?_ 32 #[H J 0,H J 0,D O 0 0] ?_ ?_ ?_ ?_ ?_;exact rfl;exact rfl;exact bw;exact Ar;exact rfl;exact C3 _ _ _ _ _))
   obtain⟨⟨T2,be,bf,bg,bh,bi,bj,cj,cs,ct⟩,cu,ag⟩:=cr;have al:Below ad.heap.size ad ((ad.alloc (aD #[H J 0,H J 0,D O 0 0] 32)).setRow ad.heap.size #[H J C,H J N2,D vo aa.length vc]):=Below.row (Aq ad _) (aF _) _;have bQ:=Ao (cells:=#[H J C,H J N2,D vo aa.length vc]) bw;have bx:=cj.below al;have bz:=(ag.block _ (aC ar) (by omega)).trans ar;have ca:=(ag.block _ (aC bc) (Ne.symm cq)).trans bc;have ab:=(al.block _ (aC bz)).trans bz;have cb:=(al.block _ (aC ca)).trans ca;have ah:=(cp.newB ag (by omega)).trans (But.of_below (a:=n) al);have ai:=bv.below al;have ck:Below w6.heap.size w6 ((ad.alloc (aD #[H J 0,H J 0,D O 0 0] 32)).setRow ad.heap.size #[H J C,H J N2,D vo aa.length vc]):=(aq.trans (ag.below (aF _) (cC hM))).trans (al.mono (aK (cC hM) ag.size));have cv:w.heap.size+1<ad.heap.size:=by have:=ag.size;have:=aC ar;omega
   have c0:=Aa bQ (j:=0) rfl;have am:w.heap.size+1<W9.heap.size:=aC ar;have cx:=ag.size;clear bd bw cj bz ca al bv ag bt bb bu ar bc ch af ap bp;generalize(ad.alloc (aD #[H J 0,H J 0,D O 0 0] 32)).setRow ad.heap.size #[H J C,H J N2,D vo aa.length vc]=Y at bQ bx ab cb ah ai ck c0⊢;generalize ad.heap.size=g at bQ cv c0 cx⊢;rcases av with rfl|av
   ·rw[if_pos rfl]at HE HQ;have cc:=Bz (g:=n) ab (show w.heap.size+1≠n by omega) #[D be d2.c.tables.length bf,D bg d2.c.indexes.length bh,D bi T2.length bj,H J (a+1)];go_wp2_with(first
     |(refine aN rfl 67 _ rfl w6.heap.size ?_ 67 _ (0,0) _ bx.blk cO ?_ ?_ ?_;exact rfl;exact rfl;exact Wv)
     |(refine aB rfl 67 _ _ rfl n #[D be d2.c.tables.length bf,D bg d2.c.indexes.length bh,D bi T2.length bj,H J (a+1)] ?_ ?_ 67 #[D ac d.c.tables.length tc,D io d.c.indexes.length ic,D po T.length pc,H J (a+1)] ?_ ?_ ?_ ?_ ?_;exact rfl;exact rfl;exact cb;exact Wv;exact rfl;exact Arg _ _ _ _ _ _ _ _ _ _)
     |(refine aN rfl 32 _ rfl g ?_ 32 _ (0,0) _ (Bz (g:=n) bQ (show g≠n by omega) #[D be d2.c.tables.length bf,D bg d2.c.indexes.length bh,D bi T2.length bj,H J (a+1)]) aA ?_ ?_ ?_;exact rfl;exact rfl;exact Ar)
     |(refine aB rfl 32 _ _ rfl (w.heap.size+1) #[H J 0,H J N2,D vo aa.length vc] ?_ ?_ 32 #[H J 0,H J 0,D O 0 0] ?_ ?_ ?_ ?_ ?_;exact rfl;exact rfl;exact cc;exact Ar;exact rfl;exact C3 _ _ _ _ _))
    refine aJ (v:=bE #[H J 0,H J N2,D vo aa.length vc]) (aE aR _ _ (w.heap.size+1) 32 #[H J 0,H J N2,D vo aa.length vc] _ _ rfl (Ao cc) aA rfl Ar) rfl ?_;rw[HE.out,HQ.out];refine⟨⟨_,rfl,((ai.row (show n<W9.heap.size by omega) _).row am _).base (by omega)⟩,⟨T2,be,bf,bg,bh,bi,bj,(A0w bx hn cb).row (Cn cc) (show n≠w.heap.size+1 by omega) _,cs,ct⟩,cu,(ah.same _).rowB (by omega) _⟩
   ·have cd:Hid (C≠0):=by show _≠_;omega
    rw[if_neg cd.out]at HE HQ;have au:=ak.below ck;rcases av with rfl|rfl|rfl|rfl|rfl|rfl
    ·go_wp2_with(first
      |(refine aN rfl 32 _ rfl g ?_ 32 _ (0,0) _ bQ aA ?_ ?_ ?_;exact rfl;exact rfl;exact Ar)
      |(refine aB rfl 32 _ _ rfl (w.heap.size+1) #[H J 1,H J N2,D vo aa.length vc] ?_ ?_ 32 #[H J 0,H J 0,D O 0 0] ?_ ?_ ?_ ?_ ?_;exact rfl;exact rfl;exact ab;exact Ar;exact rfl;exact C3 _ _ _ _ _))
     refine aJ (v:=bE #[H J 1,H J N2,D vo aa.length vc]) (aE aR _ _ (w.heap.size+1) 32 #[H J 1,H J N2,D vo aa.length vc] _ _ rfl (Ao ab) aA rfl Ar) rfl ?_;rw[HE.out,HQ.out];exact⟨⟨_,rfl,(ai.row am _).base (by omega)⟩,⟨T,ac,tc,io,ic,po,pc,au.row (Cn ab) (show n≠w.heap.size+1 by omega) _,ae,hq⟩,ok,ah.rowB (by omega) _⟩
    ·go_wp2_with(first
      |(refine aN rfl 32 _ rfl g ?_ 32 _ (0,0) _ bQ aA ?_ ?_ ?_;exact rfl;exact rfl;exact Ar)
      |(refine aB rfl 32 _ _ rfl (w.heap.size+1) #[H J 3,H J N2,D vo aa.length vc] ?_ ?_ 32 #[H J 0,H J 0,D O 0 0] ?_ ?_ ?_ ?_ ?_;exact rfl;exact rfl;exact ab;exact Ar;exact rfl;exact C3 _ _ _ _ _))
     refine aJ (v:=bE #[H J 3,H J N2,D vo aa.length vc]) (aE aR _ _ (w.heap.size+1) 32 #[H J 3,H J N2,D vo aa.length vc] _ _ rfl (Ao ab) aA rfl Ar) rfl ?_;rw[HE.out,HQ.out];exact⟨⟨_,rfl,(ai.row am _).base (by omega)⟩,⟨T,ac,tc,io,ic,po,pc,au.row (Cn ab) (show n≠w.heap.size+1 by omega) _,ae,hq⟩,ok,ah.rowB (by omega) _⟩
    ·go_wp2_with(first
      |(refine aN rfl 32 _ rfl g ?_ 32 _ (0,0) _ bQ aA ?_ ?_ ?_;exact rfl;exact rfl;exact Ar)
      |(refine aB rfl 32 _ _ rfl (w.heap.size+1) #[H J 4,H J N2,D vo aa.length vc] ?_ ?_ 32 #[H J 0,H J 0,D O 0 0] ?_ ?_ ?_ ?_ ?_;exact rfl;exact rfl;exact ab;exact Ar;exact rfl;exact C3 _ _ _ _ _))
     refine aJ (v:=bE #[H J 4,H J N2,D vo aa.length vc]) (aE aR _ _ (w.heap.size+1) 32 #[H J 4,H J N2,D vo aa.length vc] _ _ rfl (Ao ab) aA rfl Ar) rfl ?_;rw[HE.out,HQ.out];exact⟨⟨_,rfl,(ai.row am _).base (by omega)⟩,⟨T,ac,tc,io,ic,po,pc,au.row (Cn ab) (show n≠w.heap.size+1 by omega) _,ae,hq⟩,ok,ah.rowB (by omega) _⟩
    ·go_wp2_with(first
      |(refine aN rfl 32 _ rfl g ?_ 32 _ (0,0) _ bQ aA ?_ ?_ ?_;exact rfl;exact rfl;exact Ar)
      |(refine aB rfl 32 _ _ rfl (w.heap.size+1) #[H J 5,H J N2,D vo aa.length vc] ?_ ?_ 32 #[H J 0,H J 0,D O 0 0] ?_ ?_ ?_ ?_ ?_;exact rfl;exact rfl;exact ab;exact Ar;exact rfl;exact C3 _ _ _ _ _))
     refine aJ (v:=bE #[H J 5,H J N2,D vo aa.length vc]) (aE aR _ _ (w.heap.size+1) 32 #[H J 5,H J N2,D vo aa.length vc] _ _ rfl (Ao ab) aA rfl Ar) rfl ?_;rw[HE.out,HQ.out];exact⟨⟨_,rfl,(ai.row am _).base (by omega)⟩,⟨T,ac,tc,io,ic,po,pc,au.row (Cn ab) (show n≠w.heap.size+1 by omega) _,ae,hq⟩,ok,ah.rowB (by omega) _⟩
    ·go_wp2_with(first
      |(refine aN rfl 32 _ rfl g ?_ 32 _ (0,0) _ bQ aA ?_ ?_ ?_;exact rfl;exact rfl;exact Ar)
      |(refine aB rfl 32 _ _ rfl (w.heap.size+1) #[H J 7,H J N2,D vo aa.length vc] ?_ ?_ 32 #[H J 0,H J 0,D O 0 0] ?_ ?_ ?_ ?_ ?_;exact rfl;exact rfl;exact ab;exact Ar;exact rfl;exact C3 _ _ _ _ _))
     refine aJ (v:=bE #[H J 7,H J N2,D vo aa.length vc]) (aE aR _ _ (w.heap.size+1) 32 #[H J 7,H J N2,D vo aa.length vc] _ _ rfl (Ao ab) aA rfl Ar) rfl ?_;rw[HE.out,HQ.out];exact⟨⟨_,rfl,(ai.row am _).base (by omega)⟩,⟨T,ac,tc,io,ic,po,pc,au.row (Cn ab) (show n≠w.heap.size+1 by omega) _,ae,hq⟩,ok,ah.rowB (by omega) _⟩
    ·go_wp2_with(first
      |(refine aN rfl 32 _ rfl g ?_ 32 _ (0,0) _ bQ aA ?_ ?_ ?_;exact rfl;exact rfl;exact Ar)
      |(refine aB rfl 32 _ _ rfl (w.heap.size+1) #[H J 8,H J N2,D vo aa.length vc] ?_ ?_ 32 #[H J 0,H J 0,D O 0 0] ?_ ?_ ?_ ?_ ?_;exact rfl;exact rfl;exact ab;exact Ar;exact rfl;exact C3 _ _ _ _ _))
     refine aJ (v:=bE #[H J 8,H J N2,D vo aa.length vc]) (aE aR _ _ (w.heap.size+1) 32 #[H J 8,H J N2,D vo aa.length vc] _ _ rfl (Ao ab) aA rfl Ar) rfl ?_;rw[HE.out,HQ.out];exact⟨⟨_,rfl,(ai.row am _).base (by omega)⟩,⟨T,ac,tc,io,ic,po,pc,au.row (Cn ab) (show n≠w.heap.size+1 by omega) _,ae,hq⟩,ok,ah.rowB (by omega) _⟩
  ·have cd:Hid (e2≠0):=by show _≠_;omega
   rw[if_pos cd.out]at HE HQ;rcases ay with rfl|rfl
   ·go_wp2_with(refine aB rfl 32 _ _ rfl (w.heap.size+1) #[H J 1,H J 0,D O 0 0] ?_ ?_ 32 #[H J 0,H J 0,D O 0 0] ?_ ?_ ?_ ?_ ?_;exact rfl;exact rfl;exact af;exact Ar;exact rfl;exact C3 _ _ _ _ _);refine aJ (v:=bE #[H J 1,H J 0,D O 0 0]) (aE aR _ _ (w.heap.size+1) 32 #[H J 1,H J 0,D O 0 0] _ _ rfl (Ao af) aA rfl Ar) rfl ?_;rw[HE.out,HQ.out];exact⟨⟨_,rfl,B8 _ _⟩,⟨T,ac,tc,io,ic,po,pc,ak.row (Cn af) (show n≠w.heap.size+1 by omega) _,ae,hq⟩,ok,bq.rowB (by omega) _⟩
   ·go_wp2_with(refine aB rfl 32 _ _ rfl (w.heap.size+1) #[H J 2,H J 0,D O 0 0] ?_ ?_ 32 #[H J 0,H J 0,D O 0 0] ?_ ?_ ?_ ?_ ?_;exact rfl;exact rfl;exact af;exact Ar;exact rfl;exact C3 _ _ _ _ _);refine aJ (v:=bE #[H J 2,H J 0,D O 0 0]) (aE aR _ _ (w.heap.size+1) 32 #[H J 2,H J 0,D O 0 0] _ _ rfl (Ao af) aA rfl Ar) rfl ?_;rw[HE.out,HQ.out];exact⟨⟨_,rfl,B8 _ _⟩,⟨T,ac,tc,io,ic,po,pc,ak.row (Cn af) (show n≠w.heap.size+1 by omega) _,ae,hq⟩,ok,bq.rowB (by omega) _⟩
theorem A0x:(Tryz.prog.info? 84).map (fun i=>(i.zero,i.size,i.bytes))=Q (Q (bE #[X ⟨#[]⟩,H J 0,bJ cN]),3,32):=by kernel_rfl
theorem Ann (cs)(n)(sv)(F)(w)(h:Bq F 3 w sv n cs)(h1:∀u∈cs,u.oneCell'=aU)(hn:n*32≤140737488355328):
  bG aL 28 #[sv] w fun e w'=>∃v,e=aP v∧w'.ownsRow w.heap.size 84 3 v n cs∧Below w.heap.size w w':=by
 obtain⟨i0,aa,ac,ae,af⟩:=cH A0x;have ap:∀(w) (a) (n c n' c'),(binOp _ 40 (D a n c) _).run _ w=.ok _ w:=fun w a n c n' c'=>bU w _ _ a n c n' c' cR
 have ag:=h.1;have fin:∀ao c,sv=D ao n c→(ao=O→n=0)→(∀ad,ao=Q ad→∀j u,cs[j]?=Q u→w.cell? (ad.add j)=Q u∧ad.block<w.heap.size)→(ao=O→c=0)→
   bG aL 28 #[sv] w fun e w'=>∃v,e=aP v∧w'.ownsRow w.heap.size 84 3 v n cs∧Below w.heap.size w w':=by
  intro ao c he h0 hc ah;subst he;cases ao with
  |none=>
   obtain rfl:=h0 rfl;obtain rfl:=ah rfl;have:=aM (by omega);subst this;go_enter Tryz.func28,Tryz.ntmps28;go_wp2;go_ret;exact⟨_,rfl,bC _ _ _ _,aQ _ _⟩
  |some ad=>
   have ai:(w.alloc _).ownsRow _ 84 3 _ 0 []:=bY w #[] 0 (aF _) (aO _) (by simp);have HC:Hid (∀j u,cs[j]?=Q u→(w.alloc (aD #[] 84)).cell? (ad.add j)=Q u):=fun j u hj=>by
    obtain⟨aj,aq⟩:=hc ad rfl j u hj;obtain⟨ab,ao,ak⟩:=ad;exact((Aq w _).cell (by unfold Addr.add;grind)).trans aj
   have HB:Hid _:=hn;clear hn hc;obtain⟨ab,ao,ak⟩:=ad;go_enter Tryz.func28,Tryz.ntmps28;go_wp2_with(at_builtin;refine aT _ rfl _ _ 40 rfl _ 84 i0 _ 3 32 cR aa ac ae af rfl (by simp) _ _ _ rfl ai _ n c cs rfl ag HC.out h1 (by have:=HB.out;simp only[bI];omega) (by have:=HB.out;omega) (by simp) ?_);intro v' w1 al am _ _;go_wp2;go_ret;exact⟨v',rfl,al,((aQ _ w).alloc (aF _) _).grown am (by simp) (by intro k hk;simp[aV]at hk;omega)⟩
 rcases h.2 with⟨h0,ao,c,he,hnil⟩|⟨h0,b,off,cap,he,_,hb,_,_,hc⟩
 ·subst h0;have an:=aM (by omega);subst an;exact fin ao c he (fun _=>rfl) (fun ad _ j u hj=>by grind) hnil
 ·exact fin _ cap he (fun h=>by grind) (fun ad h j u hj=>by cases h;rw[cK];grind) (fun h=>by grind)
theorem A0y:(Tryz.prog.info? 91).map (fun i=>(i.zero,i.size,i.bytes))=Q (Q (bE #[D O 0 0,D O 0 0]),2,48):=by kernel_rfl
theorem Ano (cs)(n)(sv)(F)(w)(h:Bq F 2 w sv n cs)(h1:∀u∈cs,u.oneCell'=aU)(hn:n*48≤140737488355328):
  bG aL 30 #[sv] w fun e w'=>∃v,e=aP v∧w'.ownsRow w.heap.size 91 2 v n cs∧Below w.heap.size w w':=by
 obtain⟨i0,aa,ac,ae,af⟩:=cH A0y;have ap:∀(w) (a) (n c n' c'),(binOp _ 63 (D a n c) _).run _ w=.ok _ w:=fun w a n c n' c'=>bU w _ _ a n c n' c' cP
 have ag:=h.1;have fin:∀ao c,sv=D ao n c→(ao=O→n=0)→(∀ad,ao=Q ad→∀j u,cs[j]?=Q u→w.cell? (ad.add j)=Q u∧ad.block<w.heap.size)→(ao=O→c=0)→
   bG aL 30 #[sv] w fun e w'=>∃v,e=aP v∧w'.ownsRow w.heap.size 91 2 v n cs∧Below w.heap.size w w':=by
  intro ao c he h0 hc ah;subst he;cases ao with
  |none=>
   obtain rfl:=h0 rfl;obtain rfl:=ah rfl;have:=aM (by omega);subst this;go_enter Tryz.func30,Tryz.ntmps30;go_wp2;go_ret;exact⟨_,rfl,bC _ _ _ _,aQ _ _⟩
  |some ad=>
   have ai:(w.alloc _).ownsRow _ 91 2 _ 0 []:=bY w #[] 0 (aF _) (aO _) (by simp);have HC:Hid (∀j u,cs[j]?=Q u→(w.alloc (aD #[] 91)).cell? (ad.add j)=Q u):=fun j u hj=>by
    obtain⟨aj,aq⟩:=hc ad rfl j u hj;obtain⟨ab,ao,ak⟩:=ad;exact((Aq w _).cell (by unfold Addr.add;grind)).trans aj
   have HB:Hid _:=hn;clear hn hc;obtain⟨ab,ao,ak⟩:=ad;go_enter Tryz.func30,Tryz.ntmps30;go_wp2_with(at_builtin;refine aT _ rfl _ _ 63 rfl _ 91 i0 _ 2 48 cP aa ac ae af rfl (by simp) _ _ _ rfl ai _ n c cs rfl ag HC.out h1 (by have:=HB.out;simp only[bI];omega) (by have:=HB.out;omega) (by simp) ?_);intro v' w1 al am _ _;go_wp2;go_ret;exact⟨v',rfl,al,((aQ _ w).alloc (aF _) _).grown am (by simp) (by intro k hk;simp[aV]at hk;omega)⟩
 rcases h.2 with⟨h0,ao,c,he,hnil⟩|⟨h0,b,off,cap,he,_,hb,_,_,hc⟩
 ·subst h0;have an:=aM (by omega);subst an;exact fin ao c he (fun _=>rfl) (fun ad _ j u hj=>by grind) hnil
 ·exact fin _ cap he (fun h=>by grind) (fun ad h j u hj=>by cases h;rw[cK];grind) (fun h=>by grind)
theorem A0z:(Tryz.prog.info? 9).map (fun i=>(i.zero,i.size,i.bytes))=Q (Q (X ⟨#[]⟩),1,16):=by kernel_rfl
theorem Zn (cs)(n)(sv)(F)(w)(h:Bq F 1 w sv n cs)(h1:∀u∈cs,u.oneCell'=aU)(hn:n*16≤140737488355328):
  bG aL 31 #[sv] w fun e w'=>∃v,e=aP v∧w'.ownsRow w.heap.size 9 1 v n cs∧Below w.heap.size w w':=by
 obtain⟨i0,aa,ac,ae,af⟩:=cH A0z;have ap:∀(w) (a) (n c n' c'),(binOp _ 43 (D a n c) _).run _ w=.ok _ w:=fun w a n c n' c'=>bU w _ _ a n c n' c' bM
 have ag:=h.1;have fin:∀ao c,sv=D ao n c→(ao=O→n=0)→(∀ad,ao=Q ad→∀j u,cs[j]?=Q u→w.cell? (ad.add j)=Q u∧ad.block<w.heap.size)→(ao=O→c=0)→
   bG aL 31 #[sv] w fun e w'=>∃v,e=aP v∧w'.ownsRow w.heap.size 9 1 v n cs∧Below w.heap.size w w':=by
  intro ao c he h0 hc ah;subst he;cases ao with
  |none=>
   obtain rfl:=h0 rfl;obtain rfl:=ah rfl;have:=aM (by omega);subst this;go_enter Tryz.func31,Tryz.ntmps31;go_wp2;go_ret;exact⟨_,rfl,bC _ _ _ _,aQ _ _⟩
  |some ad=>
   have ai:(w.alloc _).ownsRow _ 9 1 _ 0 []:=bY w #[] 0 (aF _) (aO _) (by simp);have HC:Hid (∀j u,cs[j]?=Q u→(w.alloc (aD #[] 9)).cell? (ad.add j)=Q u):=fun j u hj=>by
    obtain⟨aj,aq⟩:=hc ad rfl j u hj;obtain⟨ab,ao,ak⟩:=ad;exact((Aq w _).cell (by unfold Addr.add;grind)).trans aj
   have HB:Hid _:=hn;clear hn hc;obtain⟨ab,ao,ak⟩:=ad;go_enter Tryz.func31,Tryz.ntmps31;go_wp2_with(at_builtin;refine aT _ rfl _ _ 43 rfl _ 9 i0 _ 1 16 bM aa ac ae af rfl (by simp) _ _ _ rfl ai _ n c cs rfl ag HC.out h1 (by have:=HB.out;simp only[bI];omega) (by have:=HB.out;omega) (by simp) ?_);intro v' w1 al am _ _;go_wp2;go_ret;exact⟨v',rfl,al,((aQ _ w).alloc (aF _) _).grown am (by simp) (by intro k hk;simp[aV]at hk;omega)⟩
 rcases h.2 with⟨h0,ao,c,he,hnil⟩|⟨h0,b,off,cap,he,_,hb,_,_,hc⟩
 ·subst h0;have an:=aM (by omega);subst an;exact fin ao c he (fun _=>rfl) (fun ad _ j u hj=>by grind) hnil
 ·exact fin _ cap he (fun h=>by grind) (fun ad h j u hj=>by cases h;rw[cK];grind) (fun h=>by grind)
theorem Ww {α}{K}{F}{w}(hK:∀a c,K.R F w a c→∀u∈c,u.oneCell'=aU):∀{l:List α}{cs:List bF},All K F w l cs→∀u∈cs,u.oneCell'=aU
 |[],cs,h,u,hu=>by obtain rfl:=h;grind
 |a::l,cs,h,u,hu=>by
  obtain⟨c,rest,rfl,h2,h3⟩:=h;rcases cU.1 hu with hu|hu
  ·grind
  ·exact Ww hK h3 u hu
theorem A00 {F}{w}(a)(c)(h:Cp.R F w a c):∀u∈c,u.oneCell'=aU:=by
 obtain rfl:=h;simp[bD]
theorem A01 {F}{w}(a)(c)(h:Eb.R F w a c):∀u∈c,u.oneCell'=aU:=by
 obtain rfl:=h;simp[bD]
theorem A02 {F}{w}(a)(c)(h:Ck.R F w a c):∀u∈c,u.oneCell'=aU:=by
 obtain⟨sv,rfl,h2⟩:=h;obtain⟨ao,cp,rfl⟩:=h2.shape;simp[bD]
theorem Acq {α}{K}{F G}{w w'}:∀{l:List α}{cs:List bF},(∀a∈l,∀c,K.R F w a c→K.R G w' a c)→All K F w l cs→All K G w' l cs
 |[],_,_,h=>h
 |a::l,cs,hf,h=>by
  obtain⟨c,rest,h1,h2,h3⟩:=h;exact⟨c,rest,h1,hf a (by simp) c h2,Acq (fun b hb=>hf b (by grind)) h3⟩
theorem A28 (a b)(n m n' m'):(#[D a n n',D b m m']:Array bF).all (·.oneCell')=aU:=by simp[bD]
theorem Anp:(Tryz.prog.info? 62).map (·.size)=Q 2:=by kernel_rfl
theorem Zo {w:bK}{B g n cap size}{t}{cs}(h:w.ownsRow B t size (D (Q ⟨g,0,O⟩) n cap) n cs)(j)(v):(w.setCell ⟨g,j,O⟩ v).ownsRow B t size (D (Q ⟨g,0,O⟩) n cap) n (cs.set j v):=by
 obtain⟨h1,h2⟩:=h;refine⟨by grind,?_⟩;rcases h2 with⟨h2,_⟩|⟨g',cap',cur,he,hg,hh,hn,hm,hs,ht⟩
 ·grind
 ·cases he;refine .inr ⟨g,cap,_,rfl,hg,Dj hh j v,hn,hm,by grind,?_⟩;rw[←ht,Array.toList_setIfInBounds,List.take_set]
def U7 (B:Nat)(z:bF)(L:List TabD)(k:Nat)(w:bK):Prop:=∃cs1 cs2,w.ownsRow B 82 2 z L.length (cs1++cs2)∧All Ck (FO B z) w (L.take k) cs1∧All Ck (fun j=>Q j≠z.ownBlock) w (L.drop k) cs2
theorem U7.below {B}{z}{L}{k}{w w'}(h:U7 B z L k w)(hb:Below w.heap.size w w'):U7 B z L k w':=by
 obtain⟨aa,ab,h1,h2,h3⟩:=h;exact⟨aa,ab,Ak h1 hb,h2.keep (Ai hb),h3.keep (Ai hb)⟩
theorem Arh {α}{K}{F}{w}:∀{l:List α}{cs:List bF},All K F w l cs→cs.length=l.length*K.size
 |[],cs,h=>by obtain rfl:=h;simp
 |a::l,cs,h=>by
  obtain⟨c,rest,rfl,h2,h3⟩:=h;rw[aG,K.len h2,Arh h3,aI,Nat.succ_mul,Nat.add_comm]
theorem U7.get {B}{z}{L}{k}{w}(h:U7 B z L k w){t}(ht:L[k]?=Q t):∃g cap sv,z=D (Q ⟨g,0,O⟩) L.length cap∧B≤g∧g<w.heap.size∧(∃ab,w.heap[g]?=Q (aD ab 82)∧k*2+1<ab.size)∧w.cell? ⟨g,k*2,O⟩=Q (X t.name)∧w.cell? ⟨g,k*2+1,O⟩=Q sv∧IsL Cp (fun j=>Q j≠z.ownBlock) w sv t.cols∧
  ∀(w':bK) (v:bF),Below w.heap.size w w'→IsL Cp (FO B z) w' v t.cols→U7 B z L (k+1) (w'.setCell ⟨g,k*2+1,O⟩ v):=by
 obtain⟨aa,ag,h1,h2,h3⟩:=h;have hk:=(aY.1 ht).1;have ac:aa.length=k*2:=by rw[Arh h2,cF,Nat.min_eq_left (cC hk)];rfl
 rw[Sq ht]at h3;obtain⟨c,rest,rfl,⟨sv,rfl,h4⟩,h5⟩:=h3;rcases h1.2 with⟨_,h0⟩|⟨g,cap,ab,rfl,hg,hh,hn,hm,hs,htk⟩
 ·omega
 have ae:∀j u,(aa++([X t.name,sv]++rest))[j]?=Q u→w.cell? ⟨g,j,O⟩=Q u:=fun j u hj=>by
  refine Aa hh ?_;grind
 have e0:(aa++([X t.name,sv]++rest))[k*2]?=Q (X t.name):=by rw[aX (by omega),ac,cL];rfl
 have e1:(aa++([X t.name,sv]++rest))[k*2+1]?=Q sv:=by rw[aX (by omega),ac,show k*2+1-k*2=1 by omega];rfl
 refine⟨g,cap,sv,rfl,hg,aC hh,⟨ab,hh,by omega⟩,ae _ _ e0,ae _ _ e1,h4,fun w' v hb hv=>?_⟩;have af:(aa++([Value.string t.name,sv]++rest)).set (k*2+1) v=(aa++[X t.name,v])++rest:=by
  rw[bS _ _ (by omega),ac,show k*2+1-k*2=1 by omega];simp
 have ad:∀{F},(∀j,F j→Q j≠(Value.slice (Q ⟨g,0,O⟩) L.length cap).ownBlock)→Keeps F w' (w'.setCell ⟨g,k*2+1,O⟩ v):=fun hF=>(Keeps.refl _ _).set (fun h=>hF _ h (by rfl)) _ _
 refine⟨aa++[X t.name,v],rest,?_,?_,?_⟩
 ·have:=Zo (Ak h1 hb) (k*2+1) v;rw[af]at this;exact this
 ·rw[bN,ht];exact All.append ((h2.keep (Ai hb)).keep (ad fun j h=>h.2)) ⟨_,[],rfl,⟨v,rfl,hv.keep (ad fun j h=>h.2)⟩,rfl⟩
 ·exact(h5.keep (Ai hb)).keep (ad fun j h=>h)
theorem Ari (w):bG aL 7 #[] w fun e w'=>e=aP (bH (Q ⟨w.heap.size,0,O⟩))∧w'=w.alloc (aD #[D O 0 0,D O 0 0,D O 0 0,H J 0] 67):=by
 go_enter Tryz.func7,Tryz.ntmps7;go_wp2;go_ret;simp
theorem Arj {E}{w}(hE:Br E w):Br (w.heap.size::E) (w.alloc (aD #[D O 0 0,D O 0 0,D O 0 0,H J 0] 67))∧Dt (w.heap.size::E) (w.alloc (aD #[D O 0 0,D O 0 0,D O 0 0,H J 0] 67)) w.heap.size Ge 0 aU:=by
 have hk:∀k,k<w.heap.size→k∉E→k∉w.heap.size::E:=fun k h1 h2 h3=>by grind
 have new:EngC (w.heap.size::E) _ _ Ge.c [] 0 _ _ _:=⟨Ab w _,IsL.nil _ _ _,IsL.nil _ _ _,Kf.nil _ _,by simp,by simp[Ch]⟩;refine⟨fun m hm=>?_,[],O,0,O,0,O,0,new,Awa,fun _=>aO _⟩;rcases cA.1 hm with rfl|hm
 ·exact⟨_,_,_,_,_,_,new,Aml.cat⟩
 ·obtain⟨c',T',a',aa,ab,ac,h1,h2⟩:=hE m hm;exact⟨c',T',a',aa,ab,ac,(h1.mono hk).below (Aq w (aD #[D O 0 0,D O 0 0,D O 0 0,H J 0] 67)),h2⟩
theorem Abl {E}{n:Nat}{c:CatD}{T:List Pg}{a:Int}{bl io po:Option Addr}{tc ic pc:Nat}{w:bK}(he:EngC E w n c T a (D bl c.tables.length tc) (D io c.indexes.length ic) (D po T.length pc))(ag:Dv c=aU):
  bG aL 19 #[bH (Q ⟨n,0,O⟩)] w fun e w'=>∃tv iv,e=aP (bE #[tv,iv])∧IsL Ck (Fr w.heap.size) w' tv c.tables∧IsL Eb (Fr w.heap.size) w' iv c.indexes∧Below w.heap.size w w':=by
 have h3:c.tables.length≤3:=((Cw c).1 ag).1;have h4:c.indexes.length≤4:=((Cw c).1 ag).2.1;have bm:Hid (∀t∈c.tables,t.cols.length≤4):=fun t ht=>(Hf ag ht).2
 obtain⟨ac,bR,bn⟩:=al1 w (aD #[D O 0 0,D O 0 0] 62);have ab:=he.below ac;have ck:n<w.heap.size:=he.lt;generalize hW:w.alloc (aD #[D O 0 0,D O 0 0] 62)=W1 at ac bR ab bn;have HW:Hid _:=hW;have v0:=Aa ab.blk (j:=0) rfl;have v1:=Aa ab.blk (j:=1) rfl;obtain⟨ai,ar,aj⟩:=ab.tabs;obtain⟨ak,ah,ad⟩:=ab.idxs;have au:=Sd ai c.tables.length _ _ W1 ar (Ww A02 aj) (by omega);have av:Hid _:=aj;have bo:Hid _:=ab.idxs;clear hW he aj ar ah ad ab ag;go_enter Tryz.func19,Tryz.ntmps19;go_upto_region 1 with fail;rw[HW.out];go_upto_region 4 with(go_fit au;rintro e w2 ⟨z,rfl,ae,aw⟩);obtain⟨zo,zc,rfl⟩:=Ex.shape (Ex.of_own ae);have ax:U7 W1.heap.size (D zo c.tables.length zc) c.tables 0 w2:=by
  refine⟨[],ai,ae,rfl,?_⟩;have h5:All Ck (fun k=>k<W1.heap.size) W1 c.tables ai:=All.mono (fun k hk _=>hk) av.out;refine(h5.keep (Ae aw)).mono fun k _ hk e=>?_
  have:=(ae.lt k e.symm).1;omega
 have bp:Hid _:=ax;have ay:=ae.lt;have cl:Hid _:=ay;clear ax ae au av ay;go_wp2_with fail
 go_loopw[17] (fun i wr=>∃k:Nat,k≤c.tables.length∧i=H J k∧Hid (U7 W1.heap.size (D zo c.tables.length zc) c.tables k wr)∧Below W1.heap.size W1 wr) (fun i _=>c.tables.length-(bL i).toNat)
 case atStart=>exact⟨0,aO _,rfl,bp,aw⟩
 case round=>
  obtain⟨k,hk,rfl,az,aa⟩:=hrel
  by_cases bq:k<c.tables.length
  ·obtain⟨t,hx⟩:∃x,c.tables[k]?=Q x:=⟨_,aH bq⟩;obtain⟨g,cap,sv,hz,bt,al,⟨cm,bu,cn⟩,d0,d1,am,ba⟩:=az.out.get hx;cases hz;obtain⟨y1,z1,rfl⟩:=am.shape;obtain⟨af,bX,-⟩:=al1 wr (aD #[X t.name,D y1 t.cols.length z1] 82);obtain⟨bb,bc,an⟩:=am.keep (Ai af);have bv:=Ann bb _ _ _ _ bc (Ww A00 an) (by have:=bm.out t (aS hx);omega);have bw:Hid _:=an;have bx:Hid _:=ba;have b1:=Aa bX (j:=1) rfl;have bz:=(af.block g al).trans bu;have co:=aa.size;have v5:(0:Int)≤k:=by omega
   have v6:k<(c.tables.length:Int):=by omega
   clear bc an am ba hx;go_wp2_with(go_fit bv;rintro e w3 ⟨v3,rfl,bd,ap⟩;obtain⟨vo,vc,rfl⟩:=Ex.shape (Ex.of_own bd);have y9:=((Ac af ap).cell al).trans d1;have z9:w3.frozen? ⟨g,k*2+1,O⟩=cN:=(by simp[bW,(ap.block g (aZ al af.size)).trans bz]));have be:=Ac af ap;have ca:IsL Cp (FO W1.heap.size (D (Q ⟨g,0,O⟩) c.tables.length zc)) w3 (D vo t.cols.length vc) t.cols:=by
    refine⟨bb,Bq.of_own bd fun q hq=>⟨?_,fun e=>?_⟩,Acq (fun a _ c h=>(show c=_ from h)) bw.out⟩
    ·grind
    ·have h1:=by simpa[aV]using e
     grind
   have cb:=bx.out w3 _ be ca;go_roundw
   case rel=>exact⟨_,by omega,by rfl,cb,(aa.trans (be.mono aa.size)).setCell (show W1.heap.size≤g from bt) _⟩
   case measure=>simp[bL];omega
  ·have cc:k=c.tables.length:=by omega
   subst cc;have v5:¬(c.tables.length<(c.tables.length:Int)):=by omega
   have bf:IsL Ck (Fr W1.heap.size) wr (D zo c.tables.length zc) c.tables:=by
    obtain⟨cd,ce,h1,h2,h5⟩:=az.out;rw[cD]at h2;rw[cG]at h5;obtain rfl:ce=[]:=h5;rw[cV]at h1;exact⟨cd,Bq.of_own h1 fun _ h=>h,h2.mono fun k _ h=>h.1⟩
   obtain⟨ak,ah,ad⟩:=IsL.keep bo.out (Ai aa);have cf:=Se ak _ _ _ wr ah (Ww A01 ad) (by omega);have u1:=(aa.cell (show n<W1.heap.size by omega)).trans v1;have bg:=(aa.block _ (aC bR)).trans bR;have cg:Hid _:=ad;have ch:Hid _:=bf;clear ah ad bf;go_wp2_with(first
    |(go_fit cf;rintro e w7 ⟨v7,rfl,bh,aq⟩;obtain⟨xo,xc,rfl⟩:=Ex.shape (Ex.of_own bh);have bi:=(aq.block _ (aC bg)).trans bg)
    |(refine aB rfl 62 _ _ rfl w.heap.size #[D zo c.tables.length zc,D xo c.indexes.length xc] ?_ ?_ 62 #[D O 0 0,D O 0 0] ?_ ?_ ?_ ?_ ?_;exact rfl;exact rfl;exact bi;exact Anp;exact rfl;exact A28 _ _ _ _ _ _))
   refine aJ (v:=bE #[D zo c.tables.length zc,D xo c.indexes.length xc]) (aE Tryz.results19 _ _ w.heap.size 62 #[D zo c.tables.length zc,D xo c.indexes.length xc] _ _ rfl (Ao bi) Tryz.underlying62 rfl Anp) rfl ?_;have bj:Keeps (Fr W1.heap.size) w7 (w7.setRow w.heap.size #[D zo c.tables.length zc,D xo c.indexes.length xc]):=(Keeps.refl _ _).row (fun h=>by omega) _;have cj:IsL Eb (Fr _) w7 _ _:=⟨ak,Bq.of_own bh fun _ h=>aK aa.size h,Acq (fun a _ c h=>(show c=_ from h)) cg.out⟩;have bk:∀k,k<(w7.setRow w.heap.size #[D zo c.tables.length zc,D xo c.indexes.length xc]).heap.size→Fr _ k→Fr _ k:=fun k _ h=>aK ac.size h
   refine⟨_,_,rfl,((IsL.keep ch.out (Ai aq)).keep bj).mono bk,(cj.keep bj).mono bk,Below.row (ac.trans ((aa.trans (aq.mono aa.size)).mono ac.size)) (aF _) _⟩
theorem Aiy {w:bK}{g x o o'}(h:x≠g)(u v)(j):((w.setCell ⟨g,o,O⟩ u).setCell ⟨g,o',O⟩ v).cell? ⟨x,j,O⟩=w.cell? ⟨x,j,O⟩:=by
 simp[World.cell?,World.setCell,cJ,Ne.symm h]
def Afc (B:Nat)(z:bF)(T:List Pg)(k:Nat)(w:bK):Prop:=∃rs1 rs2:List (bF×bF),w.ownsRow B 91 2 z T.length (A4 (rs1++rs2))∧Kt (FO B z) w rs1 (T.take k)∧Kt (fun j=>Q j≠z.ownBlock) w rs2 (T.drop k)
theorem Anq {F}{w}:∀{rs:List (bF×bF)}{T:List Pg},Kt F w rs T→rs.length=T.length
 |[],[],_=>rfl
 |[],_::_,h=>h.elim
 |_::_,[],h=>h.elim
 |_::_,_::_,h=>by rw[aI,aI,Anq h.2.2]
theorem Abm {F}{w}:∀{rs qs:List (bF×bF)}{T U:List Pg},Kt F w rs T→Kt F w qs U→Kt F w (rs++qs) (T++U)
 |[],_,[],_,_,h=>h
 |[],_,_::_,_,h,_=>h.elim
 |_::_,_,[],_,h,_=>h.elim
 |_::_,_,_::_,_,h,h2=>⟨h.1,h.2.1,Abm h.2.2 h2⟩
theorem Wz (a b):A4 (a++b)=A4 a++A4 b:=by simp[A4]
theorem Afc.get {B}{z}{T}{k}{w}(h:Afc B z T k w){p}(hp:T[k]?=Q p):∃g cap kv vv,z=D (Q ⟨g,0,O⟩) T.length cap∧B≤g∧g<w.heap.size∧(∃ae,w.heap[g]?=Q (aD ae 91))∧w.cell? ⟨g,k*2,O⟩=Q kv∧w.cell? ⟨g,k*2+1,O⟩=Q vv∧Bq (fun j=>Q j≠z.ownBlock) 1 w kv p.K.length (p.K.map X)∧Bq (fun j=>Q j≠z.ownBlock) 1 w vv p.V.length (p.V.map X)∧
  ∀(w':bK) (u v:bF),Below w.heap.size w w'→Bq (FO B z) 1 w' u p.K.length (p.K.map X)→Bq (FO B z) 1 w' v p.V.length (p.V.map X)→Afc B z T (k+1) ((w'.setCell ⟨g,k*2,O⟩ u).setCell ⟨g,k*2+1,O⟩ v):=by
 obtain⟨aa,ab,h1,h2,h3⟩:=h;have hk:=(aY.1 hp).1;have ah:aa.length=k:=by rw[Anq h2,cF,Nat.min_eq_left (cC hk)]
 rw[Sq hp]at h3;cases ab with
 |nil=>exact h3.elim
 |cons r ab=>
 obtain⟨kv,vv⟩:=r;obtain⟨h4,h5,h6⟩:=h3;rcases h1.2 with⟨_,h0⟩|⟨g,cap,ae,rfl,hg,hh,hn,hm,hs,htk⟩
 ·omega
 have ac:(A4 aa).length=k*2:=by rw[Me,ah]
 have af:A4 (aa++(kv,vv)::ab)=A4 aa++([kv,vv]++A4 ab):=by rw[Wz];rfl
 have ag:∀j u,(A4 (aa++(kv,vv)::ab))[j]?=Q u→w.cell? ⟨g,j,O⟩=Q u:=fun j u hj=>by
  refine Aa hh ?_;grind
 have e0:(A4 (aa++(kv,vv)::ab))[k*2]?=Q kv:=by rw[af,aX (by omega),ac,cL];rfl
 have e1:(A4 (aa++(kv,vv)::ab))[k*2+1]?=Q vv:=by rw[af,aX (by omega),ac,show k*2+1-k*2=1 by omega];rfl
 refine⟨g,cap,kv,vv,rfl,hg,aC hh,⟨ae,hh⟩,ag _ _ e0,ag _ _ e1,h4,h5,fun w' u v hb hu hv=>?_⟩;have ai:((A4 (aa++(kv,vv)::ab)).set (k*2) u).set (k*2+1) v=A4 ((aa++[(u,v)])++ab):=by
  rw[af,bS _ _ (by omega),ac,cL,bS _ _ (by omega),ac,show k*2+1-k*2=1 by omega,Wz,Wz,cT];rfl
 have ad:∀{F},(∀j,F j→Q j≠(Value.slice (Q ⟨g,0,O⟩) T.length cap).ownBlock)→Keeps F w' ((w'.setCell ⟨g,k*2,O⟩ u).setCell ⟨g,k*2+1,O⟩ v):=fun hF=>((Keeps.refl _ _).set (fun h=>hF _ h (by rfl)) _ _).set (fun h=>hF _ h (by rfl)) _ _
 refine⟨aa++[(u,v)],ab,?_,?_,?_⟩
 ·have:=Zo (Zo (Ak h1 hb) (k*2) u) (k*2+1) v;rw[ai]at this;exact this
 ·rw[bN,hp];exact Abm ((h2.keep (Ai hb)).keep (ad fun j h=>h.2)) ⟨hu.keep (ad fun j h=>h.2),hv.keep (ad fun j h=>h.2),trivial⟩
 ·exact(h6.keep (Ai hb)).keep (ad fun j h=>h)
theorem Anr (L:List Wd):∀u∈L.map Value.string,u.oneCell'=aU:=fun u hu=>by
 obtain⟨s,_,rfl⟩:=List.mem_map.1 hu;rfl
theorem Afd {F}{w}:∀{rs:List (bF×bF)}{T:List Pg},Kt F w rs T→∀u∈A4 rs,u.oneCell'=aU
 |[],[],_,u,hu=>by cases hu
 |[],_::_,h,_,_=>h.elim
 |_::_,[],h,_,_=>h.elim
 |r::rs,p::T,h,u,hu=>by
  obtain⟨a1,c1,e1⟩:=h.1.shape;obtain⟨a2,c2,e2⟩:=h.2.1.shape;have:A4 (r::rs)=r.1::r.2::A4 rs:=rfl;rw[this]at hu;rcases cA.1 hu with rfl|hu
  ·rw[e1];rfl
  ·rcases cA.1 hu with rfl|hu
   ·rw[e2];rfl
   ·exact Afd h.2.2 u hu
theorem A29 (a)(n n'):(#[D a n n']:Array bF).all (·.oneCell')=aU:=by simp[bD]
theorem Aiz:(Tryz.prog.info? 65).map (·.size)=Q 1:=by kernel_rfl
theorem Acr {E:List Nat}{n:Nat}{c:CatD}{T:List Pg}{a:Int}{bn io po:Option Addr}{tc ic pc:Nat}{w:bK}(he:EngC E w n c T a (D bn c.tables.length tc) (D io c.indexes.length ic) (D po T.length pc))(hT:T.length≤1000):
  bG aL 22 #[bH (Q ⟨n,0,O⟩)] w fun e w'=>∃zo zc,e=aP (bE #[D zo T.length zc])∧Kf (Fr w.heap.size) w' (D zo T.length zc) T∧Below w.heap.size w w':=by
 have av:Hid (∀p∈T,p.ok):=he.good.1;obtain⟨ae,bR,bo⟩:=al1 w (aD #[D O 0 0] 65);have ai:=he.below ae;have cd:n<w.heap.size:=he.lt;generalize hW:w.alloc (aD #[D O 0 0] 65)=W1 at ae bR ai bo;have HW:Hid _:=hW;have v2:=Aa ai.blk (j:=2) rfl;obtain⟨ak,aw,al⟩:=ai.pages;have ax:=Ano (A4 ak) T.length _ _ W1 aw (Afd al) (by omega);have ay:Hid _:=al;clear hW he aw al ai;go_enter Tryz.func22,Tryz.ntmps22;go_upto_region 1 with fail;rw[HW.out];go_upto_region 4 with(go_fit ax;rintro e w2 ⟨z,rfl,aj,az⟩);obtain⟨zo,zc,rfl⟩:=Ex.shape (Ex.of_own aj);have ba:Afc W1.heap.size (D zo T.length zc) T 0 w2:=by
  refine⟨[],ak,aj,trivial,?_⟩;have h5:Kt (fun k=>k<W1.heap.size) W1 ak T:=Kt.mono (fun k hk _=>hk) ay.out;refine(h5.keep (Ae az)).mono fun k _ hk e=>?_
  have:=(aj.lt k e.symm).1;omega
 have bp:Hid _:=ba;clear ba aj ax ay;go_wp2_with fail
 go_loopw[17] (fun i wr=>∃k:Nat,k≤T.length∧i=H J k∧Hid (Afc W1.heap.size (D zo T.length zc) T k wr)∧Below W1.heap.size W1 wr) (fun i _=>T.length-(bL i).toNat)
 case atStart=>exact⟨0,aO _,rfl,bp,az⟩
 case round=>
  obtain⟨k,hk,rfl,bb,af⟩:=hrel
  by_cases bq:k<T.length
  ·obtain⟨p,hx⟩:∃x,T[k]?=Q x:=⟨_,aH bq⟩;obtain⟨g,cap,kv,vv,hz,bc,ag,⟨ce,bd⟩,d0,d1,am,an,be⟩:=bb.out.get hx;cases hz;obtain⟨y1,z1,rfl⟩:=am.shape;obtain⟨y2,z2,rfl⟩:=an.shape;have bt:=(av.out p (aS hx)).2.1;have cf:p.V.length≤4:=by rw[(av.out p (aS hx)).2.2];exact bt
   obtain⟨aa,bX,-⟩:=al1 wr (aD #[D y1 p.K.length z1,D y2 p.V.length z2] 91);have ap:=(aa.block g ag).trans bd;have e0:=(aa.cell ag).trans d0;have e1:=(aa.cell ag).trans d1;have x0:=Aa bX (j:=0) rfl;have x1:=Aa bX (j:=1) rfl;have ac:=aC bX;have ah:=aZ ag aa.size;have aq:=(Nat.ne_of_lt ag).symm;have ar:=am.keep (Ai aa);have au:=an.keep (Ai aa);have bu:Hid _:=be;have bv:=af.size;have v5:(0:Int)≤k:=by omega
   have v6:k<(T.length:Int):=by omega
   clear am an be hx bd;go_upto_region 7 with fail;have bf:=aa.size;generalize wr.alloc _=wb at aa bX ap e0 e1 x0 x1 ac ah ar au bf⊢;generalize wr.heap.size=gX at bX x0 x1 ac aq bv bf⊢;have bg:=fun W h=>Zn _ _ _ _ W (ar.keep (Ai h)) (Anr _) (by omega)
   have bh:=fun W h=>Zn _ _ _ _ W (au.keep (Ai h)) (Anr _) (by omega)
   clear ar au;refine wp_region_held_drew (S:=(fun W=>W.cell? ⟨gX,0,O⟩=Q (D y1 p.K.length z1)∧W.cell? ⟨gX,1,O⟩=Q (D y2 p.V.length z2))) (by rfl) ?_ (fun hHeld=>?_)
   ·simp_all
   refine tk 0 ?_;refine tk 1 ?_;refine tk 2 ?_;refine tk 3 ?_;refine tk 5 ?_;refine tk 6 ?_;refine Bi 4 (fun K hK=>?_);go_simp
   (refine(bg _ (aQ _ _).drew).mono ?_;rintro e w3 ⟨v3,rfl,bi,bw⟩;obtain⟨ko,kc,rfl⟩:=Ex.shape (Ex.of_own bi);have ad:=Ac (aQ _ _).drew bw)
   go_wp2_with fail;refine hK.out _ _ ?_ (fun hHeld=>?_)
   ·exact⟨(ad.cell ac).trans x0,(ad.cell ac).trans x1⟩
   clear hK K;refine Bi 7 (fun K hK=>?_);go_simp
   (refine(bh _ ad).mono ?_;rintro e w4 ⟨v4,rfl,bj,bk⟩;obtain⟨vo,vc,rfl⟩:=Ex.shape (Ex.of_own bj);have ab:=Ac ad bk;have y8:=(ab.cell ah).trans e0;have y9:=(ab.cell ah).trans e1;have z8:w4.frozen? ⟨g,k*2,O⟩=cN:=(by simp[bW,(ab.block g ah).trans ap]);have z9:w4.frozen? ⟨g,k*2+1,O⟩=cN:=(by simp[bW,(ab.block g ah).trans ap]))
   go_wp2_with fail;refine hK.out _ _ ?_ (fun hHeld=>?_)
   ·exact⟨(ab.cell ac).trans x0,(ab.cell ac).trans x1⟩
   clear hK K;refine tk 8 ?_;refine tk 9 ?_;refine Bi 10 (fun K hK=>?_);go_simp;go_wp2_with fail;refine hK.out _ _ ?_ (fun hHeld=>?_)
   ·exact⟨(Aiy aq _ _ _).trans ((ab.cell ac).trans x0),(Aiy aq _ _ _).trans ((ab.cell ac).trans x1)⟩
   clear hK K;refine wpAnyH_done (by kernel_rfl) ?_ _;have hB:=Ac aa ab;have hu:Bq (FO W1.heap.size (D (Q ⟨g,0,O⟩) T.length zc)) 1 w4 _ _ _:=Bq.of_own (Ak bi bk) fun q hq=>⟨by have:wb.heap.size≤q:=hq;omega,fun e=>by
    have h1:=by simpa[aV]using e
    have:wb.heap.size≤q:=hq;omega⟩
   have hv:Bq (FO W1.heap.size (D (Q ⟨g,0,O⟩) T.length zc)) 1 w4 _ _ _:=Bq.of_own bj fun q hq=>⟨by have:=ad.size;omega,fun e=>by
    have h1:=by simpa[aV]using e
    have:=ad.size;omega⟩
   have bx:=bu.out w4 _ _ hB hu hv;clear bg bh;go_wp2_with fail;go_roundw
   case rel=>exact⟨_,by omega,by rfl,bx,((af.trans (hB.mono af.size)).setCell (show W1.heap.size≤g from bc) _).setCell (show W1.heap.size≤g from bc) _⟩
   case measure=>simp[bL];omega
  ·have bz:k=T.length:=by omega
   subst bz;have v5:¬(T.length<(T.length:Int)):=by omega
   have ca:Kf (Fr W1.heap.size) wr (D zo T.length zc) T:=by
    obtain⟨cb,bl,h1,h2,h5⟩:=bb.out;rw[cD]at h2;rw[cG]at h5;cases bl with
    |cons r bl=>exact h5.elim
    |nil=>
     rw[cV]at h1;exact⟨cb,Bq.of_own h1 fun _ h=>h,h2.mono fun k _ h=>h.1⟩
   have bm:=(af.block _ (aC bR)).trans bR;go_wp2_with(refine aB rfl 65 _ _ rfl w.heap.size #[D zo T.length zc] ?_ ?_ 65 #[D O 0 0] ?_ ?_ ?_ ?_ ?_;exact rfl;exact rfl;exact bm;exact Aiz;exact rfl;exact A29 _ _ _);refine aJ (v:=bE #[D zo T.length zc]) (aE Tryz.results22 _ _ w.heap.size 65 #[D zo T.length zc] _ _ rfl (Ao bm) Tryz.underlying65 rfl Aiz) rfl ?_;have cc:Keeps (Fr W1.heap.size) wr (wr.setRow w.heap.size #[D zo T.length zc]):=(Keeps.refl _ _).row (fun h=>by omega) _;exact⟨zo,zc,rfl,(ca.keep cc).mono fun k _ h=>aK ae.size h,Below.row (ae.trans (af.mono ae.size)) (aF _) _⟩
theorem Axx {w}{ao}{n c i}{T}{p}(h:Ba w (D ao n c) T)(hi:T[i]?=Q p):∃b aa ka kc va vc,ao=Q ⟨b,aa,O⟩∧b<w.heap.size∧w.cell? ⟨b,aa+i*2,O⟩=Q (D ka p.K.length kc)∧w.cell? ⟨b,aa+i*2+1,O⟩=Q (D va p.V.length vc)∧An w (D ka p.K.length kc) p.K∧An w (D va p.V.length vc) p.V:=by
 obtain⟨b,aa,cap,e,hb,_,_,hT⟩:=h.at (by have:=(aY.1 hi).1;omega);simp only[Value.slice.injEq]at e;obtain⟨kv,vv,c0,c1,hk,hv⟩:=hT i p hi;obtain⟨ka,kc,rfl⟩:=hk.shape;obtain⟨va,vc,rfl⟩:=hv.shape;grind
def tx (l:List (Wd×Wd)):List Wd:=l.flatMap fun x=>[x.1,x.2]
theorem Axy (l):(tx l).length=2*l.length:=by
 induction l with
 |nil=>rfl
 |cons a l ih=>simp only[tx,List.flatMap_cons,aG,aI,List.length_nil]at ih⊢;omega
theorem A3a (l)(a b):tx (l++[(a,b)])=tx l++[a]++[b]:=by simp[tx]
def Lw (T:List Pg)(k:Nat)(p:Pg)(q:Nat):List (Wd×Wd):=flat (T.take k)++(p.K.zip p.V).take q
theorem Ap6 {T}{k}{p}(hp:T[k]?=Q p):flat T=flat (T.take k)++(p.K.zip p.V++flat (T.drop (k+1))):=by
 obtain⟨h1,rfl⟩:=aY.1 hp
 conv=>lhs;rw[←List.take_append_drop k T]
 rw[Bh,List.drop_eq_getElem_cons h1,Fa]
theorem At9 {T}{k q:Nat}{p:Pg}{a b:Wd}(ha:p.K[q]?=Q a)(hb:p.V[q]?=Q b):Lw T k p (q+1)=Lw T k p q++[(a,b)]:=by
 have hz:(p.K.zip p.V)[q]?=Q (a,b):=by rw[List.getElem?_zip_eq_some];exact⟨ha,hb⟩
 unfold Lw;rw[bN,hz,cT];rfl
theorem Aua (T)(k)(p):Lw T k p 0=flat (T.take k):=by simp[Lw]
theorem Axz {T}{k}{p}(hp:T[k]?=Q p):Lw T k p p.K.length=flat (T.take (k+1)):=by
 unfold Lw;rw[List.take_of_length_le (l:=p.K.zip p.V) (by grind),bN,hp,Bh];simp[flat]
theorem Ax0 {T}{k q}{p}(hp:T[k]?=Q p):(Lw T k p q).length≤(flat T).length:=by
 rw[Ap6 hp,Lw,aG,aG,aG,cF];omega
theorem A3b:(Tryz.prog.info? 9).map (fun i=>(i.zero,i.size,i.bytes))=Q (Q (X ⟨#[]⟩),1,16):=by kernel_rfl
theorem A3c {w:bK}{base n g}{t t'}{size}{z}{cs}{arr}(own:w.ownsRow base t size z n cs)(pb:w.heap[g]?=Q (aD arr t'))(ht:t≠t'):Q g≠z.ownBlock:=fun e=>by
 rcases own.2 with⟨h,_⟩|⟨b,cap,cur,rfl,_,hh,_⟩
 ·rw[h]at e;cases e
 ·have:=by simpa[aV]using e
  grind
theorem Afe {w wr W w3}{P n:Nat}{z}{cs}{a b}(own:wr.ownsRow w.heap.size 9 1 z n cs)(hW:Below wr.heap.size wr W)(pb:wr.heap[P]?=Q (aD #[a,b] 91))(hb:Below w.heap.size w wr)(gr:W.grownBy w3 z.ownBlock):
  w3.heap[P]?=Q (aD #[a,b] 91)∧Below w.heap.size w w3:=by
 have lP:=aC pb;have hs:=hW.size;refine⟨(gr.block _ (by omega) (A3c own pb (by simp))).trans ((hW.block _ lP).trans pb),?_⟩;exact(hb.trans (hW.mono hb.size)).grown gr (by have:=hb.size;omega) (fun j hj=>(own.lt j hj).1)
theorem Abn (T:List Pg)(so:Option Addr)(sc:Nat)(w:bK)(h:Ba w (D so T.length sc) T)(hg:As T)(hf:(flat T).length≤450):
  bG aL 21 #[bE #[D so T.length sc]] w fun e w'=>∃v,e=aP v∧An w' v (tx (flat T))∧Below w.heap.size w w':=by
 obtain⟨i0,ak,al,am,an⟩:=cH A3b;have ca:T.length≤450:=aK (Jb hg) hf;have ap:Hid (∀p∈T,p.ok):=hg.1;have HF:Hid ((flat T).length≤450):=hf;have aq:=Aq w (aD #[D so T.length sc] 65);have c0:=Aa (Ab w (aD #[D so T.length sc] 65)) (j:=0) rfl;have HS:Hid _:=h;generalize hW:w.alloc (aD #[D so T.length sc] 65)=W1 at aq c0;have HW:Hid _:=hW;clear hW h hg hf;go_enter Tryz.func21,Tryz.ntmps21;go_upto_region 1 with fail;rw[HW.out];go_wp2_with fail
 go_loopw[3,11] (fun zv i wr=>∃(k M:Nat) (cs:List bF),k≤T.length∧i=H J k∧Hid (M=(tx (flat (T.take k))).length∧cs=(tx (flat (T.take k))).map X)∧wr.ownsRow w.heap.size 9 1 zv M cs∧Below w.heap.size w wr) (fun _ i _=>T.length-(bL i).toNat)
 case atStart=>exact⟨0,0,[],aO _,rfl,⟨by rw[List.take_zero];rfl,by rw[List.take_zero];rfl⟩,bC _ _ _ _,aq⟩
 case round=>
  obtain⟨k,M,cs,hk,rfl,HM,ac,aa⟩:=hrel
  by_cases bf:k<T.length
  ·obtain⟨p,hp⟩:∃p,T[k]?=Q p:=⟨_,aH bf⟩;obtain⟨ba,oa,ka,kc,va,vc,bg,ar,bh,bi,au,av⟩:=Axx HS.out hp;cases bg;have a0:=(aa.cell (p:=⟨ba,_,O⟩) ar).trans bh;have a1:=(aa.cell (p:=⟨ba,_,O⟩) ar).trans bi;have cb:p.K.length≤4:=(ap.out p (aS hp)).2.1;have ad:Hid (p.V.length=p.K.length):=(ap.out p (aS hp)).2.2;obtain⟨ae,bX,-⟩:=al1 wr (aD #[D ka p.K.length kc,D va p.V.length vc] 91);have x0:=Aa bX (j:=0) rfl;have v0:(0:Int)≤(k:Int):=by omega
   have v1:(k:Int)<(T.length:Int):=by omega
   have HP:Hid _:=hp;have bj:Hid _:=au;have bk:Hid _:=av;have aw:=Ak ac ae;have ax:=aa.trans (ae.mono aa.size);clear au av hp ac;go_upto_region 5 with fail;generalize wr.alloc (aD #[D ka p.K.length kc,D va p.V.length vc] 91)=wb at ae bX x0 aw ax⊢;generalize wr.heap.size=P at bX x0⊢;go_wp2_with fail
   go_loopw[3,18] (fun zv i wq=>∃(q M:Nat) (cs:List bF),q≤p.K.length∧i=H J q∧Hid (M=(tx (Lw T k p q)).length∧cs=(tx (Lw T k p q)).map X)∧wq.ownsRow w.heap.size 9 1 zv M cs∧wq.heap[P]?=Q (aD #[D ka p.K.length kc,D va p.V.length vc] 91)∧Below w.heap.size w wq) (fun _ i _=>p.K.length-(bL i).toNat)
   case atStart=>exact⟨0,M,cs,aO _,rfl,by show _∧_;rw[Aua];exact HM.out,aw,bX,ax⟩
   case round=>
    obtain⟨q,M2,bl,hq,rfl,af,ag,bP,ab⟩:=hrel
    by_cases ay:q<p.K.length
    ·obtain⟨a,ha⟩:∃a,p.K[q]?=Q a:=⟨_,aH ay⟩;obtain⟨b,hb⟩:∃b,p.V[q]?=Q b:=⟨_,aH (by rw[ad.out];exact ay)⟩;obtain⟨kb,ko,cc,bm,bn,_,_,az⟩:=An.at bj.out (by omega);cases bm;obtain⟨vb,vo,cd,bo,bp,_,_,bb⟩:=An.at bk.out (by rw[ad.out];omega);cases bo;have k0:=(ab.cell bn).trans (az q a ha);have k1:=bb q b hb;have bc:Hid (tx (Lw T k p (q+1))=tx (Lw T k p q)++[a]++[b]):=by show _=_;rw[At9 ha hb,A3a]
     have ce:M2≤900:=by
      have h1:=af.out.1;rw[Axy]at h1;have h2:=Ax0 (q:=q) HP.out;have h3:=HF.out;omega
     have v3:(0:Int)≤q:=by omega
     have v4:q<(p.K.length:Int):=by omega
     have v5:q<(p.V.length:Int):=by rw[ad.out];omega
     have ah:=Aq wr (aD [X a].toArray 9);clear ha hb az bb;go_wp2_with(at_builtin;go_must(refine aT _ rfl _ _ 43 rfl _ 9 i0 _ 1 16 bM ak al am an rfl (by simp) _ _ _ rfl (Ak ag ah) _ 1 1 _ rfl rfl (Cb wr [.string a] 9) ?h1 (by simp only[bI];omega) (by omega) (aK ab.size ah.size) ?h2))
     case h1=>simp only[bV];repeat(first|exact fun _ h=>absurd h cE|refine⟨rfl,?_⟩)
     case h2=>
      intro z4 w4 bd bq _ _;obtain⟨be,ai⟩:=Afe ag ah bP ab bq;have x4:=Aa be (j:=1) rfl;have k4:=(ai.cell bp).trans k1;have aj:=Aq w4 (aD [X b].toArray 9);go_wp2_with(at_builtin;go_must(refine aT _ rfl _ _ 43 rfl _ 9 i0 _ 1 16 bM ak al am an rfl (by simp) _ _ _ rfl (Ak bd aj) _ 1 1 _ rfl rfl (Cb w4 [.string b] 9) ?h3 (by simp only[bI];omega) (by omega) (aK ai.size aj.size) ?h4))
      case h3=>simp only[bV];repeat(first|exact fun _ h=>absurd h cE|refine⟨rfl,?_⟩)
      case h4=>
       intro z6 w6 bt bu _ _;obtain⟨bv,bw⟩:=Afe bd aj be ai bu;go_wp2_with fail;go_roundw
       case rel=>exact⟨q+1,_,_,by omega,by rfl,⟨by rw[bc.out,af.out.1];simp,by rw[bc.out,af.out.2];simp⟩,bt,bv,bw⟩
       case measure=>simp[bL];omega
    ·have bx:q=p.K.length:=by omega
     subst bx;have v4:¬(p.K.length<(p.K.length:Int)):=by omega
     go_wp2;go_roundw
     case rel=>exact⟨k+1,M2,bl,by omega,by rfl,by show _∧_;rw[←Axz HP.out];assumption,ag,ab⟩
     case measure=>simp[bL];omega
  ·have bz:k=T.length:=by omega
   subst bz;have v1:¬(T.length<(T.length:Int)):=by omega
   go_wp2;go_ret;obtain⟨h1,h2⟩:=HM.out;rw[cD]at h1 h2;refine⟨_,rfl,?_,aa⟩;have:=Ex.of_own ac;rw[h1,h2]at this;exact this
def A3d (w:bK)(ao:Option Addr)(T:List TabD):Prop:=∀(k:Nat) (x:TabD),T[k]?=Q x→∃b off so sc,ao=Q ⟨b,off,O⟩∧b<w.heap.size∧w.cell? ⟨b,off+k*2,O⟩=Q (X x.name)∧w.cell? ⟨b,off+k*2+1,O⟩=Q (D so x.cols.length sc)∧∀(j:Nat) (y:ColD),x.cols[j]?=Q y→∃b' off',so=Q ⟨b',off',O⟩∧b'<w.heap.size∧w.cell? ⟨b',off'+j*3,O⟩=Q (X y.name)∧w.cell? ⟨b',off'+j*3+1,O⟩=Q (H J y.ty)∧w.cell? ⟨b',off'+j*3+2,O⟩=Q (bJ y.must)
theorem Ark {F}{w}{ao}{n c}{T}(h:IsL Ck F w (D ao n c) T):A3d w ao T:=fun k x hx=>by
 obtain⟨b,ad,cs,ae,_,af,⟨sv,rfl,ab⟩,ac⟩:=At h hx;obtain⟨so,sc,rfl⟩:=ab.shape;refine⟨b,ad,so,sc,ae,af,ac 0 _ rfl,ac 1 _ rfl,fun j y hy=>?_⟩;obtain⟨b',ag,aj,ah,_,ai,hR,aa⟩:=At ab hy;obtain rfl:=hR;exact⟨b',ag,ah,ai,aa 0 _ rfl,aa 1 _ rfl,aa 2 _ rfl⟩
def A3e (w:bK)(ao:Option Addr)(I:List IdxD):Prop:=∀(k:Nat) (x:IdxD),I[k]?=Q x→∃b off,ao=Q ⟨b,off,O⟩∧b<w.heap.size∧w.cell? ⟨b,off+k*3,O⟩=Q (X x.name)∧w.cell? ⟨b,off+k*3+1,O⟩=Q (X x.table)∧w.cell? ⟨b,off+k*3+2,O⟩=Q (X x.col)
theorem Arl {F}{w}{ao}{n c}{I}(h:IsL Eb F w (D ao n c) I):A3e w ao I:=fun k x hx=>by
 obtain⟨b,ab,cs,ac,_,ad,ae,aa⟩:=At h hx;obtain rfl:=ae;exact⟨b,ab,ac,ad,aa 0 _ rfl,aa 1 _ rfl,aa 2 _ rfl⟩
theorem Aub (A:CatD)(va vb:bF)(F G:Nat→Prop)(w:bK)(ha:Hq F w A va)(hb:Hq G w A vb)(hg:Dv A=aU):
  bG aL 18 #[va,vb] w fun e w'=>e=aP (bJ aU)∧Below w.heap.size w w':=by
 have bb:A.tables.length≤3:=((Cw A).1 hg).1;have bc:A.indexes.length≤4:=((Cw A).1 hg).2.1;have aj:Hid (∀x∈A.tables,x.cols.length≤4):=fun t ht=>(Hf hg ht).2
 clear hg;obtain⟨T,I⟩:=A;obtain⟨tv,iv,rfl,hl,hi⟩:=ha;obtain⟨uv,jv,rfl,hu,hj⟩:=hb;simp only at hl hi hu hj bb bc aj;obtain⟨ak,tc,rfl⟩:=hl.shape;obtain⟨io,ic,rfl⟩:=hi.shape;obtain⟨uo,uc,rfl⟩:=hu.shape;obtain⟨jo,jc,rfl⟩:=hj.shape;have HT:Hid _:=Ark hl;have HU:Hid _:=Ark hu;have HI:Hid _:=Arl hi;have HJ:Hid _:=Arl hj;obtain⟨af,-,bB,-⟩:=al2 w (aD #[D ak T.length tc,D io I.length ic] 62) (aD #[D uo T.length uc,D jo I.length jc] 62);have bA:=Ad (Ab w (aD #[D ak T.length tc,D io I.length ic] 62)) (aD #[D uo T.length uc,D jo I.length jc] 62);generalize hW:(w.alloc (aD #[D ak T.length tc,D io I.length ic] 62)).alloc (aD #[D uo T.length uc,D jo I.length jc] 62)=W2 at af bA bB;have HW:Hid _:=hW;clear hW hl hi hu hj;have a0:=Aa bA (j:=0) rfl;have a1:=Aa bA (j:=1) rfl;have b0:=Aa bB (j:=0) rfl;have b1:=Aa bB (j:=1) rfl;go_enter Tryz.func18,Tryz.ntmps18;go_upto_region 1 with fail;rw[HW.out];go_wp2
 go_loopw[28] (fun i wr=>∃k:Nat,k≤T.length∧i=H J k∧Below W2.heap.size W2 wr) (fun i _=>T.length-(bL i).toNat)
 case atStart=>exact⟨0,aO _,rfl,aQ _ _⟩
 case round=>
  obtain⟨k,hk,rfl,ag⟩:=hrel;obtain⟨wo,bd⟩:∃wo,wo=wr:=⟨_,rfl⟩;subst bd;have al:Below w.heap.size w wo:=af.trans (ag.mono af.size);have bj:=af.size;have be:=ag.size;have bf:=(ag.block _ (aC bA)).trans bA;have ar:=(ag.block _ (aC bB)).trans bB
  by_cases am:k<T.length
  ·obtain⟨x,hx⟩:∃x,T[k]?=Q x:=⟨_,aH am⟩;obtain⟨b,au,so,sc,ab,av,g0,g1,aw⟩:=HT.out k x hx;cases ab;obtain⟨d,an,bk,bl,ab,ap,h0,h1,ax⟩:=HU.out k x hx;cases ab;obtain⟨ay,bX,-⟩:=al1 wo (aD #[X x.name,D so x.cols.length sc] 82);have ah:Below w.heap.size w (wo.alloc (aD #[X x.name,D so x.cols.length sc] 82)):=al.alloc (by omega) _;have d0:=(al.cell (p:=⟨b,au+k*2,O⟩) av).trans g0;have d1:=(al.cell (p:=⟨b,au+k*2+1,O⟩) av).trans g1;have e0:=(ah.cell (p:=⟨d,an+k*2,O⟩) ap).trans h0;have e1:=(ah.cell (p:=⟨d,an+k*2+1,O⟩) ap).trans h1;have aq:=(ay.block _ (aC ar)).trans ar;have f0:=Aa aq (j:=0) rfl;have f1:=Aa bX (j:=0) rfl;have f2:=Aa bX (j:=1) rfl;have v0:(0:Int)≤(k:Int):=by omega
   have v1:(k:Int)<(T.length:Int):=by omega
   have bm:=aj.out x (aS hx);have bg:Hid _:=aw;have bh:Hid _:=ax;clear aw ax hx g0 g1 h0 h1;generalize az:wo.alloc (aD #[X x.name,D so x.cols.length sc] 82)=Wx at*;go_wp2_with fail
   try rw[az]
   have ba:Below W2.heap.size W2 Wx:=ag.trans (ay.mono be);clear az;go_quiet(fail);go_wp2
   go_loopw[58] (fun i wr=>∃k2:Nat,k2≤x.cols.length∧i=H J k2∧Below Wx.heap.size Wx wr) (fun i _=>x.cols.length-(bL i).toNat)
   case atStart=>exact⟨0,aO _,rfl,bO (aQ _ _) _⟩
   case round=>
    obtain⟨k2,bn,rfl,ac⟩:=hrel;have aa:Below w.heap.size w wr:=ah.trans (ac.mono ah.size)
    by_cases bi:k2<x.cols.length
    ·obtain⟨p,hp⟩:∃p,x.cols[k2]?=Q p:=⟨_,aH bi⟩;obtain⟨pb,po,ab,ad,p0,p1,p2⟩:=bg.out k2 p hp;cases ab;obtain⟨qb,qo,ab,ae,q3,q4,q5⟩:=bh.out k2 p hp;cases ab;have m0:=(aa.cell ad).trans p0;have m1:=(aa.cell ad).trans p1;have m2:=(aa.cell ad).trans p2;have m3:=(aa.cell ae).trans q3;have m4:=(aa.cell ae).trans q4;have m5:=(aa.cell ae).trans q5;have r0:=Aa ((ac.block _ (aC bX)).trans bX) (j:=1) rfl;have r1:=Aa ((ac.block _ (aC aq)).trans aq) (j:=0) rfl;have r2:=(ac.cell (p:=⟨d,an+k*2+1,O⟩) (aZ ap ah.size)).trans e1;have u0:(0:Int)≤k2:=by omega
     have u1:k2<(x.cols.length:Int):=by omega
     clear hp p0 p1 p2 q3 q4 q5;obtain⟨pn,pt,pm⟩:=p;simp only at m0 m1 m2 m3 m4 m5;go_wp2_with fail;go_quiet(fail);go_wp2;go_roundw
     case rel=>exact⟨k2+1,by omega,by go_num,bO ac _⟩
     case measure=>simp[bL];omega
    ·have ai:k2=x.cols.length:=by omega
     subst ai;have u1:¬((x.cols.length:Int)<(x.cols.length:Int)):=by omega
     go_wp2;go_roundw
     case rel=>exact⟨k+1,by omega,by go_num,ba.trans (ac.mono ba.size)⟩
     case measure=>simp[bL];omega
  ·have ai:k=T.length:=by omega
   subst ai;have v1:¬((T.length:Int)<(T.length:Int)):=by omega
   have e0:=Aa bf (j:=1) rfl;clear HT HU aj;go_wp2
   go_loopw[81] (fun i wr=>∃k:Nat,k≤I.length∧i=H J k∧Below W2.heap.size W2 wr) (fun i _=>I.length-(bL i).toNat)
   case atStart=>exact⟨0,aO _,rfl,ag⟩
   case round=>
    obtain⟨k,hk,rfl,ac⟩:=hrel;have aa:Below w.heap.size w wr:=af.trans (ac.mono af.size)
    by_cases am:k<I.length
    ·obtain⟨x,hx⟩:∃x,I[k]?=Q x:=⟨_,aH am⟩;obtain⟨pb,po,ab,ad,p0,p1,p2⟩:=HI.out k x hx;cases ab;obtain⟨qb,qo,ab,ae,q3,q4,q5⟩:=HJ.out k x hx;cases ab;have m0:=(aa.cell ad).trans p0;have m1:=(aa.cell ad).trans p1;have m2:=(aa.cell ad).trans p2;have m3:=(aa.cell ae).trans q3;have m4:=(aa.cell ae).trans q4;have m5:=(aa.cell ae).trans q5;have r0:=Aa ((ac.block _ (aC bA)).trans bA) (j:=1) rfl;have r1:=Aa ((ac.block _ (aC bB)).trans bB) (j:=1) rfl;have u0:(0:Int)≤k:=by omega
     have u1:k<(I.length:Int):=by omega
     clear hx p0 p1 p2 q3 q4 q5;obtain⟨pn,pt,pm⟩:=x;simp only at m0 m1 m2 m3 m4 m5;go_wp2_with fail;go_quiet(fail);go_wp2;go_roundw
     case rel=>exact⟨k+1,by omega,by rfl,bO ac _⟩
     case measure=>simp[bL];omega
    ·have ai:k=I.length:=by omega
     subst ai;have v1:¬(I.length<(I.length:Int)):=by omega
     go_wp2;go_ret;exact⟨rfl,aa⟩
theorem Ans (L:List Wd)(va vb:bF)(w:bK)(ha:An w va L)(hb:An w vb L)(hl:L.length≤1000000):
  bG aL 20 #[va,vb] w fun e w'=>e=aP (bJ aU)∧Below w.heap.size w w':=by
 obtain⟨ao,ac,rfl⟩:=Ex.shape ha;obtain⟨bo,bc,rfl⟩:=Ex.shape hb;have HA:Hid _:=ha;have HB:Hid _:=hb;clear ha hb;go_enter Tryz.func20,Tryz.ntmps20;go_wp2_with fail
 go_loopw[13] (fun i wr=>∃k:Nat,k≤L.length∧i=H J k∧Below w.heap.size w wr) (fun i _=>L.length-(bL i).toNat)
 case atStart=>exact⟨0,aO _,rfl,aQ _ _⟩
 case round=>
  obtain⟨k,hk,rfl,aa⟩:=hrel
  by_cases af:k<L.length
  ·obtain⟨s,hs⟩:∃s,L[k]?=Q s:=⟨_,aH af⟩;obtain⟨b1,o1,c1,ab,ag,_,_,ad⟩:=An.at HA.out (by omega);cases ab;obtain⟨b2,o2,c2,ab,ah,_,_,ae⟩:=An.at HB.out (by omega);cases ab;have m0:=(aa.cell ag).trans (ad k s hs);have m1:=(aa.cell ah).trans (ae k s hs);have u0:(0:Int)≤k:=by omega
   have u1:k<(L.length:Int):=by omega
   clear hs ad ae;go_wp2_with fail;go_quiet(fail);go_wp2;go_roundw
   case rel=>exact⟨k+1,by omega,by rfl,bO aa _⟩
   case measure=>simp[bL];omega
  ·have ai:k=L.length:=by omega
   subst ai;have v1:¬(L.length<(L.length:Int)):=by omega
   go_wp2;go_ret;exact⟨rfl,aa⟩
theorem A3f {d}{T U}(hT:As T)(hU:As U)(h1:Has d (flat T))(h2:Has d (flat U)):flat T=flat U:=by
 have aa:∀a b:Wd×Wd,klt a.1 b.1=aU→¬klt b.1 a.1=aU:=fun a b h1 h2=>by rw[Kx h1]at h2;grind
 refine Y3 (r:=fun a b=>klt a.1 b.1=aU) aa ?_ ?_ fun x=>(h1 x).trans (h2 x).symm
 ·have:=hT.rise;grind
 ·have:=hU.rise;grind
theorem Agp {E}{n m}{d}{a b}{q r}{w}(h1:Dt E w n d a q)(h2:Dt E w m d b r)(ok:DbOk d):
  bG aL 11 #[bH (Q ⟨n,0,O⟩),bH (Q ⟨m,0,O⟩)] w fun e w'=>e=aP (bJ aU)∧Below w.heap.size w w':=by
 obtain⟨T,bz,tc,io,ic,po,pc,he,hh,_⟩:=h1;obtain⟨U,uo,uc,jo,jc,ro,rc,hu,hv,_⟩:=h2;have aa:=Lv ok he.good hh;have ab:=Lv ok hu.good hv;have hT:=aK (Jb he.good) aa;have hU:=aK (Jb hu.good) ab;have al:Hid _:=A3f he.good hu.good hh hv;have am:=Abl he ok.cat;have an:=fun W (h:Below _ w W)=>Abl (hu.below h) ok.cat
 have ap:=fun W (h:Below _ w W)=>Acr (he.below h) (by omega)
 have aq:=fun W (h:Below _ w W)=>Acr (hu.below h) (by omega)
 have ar:Hid _:=he.good;have au:Hid _:=hu.good;have av:Hid _:=ok.cat;have ad:Hid _:=aa;have aw:Hid _:=ab;clear he hu hh hv aa ab ok;go_enter Tryz.func11,Tryz.ntmps11;go_wp2_with(first
  |(go_fit am;rintro e w1 ⟨ax,ay,rfl,az,ba,ae⟩)
  |(go_fit(an w1 ae);rintro e w2 ⟨bb,bc,rfl,bd,be,ac⟩;have hS:=Aub d.c _ _ _ _ w2 ⟨ax,ay,rfl,az.keep (Ai ac),ba.keep (Ai ac)⟩ ⟨bb,bc,rfl,bd,be⟩ av.out;have bf:=Ac ae ac)
  |(go_fit hS;rintro e w3 ⟨rfl,bg⟩;have af:=Ac bf bg)
  |(go_fit(ap w3 af);rintro e w4 ⟨bh,bi,rfl,bj,bk⟩;have bl:=Ac af bk;have bm:=Abn T bh bi w4 bj.pages ar.out ad.out)
  |(go_fit bm;rintro e w5 ⟨v5,rfl,ag,bn⟩;have ah:=Ac bl bn;obtain⟨x5,y5,rfl⟩:=Ex.shape ag)
  |(go_fit(aq w5 ah);rintro e w6 ⟨bo,bp,rfl,bq,ai⟩;have bt:=Ac ah ai;have bu:=Abn U bo bp w6 bq.pages au.out aw.out)
  |(go_fit bu;rintro e w7 ⟨v7,rfl,aj,ak⟩;have bv:=Ac bt ak;obtain⟨x7,y7,rfl⟩:=Ex.shape aj;have bw:=Ans _ _ _ w7 (ag.below (Ac ai ak)) (by rw[al.out];exact aj) (by rw[Axy];have:=ad.out;omega))
  |(go_fit bw;rintro e w8 ⟨rfl,bx⟩;have ca:=Ac bv bx))
 go_ret;simp_all
def aT1:Wd:={data:=([99,114,101,97,116,101,32,116,97,98,108,101,32,116,32,40,97,32,105,110,116,32,109,117,115,116,44,32,98,32,116,101,120,116,41,59,32].append [105,110,115,101,114,116,32,105,110,116,111,32,116,32,118,97,108,117,101,115,32,40,49,44,39,120,39,41,44,40,50,44,110,117,108,108,41,59]).toArray}
def aT2:Wd:={data:=#[115,101,108,101,99,116,32,98,32,102,114,111,109,32,116,32,119,104,101,114,101,32,97,32,61,32,49,59]}
def Sz:Db:=(doR Ge 0 aT1).2.1
def vX:V:=⟨2,0,⟨#[120]⟩⟩
theorem A4f:doR Ge 0 aT1=(⟨0,2,[]⟩,Sz,1):=by kernel_rfl
theorem A4g:doR Sz 1 aT2=(⟨0,0,[[vX]]⟩,Sz,2):=by kernel_rfl
theorem A3g:doQ Ge 0 aT1 aU=aU:=by kernel_rfl
theorem A3h:doQ Sz 1 aT2 aU=aU:=by kernel_rfl
theorem Ax1:(Sz.c.tables.map fun t=>(Sz.R t.name).length)=[2]:=by kernel_rfl
theorem Ax2:∃t∈Sz.c.tables,∃r,r∈Sz.R t.name:=by
 have h:=Ax1;generalize Sz=d at h⊢;obtain⟨⟨T,I⟩,R⟩:=d;simp only at h⊢
 match T,h with
 |t::T,h=>
  simp only[List.map_cons,List.cons.injEq]at h
  match hr:R _,h.1 with
  |r::l,_=>simp_all
theorem Ap7 {T}(h:Has Sz (flat T))(h1:T.length≤1):T.length=1:=by
 obtain⟨t,ht,r,hr⟩:=Ax2;have:=(h (rk t r,str _)).2 ⟨t,ht,r,hr,.inl rfl⟩;cases T with
 |nil=>cases this
 |cons p T=>grind
theorem Ax3:∃d:Db,doR Ge 0 aT1=(⟨0,2,[]⟩,d,1)∧doR d 1 aT2=(⟨0,0,[[vX]]⟩,d,2)∧doQ Ge 0 aT1 aU=aU∧doQ d 1 aT2 aU=aU∧∀T,Has d (flat T)→T.length≤1→T.length=1:=⟨Sz,A4f,A4g,A3g,A3h,fun _=>Ap7⟩
theorem A03 {B}{z}{v}{w}(h:Dm B z [[v]] w):∃g c b o c',z=D (Q ⟨g,0,O⟩) 1 c∧g<w.heap.size∧b<w.heap.size∧w.cell? ⟨g,0,O⟩=Q (D (Q ⟨b,o,O⟩) 1 c')∧w.cell? ⟨b,o,O⟩=Q (H J v.k)∧w.cell? ⟨b,o+1,O⟩=Q (H J v.n)∧w.cell? ⟨b,o+2,O⟩=Q (X v.s):=by
 have h1:=J8 h;obtain⟨cs,ac,_⟩:=h;rcases ac.2 with⟨_,h0⟩|⟨g,cap,cur,rfl,_,hh,_⟩
 ·grind
 ·obtain⟨b',ae,af,e,_,hb,⟨yv,rfl,ab⟩,ad⟩:=At h1 (i:=0) rfl;simp only[cI,Addr.mk.injEq]at e;obtain⟨rfl,rfl,_⟩:=e;obtain⟨yo,yc,rfl⟩:=ab.shape;obtain⟨b2,o2,ag,e2,_,ah,hR,aa⟩:=At ab (i:=0) rfl;subst e2;obtain rfl:=hR;have c0:=ad 0 _ rfl;have d0:=aa 0 _ rfl;have d1:=aa 1 _ rfl;have d2:=aa 2 _ rfl;grind
theorem Ax4 (w)(ac:Env w):bG aL 15 #[] w fun e w'=>e=aP (bJ aU)∧Below w.heap.size w w':=by
 obtain⟨dA,e1,e2,q1,q2,aj⟩:=Ax3;have ak:Br [] w:=fun n hn=>by grind
 obtain⟨ae,af⟩:=Arj ak;obtain⟨aa,-,bb⟩:=al1 w (aD #[D O 0 0,D O 0 0,D O 0 0,H J 0] 67);have HN:=Ari w;have h8:=ac.low;generalize hW:w.alloc _=W1 at ae af aa HN bb;have al:bG aL 10 #[bH (Q ⟨w.heap.size,0,O⟩),bE #[X aT1]] W1 fun e w'=>∃vo vc,e=aP (bE #[H J 0,H J 2,D vo 0 vc])∧Dt [w.heap.size] w' w.heap.size dA 1 aU∧Hid (DbOk dA)∧But w.heap.size W1 w':=by
  have h:=U6 ae (by simp) aU af Aml (by omega) (ac.next aa) h8 aT1;rw[e1,q1]at h;generalize aT1=t1 at h⊢;refine h.mono ?_;rintro e w' ⟨⟨rv,rfl,am⟩,h2,h3,h4⟩;obtain⟨vo,vc,rfl⟩:=am.shape;exact⟨vo,vc,rfl,h2,h3,h4⟩
 have an:∀W,Dt [w.heap.size] W _ dA 1 aU→DbOk dA→Env W→bG _ 10 #[bH _,bE #[X aT2]] W fun e w'=>∃rv,e=aP (bE #[H J 0,H J 0,rv])∧Dm W.heap.size rv [[vX]] w'∧Dt [w.heap.size] w' w.heap.size dA 2 aU∧But w.heap.size W w':=fun W h ok he=>by
  have bc:Br _ W:=fun n hn=>by
   obtain rfl:=cB.1 hn;obtain⟨T,bd,tc,io,ic,po,pc,h1,_⟩:=h;exact⟨_,_,_,_,_,_,h1,ok.cat⟩
  have h:=U6 bc (by simp) aU h ok (by omega) he h8 aT2;rw[e2,q2]at h;generalize aT2=t2 at h⊢;refine h.mono ?_;rintro e w' ⟨⟨rv,rfl,am⟩,h2,h3,h4⟩;grind
 clear hW af ae ak e1 e2 q1 q2;have bi:=ac.next aa;go_enter Tryz.func15,Tryz.ntmps15;go_upto_region 2 with(go_fit HN;rintro e w1 ⟨rfl,rfl⟩);go_upto_region 5 with(go_at_call 10;refine al.mono ?_;rintro e w2 ⟨vo,vc,rfl,ap,be,aq⟩);have ad:Below _ w (w2.alloc (aD #[H J 0,H J 2,D vo 0 vc] 32)):=Ac (aa.trans (aq.below (aF _) aa.size)) (Aq _ _);have bP:=Ab w2 (aD #[H J 0,H J 2,D vo 0 vc] 32);have ar:=ap.below (Aq w2 (aD #[H J 0,H J 2,D vo 0 vc] 32));have au:w2.heap.size≠w.heap.size:=by have:=aq.size;omega
 have ag:=an _ ar be.out (ac.next ad);have av:=ad.size;clear al an ap ar;generalize w2.alloc _=W3 at ad bP ag av⊢;generalize w2.heap.size=p at bP au⊢;go_upto_region 6 with(go_at_call 10;refine ag.mono ?_;rintro e w4 ⟨rv,rfl,aw,ax,ah⟩;obtain⟨rg,rc,rb,ro,bj,rfl,bf,bg,c0,d0,d1,d2⟩:=A03 aw);obtain⟨ab,bQ,-⟩:=al1 w4 (aD #[H J 0,H J 0,D (Q ⟨rg,0,O⟩) 1 rc] 32);have ai:=(ab.block _ (aZ (aC bP) ah.size)).trans ((ah.block _ (aC bP) au).trans bP);have k0:=(ab.cell bf).trans c0;have k1:=(ab.cell bg).trans d2;have ay:=ax.below ab;have az:=Ac (ad.trans (ah.below (aF _) av)) ab;clear c0 d0 d1 d2 aw ax ag bP;generalize w4.alloc _=W5 at ai bQ k0 k1 ay az⊢;generalize w4.heap.size=g at bQ⊢;obtain⟨T,bd,tc,io,ic,po,pc,h1,h2,h3⟩:=ay;have ba:=aj T h2 (h3 rfl);have HT:=Acr h1 (by omega);rw[ba]at HT;have x0:=Aa ai (j:=0) rfl;have x1:=Aa ai (j:=1) rfl;have x2:=Aa bQ (j:=2) rfl;have hx:(vX.s.toList==[120])=aU:=by kernel_rfl
 have fF:∀(zo) (zc) (w),(Instr.field 65 (bE #[D zo 1 zc]) 0).run aL w=.ok (D zo 1 zc) w:=fun zo zc w=>by rfl
 clear h1 h2 h3 ba aj;go_wp2_with(go_fit HT;rintro e w7 ⟨zo,zc,rfl,_,bh⟩);go_ret;exact⟨rfl,Ac az bh⟩
theorem Dt.weak {E}{w}{n}{d}{a}{q}(h:Dt E w n d a q):Dt E w n d a cN:=by
 obtain⟨T,aa,tc,io,ic,po,pc,h1,h2,_⟩:=h;exact⟨T,aa,tc,io,ic,po,pc,h1,h2,fun h=>by grind⟩
theorem Dt.more {E}{w}{n m}{d}{a}{q}(h:Dt E w n d a q)(hm:w.heap.size≤m):Dt (m::E) w n d a q:=by
 obtain⟨T,aa,tc,io,ic,po,pc,h1,h2⟩:=h;exact⟨T,aa,tc,io,ic,po,pc,h1.mono fun k hk h3 h4=>by grind,h2⟩
theorem Dt.lt {E}{w}{n}{d}{a}{q}(h:Dt E w n d a q):n<w.heap.size:=by
 obtain⟨T,aa,tc,io,ic,po,pc,h1,_⟩:=h;exact h1.lt
theorem A5x:∀(l:List Stm) (d:Db) (i:Nat) (aa:Rep),aa.code=0→(F9 d l i aa).1.code≠0→(F9 d l i aa).1.rows=[]
 |[],_,_,_,h,hc=>absurd h hc
 |s::l,d,i,aa,_,hc=>by
  unfold F9 at hc⊢;split at hc
  ·rename_i h;rw[if_pos h];exact A5x l _ _ _ h hc
  grind
theorem A6q {d}{a}{t}(h:(doR d a t).1.code≠0):(doR d a t).1.rows=[]∧(doR d a t).2.1=d:=by
 unfold doR at h⊢;split at h
 ·grind
 ·rename_i h1;rw[if_neg h1];split at h
  ·grind
  ·rename_i h2;rw[if_neg h2];split at h
   ·grind
   ·rename_i h3;rw[if_neg h3];exact⟨A5x _ _ _ _ rfl h,rfl⟩
theorem A64 (d)(a)(t):(doR d a t).1.code=0∨(doR d a t).1.code=1∨(doR d a t).1.code=2∨(doR d a t).1.code=3∨(doR d a t).1.code=4∨(doR d a t).1.code=5∨(doR d a t).1.code=7∨(doR d a t).1.code=8:=by
 unfold doR;split
 ·simp
 ·split
  ·have:=Ap5 t.data.toList;grind
  ·have:=Anm (A1 t.data.toList).1 d 0 M6 rfl;grind
theorem Dt.but {E}{w w'}{n m}{d}{a}{q}(h:Dt E w n d a q)(hb:But m w w')(hm:m∈E)(aa:n≠m):Dt E w' n d a q:=by
 obtain⟨T,ab,tc,io,ic,po,pc,h1,h2⟩:=h;exact⟨T,ab,tc,io,ic,po,pc,h1.but hb hm aa,h2⟩
end
end Go.Proofs.YtocegbpmmiabmaaGreatDoor

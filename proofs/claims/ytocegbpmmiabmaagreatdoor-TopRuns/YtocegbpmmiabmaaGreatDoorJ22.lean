/-
  18 texts of this proof in one,in build order:SScript,SScript3,GParse,GAll0,GAll,GDo0,GDo,GClones,GCat,GTree,UFlat,UCat,USame,ULive0,ULive,UPlay,URefused,UActs.
-/
import Derived.Deep.QuietTactic
import Derived.BigQuiet
import Derived.Test.YtocegbpmmiabmaaGreatDoorJ01
import Derived.Test.YtocegbpmmiabmaaGreatDoorJ02
import Derived.Test.YtocegbpmmiabmaaGreatDoorJ03
import Derived.Test.YtocegbpmmiabmaaGreatDoorJ07
set_option linter.unusedSimpArgs false
set_option linter.unusedVariables false
set_option maxRecDepth 100000
set_option maxHeartbeats 0
open Go.Value renaming agg→X,bool→aZ,int→D,oneCell'→cG,ownBlock→aV,pointer→aT,slice→H,string→O
open Go.IntKind renaming i64→G
open Go.Proofs.Tryz renaming prog→aK,results10→aJ,results17→aO,underlying32→aA,underlying43→cB,underlying50→cA,underlying63→bY,underlying67→bW
open Go renaming Calls→aX,Value→aW,World→bI,bodyPost_ret→aG,lt_of_block→aD,maxLen→aS,results_cell_row→aC,wpList_append_own_at→bE,wpList_load_row→aI,wpList_store_row→aB
open Option renaming none→J,some→M
open Nat renaming le_of_lt→bH,le_refl→aE,le_trans→aM,lt_of_lt_of_le→bG,sub_self→bO,zero_le→aR
open List renaming drop_length→cF,eq_nil_of_length_eq_zero→aL,getElem?_append_right→aP,getElem?_eq_getElem→bM,getElem?_eq_some_iff→bK,length_append→aH,length_cons→aF,length_take→cE,mem_cons→bC,mem_cons_of_mem→bS,mem_of_getElem?→aY,mem_singleton→bD,set_append_right→aU,size_toArray→cD,take_add_one→cC
open Go.Obj renaming cells→Q
open Go.RowKit.Below renaming refl→aN
open Go.Ending renaming returned→aQ
open Bool renaming false→cH,true→y
open Go.World renaming frozen?→bJ,ownsRow_made→bV,ownsRow_nil→bF
open Option.some renaming injEq→bL
open Array renaming getElem?_modify→bN
open Go.Lib renaming run_eql_slice_nil→bU
namespace Go.Proofs.YtocegbpmmiabmaaGreatDoor
section
open Go.RowKit
theorem Axt {F}{w}{s}{c}(h:Ie.R F w s c):∃kd nm tb cl a1 k1 c1 a2 k2 c2 a3 k3 c3 a4 k4 c4 a5 k5 c5 op xk xn xs sx nx n8 a6 k6 c6 a7 k7 c7 dn nn,c=[D G kd,O nm,O tb,O cl,H a1 k1 c1,H a2 k2 c2,H a3 k3 c3,H a4 k4 c4,H a5 k5 c5,D G op,D G xk,D G xn,O xs,O sx,O nx,D G n8,H a6 k6 c6,H a7 k7 c7,aZ dn,D G nn]:=by
 obtain⟨cols,rows,sets,frm,out,w8,order,rfl,h8,h1,h2,h3,h4,h5,h6,h7⟩:=h.is;obtain⟨op,xk,xn,xs,sx,nx,n8,a6,k6,c6,rfl⟩:=Fl ⟨h8,h6⟩;obtain⟨a1,c1,rfl⟩:=h1.shape;obtain⟨a2,c2,rfl⟩:=h2.shape;obtain⟨a3,c3,rfl⟩:=h3.shape;obtain⟨a4,c4,rfl⟩:=h4.shape;obtain⟨a5,c5,rfl⟩:=h5.shape;obtain⟨a7,c7,rfl⟩:=h7.shape;exact⟨_,_,_,_,a1,_,c1,a2,_,c2,a3,_,c3,a4,_,c4,a5,_,c5,op,xk,xn,xs,sx,nx,n8,a6,k6,c6,a7,_,c7,_,s.n,rfl⟩
theorem Ap4 {f}{acc}{x}{l}(hf:Bg (M (x::l))≤f):
  ∃f',f'<f∧Ej f acc (M (x::l))=Ej f' (acc++[(C5 (M (x::l))).1]) (Cg Oa (C5 (M (x::l))).2)∧Bg (Cg Oa (C5 (M (x::l))).2)≤f'∧Bg (Cg Oa (C5 (M (x::l))).2)+1≤Bg (M (x::l)):=by
 have h1:=Ajc.shrinks (M (x::l));have h2:=Alj Oa (C5 (M (x::l))).2;have h3:1≤Bg (M (x::l)):=by simp[Bg]
 cases f with
 |zero=>omega
 |succ f=>exact⟨f,by omega,rfl,by omega,by omega⟩
theorem A0t:(Tryz.prog.info? 50).map (fun i=>(i.zero,i.size,i.bytes))=M (M (X Bn),20,320):=by kernel_rfl
theorem Anj (a:Nat)(s:St)(w:bI)(h:Rd w a s 0)(he:Env w)(ha:8≤a):
  aX aK 24 #[aT (M ⟨a,0,J⟩)] w fun e w'=>∃sv ok,e=aQ (.tuple #[sv,aZ ok])∧IsL Ie (Fr w.heap.size) w' sv (Ej (Bg s) [] s).1∧(ok=y↔(Ej (Bg s) [] s).2=M [])∧But a w w':=by
 obtain⟨i0,hi,ax,ay,az⟩:=info_parts A0t;have ag:=h.lt;have bk:=h.len;generalize hR:Ej (Bg s) [] s=R;have HR:Hid _:=hR;clear hR;go_enter Tryz.func24,Tryz.ntmps24;go_wp2_with fail
 go_loopg[4] (Bg s) (fun f z wr=>∃acc cs σ,wr.ownsRow w.heap.size 50 20 z acc.length cs∧All Ie (FO w.heap.size z) wr acc cs∧Rd wr a σ 0∧Hid (R=Ej f acc σ∧Bg σ≤f)∧acc.length+Bg σ≤1600∧But a w wr)
 case atStart=>exact⟨[],[],s,bF _ _ _ _,rfl,h,⟨HR.out.symm,aE _⟩,by simp;omega,But.refl _ _⟩
 case round=>
  clear HR;obtain⟨acc,cs,σ,ah,al,am,HF,bl,ab⟩:=hrel;have an:Hid _:=al;clear al;have ba:Hid _:=am;obtain⟨x,r,b,hc,ac⟩:=am;obtain⟨d0,d1,d2,d3⟩:=hc.cells
  by_cases hx:x.size=0
  ·have bb:x.toList.isEmpty=y:=by rw[Pn hx,Lib.toList_data];rfl
   have ai:Hid (R=(acc,σ)∧(b=cH↔σ=M [])):=by
    rcases ac.empty hx with⟨rfl,rfl⟩|⟨rfl,rfl⟩
    ·exact⟨HF.out.1.trans A3y.1,by simp⟩
    ·exact⟨HF.out.1.trans A3y.2,by simp⟩
   clear HF ac hx;go_wp2_with fail;go_quiet(fail);go_wp2_with fail;go_ret2;refine⟨_,_,rfl,?_,?_,ab.trans (.of_below (below_drewN (aN _ _) _))⟩
   ·rw[ai.out.1];have g:IsL Ie (Fr w.heap.size) wr u4 acc:=⟨cs,Bq.of_own ah (fun k hk=>hk),All.mono (F:=FO w.heap.size u4) (fun k _ hk=>hk.1) an.out⟩;exact g.keep (Ai (below_drewN (aN _ _) _))
   ·rw[ai.out.1,←ai.out.2];cases b<;>simp
  ·have bb:x.toList.isEmpty=cH:=by rw[Lib.toList_data,J4 x (by omega)];rfl
   obtain⟨hσ,_,_,_⟩:=ac.at (by omega);obtain⟨f',bm,aa⟩:∃f',f'<gk∧Hid (R=Ej f' (acc++[(C5 σ).1]) (Cg Oa (C5 σ).2)∧Bg (Cg Oa (C5 σ).2)≤f'∧Bg (Cg Oa (C5 σ).2)+1≤Bg σ):=by
    have h2:=HF.out.2;have h1:=HF.out.1;rw[hσ]at h1 h2⊢;obtain⟨f',g1,g2,g3,g4⟩:=Ap4 (acc:=acc) h2;grind
   clear HF ac hσ hx;have CM:=Ap3 a σ wr ba.out (he.but ab ha) ha;generalize C5 σ=q at CM aa;obtain⟨st,s2⟩:=q;simp only at CM aa;have WF:=fun v h1=>Fh a Oa s2 0 v h1 (by decide)
   generalize Cg Oa s2=s3 at WF aa;have bc:Hid _:=aa.out.2.2;go_wp2_with(first
    |(go_fit CM;rintro e w3 ⟨c3,rfl,aj,bd,ad⟩;obtain⟨kd,nm,tb,cl,a1,k1,c1,a2,k2,c2,a3,k3,c3,a4,k4,c4,a5,k5,c5,op,xk,xn,xs,sx,nx,n8,a6,k6,c6,a7,k7,c7,dn,nn,rfl⟩:=Axt aj;simp only[I7];have ae:=(U5 ah ad ag).alloc (Q [D G kd,O nm,O tb,O cl,H a1 k1 c1,H a2 k2 c2,H a3 k3 c3,H a4 k4 c4,H a5 k5 c5,D G op,D G xk,D G xn,O xs,O sx,O nx,D G n8,H a6 k6 c6,H a7 k7 c7,aZ dn,D G nn].toArray 50);have ap:=Cb w3 [D G kd,O nm,O tb,O cl,H a1 k1 c1,H a2 k2 c2,H a3 k3 c3,H a4 k4 c4,H a5 k5 c5,D G op,D G xk,D G xn,O xs,O sx,O nx,D G n8,H a6 k6 c6,H a7 k7 c7,aZ dn,D G nn] 50;have aq:w.heap.size≤(w3.alloc (Q [D G kd,O nm,O tb,O cl,H a1 k1 c1,H a2 k2 c2,H a3 k3 c3,H a4 k4 c4,H a5 k5 c5,D G op,D G xk,D G xn,O xs,O sx,O nx,D G n8,H a6 k6 c6,H a7 k7 c7,aZ dn,D G nn].toArray 50)).heap.size:=aM (ab.trans ad).size (by simp))
    |(at_builtin;go_must(refine bE _ rfl _ _ 37 rfl _ 50 i0 _ 20 320 Tryz.underlying37 hi ax ay az rfl (by simp) _ _ _ rfl ae _ 1 1 _ rfl rfl ap ?h1 (by simp only[aS];omega) (by omega) aq ?h2)))
   case h1=>simp only[List.forall_mem_cons];repeat(first|exact fun _ h=>absurd h List.not_mem_nil|refine⟨rfl,?_⟩)
   case h2=>
    intro z2 w4 ar af _ be;have au:Below _ w3 (w3.alloc (Q [D G kd,O nm,O tb,O cl,H a1 k1 c1,H a2 k2 c2,H a3 k3 c3,H a4 k4 c4,H a5 k5 c5,D G op,D G xk,D G xn,O xs,O sx,O nx,D G n8,H a6 k6 c6,H a7 k7 c7,aZ dn,D G nn].toArray 50)):=(aN _ _).alloc (aE _) _;have bf:=Rd.grown ae af (bd.below au) ag;have bg:=Air ae af ((ab.trans ad).alloc _) (aE _);have av:Hid (All Ie (FO w.heap.size z2) w4 (acc++[st]) (cs++[D G kd,O nm,O tb,O cl,H a1 k1 c1,H a2 k2 c2,H a3 k3 c3,H a4 k4 c4,H a5 k5 c5,D G op,D G xk,D G xn,O xs,O sx,O nx,D G n8,H a6 k6 c6,H a7 k7 c7,aZ dn,D G nn])):=by
     have bh:¬FO w.heap.size u4 a:=by intro hf;have:=hf.1;omega
     have g1:All Ie (FO w.heap.size u4) (w3.alloc (Q [D G kd,O nm,O tb,O cl,H a1 k1 c1,H a2 k2 c2,H a3 k3 c3,H a4 k4 c4,H a5 k5 c5,D G op,D G xk,D G xn,O xs,O sx,O nx,D G n8,H a6 k6 c6,H a7 k7 c7,aZ dn,D G nn].toArray 50)) acc cs:=All.keep ((ad.keeps bh).alloc _) an.out;have bi:z2.ownBlock=u4.ownBlock∨z2.ownBlock=M (w3.alloc (Q [D G kd,O nm,O tb,O cl,H a1 k1 c1,H a2 k2 c2,H a3 k3 c3,H a4 k4 c4,H a5 k5 c5,D G op,D G xk,D G xn,O xs,O sx,O nx,D G n8,H a6 k6 c6,H a7 k7 c7,aZ dn,D G nn].toArray 50)).heap.size:=by rw[World.size_alloc];exact be
     have bn:∀k,M k=u4.ownBlock→k<wr.heap.size:=fun k e=>(ah.lt k e.symm).2
     have g2:All Ie (FO w.heap.size u4) (w3.alloc (Q [D G kd,O nm,O tb,O cl,H a1 k1 c1,H a2 k2 c2,H a3 k3 c3,H a4 k4 c4,H a5 k5 c5,D G op,D G xk,D G xn,O xs,O sx,O nx,D G n8,H a6 k6 c6,H a7 k7 c7,aZ dn,D G nn].toArray 50)) [st] [D G kd,O nm,O tb,O cl,H a1 k1 c1,H a2 k2 c2,H a3 k3 c3,H a4 k4 c4,H a5 k5 c5,D G op,D G xk,D G xn,O xs,O sx,O nx,D G n8,H a6 k6 c6,H a7 k7 c7,aZ dn,D G nn]:=All.keep (Ai au) (All.one (Ie.mono (fun k _ hf=>⟨by have:wr.heap.size≤k:=hf;have:=ab.size;omega,fun e=>by grind⟩) aj));exact All.mono (fun k hk hf=>⟨hf.1,hf.2.2⟩) (All.keep (F:=fun k=>w.heap.size≤k∧M k≠u4.ownBlock∧M k≠z2.ownBlock) ⟨af.size,fun k hk hl=>af.block k hl hk.2.1⟩ (All.mono (fun k hk hf=>⟨hf.1,hf.2,(Uj bi k hk hf).2⟩) (g1.append g2)))
    have aw:w4.ownsRow w.heap.size 50 20 z2 (acc++[st]).length (cs++[D G kd,O nm,O tb,O cl,H a1 k1 c1,H a2 k2 c2,H a3 k3 c3,H a4 k4 c4,H a5 k5 c5,D G op,D G xk,D G xn,O xs,O sx,O nx,D G n8,H a6 k6 c6,H a7 k7 c7,aZ dn,D G nn]):=by rw[aH];exact ar
    have bo:(acc++[st]).length=acc.length+1:=by simp
    clear ar ap aq ae aj CM;generalize cs++[D _ kd,O nm,O tb,O cl,H a1 k1 c1,H a2 k2 c2,H a3 k3 c3,H a4 k4 c4,H a5 k5 c5,D _ op,D _ xk,D _ xn,O xs,O sx,O nx,D _ n8,H a6 k6 c6,H a7 k7 c7,aZ dn,D _ nn]=cs2 at aw av;go_wp2_with(go_fit(WF w4 bf _ rfl);rintro e w5 ⟨rfl,bj,ak⟩)
    go_roundg f'
    case measure=>omega
    case rel=>
     refine⟨_,cs2,s3,U5 aw ak ag,All.keep (ak.keeps (by omega)) av.out,bj,⟨aa.out.1,aa.out.2.1⟩,?_,bg.trans ak⟩;have:=bc.out;omega
def A1 (t:List UInt8):List Stm×Int:=
 if 1500<t.length then([],2)else match Ej (Bg (adv (Ig t))) [] (adv (Ig t))with
  |(l,M [])=>if 6<l.length then([],2)else(l,0)
  |_=>([],1)
theorem Afa (t)(w)(he:Env w):
  aX aK 13 #[.string t] w fun e w'=>∃sv,e=.returned (.tuple #[sv,.int .i64 (A1 t.data.toList).2])∧IsL Ie (Fr w.heap.size) w' sv (A1 t.data.toList).1∧Below w.heap.size w w':=by
 by_cases hl:1500<t.size
 ·have e:A1 t.data.toList=([],2):=by rw[A1,if_pos (by simp_all)]
  rw[e];have h1:(1500:Int)<t.size:=by omega
  go_enter Tryz.func13,Tryz.ntmps13;go_wp2_with fail;go_ret2;exact⟨_,rfl,IsL.nil _ _ _,aN _ _⟩
 ·have e:A1 t.data.toList=match Ej (Bg (adv (Ig t.data.toList))) [] (adv (Ig t.data.toList))with
    |(l,M [])=>if 6<l.length then([],2)else(l,0)
    |_=>([],1):=by rw[A1,if_neg (by simp_all)]
  have h1:¬(1500:Int)<t.size:=by omega
  have NR:=Ajw t w (by omega);generalize adv _=s at NR e;have CF:=fun a v hr e1 ha=>Anj a s v hr e1 ha
  generalize Ej _ [] s=R at CF e;obtain⟨l,sf⟩:=R;simp only at CF;have HE:Hid ((sf=M []→A1 t.data.toList=if 6<l.length then([],2)else(l,0))∧(sf≠M []→A1 t.data.toList=([],1))):=by
   constructor
   ·grind
   ·grind
  generalize A1 _=A at HE⊢;clear e;go_enter Tryz.func13,Tryz.ntmps13;go_wp2_with(go_fit NR;rintro e w1 ⟨a,rfl,ha,af,aa⟩);have ah:=he.low;go_fit(CF a w1 af (he.next aa) (by omega));rintro e w2 ⟨sv,ok,rfl,hL,ad,ag⟩;have ab:=aa.trans (ag.below ha aa.size);have ac:IsL Ie (Fr w.heap.size) w2 sv l:=hL.mono (fun k _ hk=>by have h1:w1.heap.size≤k:=hk;have:=aa.size;omega);obtain⟨ao,cp,rfl⟩:=ac.shape;have ae:Hid _:=ad;have HL:Hid _:=ac;clear ad hL ac;cases ok
  ·have hA:=HE.out.2 (fun h=>by have:=ae.out.2 h;grind);subst hA;go_wp2_with fail;go_ret2;exact⟨_,rfl,IsL.nil _ _ _,ab⟩
  ·have hA:=HE.out.1 (ae.out.1 rfl)
   by_cases h6:6<l.length
   ·rw[if_pos h6]at hA;subst hA;have g6:(6:Int)<l.length:=by omega
    go_wp2_with fail;go_ret2;exact⟨_,rfl,IsL.nil _ _ _,ab⟩
   ·rw[if_neg h6]at hA;subst hA;have g6:¬(6:Int)<l.length:=by omega
    go_wp2_with fail;go_ret2;exact⟨_,rfl,HL.out,ab⟩
mutual
theorem Axu:∀{e:E},Df e→Ek e
 |.mk _ x s name _ l,h=>by
  rw[Df]at h;rw[Ek];exact⟨h.1,Are h.2.2.2⟩
theorem Are:∀{l:List E},Ec l→Qj l
 |[],_=>by assumption
 |e::l,h=>by
  rw[Ec]at h;rw[Qj];exact⟨Axu h.1,Are h.2⟩
end
def Sm (l:List Wd)(e:E):Prop:=e.nodes≤l.length∧Df e
theorem By:noW.size≤aS:=aR _
theorem At4 {v}(h:good v=y):v.s.size≤aS:=by
 have h8:v.s.size≤8:=by
  unfold good at h;split at h
  ·grind
  ·grind
 exact aM h8 (by simp[aS])
theorem Afb {w}{l}{v}(h:v.s.size≤aS):Sm (w::l) (Lx v):=by
 refine⟨by simp[Lx,E.nodes,Ev],?_⟩;rw[Lx,Df,Ec];exact⟨h,By,By,trivial⟩
theorem Axv {w}{l}{a b}(h1:a.size≤aS)(h2:b.size≤aS):Sm (w::l) (Tq a b):=by
 refine⟨by simp[Tq,E.nodes,Ev],?_⟩;rw[Tq,Df,Ec];exact⟨Fn,h1,h2,trivial⟩
theorem Tn {k}{l}(h:Ec l):Df (Hj k l):=by
 rw[Hj,Df];exact⟨Fn,By,By,h⟩
theorem Ait {a b}(h:Df a)(h2:Df b):Ec [a,b]:=by rw[Ec,Ec,Ec];grind
theorem Aiu {a}(h:Df a):Ec [a]:=by rw[Ec,Ec];grind
theorem A25 {sub}(hs:∀l e,sub l e→Sm l e){l}{e}(h:Atom sub l e):Sm l e:=by
 cases h with
 |null=>exact Afb Fn
 |num h=>exact Afb By
 |neg h=>exact Afb By
 |text h1 h2=>exact Afb (At4 h2)
 |ref h=>exact Axv By (Dg h)
 |dot h1 h2=>exact Axv (Dg h1) (Dg h2)
 |br h=>
  have:=hs _ _ h;exact⟨by simp only[aF,aH];have:=this.1;omega,this.2⟩
theorem Aiv (k)(a b):(Hj k [a,b]).nodes=a.nodes+b.nodes+1:=by rfl
theorem Aiw (k)(a):(Hj k [a]).nodes=a.nodes+1:=by rfl
theorem Acp {P}{ops}(hs:∀l e,P l e→Sm l e){l}{e}(h:Chain P ops l e):Sm l e:=by
 induction h with
 |one h=>grind
 |more h1 h2 h3 ih=>
  have h4:=hs _ _ h3;refine⟨?_,Tn (Ait ih.2 h4.2)⟩;rw[Aiv,aH,aF];have:=ih.1;have:=h4.1;omega
theorem A26 {S T}(hs:∀l e,S l e→Sm l e)(ht:∀l e,T l e→Sm l e){l}{e}(h:Test S T l e):Sm l e:=by
 cases h with
 |neg h=>
  have h4:=ht _ _ h;refine⟨?_,Tn (Aiu h4.2)⟩;rw[Aiw,aF];have:=h4.1;omega
 |sum h=>grind
 |is h=>
  have h4:=hs _ _ h;refine⟨?_,Tn (Aiu h4.2)⟩;rw[Aiw,aH];have:=h4.1;grind
 |cmp h1 h2 h3=>
  have h4:=hs _ _ h1;have h5:=hs _ _ h3;refine⟨?_,Tn (Ait h4.2 h5.2)⟩;rw[Aiv,aH,aF];have:=h4.1;have:=h5.1;omega
theorem Arf {sub T}(hs:∀l e,sub l e→Sm l e)(ht:∀l e,T l e→Sm l e):(∀l e,Aj7 sub T l e→Sm l e)∧∀l e,Tc sub T l e→Sm l e:=by
 have h1:∀l e,Tc sub T l e→Sm l e:=fun l e h=>A26 (fun l e h=>Acp (fun l e h=>A25 hs h) h) ht h
 exact⟨fun l e h=>Acp (fun l e h=>Acp h1 h) h,h1⟩
theorem Ank:∀d,(∀l e,(Kq d).1 l e→Sm l e)∧∀l e,(Kq d).2 l e→Sm l e
 |0=>Arf (fun _ _ h=>h.elim) (fun _ _ h=>h.elim)
 |d+1=>Arf (Ank d).1 (Ank d).2
theorem Mz {l}{e}(h:Td l e):Sm l e:=(Ank 5).1 l e h
theorem Sm.fit {l}{e}(h:Sm l e)(hl:l.length≤16777216):Fk e:=⟨aM h.1 hl,Axu h.2⟩
theorem Ns {α}{P}{l}{bs:List α}(h:ListG P l bs):bs.length≤l.length+1∧bs≠[]∧∀a∈bs,∃m,P m a∧m.length≤l.length:=by
 induction h with
 |one h=>grind
 |more h1 h2 ih=>
  grind
theorem To:∀{l:List E},(∀e∈l,Df e)→Ec l
 |[],_=>by rw[Ec];simp
 |e::l,h=>by rw[Ec];exact⟨h e (by simp),To fun x hx=>h x (by grind)⟩
theorem Axw:Fk E.nil∧Df E.nil:=by
 refine⟨⟨by simp[E.nil,E.nodes,Ev],?_⟩,?_⟩
 ·rw[E.nil,Ek,Qj];exact⟨Fn,trivial⟩
 ·rw[E.nil,Df,Ec];exact⟨Fn,By,By,trivial⟩
theorem Wu {l}{e}(h:Yh l e)(hl:l.length≤1000000):Fk e∧Df e:=by
 rcases h with⟨_,rfl⟩|⟨m,rfl,h⟩
 ·exact Axw
 ·have:=Mz h;exact⟨this.fit (by grind),this.2⟩
theorem Aix {l}{es}(h:ListG Td l es)(hl:l.length≤999999):es.length≤1000000∧(∀e∈es,Fk e)∧(∀e∈es,Df e):=by
 obtain⟨h1,_,h3⟩:=Ns h;refine⟨by omega,fun e he=>?_,fun e he=>?_⟩
 ·obtain⟨m,hm,aa⟩:=h3 e he;exact(Mz hm).fit (by omega)
 ·obtain⟨m,hm,aa⟩:=h3 e he;exact(Mz hm).2
theorem A0u {l:List Wd}{st:Stm}(h:StmG l st)(hl:l.length≤100000):FitC st:=by
 obtain⟨n1,n2⟩:=Axw;have f0:Ec ([]:List E):=by rw[Ec];trivial
 cases h with
 |@table n cs l h1 h2=>
  obtain⟨a1,a2,a3⟩:=Ns h2;have ab:∀x,x∈cs→x.name.size≤aS:=fun x hx=>by
   obtain⟨m,hm,_⟩:=a3 x hx;exact Dg hm.1
  exact⟨⟨⟨by simp[Aj],by simp[Aj],f0,f0,n2,Dg h1,By,By,ab,by simp[Aj]⟩,Dg h1,ab,by simp[Aj],by simp[Aj],by simp[Aj],by simp[Aj],by simp[Aj],by simp[Aj],by simp[Aj]⟩,by simp[Aj],by simp[Aj],by simp[Aj],by simp[Aj],by simp[Aj],n1⟩
 |index h1 h2 h3=>
  exact⟨⟨⟨by simp[Aj],by simp[Aj],f0,f0,n2,Dg h1,Dg h2,Dg h3,fun x hx=>by simp[Aj]at hx,by simp[Aj]⟩,Dg h1,fun x hx=>by simp[Aj]at hx,by simp[Aj],by simp[Aj],by simp[Aj],by simp[Aj],by simp[Aj],by simp[Aj],by simp[Aj]⟩,by simp[Aj],by simp[Aj],by simp[Aj],by simp[Aj],by simp[Aj],n1⟩
 |drop h1=>
  exact⟨⟨⟨by simp[Aj],by simp[Aj],f0,f0,n2,Dg h1,By,By,fun x hx=>by simp[Aj]at hx,by simp[Aj]⟩,Dg h1,fun x hx=>by simp[Aj]at hx,by simp[Aj],by simp[Aj],by simp[Aj],by simp[Aj],by simp[Aj],by simp[Aj],by simp[Aj]⟩,by simp[Aj],by simp[Aj],by simp[Aj],by simp[Aj],by simp[Aj],n1⟩
 |@insert t l rs h1 h2=>
  obtain⟨a1,a2,a3⟩:=Ns h2;simp only[aF]at hl;have hr:∀r∈rs,(r.length≤1000000∧(∀e∈r,Fk e)∧∀e∈r,Df e)∧r≠[]:=fun r hr=>by
   obtain⟨m,⟨m',rfl,hm⟩,aa⟩:=a3 r hr;simp only[aF,aH]at aa;exact⟨Aix hm (by omega),(Ns hm).2.1⟩
  exact⟨⟨⟨fun r h=>To (hr r h).1.2.2,by simp[Aj],f0,f0,n2,By,Dg h1,By,fun x hx=>by simp[Aj]at hx,by simp[Aj]⟩,By,fun x hx=>by simp[Aj]at hx,by grind,fun r h=>aM (hr r h).1.1 (by omega),by simp[Aj],by simp[Aj],by simp[Aj],by simp[Aj],by simp[Aj]⟩,by grind,fun r h=>⟨(hr r h).2,(hr r h).1.2.1⟩,by simp[Aj],by simp[Aj],by simp[Aj],n1⟩
 |@delete t w e h1 h2=>
  simp only[aF]at hl;obtain⟨b1,b2⟩:=Wu h2 (by omega);exact⟨⟨⟨by simp[Aj],by simp[Aj],f0,f0,b2,By,Dg h1,By,fun x hx=>by simp[Aj]at hx,by simp[Aj]⟩,By,fun x hx=>by simp[Aj]at hx,by simp[Aj],by simp[Aj],by simp[Aj],by simp[Aj],by simp[Aj],by simp[Aj],by simp[Aj]⟩,by simp[Aj],by simp[Aj],by simp[Aj],by simp[Aj],by simp[Aj],b1⟩
 |@update t l ss w e h1 h2 h3=>
  simp only[aF,aH]at hl;obtain⟨b1,b2⟩:=Wu h3 (by omega);obtain⟨a1,a2,a3⟩:=Ns h2;have hr:∀p∈ss,p.1.size≤aS∧Fk p.2∧Df p.2:=fun p hp=>by
   obtain⟨m,⟨hn,m',rfl,hm⟩,aa⟩:=a3 p hp;simp only[aF]at aa;exact⟨Dg hn,(Mz hm).fit (by omega),(Mz hm).2⟩
  exact⟨⟨⟨by simp[Aj],fun p hp=>⟨(hr p hp).2.2,(hr p hp).1⟩,f0,f0,b2,By,Dg h1,By,fun x hx=>by simp[Aj]at hx,by simp[Aj]⟩,By,fun x hx=>by simp[Aj]at hx,by simp[Aj],by simp[Aj],by grind,fun p hp=>(hr p hp).1,by simp[Aj],by simp[Aj],by simp[Aj]⟩,by simp[Aj],by simp[Aj],fun p hp=>(hr p hp).2.1,by simp[Aj],by simp[Aj],b1⟩
 |@select o os f fs w e r es m n h1 h2 h3 h4 h5=>
  simp only[aF,aH]at hl;obtain⟨b1,b2⟩:=Wu h3 (by omega);have ac:∀s∈fs,s.size≤aS:=fun s hs=>by
   obtain⟨m,hm,_⟩:=(Ns h2).2.2 s hs;exact Dg hm.1
  have ho:os.length≤1000000∧(∀e∈os,Fk e)∧∀e∈os,Df e:=by
   rcases h1 with⟨_,rfl⟩|h1
   ·simp
   ·exact Aix h1 (by omega)
  have hr:es.1.length≤1000000∧(∀e∈es.1,Fk e)∧∀e∈es.1,Df e:=by
   rcases h4 with⟨_,rfl⟩|⟨m',e',hm,h6,rfl⟩
   ·simp
   ·simp only[aF,aH]at hl;rw[h6];refine⟨by simp,fun x hx=>?_,fun x hx=>?_⟩<;>rw[bD]at hx<;>subst hx
    ·exact(Mz hm).fit (by omega)
    ·exact(Mz hm).2
  exact⟨⟨⟨by simp[Aj],by simp[Aj],To ho.2.2,To hr.2.2,b2,By,By,By,fun x hx=>by simp[Aj]at hx,ac⟩,By,fun x hx=>by simp[Aj]at hx,by simp[Aj],by simp[Aj],by simp[Aj],by simp[Aj],aM ho.1 (by omega),aM hr.1 (by omega),ac⟩,by simp[Aj],by simp[Aj],by simp[Aj],ho.2.1,⟨hr.1,hr.2.1⟩,b1⟩
theorem Xo:∀(f:Nat) (acc:List Stm) (s:St) (az:List Stm),Bg s≤100000→Ej f acc s=(az,M [])→(∀st∈acc,FitC st)→∀st∈az,FitC st
 |0,acc,s,az,_,h,ha=>by rw[Ej]at h;grind
 |f+1,acc,J,az,_,h,ha=>by rw[A3y.1]at h;grind
 |f+1,acc,M [],az,_,h,ha=>by rw[A3y.2]at h;grind
 |f+1,acc,M (w::l),az,hl,h,ha=>by
  rw[Ej]at h;cases h2:Cg Oa _ with
  |none=>rw[h2,A3y.1]at h;grind
  |some r=>
   rw[h2]at h;obtain⟨h3,_⟩:=Do h2;obtain⟨m,hm,hg⟩:=Ajc _ _ _ (Prod.ext rfl h3);simp only[bL]at hm;have h4:=congrArg List.length hm;simp at h4;have ab:l.length+1≤100000:=by simpa[Bg]using hl
   refine Xo f _ _ az (by simp[Bg];omega) h fun st aa=>?_
   rcases List.mem_append.1 aa with aa|aa
   ·grind
   ·rw[bD]at aa;subst aa;exact A0u hg (by omega)
theorem At5 {t}:∀st∈(A1 t).1,FitC st:=by
 unfold A1;split
 ·simp
 ·split
  ·rename_i h1 _ l hl;split
   ·simp
   ·obtain⟨ws,h2,_,h3⟩:=Aqs t.length t (aE _);refine Xo _ _ _ _ ?_ hl (by simp);have h4:(Ig t).length≤2000:=by rcases h2 with h2|h2<;>rw[h2]<;>(try simp)<;>omega
    cases h5:adv _ with
    |none=>simp[Bg]
    |some r=>obtain⟨rfl,_⟩:=Ye h5;simp[Bg];omega
  simp
theorem At6 {t}:(A1 t).1.length≤6:=by
 unfold A1;grind
def M6:Rep:=⟨0,0,[]⟩
def F9:Db→List Stm→Nat→Rep→Rep×Db
 |d,[],_,last=>(last,d)
 |d,s::l,i,_=>if(Fp d s).1.code=0 then F9 (Fp d s).2 l (i+1) (Fp d s).1 else(⟨(Fp d s).1.code,(i:Int)+1,[]⟩,(Fp d s).2)
def Sy:Db→List Stm→Bool→Bool
 |_,[],q=>q
 |d,s::l,q=>if(Fp d s).1.code=0 then Sy (Fp d s).2 l (Su d s q)else Su d s q
def doR (d:Db)(a:Int)(t:Wd):Rep×Db×Int:=
 if 150≤a then(⟨8,0,[]⟩,d,a)
 else if(A1 t.data.toList).2≠0 then(⟨(A1 t.data.toList).2,0,[]⟩,d,a+1)
 else if(F9 d (A1 t.data.toList).1 0 M6).1.code=0 then((F9 d (A1 t.data.toList).1 0 M6).1,(F9 d (A1 t.data.toList).1 0 M6).2,a+1)
 else((F9 d (A1 t.data.toList).1 0 M6).1,d,a+1)
def doQ (d:Db)(a:Int)(t:Wd)(q:Bool):Bool:=
 if 150≤a then q
 else if(A1 t.data.toList).2≠0 then q
 else if(F9 d (A1 t.data.toList).1 0 M6).1.code=0 then Sy d (A1 t.data.toList).1 q
 else q
theorem Zm (t):∀(rows:List (List V)) (d:Db),(C9 t d rows).2=0∨(C9 t d rows).2=4∨(C9 t d rows).2=7∨(C9 t d rows).2=8
 |[],_=>.inl rfl
 |r::rows,d=>by
  unfold C9;split
  ·exact Zm t rows _
  ·exact Ah7 d t r
theorem Anl (d)(st):((Fp d st).1.code=0∨(Fp d st).1.code=1∨(Fp d st).1.code=3∨(Fp d st).1.code=4∨(Fp d st).1.code=5∨(Fp d st).1.code=7∨(Fp d st).1.code=8):=by
 unfold Fp;split
 ·rename_i m hm;have:=Anb hm;grind
 ·rename_i b hb;unfold Ff;split
  ·simp
  split
  ·simp
  split
  ·simp
  split
  ·split
   ·rename_i t _;have:=Zm t (b.rows.map fun l=>l.map (ev [])) d;grind
   simp
  split
  ·grind
  split
  ·split
   ·rename_i t _;have:=Zm t (((d.R t.name).filter (Au b.wher)).map (Gn t b.sets)) (d.upd t.name ((d.R t.name).filter fun r=>!Au b.wher r));grind
   simp
  simp
theorem Anm:∀(l:List Stm) (d:Db) (i:Nat) (aa:Rep),aa.code=0→((F9 d l i aa).1.code=0∨(F9 d l i aa).1.code=1∨(F9 d l i aa).1.code=3∨(F9 d l i aa).1.code=4∨(F9 d l i aa).1.code=5∨(F9 d l i aa).1.code=7∨(F9 d l i aa).1.code=8)
 |[],_,_,_,h=>.inl h
 |s::l,d,i,aa,_=>by
  unfold F9;split
  ·rename_i h;exact Anm l _ _ _ h
  ·exact Anl d s
theorem Ap5 (t):(A1 t).2=0∨(A1 t).2=1∨(A1 t).2=2:=by
 unfold A1;grind
theorem Dm.shape {base}{z}{A}{w}(h:Dm base z A w):∃vo vc,z=H vo A.length vc:=(J8 h).shape
theorem Br.row {E}{w}(h:Br E w){g}(hd:Dull w g)(hn:g∉E)(cells):Br E (w.setRow g cells):=fun n aa=>by
 obtain⟨c,T,a,tv,iv,pv,h1,h2⟩:=h n aa;exact⟨c,T,a,tv,iv,pv,h1.row hd (fun e=>hn (by grind)) _,h2⟩
def A1h (n:Nat)(w:bI)(so:Option Addr)(sc:Nat)(ss:List Stm):Prop:=IsL Ie (fun k=>k<w.heap.size∧k≠n) w (H so ss.length sc) ss
theorem At7 {E:List Nat}{n:Nat}{d:Db}{a:Int}{w:bI}(hE:Br E w)(hn:n∈E)(q:Bool)(he:Dt E w n d a q)(ok:DbOk d)(ss:List Stm)(so:Option Addr)(sc:Nat)(hs:A1h n w so sc ss)(hf:∀st∈ss,FitC st)(hl:ss.length≤6):
  aX aK 17 #[aT (M ⟨n,0,J⟩),H so ss.length sc] w fun e w'=>Anc E n (F9 d ss 0 M6) a (Sy d ss q) w w' e:=by
 have cl:n<w.heap.size:=Br.lt hE hn;have bc:∀k,w.heap.size≤k→k∉E:=fun k hk h=>by have:=Br.lt hE h;omega
 obtain⟨aw,bA,bB,-⟩:=al2 w (Q #[D G 0,D G 0,H J 0 0] 32) (Q #[D G 0,D G 0,H J 0 0] 32);have HS:Hid _:=hs;have HF:Hid _:=hf;have bu:Hid _:=he;have bv:Hid _:=hE;have bw:Hid _:=ok;have bx:Hid _:=bc;clear hs hf he hE ok bc;go_enter Tryz.func17,Tryz.ntmps17;go_wp2_with fail
 go_loopw[10] (fun i wr=>∃(k:Nat) (d1:Db) (N:Int) (rows:List (List V)) (q1:Bool) (vo:Option Addr) (vc:Nat),k≤ss.length∧i=D G k∧Hid (F9 d ss 0 M6=F9 d1 (ss.drop k) k ⟨0,N,rows⟩∧Sy d ss q=Sy d1 (ss.drop k) q1)∧Hid (Dt E wr n d1 a q1)∧Hid (DbOk d1)∧Hid (Br E wr)∧wr.heap[w.heap.size]?=M (Q #[D G 0,D G 0,H J 0 0] 32)∧wr.heap[w.heap.size+1]?=M (Q #[D G 0,D G N,H vo rows.length vc] 32)∧Hid (Dm (w.heap.size+2) (H vo rows.length vc) rows wr)∧But n w wr) (fun i _=>ss.length-(intOf i).toNat)
 case atStart=>exact⟨0,d,0,[],q,J,0,aR _,rfl,⟨rfl,rfl⟩,Dt.below bu.out aw,bw.out,Br.below bv.out aw,bA,bB,B8 _ _,But.of_below aw⟩
 case round=>
  obtain⟨k,d1,N,rows,q1,vo,vc,hk,rfl,ab,ax,bd,be,b4,b5,bf,aq⟩:=hrel
  by_cases bz:k<ss.length
  ·obtain⟨st,hx⟩:∃x,ss[k]?=M x:=⟨_,bM bz⟩;have bg:=HS.out.keep (aq.keeps fun h=>h.2 rfl);obtain⟨b,ca,cs,cb,_,hb,hR,bh⟩:=At bg hx;cases cb;have bi:cs.length=20:=Ie.len hR;have bj:wr.rangeAt b (ca+k*20) cs:=bh;have bk:(Tryz.prog.info? 50).map (·.size)=M cs.length:=by rw[bi];exact D4
   have bl:(Tryz.prog.info? 50).map (·.size)=M cs.toArray.size:=by rw[cD];exact bk
   have cc:cs.toArray.size=20:=by rw[cD];exact bi
   have bm:=(Aac hR).1;have bZ:=Ab wr (Q Bn 50);have bX:=Ao (cells:=cs.toArray) bZ;have ak:Below _ wr ((wr.alloc (Q Bn 50)).setRow _ cs.toArray):=Below.row (Aq wr _) (aE _) _;have bn:Hid _:=Sq hx;have cd:Hid _:=HF.out st (aY hx);have v0:(0:Int)≤k:=by omega
   have v1:k<(ss.length:Int):=by omega
   have ce:=aq.size;have cf:Hid _:=Ie.mono (fun k hk _=>hk) hR;clear bh bg hx hR;go_upto_region 5 with(first
    |(refine wpList_load_mid rfl 50 _ rfl b _ ?_ cs _ bj cA ?_ ?_ ?_;exact rfl;exact rfl;exact bk)
    |(refine aB rfl 50 _ _ rfl wr.heap.size cs.toArray ?_ ?_ 50 Bn ?_ ?_ ?_ ?_ ?_;exact rfl;exact rfl;exact bZ;exact bl;exact cc.symm;exact bm))
   have ar:=(ak.block _ (aD b4)).trans b4;have am:=(ak.block _ (aD b5)).trans b5;have ay:Hid _:=Dt.below ax.out ak;have au:Hid _:=Br.below be.out ak;have az:=aq.trans (But.of_below ak);have av:Hid _:=Ie.keep (Ai ak) cf.out;clear bZ bj ak hb bm;generalize(wr.alloc _).setRow _ _=V at ar am ay au az av bX⊢;generalize wr.heap.size=g at bX av ce⊢;have HI:aX aK 26 #[aT (M ⟨n,0,J⟩),X cs.toArray] V fun e w'=>Anc E n (Fp d1 st) a (Su d1 st q1) V w' e:=by
    obtain⟨T,cg,tc,io,ic,po,pc,h1,h2,h3⟩:=ay.out;exact A2y au.out hn h1 bd.out h2 q1 h3 st cs (Ie.mono (fun k hk _=>hk) av.out) cd.out
   have an:=Anl d1 st;have ad:Hid (F9 d1 (ss.drop k) k ⟨0,N,rows⟩=if(Fp d1 st).1.code=0 then F9 (Fp d1 st).2 (ss.drop (k+1)) (k+1) (Fp d1 st).1 else(⟨(Fp d1 st).1.code,k+1,[]⟩,(Fp d1 st).2)):=by show _=_;rw[bn.out,F9]
   have ac:Hid (Sy d1 (ss.drop k) q1=if(Fp d1 st).1.code=0 then Sy (Fp d1 st).2 (ss.drop (k+1)) (Su d1 st q1)else Su d1 st q1):=by show _=_;rw[bn.out,Sy]
   generalize Su d1 st q1=q2 at HI ac;generalize Fp d1 st=p at HI ad ac an;obtain⟨⟨C,N2,af⟩,d2⟩:=p;simp only at an ad ac;go_upto_region 6 with(first
    |(go_fit HI;rintro e w8 ⟨⟨cm,rfl,ba⟩,ae⟩;obtain⟨ag,ah,rfl⟩:=ba.shape;have ap:=(ae.2.2.block _ (aD am) (by omega)).trans am;have bo:=(ae.2.2.block _ (aD ar) (by omega)).trans ar)
    |(refine aI rfl 50 _ rfl g ?_ 50 _ _ _ bX cA ?_ ?_ ?_;exact rfl;exact rfl;exact bl)
    |(refine aB rfl 32 _ _ rfl (w.heap.size+1) #[D G C,D G N2,H ag af.length ah] ?_ ?_ 32 #[D G 0,D G N,H vo rows.length vc] ?_ ?_ ?_ ?_ ?_;exact rfl;exact rfl;exact ap;exact Ar;exact rfl;exact C3 _ _ _ _ _))
   have bb:=Ao (cells:=#[D G C,D G N2,H ag af.length ah]) ap;have aa:=Bz (g:=w.heap.size+1) bo (by omega) #[D G C,D G N2,H ag af.length ah];have ai:Hid _:=Dt.row ae.1 (Cn ap) (show n≠w.heap.size+1 by omega) #[D G C,D G N2,H ag af.length ah];have bp:Br E w8:=by
    obtain⟨T,cg,tc,io,ic,po,pc,h1,_⟩:=ae.1;exact Br.put au.out ae.2.2 hn h1 ae.2.1.cat
   have bq:Hid _:=Br.row bp (Cn ap) (bx.out _ (show w.heap.size≤w.heap.size+1 by omega)) #[D G C,D G N2,H ag af.length ah];have aj:=(az.trans ae.2.2).rowB (show w.heap.size≤w.heap.size+1 by omega) #[D G C,D G N2,H ag af.length ah];have ch:w.heap.size+2≤V.heap.size:=by have:=aD am;omega
   have bt:Hid _:=(ba.base ch).row (show w.heap.size+1<w.heap.size+2 by omega) #[D G C,D G N2,H ag af.length ah];have al:Hid _:=ae.2.1;have c0:=Aa bb (j:=0) rfl;clear HI ae ba bo ap ar am bX ay au az av bp be ax bf;generalize w8.setRow _ _=Z at bb aa ai bq aj bt c0⊢;rcases an with rfl|an
   ·rw[if_pos rfl]at ad ac;go_wp2_with fail;go_roundw
    case rel=>exact⟨_,d2,N2,af,q2,ag,ah,by omega,by rfl,⟨ab.out.1.trans ad.out,ab.out.2.trans ac.out⟩,ai,al,bq,aa,bb,bt,aj⟩
    case measure=>simp[intOf];omega
   ·have cj:Hid (C≠0):=by show _≠_;omega
    rw[if_neg cj.out]at ad ac;have cn:k≤6:=by omega
    rcases an with rfl|rfl|rfl|rfl|rfl|rfl
    ·go_wp2_with(refine aB rfl 32 _ _ rfl w.heap.size #[D G 1,D G (k+1),H J 0 0] ?_ ?_ 32 #[D G 0,D G 0,H J 0 0] ?_ ?_ ?_ ?_ ?_;exact rfl;exact(by go_num);exact aa;exact Ar;exact rfl;exact C3 _ _ _ _ _);refine aG (v:=X #[D G 1,D G ((k:Int)+1),H J 0 0]) (aC aO _ _ w.heap.size 32 #[D G 1,D G ((k:Int)+1),H J 0 0] _ _ rfl (Ao aa) aA rfl Ar) rfl ?_;rw[ab.out.1,ab.out.2,ad.out,ac.out];exact⟨⟨_,rfl,B8 _ _⟩,Dt.row ai.out (Cn aa) (show n≠w.heap.size by omega) _,al.out,aj.rowB (aE _) _⟩
    ·go_wp2_with(refine aB rfl 32 _ _ rfl w.heap.size #[D G 3,D G (k+1),H J 0 0] ?_ ?_ 32 #[D G 0,D G 0,H J 0 0] ?_ ?_ ?_ ?_ ?_;exact rfl;exact(by go_num);exact aa;exact Ar;exact rfl;exact C3 _ _ _ _ _);refine aG (v:=X #[D G 3,D G ((k:Int)+1),H J 0 0]) (aC aO _ _ w.heap.size 32 #[D G 3,D G ((k:Int)+1),H J 0 0] _ _ rfl (Ao aa) aA rfl Ar) rfl ?_;rw[ab.out.1,ab.out.2,ad.out,ac.out];exact⟨⟨_,rfl,B8 _ _⟩,Dt.row ai.out (Cn aa) (show n≠w.heap.size by omega) _,al.out,aj.rowB (aE _) _⟩
    ·go_wp2_with(refine aB rfl 32 _ _ rfl w.heap.size #[D G 4,D G (k+1),H J 0 0] ?_ ?_ 32 #[D G 0,D G 0,H J 0 0] ?_ ?_ ?_ ?_ ?_;exact rfl;exact(by go_num);exact aa;exact Ar;exact rfl;exact C3 _ _ _ _ _);refine aG (v:=X #[D G 4,D G ((k:Int)+1),H J 0 0]) (aC aO _ _ w.heap.size 32 #[D G 4,D G ((k:Int)+1),H J 0 0] _ _ rfl (Ao aa) aA rfl Ar) rfl ?_;rw[ab.out.1,ab.out.2,ad.out,ac.out];exact⟨⟨_,rfl,B8 _ _⟩,Dt.row ai.out (Cn aa) (show n≠w.heap.size by omega) _,al.out,aj.rowB (aE _) _⟩
    ·go_wp2_with(refine aB rfl 32 _ _ rfl w.heap.size #[D G 5,D G (k+1),H J 0 0] ?_ ?_ 32 #[D G 0,D G 0,H J 0 0] ?_ ?_ ?_ ?_ ?_;exact rfl;exact(by go_num);exact aa;exact Ar;exact rfl;exact C3 _ _ _ _ _);refine aG (v:=X #[D G 5,D G ((k:Int)+1),H J 0 0]) (aC aO _ _ w.heap.size 32 #[D G 5,D G ((k:Int)+1),H J 0 0] _ _ rfl (Ao aa) aA rfl Ar) rfl ?_;rw[ab.out.1,ab.out.2,ad.out,ac.out];exact⟨⟨_,rfl,B8 _ _⟩,Dt.row ai.out (Cn aa) (show n≠w.heap.size by omega) _,al.out,aj.rowB (aE _) _⟩
    ·go_wp2_with(refine aB rfl 32 _ _ rfl w.heap.size #[D G 7,D G (k+1),H J 0 0] ?_ ?_ 32 #[D G 0,D G 0,H J 0 0] ?_ ?_ ?_ ?_ ?_;exact rfl;exact(by go_num);exact aa;exact Ar;exact rfl;exact C3 _ _ _ _ _);refine aG (v:=X #[D G 7,D G ((k:Int)+1),H J 0 0]) (aC aO _ _ w.heap.size 32 #[D G 7,D G ((k:Int)+1),H J 0 0] _ _ rfl (Ao aa) aA rfl Ar) rfl ?_;rw[ab.out.1,ab.out.2,ad.out,ac.out];exact⟨⟨_,rfl,B8 _ _⟩,Dt.row ai.out (Cn aa) (show n≠w.heap.size by omega) _,al.out,aj.rowB (aE _) _⟩
    ·go_wp2_with(refine aB rfl 32 _ _ rfl w.heap.size #[D G 8,D G (k+1),H J 0 0] ?_ ?_ 32 #[D G 0,D G 0,H J 0 0] ?_ ?_ ?_ ?_ ?_;exact rfl;exact(by go_num);exact aa;exact Ar;exact rfl;exact C3 _ _ _ _ _);refine aG (v:=X #[D G 8,D G ((k:Int)+1),H J 0 0]) (aC aO _ _ w.heap.size 32 #[D G 8,D G ((k:Int)+1),H J 0 0] _ _ rfl (Ao aa) aA rfl Ar) rfl ?_;rw[ab.out.1,ab.out.2,ad.out,ac.out];exact⟨⟨_,rfl,B8 _ _⟩,Dt.row ai.out (Cn aa) (show n≠w.heap.size by omega) _,al.out,aj.rowB (aE _) _⟩
  ·have ck:k=ss.length:=by omega
   subst ck;have v1:¬(ss.length<(ss.length:Int)):=by omega
   have HD:Hid (ss.drop _=[]):=cF;go_wp2_with(first
    |(refine aI rfl 32 _ rfl _ ?_ 32 _ _ _ b5 aA ?_ ?_ ?_;exact rfl;exact rfl;exact Ar)
    |(refine aB rfl 32 _ _ rfl (w.heap.size) #[D G 0,D G N,H vo rows.length vc] ?_ ?_ 32 #[D G 0,D G 0,H J 0 0] ?_ ?_ ?_ ?_ ?_;exact rfl;exact rfl;exact b4;exact Ar;exact rfl;exact C3 _ _ _ _ _))
   refine aG (v:=X #[D G 0,D G N,H vo rows.length vc]) (aC aO _ _ w.heap.size 32 #[D G 0,D G N,H vo rows.length vc] _ _ rfl (Ao b4) aA rfl Ar) rfl ?_;rw[ab.out.1,ab.out.2,HD.out,F9,Sy];exact⟨⟨_,rfl,(bf.out.row (show w.heap.size<w.heap.size+2 by omega) _).base (by omega)⟩,Dt.row ax.out (Cn b4) (show n≠w.heap.size by omega) _,bd.out,aq.rowB (aE _) _⟩
theorem EngC.mono {E E'}{w}{n}{c}{T}{a}{tv iv pv}(h:EngC E w n c T a tv iv pv)(hk:∀k,k<w.heap.size→k∉E→k∉E'):EngC E' w n c T a tv iv pv:=
 ⟨h.blk,h.tabs.mono hk,h.idxs.mono hk,h.pages.mono hk,h.good⟩
theorem A0v {E}{w}{n}{c}{T}{a}{tv iv pv}(hE:Br E w)(h:EngC E w n c T a tv iv pv)(hc:Dv c=y)(z):
  Br (w.heap.size::E) ((w.alloc (Q z 67)).setRow w.heap.size #[tv,iv,pv,D G a])∧EngC (w.heap.size::E) ((w.alloc (Q z 67)).setRow w.heap.size #[tv,iv,pv,D G a]) w.heap.size c T a tv iv pv∧Below w.heap.size w ((w.alloc (Q z 67)).setRow w.heap.size #[tv,iv,pv,D G a]):=by
 have hb:Below _ w ((w.alloc (Q z 67)).setRow _ #[tv,iv,pv,D G a]):=Below.row (Aq w _) (aE _) _;have hk:∀k,k<w.heap.size→k∉E→k∉w.heap.size::E:=fun k h1 h2 h3=>by grind
 have new:EngC (w.heap.size::E) ((w.alloc (Q z 67)).setRow w.heap.size #[tv,iv,pv,D G a]) w.heap.size c T a tv iv pv:=by
  have h1:=(h.mono hk).below hb;exact⟨Ao (Ab w _),h1.tabs,h1.idxs,h1.pages,h1.good⟩
 refine⟨fun m hm=>?_,new,hb⟩;rcases bC.1 hm with rfl|hm
 ·grind
 ·obtain⟨c',T',a',aa,ab,ac,h1,h2⟩:=hE m hm;exact⟨c',T',a',aa,ab,ac,(h1.mono hk).below hb,h2⟩
theorem A0w {E}{w}{m n}{c}{T}{a}{tv iv pv}(h:EngC (m::E) w m c T a tv iv pv)(hn:n∈E){old}(hb:w.heap[n]?=M (Q old 67)):EngC E (w.setRow n #[tv,iv,pv,D G a]) n c T a tv iv pv:=by
 have hk:Keeps (fun k=>k∉m::E) w (w.setRow n #[tv,iv,pv,D G a]):=(Keeps.refl _ _).row (fun h=>h (bS _ hn)) _;have hm:∀k,k<(w.setRow n #[tv,iv,pv,D G a]).heap.size→k∉m::E→k∉E:=fun k _ h1 h2=>h1 (bS _ h2)
 exact⟨Ao hb,(h.tabs.keep hk).mono hm,(h.idxs.keep hk).mono hm,(h.pages.keep hk).mono hm,h.good⟩
theorem EngC.tick {E}{w}{n}{c}{T}{a}{tv iv pv}(h:EngC E w n c T a tv iv pv)(hn:n∈E)(a'):EngC E (w.setCell ⟨n,3,J⟩ (D G a')) n c T a' tv iv pv:=by
 have hk:Keeps _ w (w.setCell _ (D G a')):=Jr ((But.refl n w).set 3 _) hn;exact⟨Dj h.blk 3 _,h.tabs.keep hk,h.idxs.keep hk,h.pages.keep hk,h.good⟩
theorem But.newB {a m}{u v w}(h:But a u v)(k:But m v w)(hm:u.heap.size≤m):But a u w:=
 ⟨k.os.trans h.os,k.tape.trans h.tape,k.output.trans h.output,aM h.size k.size,fun i hi hn=>(k.block i (bG hi h.size) (by omega)).trans (h.block i hi hn)⟩
theorem But.same {a}{u v}(h:But a u v)(cells):But a u (v.setRow a cells):=
 ⟨h.os,h.tape,h.output,by simp[World.setRow];exact h.size,fun k hk hn=>by
  rw[←h.block k hk hn];simp only[World.setRow,bN];grind⟩
theorem A27 {B}{w W}{so}{sc}{ss}(h:IsL Ie (Fr B) w (H so ss.length sc) ss)(hb:Below w.heap.size w W):A1h w.heap.size W so sc ss:=by
 refine((h.mono fun k hk _=>hk).keep (Ae hb)).mono fun k hk h=>⟨hk,by omega⟩
theorem Arg (a b c:Option Addr)(n m k n' m' k':Nat)(x:Int):(#[H a n n',H b m m',H c k k',D G x]:Array aW).all (·.oneCell')=y:=by simp[cG]
theorem Wv:(Tryz.prog.info? 67).map (·.size)=M 4:=by kernel_rfl
def At8 (E:List Nat)(n:Nat)(p:Rep×Db×Int)(q:Bool)(w w':bI)(e:Ending):Prop:=(∃rv,e=aQ (X #[D G p.1.code,D G p.1.n,rv])∧Dm w.heap.size rv p.1.rows w')∧Dt E w' n p.2.1 p.2.2 q∧DbOk p.2.1∧But n w w'
theorem U6 {E:List Nat}{n:Nat}{d:Db}{a:Int}{w:bI}(hE:Br E w)(hn:n∈E)(q:Bool)(cl:Dt E w n d a q)(ok:DbOk d)(ha:0≤a)(cm:Env w)(cn:8≤n)(t:Wd):
  aX aK 10 #[aT (M ⟨n,0,J⟩),X #[O t]] w fun e w'=>At8 E n (doR d a t) (doQ d a t q) w w' e:=by
 obtain⟨T,ac,tc,io,ic,po,pc,he,ae,hq⟩:=cl;have cy:n<w.heap.size:=he.lt;obtain⟨aj,bT,bR,-⟩:=al2 w (Q #[O t] 28) (Q #[D G 0,D G 0,H J 0 0] 32);have an:=he.below aj;have bk:=hE.below aj;have bl:=cm.next aj;generalize hW:((w.alloc (Q #[O t] 28)).alloc (Q #[D G 0,D G 0,H J 0 0] 32))=W2 at aj bT bR an bk bl;have HW:Hid _:=hW;have v3:=Aa an.blk (j:=3) rfl;have f3:W2.frozen? ⟨n,3,J⟩=cH:=by simp[bJ,an.blk]
 have v9:=Aa bT (j:=0) rfl;have cz:=aj.size;clear hW
 by_cases aw:150≤a
 ·have HE:Hid (doR d a t=(⟨8,0,[]⟩,d,a)):=by show _=_;rw[doR,if_pos aw]
  have HQ:Hid (doQ d a t q=q):=by show _=_;rw[doQ,if_pos aw]
  go_enter Tryz.func10,Tryz.ntmps10;go_upto_region 1 with fail;rw[HW.out];go_wp2_with(refine aB rfl 32 _ _ rfl (w.heap.size+1) #[D G 8,D G 0,H J 0 0] ?_ ?_ 32 #[D G 0,D G 0,H J 0 0] ?_ ?_ ?_ ?_ ?_;exact rfl;exact rfl;exact bR;exact Ar;exact rfl;exact C3 _ _ _ _ _);refine aG (v:=X #[D G 8,D G 0,H J 0 0]) (aC aJ _ _ (w.heap.size+1) 32 #[D G 8,D G 0,H J 0 0] _ _ rfl (Ao bR) aA rfl Ar) rfl ?_;rw[HE.out,HQ.out];exact⟨⟨_,rfl,B8 _ _⟩,⟨T,ac,tc,io,ic,po,pc,an.row (Cn bR) (show n≠w.heap.size+1 by omega) _,ae,hq⟩,ok,(But.of_below aj).rowB (by omega) _⟩
 ·have da:a≤149:=by omega
  have ax:∀W,But n W2 W→aX aK 13 #[O t] W _:=fun W h=>Afa t W (bl.but h cn)
  have ay:=Ap5 t.data.toList;have ce:Hid (∀st∈(A1 t.data.toList).1,FitC st):=At5;have cf:Hid ((A1 t.data.toList).1.length≤6):=At6;have HE:Hid (doR d a t=if(A1 t.data.toList).2≠0 then(⟨(A1 t.data.toList).2,0,[]⟩,d,a+1)
    else if(F9 d (A1 t.data.toList).1 0 M6).1.code=0 then((F9 d (A1 t.data.toList).1 0 M6).1,(F9 d (A1 t.data.toList).1 0 M6).2,a+1)
    else((F9 d (A1 t.data.toList).1 0 M6).1,d,a+1)):=by show _=_;rw[doR,if_neg aw]
  have HQ:Hid (doQ d a t q=if(A1 t.data.toList).2≠0 then q else if(F9 d (A1 t.data.toList).1 0 M6).1.code=0 then Sy d (A1 t.data.toList).1 q else q):=by show _=_;rw[doQ,if_neg aw]
  generalize(A1 t.data.toList).1=ss at ax ce cf HE HQ;generalize(A1 t.data.toList).2=e2 at ax ay HE HQ;have h5:=(But.refl n W2).set 3 (D G (a+1));have az:=an.tick hn (a+1);have bm:Br E (W2.setCell ⟨n,3,J⟩ (D G (a+1))):=bk.put h5 hn az ok.cat;have ba:=(h5.block _ (aD bR) (by omega)).trans bR;have bn:=(h5.block _ (aD bT) (by omega)).trans bT;have cg:=Aa bn (j:=0) rfl;have bo:=ax _ h5;have co:=h5.size;go_enter Tryz.func10,Tryz.ntmps10;go_upto_region 1 with fail;rw[HW.out];go_upto_region 6 with fail;generalize W2.setCell ⟨n,3,J⟩ (D G (a+1))=W5 at h5 az bm ba bn cg bo co⊢;clear ax;go_upto_region 7 with(go_fit bo;rintro e w6 ⟨db,rfl,bp,ap⟩);obtain⟨so,sc,rfl⟩:=bp.shape;have ak:=az.below ap;have ch:=bm.below ap;have af:=(ap.block _ (aD ba)).trans ba;have bq:=((But.of_below aj).trans h5).trans (But.of_below (a:=n) ap);have dc:=ap.size;have dd:=aD af;clear bo az bm ba bn cg v9 v3 f3 an bk bT bl;rcases ay with rfl|ay
  ·rw[if_neg (by simp)]at HE HQ;obtain⟨bt,bb,aq⟩:=A0v ch ak ok.cat #[H J 0 0,H J 0 0,H J 0 0,D G 0];have bu:=A27 bp aq;have ar:=(aq.block _ (aD af)).trans af;have bc:=(aq.block _ (aD ak.blk)).trans ak.blk;have bZ:=Ab w6 (Q #[H J 0 0,H J 0 0,H J 0 0,D G 0] 67);have b6:=ak.blk;have hM:w6.heap.size<((w6.alloc (Q #[H J 0 0,H J 0 0,H J 0 0,D G 0] 67)).setRow w6.heap.size #[H ac d.c.tables.length tc,H io d.c.indexes.length ic,H po T.length pc,D G (a+1)]).heap.size:=bb.lt;go_upto_region 10 with(first
    |(refine aI rfl 67 _ rfl n ?_ 67 _ (0,0) _ b6 bW ?_ ?_ ?_;exact rfl;exact rfl;exact Wv)
    |(refine aB rfl 67 _ _ rfl w6.heap.size #[H ac d.c.tables.length tc,H io d.c.indexes.length ic,H po T.length pc,D G (a+1)] ?_ ?_ 67 #[H J 0 0,H J 0 0,H J 0 0,D G 0] ?_ ?_ ?_ ?_ ?_;exact rfl;exact rfl;exact bZ;exact Wv;exact rfl;exact Arg _ _ _ _ _ _ _ _ _ _))
   clear bZ b6;generalize(w6.alloc (Q #[H J 0 0,H J 0 0,H J 0 0,D G 0] 67)).setRow w6.heap.size #[H ac d.c.tables.length tc,H io d.c.indexes.length ic,H po T.length pc,D G (a+1)]=W9 at bt bb aq bu ar bc hM⊢;have bd:=At7 bt (List.mem_cons_self) q ⟨T,ac,tc,io,ic,po,pc,bb,ae,hq⟩ ok ss so sc bu ce.out cf.out;have av:=Anm ss d 0 M6 rfl;have cp:=bq.trans (But.of_below (a:=n) aq);generalize Sy d ss q=q2 at bd HQ;generalize F9 d ss 0 M6=p at bd HE HQ av;obtain⟨⟨C,N2,aa⟩,d2⟩:=p;simp only at HE HQ av;have cq:w6.heap.size≠n:=by omega
   go_upto_region 11 with(first
    |(go_fit bd;rintro e ad ⟨⟨rv,rfl,bv⟩,cr⟩;obtain⟨vo,vc,rfl⟩:=bv.shape;have bw:=Ab ad (Q #[D G 0,D G 0,H J 0 0] 32))
    |(refine aB rfl 32 _ _ rfl ad.heap.size #[D G C,D G N2,H vo aa.length vc] ?_ ?_ 32 #[D G 0,D G 0,H J 0 0] ?_ ?_ ?_ ?_ ?_;exact rfl;exact rfl;exact bw;exact Ar;exact rfl;exact C3 _ _ _ _ _))
   obtain⟨⟨T2,be,bf,bg,bh,bi,bj,cj,cs,ct⟩,cu,ag⟩:=cr;have al:Below ad.heap.size ad ((ad.alloc (Q #[D G 0,D G 0,H J 0 0] 32)).setRow ad.heap.size #[D G C,D G N2,H vo aa.length vc]):=Below.row (Aq ad _) (aE _) _;have bQ:=Ao (cells:=#[D G C,D G N2,H vo aa.length vc]) bw;have bx:=cj.below al;have bz:=(ag.block _ (aD ar) (by omega)).trans ar;have ca:=(ag.block _ (aD bc) (Ne.symm cq)).trans bc;have ab:=(al.block _ (aD bz)).trans bz;have cb:=(al.block _ (aD ca)).trans ca;have ah:=(cp.newB ag (by omega)).trans (But.of_below (a:=n) al);have ai:=bv.below al;have ck:Below w6.heap.size w6 ((ad.alloc (Q #[D G 0,D G 0,H J 0 0] 32)).setRow ad.heap.size #[D G C,D G N2,H vo aa.length vc]):=(aq.trans (ag.below (aE _) (bH hM))).trans (al.mono (aM (bH hM) ag.size));have cv:w.heap.size+1<ad.heap.size:=by have:=ag.size;have:=aD ar;omega
   have c0:=Aa bQ (j:=0) rfl;have am:w.heap.size+1<W9.heap.size:=aD ar;have cx:=ag.size;clear bd bw cj bz ca al bv ag bt bb bu ar bc ch af ap bp;generalize(ad.alloc (Q #[D G 0,D G 0,H J 0 0] 32)).setRow ad.heap.size #[D G C,D G N2,H vo aa.length vc]=Y at bQ bx ab cb ah ai ck c0⊢;generalize ad.heap.size=g at bQ cv c0 cx⊢;rcases av with rfl|av
   ·rw[if_pos rfl]at HE HQ;have cc:=Bz (g:=n) ab (show w.heap.size+1≠n by omega) #[H be d2.c.tables.length bf,H bg d2.c.indexes.length bh,H bi T2.length bj,D G (a+1)];go_wp2_with(first
     |(refine aI rfl 67 _ rfl w6.heap.size ?_ 67 _ (0,0) _ bx.blk bW ?_ ?_ ?_;exact rfl;exact rfl;exact Wv)
     |(refine aB rfl 67 _ _ rfl n #[H be d2.c.tables.length bf,H bg d2.c.indexes.length bh,H bi T2.length bj,D G (a+1)] ?_ ?_ 67 #[H ac d.c.tables.length tc,H io d.c.indexes.length ic,H po T.length pc,D G (a+1)] ?_ ?_ ?_ ?_ ?_;exact rfl;exact rfl;exact cb;exact Wv;exact rfl;exact Arg _ _ _ _ _ _ _ _ _ _)
     |(refine aI rfl 32 _ rfl g ?_ 32 _ (0,0) _ (Bz (g:=n) bQ (show g≠n by omega) #[H be d2.c.tables.length bf,H bg d2.c.indexes.length bh,H bi T2.length bj,D G (a+1)]) aA ?_ ?_ ?_;exact rfl;exact rfl;exact Ar)
     |(refine aB rfl 32 _ _ rfl (w.heap.size+1) #[D G 0,D G N2,H vo aa.length vc] ?_ ?_ 32 #[D G 0,D G 0,H J 0 0] ?_ ?_ ?_ ?_ ?_;exact rfl;exact rfl;exact cc;exact Ar;exact rfl;exact C3 _ _ _ _ _))
    refine aG (v:=X #[D G 0,D G N2,H vo aa.length vc]) (aC aJ _ _ (w.heap.size+1) 32 #[D G 0,D G N2,H vo aa.length vc] _ _ rfl (Ao cc) aA rfl Ar) rfl ?_;rw[HE.out,HQ.out];refine⟨⟨_,rfl,((ai.row (show n<W9.heap.size by omega) _).row am _).base (by omega)⟩,⟨T2,be,bf,bg,bh,bi,bj,(A0w bx hn cb).row (Cn cc) (show n≠w.heap.size+1 by omega) _,cs,ct⟩,cu,(ah.same _).rowB (by omega) _⟩
   ·have cd:Hid (C≠0):=by show _≠_;omega
    rw[if_neg cd.out]at HE HQ;have au:=ak.below ck;rcases av with rfl|rfl|rfl|rfl|rfl|rfl
    ·go_wp2_with(first
      |(refine aI rfl 32 _ rfl g ?_ 32 _ (0,0) _ bQ aA ?_ ?_ ?_;exact rfl;exact rfl;exact Ar)
      |(refine aB rfl 32 _ _ rfl (w.heap.size+1) #[D G 1,D G N2,H vo aa.length vc] ?_ ?_ 32 #[D G 0,D G 0,H J 0 0] ?_ ?_ ?_ ?_ ?_;exact rfl;exact rfl;exact ab;exact Ar;exact rfl;exact C3 _ _ _ _ _))
     refine aG (v:=X #[D G 1,D G N2,H vo aa.length vc]) (aC aJ _ _ (w.heap.size+1) 32 #[D G 1,D G N2,H vo aa.length vc] _ _ rfl (Ao ab) aA rfl Ar) rfl ?_;rw[HE.out,HQ.out];exact⟨⟨_,rfl,(ai.row am _).base (by omega)⟩,⟨T,ac,tc,io,ic,po,pc,au.row (Cn ab) (show n≠w.heap.size+1 by omega) _,ae,hq⟩,ok,ah.rowB (by omega) _⟩
    ·go_wp2_with(first
      |(refine aI rfl 32 _ rfl g ?_ 32 _ (0,0) _ bQ aA ?_ ?_ ?_;exact rfl;exact rfl;exact Ar)
      |(refine aB rfl 32 _ _ rfl (w.heap.size+1) #[D G 3,D G N2,H vo aa.length vc] ?_ ?_ 32 #[D G 0,D G 0,H J 0 0] ?_ ?_ ?_ ?_ ?_;exact rfl;exact rfl;exact ab;exact Ar;exact rfl;exact C3 _ _ _ _ _))
     refine aG (v:=X #[D G 3,D G N2,H vo aa.length vc]) (aC aJ _ _ (w.heap.size+1) 32 #[D G 3,D G N2,H vo aa.length vc] _ _ rfl (Ao ab) aA rfl Ar) rfl ?_;rw[HE.out,HQ.out];exact⟨⟨_,rfl,(ai.row am _).base (by omega)⟩,⟨T,ac,tc,io,ic,po,pc,au.row (Cn ab) (show n≠w.heap.size+1 by omega) _,ae,hq⟩,ok,ah.rowB (by omega) _⟩
    ·go_wp2_with(first
      |(refine aI rfl 32 _ rfl g ?_ 32 _ (0,0) _ bQ aA ?_ ?_ ?_;exact rfl;exact rfl;exact Ar)
      |(refine aB rfl 32 _ _ rfl (w.heap.size+1) #[D G 4,D G N2,H vo aa.length vc] ?_ ?_ 32 #[D G 0,D G 0,H J 0 0] ?_ ?_ ?_ ?_ ?_;exact rfl;exact rfl;exact ab;exact Ar;exact rfl;exact C3 _ _ _ _ _))
     refine aG (v:=X #[D G 4,D G N2,H vo aa.length vc]) (aC aJ _ _ (w.heap.size+1) 32 #[D G 4,D G N2,H vo aa.length vc] _ _ rfl (Ao ab) aA rfl Ar) rfl ?_;rw[HE.out,HQ.out];exact⟨⟨_,rfl,(ai.row am _).base (by omega)⟩,⟨T,ac,tc,io,ic,po,pc,au.row (Cn ab) (show n≠w.heap.size+1 by omega) _,ae,hq⟩,ok,ah.rowB (by omega) _⟩
    ·go_wp2_with(first
      |(refine aI rfl 32 _ rfl g ?_ 32 _ (0,0) _ bQ aA ?_ ?_ ?_;exact rfl;exact rfl;exact Ar)
      |(refine aB rfl 32 _ _ rfl (w.heap.size+1) #[D G 5,D G N2,H vo aa.length vc] ?_ ?_ 32 #[D G 0,D G 0,H J 0 0] ?_ ?_ ?_ ?_ ?_;exact rfl;exact rfl;exact ab;exact Ar;exact rfl;exact C3 _ _ _ _ _))
     refine aG (v:=X #[D G 5,D G N2,H vo aa.length vc]) (aC aJ _ _ (w.heap.size+1) 32 #[D G 5,D G N2,H vo aa.length vc] _ _ rfl (Ao ab) aA rfl Ar) rfl ?_;rw[HE.out,HQ.out];exact⟨⟨_,rfl,(ai.row am _).base (by omega)⟩,⟨T,ac,tc,io,ic,po,pc,au.row (Cn ab) (show n≠w.heap.size+1 by omega) _,ae,hq⟩,ok,ah.rowB (by omega) _⟩
    ·go_wp2_with(first
      |(refine aI rfl 32 _ rfl g ?_ 32 _ (0,0) _ bQ aA ?_ ?_ ?_;exact rfl;exact rfl;exact Ar)
      |(refine aB rfl 32 _ _ rfl (w.heap.size+1) #[D G 7,D G N2,H vo aa.length vc] ?_ ?_ 32 #[D G 0,D G 0,H J 0 0] ?_ ?_ ?_ ?_ ?_;exact rfl;exact rfl;exact ab;exact Ar;exact rfl;exact C3 _ _ _ _ _))
     refine aG (v:=X #[D G 7,D G N2,H vo aa.length vc]) (aC aJ _ _ (w.heap.size+1) 32 #[D G 7,D G N2,H vo aa.length vc] _ _ rfl (Ao ab) aA rfl Ar) rfl ?_;rw[HE.out,HQ.out];exact⟨⟨_,rfl,(ai.row am _).base (by omega)⟩,⟨T,ac,tc,io,ic,po,pc,au.row (Cn ab) (show n≠w.heap.size+1 by omega) _,ae,hq⟩,ok,ah.rowB (by omega) _⟩
    ·go_wp2_with(first
      |(refine aI rfl 32 _ rfl g ?_ 32 _ (0,0) _ bQ aA ?_ ?_ ?_;exact rfl;exact rfl;exact Ar)
      |(refine aB rfl 32 _ _ rfl (w.heap.size+1) #[D G 8,D G N2,H vo aa.length vc] ?_ ?_ 32 #[D G 0,D G 0,H J 0 0] ?_ ?_ ?_ ?_ ?_;exact rfl;exact rfl;exact ab;exact Ar;exact rfl;exact C3 _ _ _ _ _))
     refine aG (v:=X #[D G 8,D G N2,H vo aa.length vc]) (aC aJ _ _ (w.heap.size+1) 32 #[D G 8,D G N2,H vo aa.length vc] _ _ rfl (Ao ab) aA rfl Ar) rfl ?_;rw[HE.out,HQ.out];exact⟨⟨_,rfl,(ai.row am _).base (by omega)⟩,⟨T,ac,tc,io,ic,po,pc,au.row (Cn ab) (show n≠w.heap.size+1 by omega) _,ae,hq⟩,ok,ah.rowB (by omega) _⟩
  ·have cd:Hid (e2≠0):=by show _≠_;omega
   rw[if_pos cd.out]at HE HQ;rcases ay with rfl|rfl
   ·go_wp2_with(refine aB rfl 32 _ _ rfl (w.heap.size+1) #[D G 1,D G 0,H J 0 0] ?_ ?_ 32 #[D G 0,D G 0,H J 0 0] ?_ ?_ ?_ ?_ ?_;exact rfl;exact rfl;exact af;exact Ar;exact rfl;exact C3 _ _ _ _ _);refine aG (v:=X #[D G 1,D G 0,H J 0 0]) (aC aJ _ _ (w.heap.size+1) 32 #[D G 1,D G 0,H J 0 0] _ _ rfl (Ao af) aA rfl Ar) rfl ?_;rw[HE.out,HQ.out];exact⟨⟨_,rfl,B8 _ _⟩,⟨T,ac,tc,io,ic,po,pc,ak.row (Cn af) (show n≠w.heap.size+1 by omega) _,ae,hq⟩,ok,bq.rowB (by omega) _⟩
   ·go_wp2_with(refine aB rfl 32 _ _ rfl (w.heap.size+1) #[D G 2,D G 0,H J 0 0] ?_ ?_ 32 #[D G 0,D G 0,H J 0 0] ?_ ?_ ?_ ?_ ?_;exact rfl;exact rfl;exact af;exact Ar;exact rfl;exact C3 _ _ _ _ _);refine aG (v:=X #[D G 2,D G 0,H J 0 0]) (aC aJ _ _ (w.heap.size+1) 32 #[D G 2,D G 0,H J 0 0] _ _ rfl (Ao af) aA rfl Ar) rfl ?_;rw[HE.out,HQ.out];exact⟨⟨_,rfl,B8 _ _⟩,⟨T,ac,tc,io,ic,po,pc,ak.row (Cn af) (show n≠w.heap.size+1 by omega) _,ae,hq⟩,ok,bq.rowB (by omega) _⟩
theorem A0y:(Tryz.prog.info? 91).map (fun i=>(i.zero,i.size,i.bytes))=M (M (X #[H J 0 0,H J 0 0]),2,48):=by kernel_rfl
theorem Ano (cs)(n)(sv)(F)(w)(h:Bq F 2 w sv n cs)(h1:∀u∈cs,u.oneCell'=y)(hn:n*48≤140737488355328):
  aX aK 30 #[sv] w fun e w'=>∃v,e=aQ v∧w'.ownsRow w.heap.size 91 2 v n cs∧Below w.heap.size w w':=by
 obtain⟨i0,aa,ac,ae,af⟩:=info_parts A0y;have ap:∀(w) (a) (n c n' c'),(binOp _ 63 (H a n c) _).run _ w=.ok _ w:=fun w a n c n' c'=>bU w _ _ a n c n' c' bY
 have ag:=h.1;have fin:∀ao c,sv=H ao n c→(ao=J→n=0)→(∀ad,ao=M ad→∀j u,cs[j]?=M u→w.cell? (ad.add j)=M u∧ad.block<w.heap.size)→(ao=J→c=0)→
   aX aK 30 #[sv] w fun e w'=>∃v,e=aQ v∧w'.ownsRow w.heap.size 91 2 v n cs∧Below w.heap.size w w':=by
  intro ao c he h0 hc ah;subst he;cases ao with
  |none=>
   obtain rfl:=h0 rfl;obtain rfl:=ah rfl;have:=aL (by omega);subst this;go_enter Tryz.func30,Tryz.ntmps30;go_wp2;go_ret;exact⟨_,rfl,bF _ _ _ _,aN _ _⟩
  |some ad=>
   have ai:(w.alloc _).ownsRow _ 91 2 _ 0 []:=bV w #[] 0 (aE _) (aR _) (by simp);have HC:Hid (∀j u,cs[j]?=M u→(w.alloc (Q #[] 91)).cell? (ad.add j)=M u):=fun j u hj=>by
    obtain⟨aj,aq⟩:=hc ad rfl j u hj;obtain⟨ab,ao,ak⟩:=ad;exact((Aq w _).cell (by unfold Addr.add;grind)).trans aj
   have HB:Hid _:=hn;clear hn hc;obtain⟨ab,ao,ak⟩:=ad;go_enter Tryz.func30,Tryz.ntmps30;go_wp2_with(at_builtin;refine bE _ rfl _ _ 63 rfl _ 91 i0 _ 2 48 bY aa ac ae af rfl (by simp) _ _ _ rfl ai _ n c cs rfl ag HC.out h1 (by have:=HB.out;simp only[aS];omega) (by have:=HB.out;omega) (by simp) ?_);intro v' w1 al am _ _;go_wp2;go_ret;exact⟨v',rfl,al,((aN _ w).alloc (aE _) _).grown am (by simp) (by intro k hk;simp[aV]at hk;omega)⟩
 rcases h.2 with⟨h0,ao,c,he,hnil⟩|⟨h0,b,off,cap,he,_,hb,_,_,hc⟩
 ·subst h0;have an:=aL (by omega);subst an;exact fin ao c he (fun _=>rfl) (fun ad _ j u hj=>by grind) hnil
 ·exact fin _ cap he (fun h=>by grind) (fun ad h j u hj=>by cases h;rw[Addr.add_lit];grind) (fun h=>by grind)
theorem A0z:(Tryz.prog.info? 9).map (fun i=>(i.zero,i.size,i.bytes))=M (M (O ⟨#[]⟩),1,16):=by kernel_rfl
theorem Zn (cs)(n)(sv)(F)(w)(h:Bq F 1 w sv n cs)(h1:∀u∈cs,u.oneCell'=y)(hn:n*16≤140737488355328):
  aX aK 31 #[sv] w fun e w'=>∃v,e=aQ v∧w'.ownsRow w.heap.size 9 1 v n cs∧Below w.heap.size w w':=by
 obtain⟨i0,aa,ac,ae,af⟩:=info_parts A0z;have ap:∀(w) (a) (n c n' c'),(binOp _ 43 (H a n c) _).run _ w=.ok _ w:=fun w a n c n' c'=>bU w _ _ a n c n' c' cB
 have ag:=h.1;have fin:∀ao c,sv=H ao n c→(ao=J→n=0)→(∀ad,ao=M ad→∀j u,cs[j]?=M u→w.cell? (ad.add j)=M u∧ad.block<w.heap.size)→(ao=J→c=0)→
   aX aK 31 #[sv] w fun e w'=>∃v,e=aQ v∧w'.ownsRow w.heap.size 9 1 v n cs∧Below w.heap.size w w':=by
  intro ao c he h0 hc ah;subst he;cases ao with
  |none=>
   obtain rfl:=h0 rfl;obtain rfl:=ah rfl;have:=aL (by omega);subst this;go_enter Tryz.func31,Tryz.ntmps31;go_wp2;go_ret;exact⟨_,rfl,bF _ _ _ _,aN _ _⟩
  |some ad=>
   have ai:(w.alloc _).ownsRow _ 9 1 _ 0 []:=bV w #[] 0 (aE _) (aR _) (by simp);have HC:Hid (∀j u,cs[j]?=M u→(w.alloc (Q #[] 9)).cell? (ad.add j)=M u):=fun j u hj=>by
    obtain⟨aj,aq⟩:=hc ad rfl j u hj;obtain⟨ab,ao,ak⟩:=ad;exact((Aq w _).cell (by unfold Addr.add;grind)).trans aj
   have HB:Hid _:=hn;clear hn hc;obtain⟨ab,ao,ak⟩:=ad;go_enter Tryz.func31,Tryz.ntmps31;go_wp2_with(at_builtin;refine bE _ rfl _ _ 43 rfl _ 9 i0 _ 1 16 cB aa ac ae af rfl (by simp) _ _ _ rfl ai _ n c cs rfl ag HC.out h1 (by have:=HB.out;simp only[aS];omega) (by have:=HB.out;omega) (by simp) ?_);intro v' w1 al am _ _;go_wp2;go_ret;exact⟨v',rfl,al,((aN _ w).alloc (aE _) _).grown am (by simp) (by intro k hk;simp[aV]at hk;omega)⟩
 rcases h.2 with⟨h0,ao,c,he,hnil⟩|⟨h0,b,off,cap,he,_,hb,_,_,hc⟩
 ·subst h0;have an:=aL (by omega);subst an;exact fin ao c he (fun _=>rfl) (fun ad _ j u hj=>by grind) hnil
 ·exact fin _ cap he (fun h=>by grind) (fun ad h j u hj=>by cases h;rw[Addr.add_lit];grind) (fun h=>by grind)
theorem Zo {w:bI}{B g n cap size}{t}{cs}(h:w.ownsRow B t size (H (M ⟨g,0,J⟩) n cap) n cs)(j)(v):(w.setCell ⟨g,j,J⟩ v).ownsRow B t size (H (M ⟨g,0,J⟩) n cap) n (cs.set j v):=by
 obtain⟨h1,h2⟩:=h;refine⟨by grind,?_⟩;rcases h2 with⟨h2,_⟩|⟨g',cap',cur,he,hg,hh,hn,hm,hs,ht⟩
 ·grind
 ·cases he;refine .inr ⟨g,cap,_,rfl,hg,Dj hh j v,hn,hm,by grind,?_⟩;rw[←ht,Array.toList_setIfInBounds,List.take_set]
def U7 (B:Nat)(z:aW)(L:List TabD)(k:Nat)(w:bI):Prop:=∃cs1 cs2,w.ownsRow B 82 2 z L.length (cs1++cs2)∧All Ck (FO B z) w (L.take k) cs1∧All Ck (fun j=>M j≠z.ownBlock) w (L.drop k) cs2
theorem U7.below {B}{z}{L}{k}{w w'}(h:U7 B z L k w)(hb:Below w.heap.size w w'):U7 B z L k w':=by
 obtain⟨aa,ab,h1,h2,h3⟩:=h;exact⟨aa,ab,Ak h1 hb,h2.keep (Ai hb),h3.keep (Ai hb)⟩
theorem Arh {α}{K}{F}{w}:∀{l:List α}{cs:List aW},All K F w l cs→cs.length=l.length*K.size
 |[],cs,h=>by obtain rfl:=h;simp
 |a::l,cs,h=>by
  obtain⟨c,rest,rfl,h2,h3⟩:=h;rw[aH,K.len h2,Arh h3,aF,Nat.succ_mul,Nat.add_comm]
theorem U7.get {B}{z}{L}{k}{w}(h:U7 B z L k w){t}(ht:L[k]?=M t):∃g cap sv,z=H (M ⟨g,0,J⟩) L.length cap∧B≤g∧g<w.heap.size∧(∃ab,w.heap[g]?=M (Q ab 82)∧k*2+1<ab.size)∧w.cell? ⟨g,k*2,J⟩=M (O t.name)∧w.cell? ⟨g,k*2+1,J⟩=M sv∧IsL Cp (fun j=>M j≠z.ownBlock) w sv t.cols∧
  ∀(w':bI) (v:aW),Below w.heap.size w w'→IsL Cp (FO B z) w' v t.cols→U7 B z L (k+1) (w'.setCell ⟨g,k*2+1,J⟩ v):=by
 obtain⟨aa,ag,h1,h2,h3⟩:=h;have hk:=(bK.1 ht).1;have ac:aa.length=k*2:=by rw[Arh h2,cE,Nat.min_eq_left (bH hk)];rfl
 rw[Sq ht]at h3;obtain⟨c,rest,rfl,⟨sv,rfl,h4⟩,h5⟩:=h3;rcases h1.2 with⟨_,h0⟩|⟨g,cap,ab,rfl,hg,hh,hn,hm,hs,htk⟩
 ·omega
 have ae:∀j u,(aa++([O t.name,sv]++rest))[j]?=M u→w.cell? ⟨g,j,J⟩=M u:=fun j u hj=>by
  refine Aa hh ?_;grind
 have e0:(aa++([O t.name,sv]++rest))[k*2]?=M (O t.name):=by rw[aP (by omega),ac,bO];rfl
 have e1:(aa++([O t.name,sv]++rest))[k*2+1]?=M sv:=by rw[aP (by omega),ac,show k*2+1-k*2=1 by omega];rfl
 refine⟨g,cap,sv,rfl,hg,aD hh,⟨ab,hh,by omega⟩,ae _ _ e0,ae _ _ e1,h4,fun w' v hb hv=>?_⟩;have af:(aa++([Value.string t.name,sv]++rest)).set (k*2+1) v=(aa++[O t.name,v])++rest:=by
  rw[aU _ _ (by omega),ac,show k*2+1-k*2=1 by omega];simp
 have ad:∀{F},(∀j,F j→M j≠(Value.slice (M ⟨g,0,J⟩) L.length cap).ownBlock)→Keeps F w' (w'.setCell ⟨g,k*2+1,J⟩ v):=fun hF=>(Keeps.refl _ _).set (fun h=>hF _ h (by rfl)) _ _
 refine⟨aa++[O t.name,v],rest,?_,?_,?_⟩
 ·have:=Zo (Ak h1 hb) (k*2+1) v;rw[af]at this;exact this
 ·rw[cC,ht];exact All.append ((h2.keep (Ai hb)).keep (ad fun j h=>h.2)) ⟨_,[],rfl,⟨v,rfl,hv.keep (ad fun j h=>h.2)⟩,rfl⟩
 ·exact(h5.keep (Ai hb)).keep (ad fun j h=>h)
theorem Ari (w):aX aK 7 #[] w fun e w'=>e=aQ (aT (M ⟨w.heap.size,0,J⟩))∧w'=w.alloc (Q #[H J 0 0,H J 0 0,H J 0 0,D G 0] 67):=by
 go_enter Tryz.func7,Tryz.ntmps7;go_wp2;go_ret;simp
theorem Arj {E}{w}(hE:Br E w):Br (w.heap.size::E) (w.alloc (Q #[H J 0 0,H J 0 0,H J 0 0,D G 0] 67))∧Dt (w.heap.size::E) (w.alloc (Q #[H J 0 0,H J 0 0,H J 0 0,D G 0] 67)) w.heap.size Ge 0 y:=by
 have hk:∀k,k<w.heap.size→k∉E→k∉w.heap.size::E:=fun k h1 h2 h3=>by grind
 have new:EngC (w.heap.size::E) _ _ Ge.c [] 0 _ _ _:=⟨Ab w _,IsL.nil _ _ _,IsL.nil _ _ _,Kf.nil _ _,by simp,by simp[Ch]⟩;refine⟨fun m hm=>?_,[],J,0,J,0,J,0,new,Awa,fun _=>aR _⟩;rcases bC.1 hm with rfl|hm
 ·exact⟨_,_,_,_,_,_,new,Aml.cat⟩
 ·obtain⟨c',T',a',aa,ab,ac,h1,h2⟩:=hE m hm;exact⟨c',T',a',aa,ab,ac,(h1.mono hk).below (Aq w (Q #[H J 0 0,H J 0 0,H J 0 0,D G 0] 67)),h2⟩
theorem Aiy {w:bI}{g x o o'}(h:x≠g)(u v)(j):((w.setCell ⟨g,o,J⟩ u).setCell ⟨g,o',J⟩ v).cell? ⟨x,j,J⟩=w.cell? ⟨x,j,J⟩:=by
 simp[World.cell?,World.setCell,bN,Ne.symm h]
def Afc (B:Nat)(z:aW)(T:List Pg)(k:Nat)(w:bI):Prop:=∃rs1 rs2:List (aW×aW),w.ownsRow B 91 2 z T.length (A4 (rs1++rs2))∧Kt (FO B z) w rs1 (T.take k)∧Kt (fun j=>M j≠z.ownBlock) w rs2 (T.drop k)
theorem Anq {F}{w}:∀{rs:List (aW×aW)}{T:List Pg},Kt F w rs T→rs.length=T.length
 |[],[],_=>rfl
 |[],_::_,h=>h.elim
 |_::_,[],h=>h.elim
 |_::_,_::_,h=>by rw[aF,aF,Anq h.2.2]
theorem Abm {F}{w}:∀{rs qs:List (aW×aW)}{T U:List Pg},Kt F w rs T→Kt F w qs U→Kt F w (rs++qs) (T++U)
 |[],_,[],_,_,h=>h
 |[],_,_::_,_,h,_=>h.elim
 |_::_,_,[],_,h,_=>h.elim
 |_::_,_,_::_,_,h,h2=>⟨h.1,h.2.1,Abm h.2.2 h2⟩
theorem Wz (a b):A4 (a++b)=A4 a++A4 b:=by simp[A4]
theorem Afc.get {B}{z}{T}{k}{w}(h:Afc B z T k w){p}(hp:T[k]?=M p):∃g cap kv vv,z=H (M ⟨g,0,J⟩) T.length cap∧B≤g∧g<w.heap.size∧(∃ae,w.heap[g]?=M (Q ae 91))∧w.cell? ⟨g,k*2,J⟩=M kv∧w.cell? ⟨g,k*2+1,J⟩=M vv∧Bq (fun j=>M j≠z.ownBlock) 1 w kv p.K.length (p.K.map O)∧Bq (fun j=>M j≠z.ownBlock) 1 w vv p.V.length (p.V.map O)∧
  ∀(w':bI) (u v:aW),Below w.heap.size w w'→Bq (FO B z) 1 w' u p.K.length (p.K.map O)→Bq (FO B z) 1 w' v p.V.length (p.V.map O)→Afc B z T (k+1) ((w'.setCell ⟨g,k*2,J⟩ u).setCell ⟨g,k*2+1,J⟩ v):=by
 obtain⟨aa,ab,h1,h2,h3⟩:=h;have hk:=(bK.1 hp).1;have ah:aa.length=k:=by rw[Anq h2,cE,Nat.min_eq_left (bH hk)]
 rw[Sq hp]at h3;cases ab with
 |nil=>exact h3.elim
 |cons r ab=>
 obtain⟨kv,vv⟩:=r;obtain⟨h4,h5,h6⟩:=h3;rcases h1.2 with⟨_,h0⟩|⟨g,cap,ae,rfl,hg,hh,hn,hm,hs,htk⟩
 ·omega
 have ac:(A4 aa).length=k*2:=by rw[Me,ah]
 have af:A4 (aa++(kv,vv)::ab)=A4 aa++([kv,vv]++A4 ab):=by rw[Wz];rfl
 have ag:∀j u,(A4 (aa++(kv,vv)::ab))[j]?=M u→w.cell? ⟨g,j,J⟩=M u:=fun j u hj=>by
  refine Aa hh ?_;grind
 have e0:(A4 (aa++(kv,vv)::ab))[k*2]?=M kv:=by rw[af,aP (by omega),ac,bO];rfl
 have e1:(A4 (aa++(kv,vv)::ab))[k*2+1]?=M vv:=by rw[af,aP (by omega),ac,show k*2+1-k*2=1 by omega];rfl
 refine⟨g,cap,kv,vv,rfl,hg,aD hh,⟨ae,hh⟩,ag _ _ e0,ag _ _ e1,h4,h5,fun w' u v hb hu hv=>?_⟩;have ai:((A4 (aa++(kv,vv)::ab)).set (k*2) u).set (k*2+1) v=A4 ((aa++[(u,v)])++ab):=by
  rw[af,aU _ _ (by omega),ac,bO,aU _ _ (by omega),ac,show k*2+1-k*2=1 by omega,Wz,Wz,List.append_assoc];rfl
 have ad:∀{F},(∀j,F j→M j≠(Value.slice (M ⟨g,0,J⟩) T.length cap).ownBlock)→Keeps F w' ((w'.setCell ⟨g,k*2,J⟩ u).setCell ⟨g,k*2+1,J⟩ v):=fun hF=>((Keeps.refl _ _).set (fun h=>hF _ h (by rfl)) _ _).set (fun h=>hF _ h (by rfl)) _ _
 refine⟨aa++[(u,v)],ab,?_,?_,?_⟩
 ·have:=Zo (Zo (Ak h1 hb) (k*2) u) (k*2+1) v;rw[ai]at this;exact this
 ·rw[cC,hp];exact Abm ((h2.keep (Ai hb)).keep (ad fun j h=>h.2)) ⟨hu.keep (ad fun j h=>h.2),hv.keep (ad fun j h=>h.2),trivial⟩
 ·exact(h6.keep (Ai hb)).keep (ad fun j h=>h)
theorem Anr (L:List Wd):∀u∈L.map Value.string,u.oneCell'=y:=fun u hu=>by
 obtain⟨s,_,rfl⟩:=List.mem_map.1 hu;rfl
theorem Afd {F}{w}:∀{rs:List (aW×aW)}{T:List Pg},Kt F w rs T→∀u∈A4 rs,u.oneCell'=y
 |[],[],_,u,hu=>by cases hu
 |[],_::_,h,_,_=>h.elim
 |_::_,[],h,_,_=>h.elim
 |r::rs,p::T,h,u,hu=>by
  obtain⟨a1,c1,e1⟩:=h.1.shape;obtain⟨a2,c2,e2⟩:=h.2.1.shape;have:A4 (r::rs)=r.1::r.2::A4 rs:=rfl;rw[this]at hu;rcases bC.1 hu with rfl|hu
  ·rw[e1];rfl
  ·rcases bC.1 hu with rfl|hu
   ·rw[e2];rfl
   ·exact Afd h.2.2 u hu
theorem A29 (a)(n n'):(#[H a n n']:Array aW).all (·.oneCell')=y:=by simp[cG]
theorem Aiz:(Tryz.prog.info? 65).map (·.size)=M 1:=by kernel_rfl
theorem Acr {E:List Nat}{n:Nat}{c:CatD}{T:List Pg}{a:Int}{bn io po:Option Addr}{tc ic pc:Nat}{w:bI}(he:EngC E w n c T a (H bn c.tables.length tc) (H io c.indexes.length ic) (H po T.length pc))(hT:T.length≤1000):
  aX aK 22 #[aT (M ⟨n,0,J⟩)] w fun e w'=>∃zo zc,e=aQ (X #[H zo T.length zc])∧Kf (Fr w.heap.size) w' (H zo T.length zc) T∧Below w.heap.size w w':=by
 have av:Hid (∀p∈T,p.ok):=he.good.1;obtain⟨ae,bR,bo⟩:=al1 w (Q #[H J 0 0] 65);have ai:=he.below ae;have cd:n<w.heap.size:=he.lt;generalize hW:w.alloc (Q #[H J 0 0] 65)=W1 at ae bR ai bo;have HW:Hid _:=hW;have v2:=Aa ai.blk (j:=2) rfl;obtain⟨ak,aw,al⟩:=ai.pages;have ax:=Ano (A4 ak) T.length _ _ W1 aw (Afd al) (by omega);have ay:Hid _:=al;clear hW he aw al ai;go_enter Tryz.func22,Tryz.ntmps22;go_upto_region 1 with fail;rw[HW.out];go_upto_region 4 with(go_fit ax;rintro e w2 ⟨z,rfl,aj,az⟩);obtain⟨zo,zc,rfl⟩:=Ex.shape (Ex.of_own aj);have ba:Afc W1.heap.size (H zo T.length zc) T 0 w2:=by
  refine⟨[],ak,aj,trivial,?_⟩;have h5:Kt (fun k=>k<W1.heap.size) W1 ak T:=Kt.mono (fun k hk _=>hk) ay.out;refine(h5.keep (Ae az)).mono fun k _ hk e=>?_
  have:=(aj.lt k e.symm).1;omega
 have bp:Hid _:=ba;clear ba aj ax ay;go_wp2_with fail
 go_loopw[17] (fun i wr=>∃k:Nat,k≤T.length∧i=D G k∧Hid (Afc W1.heap.size (H zo T.length zc) T k wr)∧Below W1.heap.size W1 wr) (fun i _=>T.length-(intOf i).toNat)
 case atStart=>exact⟨0,aR _,rfl,bp,az⟩
 case round=>
  obtain⟨k,hk,rfl,bb,af⟩:=hrel
  by_cases bq:k<T.length
  ·obtain⟨p,hx⟩:∃x,T[k]?=M x:=⟨_,bM bq⟩;obtain⟨g,cap,kv,vv,hz,bc,ag,⟨ce,bd⟩,d0,d1,am,an,be⟩:=bb.out.get hx;cases hz;obtain⟨y1,z1,rfl⟩:=am.shape;obtain⟨y2,z2,rfl⟩:=an.shape;have bt:=(av.out p (aY hx)).2.1;have cf:p.V.length≤4:=by rw[(av.out p (aY hx)).2.2];exact bt
   obtain⟨aa,bX,-⟩:=al1 wr (Q #[H y1 p.K.length z1,H y2 p.V.length z2] 91);have ap:=(aa.block g ag).trans bd;have e0:=(aa.cell ag).trans d0;have e1:=(aa.cell ag).trans d1;have x0:=Aa bX (j:=0) rfl;have x1:=Aa bX (j:=1) rfl;have ac:=aD bX;have ah:=bG ag aa.size;have aq:=(Nat.ne_of_lt ag).symm;have ar:=am.keep (Ai aa);have au:=an.keep (Ai aa);have bu:Hid _:=be;have bv:=af.size;have v5:(0:Int)≤k:=by omega
   have v6:k<(T.length:Int):=by omega
   clear am an be hx bd;go_upto_region 7 with fail;have bf:=aa.size;generalize wr.alloc _=wb at aa bX ap e0 e1 x0 x1 ac ah ar au bf⊢;generalize wr.heap.size=gX at bX x0 x1 ac aq bv bf⊢;have bg:=fun W h=>Zn _ _ _ _ W (ar.keep (Ai h)) (Anr _) (by omega)
   have bh:=fun W h=>Zn _ _ _ _ W (au.keep (Ai h)) (Anr _) (by omega)
   clear ar au;refine wp_region_held_drew (S:=(fun W=>W.cell? ⟨gX,0,J⟩=M (H y1 p.K.length z1)∧W.cell? ⟨gX,1,J⟩=M (H y2 p.V.length z2))) (by rfl) ?_ (fun hHeld=>?_)
   ·simp_all
   refine tk 0 ?_;refine tk 1 ?_;refine tk 2 ?_;refine tk 3 ?_;refine tk 5 ?_;refine tk 6 ?_;refine Bi 4 (fun K hK=>?_);go_simp
   (refine(bg _ (aN _ _).drew).mono ?_;rintro e w3 ⟨v3,rfl,bi,bw⟩;obtain⟨ko,kc,rfl⟩:=Ex.shape (Ex.of_own bi);have ad:=Ac (aN _ _).drew bw)
   go_wp2_with fail;refine hK.out _ _ ?_ (fun hHeld=>?_)
   ·exact⟨(ad.cell ac).trans x0,(ad.cell ac).trans x1⟩
   clear hK K;refine Bi 7 (fun K hK=>?_);go_simp
   (refine(bh _ ad).mono ?_;rintro e w4 ⟨v4,rfl,bj,bk⟩;obtain⟨vo,vc,rfl⟩:=Ex.shape (Ex.of_own bj);have ab:=Ac ad bk;have y8:=(ab.cell ah).trans e0;have y9:=(ab.cell ah).trans e1;have z8:w4.frozen? ⟨g,k*2,J⟩=cH:=(by simp[bJ,(ab.block g ah).trans ap]);have z9:w4.frozen? ⟨g,k*2+1,J⟩=cH:=(by simp[bJ,(ab.block g ah).trans ap]))
   go_wp2_with fail;refine hK.out _ _ ?_ (fun hHeld=>?_)
   ·exact⟨(ab.cell ac).trans x0,(ab.cell ac).trans x1⟩
   clear hK K;refine tk 8 ?_;refine tk 9 ?_;refine Bi 10 (fun K hK=>?_);go_simp;go_wp2_with fail;refine hK.out _ _ ?_ (fun hHeld=>?_)
   ·exact⟨(Aiy aq _ _ _).trans ((ab.cell ac).trans x0),(Aiy aq _ _ _).trans ((ab.cell ac).trans x1)⟩
   clear hK K;refine wpAnyH_done (by kernel_rfl) ?_ _;have hB:=Ac aa ab;have hu:Bq (FO W1.heap.size (H (M ⟨g,0,J⟩) T.length zc)) 1 w4 _ _ _:=Bq.of_own (Ak bi bk) fun q hq=>⟨by have:wb.heap.size≤q:=hq;omega,fun e=>by
    have h1:=by simpa[aV]using e
    have:wb.heap.size≤q:=hq;omega⟩
   have hv:Bq (FO W1.heap.size (H (M ⟨g,0,J⟩) T.length zc)) 1 w4 _ _ _:=Bq.of_own bj fun q hq=>⟨by have:=ad.size;omega,fun e=>by
    have h1:=by simpa[aV]using e
    have:=ad.size;omega⟩
   have bx:=bu.out w4 _ _ hB hu hv;clear bg bh;go_wp2_with fail;go_roundw
   case rel=>exact⟨_,by omega,by rfl,bx,((af.trans (hB.mono af.size)).setCell (show W1.heap.size≤g from bc) _).setCell (show W1.heap.size≤g from bc) _⟩
   case measure=>simp[intOf];omega
  ·have bz:k=T.length:=by omega
   subst bz;have v5:¬(T.length<(T.length:Int)):=by omega
   have ca:Kf (Fr W1.heap.size) wr (H zo T.length zc) T:=by
    obtain⟨cb,bl,h1,h2,h5⟩:=bb.out;rw[List.take_length]at h2;rw[cF]at h5;cases bl with
    |cons r bl=>exact h5.elim
    |nil=>
     rw[List.append_nil]at h1;exact⟨cb,Bq.of_own h1 fun _ h=>h,h2.mono fun k _ h=>h.1⟩
   have bm:=(af.block _ (aD bR)).trans bR;go_wp2_with(refine aB rfl 65 _ _ rfl w.heap.size #[H zo T.length zc] ?_ ?_ 65 #[H J 0 0] ?_ ?_ ?_ ?_ ?_;exact rfl;exact rfl;exact bm;exact Aiz;exact rfl;exact A29 _ _ _);refine aG (v:=X #[H zo T.length zc]) (aC Tryz.results22 _ _ w.heap.size 65 #[H zo T.length zc] _ _ rfl (Ao bm) Tryz.underlying65 rfl Aiz) rfl ?_;have cc:Keeps (Fr W1.heap.size) wr (wr.setRow w.heap.size #[H zo T.length zc]):=(Keeps.refl _ _).row (fun h=>by omega) _;exact⟨zo,zc,rfl,(ca.keep cc).mono fun k _ h=>aM ae.size h,Below.row (ae.trans (af.mono ae.size)) (aE _) _⟩
def tx (l:List (Wd×Wd)):List Wd:=l.flatMap fun x=>[x.1,x.2]
def aT1:Wd:={data:=([99,114,101,97,116,101,32,116,97,98,108,101,32,116,32,40,97,32,105,110,116,32,109,117,115,116,44,32,98,32,116,101,120,116,41,59,32].append [105,110,115,101,114,116,32,105,110,116,111,32,116,32,118,97,108,117,101,115,32,40,49,44,39,120,39,41,44,40,50,44,110,117,108,108,41,59]).toArray}
def aT2:Wd:={data:=#[115,101,108,101,99,116,32,98,32,102,114,111,109,32,116,32,119,104,101,114,101,32,97,32,61,32,49,59]}
def Sz:Db:=(doR Ge 0 aT1).2.1
def vX:V:=⟨2,0,⟨#[120]⟩⟩
theorem A4f:doR Ge 0 aT1=(⟨0,2,[]⟩,Sz,1):=by kernel_rfl
theorem A4g:doR Sz 1 aT2=(⟨0,0,[[vX]]⟩,Sz,2):=by kernel_rfl
theorem A3g:doQ Ge 0 aT1 y=y:=by kernel_rfl
theorem A3h:doQ Sz 1 aT2 y=y:=by kernel_rfl
theorem Ax1:(Sz.c.tables.map fun t=>(Sz.R t.name).length)=[2]:=by kernel_rfl
theorem Ax2:∃t∈Sz.c.tables,∃r,r∈Sz.R t.name:=by
 have h:=Ax1;generalize Sz=d at h⊢;obtain⟨⟨T,I⟩,R⟩:=d;simp only at h⊢
 match T,h with
 |t::T,h=>
  simp only[List.map_cons,List.cons.injEq]at h
  match hr:R _,h.1 with
  |r::l,_=>simp_all
theorem Ap7 {T}(h:Has Sz (flat T))(h1:T.length≤1):T.length=1:=by
 obtain⟨t,ht,r,hr⟩:=Ax2;have:=(h (rk t r,str _)).2 ⟨t,ht,r,hr,.inl rfl⟩;cases T with
 |nil=>cases this
 |cons p T=>grind
theorem Ax3:∃d:Db,doR Ge 0 aT1=(⟨0,2,[]⟩,d,1)∧doR d 1 aT2=(⟨0,0,[[vX]]⟩,d,2)∧doQ Ge 0 aT1 y=y∧doQ d 1 aT2 y=y∧∀T,Has d (flat T)→T.length≤1→T.length=1:=⟨Sz,A4f,A4g,A3g,A3h,fun _=>Ap7⟩
theorem A03 {B}{z}{v}{w}(h:Dm B z [[v]] w):∃g c b o c',z=H (M ⟨g,0,J⟩) 1 c∧g<w.heap.size∧b<w.heap.size∧w.cell? ⟨g,0,J⟩=M (H (M ⟨b,o,J⟩) 1 c')∧w.cell? ⟨b,o,J⟩=M (D G v.k)∧w.cell? ⟨b,o+1,J⟩=M (D G v.n)∧w.cell? ⟨b,o+2,J⟩=M (O v.s):=by
 have h1:=J8 h;obtain⟨cs,ac,_⟩:=h;rcases ac.2 with⟨_,h0⟩|⟨g,cap,cur,rfl,_,hh,_⟩
 ·grind
 ·obtain⟨b',ae,af,e,_,hb,⟨yv,rfl,ab⟩,ad⟩:=At h1 (i:=0) rfl;simp only[bL,Addr.mk.injEq]at e;obtain⟨rfl,rfl,_⟩:=e;obtain⟨yo,yc,rfl⟩:=ab.shape;obtain⟨b2,o2,ag,e2,_,ah,hR,aa⟩:=At ab (i:=0) rfl;subst e2;obtain rfl:=hR;have c0:=ad 0 _ rfl;have d0:=aa 0 _ rfl;have d1:=aa 1 _ rfl;have d2:=aa 2 _ rfl;grind
theorem Ax4 (w)(ac:Env w):aX aK 15 #[] w fun e w'=>e=aQ (aZ y)∧Below w.heap.size w w':=by
 obtain⟨dA,e1,e2,q1,q2,aj⟩:=Ax3;have ak:Br [] w:=fun n hn=>by grind
 obtain⟨ae,af⟩:=Arj ak;obtain⟨aa,-,bb⟩:=al1 w (Q #[H J 0 0,H J 0 0,H J 0 0,D G 0] 67);have HN:=Ari w;have h8:=ac.low;generalize hW:w.alloc _=W1 at ae af aa HN bb;have al:aX aK 10 #[aT (M ⟨w.heap.size,0,J⟩),X #[O aT1]] W1 fun e w'=>∃vo vc,e=aQ (X #[D G 0,D G 2,H vo 0 vc])∧Dt [w.heap.size] w' w.heap.size dA 1 y∧Hid (DbOk dA)∧But w.heap.size W1 w':=by
  have h:=U6 ae (by simp) y af Aml (by omega) (ac.next aa) h8 aT1;rw[e1,q1]at h;generalize aT1=t1 at h⊢;refine h.mono ?_;rintro e w' ⟨⟨rv,rfl,am⟩,h2,h3,h4⟩;obtain⟨vo,vc,rfl⟩:=am.shape;exact⟨vo,vc,rfl,h2,h3,h4⟩
 have an:∀W,Dt [w.heap.size] W _ dA 1 y→DbOk dA→Env W→aX _ 10 #[aT _,X #[O aT2]] W fun e w'=>∃rv,e=aQ (X #[D G 0,D G 0,rv])∧Dm W.heap.size rv [[vX]] w'∧Dt [w.heap.size] w' w.heap.size dA 2 y∧But w.heap.size W w':=fun W h ok he=>by
  have bc:Br _ W:=fun n hn=>by
   obtain rfl:=bD.1 hn;obtain⟨T,bd,tc,io,ic,po,pc,h1,_⟩:=h;exact⟨_,_,_,_,_,_,h1,ok.cat⟩
  have h:=U6 bc (by simp) y h ok (by omega) he h8 aT2;rw[e2,q2]at h;generalize aT2=t2 at h⊢;refine h.mono ?_;rintro e w' ⟨⟨rv,rfl,am⟩,h2,h3,h4⟩;grind
 clear hW af ae ak e1 e2 q1 q2;have bi:=ac.next aa;go_enter Tryz.func15,Tryz.ntmps15;go_upto_region 2 with(go_fit HN;rintro e w1 ⟨rfl,rfl⟩);go_upto_region 5 with(go_at_call 10;refine al.mono ?_;rintro e w2 ⟨vo,vc,rfl,ap,be,aq⟩);have ad:Below _ w (w2.alloc (Q #[D G 0,D G 2,H vo 0 vc] 32)):=Ac (aa.trans (aq.below (aE _) aa.size)) (Aq _ _);have bP:=Ab w2 (Q #[D G 0,D G 2,H vo 0 vc] 32);have ar:=ap.below (Aq w2 (Q #[D G 0,D G 2,H vo 0 vc] 32));have au:w2.heap.size≠w.heap.size:=by have:=aq.size;omega
 have ag:=an _ ar be.out (ac.next ad);have av:=ad.size;clear al an ap ar;generalize w2.alloc _=W3 at ad bP ag av⊢;generalize w2.heap.size=p at bP au⊢;go_upto_region 6 with(go_at_call 10;refine ag.mono ?_;rintro e w4 ⟨rv,rfl,aw,ax,ah⟩;obtain⟨rg,rc,rb,ro,bj,rfl,bf,bg,c0,d0,d1,d2⟩:=A03 aw);obtain⟨ab,bQ,-⟩:=al1 w4 (Q #[D G 0,D G 0,H (M ⟨rg,0,J⟩) 1 rc] 32);have ai:=(ab.block _ (bG (aD bP) ah.size)).trans ((ah.block _ (aD bP) au).trans bP);have k0:=(ab.cell bf).trans c0;have k1:=(ab.cell bg).trans d2;have ay:=ax.below ab;have az:=Ac (ad.trans (ah.below (aE _) av)) ab;clear c0 d0 d1 d2 aw ax ag bP;generalize w4.alloc _=W5 at ai bQ k0 k1 ay az⊢;generalize w4.heap.size=g at bQ⊢;obtain⟨T,bd,tc,io,ic,po,pc,h1,h2,h3⟩:=ay;have ba:=aj T h2 (h3 rfl);have HT:=Acr h1 (by omega);rw[ba]at HT;have x0:=Aa ai (j:=0) rfl;have x1:=Aa ai (j:=1) rfl;have x2:=Aa bQ (j:=2) rfl;have hx:(vX.s.toList==[120])=y:=by kernel_rfl
 have fF:∀(zo) (zc) (w),(Instr.field 65 (X #[H zo 1 zc]) 0).run aK w=.ok (H zo 1 zc) w:=fun zo zc w=>by rfl
 clear h1 h2 h3 ba aj;go_wp2_with(go_fit HT;rintro e w7 ⟨zo,zc,rfl,_,bh⟩);go_ret;exact⟨rfl,Ac az bh⟩
def I0:Db×Int→List Wd→Db×Int
 |s,[]=>s
 |s,t::l=>I0 ((doR s.1 s.2 t).2.1,(doR s.1 s.2 t).2.2) l
theorem A3i {d}{a}(t)(h:0≤a):0≤(doR d a t).2.2:=by
 unfold doR;grind
theorem Dt.weak {E}{w}{n}{d}{a}{q}(h:Dt E w n d a q):Dt E w n d a cH:=by
 obtain⟨T,aa,tc,io,ic,po,pc,h1,h2,_⟩:=h;exact⟨T,aa,tc,io,ic,po,pc,h1,h2,fun h=>by grind⟩
theorem Dt.more {E}{w}{n m}{d}{a}{q}(h:Dt E w n d a q)(hm:w.heap.size≤m):Dt (m::E) w n d a q:=by
 obtain⟨T,aa,tc,io,ic,po,pc,h1,h2⟩:=h;exact⟨T,aa,tc,io,ic,po,pc,h1.mono fun k hk h3 h4=>by grind,h2⟩
theorem Dt.lt {E}{w}{n}{d}{a}{q}(h:Dt E w n d a q):n<w.heap.size:=by
 obtain⟨T,aa,tc,io,ic,po,pc,h1,_⟩:=h;exact h1.lt
theorem Dt.but {E}{w w'}{n m}{d}{a}{q}(h:Dt E w n d a q)(hb:But m w w')(hm:m∈E)(aa:n≠m):Dt E w' n d a q:=by
 obtain⟨T,ab,tc,io,ic,po,pc,h1,h2⟩:=h;exact⟨T,ab,tc,io,ic,po,pc,h1.but hb hm aa,h2⟩
end
end Go.Proofs.YtocegbpmmiabmaaGreatDoor

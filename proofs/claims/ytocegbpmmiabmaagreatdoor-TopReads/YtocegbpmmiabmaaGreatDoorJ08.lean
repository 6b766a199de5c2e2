/-
  23 texts of this proof in one,in build order:SScript,SScript3,GParse,GAll0,GAll,GDo0,GDo,GClones,GCat,GTree,UFlat,UCat,USame,ULive0,ULive,UPlay,URefused,UActs,OpenVals,Bulk,OpenL,UFrame,UFrameF.
-/
import Derived.Deep.QuietTactic
import Derived.BigQuiet
import Derived.Test.YtocegbpmmiabmaaGreatDoorRows
import Derived.ProofKit
import Derived.Deep.Slices
import Derived.Deep.SlicePairs
import Derived.Deep.Strs
import Derived.SizedLaws
import Derived.ChangeSame
import Derived.WalkKit
import Derived.WalkSpells
import Derived.WalkLawsBesides
import Derived.Deep.RegionHeld3
import Derived.OpenShut
import Derived.Lib.SmallJoins
import Derived.Deep.DeepHandedRow
import Derived.Lib.LaidTab
import Derived.LaidMore
import Derived.LaidLaws
import Derived.Clock
import Derived.JoinedCond
import Derived.Test.YtocegbpmmiabmaaGreatDoorJ01
import Derived.Test.YtocegbpmmiabmaaGreatDoorJ02
import Derived.Test.YtocegbpmmiabmaaGreatDoorJ03
import Derived.Test.YtocegbpmmiabmaaGreatDoorJ07
set_option linter.unusedSimpArgs false
set_option linter.unusedVariables false
set_option maxRecDepth 100000
set_option maxHeartbeats 0
open Go.Value renaming agg→bI,bool→bO,int→O,oneCell'→bM,ownBlock→bE,pointer→bK,slice→J,string→aA
open Go.IntKind renaming i64→X
open Option renaming none→aB,some→aD
open Go.Proofs.Tryz renaming prog→aJ,results10→aW,results17→bF,underlying28→dJ,underlying32→aC,underlying40→dI,underlying43→bV,underlying50→dH,underlying63→dG,underlying67→dF,underlying9→dN
open Go renaming Calls→bJ,DataW→cS,MemPlace→dB,TypeId→cW,Value→aU,World→bD,below_drewN→bY,bodyPost_ret→aN,info_parts→cT,lt_of_block→aF,maxLen→bU,results_cell_row→aH,wpList_append_own_at→aZ,wpList_load_row→aS,wpList_store_row→aE
open Go.Obj renaming cells→aG
open List renaming append_assoc→dM,append_nil→dQ,drop_length→cR,eq_nil_of_length_eq_zero→aQ,flatMap_append→cG,forall_mem_cons→cE,getElem?_append_right→bH,getElem?_eq_getElem→aI,getElem?_eq_some_iff→aV,length_append→aL,length_cons→aK,length_take→cQ,map_append→dP,mem_append→dO,mem_cons→cI,mem_cons_of_mem→dC,mem_cons_self→cK,mem_of_getElem?→aX,mem_singleton→cJ,not_mem_nil→cP,range→bG,range_succ→cA,set_append_right→cB,size_toArray→dL,take_add_one→bW,take_length→cO,take_succ_cons→dD,take_zero→cD
open Nat renaming le_of_lt→cN,le_refl→aM,le_trans→aO,lt_of_lt_of_le→bC,lt_or_eq_of_le→dK,sub_self→cZ,zero_le→aP
open Go.Ending renaming returned→aR
open Go.RowKit.Below renaming refl→aT
open Bool renaming false→cL,true→aY
open Go.World renaming frozen?→cF,ownsRow_made→cH,ownsRow_nil→bL
open List.cons renaming injEq→bN
open Go.Proofs renaming intOf→bS
open Go.Lib renaming run_eql_slice_nil→cC
open Go.Addr renaming add→cV,add_lit→cM
open Go.DataW renaming trod→cU,trod_string→dE
open Option.some renaming injEq→cX
open Array renaming getElem?_modify→cY
namespace Go.Proofs.YtocegbpmmiabmaaGreatDoor
section
open Go.RowKit
theorem Axt {F}{w}{s}{c}(h:Ie.R F w s c):∃kd nm tb cl a1 k1 c1 a2 k2 c2 a3 k3 c3 a4 k4 c4 a5 k5 c5 op xk xn xs sx nx n8 a6 k6 c6 a7 k7 c7 dn nn,c=[O X kd,aA nm,aA tb,aA cl,J a1 k1 c1,J a2 k2 c2,J a3 k3 c3,J a4 k4 c4,J a5 k5 c5,O X op,O X xk,O X xn,aA xs,aA sx,aA nx,O X n8,J a6 k6 c6,J a7 k7 c7,bO dn,O X nn]:=by
 obtain⟨cols,rows,sets,frm,out,w8,order,rfl,h8,h1,h2,h3,h4,h5,h6,h7⟩:=h.is;obtain⟨op,xk,xn,xs,sx,nx,n8,a6,k6,c6,rfl⟩:=Fl ⟨h8,h6⟩;obtain⟨a1,c1,rfl⟩:=h1.shape;obtain⟨a2,c2,rfl⟩:=h2.shape;obtain⟨a3,c3,rfl⟩:=h3.shape;obtain⟨a4,c4,rfl⟩:=h4.shape;obtain⟨a5,c5,rfl⟩:=h5.shape;obtain⟨a7,c7,rfl⟩:=h7.shape;exact⟨_,_,_,_,a1,_,c1,a2,_,c2,a3,_,c3,a4,_,c4,a5,_,c5,op,xk,xn,xs,sx,nx,n8,a6,k6,c6,a7,_,c7,_,s.n,rfl⟩
theorem Ap4 {f}{acc}{x}{l}(hf:Bg (aD (x::l))≤f):
  ∃f',f'<f∧Ej f acc (aD (x::l))=Ej f' (acc++[(C5 (aD (x::l))).1]) (Cg Oa (C5 (aD (x::l))).2)∧Bg (Cg Oa (C5 (aD (x::l))).2)≤f'∧Bg (Cg Oa (C5 (aD (x::l))).2)+1≤Bg (aD (x::l)):=by
 have h1:=Ajc.shrinks (aD (x::l));have h2:=Alj Oa (C5 (aD (x::l))).2;have h3:1≤Bg (aD (x::l)):=by simp[Bg]
 cases f with
 |zero=>omega
 |succ f=>exact⟨f,by omega,rfl,by omega,by omega⟩
theorem A0t:(Tryz.prog.info? 50).map (fun i=>(i.zero,i.size,i.bytes))=aD (aD (bI Bn),20,320):=by kernel_rfl
theorem Anj (a:Nat)(s:St)(w:bD)(h:Rd w a s 0)(he:Env w)(ha:8≤a):
  bJ aJ 24 #[bK (aD ⟨a,0,aB⟩)] w fun e w'=>∃sv ok,e=aR (.tuple #[sv,bO ok])∧IsL Ie (Fr w.heap.size) w' sv (Ej (Bg s) [] s).1∧(ok=aY↔(Ej (Bg s) [] s).2=aD [])∧But a w w':=by
 obtain⟨i0,hi,ax,ay,az⟩:=cT A0t;have ag:=h.lt;have bk:=h.len;generalize hR:Ej (Bg s) [] s=R;have HR:Hid _:=hR;clear hR;go_enter Tryz.func24,Tryz.ntmps24;go_wp2_with fail
 go_loopg[4] (Bg s) (fun f z wr=>∃acc cs σ,wr.ownsRow w.heap.size 50 20 z acc.length cs∧All Ie (FO w.heap.size z) wr acc cs∧Rd wr a σ 0∧Hid (R=Ej f acc σ∧Bg σ≤f)∧acc.length+Bg σ≤1600∧But a w wr)
 case atStart=>exact⟨[],[],s,bL _ _ _ _,rfl,h,⟨HR.out.symm,aM _⟩,by simp;omega,But.refl _ _⟩
 case round=>
  clear HR;obtain⟨acc,cs,σ,ah,al,am,HF,bl,ab⟩:=hrel;have an:Hid _:=al;clear al;have ba:Hid _:=am;obtain⟨x,r,b,hc,ac⟩:=am;obtain⟨d0,d1,d2,d3⟩:=hc.cells
  by_cases hx:x.size=0
  ·have bb:x.toList.isEmpty=aY:=by rw[Pn hx,Lib.toList_data];rfl
   have ai:Hid (R=(acc,σ)∧(b=cL↔σ=aD [])):=by
    rcases ac.empty hx with⟨rfl,rfl⟩|⟨rfl,rfl⟩
    ·exact⟨HF.out.1.trans A3y.1,by simp⟩
    ·exact⟨HF.out.1.trans A3y.2,by simp⟩
   clear HF ac hx;go_wp2_with fail;go_quiet(fail);go_wp2_with fail;go_ret2;refine⟨_,_,rfl,?_,?_,ab.trans (.of_below (bY (aT _ _) _))⟩
   ·rw[ai.out.1];have g:IsL Ie (Fr w.heap.size) wr u4 acc:=⟨cs,Bq.of_own ah (fun k hk=>hk),All.mono (F:=FO w.heap.size u4) (fun k _ hk=>hk.1) an.out⟩;exact g.keep (Ai (bY (aT _ _) _))
   ·rw[ai.out.1,←ai.out.2];cases b<;>simp
  ·have bb:x.toList.isEmpty=cL:=by rw[Lib.toList_data,J4 x (by omega)];rfl
   obtain⟨hσ,_,_,_⟩:=ac.at (by omega);obtain⟨f',bm,aa⟩:∃f',f'<gk∧Hid (R=Ej f' (acc++[(C5 σ).1]) (Cg Oa (C5 σ).2)∧Bg (Cg Oa (C5 σ).2)≤f'∧Bg (Cg Oa (C5 σ).2)+1≤Bg σ):=by
    have h2:=HF.out.2;have h1:=HF.out.1;rw[hσ]at h1 h2⊢;obtain⟨f',g1,g2,g3,g4⟩:=Ap4 (acc:=acc) h2;grind
   clear HF ac hσ hx;have CM:=Ap3 a σ wr ba.out (he.but ab ha) ha;generalize C5 σ=q at CM aa;obtain⟨st,s2⟩:=q;simp only at CM aa;have WF:=fun v h1=>Fh a Oa s2 0 v h1 (by decide)
   generalize Cg Oa s2=s3 at WF aa;have bc:Hid _:=aa.out.2.2;go_wp2_with(first
    |(go_fit CM;rintro e w3 ⟨c3,rfl,aj,bd,ad⟩;obtain⟨kd,nm,tb,cl,a1,k1,c1,a2,k2,c2,a3,k3,c3,a4,k4,c4,a5,k5,c5,op,xk,xn,xs,sx,nx,n8,a6,k6,c6,a7,k7,c7,dn,nn,rfl⟩:=Axt aj;simp only[I7];have ae:=(U5 ah ad ag).alloc (aG [O X kd,aA nm,aA tb,aA cl,J a1 k1 c1,J a2 k2 c2,J a3 k3 c3,J a4 k4 c4,J a5 k5 c5,O X op,O X xk,O X xn,aA xs,aA sx,aA nx,O X n8,J a6 k6 c6,J a7 k7 c7,bO dn,O X nn].toArray 50);have ap:=Cb w3 [O X kd,aA nm,aA tb,aA cl,J a1 k1 c1,J a2 k2 c2,J a3 k3 c3,J a4 k4 c4,J a5 k5 c5,O X op,O X xk,O X xn,aA xs,aA sx,aA nx,O X n8,J a6 k6 c6,J a7 k7 c7,bO dn,O X nn] 50;have aq:w.heap.size≤(w3.alloc (aG [O X kd,aA nm,aA tb,aA cl,J a1 k1 c1,J a2 k2 c2,J a3 k3 c3,J a4 k4 c4,J a5 k5 c5,O X op,O X xk,O X xn,aA xs,aA sx,aA nx,O X n8,J a6 k6 c6,J a7 k7 c7,bO dn,O X nn].toArray 50)).heap.size:=aO (ab.trans ad).size (by simp))
    |(at_builtin;go_must(refine aZ _ rfl _ _ 37 rfl _ 50 i0 _ 20 320 Tryz.underlying37 hi ax ay az rfl (by simp) _ _ _ rfl ae _ 1 1 _ rfl rfl ap ?h1 (by simp only[bU];omega) (by omega) aq ?h2)))
   case h1=>simp only[cE];repeat(first|exact fun _ h=>absurd h cP|refine⟨rfl,?_⟩)
   case h2=>
    intro z2 w4 ar af _ be;have au:Below _ w3 (w3.alloc (aG [O X kd,aA nm,aA tb,aA cl,J a1 k1 c1,J a2 k2 c2,J a3 k3 c3,J a4 k4 c4,J a5 k5 c5,O X op,O X xk,O X xn,aA xs,aA sx,aA nx,O X n8,J a6 k6 c6,J a7 k7 c7,bO dn,O X nn].toArray 50)):=(aT _ _).alloc (aM _) _;have bf:=Rd.grown ae af (bd.below au) ag;have bg:=Air ae af ((ab.trans ad).alloc _) (aM _);have av:Hid (All Ie (FO w.heap.size z2) w4 (acc++[st]) (cs++[O X kd,aA nm,aA tb,aA cl,J a1 k1 c1,J a2 k2 c2,J a3 k3 c3,J a4 k4 c4,J a5 k5 c5,O X op,O X xk,O X xn,aA xs,aA sx,aA nx,O X n8,J a6 k6 c6,J a7 k7 c7,bO dn,O X nn])):=by
     have bh:¬FO w.heap.size u4 a:=by intro hf;have:=hf.1;omega
     have g1:All Ie (FO w.heap.size u4) (w3.alloc (aG [O X kd,aA nm,aA tb,aA cl,J a1 k1 c1,J a2 k2 c2,J a3 k3 c3,J a4 k4 c4,J a5 k5 c5,O X op,O X xk,O X xn,aA xs,aA sx,aA nx,O X n8,J a6 k6 c6,J a7 k7 c7,bO dn,O X nn].toArray 50)) acc cs:=All.keep ((ad.keeps bh).alloc _) an.out;have bi:z2.ownBlock=u4.ownBlock∨z2.ownBlock=aD (w3.alloc (aG [O X kd,aA nm,aA tb,aA cl,J a1 k1 c1,J a2 k2 c2,J a3 k3 c3,J a4 k4 c4,J a5 k5 c5,O X op,O X xk,O X xn,aA xs,aA sx,aA nx,O X n8,J a6 k6 c6,J a7 k7 c7,bO dn,O X nn].toArray 50)).heap.size:=by rw[World.size_alloc];exact be
     have bn:∀k,aD k=u4.ownBlock→k<wr.heap.size:=fun k e=>(ah.lt k e.symm).2
     have g2:All Ie (FO w.heap.size u4) (w3.alloc (aG [O X kd,aA nm,aA tb,aA cl,J a1 k1 c1,J a2 k2 c2,J a3 k3 c3,J a4 k4 c4,J a5 k5 c5,O X op,O X xk,O X xn,aA xs,aA sx,aA nx,O X n8,J a6 k6 c6,J a7 k7 c7,bO dn,O X nn].toArray 50)) [st] [O X kd,aA nm,aA tb,aA cl,J a1 k1 c1,J a2 k2 c2,J a3 k3 c3,J a4 k4 c4,J a5 k5 c5,O X op,O X xk,O X xn,aA xs,aA sx,aA nx,O X n8,J a6 k6 c6,J a7 k7 c7,bO dn,O X nn]:=All.keep (Ai au) (All.one (Ie.mono (fun k _ hf=>⟨by have:wr.heap.size≤k:=hf;have:=ab.size;omega,fun e=>by grind⟩) aj));exact All.mono (fun k hk hf=>⟨hf.1,hf.2.2⟩) (All.keep (F:=fun k=>w.heap.size≤k∧aD k≠u4.ownBlock∧aD k≠z2.ownBlock) ⟨af.size,fun k hk hl=>af.block k hl hk.2.1⟩ (All.mono (fun k hk hf=>⟨hf.1,hf.2,(Uj bi k hk hf).2⟩) (g1.append g2)))
    have aw:w4.ownsRow w.heap.size 50 20 z2 (acc++[st]).length (cs++[O X kd,aA nm,aA tb,aA cl,J a1 k1 c1,J a2 k2 c2,J a3 k3 c3,J a4 k4 c4,J a5 k5 c5,O X op,O X xk,O X xn,aA xs,aA sx,aA nx,O X n8,J a6 k6 c6,J a7 k7 c7,bO dn,O X nn]):=by rw[aL];exact ar
    have bo:(acc++[st]).length=acc.length+1:=by simp
    clear ar ap aq ae aj CM;generalize cs++[O _ kd,aA nm,aA tb,aA cl,J a1 k1 c1,J a2 k2 c2,J a3 k3 c3,J a4 k4 c4,J a5 k5 c5,O _ op,O _ xk,O _ xn,aA xs,aA sx,aA nx,O _ n8,J a6 k6 c6,J a7 k7 c7,bO dn,O _ nn]=cs2 at aw av;go_wp2_with(go_fit(WF w4 bf _ rfl);rintro e w5 ⟨rfl,bj,ak⟩)
    go_roundg f'
    case measure=>omega
    case rel=>
     refine⟨_,cs2,s3,U5 aw ak ag,All.keep (ak.keeps (by omega)) av.out,bj,⟨aa.out.1,aa.out.2.1⟩,?_,bg.trans ak⟩;have:=bc.out;omega
def A1 (t:List UInt8):List Stm×Int:=
 if 1500<t.length then([],2)else match Ej (Bg (adv (Ig t))) [] (adv (Ig t))with
  |(l,aD [])=>if 6<l.length then([],2)else(l,0)
  |_=>([],1)
theorem Afa (t)(w)(he:Env w):
  bJ aJ 13 #[.string t] w fun e w'=>∃sv,e=.returned (.tuple #[sv,.int .i64 (A1 t.data.toList).2])∧IsL Ie (Fr w.heap.size) w' sv (A1 t.data.toList).1∧Below w.heap.size w w':=by
 by_cases hl:1500<t.size
 ·have e:A1 t.data.toList=([],2):=by rw[A1,if_pos (by simp_all)]
  rw[e];have h1:(1500:Int)<t.size:=by omega
  go_enter Tryz.func13,Tryz.ntmps13;go_wp2_with fail;go_ret2;exact⟨_,rfl,IsL.nil _ _ _,aT _ _⟩
 ·have e:A1 t.data.toList=match Ej (Bg (adv (Ig t.data.toList))) [] (adv (Ig t.data.toList))with
    |(l,aD [])=>if 6<l.length then([],2)else(l,0)
    |_=>([],1):=by rw[A1,if_neg (by simp_all)]
  have h1:¬(1500:Int)<t.size:=by omega
  have NR:=Ajw t w (by omega);generalize adv _=s at NR e;have CF:=fun a v hr e1 ha=>Anj a s v hr e1 ha
  generalize Ej _ [] s=R at CF e;obtain⟨l,sf⟩:=R;simp only at CF;have HE:Hid ((sf=aD []→A1 t.data.toList=if 6<l.length then([],2)else(l,0))∧(sf≠aD []→A1 t.data.toList=([],1))):=by
   constructor
   ·grind
   ·grind
  generalize A1 _=A at HE⊢;clear e;go_enter Tryz.func13,Tryz.ntmps13;go_wp2_with(go_fit NR;rintro e w1 ⟨a,rfl,ha,af,aa⟩);have ah:=he.low;go_fit(CF a w1 af (he.next aa) (by omega));rintro e w2 ⟨sv,ok,rfl,hL,ad,ag⟩;have ab:=aa.trans (ag.below ha aa.size);have ac:IsL Ie (Fr w.heap.size) w2 sv l:=hL.mono (fun k _ hk=>by have h1:w1.heap.size≤k:=hk;have:=aa.size;omega);obtain⟨ao,cp,rfl⟩:=ac.shape;have ae:Hid _:=ad;have HL:Hid _:=ac;clear ad hL ac;cases ok
  ·have hA:=HE.out.2 (fun h=>by have:=ae.out.2 h;grind);subst hA;go_wp2_with fail;go_ret2;exact⟨_,rfl,IsL.nil _ _ _,ab⟩
  ·have hA:=HE.out.1 (ae.out.1 rfl)
   by_cases h6:6<l.length
   ·rw[if_pos h6]at hA;subst hA;have g6:(6:Int)<l.length:=by omega
    go_wp2_with fail;go_ret2;exact⟨_,rfl,IsL.nil _ _ _,ab⟩
   ·rw[if_neg h6]at hA;subst hA;have g6:¬(6:Int)<l.length:=by omega
    go_wp2_with fail;go_ret2;exact⟨_,rfl,HL.out,ab⟩
mutual
theorem Axu:∀{e:E},Df e→Ek e
 |.mk _ x s name _ l,h=>by
  rw[Df]at h;rw[Ek];exact⟨h.1,Are h.2.2.2⟩
theorem Are:∀{l:List E},Ec l→Qj l
 |[],_=>by assumption
 |e::l,h=>by
  rw[Ec]at h;rw[Qj];exact⟨Axu h.1,Are h.2⟩
end
def Sm (l:List Wd)(e:E):Prop:=e.nodes≤l.length∧Df e
theorem By:noW.size≤bU:=aP _
theorem At4 {v}(h:good v=aY):v.s.size≤bU:=by
 have h8:v.s.size≤8:=by
  unfold good at h;split at h
  ·grind
  ·grind
 exact aO h8 (by simp[bU])
theorem Afb {w}{l}{v}(h:v.s.size≤bU):Sm (w::l) (Lx v):=by
 refine⟨by simp[Lx,E.nodes,Ev],?_⟩;rw[Lx,Df,Ec];exact⟨h,By,By,trivial⟩
theorem Axv {w}{l}{a b}(h1:a.size≤bU)(h2:b.size≤bU):Sm (w::l) (Tq a b):=by
 refine⟨by simp[Tq,E.nodes,Ev],?_⟩;rw[Tq,Df,Ec];exact⟨Fn,h1,h2,trivial⟩
theorem Tn {k}{l}(h:Ec l):Df (Hj k l):=by
 rw[Hj,Df];exact⟨Fn,By,By,h⟩
theorem Ait {a b}(h:Df a)(h2:Df b):Ec [a,b]:=by rw[Ec,Ec,Ec];grind
theorem Aiu {a}(h:Df a):Ec [a]:=by rw[Ec,Ec];grind
theorem A25 {sub}(hs:∀l e,sub l e→Sm l e){l}{e}(h:Atom sub l e):Sm l e:=by
 cases h with
 |null=>exact Afb Fn
 |num h=>exact Afb By
 |neg h=>exact Afb By
 |text h1 h2=>exact Afb (At4 h2)
 |ref h=>exact Axv By (Dg h)
 |dot h1 h2=>exact Axv (Dg h1) (Dg h2)
 |br h=>
  have:=hs _ _ h;exact⟨by simp only[aK,aL];have:=this.1;omega,this.2⟩
theorem Aiv (k)(a b):(Hj k [a,b]).nodes=a.nodes+b.nodes+1:=by rfl
theorem Aiw (k)(a):(Hj k [a]).nodes=a.nodes+1:=by rfl
theorem Acp {P}{ops}(hs:∀l e,P l e→Sm l e){l}{e}(h:Chain P ops l e):Sm l e:=by
 induction h with
 |one h=>grind
 |more h1 h2 h3 ih=>
  have h4:=hs _ _ h3;refine⟨?_,Tn (Ait ih.2 h4.2)⟩;rw[Aiv,aL,aK];have:=ih.1;have:=h4.1;omega
theorem A26 {S T}(hs:∀l e,S l e→Sm l e)(ht:∀l e,T l e→Sm l e){l}{e}(h:Test S T l e):Sm l e:=by
 cases h with
 |neg h=>
  have h4:=ht _ _ h;refine⟨?_,Tn (Aiu h4.2)⟩;rw[Aiw,aK];have:=h4.1;omega
 |sum h=>grind
 |is h=>
  have h4:=hs _ _ h;refine⟨?_,Tn (Aiu h4.2)⟩;rw[Aiw,aL];have:=h4.1;grind
 |cmp h1 h2 h3=>
  have h4:=hs _ _ h1;have h5:=hs _ _ h3;refine⟨?_,Tn (Ait h4.2 h5.2)⟩;rw[Aiv,aL,aK];have:=h4.1;have:=h5.1;omega
theorem Arf {sub T}(hs:∀l e,sub l e→Sm l e)(ht:∀l e,T l e→Sm l e):(∀l e,Aj7 sub T l e→Sm l e)∧∀l e,Tc sub T l e→Sm l e:=by
 have h1:∀l e,Tc sub T l e→Sm l e:=fun l e h=>A26 (fun l e h=>Acp (fun l e h=>A25 hs h) h) ht h
 exact⟨fun l e h=>Acp (fun l e h=>Acp h1 h) h,h1⟩
theorem Ank:∀d,(∀l e,(Kq d).1 l e→Sm l e)∧∀l e,(Kq d).2 l e→Sm l e
 |0=>Arf (fun _ _ h=>h.elim) (fun _ _ h=>h.elim)
 |d+1=>Arf (Ank d).1 (Ank d).2
theorem Mz {l}{e}(h:Td l e):Sm l e:=(Ank 5).1 l e h
theorem Sm.fit {l}{e}(h:Sm l e)(hl:l.length≤16777216):Fk e:=⟨aO h.1 hl,Axu h.2⟩
theorem Ns {α}{P}{l}{bs:List α}(h:ListG P l bs):bs.length≤l.length+1∧bs≠[]∧∀a∈bs,∃m,P m a∧m.length≤l.length:=by
 induction h with
 |one h=>grind
 |more h1 h2 ih=>
  grind
theorem To:∀{l:List E},(∀e∈l,Df e)→Ec l
 |[],_=>by rw[Ec];simp
 |e::l,h=>by rw[Ec];exact⟨h e (by simp),To fun x hx=>h x (by grind)⟩
theorem Axw:Fk E.nil∧Df E.nil:=by
 refine⟨⟨by simp[E.nil,E.nodes,Ev],?_⟩,?_⟩
 ·rw[E.nil,Ek,Qj];exact⟨Fn,trivial⟩
 ·rw[E.nil,Df,Ec];exact⟨Fn,By,By,trivial⟩
theorem Wu {l}{e}(h:Yh l e)(hl:l.length≤1000000):Fk e∧Df e:=by
 rcases h with⟨_,rfl⟩|⟨m,rfl,h⟩
 ·exact Axw
 ·have:=Mz h;exact⟨this.fit (by grind),this.2⟩
theorem Aix {l}{es}(h:ListG Td l es)(hl:l.length≤999999):es.length≤1000000∧(∀e∈es,Fk e)∧(∀e∈es,Df e):=by
 obtain⟨h1,_,h3⟩:=Ns h;refine⟨by omega,fun e he=>?_,fun e he=>?_⟩
 ·obtain⟨m,hm,aa⟩:=h3 e he;exact(Mz hm).fit (by omega)
 ·obtain⟨m,hm,aa⟩:=h3 e he;exact(Mz hm).2
theorem A0u {l:List Wd}{st:Stm}(h:StmG l st)(hl:l.length≤100000):FitC st:=by
 obtain⟨n1,n2⟩:=Axw;have f0:Ec ([]:List E):=by rw[Ec];trivial
 cases h with
 |@table n cs l h1 h2=>
  obtain⟨a1,a2,a3⟩:=Ns h2;have ab:∀x,x∈cs→x.name.size≤bU:=fun x hx=>by
   obtain⟨m,hm,_⟩:=a3 x hx;exact Dg hm.1
  exact⟨⟨⟨by simp[Aj],by simp[Aj],f0,f0,n2,Dg h1,By,By,ab,by simp[Aj]⟩,Dg h1,ab,by simp[Aj],by simp[Aj],by simp[Aj],by simp[Aj],by simp[Aj],by simp[Aj],by simp[Aj]⟩,by simp[Aj],by simp[Aj],by simp[Aj],by simp[Aj],by simp[Aj],n1⟩
 |index h1 h2 h3=>
  exact⟨⟨⟨by simp[Aj],by simp[Aj],f0,f0,n2,Dg h1,Dg h2,Dg h3,fun x hx=>by simp[Aj]at hx,by simp[Aj]⟩,Dg h1,fun x hx=>by simp[Aj]at hx,by simp[Aj],by simp[Aj],by simp[Aj],by simp[Aj],by simp[Aj],by simp[Aj],by simp[Aj]⟩,by simp[Aj],by simp[Aj],by simp[Aj],by simp[Aj],by simp[Aj],n1⟩
 |drop h1=>
  exact⟨⟨⟨by simp[Aj],by simp[Aj],f0,f0,n2,Dg h1,By,By,fun x hx=>by simp[Aj]at hx,by simp[Aj]⟩,Dg h1,fun x hx=>by simp[Aj]at hx,by simp[Aj],by simp[Aj],by simp[Aj],by simp[Aj],by simp[Aj],by simp[Aj],by simp[Aj]⟩,by simp[Aj],by simp[Aj],by simp[Aj],by simp[Aj],by simp[Aj],n1⟩
 |@insert t l rs h1 h2=>
  obtain⟨a1,a2,a3⟩:=Ns h2;simp only[aK]at hl;have hr:∀r∈rs,(r.length≤1000000∧(∀e∈r,Fk e)∧∀e∈r,Df e)∧r≠[]:=fun r hr=>by
   obtain⟨m,⟨m',rfl,hm⟩,aa⟩:=a3 r hr;simp only[aK,aL]at aa;exact⟨Aix hm (by omega),(Ns hm).2.1⟩
  exact⟨⟨⟨fun r h=>To (hr r h).1.2.2,by simp[Aj],f0,f0,n2,By,Dg h1,By,fun x hx=>by simp[Aj]at hx,by simp[Aj]⟩,By,fun x hx=>by simp[Aj]at hx,by grind,fun r h=>aO (hr r h).1.1 (by omega),by simp[Aj],by simp[Aj],by simp[Aj],by simp[Aj],by simp[Aj]⟩,by grind,fun r h=>⟨(hr r h).2,(hr r h).1.2.1⟩,by simp[Aj],by simp[Aj],by simp[Aj],n1⟩
 |@delete t w e h1 h2=>
  simp only[aK]at hl;obtain⟨b1,b2⟩:=Wu h2 (by omega);exact⟨⟨⟨by simp[Aj],by simp[Aj],f0,f0,b2,By,Dg h1,By,fun x hx=>by simp[Aj]at hx,by simp[Aj]⟩,By,fun x hx=>by simp[Aj]at hx,by simp[Aj],by simp[Aj],by simp[Aj],by simp[Aj],by simp[Aj],by simp[Aj],by simp[Aj]⟩,by simp[Aj],by simp[Aj],by simp[Aj],by simp[Aj],by simp[Aj],b1⟩
 |@update t l ss w e h1 h2 h3=>
  simp only[aK,aL]at hl;obtain⟨b1,b2⟩:=Wu h3 (by omega);obtain⟨a1,a2,a3⟩:=Ns h2;have hr:∀p∈ss,p.1.size≤bU∧Fk p.2∧Df p.2:=fun p hp=>by
   obtain⟨m,⟨hn,m',rfl,hm⟩,aa⟩:=a3 p hp;simp only[aK]at aa;exact⟨Dg hn,(Mz hm).fit (by omega),(Mz hm).2⟩
  exact⟨⟨⟨by simp[Aj],fun p hp=>⟨(hr p hp).2.2,(hr p hp).1⟩,f0,f0,b2,By,Dg h1,By,fun x hx=>by simp[Aj]at hx,by simp[Aj]⟩,By,fun x hx=>by simp[Aj]at hx,by simp[Aj],by simp[Aj],by grind,fun p hp=>(hr p hp).1,by simp[Aj],by simp[Aj],by simp[Aj]⟩,by simp[Aj],by simp[Aj],fun p hp=>(hr p hp).2.1,by simp[Aj],by simp[Aj],b1⟩
 |@select o os f fs w e r es m n h1 h2 h3 h4 h5=>
  simp only[aK,aL]at hl;obtain⟨b1,b2⟩:=Wu h3 (by omega);have ac:∀s∈fs,s.size≤bU:=fun s hs=>by
   obtain⟨m,hm,_⟩:=(Ns h2).2.2 s hs;exact Dg hm.1
  have ho:os.length≤1000000∧(∀e∈os,Fk e)∧∀e∈os,Df e:=by
   rcases h1 with⟨_,rfl⟩|h1
   ·simp
   ·exact Aix h1 (by omega)
  have hr:es.1.length≤1000000∧(∀e∈es.1,Fk e)∧∀e∈es.1,Df e:=by
   rcases h4 with⟨_,rfl⟩|⟨m',e',hm,h6,rfl⟩
   ·simp
   ·simp only[aK,aL]at hl;rw[h6];refine⟨by simp,fun x hx=>?_,fun x hx=>?_⟩<;>rw[cJ]at hx<;>subst hx
    ·exact(Mz hm).fit (by omega)
    ·exact(Mz hm).2
  exact⟨⟨⟨by simp[Aj],by simp[Aj],To ho.2.2,To hr.2.2,b2,By,By,By,fun x hx=>by simp[Aj]at hx,ac⟩,By,fun x hx=>by simp[Aj]at hx,by simp[Aj],by simp[Aj],by simp[Aj],by simp[Aj],aO ho.1 (by omega),aO hr.1 (by omega),ac⟩,by simp[Aj],by simp[Aj],by simp[Aj],ho.2.1,⟨hr.1,hr.2.1⟩,b1⟩
theorem Xo:∀(f:Nat) (acc:List Stm) (s:St) (az:List Stm),Bg s≤100000→Ej f acc s=(az,aD [])→(∀st∈acc,FitC st)→∀st∈az,FitC st
 |0,acc,s,az,_,h,ha=>by rw[Ej]at h;grind
 |f+1,acc,aB,az,_,h,ha=>by rw[A3y.1]at h;grind
 |f+1,acc,aD [],az,_,h,ha=>by rw[A3y.2]at h;grind
 |f+1,acc,aD (w::l),az,hl,h,ha=>by
  rw[Ej]at h;cases h2:Cg Oa _ with
  |none=>rw[h2,A3y.1]at h;grind
  |some r=>
   rw[h2]at h;obtain⟨h3,_⟩:=Do h2;obtain⟨m,hm,hg⟩:=Ajc _ _ _ (Prod.ext rfl h3);simp only[cX]at hm;have h4:=congrArg List.length hm;simp at h4;have ab:l.length+1≤100000:=by simpa[Bg]using hl
   refine Xo f _ _ az (by simp[Bg];omega) h fun st aa=>?_
   rcases dO.1 aa with aa|aa
   ·grind
   ·rw[cJ]at aa;subst aa;exact A0u hg (by omega)
theorem At5 {t}:∀st∈(A1 t).1,FitC st:=by
 unfold A1;split
 ·simp
 ·split
  ·rename_i h1 _ l hl;split
   ·simp
   ·obtain⟨ws,h2,_,h3⟩:=Aqs t.length t (aM _);refine Xo _ _ _ _ ?_ hl (by simp);have h4:(Ig t).length≤2000:=by rcases h2 with h2|h2<;>rw[h2]<;>(try simp)<;>omega
    cases h5:adv _ with
    |none=>simp[Bg]
    |some r=>obtain⟨rfl,_⟩:=Ye h5;simp[Bg];omega
  simp
theorem At6 {t}:(A1 t).1.length≤6:=by
 unfold A1;grind
def M6:Rep:=⟨0,0,[]⟩
def F9:Db→List Stm→Nat→Rep→Rep×Db
 |d,[],_,last=>(last,d)
 |d,s::l,i,_=>if(Fp d s).1.code=0 then F9 (Fp d s).2 l (i+1) (Fp d s).1 else(⟨(Fp d s).1.code,(i:Int)+1,[]⟩,(Fp d s).2)
def Sy:Db→List Stm→Bool→Bool
 |_,[],q=>q
 |d,s::l,q=>if(Fp d s).1.code=0 then Sy (Fp d s).2 l (Su d s q)else Su d s q
def doR (d:Db)(a:Int)(t:Wd):Rep×Db×Int:=
 if 150≤a then(⟨8,0,[]⟩,d,a)
 else if(A1 t.data.toList).2≠0 then(⟨(A1 t.data.toList).2,0,[]⟩,d,a+1)
 else if(F9 d (A1 t.data.toList).1 0 M6).1.code=0 then((F9 d (A1 t.data.toList).1 0 M6).1,(F9 d (A1 t.data.toList).1 0 M6).2,a+1)
 else((F9 d (A1 t.data.toList).1 0 M6).1,d,a+1)
def doQ (d:Db)(a:Int)(t:Wd)(q:Bool):Bool:=
 if 150≤a then q
 else if(A1 t.data.toList).2≠0 then q
 else if(F9 d (A1 t.data.toList).1 0 M6).1.code=0 then Sy d (A1 t.data.toList).1 q
 else q
theorem Zm (t):∀(rows:List (List V)) (d:Db),(C9 t d rows).2=0∨(C9 t d rows).2=4∨(C9 t d rows).2=7∨(C9 t d rows).2=8
 |[],_=>.inl rfl
 |r::rows,d=>by
  unfold C9;split
  ·exact Zm t rows _
  ·exact Ah7 d t r
theorem Anl (d)(st):((Fp d st).1.code=0∨(Fp d st).1.code=1∨(Fp d st).1.code=3∨(Fp d st).1.code=4∨(Fp d st).1.code=5∨(Fp d st).1.code=7∨(Fp d st).1.code=8):=by
 unfold Fp;split
 ·rename_i m hm;have:=Anb hm;grind
 ·rename_i b hb;unfold Ff;split
  ·simp
  split
  ·simp
  split
  ·simp
  split
  ·split
   ·rename_i t _;have:=Zm t (b.rows.map fun l=>l.map (ev [])) d;grind
   simp
  split
  ·grind
  split
  ·split
   ·rename_i t _;have:=Zm t (((d.R t.name).filter (Au b.wher)).map (Gn t b.sets)) (d.upd t.name ((d.R t.name).filter fun r=>!Au b.wher r));grind
   simp
  simp
theorem Anm:∀(l:List Stm) (d:Db) (i:Nat) (aa:Rep),aa.code=0→((F9 d l i aa).1.code=0∨(F9 d l i aa).1.code=1∨(F9 d l i aa).1.code=3∨(F9 d l i aa).1.code=4∨(F9 d l i aa).1.code=5∨(F9 d l i aa).1.code=7∨(F9 d l i aa).1.code=8)
 |[],_,_,_,h=>.inl h
 |s::l,d,i,aa,_=>by
  unfold F9;split
  ·rename_i h;exact Anm l _ _ _ h
  ·exact Anl d s
theorem Ap5 (t):(A1 t).2=0∨(A1 t).2=1∨(A1 t).2=2:=by
 unfold A1;grind
theorem Dm.shape {base}{z}{A}{w}(h:Dm base z A w):∃vo vc,z=J vo A.length vc:=(J8 h).shape
theorem Br.row {E}{w}(h:Br E w){g}(hd:Dull w g)(hn:g∉E)(cells):Br E (w.setRow g cells):=fun n aa=>by
 obtain⟨c,T,a,tv,iv,pv,h1,h2⟩:=h n aa;exact⟨c,T,a,tv,iv,pv,h1.row hd (fun e=>hn (by grind)) _,h2⟩
def A1h (n:Nat)(w:bD)(so:Option Addr)(sc:Nat)(ss:List Stm):Prop:=IsL Ie (fun k=>k<w.heap.size∧k≠n) w (J so ss.length sc) ss
theorem At7 {E:List Nat}{n:Nat}{d:Db}{a:Int}{w:bD}(hE:Br E w)(hn:n∈E)(q:Bool)(he:Dt E w n d a q)(ok:DbOk d)(ss:List Stm)(so:Option Addr)(sc:Nat)(hs:A1h n w so sc ss)(hf:∀st∈ss,FitC st)(hl:ss.length≤6):
  bJ aJ 17 #[bK (aD ⟨n,0,aB⟩),J so ss.length sc] w fun e w'=>Anc E n (F9 d ss 0 M6) a (Sy d ss q) w w' e:=by
 have cl:n<w.heap.size:=Br.lt hE hn;have bc:∀k,w.heap.size≤k→k∉E:=fun k hk h=>by have:=Br.lt hE h;omega
 obtain⟨aw,bA,bB,-⟩:=al2 w (aG #[O X 0,O X 0,J aB 0 0] 32) (aG #[O X 0,O X 0,J aB 0 0] 32);have HS:Hid _:=hs;have HF:Hid _:=hf;have bu:Hid _:=he;have bv:Hid _:=hE;have bw:Hid _:=ok;have bx:Hid _:=bc;clear hs hf he hE ok bc;go_enter Tryz.func17,Tryz.ntmps17;go_wp2_with fail
 go_loopw[10] (fun i wr=>∃(k:Nat) (d1:Db) (N:Int) (rows:List (List V)) (q1:Bool) (vo:Option Addr) (vc:Nat),k≤ss.length∧i=O X k∧Hid (F9 d ss 0 M6=F9 d1 (ss.drop k) k ⟨0,N,rows⟩∧Sy d ss q=Sy d1 (ss.drop k) q1)∧Hid (Dt E wr n d1 a q1)∧Hid (DbOk d1)∧Hid (Br E wr)∧wr.heap[w.heap.size]?=aD (aG #[O X 0,O X 0,J aB 0 0] 32)∧wr.heap[w.heap.size+1]?=aD (aG #[O X 0,O X N,J vo rows.length vc] 32)∧Hid (Dm (w.heap.size+2) (J vo rows.length vc) rows wr)∧But n w wr) (fun i _=>ss.length-(bS i).toNat)
 case atStart=>exact⟨0,d,0,[],q,aB,0,aP _,rfl,⟨rfl,rfl⟩,Dt.below bu.out aw,bw.out,Br.below bv.out aw,bA,bB,B8 _ _,But.of_below aw⟩
 case round=>
  obtain⟨k,d1,N,rows,q1,vo,vc,hk,rfl,ab,ax,bd,be,b4,b5,bf,aq⟩:=hrel
  by_cases bz:k<ss.length
  ·obtain⟨st,hx⟩:∃x,ss[k]?=aD x:=⟨_,aI bz⟩;have bg:=HS.out.keep (aq.keeps fun h=>h.2 rfl);obtain⟨b,ca,cs,cb,_,hb,hR,bh⟩:=At bg hx;cases cb;have bi:cs.length=20:=Ie.len hR;have bj:wr.rangeAt b (ca+k*20) cs:=bh;have bk:(Tryz.prog.info? 50).map (·.size)=aD cs.length:=by rw[bi];exact D4
   have bl:(Tryz.prog.info? 50).map (·.size)=aD cs.toArray.size:=by rw[dL];exact bk
   have cc:cs.toArray.size=20:=by rw[dL];exact bi
   have bm:=(Aac hR).1;have bZ:=Ab wr (aG Bn 50);have bX:=Ao (cells:=cs.toArray) bZ;have ak:Below _ wr ((wr.alloc (aG Bn 50)).setRow _ cs.toArray):=Below.row (Aq wr _) (aM _) _;have bn:Hid _:=Sq hx;have cd:Hid _:=HF.out st (aX hx);have v0:(0:Int)≤k:=by omega
   have v1:k<(ss.length:Int):=by omega
   have ce:=aq.size;have cf:Hid _:=Ie.mono (fun k hk _=>hk) hR;clear bh bg hx hR;go_upto_region 5 with(first
    |(refine wpList_load_mid rfl 50 _ rfl b _ ?_ cs _ bj dH ?_ ?_ ?_;exact rfl;exact rfl;exact bk)
    |(refine aE rfl 50 _ _ rfl wr.heap.size cs.toArray ?_ ?_ 50 Bn ?_ ?_ ?_ ?_ ?_;exact rfl;exact rfl;exact bZ;exact bl;exact cc.symm;exact bm))
   have ar:=(ak.block _ (aF b4)).trans b4;have am:=(ak.block _ (aF b5)).trans b5;have ay:Hid _:=Dt.below ax.out ak;have au:Hid _:=Br.below be.out ak;have az:=aq.trans (But.of_below ak);have av:Hid _:=Ie.keep (Ai ak) cf.out;clear bZ bj ak hb bm;generalize(wr.alloc _).setRow _ _=V at ar am ay au az av bX⊢;generalize wr.heap.size=g at bX av ce⊢;have HI:bJ aJ 26 #[bK (aD ⟨n,0,aB⟩),bI cs.toArray] V fun e w'=>Anc E n (Fp d1 st) a (Su d1 st q1) V w' e:=by
    obtain⟨T,cg,tc,io,ic,po,pc,h1,h2,h3⟩:=ay.out;exact A2y au.out hn h1 bd.out h2 q1 h3 st cs (Ie.mono (fun k hk _=>hk) av.out) cd.out
   have an:=Anl d1 st;have ad:Hid (F9 d1 (ss.drop k) k ⟨0,N,rows⟩=if(Fp d1 st).1.code=0 then F9 (Fp d1 st).2 (ss.drop (k+1)) (k+1) (Fp d1 st).1 else(⟨(Fp d1 st).1.code,k+1,[]⟩,(Fp d1 st).2)):=by show _=_;rw[bn.out,F9]
   have ac:Hid (Sy d1 (ss.drop k) q1=if(Fp d1 st).1.code=0 then Sy (Fp d1 st).2 (ss.drop (k+1)) (Su d1 st q1)else Su d1 st q1):=by show _=_;rw[bn.out,Sy]
   generalize Su d1 st q1=q2 at HI ac;generalize Fp d1 st=p at HI ad ac an;obtain⟨⟨C,N2,af⟩,d2⟩:=p;simp only at an ad ac;go_upto_region 6 with(first
    |(go_fit HI;rintro e w8 ⟨⟨cm,rfl,ba⟩,ae⟩;obtain⟨ag,ah,rfl⟩:=ba.shape;have ap:=(ae.2.2.block _ (aF am) (by omega)).trans am;have bo:=(ae.2.2.block _ (aF ar) (by omega)).trans ar)
    |(refine aS rfl 50 _ rfl g ?_ 50 _ _ _ bX dH ?_ ?_ ?_;exact rfl;exact rfl;exact bl)
    |(refine aE rfl 32 _ _ rfl (w.heap.size+1) #[O X C,O X N2,J ag af.length ah] ?_ ?_ 32 #[O X 0,O X N,J vo rows.length vc] ?_ ?_ ?_ ?_ ?_;exact rfl;exact rfl;exact ap;exact Ar;exact rfl;exact C3 _ _ _ _ _))
   have bb:=Ao (cells:=#[O X C,O X N2,J ag af.length ah]) ap;have aa:=Bz (g:=w.heap.size+1) bo (by omega) #[O X C,O X N2,J ag af.length ah];have ai:Hid _:=Dt.row ae.1 (Cn ap) (show n≠w.heap.size+1 by omega) #[O X C,O X N2,J ag af.length ah];have bp:Br E w8:=by
    obtain⟨T,cg,tc,io,ic,po,pc,h1,_⟩:=ae.1;exact Br.put au.out ae.2.2 hn h1 ae.2.1.cat
   have bq:Hid _:=Br.row bp (Cn ap) (bx.out _ (show w.heap.size≤w.heap.size+1 by omega)) #[O X C,O X N2,J ag af.length ah];have aj:=(az.trans ae.2.2).rowB (show w.heap.size≤w.heap.size+1 by omega) #[O X C,O X N2,J ag af.length ah];have ch:w.heap.size+2≤V.heap.size:=by have:=aF am;omega
   have bt:Hid _:=(ba.base ch).row (show w.heap.size+1<w.heap.size+2 by omega) #[O X C,O X N2,J ag af.length ah];have al:Hid _:=ae.2.1;have c0:=Aa bb (j:=0) rfl;clear HI ae ba bo ap ar am bX ay au az av bp be ax bf;generalize w8.setRow _ _=Z at bb aa ai bq aj bt c0⊢;rcases an with rfl|an
   ·rw[if_pos rfl]at ad ac;go_wp2_with fail;go_roundw
    case rel=>exact⟨_,d2,N2,af,q2,ag,ah,by omega,by rfl,⟨ab.out.1.trans ad.out,ab.out.2.trans ac.out⟩,ai,al,bq,aa,bb,bt,aj⟩
    case measure=>simp[bS];omega
   ·have cj:Hid (C≠0):=by show _≠_;omega
    rw[if_neg cj.out]at ad ac;have cn:k≤6:=by omega
    rcases an with rfl|rfl|rfl|rfl|rfl|rfl
    ·go_wp2_with(refine aE rfl 32 _ _ rfl w.heap.size #[O X 1,O X (k+1),J aB 0 0] ?_ ?_ 32 #[O X 0,O X 0,J aB 0 0] ?_ ?_ ?_ ?_ ?_;exact rfl;exact(by go_num);exact aa;exact Ar;exact rfl;exact C3 _ _ _ _ _);refine aN (v:=bI #[O X 1,O X ((k:Int)+1),J aB 0 0]) (aH bF _ _ w.heap.size 32 #[O X 1,O X ((k:Int)+1),J aB 0 0] _ _ rfl (Ao aa) aC rfl Ar) rfl ?_;rw[ab.out.1,ab.out.2,ad.out,ac.out];exact⟨⟨_,rfl,B8 _ _⟩,Dt.row ai.out (Cn aa) (show n≠w.heap.size by omega) _,al.out,aj.rowB (aM _) _⟩
    ·go_wp2_with(refine aE rfl 32 _ _ rfl w.heap.size #[O X 3,O X (k+1),J aB 0 0] ?_ ?_ 32 #[O X 0,O X 0,J aB 0 0] ?_ ?_ ?_ ?_ ?_;exact rfl;exact(by go_num);exact aa;exact Ar;exact rfl;exact C3 _ _ _ _ _);refine aN (v:=bI #[O X 3,O X ((k:Int)+1),J aB 0 0]) (aH bF _ _ w.heap.size 32 #[O X 3,O X ((k:Int)+1),J aB 0 0] _ _ rfl (Ao aa) aC rfl Ar) rfl ?_;rw[ab.out.1,ab.out.2,ad.out,ac.out];exact⟨⟨_,rfl,B8 _ _⟩,Dt.row ai.out (Cn aa) (show n≠w.heap.size by omega) _,al.out,aj.rowB (aM _) _⟩
    ·go_wp2_with(refine aE rfl 32 _ _ rfl w.heap.size #[O X 4,O X (k+1),J aB 0 0] ?_ ?_ 32 #[O X 0,O X 0,J aB 0 0] ?_ ?_ ?_ ?_ ?_;exact rfl;exact(by go_num);exact aa;exact Ar;exact rfl;exact C3 _ _ _ _ _);refine aN (v:=bI #[O X 4,O X ((k:Int)+1),J aB 0 0]) (aH bF _ _ w.heap.size 32 #[O X 4,O X ((k:Int)+1),J aB 0 0] _ _ rfl (Ao aa) aC rfl Ar) rfl ?_;rw[ab.out.1,ab.out.2,ad.out,ac.out];exact⟨⟨_,rfl,B8 _ _⟩,Dt.row ai.out (Cn aa) (show n≠w.heap.size by omega) _,al.out,aj.rowB (aM _) _⟩
    ·go_wp2_with(refine aE rfl 32 _ _ rfl w.heap.size #[O X 5,O X (k+1),J aB 0 0] ?_ ?_ 32 #[O X 0,O X 0,J aB 0 0] ?_ ?_ ?_ ?_ ?_;exact rfl;exact(by go_num);exact aa;exact Ar;exact rfl;exact C3 _ _ _ _ _);refine aN (v:=bI #[O X 5,O X ((k:Int)+1),J aB 0 0]) (aH bF _ _ w.heap.size 32 #[O X 5,O X ((k:Int)+1),J aB 0 0] _ _ rfl (Ao aa) aC rfl Ar) rfl ?_;rw[ab.out.1,ab.out.2,ad.out,ac.out];exact⟨⟨_,rfl,B8 _ _⟩,Dt.row ai.out (Cn aa) (show n≠w.heap.size by omega) _,al.out,aj.rowB (aM _) _⟩
    ·go_wp2_with(refine aE rfl 32 _ _ rfl w.heap.size #[O X 7,O X (k+1),J aB 0 0] ?_ ?_ 32 #[O X 0,O X 0,J aB 0 0] ?_ ?_ ?_ ?_ ?_;exact rfl;exact(by go_num);exact aa;exact Ar;exact rfl;exact C3 _ _ _ _ _);refine aN (v:=bI #[O X 7,O X ((k:Int)+1),J aB 0 0]) (aH bF _ _ w.heap.size 32 #[O X 7,O X ((k:Int)+1),J aB 0 0] _ _ rfl (Ao aa) aC rfl Ar) rfl ?_;rw[ab.out.1,ab.out.2,ad.out,ac.out];exact⟨⟨_,rfl,B8 _ _⟩,Dt.row ai.out (Cn aa) (show n≠w.heap.size by omega) _,al.out,aj.rowB (aM _) _⟩
    ·go_wp2_with(refine aE rfl 32 _ _ rfl w.heap.size #[O X 8,O X (k+1),J aB 0 0] ?_ ?_ 32 #[O X 0,O X 0,J aB 0 0] ?_ ?_ ?_ ?_ ?_;exact rfl;exact(by go_num);exact aa;exact Ar;exact rfl;exact C3 _ _ _ _ _);refine aN (v:=bI #[O X 8,O X ((k:Int)+1),J aB 0 0]) (aH bF _ _ w.heap.size 32 #[O X 8,O X ((k:Int)+1),J aB 0 0] _ _ rfl (Ao aa) aC rfl Ar) rfl ?_;rw[ab.out.1,ab.out.2,ad.out,ac.out];exact⟨⟨_,rfl,B8 _ _⟩,Dt.row ai.out (Cn aa) (show n≠w.heap.size by omega) _,al.out,aj.rowB (aM _) _⟩
  ·have ck:k=ss.length:=by omega
   subst ck;have v1:¬(ss.length<(ss.length:Int)):=by omega
   have HD:Hid (ss.drop _=[]):=cR;go_wp2_with(first
    |(refine aS rfl 32 _ rfl _ ?_ 32 _ _ _ b5 aC ?_ ?_ ?_;exact rfl;exact rfl;exact Ar)
    |(refine aE rfl 32 _ _ rfl (w.heap.size) #[O X 0,O X N,J vo rows.length vc] ?_ ?_ 32 #[O X 0,O X 0,J aB 0 0] ?_ ?_ ?_ ?_ ?_;exact rfl;exact rfl;exact b4;exact Ar;exact rfl;exact C3 _ _ _ _ _))
   refine aN (v:=bI #[O X 0,O X N,J vo rows.length vc]) (aH bF _ _ w.heap.size 32 #[O X 0,O X N,J vo rows.length vc] _ _ rfl (Ao b4) aC rfl Ar) rfl ?_;rw[ab.out.1,ab.out.2,HD.out,F9,Sy];exact⟨⟨_,rfl,(bf.out.row (show w.heap.size<w.heap.size+2 by omega) _).base (by omega)⟩,Dt.row ax.out (Cn b4) (show n≠w.heap.size by omega) _,bd.out,aq.rowB (aM _) _⟩
theorem EngC.mono {E E'}{w}{n}{c}{T}{a}{tv iv pv}(h:EngC E w n c T a tv iv pv)(hk:∀k,k<w.heap.size→k∉E→k∉E'):EngC E' w n c T a tv iv pv:=
 ⟨h.blk,h.tabs.mono hk,h.idxs.mono hk,h.pages.mono hk,h.good⟩
theorem A0v {E}{w}{n}{c}{T}{a}{tv iv pv}(hE:Br E w)(h:EngC E w n c T a tv iv pv)(hc:Dv c=aY)(z):
  Br (w.heap.size::E) ((w.alloc (aG z 67)).setRow w.heap.size #[tv,iv,pv,O X a])∧EngC (w.heap.size::E) ((w.alloc (aG z 67)).setRow w.heap.size #[tv,iv,pv,O X a]) w.heap.size c T a tv iv pv∧Below w.heap.size w ((w.alloc (aG z 67)).setRow w.heap.size #[tv,iv,pv,O X a]):=by
 have hb:Below _ w ((w.alloc (aG z 67)).setRow _ #[tv,iv,pv,O X a]):=Below.row (Aq w _) (aM _) _;have hk:∀k,k<w.heap.size→k∉E→k∉w.heap.size::E:=fun k h1 h2 h3=>by grind
 have new:EngC (w.heap.size::E) ((w.alloc (aG z 67)).setRow w.heap.size #[tv,iv,pv,O X a]) w.heap.size c T a tv iv pv:=by
  have h1:=(h.mono hk).below hb;exact⟨Ao (Ab w _),h1.tabs,h1.idxs,h1.pages,h1.good⟩
 refine⟨fun m hm=>?_,new,hb⟩;rcases cI.1 hm with rfl|hm
 ·grind
 ·obtain⟨c',T',a',aa,ab,ac,h1,h2⟩:=hE m hm;exact⟨c',T',a',aa,ab,ac,(h1.mono hk).below hb,h2⟩
theorem A0w {E}{w}{m n}{c}{T}{a}{tv iv pv}(h:EngC (m::E) w m c T a tv iv pv)(hn:n∈E){old}(hb:w.heap[n]?=aD (aG old 67)):EngC E (w.setRow n #[tv,iv,pv,O X a]) n c T a tv iv pv:=by
 have hk:Keeps (fun k=>k∉m::E) w (w.setRow n #[tv,iv,pv,O X a]):=(Keeps.refl _ _).row (fun h=>h (dC _ hn)) _;have hm:∀k,k<(w.setRow n #[tv,iv,pv,O X a]).heap.size→k∉m::E→k∉E:=fun k _ h1 h2=>h1 (dC _ h2)
 exact⟨Ao hb,(h.tabs.keep hk).mono hm,(h.idxs.keep hk).mono hm,(h.pages.keep hk).mono hm,h.good⟩
theorem EngC.tick {E}{w}{n}{c}{T}{a}{tv iv pv}(h:EngC E w n c T a tv iv pv)(hn:n∈E)(a'):EngC E (w.setCell ⟨n,3,aB⟩ (O X a')) n c T a' tv iv pv:=by
 have hk:Keeps _ w (w.setCell _ (O X a')):=Jr ((But.refl n w).set 3 _) hn;exact⟨Dj h.blk 3 _,h.tabs.keep hk,h.idxs.keep hk,h.pages.keep hk,h.good⟩
theorem But.newB {a m}{u v w}(h:But a u v)(k:But m v w)(hm:u.heap.size≤m):But a u w:=
 ⟨k.os.trans h.os,k.tape.trans h.tape,k.output.trans h.output,aO h.size k.size,fun i hi hn=>(k.block i (bC hi h.size) (by omega)).trans (h.block i hi hn)⟩
theorem But.same {a}{u v}(h:But a u v)(cells):But a u (v.setRow a cells):=
 ⟨h.os,h.tape,h.output,by simp[World.setRow];exact h.size,fun k hk hn=>by
  rw[←h.block k hk hn];simp only[World.setRow,cY];grind⟩
theorem A27 {B}{w W}{so}{sc}{ss}(h:IsL Ie (Fr B) w (J so ss.length sc) ss)(hb:Below w.heap.size w W):A1h w.heap.size W so sc ss:=by
 refine((h.mono fun k hk _=>hk).keep (Ae hb)).mono fun k hk h=>⟨hk,by omega⟩
theorem Arg (a b c:Option Addr)(n m k n' m' k':Nat)(x:Int):(#[J a n n',J b m m',J c k k',O X x]:Array aU).all (·.oneCell')=aY:=by simp[bM]
theorem Wv:(Tryz.prog.info? 67).map (·.size)=aD 4:=by kernel_rfl
def At8 (E:List Nat)(n:Nat)(p:Rep×Db×Int)(q:Bool)(w w':bD)(e:Ending):Prop:=(∃rv,e=aR (bI #[O X p.1.code,O X p.1.n,rv])∧Dm w.heap.size rv p.1.rows w')∧Dt E w' n p.2.1 p.2.2 q∧DbOk p.2.1∧But n w w'
theorem U6 {E:List Nat}{n:Nat}{d:Db}{a:Int}{w:bD}(hE:Br E w)(hn:n∈E)(q:Bool)(cl:Dt E w n d a q)(ok:DbOk d)(ha:0≤a)(cm:Env w)(cn:8≤n)(t:Wd):
  bJ aJ 10 #[bK (aD ⟨n,0,aB⟩),bI #[aA t]] w fun e w'=>At8 E n (doR d a t) (doQ d a t q) w w' e:=by
 obtain⟨T,ac,tc,io,ic,po,pc,he,ae,hq⟩:=cl;have cy:n<w.heap.size:=he.lt;obtain⟨aj,bT,bR,-⟩:=al2 w (aG #[aA t] 28) (aG #[O X 0,O X 0,J aB 0 0] 32);have an:=he.below aj;have bk:=hE.below aj;have bl:=cm.next aj;generalize hW:((w.alloc (aG #[aA t] 28)).alloc (aG #[O X 0,O X 0,J aB 0 0] 32))=W2 at aj bT bR an bk bl;have HW:Hid _:=hW;have v3:=Aa an.blk (j:=3) rfl;have f3:W2.frozen? ⟨n,3,aB⟩=cL:=by simp[cF,an.blk]
 have v9:=Aa bT (j:=0) rfl;have cz:=aj.size;clear hW
 by_cases aw:150≤a
 ·have HE:Hid (doR d a t=(⟨8,0,[]⟩,d,a)):=by show _=_;rw[doR,if_pos aw]
  have HQ:Hid (doQ d a t q=q):=by show _=_;rw[doQ,if_pos aw]
  go_enter Tryz.func10,Tryz.ntmps10;go_upto_region 1 with fail;rw[HW.out];go_wp2_with(refine aE rfl 32 _ _ rfl (w.heap.size+1) #[O X 8,O X 0,J aB 0 0] ?_ ?_ 32 #[O X 0,O X 0,J aB 0 0] ?_ ?_ ?_ ?_ ?_;exact rfl;exact rfl;exact bR;exact Ar;exact rfl;exact C3 _ _ _ _ _);refine aN (v:=bI #[O X 8,O X 0,J aB 0 0]) (aH aW _ _ (w.heap.size+1) 32 #[O X 8,O X 0,J aB 0 0] _ _ rfl (Ao bR) aC rfl Ar) rfl ?_;rw[HE.out,HQ.out];exact⟨⟨_,rfl,B8 _ _⟩,⟨T,ac,tc,io,ic,po,pc,an.row (Cn bR) (show n≠w.heap.size+1 by omega) _,ae,hq⟩,ok,(But.of_below aj).rowB (by omega) _⟩
 ·have da:a≤149:=by omega
  have ax:∀W,But n W2 W→bJ aJ 13 #[aA t] W _:=fun W h=>Afa t W (bl.but h cn)
  have ay:=Ap5 t.data.toList;have ce:Hid (∀st∈(A1 t.data.toList).1,FitC st):=At5;have cf:Hid ((A1 t.data.toList).1.length≤6):=At6;have HE:Hid (doR d a t=if(A1 t.data.toList).2≠0 then(⟨(A1 t.data.toList).2,0,[]⟩,d,a+1)
    else if(F9 d (A1 t.data.toList).1 0 M6).1.code=0 then((F9 d (A1 t.data.toList).1 0 M6).1,(F9 d (A1 t.data.toList).1 0 M6).2,a+1)
    else((F9 d (A1 t.data.toList).1 0 M6).1,d,a+1)):=by show _=_;rw[doR,if_neg aw]
  have HQ:Hid (doQ d a t q=if(A1 t.data.toList).2≠0 then q else if(F9 d (A1 t.data.toList).1 0 M6).1.code=0 then Sy d (A1 t.data.toList).1 q else q):=by show _=_;rw[doQ,if_neg aw]
  generalize(A1 t.data.toList).1=ss at ax ce cf HE HQ;generalize(A1 t.data.toList).2=e2 at ax ay HE HQ;have h5:=(But.refl n W2).set 3 (O X (a+1));have az:=an.tick hn (a+1);have bm:Br E (W2.setCell ⟨n,3,aB⟩ (O X (a+1))):=bk.put h5 hn az ok.cat;have ba:=(h5.block _ (aF bR) (by omega)).trans bR;have bn:=(h5.block _ (aF bT) (by omega)).trans bT;have cg:=Aa bn (j:=0) rfl;have bo:=ax _ h5;have co:=h5.size;go_enter Tryz.func10,Tryz.ntmps10;go_upto_region 1 with fail;rw[HW.out];go_upto_region 6 with fail;generalize W2.setCell ⟨n,3,aB⟩ (O X (a+1))=W5 at h5 az bm ba bn cg bo co⊢;clear ax;go_upto_region 7 with(go_fit bo;rintro e w6 ⟨db,rfl,bp,ap⟩);obtain⟨so,sc,rfl⟩:=bp.shape;have ak:=az.below ap;have ch:=bm.below ap;have af:=(ap.block _ (aF ba)).trans ba;have bq:=((But.of_below aj).trans h5).trans (But.of_below (a:=n) ap);have dc:=ap.size;have dd:=aF af;clear bo az bm ba bn cg v9 v3 f3 an bk bT bl;rcases ay with rfl|ay
  ·rw[if_neg (by simp)]at HE HQ;obtain⟨bt,bb,aq⟩:=A0v ch ak ok.cat #[J aB 0 0,J aB 0 0,J aB 0 0,O X 0];have bu:=A27 bp aq;have ar:=(aq.block _ (aF af)).trans af;have bc:=(aq.block _ (aF ak.blk)).trans ak.blk;have bZ:=Ab w6 (aG #[J aB 0 0,J aB 0 0,J aB 0 0,O X 0] 67);have b6:=ak.blk;have hM:w6.heap.size<((w6.alloc (aG #[J aB 0 0,J aB 0 0,J aB 0 0,O X 0] 67)).setRow w6.heap.size #[J ac d.c.tables.length tc,J io d.c.indexes.length ic,J po T.length pc,O X (a+1)]).heap.size:=bb.lt;go_upto_region 10 with(first
    |(refine aS rfl 67 _ rfl n ?_ 67 _ (0,0) _ b6 dF ?_ ?_ ?_;exact rfl;exact rfl;exact Wv)
    |(refine aE rfl 67 _ _ rfl w6.heap.size #[J ac d.c.tables.length tc,J io d.c.indexes.length ic,J po T.length pc,O X (a+1)] ?_ ?_ 67 #[J aB 0 0,J aB 0 0,J aB 0 0,O X 0] ?_ ?_ ?_ ?_ ?_;exact rfl;exact rfl;exact bZ;exact Wv;exact rfl;exact Arg _ _ _ _ _ _ _ _ _ _))
   clear bZ b6;generalize(w6.alloc (aG #[J aB 0 0,J aB 0 0,J aB 0 0,O X 0] 67)).setRow w6.heap.size #[J ac d.c.tables.length tc,J io d.c.indexes.length ic,J po T.length pc,O X (a+1)]=W9 at bt bb aq bu ar bc hM⊢;have bd:=At7 bt (cK) q ⟨T,ac,tc,io,ic,po,pc,bb,ae,hq⟩ ok ss so sc bu ce.out cf.out;have av:=Anm ss d 0 M6 rfl;have cp:=bq.trans (But.of_below (a:=n) aq);generalize Sy d ss q=q2 at bd HQ;generalize F9 d ss 0 M6=p at bd HE HQ av;obtain⟨⟨C,N2,aa⟩,d2⟩:=p;simp only at HE HQ av;have cq:w6.heap.size≠n:=by omega
   go_upto_region 11 with(first
    |(go_fit bd;rintro e ad ⟨⟨rv,rfl,bv⟩,cr⟩;obtain⟨vo,vc,rfl⟩:=bv.shape;have bw:=Ab ad (aG #[O X 0,O X 0,J aB 0 0] 32))
    |(refine aE rfl 32 _ _ rfl ad.heap.size #[O X C,O X N2,J vo aa.length vc] ?_ ?_ 32 #[O X 0,O X 0,J aB 0 0] ?_ ?_ ?_ ?_ ?_;exact rfl;exact rfl;exact bw;exact Ar;exact rfl;exact C3 _ _ _ _ _))
   obtain⟨⟨T2,be,bf,bg,bh,bi,bj,cj,cs,ct⟩,cu,ag⟩:=cr;have al:Below ad.heap.size ad ((ad.alloc (aG #[O X 0,O X 0,J aB 0 0] 32)).setRow ad.heap.size #[O X C,O X N2,J vo aa.length vc]):=Below.row (Aq ad _) (aM _) _;have bQ:=Ao (cells:=#[O X C,O X N2,J vo aa.length vc]) bw;have bx:=cj.below al;have bz:=(ag.block _ (aF ar) (by omega)).trans ar;have ca:=(ag.block _ (aF bc) (Ne.symm cq)).trans bc;have ab:=(al.block _ (aF bz)).trans bz;have cb:=(al.block _ (aF ca)).trans ca;have ah:=(cp.newB ag (by omega)).trans (But.of_below (a:=n) al);have ai:=bv.below al;have ck:Below w6.heap.size w6 ((ad.alloc (aG #[O X 0,O X 0,J aB 0 0] 32)).setRow ad.heap.size #[O X C,O X N2,J vo aa.length vc]):=(aq.trans (ag.below (aM _) (cN hM))).trans (al.mono (aO (cN hM) ag.size));have cv:w.heap.size+1<ad.heap.size:=by have:=ag.size;have:=aF ar;omega
   have c0:=Aa bQ (j:=0) rfl;have am:w.heap.size+1<W9.heap.size:=aF ar;have cx:=ag.size;clear bd bw cj bz ca al bv ag bt bb bu ar bc ch af ap bp;generalize(ad.alloc (aG #[O X 0,O X 0,J aB 0 0] 32)).setRow ad.heap.size #[O X C,O X N2,J vo aa.length vc]=Y at bQ bx ab cb ah ai ck c0⊢;generalize ad.heap.size=g at bQ cv c0 cx⊢;rcases av with rfl|av
   ·rw[if_pos rfl]at HE HQ;have cc:=Bz (g:=n) ab (show w.heap.size+1≠n by omega) #[J be d2.c.tables.length bf,J bg d2.c.indexes.length bh,J bi T2.length bj,O X (a+1)];go_wp2_with(first
     |(refine aS rfl 67 _ rfl w6.heap.size ?_ 67 _ (0,0) _ bx.blk dF ?_ ?_ ?_;exact rfl;exact rfl;exact Wv)
     |(refine aE rfl 67 _ _ rfl n #[J be d2.c.tables.length bf,J bg d2.c.indexes.length bh,J bi T2.length bj,O X (a+1)] ?_ ?_ 67 #[J ac d.c.tables.length tc,J io d.c.indexes.length ic,J po T.length pc,O X (a+1)] ?_ ?_ ?_ ?_ ?_;exact rfl;exact rfl;exact cb;exact Wv;exact rfl;exact Arg _ _ _ _ _ _ _ _ _ _)
     |(refine aS rfl 32 _ rfl g ?_ 32 _ (0,0) _ (Bz (g:=n) bQ (show g≠n by omega) #[J be d2.c.tables.length bf,J bg d2.c.indexes.length bh,J bi T2.length bj,O X (a+1)]) aC ?_ ?_ ?_;exact rfl;exact rfl;exact Ar)
     |(refine aE rfl 32 _ _ rfl (w.heap.size+1) #[O X 0,O X N2,J vo aa.length vc] ?_ ?_ 32 #[O X 0,O X 0,J aB 0 0] ?_ ?_ ?_ ?_ ?_;exact rfl;exact rfl;exact cc;exact Ar;exact rfl;exact C3 _ _ _ _ _))
    refine aN (v:=bI #[O X 0,O X N2,J vo aa.length vc]) (aH aW _ _ (w.heap.size+1) 32 #[O X 0,O X N2,J vo aa.length vc] _ _ rfl (Ao cc) aC rfl Ar) rfl ?_;rw[HE.out,HQ.out];refine⟨⟨_,rfl,((ai.row (show n<W9.heap.size by omega) _).row am _).base (by omega)⟩,⟨T2,be,bf,bg,bh,bi,bj,(A0w bx hn cb).row (Cn cc) (show n≠w.heap.size+1 by omega) _,cs,ct⟩,cu,(ah.same _).rowB (by omega) _⟩
   ·have cd:Hid (C≠0):=by show _≠_;omega
    rw[if_neg cd.out]at HE HQ;have au:=ak.below ck;rcases av with rfl|rfl|rfl|rfl|rfl|rfl
    ·go_wp2_with(first
      |(refine aS rfl 32 _ rfl g ?_ 32 _ (0,0) _ bQ aC ?_ ?_ ?_;exact rfl;exact rfl;exact Ar)
      |(refine aE rfl 32 _ _ rfl (w.heap.size+1) #[O X 1,O X N2,J vo aa.length vc] ?_ ?_ 32 #[O X 0,O X 0,J aB 0 0] ?_ ?_ ?_ ?_ ?_;exact rfl;exact rfl;exact ab;exact Ar;exact rfl;exact C3 _ _ _ _ _))
     refine aN (v:=bI #[O X 1,O X N2,J vo aa.length vc]) (aH aW _ _ (w.heap.size+1) 32 #[O X 1,O X N2,J vo aa.length vc] _ _ rfl (Ao ab) aC rfl Ar) rfl ?_;rw[HE.out,HQ.out];exact⟨⟨_,rfl,(ai.row am _).base (by omega)⟩,⟨T,ac,tc,io,ic,po,pc,au.row (Cn ab) (show n≠w.heap.size+1 by omega) _,ae,hq⟩,ok,ah.rowB (by omega) _⟩
    ·go_wp2_with(first
      |(refine aS rfl 32 _ rfl g ?_ 32 _ (0,0) _ bQ aC ?_ ?_ ?_;exact rfl;exact rfl;exact Ar)
      |(refine aE rfl 32 _ _ rfl (w.heap.size+1) #[O X 3,O X N2,J vo aa.length vc] ?_ ?_ 32 #[O X 0,O X 0,J aB 0 0] ?_ ?_ ?_ ?_ ?_;exact rfl;exact rfl;exact ab;exact Ar;exact rfl;exact C3 _ _ _ _ _))
     refine aN (v:=bI #[O X 3,O X N2,J vo aa.length vc]) (aH aW _ _ (w.heap.size+1) 32 #[O X 3,O X N2,J vo aa.length vc] _ _ rfl (Ao ab) aC rfl Ar) rfl ?_;rw[HE.out,HQ.out];exact⟨⟨_,rfl,(ai.row am _).base (by omega)⟩,⟨T,ac,tc,io,ic,po,pc,au.row (Cn ab) (show n≠w.heap.size+1 by omega) _,ae,hq⟩,ok,ah.rowB (by omega) _⟩
    ·go_wp2_with(first
      |(refine aS rfl 32 _ rfl g ?_ 32 _ (0,0) _ bQ aC ?_ ?_ ?_;exact rfl;exact rfl;exact Ar)
      |(refine aE rfl 32 _ _ rfl (w.heap.size+1) #[O X 4,O X N2,J vo aa.length vc] ?_ ?_ 32 #[O X 0,O X 0,J aB 0 0] ?_ ?_ ?_ ?_ ?_;exact rfl;exact rfl;exact ab;exact Ar;exact rfl;exact C3 _ _ _ _ _))
     refine aN (v:=bI #[O X 4,O X N2,J vo aa.length vc]) (aH aW _ _ (w.heap.size+1) 32 #[O X 4,O X N2,J vo aa.length vc] _ _ rfl (Ao ab) aC rfl Ar) rfl ?_;rw[HE.out,HQ.out];exact⟨⟨_,rfl,(ai.row am _).base (by omega)⟩,⟨T,ac,tc,io,ic,po,pc,au.row (Cn ab) (show n≠w.heap.size+1 by omega) _,ae,hq⟩,ok,ah.rowB (by omega) _⟩
    ·go_wp2_with(first
      |(refine aS rfl 32 _ rfl g ?_ 32 _ (0,0) _ bQ aC ?_ ?_ ?_;exact rfl;exact rfl;exact Ar)
      |(refine aE rfl 32 _ _ rfl (w.heap.size+1) #[O X 5,O X N2,J vo aa.length vc] ?_ ?_ 32 #[O X 0,O X 0,J aB 0 0] ?_ ?_ ?_ ?_ ?_;exact rfl;exact rfl;exact ab;exact Ar;exact rfl;exact C3 _ _ _ _ _))
     refine aN (v:=bI #[O X 5,O X N2,J vo aa.length vc]) (aH aW _ _ (w.heap.size+1) 32 #[O X 5,O X N2,J vo aa.length vc] _ _ rfl (Ao ab) aC rfl Ar) rfl ?_;rw[HE.out,HQ.out];exact⟨⟨_,rfl,(ai.row am _).base (by omega)⟩,⟨T,ac,tc,io,ic,po,pc,au.row (Cn ab) (show n≠w.heap.size+1 by omega) _,ae,hq⟩,ok,ah.rowB (by omega) _⟩
    ·go_wp2_with(first
      |(refine aS rfl 32 _ rfl g ?_ 32 _ (0,0) _ bQ aC ?_ ?_ ?_;exact rfl;exact rfl;exact Ar)
      |(refine aE rfl 32 _ _ rfl (w.heap.size+1) #[O X 7,O X N2,J vo aa.length vc] ?_ ?_ 32 #[O X 0,O X 0,J aB 0 0] ?_ ?_ ?_ ?_ ?_;exact rfl;exact rfl;exact ab;exact Ar;exact rfl;exact C3 _ _ _ _ _))
     refine aN (v:=bI #[O X 7,O X N2,J vo aa.length vc]) (aH aW _ _ (w.heap.size+1) 32 #[O X 7,O X N2,J vo aa.length vc] _ _ rfl (Ao ab) aC rfl Ar) rfl ?_;rw[HE.out,HQ.out];exact⟨⟨_,rfl,(ai.row am _).base (by omega)⟩,⟨T,ac,tc,io,ic,po,pc,au.row (Cn ab) (show n≠w.heap.size+1 by omega) _,ae,hq⟩,ok,ah.rowB (by omega) _⟩
    ·go_wp2_with(first
      |(refine aS rfl 32 _ rfl g ?_ 32 _ (0,0) _ bQ aC ?_ ?_ ?_;exact rfl;exact rfl;exact Ar)
      |(refine aE rfl 32 _ _ rfl (w.heap.size+1) #[O X 8,O X N2,J vo aa.length vc] ?_ ?_ 32 #[O X 0,O X 0,J aB 0 0] ?_ ?_ ?_ ?_ ?_;exact rfl;exact rfl;exact ab;exact Ar;exact rfl;exact C3 _ _ _ _ _))
     refine aN (v:=bI #[O X 8,O X N2,J vo aa.length vc]) (aH aW _ _ (w.heap.size+1) 32 #[O X 8,O X N2,J vo aa.length vc] _ _ rfl (Ao ab) aC rfl Ar) rfl ?_;rw[HE.out,HQ.out];exact⟨⟨_,rfl,(ai.row am _).base (by omega)⟩,⟨T,ac,tc,io,ic,po,pc,au.row (Cn ab) (show n≠w.heap.size+1 by omega) _,ae,hq⟩,ok,ah.rowB (by omega) _⟩
  ·have cd:Hid (e2≠0):=by show _≠_;omega
   rw[if_pos cd.out]at HE HQ;rcases ay with rfl|rfl
   ·go_wp2_with(refine aE rfl 32 _ _ rfl (w.heap.size+1) #[O X 1,O X 0,J aB 0 0] ?_ ?_ 32 #[O X 0,O X 0,J aB 0 0] ?_ ?_ ?_ ?_ ?_;exact rfl;exact rfl;exact af;exact Ar;exact rfl;exact C3 _ _ _ _ _);refine aN (v:=bI #[O X 1,O X 0,J aB 0 0]) (aH aW _ _ (w.heap.size+1) 32 #[O X 1,O X 0,J aB 0 0] _ _ rfl (Ao af) aC rfl Ar) rfl ?_;rw[HE.out,HQ.out];exact⟨⟨_,rfl,B8 _ _⟩,⟨T,ac,tc,io,ic,po,pc,ak.row (Cn af) (show n≠w.heap.size+1 by omega) _,ae,hq⟩,ok,bq.rowB (by omega) _⟩
   ·go_wp2_with(refine aE rfl 32 _ _ rfl (w.heap.size+1) #[O X 2,O X 0,J aB 0 0] ?_ ?_ 32 #[O X 0,O X 0,J aB 0 0] ?_ ?_ ?_ ?_ ?_;exact rfl;exact rfl;exact af;exact Ar;exact rfl;exact C3 _ _ _ _ _);refine aN (v:=bI #[O X 2,O X 0,J aB 0 0]) (aH aW _ _ (w.heap.size+1) 32 #[O X 2,O X 0,J aB 0 0] _ _ rfl (Ao af) aC rfl Ar) rfl ?_;rw[HE.out,HQ.out];exact⟨⟨_,rfl,B8 _ _⟩,⟨T,ac,tc,io,ic,po,pc,ak.row (Cn af) (show n≠w.heap.size+1 by omega) _,ae,hq⟩,ok,bq.rowB (by omega) _⟩
theorem A0x:(Tryz.prog.info? 84).map (fun i=>(i.zero,i.size,i.bytes))=aD (aD (bI #[aA ⟨#[]⟩,O X 0,bO cL]),3,32):=by kernel_rfl
theorem Ann (cs)(n)(sv)(F)(w)(h:Bq F 3 w sv n cs)(h1:∀u∈cs,u.oneCell'=aY)(hn:n*32≤140737488355328):
  bJ aJ 28 #[sv] w fun e w'=>∃v,e=aR v∧w'.ownsRow w.heap.size 84 3 v n cs∧Below w.heap.size w w':=by
 obtain⟨i0,aa,ac,ae,af⟩:=cT A0x;have ap:∀(w) (a) (n c n' c'),(binOp _ 40 (J a n c) _).run _ w=.ok _ w:=fun w a n c n' c'=>cC w _ _ a n c n' c' dI
 have ag:=h.1;have fin:∀ao c,sv=J ao n c→(ao=aB→n=0)→(∀ad,ao=aD ad→∀j u,cs[j]?=aD u→w.cell? (ad.add j)=aD u∧ad.block<w.heap.size)→(ao=aB→c=0)→
   bJ aJ 28 #[sv] w fun e w'=>∃v,e=aR v∧w'.ownsRow w.heap.size 84 3 v n cs∧Below w.heap.size w w':=by
  intro ao c he h0 hc ah;subst he;cases ao with
  |none=>
   obtain rfl:=h0 rfl;obtain rfl:=ah rfl;have:=aQ (by omega);subst this;go_enter Tryz.func28,Tryz.ntmps28;go_wp2;go_ret;exact⟨_,rfl,bL _ _ _ _,aT _ _⟩
  |some ad=>
   have ai:(w.alloc _).ownsRow _ 84 3 _ 0 []:=cH w #[] 0 (aM _) (aP _) (by simp);have HC:Hid (∀j u,cs[j]?=aD u→(w.alloc (aG #[] 84)).cell? (ad.add j)=aD u):=fun j u hj=>by
    obtain⟨aj,aq⟩:=hc ad rfl j u hj;obtain⟨ab,ao,ak⟩:=ad;exact((Aq w _).cell (by unfold cV;grind)).trans aj
   have HB:Hid _:=hn;clear hn hc;obtain⟨ab,ao,ak⟩:=ad;go_enter Tryz.func28,Tryz.ntmps28;go_wp2_with(at_builtin;refine aZ _ rfl _ _ 40 rfl _ 84 i0 _ 3 32 dI aa ac ae af rfl (by simp) _ _ _ rfl ai _ n c cs rfl ag HC.out h1 (by have:=HB.out;simp only[bU];omega) (by have:=HB.out;omega) (by simp) ?_);intro v' w1 al am _ _;go_wp2;go_ret;exact⟨v',rfl,al,((aT _ w).alloc (aM _) _).grown am (by simp) (by intro k hk;simp[bE]at hk;omega)⟩
 rcases h.2 with⟨h0,ao,c,he,hnil⟩|⟨h0,b,off,cap,he,_,hb,_,_,hc⟩
 ·subst h0;have an:=aQ (by omega);subst an;exact fin ao c he (fun _=>rfl) (fun ad _ j u hj=>by grind) hnil
 ·exact fin _ cap he (fun h=>by grind) (fun ad h j u hj=>by cases h;rw[cM];grind) (fun h=>by grind)
theorem A0y:(Tryz.prog.info? 91).map (fun i=>(i.zero,i.size,i.bytes))=aD (aD (bI #[J aB 0 0,J aB 0 0]),2,48):=by kernel_rfl
theorem Ano (cs)(n)(sv)(F)(w)(h:Bq F 2 w sv n cs)(h1:∀u∈cs,u.oneCell'=aY)(hn:n*48≤140737488355328):
  bJ aJ 30 #[sv] w fun e w'=>∃v,e=aR v∧w'.ownsRow w.heap.size 91 2 v n cs∧Below w.heap.size w w':=by
 obtain⟨i0,aa,ac,ae,af⟩:=cT A0y;have ap:∀(w) (a) (n c n' c'),(binOp _ 63 (J a n c) _).run _ w=.ok _ w:=fun w a n c n' c'=>cC w _ _ a n c n' c' dG
 have ag:=h.1;have fin:∀ao c,sv=J ao n c→(ao=aB→n=0)→(∀ad,ao=aD ad→∀j u,cs[j]?=aD u→w.cell? (ad.add j)=aD u∧ad.block<w.heap.size)→(ao=aB→c=0)→
   bJ aJ 30 #[sv] w fun e w'=>∃v,e=aR v∧w'.ownsRow w.heap.size 91 2 v n cs∧Below w.heap.size w w':=by
  intro ao c he h0 hc ah;subst he;cases ao with
  |none=>
   obtain rfl:=h0 rfl;obtain rfl:=ah rfl;have:=aQ (by omega);subst this;go_enter Tryz.func30,Tryz.ntmps30;go_wp2;go_ret;exact⟨_,rfl,bL _ _ _ _,aT _ _⟩
  |some ad=>
   have ai:(w.alloc _).ownsRow _ 91 2 _ 0 []:=cH w #[] 0 (aM _) (aP _) (by simp);have HC:Hid (∀j u,cs[j]?=aD u→(w.alloc (aG #[] 91)).cell? (ad.add j)=aD u):=fun j u hj=>by
    obtain⟨aj,aq⟩:=hc ad rfl j u hj;obtain⟨ab,ao,ak⟩:=ad;exact((Aq w _).cell (by unfold cV;grind)).trans aj
   have HB:Hid _:=hn;clear hn hc;obtain⟨ab,ao,ak⟩:=ad;go_enter Tryz.func30,Tryz.ntmps30;go_wp2_with(at_builtin;refine aZ _ rfl _ _ 63 rfl _ 91 i0 _ 2 48 dG aa ac ae af rfl (by simp) _ _ _ rfl ai _ n c cs rfl ag HC.out h1 (by have:=HB.out;simp only[bU];omega) (by have:=HB.out;omega) (by simp) ?_);intro v' w1 al am _ _;go_wp2;go_ret;exact⟨v',rfl,al,((aT _ w).alloc (aM _) _).grown am (by simp) (by intro k hk;simp[bE]at hk;omega)⟩
 rcases h.2 with⟨h0,ao,c,he,hnil⟩|⟨h0,b,off,cap,he,_,hb,_,_,hc⟩
 ·subst h0;have an:=aQ (by omega);subst an;exact fin ao c he (fun _=>rfl) (fun ad _ j u hj=>by grind) hnil
 ·exact fin _ cap he (fun h=>by grind) (fun ad h j u hj=>by cases h;rw[cM];grind) (fun h=>by grind)
theorem A0z:(Tryz.prog.info? 9).map (fun i=>(i.zero,i.size,i.bytes))=aD (aD (aA ⟨#[]⟩),1,16):=by kernel_rfl
theorem Zn (cs)(n)(sv)(F)(w)(h:Bq F 1 w sv n cs)(h1:∀u∈cs,u.oneCell'=aY)(hn:n*16≤140737488355328):
  bJ aJ 31 #[sv] w fun e w'=>∃v,e=aR v∧w'.ownsRow w.heap.size 9 1 v n cs∧Below w.heap.size w w':=by
 obtain⟨i0,aa,ac,ae,af⟩:=cT A0z;have ap:∀(w) (a) (n c n' c'),(binOp _ 43 (J a n c) _).run _ w=.ok _ w:=fun w a n c n' c'=>cC w _ _ a n c n' c' bV
 have ag:=h.1;have fin:∀ao c,sv=J ao n c→(ao=aB→n=0)→(∀ad,ao=aD ad→∀j u,cs[j]?=aD u→w.cell? (ad.add j)=aD u∧ad.block<w.heap.size)→(ao=aB→c=0)→
   bJ aJ 31 #[sv] w fun e w'=>∃v,e=aR v∧w'.ownsRow w.heap.size 9 1 v n cs∧Below w.heap.size w w':=by
  intro ao c he h0 hc ah;subst he;cases ao with
  |none=>
   obtain rfl:=h0 rfl;obtain rfl:=ah rfl;have:=aQ (by omega);subst this;go_enter Tryz.func31,Tryz.ntmps31;go_wp2;go_ret;exact⟨_,rfl,bL _ _ _ _,aT _ _⟩
  |some ad=>
   have ai:(w.alloc _).ownsRow _ 9 1 _ 0 []:=cH w #[] 0 (aM _) (aP _) (by simp);have HC:Hid (∀j u,cs[j]?=aD u→(w.alloc (aG #[] 9)).cell? (ad.add j)=aD u):=fun j u hj=>by
    obtain⟨aj,aq⟩:=hc ad rfl j u hj;obtain⟨ab,ao,ak⟩:=ad;exact((Aq w _).cell (by unfold cV;grind)).trans aj
   have HB:Hid _:=hn;clear hn hc;obtain⟨ab,ao,ak⟩:=ad;go_enter Tryz.func31,Tryz.ntmps31;go_wp2_with(at_builtin;refine aZ _ rfl _ _ 43 rfl _ 9 i0 _ 1 16 bV aa ac ae af rfl (by simp) _ _ _ rfl ai _ n c cs rfl ag HC.out h1 (by have:=HB.out;simp only[bU];omega) (by have:=HB.out;omega) (by simp) ?_);intro v' w1 al am _ _;go_wp2;go_ret;exact⟨v',rfl,al,((aT _ w).alloc (aM _) _).grown am (by simp) (by intro k hk;simp[bE]at hk;omega)⟩
 rcases h.2 with⟨h0,ao,c,he,hnil⟩|⟨h0,b,off,cap,he,_,hb,_,_,hc⟩
 ·subst h0;have an:=aQ (by omega);subst an;exact fin ao c he (fun _=>rfl) (fun ad _ j u hj=>by grind) hnil
 ·exact fin _ cap he (fun h=>by grind) (fun ad h j u hj=>by cases h;rw[cM];grind) (fun h=>by grind)
theorem Ww {α}{K}{F}{w}(hK:∀a c,K.R F w a c→∀u∈c,u.oneCell'=aY):∀{l:List α}{cs:List aU},All K F w l cs→∀u∈cs,u.oneCell'=aY
 |[],cs,h,u,hu=>by obtain rfl:=h;grind
 |a::l,cs,h,u,hu=>by
  obtain⟨c,rest,rfl,h2,h3⟩:=h;rcases dO.1 hu with hu|hu
  ·grind
  ·exact Ww hK h3 u hu
theorem A00 {F}{w}(a)(c)(h:Cp.R F w a c):∀u∈c,u.oneCell'=aY:=by
 obtain rfl:=h;simp[bM]
theorem A01 {F}{w}(a)(c)(h:Eb.R F w a c):∀u∈c,u.oneCell'=aY:=by
 obtain rfl:=h;simp[bM]
theorem A02 {F}{w}(a)(c)(h:Ck.R F w a c):∀u∈c,u.oneCell'=aY:=by
 obtain⟨sv,rfl,h2⟩:=h;obtain⟨ao,cp,rfl⟩:=h2.shape;simp[bM]
theorem Acq {α}{K}{F G}{w w'}:∀{l:List α}{cs:List aU},(∀a∈l,∀c,K.R F w a c→K.R G w' a c)→All K F w l cs→All K G w' l cs
 |[],_,_,h=>h
 |a::l,cs,hf,h=>by
  obtain⟨c,rest,h1,h2,h3⟩:=h;exact⟨c,rest,h1,hf a (by simp) c h2,Acq (fun b hb=>hf b (by grind)) h3⟩
theorem A28 (a b)(n m n' m'):(#[J a n n',J b m m']:Array aU).all (·.oneCell')=aY:=by simp[bM]
theorem Anp:(Tryz.prog.info? 62).map (·.size)=aD 2:=by kernel_rfl
theorem Zo {w:bD}{B g n cap size}{t}{cs}(h:w.ownsRow B t size (J (aD ⟨g,0,aB⟩) n cap) n cs)(j)(v):(w.setCell ⟨g,j,aB⟩ v).ownsRow B t size (J (aD ⟨g,0,aB⟩) n cap) n (cs.set j v):=by
 obtain⟨h1,h2⟩:=h;refine⟨by grind,?_⟩;rcases h2 with⟨h2,_⟩|⟨g',cap',cur,he,hg,hh,hn,hm,hs,ht⟩
 ·grind
 ·cases he;refine .inr ⟨g,cap,_,rfl,hg,Dj hh j v,hn,hm,by grind,?_⟩;rw[←ht,Array.toList_setIfInBounds,List.take_set]
def U7 (B:Nat)(z:aU)(L:List TabD)(k:Nat)(w:bD):Prop:=∃cs1 cs2,w.ownsRow B 82 2 z L.length (cs1++cs2)∧All Ck (FO B z) w (L.take k) cs1∧All Ck (fun j=>aD j≠z.ownBlock) w (L.drop k) cs2
theorem U7.below {B}{z}{L}{k}{w w'}(h:U7 B z L k w)(hb:Below w.heap.size w w'):U7 B z L k w':=by
 obtain⟨aa,ab,h1,h2,h3⟩:=h;exact⟨aa,ab,Ak h1 hb,h2.keep (Ai hb),h3.keep (Ai hb)⟩
theorem Arh {α}{K}{F}{w}:∀{l:List α}{cs:List aU},All K F w l cs→cs.length=l.length*K.size
 |[],cs,h=>by obtain rfl:=h;simp
 |a::l,cs,h=>by
  obtain⟨c,rest,rfl,h2,h3⟩:=h;rw[aL,K.len h2,Arh h3,aK,Nat.succ_mul,Nat.add_comm]
theorem U7.get {B}{z}{L}{k}{w}(h:U7 B z L k w){t}(ht:L[k]?=aD t):∃g cap sv,z=J (aD ⟨g,0,aB⟩) L.length cap∧B≤g∧g<w.heap.size∧(∃ab,w.heap[g]?=aD (aG ab 82)∧k*2+1<ab.size)∧w.cell? ⟨g,k*2,aB⟩=aD (aA t.name)∧w.cell? ⟨g,k*2+1,aB⟩=aD sv∧IsL Cp (fun j=>aD j≠z.ownBlock) w sv t.cols∧
  ∀(w':bD) (v:aU),Below w.heap.size w w'→IsL Cp (FO B z) w' v t.cols→U7 B z L (k+1) (w'.setCell ⟨g,k*2+1,aB⟩ v):=by
 obtain⟨aa,ag,h1,h2,h3⟩:=h;have hk:=(aV.1 ht).1;have ac:aa.length=k*2:=by rw[Arh h2,cQ,Nat.min_eq_left (cN hk)];rfl
 rw[Sq ht]at h3;obtain⟨c,rest,rfl,⟨sv,rfl,h4⟩,h5⟩:=h3;rcases h1.2 with⟨_,h0⟩|⟨g,cap,ab,rfl,hg,hh,hn,hm,hs,htk⟩
 ·omega
 have ae:∀j u,(aa++([aA t.name,sv]++rest))[j]?=aD u→w.cell? ⟨g,j,aB⟩=aD u:=fun j u hj=>by
  refine Aa hh ?_;grind
 have e0:(aa++([aA t.name,sv]++rest))[k*2]?=aD (aA t.name):=by rw[bH (by omega),ac,cZ];rfl
 have e1:(aa++([aA t.name,sv]++rest))[k*2+1]?=aD sv:=by rw[bH (by omega),ac,show k*2+1-k*2=1 by omega];rfl
 refine⟨g,cap,sv,rfl,hg,aF hh,⟨ab,hh,by omega⟩,ae _ _ e0,ae _ _ e1,h4,fun w' v hb hv=>?_⟩;have af:(aa++([Value.string t.name,sv]++rest)).set (k*2+1) v=(aa++[aA t.name,v])++rest:=by
  rw[cB _ _ (by omega),ac,show k*2+1-k*2=1 by omega];simp
 have ad:∀{F},(∀j,F j→aD j≠(Value.slice (aD ⟨g,0,aB⟩) L.length cap).ownBlock)→Keeps F w' (w'.setCell ⟨g,k*2+1,aB⟩ v):=fun hF=>(Keeps.refl _ _).set (fun h=>hF _ h (by rfl)) _ _
 refine⟨aa++[aA t.name,v],rest,?_,?_,?_⟩
 ·have:=Zo (Ak h1 hb) (k*2+1) v;rw[af]at this;exact this
 ·rw[bW,ht];exact All.append ((h2.keep (Ai hb)).keep (ad fun j h=>h.2)) ⟨_,[],rfl,⟨v,rfl,hv.keep (ad fun j h=>h.2)⟩,rfl⟩
 ·exact(h5.keep (Ai hb)).keep (ad fun j h=>h)
theorem Ari (w):bJ aJ 7 #[] w fun e w'=>e=aR (bK (aD ⟨w.heap.size,0,aB⟩))∧w'=w.alloc (aG #[J aB 0 0,J aB 0 0,J aB 0 0,O X 0] 67):=by
 go_enter Tryz.func7,Tryz.ntmps7;go_wp2;go_ret;simp
theorem Arj {E}{w}(hE:Br E w):Br (w.heap.size::E) (w.alloc (aG #[J aB 0 0,J aB 0 0,J aB 0 0,O X 0] 67))∧Dt (w.heap.size::E) (w.alloc (aG #[J aB 0 0,J aB 0 0,J aB 0 0,O X 0] 67)) w.heap.size Ge 0 aY:=by
 have hk:∀k,k<w.heap.size→k∉E→k∉w.heap.size::E:=fun k h1 h2 h3=>by grind
 have new:EngC (w.heap.size::E) _ _ Ge.c [] 0 _ _ _:=⟨Ab w _,IsL.nil _ _ _,IsL.nil _ _ _,Kf.nil _ _,by simp,by simp[Ch]⟩;refine⟨fun m hm=>?_,[],aB,0,aB,0,aB,0,new,Awa,fun _=>aP _⟩;rcases cI.1 hm with rfl|hm
 ·exact⟨_,_,_,_,_,_,new,Aml.cat⟩
 ·obtain⟨c',T',a',aa,ab,ac,h1,h2⟩:=hE m hm;exact⟨c',T',a',aa,ab,ac,(h1.mono hk).below (Aq w (aG #[J aB 0 0,J aB 0 0,J aB 0 0,O X 0] 67)),h2⟩
theorem Abl {E}{n:Nat}{c:CatD}{T:List Pg}{a:Int}{bl io po:Option Addr}{tc ic pc:Nat}{w:bD}(he:EngC E w n c T a (J bl c.tables.length tc) (J io c.indexes.length ic) (J po T.length pc))(ag:Dv c=aY):
  bJ aJ 19 #[bK (aD ⟨n,0,aB⟩)] w fun e w'=>∃tv iv,e=aR (bI #[tv,iv])∧IsL Ck (Fr w.heap.size) w' tv c.tables∧IsL Eb (Fr w.heap.size) w' iv c.indexes∧Below w.heap.size w w':=by
 have h3:c.tables.length≤3:=((Cw c).1 ag).1;have h4:c.indexes.length≤4:=((Cw c).1 ag).2.1;have bm:Hid (∀t∈c.tables,t.cols.length≤4):=fun t ht=>(Hf ag ht).2
 obtain⟨ac,bR,bn⟩:=al1 w (aG #[J aB 0 0,J aB 0 0] 62);have ab:=he.below ac;have ck:n<w.heap.size:=he.lt;generalize hW:w.alloc (aG #[J aB 0 0,J aB 0 0] 62)=W1 at ac bR ab bn;have HW:Hid _:=hW;have v0:=Aa ab.blk (j:=0) rfl;have v1:=Aa ab.blk (j:=1) rfl;obtain⟨ai,ar,aj⟩:=ab.tabs;obtain⟨ak,ah,ad⟩:=ab.idxs;have au:=Sd ai c.tables.length _ _ W1 ar (Ww A02 aj) (by omega);have av:Hid _:=aj;have bo:Hid _:=ab.idxs;clear hW he aj ar ah ad ab ag;go_enter Tryz.func19,Tryz.ntmps19;go_upto_region 1 with fail;rw[HW.out];go_upto_region 4 with(go_fit au;rintro e w2 ⟨z,rfl,ae,aw⟩);obtain⟨zo,zc,rfl⟩:=Ex.shape (Ex.of_own ae);have ax:U7 W1.heap.size (J zo c.tables.length zc) c.tables 0 w2:=by
  refine⟨[],ai,ae,rfl,?_⟩;have h5:All Ck (fun k=>k<W1.heap.size) W1 c.tables ai:=All.mono (fun k hk _=>hk) av.out;refine(h5.keep (Ae aw)).mono fun k _ hk e=>?_
  have:=(ae.lt k e.symm).1;omega
 have bp:Hid _:=ax;have ay:=ae.lt;have cl:Hid _:=ay;clear ax ae au av ay;go_wp2_with fail
 go_loopw[17] (fun i wr=>∃k:Nat,k≤c.tables.length∧i=O X k∧Hid (U7 W1.heap.size (J zo c.tables.length zc) c.tables k wr)∧Below W1.heap.size W1 wr) (fun i _=>c.tables.length-(bS i).toNat)
 case atStart=>exact⟨0,aP _,rfl,bp,aw⟩
 case round=>
  obtain⟨k,hk,rfl,az,aa⟩:=hrel
  by_cases bq:k<c.tables.length
  ·obtain⟨t,hx⟩:∃x,c.tables[k]?=aD x:=⟨_,aI bq⟩;obtain⟨g,cap,sv,hz,bt,al,⟨cm,bu,cn⟩,d0,d1,am,ba⟩:=az.out.get hx;cases hz;obtain⟨y1,z1,rfl⟩:=am.shape;obtain⟨af,bX,-⟩:=al1 wr (aG #[aA t.name,J y1 t.cols.length z1] 82);obtain⟨bb,bc,an⟩:=am.keep (Ai af);have bv:=Ann bb _ _ _ _ bc (Ww A00 an) (by have:=bm.out t (aX hx);omega);have bw:Hid _:=an;have bx:Hid _:=ba;have b1:=Aa bX (j:=1) rfl;have bz:=(af.block g al).trans bu;have co:=aa.size;have v5:(0:Int)≤k:=by omega
   have v6:k<(c.tables.length:Int):=by omega
   clear bc an am ba hx;go_wp2_with(go_fit bv;rintro e w3 ⟨v3,rfl,bd,ap⟩;obtain⟨vo,vc,rfl⟩:=Ex.shape (Ex.of_own bd);have y9:=((Ac af ap).cell al).trans d1;have z9:w3.frozen? ⟨g,k*2+1,aB⟩=cL:=(by simp[cF,(ap.block g (bC al af.size)).trans bz]));have be:=Ac af ap;have ca:IsL Cp (FO W1.heap.size (J (aD ⟨g,0,aB⟩) c.tables.length zc)) w3 (J vo t.cols.length vc) t.cols:=by
    refine⟨bb,Bq.of_own bd fun q hq=>⟨?_,fun e=>?_⟩,Acq (fun a _ c h=>(show c=_ from h)) bw.out⟩
    ·grind
    ·have h1:=by simpa[bE]using e
     grind
   have cb:=bx.out w3 _ be ca;go_roundw
   case rel=>exact⟨_,by omega,by rfl,cb,(aa.trans (be.mono aa.size)).setCell (show W1.heap.size≤g from bt) _⟩
   case measure=>simp[bS];omega
  ·have cc:k=c.tables.length:=by omega
   subst cc;have v5:¬(c.tables.length<(c.tables.length:Int)):=by omega
   have bf:IsL Ck (Fr W1.heap.size) wr (J zo c.tables.length zc) c.tables:=by
    obtain⟨cd,ce,h1,h2,h5⟩:=az.out;rw[cO]at h2;rw[cR]at h5;obtain rfl:ce=[]:=h5;rw[dQ]at h1;exact⟨cd,Bq.of_own h1 fun _ h=>h,h2.mono fun k _ h=>h.1⟩
   obtain⟨ak,ah,ad⟩:=IsL.keep bo.out (Ai aa);have cf:=Se ak _ _ _ wr ah (Ww A01 ad) (by omega);have u1:=(aa.cell (show n<W1.heap.size by omega)).trans v1;have bg:=(aa.block _ (aF bR)).trans bR;have cg:Hid _:=ad;have ch:Hid _:=bf;clear ah ad bf;go_wp2_with(first
    |(go_fit cf;rintro e w7 ⟨v7,rfl,bh,aq⟩;obtain⟨xo,xc,rfl⟩:=Ex.shape (Ex.of_own bh);have bi:=(aq.block _ (aF bg)).trans bg)
    |(refine aE rfl 62 _ _ rfl w.heap.size #[J zo c.tables.length zc,J xo c.indexes.length xc] ?_ ?_ 62 #[J aB 0 0,J aB 0 0] ?_ ?_ ?_ ?_ ?_;exact rfl;exact rfl;exact bi;exact Anp;exact rfl;exact A28 _ _ _ _ _ _))
   refine aN (v:=bI #[J zo c.tables.length zc,J xo c.indexes.length xc]) (aH Tryz.results19 _ _ w.heap.size 62 #[J zo c.tables.length zc,J xo c.indexes.length xc] _ _ rfl (Ao bi) Tryz.underlying62 rfl Anp) rfl ?_;have bj:Keeps (Fr W1.heap.size) w7 (w7.setRow w.heap.size #[J zo c.tables.length zc,J xo c.indexes.length xc]):=(Keeps.refl _ _).row (fun h=>by omega) _;have cj:IsL Eb (Fr _) w7 _ _:=⟨ak,Bq.of_own bh fun _ h=>aO aa.size h,Acq (fun a _ c h=>(show c=_ from h)) cg.out⟩;have bk:∀k,k<(w7.setRow w.heap.size #[J zo c.tables.length zc,J xo c.indexes.length xc]).heap.size→Fr _ k→Fr _ k:=fun k _ h=>aO ac.size h
   refine⟨_,_,rfl,((IsL.keep ch.out (Ai aq)).keep bj).mono bk,(cj.keep bj).mono bk,Below.row (ac.trans ((aa.trans (aq.mono aa.size)).mono ac.size)) (aM _) _⟩
theorem Aiy {w:bD}{g x o o'}(h:x≠g)(u v)(j):((w.setCell ⟨g,o,aB⟩ u).setCell ⟨g,o',aB⟩ v).cell? ⟨x,j,aB⟩=w.cell? ⟨x,j,aB⟩:=by
 simp[World.cell?,World.setCell,cY,Ne.symm h]
def Afc (B:Nat)(z:aU)(T:List Pg)(k:Nat)(w:bD):Prop:=∃rs1 rs2:List (aU×aU),w.ownsRow B 91 2 z T.length (A4 (rs1++rs2))∧Kt (FO B z) w rs1 (T.take k)∧Kt (fun j=>aD j≠z.ownBlock) w rs2 (T.drop k)
theorem Anq {F}{w}:∀{rs:List (aU×aU)}{T:List Pg},Kt F w rs T→rs.length=T.length
 |[],[],_=>rfl
 |[],_::_,h=>h.elim
 |_::_,[],h=>h.elim
 |_::_,_::_,h=>by rw[aK,aK,Anq h.2.2]
theorem Abm {F}{w}:∀{rs qs:List (aU×aU)}{T U:List Pg},Kt F w rs T→Kt F w qs U→Kt F w (rs++qs) (T++U)
 |[],_,[],_,_,h=>h
 |[],_,_::_,_,h,_=>h.elim
 |_::_,_,[],_,h,_=>h.elim
 |_::_,_,_::_,_,h,h2=>⟨h.1,h.2.1,Abm h.2.2 h2⟩
theorem Wz (a b):A4 (a++b)=A4 a++A4 b:=by simp[A4]
theorem Afc.get {B}{z}{T}{k}{w}(h:Afc B z T k w){p}(hp:T[k]?=aD p):∃g cap kv vv,z=J (aD ⟨g,0,aB⟩) T.length cap∧B≤g∧g<w.heap.size∧(∃ae,w.heap[g]?=aD (aG ae 91))∧w.cell? ⟨g,k*2,aB⟩=aD kv∧w.cell? ⟨g,k*2+1,aB⟩=aD vv∧Bq (fun j=>aD j≠z.ownBlock) 1 w kv p.K.length (p.K.map aA)∧Bq (fun j=>aD j≠z.ownBlock) 1 w vv p.V.length (p.V.map aA)∧
  ∀(w':bD) (u v:aU),Below w.heap.size w w'→Bq (FO B z) 1 w' u p.K.length (p.K.map aA)→Bq (FO B z) 1 w' v p.V.length (p.V.map aA)→Afc B z T (k+1) ((w'.setCell ⟨g,k*2,aB⟩ u).setCell ⟨g,k*2+1,aB⟩ v):=by
 obtain⟨aa,ab,h1,h2,h3⟩:=h;have hk:=(aV.1 hp).1;have ah:aa.length=k:=by rw[Anq h2,cQ,Nat.min_eq_left (cN hk)]
 rw[Sq hp]at h3;cases ab with
 |nil=>exact h3.elim
 |cons r ab=>
 obtain⟨kv,vv⟩:=r;obtain⟨h4,h5,h6⟩:=h3;rcases h1.2 with⟨_,h0⟩|⟨g,cap,ae,rfl,hg,hh,hn,hm,hs,htk⟩
 ·omega
 have ac:(A4 aa).length=k*2:=by rw[Me,ah]
 have af:A4 (aa++(kv,vv)::ab)=A4 aa++([kv,vv]++A4 ab):=by rw[Wz];rfl
 have ag:∀j u,(A4 (aa++(kv,vv)::ab))[j]?=aD u→w.cell? ⟨g,j,aB⟩=aD u:=fun j u hj=>by
  refine Aa hh ?_;grind
 have e0:(A4 (aa++(kv,vv)::ab))[k*2]?=aD kv:=by rw[af,bH (by omega),ac,cZ];rfl
 have e1:(A4 (aa++(kv,vv)::ab))[k*2+1]?=aD vv:=by rw[af,bH (by omega),ac,show k*2+1-k*2=1 by omega];rfl
 refine⟨g,cap,kv,vv,rfl,hg,aF hh,⟨ae,hh⟩,ag _ _ e0,ag _ _ e1,h4,h5,fun w' u v hb hu hv=>?_⟩;have ai:((A4 (aa++(kv,vv)::ab)).set (k*2) u).set (k*2+1) v=A4 ((aa++[(u,v)])++ab):=by
  rw[af,cB _ _ (by omega),ac,cZ,cB _ _ (by omega),ac,show k*2+1-k*2=1 by omega,Wz,Wz,dM];rfl
 have ad:∀{F},(∀j,F j→aD j≠(Value.slice (aD ⟨g,0,aB⟩) T.length cap).ownBlock)→Keeps F w' ((w'.setCell ⟨g,k*2,aB⟩ u).setCell ⟨g,k*2+1,aB⟩ v):=fun hF=>((Keeps.refl _ _).set (fun h=>hF _ h (by rfl)) _ _).set (fun h=>hF _ h (by rfl)) _ _
 refine⟨aa++[(u,v)],ab,?_,?_,?_⟩
 ·have:=Zo (Zo (Ak h1 hb) (k*2) u) (k*2+1) v;rw[ai]at this;exact this
 ·rw[bW,hp];exact Abm ((h2.keep (Ai hb)).keep (ad fun j h=>h.2)) ⟨hu.keep (ad fun j h=>h.2),hv.keep (ad fun j h=>h.2),trivial⟩
 ·exact(h6.keep (Ai hb)).keep (ad fun j h=>h)
theorem Anr (L:List Wd):∀u∈L.map Value.string,u.oneCell'=aY:=fun u hu=>by
 obtain⟨s,_,rfl⟩:=List.mem_map.1 hu;rfl
theorem Afd {F}{w}:∀{rs:List (aU×aU)}{T:List Pg},Kt F w rs T→∀u∈A4 rs,u.oneCell'=aY
 |[],[],_,u,hu=>by cases hu
 |[],_::_,h,_,_=>h.elim
 |_::_,[],h,_,_=>h.elim
 |r::rs,p::T,h,u,hu=>by
  obtain⟨a1,c1,e1⟩:=h.1.shape;obtain⟨a2,c2,e2⟩:=h.2.1.shape;have:A4 (r::rs)=r.1::r.2::A4 rs:=rfl;rw[this]at hu;rcases cI.1 hu with rfl|hu
  ·rw[e1];rfl
  ·rcases cI.1 hu with rfl|hu
   ·rw[e2];rfl
   ·exact Afd h.2.2 u hu
theorem A29 (a)(n n'):(#[J a n n']:Array aU).all (·.oneCell')=aY:=by simp[bM]
theorem Aiz:(Tryz.prog.info? 65).map (·.size)=aD 1:=by kernel_rfl
theorem Acr {E:List Nat}{n:Nat}{c:CatD}{T:List Pg}{a:Int}{bn io po:Option Addr}{tc ic pc:Nat}{w:bD}(he:EngC E w n c T a (J bn c.tables.length tc) (J io c.indexes.length ic) (J po T.length pc))(hT:T.length≤1000):
  bJ aJ 22 #[bK (aD ⟨n,0,aB⟩)] w fun e w'=>∃zo zc,e=aR (bI #[J zo T.length zc])∧Kf (Fr w.heap.size) w' (J zo T.length zc) T∧Below w.heap.size w w':=by
 have av:Hid (∀p∈T,p.ok):=he.good.1;obtain⟨ae,bR,bo⟩:=al1 w (aG #[J aB 0 0] 65);have ai:=he.below ae;have cd:n<w.heap.size:=he.lt;generalize hW:w.alloc (aG #[J aB 0 0] 65)=W1 at ae bR ai bo;have HW:Hid _:=hW;have v2:=Aa ai.blk (j:=2) rfl;obtain⟨ak,aw,al⟩:=ai.pages;have ax:=Ano (A4 ak) T.length _ _ W1 aw (Afd al) (by omega);have ay:Hid _:=al;clear hW he aw al ai;go_enter Tryz.func22,Tryz.ntmps22;go_upto_region 1 with fail;rw[HW.out];go_upto_region 4 with(go_fit ax;rintro e w2 ⟨z,rfl,aj,az⟩);obtain⟨zo,zc,rfl⟩:=Ex.shape (Ex.of_own aj);have ba:Afc W1.heap.size (J zo T.length zc) T 0 w2:=by
  refine⟨[],ak,aj,trivial,?_⟩;have h5:Kt (fun k=>k<W1.heap.size) W1 ak T:=Kt.mono (fun k hk _=>hk) ay.out;refine(h5.keep (Ae az)).mono fun k _ hk e=>?_
  have:=(aj.lt k e.symm).1;omega
 have bp:Hid _:=ba;clear ba aj ax ay;go_wp2_with fail
 go_loopw[17] (fun i wr=>∃k:Nat,k≤T.length∧i=O X k∧Hid (Afc W1.heap.size (J zo T.length zc) T k wr)∧Below W1.heap.size W1 wr) (fun i _=>T.length-(bS i).toNat)
 case atStart=>exact⟨0,aP _,rfl,bp,az⟩
 case round=>
  obtain⟨k,hk,rfl,bb,af⟩:=hrel
  by_cases bq:k<T.length
  ·obtain⟨p,hx⟩:∃x,T[k]?=aD x:=⟨_,aI bq⟩;obtain⟨g,cap,kv,vv,hz,bc,ag,⟨ce,bd⟩,d0,d1,am,an,be⟩:=bb.out.get hx;cases hz;obtain⟨y1,z1,rfl⟩:=am.shape;obtain⟨y2,z2,rfl⟩:=an.shape;have bt:=(av.out p (aX hx)).2.1;have cf:p.V.length≤4:=by rw[(av.out p (aX hx)).2.2];exact bt
   obtain⟨aa,bX,-⟩:=al1 wr (aG #[J y1 p.K.length z1,J y2 p.V.length z2] 91);have ap:=(aa.block g ag).trans bd;have e0:=(aa.cell ag).trans d0;have e1:=(aa.cell ag).trans d1;have x0:=Aa bX (j:=0) rfl;have x1:=Aa bX (j:=1) rfl;have ac:=aF bX;have ah:=bC ag aa.size;have aq:=(Nat.ne_of_lt ag).symm;have ar:=am.keep (Ai aa);have au:=an.keep (Ai aa);have bu:Hid _:=be;have bv:=af.size;have v5:(0:Int)≤k:=by omega
   have v6:k<(T.length:Int):=by omega
   clear am an be hx bd;go_upto_region 7 with fail;have bf:=aa.size;generalize wr.alloc _=wb at aa bX ap e0 e1 x0 x1 ac ah ar au bf⊢;generalize wr.heap.size=gX at bX x0 x1 ac aq bv bf⊢;have bg:=fun W h=>Zn _ _ _ _ W (ar.keep (Ai h)) (Anr _) (by omega)
   have bh:=fun W h=>Zn _ _ _ _ W (au.keep (Ai h)) (Anr _) (by omega)
   clear ar au;refine wp_region_held_drew (S:=(fun W=>W.cell? ⟨gX,0,aB⟩=aD (J y1 p.K.length z1)∧W.cell? ⟨gX,1,aB⟩=aD (J y2 p.V.length z2))) (by rfl) ?_ (fun hHeld=>?_)
   ·simp_all
   refine tk 0 ?_;refine tk 1 ?_;refine tk 2 ?_;refine tk 3 ?_;refine tk 5 ?_;refine tk 6 ?_;refine Bi 4 (fun K hK=>?_);go_simp
   (refine(bg _ (aT _ _).drew).mono ?_;rintro e w3 ⟨v3,rfl,bi,bw⟩;obtain⟨ko,kc,rfl⟩:=Ex.shape (Ex.of_own bi);have ad:=Ac (aT _ _).drew bw)
   go_wp2_with fail;refine hK.out _ _ ?_ (fun hHeld=>?_)
   ·exact⟨(ad.cell ac).trans x0,(ad.cell ac).trans x1⟩
   clear hK K;refine Bi 7 (fun K hK=>?_);go_simp
   (refine(bh _ ad).mono ?_;rintro e w4 ⟨v4,rfl,bj,bk⟩;obtain⟨vo,vc,rfl⟩:=Ex.shape (Ex.of_own bj);have ab:=Ac ad bk;have y8:=(ab.cell ah).trans e0;have y9:=(ab.cell ah).trans e1;have z8:w4.frozen? ⟨g,k*2,aB⟩=cL:=(by simp[cF,(ab.block g ah).trans ap]);have z9:w4.frozen? ⟨g,k*2+1,aB⟩=cL:=(by simp[cF,(ab.block g ah).trans ap]))
   go_wp2_with fail;refine hK.out _ _ ?_ (fun hHeld=>?_)
   ·exact⟨(ab.cell ac).trans x0,(ab.cell ac).trans x1⟩
   clear hK K;refine tk 8 ?_;refine tk 9 ?_;refine Bi 10 (fun K hK=>?_);go_simp;go_wp2_with fail;refine hK.out _ _ ?_ (fun hHeld=>?_)
   ·exact⟨(Aiy aq _ _ _).trans ((ab.cell ac).trans x0),(Aiy aq _ _ _).trans ((ab.cell ac).trans x1)⟩
   clear hK K;refine wpAnyH_done (by kernel_rfl) ?_ _;have hB:=Ac aa ab;have hu:Bq (FO W1.heap.size (J (aD ⟨g,0,aB⟩) T.length zc)) 1 w4 _ _ _:=Bq.of_own (Ak bi bk) fun q hq=>⟨by have:wb.heap.size≤q:=hq;omega,fun e=>by
    have h1:=by simpa[bE]using e
    have:wb.heap.size≤q:=hq;omega⟩
   have hv:Bq (FO W1.heap.size (J (aD ⟨g,0,aB⟩) T.length zc)) 1 w4 _ _ _:=Bq.of_own bj fun q hq=>⟨by have:=ad.size;omega,fun e=>by
    have h1:=by simpa[bE]using e
    have:=ad.size;omega⟩
   have bx:=bu.out w4 _ _ hB hu hv;clear bg bh;go_wp2_with fail;go_roundw
   case rel=>exact⟨_,by omega,by rfl,bx,((af.trans (hB.mono af.size)).setCell (show W1.heap.size≤g from bc) _).setCell (show W1.heap.size≤g from bc) _⟩
   case measure=>simp[bS];omega
  ·have bz:k=T.length:=by omega
   subst bz;have v5:¬(T.length<(T.length:Int)):=by omega
   have ca:Kf (Fr W1.heap.size) wr (J zo T.length zc) T:=by
    obtain⟨cb,bl,h1,h2,h5⟩:=bb.out;rw[cO]at h2;rw[cR]at h5;cases bl with
    |cons r bl=>exact h5.elim
    |nil=>
     rw[dQ]at h1;exact⟨cb,Bq.of_own h1 fun _ h=>h,h2.mono fun k _ h=>h.1⟩
   have bm:=(af.block _ (aF bR)).trans bR;go_wp2_with(refine aE rfl 65 _ _ rfl w.heap.size #[J zo T.length zc] ?_ ?_ 65 #[J aB 0 0] ?_ ?_ ?_ ?_ ?_;exact rfl;exact rfl;exact bm;exact Aiz;exact rfl;exact A29 _ _ _);refine aN (v:=bI #[J zo T.length zc]) (aH Tryz.results22 _ _ w.heap.size 65 #[J zo T.length zc] _ _ rfl (Ao bm) Tryz.underlying65 rfl Aiz) rfl ?_;have cc:Keeps (Fr W1.heap.size) wr (wr.setRow w.heap.size #[J zo T.length zc]):=(Keeps.refl _ _).row (fun h=>by omega) _;exact⟨zo,zc,rfl,(ca.keep cc).mono fun k _ h=>aO ae.size h,Below.row (ae.trans (af.mono ae.size)) (aM _) _⟩
theorem Axx {w}{ao}{n c i}{T}{p}(h:Ba w (J ao n c) T)(hi:T[i]?=aD p):∃b aa ka kc va vc,ao=aD ⟨b,aa,aB⟩∧b<w.heap.size∧w.cell? ⟨b,aa+i*2,aB⟩=aD (J ka p.K.length kc)∧w.cell? ⟨b,aa+i*2+1,aB⟩=aD (J va p.V.length vc)∧An w (J ka p.K.length kc) p.K∧An w (J va p.V.length vc) p.V:=by
 obtain⟨b,aa,cap,e,hb,_,_,hT⟩:=h.at (by have:=(aV.1 hi).1;omega);simp only[Value.slice.injEq]at e;obtain⟨kv,vv,c0,c1,hk,hv⟩:=hT i p hi;obtain⟨ka,kc,rfl⟩:=hk.shape;obtain⟨va,vc,rfl⟩:=hv.shape;grind
def tx (l:List (Wd×Wd)):List Wd:=l.flatMap fun x=>[x.1,x.2]
theorem Axy (l):(tx l).length=2*l.length:=by
 induction l with
 |nil=>rfl
 |cons a l ih=>simp only[tx,List.flatMap_cons,aL,aK,List.length_nil]at ih⊢;omega
theorem A3a (l)(a b):tx (l++[(a,b)])=tx l++[a]++[b]:=by simp[tx]
def Lw (T:List Pg)(k:Nat)(p:Pg)(q:Nat):List (Wd×Wd):=flat (T.take k)++(p.K.zip p.V).take q
theorem Ap6 {T}{k}{p}(hp:T[k]?=aD p):flat T=flat (T.take k)++(p.K.zip p.V++flat (T.drop (k+1))):=by
 obtain⟨h1,rfl⟩:=aV.1 hp
 conv=>lhs;rw[←List.take_append_drop k T]
 rw[Bh,List.drop_eq_getElem_cons h1,Fa]
theorem At9 {T}{k q:Nat}{p:Pg}{a b:Wd}(ha:p.K[q]?=aD a)(hb:p.V[q]?=aD b):Lw T k p (q+1)=Lw T k p q++[(a,b)]:=by
 have hz:(p.K.zip p.V)[q]?=aD (a,b):=by rw[List.getElem?_zip_eq_some];exact⟨ha,hb⟩
 unfold Lw;rw[bW,hz,dM];rfl
theorem Aua (T)(k)(p):Lw T k p 0=flat (T.take k):=by simp[Lw]
theorem Axz {T}{k}{p}(hp:T[k]?=aD p):Lw T k p p.K.length=flat (T.take (k+1)):=by
 unfold Lw;rw[List.take_of_length_le (l:=p.K.zip p.V) (by grind),bW,hp,Bh];simp[flat]
theorem Ax0 {T}{k q}{p}(hp:T[k]?=aD p):(Lw T k p q).length≤(flat T).length:=by
 rw[Ap6 hp,Lw,aL,aL,aL,cQ];omega
theorem A3b:(Tryz.prog.info? 9).map (fun i=>(i.zero,i.size,i.bytes))=aD (aD (aA ⟨#[]⟩),1,16):=by kernel_rfl
theorem A3c {w:bD}{base n g}{t t'}{size}{z}{cs}{arr}(own:w.ownsRow base t size z n cs)(pb:w.heap[g]?=aD (aG arr t'))(ht:t≠t'):aD g≠z.ownBlock:=fun e=>by
 rcases own.2 with⟨h,_⟩|⟨b,cap,cur,rfl,_,hh,_⟩
 ·rw[h]at e;cases e
 ·have:=by simpa[bE]using e
  grind
theorem Afe {w wr W w3}{P n:Nat}{z}{cs}{a b}(own:wr.ownsRow w.heap.size 9 1 z n cs)(hW:Below wr.heap.size wr W)(pb:wr.heap[P]?=aD (aG #[a,b] 91))(hb:Below w.heap.size w wr)(gr:W.grownBy w3 z.ownBlock):
  w3.heap[P]?=aD (aG #[a,b] 91)∧Below w.heap.size w w3:=by
 have lP:=aF pb;have hs:=hW.size;refine⟨(gr.block _ (by omega) (A3c own pb (by simp))).trans ((hW.block _ lP).trans pb),?_⟩;exact(hb.trans (hW.mono hb.size)).grown gr (by have:=hb.size;omega) (fun j hj=>(own.lt j hj).1)
theorem Abn (T:List Pg)(so:Option Addr)(sc:Nat)(w:bD)(h:Ba w (J so T.length sc) T)(hg:As T)(hf:(flat T).length≤450):
  bJ aJ 21 #[bI #[J so T.length sc]] w fun e w'=>∃v,e=aR v∧An w' v (tx (flat T))∧Below w.heap.size w w':=by
 obtain⟨i0,ak,al,am,an⟩:=cT A3b;have ca:T.length≤450:=aO (Jb hg) hf;have ap:Hid (∀p∈T,p.ok):=hg.1;have HF:Hid ((flat T).length≤450):=hf;have aq:=Aq w (aG #[J so T.length sc] 65);have c0:=Aa (Ab w (aG #[J so T.length sc] 65)) (j:=0) rfl;have HS:Hid _:=h;generalize hW:w.alloc (aG #[J so T.length sc] 65)=W1 at aq c0;have HW:Hid _:=hW;clear hW h hg hf;go_enter Tryz.func21,Tryz.ntmps21;go_upto_region 1 with fail;rw[HW.out];go_wp2_with fail
 go_loopw[3,11] (fun zv i wr=>∃(k M:Nat) (cs:List aU),k≤T.length∧i=O X k∧Hid (M=(tx (flat (T.take k))).length∧cs=(tx (flat (T.take k))).map aA)∧wr.ownsRow w.heap.size 9 1 zv M cs∧Below w.heap.size w wr) (fun _ i _=>T.length-(bS i).toNat)
 case atStart=>exact⟨0,0,[],aP _,rfl,⟨by rw[cD];rfl,by rw[cD];rfl⟩,bL _ _ _ _,aq⟩
 case round=>
  obtain⟨k,M,cs,hk,rfl,HM,ac,aa⟩:=hrel
  by_cases bf:k<T.length
  ·obtain⟨p,hp⟩:∃p,T[k]?=aD p:=⟨_,aI bf⟩;obtain⟨ba,oa,ka,kc,va,vc,bg,ar,bh,bi,au,av⟩:=Axx HS.out hp;cases bg;have a0:=(aa.cell (p:=⟨ba,_,aB⟩) ar).trans bh;have a1:=(aa.cell (p:=⟨ba,_,aB⟩) ar).trans bi;have cb:p.K.length≤4:=(ap.out p (aX hp)).2.1;have ad:Hid (p.V.length=p.K.length):=(ap.out p (aX hp)).2.2;obtain⟨ae,bX,-⟩:=al1 wr (aG #[J ka p.K.length kc,J va p.V.length vc] 91);have x0:=Aa bX (j:=0) rfl;have v0:(0:Int)≤(k:Int):=by omega
   have v1:(k:Int)<(T.length:Int):=by omega
   have HP:Hid _:=hp;have bj:Hid _:=au;have bk:Hid _:=av;have aw:=Ak ac ae;have ax:=aa.trans (ae.mono aa.size);clear au av hp ac;go_upto_region 5 with fail;generalize wr.alloc (aG #[J ka p.K.length kc,J va p.V.length vc] 91)=wb at ae bX x0 aw ax⊢;generalize wr.heap.size=P at bX x0⊢;go_wp2_with fail
   go_loopw[3,18] (fun zv i wq=>∃(q M:Nat) (cs:List aU),q≤p.K.length∧i=O X q∧Hid (M=(tx (Lw T k p q)).length∧cs=(tx (Lw T k p q)).map aA)∧wq.ownsRow w.heap.size 9 1 zv M cs∧wq.heap[P]?=aD (aG #[J ka p.K.length kc,J va p.V.length vc] 91)∧Below w.heap.size w wq) (fun _ i _=>p.K.length-(bS i).toNat)
   case atStart=>exact⟨0,M,cs,aP _,rfl,by show _∧_;rw[Aua];exact HM.out,aw,bX,ax⟩
   case round=>
    obtain⟨q,M2,bl,hq,rfl,af,ag,bP,ab⟩:=hrel
    by_cases ay:q<p.K.length
    ·obtain⟨a,ha⟩:∃a,p.K[q]?=aD a:=⟨_,aI ay⟩;obtain⟨b,hb⟩:∃b,p.V[q]?=aD b:=⟨_,aI (by rw[ad.out];exact ay)⟩;obtain⟨kb,ko,cc,bm,bn,_,_,az⟩:=An.at bj.out (by omega);cases bm;obtain⟨vb,vo,cd,bo,bp,_,_,bb⟩:=An.at bk.out (by rw[ad.out];omega);cases bo;have k0:=(ab.cell bn).trans (az q a ha);have k1:=bb q b hb;have bc:Hid (tx (Lw T k p (q+1))=tx (Lw T k p q)++[a]++[b]):=by show _=_;rw[At9 ha hb,A3a]
     have ce:M2≤900:=by
      have h1:=af.out.1;rw[Axy]at h1;have h2:=Ax0 (q:=q) HP.out;have h3:=HF.out;omega
     have v3:(0:Int)≤q:=by omega
     have v4:q<(p.K.length:Int):=by omega
     have v5:q<(p.V.length:Int):=by rw[ad.out];omega
     have ah:=Aq wr (aG [aA a].toArray 9);clear ha hb az bb;go_wp2_with(at_builtin;go_must(refine aZ _ rfl _ _ 43 rfl _ 9 i0 _ 1 16 bV ak al am an rfl (by simp) _ _ _ rfl (Ak ag ah) _ 1 1 _ rfl rfl (Cb wr [.string a] 9) ?h1 (by simp only[bU];omega) (by omega) (aO ab.size ah.size) ?h2))
     case h1=>simp only[cE];repeat(first|exact fun _ h=>absurd h cP|refine⟨rfl,?_⟩)
     case h2=>
      intro z4 w4 bd bq _ _;obtain⟨be,ai⟩:=Afe ag ah bP ab bq;have x4:=Aa be (j:=1) rfl;have k4:=(ai.cell bp).trans k1;have aj:=Aq w4 (aG [aA b].toArray 9);go_wp2_with(at_builtin;go_must(refine aZ _ rfl _ _ 43 rfl _ 9 i0 _ 1 16 bV ak al am an rfl (by simp) _ _ _ rfl (Ak bd aj) _ 1 1 _ rfl rfl (Cb w4 [.string b] 9) ?h3 (by simp only[bU];omega) (by omega) (aO ai.size aj.size) ?h4))
      case h3=>simp only[cE];repeat(first|exact fun _ h=>absurd h cP|refine⟨rfl,?_⟩)
      case h4=>
       intro z6 w6 bt bu _ _;obtain⟨bv,bw⟩:=Afe bd aj be ai bu;go_wp2_with fail;go_roundw
       case rel=>exact⟨q+1,_,_,by omega,by rfl,⟨by rw[bc.out,af.out.1];simp,by rw[bc.out,af.out.2];simp⟩,bt,bv,bw⟩
       case measure=>simp[bS];omega
    ·have bx:q=p.K.length:=by omega
     subst bx;have v4:¬(p.K.length<(p.K.length:Int)):=by omega
     go_wp2;go_roundw
     case rel=>exact⟨k+1,M2,bl,by omega,by rfl,by show _∧_;rw[←Axz HP.out];assumption,ag,ab⟩
     case measure=>simp[bS];omega
  ·have bz:k=T.length:=by omega
   subst bz;have v1:¬(T.length<(T.length:Int)):=by omega
   go_wp2;go_ret;obtain⟨h1,h2⟩:=HM.out;rw[cO]at h1 h2;refine⟨_,rfl,?_,aa⟩;have:=Ex.of_own ac;rw[h1,h2]at this;exact this
def A3d (w:bD)(ao:Option Addr)(T:List TabD):Prop:=∀(k:Nat) (x:TabD),T[k]?=aD x→∃b off so sc,ao=aD ⟨b,off,aB⟩∧b<w.heap.size∧w.cell? ⟨b,off+k*2,aB⟩=aD (aA x.name)∧w.cell? ⟨b,off+k*2+1,aB⟩=aD (J so x.cols.length sc)∧∀(j:Nat) (y:ColD),x.cols[j]?=aD y→∃b' off',so=aD ⟨b',off',aB⟩∧b'<w.heap.size∧w.cell? ⟨b',off'+j*3,aB⟩=aD (aA y.name)∧w.cell? ⟨b',off'+j*3+1,aB⟩=aD (O X y.ty)∧w.cell? ⟨b',off'+j*3+2,aB⟩=aD (bO y.must)
theorem Ark {F}{w}{ao}{n c}{T}(h:IsL Ck F w (J ao n c) T):A3d w ao T:=fun k x hx=>by
 obtain⟨b,ad,cs,ae,_,af,⟨sv,rfl,ab⟩,ac⟩:=At h hx;obtain⟨so,sc,rfl⟩:=ab.shape;refine⟨b,ad,so,sc,ae,af,ac 0 _ rfl,ac 1 _ rfl,fun j y hy=>?_⟩;obtain⟨b',ag,aj,ah,_,ai,hR,aa⟩:=At ab hy;obtain rfl:=hR;exact⟨b',ag,ah,ai,aa 0 _ rfl,aa 1 _ rfl,aa 2 _ rfl⟩
def A3e (w:bD)(ao:Option Addr)(I:List IdxD):Prop:=∀(k:Nat) (x:IdxD),I[k]?=aD x→∃b off,ao=aD ⟨b,off,aB⟩∧b<w.heap.size∧w.cell? ⟨b,off+k*3,aB⟩=aD (aA x.name)∧w.cell? ⟨b,off+k*3+1,aB⟩=aD (aA x.table)∧w.cell? ⟨b,off+k*3+2,aB⟩=aD (aA x.col)
theorem Arl {F}{w}{ao}{n c}{I}(h:IsL Eb F w (J ao n c) I):A3e w ao I:=fun k x hx=>by
 obtain⟨b,ab,cs,ac,_,ad,ae,aa⟩:=At h hx;obtain rfl:=ae;exact⟨b,ab,ac,ad,aa 0 _ rfl,aa 1 _ rfl,aa 2 _ rfl⟩
theorem Aub (A:CatD)(va vb:aU)(F G:Nat→Prop)(w:bD)(ha:Hq F w A va)(hb:Hq G w A vb)(hg:Dv A=aY):
  bJ aJ 18 #[va,vb] w fun e w'=>e=aR (bO aY)∧Below w.heap.size w w':=by
 have bb:A.tables.length≤3:=((Cw A).1 hg).1;have bc:A.indexes.length≤4:=((Cw A).1 hg).2.1;have aj:Hid (∀x∈A.tables,x.cols.length≤4):=fun t ht=>(Hf hg ht).2
 clear hg;obtain⟨T,I⟩:=A;obtain⟨tv,iv,rfl,hl,hi⟩:=ha;obtain⟨uv,jv,rfl,hu,hj⟩:=hb;simp only at hl hi hu hj bb bc aj;obtain⟨ak,tc,rfl⟩:=hl.shape;obtain⟨io,ic,rfl⟩:=hi.shape;obtain⟨uo,uc,rfl⟩:=hu.shape;obtain⟨jo,jc,rfl⟩:=hj.shape;have HT:Hid _:=Ark hl;have HU:Hid _:=Ark hu;have HI:Hid _:=Arl hi;have HJ:Hid _:=Arl hj;obtain⟨af,-,bB,-⟩:=al2 w (aG #[J ak T.length tc,J io I.length ic] 62) (aG #[J uo T.length uc,J jo I.length jc] 62);have bA:=Ad (Ab w (aG #[J ak T.length tc,J io I.length ic] 62)) (aG #[J uo T.length uc,J jo I.length jc] 62);generalize hW:(w.alloc (aG #[J ak T.length tc,J io I.length ic] 62)).alloc (aG #[J uo T.length uc,J jo I.length jc] 62)=W2 at af bA bB;have HW:Hid _:=hW;clear hW hl hi hu hj;have a0:=Aa bA (j:=0) rfl;have a1:=Aa bA (j:=1) rfl;have b0:=Aa bB (j:=0) rfl;have b1:=Aa bB (j:=1) rfl;go_enter Tryz.func18,Tryz.ntmps18;go_upto_region 1 with fail;rw[HW.out];go_wp2
 go_loopw[28] (fun i wr=>∃k:Nat,k≤T.length∧i=O X k∧Below W2.heap.size W2 wr) (fun i _=>T.length-(bS i).toNat)
 case atStart=>exact⟨0,aP _,rfl,aT _ _⟩
 case round=>
  obtain⟨k,hk,rfl,ag⟩:=hrel;obtain⟨wo,bd⟩:∃wo,wo=wr:=⟨_,rfl⟩;subst bd;have al:Below w.heap.size w wo:=af.trans (ag.mono af.size);have bj:=af.size;have be:=ag.size;have bf:=(ag.block _ (aF bA)).trans bA;have ar:=(ag.block _ (aF bB)).trans bB
  by_cases am:k<T.length
  ·obtain⟨x,hx⟩:∃x,T[k]?=aD x:=⟨_,aI am⟩;obtain⟨b,au,so,sc,ab,av,g0,g1,aw⟩:=HT.out k x hx;cases ab;obtain⟨d,an,bk,bl,ab,ap,h0,h1,ax⟩:=HU.out k x hx;cases ab;obtain⟨ay,bX,-⟩:=al1 wo (aG #[aA x.name,J so x.cols.length sc] 82);have ah:Below w.heap.size w (wo.alloc (aG #[aA x.name,J so x.cols.length sc] 82)):=al.alloc (by omega) _;have d0:=(al.cell (p:=⟨b,au+k*2,aB⟩) av).trans g0;have d1:=(al.cell (p:=⟨b,au+k*2+1,aB⟩) av).trans g1;have e0:=(ah.cell (p:=⟨d,an+k*2,aB⟩) ap).trans h0;have e1:=(ah.cell (p:=⟨d,an+k*2+1,aB⟩) ap).trans h1;have aq:=(ay.block _ (aF ar)).trans ar;have f0:=Aa aq (j:=0) rfl;have f1:=Aa bX (j:=0) rfl;have f2:=Aa bX (j:=1) rfl;have v0:(0:Int)≤(k:Int):=by omega
   have v1:(k:Int)<(T.length:Int):=by omega
   have bm:=aj.out x (aX hx);have bg:Hid _:=aw;have bh:Hid _:=ax;clear aw ax hx g0 g1 h0 h1;generalize az:wo.alloc (aG #[aA x.name,J so x.cols.length sc] 82)=Wx at*;go_wp2_with fail
   try rw[az]
   have ba:Below W2.heap.size W2 Wx:=ag.trans (ay.mono be);clear az;go_quiet(fail);go_wp2
   go_loopw[58] (fun i wr=>∃k2:Nat,k2≤x.cols.length∧i=O X k2∧Below Wx.heap.size Wx wr) (fun i _=>x.cols.length-(bS i).toNat)
   case atStart=>exact⟨0,aP _,rfl,bY (aT _ _) _⟩
   case round=>
    obtain⟨k2,bn,rfl,ac⟩:=hrel;have aa:Below w.heap.size w wr:=ah.trans (ac.mono ah.size)
    by_cases bi:k2<x.cols.length
    ·obtain⟨p,hp⟩:∃p,x.cols[k2]?=aD p:=⟨_,aI bi⟩;obtain⟨pb,po,ab,ad,p0,p1,p2⟩:=bg.out k2 p hp;cases ab;obtain⟨qb,qo,ab,ae,q3,q4,q5⟩:=bh.out k2 p hp;cases ab;have m0:=(aa.cell ad).trans p0;have m1:=(aa.cell ad).trans p1;have m2:=(aa.cell ad).trans p2;have m3:=(aa.cell ae).trans q3;have m4:=(aa.cell ae).trans q4;have m5:=(aa.cell ae).trans q5;have r0:=Aa ((ac.block _ (aF bX)).trans bX) (j:=1) rfl;have r1:=Aa ((ac.block _ (aF aq)).trans aq) (j:=0) rfl;have r2:=(ac.cell (p:=⟨d,an+k*2+1,aB⟩) (bC ap ah.size)).trans e1;have u0:(0:Int)≤k2:=by omega
     have u1:k2<(x.cols.length:Int):=by omega
     clear hp p0 p1 p2 q3 q4 q5;obtain⟨pn,pt,pm⟩:=p;simp only at m0 m1 m2 m3 m4 m5;go_wp2_with fail;go_quiet(fail);go_wp2;go_roundw
     case rel=>exact⟨k2+1,by omega,by go_num,bY ac _⟩
     case measure=>simp[bS];omega
    ·have ai:k2=x.cols.length:=by omega
     subst ai;have u1:¬((x.cols.length:Int)<(x.cols.length:Int)):=by omega
     go_wp2;go_roundw
     case rel=>exact⟨k+1,by omega,by go_num,ba.trans (ac.mono ba.size)⟩
     case measure=>simp[bS];omega
  ·have ai:k=T.length:=by omega
   subst ai;have v1:¬((T.length:Int)<(T.length:Int)):=by omega
   have e0:=Aa bf (j:=1) rfl;clear HT HU aj;go_wp2
   go_loopw[81] (fun i wr=>∃k:Nat,k≤I.length∧i=O X k∧Below W2.heap.size W2 wr) (fun i _=>I.length-(bS i).toNat)
   case atStart=>exact⟨0,aP _,rfl,ag⟩
   case round=>
    obtain⟨k,hk,rfl,ac⟩:=hrel;have aa:Below w.heap.size w wr:=af.trans (ac.mono af.size)
    by_cases am:k<I.length
    ·obtain⟨x,hx⟩:∃x,I[k]?=aD x:=⟨_,aI am⟩;obtain⟨pb,po,ab,ad,p0,p1,p2⟩:=HI.out k x hx;cases ab;obtain⟨qb,qo,ab,ae,q3,q4,q5⟩:=HJ.out k x hx;cases ab;have m0:=(aa.cell ad).trans p0;have m1:=(aa.cell ad).trans p1;have m2:=(aa.cell ad).trans p2;have m3:=(aa.cell ae).trans q3;have m4:=(aa.cell ae).trans q4;have m5:=(aa.cell ae).trans q5;have r0:=Aa ((ac.block _ (aF bA)).trans bA) (j:=1) rfl;have r1:=Aa ((ac.block _ (aF bB)).trans bB) (j:=1) rfl;have u0:(0:Int)≤k:=by omega
     have u1:k<(I.length:Int):=by omega
     clear hx p0 p1 p2 q3 q4 q5;obtain⟨pn,pt,pm⟩:=x;simp only at m0 m1 m2 m3 m4 m5;go_wp2_with fail;go_quiet(fail);go_wp2;go_roundw
     case rel=>exact⟨k+1,by omega,by rfl,bY ac _⟩
     case measure=>simp[bS];omega
    ·have ai:k=I.length:=by omega
     subst ai;have v1:¬(I.length<(I.length:Int)):=by omega
     go_wp2;go_ret;exact⟨rfl,aa⟩
theorem Ans (L:List Wd)(va vb:aU)(w:bD)(ha:An w va L)(hb:An w vb L)(hl:L.length≤1000000):
  bJ aJ 20 #[va,vb] w fun e w'=>e=aR (bO aY)∧Below w.heap.size w w':=by
 obtain⟨ao,ac,rfl⟩:=Ex.shape ha;obtain⟨bo,bc,rfl⟩:=Ex.shape hb;have HA:Hid _:=ha;have HB:Hid _:=hb;clear ha hb;go_enter Tryz.func20,Tryz.ntmps20;go_wp2_with fail
 go_loopw[13] (fun i wr=>∃k:Nat,k≤L.length∧i=O X k∧Below w.heap.size w wr) (fun i _=>L.length-(bS i).toNat)
 case atStart=>exact⟨0,aP _,rfl,aT _ _⟩
 case round=>
  obtain⟨k,hk,rfl,aa⟩:=hrel
  by_cases af:k<L.length
  ·obtain⟨s,hs⟩:∃s,L[k]?=aD s:=⟨_,aI af⟩;obtain⟨b1,o1,c1,ab,ag,_,_,ad⟩:=An.at HA.out (by omega);cases ab;obtain⟨b2,o2,c2,ab,ah,_,_,ae⟩:=An.at HB.out (by omega);cases ab;have m0:=(aa.cell ag).trans (ad k s hs);have m1:=(aa.cell ah).trans (ae k s hs);have u0:(0:Int)≤k:=by omega
   have u1:k<(L.length:Int):=by omega
   clear hs ad ae;go_wp2_with fail;go_quiet(fail);go_wp2;go_roundw
   case rel=>exact⟨k+1,by omega,by rfl,bY aa _⟩
   case measure=>simp[bS];omega
  ·have ai:k=L.length:=by omega
   subst ai;have v1:¬(L.length<(L.length:Int)):=by omega
   go_wp2;go_ret;exact⟨rfl,aa⟩
theorem A3f {d}{T U}(hT:As T)(hU:As U)(h1:Has d (flat T))(h2:Has d (flat U)):flat T=flat U:=by
 have aa:∀a b:Wd×Wd,klt a.1 b.1=aY→¬klt b.1 a.1=aY:=fun a b h1 h2=>by rw[Kx h1]at h2;grind
 refine Y3 (r:=fun a b=>klt a.1 b.1=aY) aa ?_ ?_ fun x=>(h1 x).trans (h2 x).symm
 ·have:=hT.rise;grind
 ·have:=hU.rise;grind
theorem Agp {E}{n m}{d}{a b}{q r}{w}(h1:Dt E w n d a q)(h2:Dt E w m d b r)(ok:DbOk d):
  bJ aJ 11 #[bK (aD ⟨n,0,aB⟩),bK (aD ⟨m,0,aB⟩)] w fun e w'=>e=aR (bO aY)∧Below w.heap.size w w':=by
 obtain⟨T,bz,tc,io,ic,po,pc,he,hh,_⟩:=h1;obtain⟨U,uo,uc,jo,jc,ro,rc,hu,hv,_⟩:=h2;have aa:=Lv ok he.good hh;have ab:=Lv ok hu.good hv;have hT:=aO (Jb he.good) aa;have hU:=aO (Jb hu.good) ab;have al:Hid _:=A3f he.good hu.good hh hv;have am:=Abl he ok.cat;have an:=fun W (h:Below _ w W)=>Abl (hu.below h) ok.cat
 have ap:=fun W (h:Below _ w W)=>Acr (he.below h) (by omega)
 have aq:=fun W (h:Below _ w W)=>Acr (hu.below h) (by omega)
 have ar:Hid _:=he.good;have au:Hid _:=hu.good;have av:Hid _:=ok.cat;have ad:Hid _:=aa;have aw:Hid _:=ab;clear he hu hh hv aa ab ok;go_enter Tryz.func11,Tryz.ntmps11;go_wp2_with(first
  |(go_fit am;rintro e w1 ⟨ax,ay,rfl,az,ba,ae⟩)
  |(go_fit(an w1 ae);rintro e w2 ⟨bb,bc,rfl,bd,be,ac⟩;have hS:=Aub d.c _ _ _ _ w2 ⟨ax,ay,rfl,az.keep (Ai ac),ba.keep (Ai ac)⟩ ⟨bb,bc,rfl,bd,be⟩ av.out;have bf:=Ac ae ac)
  |(go_fit hS;rintro e w3 ⟨rfl,bg⟩;have af:=Ac bf bg)
  |(go_fit(ap w3 af);rintro e w4 ⟨bh,bi,rfl,bj,bk⟩;have bl:=Ac af bk;have bm:=Abn T bh bi w4 bj.pages ar.out ad.out)
  |(go_fit bm;rintro e w5 ⟨v5,rfl,ag,bn⟩;have ah:=Ac bl bn;obtain⟨x5,y5,rfl⟩:=Ex.shape ag)
  |(go_fit(aq w5 ah);rintro e w6 ⟨bo,bp,rfl,bq,ai⟩;have bt:=Ac ah ai;have bu:=Abn U bo bp w6 bq.pages au.out aw.out)
  |(go_fit bu;rintro e w7 ⟨v7,rfl,aj,ak⟩;have bv:=Ac bt ak;obtain⟨x7,y7,rfl⟩:=Ex.shape aj;have bw:=Ans _ _ _ w7 (ag.below (Ac ai ak)) (by rw[al.out];exact aj) (by rw[Axy];have:=ad.out;omega))
  |(go_fit bw;rintro e w8 ⟨rfl,bx⟩;have ca:=Ac bv bx))
 go_ret;simp_all
def aT1:Wd:={data:=([99,114,101,97,116,101,32,116,97,98,108,101,32,116,32,40,97,32,105,110,116,32,109,117,115,116,44,32,98,32,116,101,120,116,41,59,32].append [105,110,115,101,114,116,32,105,110,116,111,32,116,32,118,97,108,117,101,115,32,40,49,44,39,120,39,41,44,40,50,44,110,117,108,108,41,59]).toArray}
def aT2:Wd:={data:=#[115,101,108,101,99,116,32,98,32,102,114,111,109,32,116,32,119,104,101,114,101,32,97,32,61,32,49,59]}
def Sz:Db:=(doR Ge 0 aT1).2.1
def vX:V:=⟨2,0,⟨#[120]⟩⟩
theorem A4f:doR Ge 0 aT1=(⟨0,2,[]⟩,Sz,1):=by kernel_rfl
theorem A4g:doR Sz 1 aT2=(⟨0,0,[[vX]]⟩,Sz,2):=by kernel_rfl
theorem A3g:doQ Ge 0 aT1 aY=aY:=by kernel_rfl
theorem A3h:doQ Sz 1 aT2 aY=aY:=by kernel_rfl
theorem Ax1:(Sz.c.tables.map fun t=>(Sz.R t.name).length)=[2]:=by kernel_rfl
theorem Ax2:∃t∈Sz.c.tables,∃r,r∈Sz.R t.name:=by
 have h:=Ax1;generalize Sz=d at h⊢;obtain⟨⟨T,I⟩,R⟩:=d;simp only at h⊢
 match T,h with
 |t::T,h=>
  simp only[List.map_cons,bN]at h
  match hr:R _,h.1 with
  |r::l,_=>simp_all
theorem Ap7 {T}(h:Has Sz (flat T))(h1:T.length≤1):T.length=1:=by
 obtain⟨t,ht,r,hr⟩:=Ax2;have:=(h (rk t r,str _)).2 ⟨t,ht,r,hr,.inl rfl⟩;cases T with
 |nil=>cases this
 |cons p T=>grind
theorem Ax3:∃d:Db,doR Ge 0 aT1=(⟨0,2,[]⟩,d,1)∧doR d 1 aT2=(⟨0,0,[[vX]]⟩,d,2)∧doQ Ge 0 aT1 aY=aY∧doQ d 1 aT2 aY=aY∧∀T,Has d (flat T)→T.length≤1→T.length=1:=⟨Sz,A4f,A4g,A3g,A3h,fun _=>Ap7⟩
theorem A03 {B}{z}{v}{w}(h:Dm B z [[v]] w):∃g c b o c',z=J (aD ⟨g,0,aB⟩) 1 c∧g<w.heap.size∧b<w.heap.size∧w.cell? ⟨g,0,aB⟩=aD (J (aD ⟨b,o,aB⟩) 1 c')∧w.cell? ⟨b,o,aB⟩=aD (O X v.k)∧w.cell? ⟨b,o+1,aB⟩=aD (O X v.n)∧w.cell? ⟨b,o+2,aB⟩=aD (aA v.s):=by
 have h1:=J8 h;obtain⟨cs,ac,_⟩:=h;rcases ac.2 with⟨_,h0⟩|⟨g,cap,cur,rfl,_,hh,_⟩
 ·grind
 ·obtain⟨b',ae,af,e,_,hb,⟨yv,rfl,ab⟩,ad⟩:=At h1 (i:=0) rfl;simp only[cX,Addr.mk.injEq]at e;obtain⟨rfl,rfl,_⟩:=e;obtain⟨yo,yc,rfl⟩:=ab.shape;obtain⟨b2,o2,ag,e2,_,ah,hR,aa⟩:=At ab (i:=0) rfl;subst e2;obtain rfl:=hR;have c0:=ad 0 _ rfl;have d0:=aa 0 _ rfl;have d1:=aa 1 _ rfl;have d2:=aa 2 _ rfl;grind
theorem Ax4 (w)(ac:Env w):bJ aJ 15 #[] w fun e w'=>e=aR (bO aY)∧Below w.heap.size w w':=by
 obtain⟨dA,e1,e2,q1,q2,aj⟩:=Ax3;have ak:Br [] w:=fun n hn=>by grind
 obtain⟨ae,af⟩:=Arj ak;obtain⟨aa,-,bb⟩:=al1 w (aG #[J aB 0 0,J aB 0 0,J aB 0 0,O X 0] 67);have HN:=Ari w;have h8:=ac.low;generalize hW:w.alloc _=W1 at ae af aa HN bb;have al:bJ aJ 10 #[bK (aD ⟨w.heap.size,0,aB⟩),bI #[aA aT1]] W1 fun e w'=>∃vo vc,e=aR (bI #[O X 0,O X 2,J vo 0 vc])∧Dt [w.heap.size] w' w.heap.size dA 1 aY∧Hid (DbOk dA)∧But w.heap.size W1 w':=by
  have h:=U6 ae (by simp) aY af Aml (by omega) (ac.next aa) h8 aT1;rw[e1,q1]at h;generalize aT1=t1 at h⊢;refine h.mono ?_;rintro e w' ⟨⟨rv,rfl,am⟩,h2,h3,h4⟩;obtain⟨vo,vc,rfl⟩:=am.shape;exact⟨vo,vc,rfl,h2,h3,h4⟩
 have an:∀W,Dt [w.heap.size] W _ dA 1 aY→DbOk dA→Env W→bJ _ 10 #[bK _,bI #[aA aT2]] W fun e w'=>∃rv,e=aR (bI #[O X 0,O X 0,rv])∧Dm W.heap.size rv [[vX]] w'∧Dt [w.heap.size] w' w.heap.size dA 2 aY∧But w.heap.size W w':=fun W h ok he=>by
  have bc:Br _ W:=fun n hn=>by
   obtain rfl:=cJ.1 hn;obtain⟨T,bd,tc,io,ic,po,pc,h1,_⟩:=h;exact⟨_,_,_,_,_,_,h1,ok.cat⟩
  have h:=U6 bc (by simp) aY h ok (by omega) he h8 aT2;rw[e2,q2]at h;generalize aT2=t2 at h⊢;refine h.mono ?_;rintro e w' ⟨⟨rv,rfl,am⟩,h2,h3,h4⟩;grind
 clear hW af ae ak e1 e2 q1 q2;have bi:=ac.next aa;go_enter Tryz.func15,Tryz.ntmps15;go_upto_region 2 with(go_fit HN;rintro e w1 ⟨rfl,rfl⟩);go_upto_region 5 with(go_at_call 10;refine al.mono ?_;rintro e w2 ⟨vo,vc,rfl,ap,be,aq⟩);have ad:Below _ w (w2.alloc (aG #[O X 0,O X 2,J vo 0 vc] 32)):=Ac (aa.trans (aq.below (aM _) aa.size)) (Aq _ _);have bP:=Ab w2 (aG #[O X 0,O X 2,J vo 0 vc] 32);have ar:=ap.below (Aq w2 (aG #[O X 0,O X 2,J vo 0 vc] 32));have au:w2.heap.size≠w.heap.size:=by have:=aq.size;omega
 have ag:=an _ ar be.out (ac.next ad);have av:=ad.size;clear al an ap ar;generalize w2.alloc _=W3 at ad bP ag av⊢;generalize w2.heap.size=p at bP au⊢;go_upto_region 6 with(go_at_call 10;refine ag.mono ?_;rintro e w4 ⟨rv,rfl,aw,ax,ah⟩;obtain⟨rg,rc,rb,ro,bj,rfl,bf,bg,c0,d0,d1,d2⟩:=A03 aw);obtain⟨ab,bQ,-⟩:=al1 w4 (aG #[O X 0,O X 0,J (aD ⟨rg,0,aB⟩) 1 rc] 32);have ai:=(ab.block _ (bC (aF bP) ah.size)).trans ((ah.block _ (aF bP) au).trans bP);have k0:=(ab.cell bf).trans c0;have k1:=(ab.cell bg).trans d2;have ay:=ax.below ab;have az:=Ac (ad.trans (ah.below (aM _) av)) ab;clear c0 d0 d1 d2 aw ax ag bP;generalize w4.alloc _=W5 at ai bQ k0 k1 ay az⊢;generalize w4.heap.size=g at bQ⊢;obtain⟨T,bd,tc,io,ic,po,pc,h1,h2,h3⟩:=ay;have ba:=aj T h2 (h3 rfl);have HT:=Acr h1 (by omega);rw[ba]at HT;have x0:=Aa ai (j:=0) rfl;have x1:=Aa ai (j:=1) rfl;have x2:=Aa bQ (j:=2) rfl;have hx:(vX.s.toList==[120])=aY:=by kernel_rfl
 have fF:∀(zo) (zc) (w),(Instr.field 65 (bI #[J zo 1 zc]) 0).run aJ w=.ok (J zo 1 zc) w:=fun zo zc w=>by rfl
 clear h1 h2 h3 ba aj;go_wp2_with(go_fit HT;rintro e w7 ⟨zo,zc,rfl,_,bh⟩);go_ret;exact⟨rfl,Ac az bh⟩
def I0:Db×Int→List Wd→Db×Int
 |s,[]=>s
 |s,t::l=>I0 ((doR s.1 s.2 t).2.1,(doR s.1 s.2 t).2.2) l
theorem A3i {d}{a}(t)(h:0≤a):0≤(doR d a t).2.2:=by
 unfold doR;grind
theorem Dt.weak {E}{w}{n}{d}{a}{q}(h:Dt E w n d a q):Dt E w n d a cL:=by
 obtain⟨T,aa,tc,io,ic,po,pc,h1,h2,_⟩:=h;exact⟨T,aa,tc,io,ic,po,pc,h1,h2,fun h=>by grind⟩
theorem Dt.more {E}{w}{n m}{d}{a}{q}(h:Dt E w n d a q)(hm:w.heap.size≤m):Dt (m::E) w n d a q:=by
 obtain⟨T,aa,tc,io,ic,po,pc,h1,h2⟩:=h;exact⟨T,aa,tc,io,ic,po,pc,h1.mono fun k hk h3 h4=>by grind,h2⟩
theorem Dt.lt {E}{w}{n}{d}{a}{q}(h:Dt E w n d a q):n<w.heap.size:=by
 obtain⟨T,aa,tc,io,ic,po,pc,h1,_⟩:=h;exact h1.lt
theorem Ax5 (p x y)(w)(hx:∃t,x=bI #[aA t])(hy:∃C N vo rl vc,y=bI #[O X C,O X N,J vo rl vc]):bJ aJ 12 #[p,x,y] w fun e w'=>e=aR (bO aY)∧Below w.heap.size w w':=by
 obtain⟨t,rfl⟩:=hx;obtain⟨C,N,vo,rl,vc,rfl⟩:=hy;go_enter Tryz.func12,Tryz.ntmps12;go_wp2;go_ret;exact⟨rfl,Dd _ _ _⟩
def Pp (E:List Nat)(L:List Wd)(w w':bD)(e:Ending):Prop:=∃n,e=aR (.tuple #[bK (aD ⟨n,0,aB⟩),bO aY])∧w.heap.size≤n∧Br (n::E) w'∧Dt (n::E) w' n (I0 (Ge,0) (L.take 40)).1 (I0 (Ge,0) (L.take 40)).2 cL∧DbOk (I0 (Ge,0) (L.take 40)).1∧0≤(I0 (Ge,0) (L.take 40)).2∧Below w.heap.size w w'
theorem Xa {E:List Nat}(L:List Wd)(lo:Option Addr)(lc:Nat)(w:bD)(af:Env w)(hE:Br E w)(hl:An w (J lo L.length lc) L)(bp:L.length≤9223372036854775807):
  bJ aJ 8 #[J lo L.length lc,.func (.func 12) #[] #[]] w fun e w'=>Pp E L w w' e:=by
 have bh:=Ax4 w af;have bi:Hid _:=af;have HL:Hid _:=hl;have bj:Hid _:=hE;have h8:8≤w.heap.size:=af.low;clear hl af hE;go_enter Tryz.func8,Tryz.ntmps8;go_upto_region 3 with(go_fit bh;rintro e w1 ⟨rfl,am⟩);have HN:=Ari w1;obtain⟨an,ap⟩:=Arj (Br.below bj.out am);have ba:Below w.heap.size w (w1.alloc (aG #[J aB 0 0,J aB 0 0,J aB 0 0,O X 0] 67)):=Ac am (Aq w1 _);have ag:=am.size;generalize w1.alloc (aG #[J aB 0 0,J aB 0 0,J aB 0 0,O X 0] 67)=W2 at HN an ap ba;generalize w1.heap.size=n at HN an ap ag;go_upto_region 5 with(go_fit HN;rintro e w2 ⟨rfl,rfl⟩)
 go_loopw[7] (fun i wr=>∃(k:Nat) (d1:Db) (a1:Int),k≤L.length∧k≤40∧i=O X k∧Hid (I0 (Ge,0) (L.take 40)=I0 (d1,a1) ((L.take 40).drop k))∧Hid (Dt (n::E) wr n d1 a1 cL)∧Hid (DbOk d1)∧Hid (0≤a1)∧Hid (Br (n::E) wr)∧Below w.heap.size w wr) (fun i _=>40-(bS i).toNat)
 case atStart=>exact⟨0,Ge,0,aP _,aP _,rfl,rfl,ap.weak,Aml,Int.le_refl _,an,ba⟩
 case round=>
  obtain⟨k,d1,a1,hk,bq,rfl,aq,ah,ai,HA,ad,ac⟩:=hrel
  by_cases ar:k<L.length∧k<40
  ·obtain⟨ar,bt⟩:=ar;obtain⟨t,hx⟩:∃t,L[k]?=aD t:=⟨_,aI ar⟩;obtain⟨ab,ao,bu,bk,au,_,_,bb⟩:=An.at HL.out (by omega);cases bk;have y0:=bb k t hx;have y1:=(ac.cell au).trans y0;have aj:=U6 ad.out (cK) cL ah.out ai.out HA.out (bi.out.next ac) (show 8≤n by omega) t;have bl:Hid ((L.take 40).drop k=t::(L.take 40).drop _):=Sq (by grind);have av:Hid (I0 (d1,a1) ((L.take 40).drop k)=I0 ((doR d1 a1 t).2.1,(doR d1 a1 t).2.2) ((L.take 40).drop (k+1))):=by show _=_;rw[bl.out,I0]
   have aw:Hid (0≤(doR d1 a1 t).2.2):=A3i t HA.out;generalize doQ d1 a1 t cL=q2 at aj;generalize doR d1 a1 t=p at aj av aw;obtain⟨⟨C,N,rows⟩,d2,a2⟩:=p;simp only at av aw;have v0:(0:Int)≤k:=by omega
   have v1:k<(L.length:Int):=by omega
   have v2:(k:Int)<40:=by omega
   clear hx bb;go_upto_region 8 with(go_fit aj;rintro e w5 ⟨⟨rv,rfl,bc⟩,ax,ay,az⟩;obtain⟨vo,vc,rfl⟩:=bc.shape);generalize rows.length=rl at*;have bd:Br (n::E) w5:=by
    obtain⟨T,bv,tc,io,ic,po,pc,h1,_⟩:=ax;exact Br.put ad.out az (cK) h1 ay.cat
   obtain⟨ak,bX,-⟩:=al1 w5 (aG #[O X C,O X N,J vo rl vc] 32);have al:=Ac (ac.trans (az.below ag ac.size)) ak;have be:Hid _:=bd.below ak;have bf:Hid _:=(ax.below ak).weak;have bm:Hid _:=ay;have x0:=Aa bX (j:=0) rfl;have x1:=Aa bX (j:=1) rfl;have x2:=Aa bX (j:=2) rfl;have ae:=aF bX;have x3:=(al.cell au).trans y0;have bg:=bC au al.size;clear aj bc ax ay bd az ad ah ai;generalize w5.alloc _=W6 at ak bX al be bf x0 x1 x2 ae x3 bg⊢;generalize w5.heap.size=gX at bX x0 x1 x2 ae⊢;refine wp_region_held_drew (S:=(fun W=>W.cell? ⟨ab,ao+k,aB⟩=aD (aA t)∧W.cell? ⟨gX,0,aB⟩=aD (O X C)∧W.cell? ⟨gX,1,aB⟩=aD (O X N)∧W.cell? ⟨gX,2,aB⟩=aD (J vo rl vc))) (by rfl) ?_ (fun hHeld=>?_)
   ·simp_all
   refine tk 0 ?_;refine tk 1 ?_;refine tk 2 ?_;refine tk 3 ?_;refine tk 4 ?_;refine tk 5 ?_;refine tk 6 ?_;refine Bi 7 (fun K hK=>?_);go_simp
   (refine(Ax5 _ _ _ _ ⟨_,rfl⟩ ⟨_,_,_,_,_,rfl⟩).mono ?_;rintro e w7 ⟨rfl,bn⟩;have aa:=Ac (aT _ _).drew bn)
   go_wp2_with fail;refine hK.out _ _ ?_ (fun hHeld=>?_)
   ·exact⟨(aa.cell bg).trans x3,(aa.cell ae).trans x0,(aa.cell ae).trans x1,(aa.cell ae).trans x2⟩
   clear hK K;refine tk 8 ?_;refine wpAnyH_done (by kernel_rfl) ?_ _;go_wp2_with fail;go_roundw
   case rel=>exact⟨_,d2,a2,by omega,by omega,by rfl,aq.out.trans av.out,Dt.below bf.out aa,bm,aw,Br.below be.out aa,Ac al aa⟩
   case measure=>simp[bS];omega
  ·have HD:Hid ((L.take 40).drop k=[]):=List.drop_eq_nil_of_le (by grind)
   by_cases bw:k<L.length
   ·have v1:k<(L.length:Int):=by omega
    have bo:k=40:=by omega
    subst bo;go_wp2;go_ret2;unfold Pp;rw[aq.out,HD.out,I0];exact⟨n,rfl,ag,ad.out,ah.out,ai.out,HA.out,ac⟩
   ·have v1:¬(k<(L.length:Int)):=by omega
    go_wp2;go_ret2;unfold Pp;rw[aq.out,HD.out,I0];exact⟨n,rfl,ag,ad.out,ah.out,ai.out,HA.out,ac⟩
theorem A5x:∀(l:List Stm) (d:Db) (i:Nat) (aa:Rep),aa.code=0→(F9 d l i aa).1.code≠0→(F9 d l i aa).1.rows=[]
 |[],_,_,_,h,hc=>absurd h hc
 |s::l,d,i,aa,_,hc=>by
  unfold F9 at hc⊢;split at hc
  ·rename_i h;rw[if_pos h];exact A5x l _ _ _ h hc
  grind
theorem A6q {d}{a}{t}(h:(doR d a t).1.code≠0):(doR d a t).1.rows=[]∧(doR d a t).2.1=d:=by
 unfold doR at h⊢;split at h
 ·grind
 ·rename_i h1;rw[if_neg h1];split at h
  ·grind
  ·rename_i h2;rw[if_neg h2];split at h
   ·grind
   ·rename_i h3;rw[if_neg h3];exact⟨A5x _ _ _ _ rfl h,rfl⟩
theorem A64 (d)(a)(t):(doR d a t).1.code=0∨(doR d a t).1.code=1∨(doR d a t).1.code=2∨(doR d a t).1.code=3∨(doR d a t).1.code=4∨(doR d a t).1.code=5∨(doR d a t).1.code=7∨(doR d a t).1.code=8:=by
 unfold doR;split
 ·simp
 ·split
  ·have:=Ap5 t.data.toList;grind
  ·have:=Anm (A1 t.data.toList).1 d 0 M6 rfl;grind
theorem Dt.but {E}{w w'}{n m}{d}{a}{q}(h:Dt E w n d a q)(hb:But m w w')(hm:m∈E)(aa:n≠m):Dt E w' n d a q:=by
 obtain⟨T,ab,tc,io,ic,po,pc,h1,h2⟩:=h;exact⟨T,ab,tc,io,ic,po,pc,h1.but hb hm aa,h2⟩
theorem Zp:∀(l:List Wd) (s:Db×Int),0≤s.2→s.2+l.length≤150→(I0 s l).2=s.2+l.length
 |[],s,_,_=>by simp[I0]
 |t::l,s,h0,h=>by
  simp only[aK]at h;have e:(doR s.1 s.2 t).2.2=s.2+1:=by unfold doR;grind
  rw[I0,Zp l _ (by simp only;omega) (by simp only;omega)];simp only[aK];omega
end
section
open Go.RowKit Go.Deep
section
variable {H:Type}{enc:cW×aU→H}{w:bD}{base:Nat}{spare:Nat→Bool}{held:Bool}
end
end
section
theorem A04 {H}(d:cS H):1≤Rows.uptoBulk d:=by
 cases d with
 |lit l=>cases l<;>simp[Rows.uptoBulk]
 |nil=>simp[Rows.uptoBulk]
 |ptr d=>simp[Rows.uptoBulk]
 |slice elems spare=>simp[Rows.uptoBulk]
 |agg parts=>simp[Rows.uptoBulk]
 |iface t d=>simp[Rows.uptoBulk]
 |map entries=>simp[Rows.uptoBulk]
 |held h=>simp[Rows.uptoBulk]
theorem Ap8 {H}(l:List (cS H)):l.length≤Rows.uptoBulkAll l:=by
 induction l with
 |nil=>simp
 |cons x r ih=>have:=A04 x;simp only[Rows.uptoBulkAll,aK];omega
end
section
open Go.RowKit Go.Deep Go.ChangeShapes
section
variable {H:Type}{enc:cW×aU→H}{w:bD}{base:Nat}{spare:Nat→Bool}{held:Bool}
theorem A05 (a b:List (cS H)):Rows.uptoBulkAll (a++b)=Rows.uptoBulkAll a+Rows.uptoBulkAll b:=by
 induction a with
 |nil=>simp[Rows.uptoBulkAll]
 |cons x r ih=>simp only[List.cons_append,Rows.uptoBulkAll,ih];omega
theorem Arm {D:Nat→cS H}:∀(n i:Nat),i<n→Rows.uptoBulk (D i)≤Rows.uptoBulkAll ((bG n).map D)
 |n+1,i,h=>by
  rw[cA,dP,A05];rcases dK (Nat.lt_succ_iff.1 h)with h1|h1
  ·have:=Arm (D:=D) n i h1;omega
  ·subst h1;simp[Rows.uptoBulkAll]
theorem Ai0 {α:Type}{K:Elem α}{F:Nat→Prop}{f:Nat→α}{g:Nat→List aU}:∀n:Nat,(∀i,i<n→K.R F w (f i) (g i))→All K F w ((bG n).map f) ((bG n).flatMap g)
 |0,_=>rfl
 |n+1,h=>by
  rw[cA,dP,cG];refine All.append (Ai0 n fun i hi=>h i (by omega)) ?_;have:=All.one (h n (by omega));grind
theorem Xb {g:Nat→List aU}{s}:∀(n:Nat),(∀i,i<n→(g i).length=s)→((bG n).flatMap g).length=n*s
 |0,_=>by simp
 |n+1,h=>by
  rw[cA,cG,aL,Xb n fun i hi=>h i (by omega)];grind
theorem Ant {g:Nat→List aU}{s:Nat}:∀(n i:Nat),(∀i,i<n→(g i).length=s)→i<n→∀j,j<s→((bG n).flatMap g)[i*s+j]?=(g i)[j]?
 |n+1,i,h,hi,j,hj=>by
  have hl:=Xb (g:=g) n fun i hi=>h i (by omega)
  rw[cA,cG];rcases dK (Nat.lt_succ_iff.1 hi)with h1|h1
  ·rw[List.getElem?_append_left (by rw[hl];have:=Nat.mul_le_mul_right s (show i+1≤n from h1);grind)];exact Ant n i (fun i hi=>h i (by omega)) h1 j hj
  simp_all
theorem Ai1 {α:Type}(d0:α)(K:Elem α)(t et:cW)(hu:Tryz.prog.underlying t=aD (.slice et))(hc:Tryz.prog.cellsOf et=K.size)(hK:0<K.size)(B:Nat)(Q:α→Prop)
  (ah:∀(ab:Nat) (cs:List aU) (x:cS H×List dB),Rows.uptoBulk x.1≤B→cU enc aJ w base spare held ab et cs=aD x→∃a,K.R (fun k=>k<w.heap.size) w a cs∧Q a)
  {ab:Nat}{sv:aU}{x:cS H×List dB}(hB:Rows.uptoBulk x.1≤B) (h:cU enc aJ w base spare held ab t [sv]=aD x):
  ∃l:List α,IsL K (fun k=>k<w.heap.size) w sv l∧(∀a∈l,Q a)∧l.length≤Rows.uptoBulk x.1:=by
 rcases open_slice hu h with⟨hcs,rfl⟩|⟨ad,len,cap,m,n5,D,Pl,hcs,hb,hlc,hm,hmm,rfl,hxx⟩
 ·simp only[bN,and_true]at hcs;subst hcs;exact⟨[],IsL.nil K _ w,by simp,aP _⟩
 ·simp only[bN,and_true]at hcs;subst hcs;have ap:len≤m:=by rw[hmm];split<;>omega
  have ai:Rows.uptoBulkAll ((bG len).map D)≤B:=by simp only[Rows.uptoBulk]at hB;omega
  have aq:len≤Rows.uptoBulkAll ((bG len).map D):=by have:=Ap8 ((bG len).map D);simpa using this
  have e1:∀i,i<len→∃r:α×List aU,K.R (fun k=>k<w.heap.size) w r.1 r.2∧Q r.1∧∀j u,r.2[j]?=aD u→w.cell? (ad.add (i*K.size+j))=aD u:=by
   intro i hi;obtain⟨ae,h1,h2⟩:=hxx i (by omega);rw[hc]at h1;obtain⟨_,ar,aj⟩:=World.cells?_some h1;obtain⟨a,ha,hq⟩:=ah n5 ae (D i,Pl i) (aO (Arm len i hi) ai) h2;refine⟨(a,ae),ha,hq,fun j u hj=>?_⟩;have ac:=(aV.1 hj).1;simp only at ac;have:=aj j (by omega);rw[add_add]at this;rw[this];exact hj
  have:Inhabited (α×List aU):=⟨(d0,[])⟩;obtain⟨f,hf⟩:=choose_lt e1;refine⟨(bG len).map fun i=>(f i).1,⟨(bG len).flatMap fun i=>(f i).2,?_,Ai0 len fun i hi=>(hf i hi).1⟩,?_,?_⟩
  ·have aa:∀i,i<len→(f i).2.length=K.size:=fun i hi=>K.len (hf i hi).1
   refine⟨by rw[Xb len aa];simp,?_⟩;rcases Nat.eq_zero_or_pos len with rfl|hpos
   ·grind
   ·obtain⟨b,ak,au⟩:=ad;obtain⟨u0,al⟩:∃u,(f 0).2[0]?=aD u:=⟨_,aI (by rw[aa 0 hpos];exact hK)⟩;have af:=(hf 0 hpos).2.2 0 u0 al;have am:=by simpa[cV]using World.cell?_spot af
    subst am;have ag:=by have:=block_lt_of_cell af;simpa[cV]using this
    refine .inr ⟨by simpa using hpos,b,ak,cap,by simp,ag,ag,by simpa using hlc,hm,fun j u hj=>?_⟩;have ac:=(aV.1 hj).1;rw[Xb len aa]at ac;have hi:j/K.size<len:=Nat.div_lt_of_lt_mul (by grind);have an:j%K.size<K.size:=Nat.mod_lt _ hK;have ej:j/K.size*K.size+j%K.size=j:=by rw[Nat.mul_comm];exact Nat.div_add_mod j K.size
    rw[←ej,Ant len _ aa hi _ an]at hj;have:=(hf _ hi).2.2 _ u hj;rw[cM,ej]at this;omega
  ·grind
  ·simp only[Rows.uptoBulk,List.length_map,List.length_range];omega
end
end
section
open Go.ChangeShapes Go.WideShapes Go.ChangeAt Go.RowKit Go.Joins
theorem Tp:Tryz.prog.cellsOf 28=1:=by kernel_rfl
theorem Aff:Tryz.prog.cellsOf 9=1:=by kernel_rfl
theorem Arn:∃f0:Field,Tryz.prog.underlying 28=aD (.struct #[f0])∧f0.offset=0∧f0.type=9:=
 ⟨_,dJ,rfl,rfl⟩
theorem A06 {H:Type}{enc:cW×aU→H}{w:bD}{base:Nat}{ab:Nat→Bool}{held:Bool}{r:Reach}{b0:Nat}{v:aU}{d:cS H}{p:List dB}
  (hv:Value.okWide aJ w r b0 28 v) (h:DataW.Trod enc aJ w base ab held 28 v d p):∃t:ByteArray,v=bI #[aA t]:=by
 obtain⟨cs,rfl,aa⟩:=okWide_struct dJ hv;obtain⟨ac,hf⟩:=h;obtain⟨f0,hu,o0,t0⟩:=Arn;obtain⟨y0,n,_,hl,h0⟩:=trod_struct1 hu hf;rw[Tp]at aa;rw[o0,t0,Aff]at h0;obtain⟨c0,rfl⟩:∃c0,cs=#[c0]:=Array.size_eq_one_iff.1 aa;simp only[Value.cells,List.drop_zero,dD,cD]at h0;obtain⟨s,e2,_,hs⟩:=dE dN h0;simp only[bN,and_true]at e2;subst e2;exact⟨s,rfl⟩
theorem Ai2 {H:Type}{enc:cW×aU→H}{w:bD}{base:Nat}{aa:Nat→Bool}{held:Bool}{ab:Nat}{cs:List aU}{x:cS H×List dB}
  (hf:cU enc aJ w base aa held ab 28 cs=aD x):∃t:Wd,Nz.R (fun k=>k<w.heap.size) w t cs∧True:=by
 obtain⟨d,p⟩:=x;obtain⟨f0,hu,o0,t0⟩:=Arn;obtain⟨y0,n,_,hl,h0⟩:=trod_struct1 hu hf;rw[Tp]at hl;rw[o0,t0,Aff]at h0
 match cs,hl with
 |[c0],_=>
  simp only[List.drop_zero,dD,cD]at h0;obtain⟨s,e2,_,hs⟩:=dE dN h0;simp only[bN,and_true]at e2;subst e2;exact⟨s,rfl,trivial⟩
theorem Aro {F:Nat→Prop}{w:bD}{sv:aU}{l:List Wd}(h:IsL Nz F w sv l):An w sv l:=by
 obtain⟨cs,h1,h2⟩:=h;have e:∀{l:List Wd}{cs:List aU},All Nz F w l cs→cs=l.map aA:=by
  intro l
  induction l with
  |nil=>intro cs h;exact h
  |cons a l ih=>
   rintro cs ⟨c,rest,rfl,h3,h4⟩;obtain rfl:c=_:=h3;rw[ih h4];rfl
 have:=h1.row;rw[e h2]at this;exact this
theorem Zq {w:bD}{g:Nat}{t:cW}{zero:Array aU}(h:w.ShapedOpen aJ)(hg:g<Tryz.prog.globals.size)
  (h0:((begin aJ (fun _ _=>0) default).world.heap[g]?).bind Obj.row? =aD (zero,t)) (hz:zero.size=1)
  (hb:Tryz.prog.buildable t=aY) (hc:Tryz.prog.cellTypes Tryz.prog.depth t=aD [t]) (hu:Tryz.prog.underlying t=aD (.int .i64)):∃m,w.cell? ⟨g,0,aB⟩=aD (.int .i64 m):=by
 obtain⟨cs,hh,hs,hr⟩:=h.1 g zero t hg h0;obtain⟨ts,ab,_,ac⟩:=hr hb;rw[hc]at ab;cases ab;have h1:0<cs.size:=by omega
 obtain⟨u,ad,aa⟩:=ac 0 cs[0] (by simp[h1]);have:u=t:=by simpa using ad.symm
 subst this;have ae:w.cell? ⟨g,0,aB⟩=aD cs[0]:=by simp[World.cell?,hh,h1]
 rw[ae];unfold Cell.ok at aa;rw[hu]at aa;cases hv:cs[0]<;>rw[hv]at aa<;>first|(simp at aa;obtain⟨rfl,_⟩:=aa;exact⟨_,rfl⟩)|simp at aa
theorem Rh {W:bD}{n:String}{nm:String}{d:cS Unit}{g:Nat}{t:cW}{ms:Array (String×cW)}{cs:Array aU}{aa:Nat}{p:List dB}(hg:Tryz.prog.globalNamed n=aD g)(hi:Tryz.prog.underlying t=aD (.interface ms))
  (ab:W.var? aJ n=aD cs) (hd:cU (fun _=>()) aJ W 0 (fun _=>aY) cL aa t cs.toList=aD (.iface nm d,p)):∃u v,W.cell? ⟨g,0,aB⟩=aD (.iface u v):=by
 obtain⟨f',u,v,e,_⟩:=iface_of_trod hi hd;have hc:=World.var?_cell hg ab 0;have:cs[0]?=aD (.iface u v):=by rw[←Array.getElem?_toList,e];rfl
 rw[this]at hc;exact⟨u,v,hc⟩
def A5n:cS Unit→aU
 |.lit (.int k n)=>.int k n
 |_=>undef
def Cu:cS Unit→List aU
 |.agg l=>l.map A5n
 |_=>[]
def Nt:cS Unit→List aU
 |.agg l=>l.flatMap Cu
 |_=>[]
end
section
open Go.RowKit
theorem Nu:laidOutB aJ=aY:=by kernel_rfl
theorem Ax6:mapsRowed aJ=aY:=by kernel_rfl
theorem Arp:Tryz.prog.stopsHeard=aY:=by kernel_rfl
theorem Arq:Tryz.prog.mayEnter=aY:=by kernel_rfl
end
end Go.Proofs.YtocegbpmmiabmaaGreatDoor

/-
  38 texts of this proof in one,in build order:GMark,GIns,GSel,GSel2,GCount,GBound,GBound2,GBound3,GBound4,GClone,GUpd,GBound5,GBound6,GOne0,GOut,GDull,GDrop,GDele,GUpd2,GOne1,GOne2,GOne,SNext,SSkip,SName,SEnv,SMem,SOps,SRx,SExp,SExp2,SElem,SList,SBr,SStm1,SRq,SRun,SQry.
-/
import Derived.BigRegion
import Derived.Deep.MidRow
import Derived.Deep.LoopGhost
import Derived.Deep.RegionWith
import Derived.Maps.AppendAt
import Derived.OwnWalk
import Derived.Deep.CutRange
import Derived.Test.YtocegbpmmiabmaaGreatDoorJ01
import Derived.Test.YtocegbpmmiabmaaGreatDoorJ02
import Derived.Test.YtocegbpmmiabmaaGreatDoorJ03
import Derived.Test.YtocegbpmmiabmaaGreatDoorJ04
import Derived.Test.YtocegbpmmiabmaaGreatDoorJ05
import Derived.Test.YtocegbpmmiabmaaGreatDoorJ06
set_option linter.unusedSimpArgs false
set_option linter.unusedVariables false
set_option maxRecDepth 100000
set_option maxHeartbeats 0
open Go.Value renaming agg→aU,bool→dP,int→U,oneCell'→bO,ownBlock→eP,pointer→aG,slice→C,string→Z,tuple→bU
open Go renaming Calls→aR,FuncId→dY,TypeId→bW,Value→aL,World→aJ,bodyPost_ret→aM,info_parts→dF,lt_of_block→aA,maxLen→cG,results→eI,results_cell_row→aP,undef→dL,wpAnyH_done→cI,wpAnyH_take→dR,wpList→bG,wpList_append_own_at→bM,wpList_load_row→cB,wpList_store_row→aO,wp_region_held_drew→bE
open Option renaming none→J,some→O,toList_some→eB
open List renaming any_eq_false→eK,eq_nil_of_length_eq_zero→bY,foldl_cons→dJ,forall_mem_cons→cT,getElem?_eq_getElem→aB,getElem?_eq_some_iff→cD,getElem?_map→cE,getElem?_zip_eq_some→dQ,getElem_mem→cH,getElem_of_mem→bB,headD_cons→cN,length_append→cY,length_cons→eN,length_drop→eM,length_filter_le→cO,length_map→aX,length_set→dI,length_singleton→dX,length_take→bK,length_zip→eT,mem_cons_of_mem→eC,mem_cons_self→eF,mem_filter→aW,mem_map→cL,mem_of_getElem?→aS,mem_singleton→cA,not_mem_nil→dE,setIfInBounds_toArray→dN,set_cons_succ→cX,set_cons_zero→eE,take_add_one→bI,take_length→bV,take_of_length_le→bF
open Go.Proofs.Tryz renaming func32→eA,func365→dC,func89→cS,ntmps32→dT,ntmps365→cW,ntmps89→cK,prog→aC,results225→cM,results26→bC,results286→eR,results33→bJ,results332→bN,results368→eQ,underlying30→dB,underlying32→aT,underlying48→dA,underlying50→aN,underlying79→eJ
open Go.IntKind renaming i64→Y
open Go.Obj renaming cells→aD
open Nat renaming add_zero→dW,le_refl→aE,le_trans→aH,lt_of_lt_of_le→cC,ne_of_lt→bL,zero_le→bA
open Go.RowKit.Below renaming heap_setCell→bD,refl→aF
open Go.Ending renaming returned→aI
open Bool renaming and_eq_false_iff→dZ,and_eq_true→aY,eq_iff_iff→eU,false→aQ,false_eq_true→eH,not_eq_false'→eG,not_eq_true'→eL,or_eq_false_iff→eD,or_eq_true→bZ,true→aK
open Except.ok renaming inj→aV
open Go.World renaming cell?→dD,cell?_of_block→dV,frozen?→aZ,setRow→cZ,size_alloc→bQ
open Go.Lib renaming atoiAll→dK,atoiAll_plain→eO,extract_data→dH,parseUint10→cP,toList_data→bH
open Option.some renaming inj→bP,injEq→cR
open Int renaming toNat_natCast→cF
open UInt8 renaming toNat_inj→cJ
open Go.Proofs renaming intOf→cQ
open And renaming intro→cU
open Go.Value.slice renaming inj→cV
open Go.Value.agg renaming inj→dG
open Go.Addr.mk renaming injEq→dM
open Array renaming getElem?_eq_getElem→dO,getElem?_modify→dU,toList→dS
open Go.Region renaming wanted→eS
open Except renaming error→eV
namespace Go.Proofs.YtocegbpmmiabmaaGreatDoor
section
open Go.RowKit
theorem Br.lt {E}{w}(h:Br E w){b}(hb:b∈E):b<w.heap.size:=by
 obtain⟨c,T,a,tv,iv,pv,h1,_⟩:=h b hb;exact h1.lt
theorem Aid {α}{K}{E}{w w'}{v}{l:List α}(hE:Br E w)(h:IsL K (fun k=>w.heap.size≤k) w' v l):IsL K (fun k=>k∉E) w' v l:=h.mono fun k _ hk hb=>by have:=hE.lt hb;omega
theorem Az8 {E}{n}{c}{T}{a}{to' io po}{tc ic pc}{w}(hE:Br E w)(hn:n∈E)(he:EngC E w n c T a (C to' c.tables.length tc) (C io c.indexes.length ic) (C po T.length pc))(az:Dv c=aK)(st)(cs)(hR:Ie.R (fun k=>k<w.heap.size) w st cs)(R)(ok:DbOk ⟨c,R⟩)(ah:Has ⟨c,R⟩ (flat T)){t}(bi:Bv c.tables st.table=O t)(bj:Dv (A8 c st)=aK)(hw:A8 c st=⟨c.tables,Eh IdxD.name c.indexes ⟨st.name,st.table,st.col⟩⟩):
  aR aC 37 #[aG (O ⟨n,0,J⟩),aU cs.toArray] w fun e w'=>e=aI (bU #[])∧∃cz da db dc an ap T2,EngC E w' n (A8 c st) T2 a (C cz (A8 c st).tables.length da) (C db (A8 c st).indexes.length dc) (C an T2.length ap)∧Has ⟨(A8 c st),R⟩ (flat T2)∧But n w w':=by
 obtain⟨aq,cb⟩:=Ee bi;obtain⟨cd,ef,eg⟩:=(Ed ok.cat).2.2 t aq;have hT:T.length≤450:=aH (Jb he.good) (Lv ok he.good ah);obtain⟨o1,c1,o2,c2,o3,c3,o4,c4,o5,c5,op,xk,xn,xs,s,ai,n8,o6,k6,c6,o7,c7,rfl,i1,i2,i3,i4,i5,i6,i7⟩:=Bb hR;have ar:=fun W (h:Below w.heap.size w W)=>Acm c (aU #[C to' c.tables.length tc,C io c.indexes.length ic]) st (sA st.kind st.name st.table st.col (C o1 st.cols.length c1) (C o2 st.rows.length c2) (C o3 st.sets.length c3) (C o4 st.frm.length c4) (C o5 st.out.length c5) op xk xn xs s ai n8 (C o6 k6 c6) (C o7 st.order.length c7) st.down st.n).toList w.heap.size W ⟨_,_,rfl,(he.tabs.mono (F':=fun k=>k<w.heap.size) fun k hk _=>hk).keep (Ae h),(he.idxs.mono (F':=fun k=>k<w.heap.size) fun k hk _=>hk).keep (Ae h)⟩ (Ie.keep (Ae h) hR) h.size (by have:=((Cw c).1 az).1;omega) (by have:=((Cw c).1 az).2.1;omega) ((Cw c).1 az).2.2.2.1 ((Cw c).1 az).2.2.2.2.2
 obtain⟨au,bS,-⟩:=al1 w (aD (sA st.kind st.name st.table st.col (C o1 st.cols.length c1) (C o2 st.rows.length c2) (C o3 st.sets.length c3) (C o4 st.frm.length c4) (C o5 st.out.length c5) op xk xn xs s ai n8 (C o6 k6 c6) (C o7 st.order.length c7) st.down st.n) 50);have av:=he.below au;have bk:=hE.below au;have dd:w.heap.size≠n:=(bL he.lt).symm;have bl:=Nq av bi;have ce:=Aa bS (j:=2) rfl;generalize hW:w.alloc (aD (sA st.kind st.name st.table st.col (C o1 st.cols.length c1) (C o2 st.rows.length c2) (C o3 st.sets.length c3) (C o4 st.frm.length c4) (C o5 st.out.length c5) op xk xn xs s ai n8 (C o6 k6 c6) (C o7 st.order.length c7) st.down st.n) 50)=W1 at au bS av bk bl ce;have HW:Hid _:=hW;have cf:Hid _:=bk;obtain⟨cg,ch,_⟩:=Ed bj;have cj:Hid _:=cg;have de:Hid _:=ch;have HA:Hid (F5 t.cols.length (rng T (Hm t.name) (Hn t.name))=R t.name):=Acd ok he.good ah aq;have df:Hid ((R t.name).length≤30):=ok.len t aq;have dg:Hid (∀r∈R t.name,Ga t r=aK):=ok.fit t aq;have ck:=Qc ok ah;have dh:Hid _:=Qd ah;have di:Hid (Has ⟨(A8 c st),R⟩ (Mm (flat T) (A8 c st).indexes t (R t.name))):=by
  show Has _ _;rw[hw];exact Azn ok ah aq (cb.symm)
 have dj:Hid _:=ck;have cl:Hid _:=bj;clear hW hE bk hR i1 i2 i3 i4 i5 i6 i7 cg ch ok ah bi hw bj ck cb;go_enter Tryz.func37,Tryz.ntmps37;go_upto_region 1 with fail;rw[HW.out];go_upto_region 2 with(go_fit bl;rintro e w2 ⟨ao,cc,rfl,cm,ba⟩);obtain⟨bb,bT,-⟩:=al1 w2 (aD #[Z t.name,C ao t.cols.length cc] 82);have aj:Below W1.heap.size W1 (w2.alloc (aD #[Z t.name,C ao t.cols.length cc] 82)):=ba.trans (bb.mono ba.size);have aa:=(aj.block _ (aA bS)).trans bS;have bc:=av.below aj;have bd:=Br.below cf.out aj;have bm:=My bd (cm.keep (Ai bb));have bn:=au.trans (aj.mono au.size);have be:w2.heap.size≠n:=by have:=aA av.blk;have:=ba.size;omega
 replace ar:=fun W (h:Below (w2.alloc (aD #[Z t.name,C ao t.cols.length cc] 82)).heap.size (w2.alloc (aD #[Z t.name,C ao t.cols.length cc] 82)) W)=>ar W (Ac bn h)
 generalize w2.alloc (aD #[Z t.name,C ao t.cols.length cc] 82)=W3 at bb aj bT aa bc bd bm bn ar⊢;generalize w2.heap.size=gT at bT be⊢;have q0:=Aa bc.blk (j:=0) rfl;have q1:=Aa bc.blk (j:=1) rfl;have bo:Hid _:=bd;have cn:Hid _:=bm;clear bl cm ba bb aj bS av cf ce bd bm HW;refine bE (S:=(fun W=>W.heap[w.heap.size]?=O (aD (sA st.kind st.name st.table st.col (C o1 st.cols.length c1) (C o2 st.rows.length c2) (C o3 st.sets.length c3) (C o4 st.frm.length c4) (C o5 st.out.length c5) op xk xn xs s ai n8 (C o6 k6 c6) (C o7 st.order.length c7) st.down st.n) 50))) (by kernel_rfl) ?_ (fun hHeld=>?_)
 ·exact((aF _ _).drew.block _ (aA aa)).trans aa
 refine tk 0 ?_;refine tk 1 ?_;refine tk 2 ?_;refine tk 3 ?_;refine dR (i:=5) (v:=aU (sA st.kind st.name st.table st.col (C o1 st.cols.length c1) (C o2 st.rows.length c2) (C o3 st.sets.length c3) (C o4 st.frm.length c4) (C o5 st.out.length c5) op xk xn xs s ai n8 (C o6 k6 c6) (C o7 st.order.length c7) st.down st.n)) rfl (by kernel_rfl) (by kernel_rfl) (by kernel_rfl) (fun _ _ _ h=>h) (Iw rfl 50 _ rfl w.heap.size rfl (sA st.kind st.name st.table st.col (C o1 st.cols.length c1) (C o2 st.rows.length c2) (C o3 st.sets.length c3) (C o4 st.frm.length c4) (C o5 st.out.length c5) op xk xn xs s ai n8 (C o6 k6 c6) (C o7 st.order.length c7) st.down st.n) 50 _ (fun _ h=>h) aN rfl D4) (by assumption) ?_;refine Bi 4 (fun K hK=>?_);go_simp;go_wp2_with fail;refine hK.out _ _ ?_ (fun hHeld=>?_)
 ·exact((aF _ _).drew.block _ (aA aa)).trans aa
 clear hK K;refine Bi 6 (fun K hK=>?_);go_simp
 (refine(ar _ (aF _ _).drew).mono ?_;rintro e w4 ⟨v4,rfl,⟨eh,ei,rfl,bp,bq⟩,co⟩;obtain⟨ac,ad,rfl⟩:=bp.shape;obtain⟨ae,af,rfl⟩:=bq.shape;have ag:Below W3.heap.size W3 w4:=Ac (aF _ _).drew co;have ak:=bc.below ag;have q4:=Aa ak.blk (j:=0) rfl;have q5:=Aa ak.blk (j:=1) rfl;have z4:w4.frozen? ⟨n,0,J⟩=aQ:=(by simp only[aZ,ak.blk];rfl);have z5:w4.frozen? ⟨n,1,J⟩=aQ:=(by simp only[aZ,ak.blk];rfl))
 go_wp2_with fail;refine hK.out _ _ ?_ (fun hHeld=>?_)
 ·exact(ag.block _ (aA aa)).trans aa
 clear hK K;refine tk 7 ?_;refine tk 8 ?_;refine Bi 9 (fun K hK=>?_);go_simp;go_wp2_with fail;refine hK.out _ _ ?_ (fun hHeld=>?_)
 ·exact Z8 ((ag.block _ (aA aa)).trans aa) dd
 clear hK K;refine cI (by kernel_rfl) ?_ _;have bf:=ak.storeCat (Br.below bo.out ag) hn bp bq;have bg:But n W3 ((w4.setCell ⟨n,0,J⟩ (C ac (A8 c st).tables.length ad)).setCell ⟨n,1,J⟩ (C ae (A8 c st).indexes.length af)):=((But.of_below ag).set _ _).set _ _;have bt:=Br.put bo.out bg hn bf cl.out;have aw:=Z8 (x:=C ac (A8 c st).tables.length ad) (y:=C ae (A8 c st).indexes.length af) ((ag.block _ (aA bT)).trans bT) be;have bu:=IsL.keep cn.out (Jr bg hn);generalize(w4.setCell ⟨n,0,J⟩ (C ac (A8 c st).tables.length ad)).setCell ⟨n,1,J⟩ (C ae (A8 c st).indexes.length af)=W5 at bf bg bt aw bu⊢;have bv:=Uc bf t ao cc (by omega) (aH cd (by decide)) dj.out;rw[HA.out]at bv;have t0:=Aa aw (j:=0) rfl;have t1:=Aa aw (j:=1) rfl;have bw:Hid _:=bt;have cp:Hid _:=bu;clear ar q0 q1 q4 q5 z4 z5 ak bp bq co ag bo cn bt bu aa;go_wp2_with(go_fit bv;rintro e w6 ⟨ej,rfl,bx,ax⟩;obtain⟨ro,rc,rfl⟩:=bx.shape);have dk:Hid _:=Aid bw.out bx;have dl:Hid _:=IsL.keep cp.out (Ai ax);have dm:=bf.below ax;have dn:Hid _:=Br.below bw.out ax;have cq:=(ax.block _ (aA aw)).trans aw;have dp:But n w w6:=((But.of_below bn).trans bg).trans (But.of_below ax);have dq:n≠gT:=fun e=>be e.symm
 clear bv t0 t1 bx bw cp;generalize ds:R t.name=rows at*;have ek:rows.length≤30:=df.out;clear ds
 go_loopw[24] (fun i wr=>∃(k:Nat) (an:Option Addr) (ap:Nat) (T2:List Pg),k≤rows.length∧i=U Y k∧EngC E wr n (A8 c st) T2 a (C ac (A8 c st).tables.length ad) (C ae (A8 c st).indexes.length af) (C an T2.length ap)∧Hid (flat T2=Mm (flat T) (A8 c st).indexes t (rows.take k)∧T2.length≤T.length+5*k∧Keyed (flat T2))∧But n w6 wr) (fun i _=>rows.length-(cQ i).toNat)
 case atStart=>exact⟨0,po,pc,T,bA _,rfl,dm,id ⟨rfl,aE _,dh.out⟩,But.refl _ _⟩
 case round=>
  obtain⟨k,an,ap,T2,hk,rfl,ab,HF,al⟩:=hrel
  by_cases dt:k<rows.length
  ·obtain⟨r,hx⟩:∃r,rows[k]?=O r:=⟨_,aB dt⟩;obtain⟨b,du,el,dv,_,en,⟨yv,rfl,bz⟩,cr⟩:=At (IsL.keep dk.out (Jr al hn)) hx;cases dv;obtain⟨yo,yc,rfl⟩:=bz.shape;have dw:=F6 bz;have d0:wr.cell? ⟨b,du+k,J⟩=O (C yo r.length yc):=by have:=cr 0 _ rfl;simpa[C8]using this
   obtain⟨ct,cu⟩:=B7 (dg.out r (aS hx));have cv:=fun v hv=>Iy (cu v hv)
   have dx:=IsL.keep dl.out (Jr al hn);have am:=(al.block _ (aA cq) be).trans cq;have dy:=Br.put dn.out al hn ab cl.out;have v0:(0:Int)≤k:=by omega
   have v1:k<(rows.length:Int):=by omega
   have q2:=Aa ab.blk (j:=2) rfl;have dz:Hid (Mm (flat T) (A8 c st).indexes t (rows.take (k+1))=putRow (Mm (flat T) (A8 c st).indexes t (rows.take k)) (A8 c st).indexes t r):=by
    show _=_;rw[bI,hx,eB,As1]
   have HD:=fun W h=>Aem _ t r T2 _ (C ac (A8 c st).tables.length ad) _ _ _ _ W ⟨_,rfl,ab.pages.pages.below h⟩ ab.good (by have:=HF.out.2.1;omega) (Ca _ _ _) ((ab.below h).idxs.mono (fun k hk _=>hk)) ((dx.keep (Ai h)).mono (fun k hk _=>hk)) (aE _) (dw.below h) ct (by omega) (by omega) cv (fun x hx=>aH (de.out x hx) (by simp)) (aH cd (by simp)) (by have:=cj.out;omega)
   have KS:Hid _:=fun W (h:Below _ wr W)=>cU (show W.cell? _=O (C ac _ ad)from Aa (ab.below h).blk (j:=0) rfl) (cU (show W.cell? _=O (C ae _ af)from Aa (ab.below h).blk (j:=1) rfl) (cU (show W.cell? _=O (Z _)from Aa ((h.block _ (aA am)).trans am) (j:=0) rfl) (show W.cell? _=O (C ao _ cc)from Aa ((h.block _ (aA am)).trans am) (j:=1) rfl)))
   have KT:Hid _:=fun W (h:Below _ wr W) x=>Zd (ab.below h).blk ((h.block _ (aA am)).trans am) dq x
   clear hx cr bz cu cv ct;go_wp2_with fail;refine bE (S:=(fun W=>W.cell? ⟨n,0,J⟩=O (C ac (A8 c st).tables.length ad)∧W.cell? ⟨n,1,J⟩=O (C ae (A8 c st).indexes.length af)∧W.cell? ⟨gT,0,J⟩=O (Z t.name)∧W.cell? ⟨gT,1,J⟩=O (C ao t.cols.length cc))) (by rfl) ?_ (fun hHeld=>?_)
   ·exact KS.out _ (aF _ _).drew
   refine tk 0 ?_;refine tk 1 ?_;refine tk 2 ?_;refine tk 3 ?_;refine tk 5 ?_;refine tk 6 ?_;refine tk 7 ?_;refine tk 8 ?_;refine tk 9 ?_;refine tk 10 ?_;refine Bi 4 (fun K hK=>?_);go_simp;go_wp2_with fail;refine hK.out _ _ ?_ (fun hHeld=>?_)
   ·omega
   clear hK K;refine Bi 11 (fun K hK=>?_);go_simp
   (go_fit(HD _ (aF _ _).drew);rintro e w9 ⟨eo,T9,rfl,bh,ea,cx,ep,eb⟩;obtain⟨et,rfl,bh⟩:=bh;obtain⟨ec,c9,rfl⟩:=Ct bh;have ay:=Ac (aF _ _).drew eb;have ca:=ab.below ay;have q9:=Aa ca.blk (j:=2) rfl;have z9:w9.frozen? ⟨n,2,J⟩=aQ:=(by simp only[aZ,ca.blk];rfl))
   go_wp2_with fail;refine hK.out _ _ ?_ (fun hHeld=>?_)
   ·exact KS.out _ ay
   clear hK K;refine tk 12 ?_;refine tk 13 ?_;refine Bi 14 (fun K hK=>?_);go_simp;go_wp2_with fail;refine hK.out _ _ ?_ (fun hHeld=>?_)
   ·exact KT.out _ ay _
   clear hK K;refine cI (by kernel_rfl) ?_ _;go_wp2_with fail;have cy:Keyed (flat T9):=by rw[cx];exact Ah0 HF.out.2.2
   go_roundw
   case rel=>exact⟨k+1,ec,c9,T9,by omega,by rfl,ca.store (dy.below ay) hn bh ea cy,id ⟨by rw[cx,HF.out.1,dz.out],by have h1:=HF.out.2.1;have h2:=cj.out;omega,cy⟩,al.trans ((But.of_below ay).set _ _)⟩
   case measure=>simp[cQ];omega
  ·have ed:k=rows.length:=by omega
   subst ed;have v1:¬(rows.length<(rows.length:Int)):=by omega
   have h1:=HF.out.1;rw[bV]at h1;have ee:Hid (Has ⟨(A8 c st),R⟩ (flat T2)):=by show Has _ _;rw[h1];exact di.out
   clear h1;go_wp2
   go_end0
   exact⟨rfl,ac,ad,ae,af,an,ap,T2,ab,ee.out,dp.trans al⟩
theorem Li.ltr {E}{n}{t}{d}{rows}{a}{tv iv}{w w'}{e}{b}(h:Li E n t d rows a tv iv w w' e b):∃(N m:Int),e=aI (bU #[U Y N,U Y m])∧Hid (Li E n t d rows a tv iv w w' (aI (bU #[U Y N,U Y m])) b):=by
 have h1:=h.1;subst h1;exact⟨_,_,rfl,h⟩
theorem Li.from {E}{n}{t}{d}{rows}{a}{tv iv}{w0 w w'}{e}{b}(h:Li E n t d rows a tv iv w w' e b)(hb:But n w0 w):Li E n t d rows a tv iv w0 w' e b:=by
 obtain⟨h1,aa,ab,T',h2,h3,h4,h6,h5⟩:=h;exact⟨h1,aa,ab,T',h2,h3,h4,h6,hb.trans h5⟩
theorem Ajr {E:List Nat}{n:Nat}{d:Db}{T:List Pg}{a:Int}{av io po:Option Addr}{tc ic pc:Nat}{w:aJ}(hE:Br E w)(hn:n∈E)(he:EngC E w n d.c T a (C av d.c.tables.length tc) (C io d.c.indexes.length ic) (C po T.length pc))(ok:DbOk d)(bm:Has d (flat T))(st:Stm)(cs:List aL)(hR:Ie.R (fun k=>k∉E) w st cs){t:TabD}(ah:Bv d.c.tables st.table=O t)(dc:st.rows.length≤1000000)(ad:∀l∈st.rows,l.length≤16777216∧∀e∈l,Fk e)(aw:∀l∈st.rows,Jh t (l.map (ev [])))(bq:Bool:=false)(bn:bq=aK→d.c.indexes.length≤0∧T.length≤1∧(flat T).length+st.rows.length≤4:=by nofun):
  aR aC 40 #[aG (O ⟨n,0,J⟩),aU cs.toArray] w fun e w'=>Li E n t d (st.rows.map fun l=>l.map (ev [])) a (C av d.c.tables.length tc) (C io d.c.indexes.length ic) w w' e bq:=by
 obtain⟨i0,bo,bp,bt,bu⟩:=dF P5;obtain⟨o1,c1,o2,c2,o3,c3,o4,c4,o5,c5,op,xk,xn,xs,s,ax,n8,o6,k6,c6,o7,c7,rfl,i1,i2,i3,i4,i5,i6,i7⟩:=Bb hR;have bv:=(Ee ah).1;obtain⟨ae,bS,-⟩:=al1 w (aD (sA st.kind st.name st.table st.col (C o1 st.cols.length c1) (C o2 st.rows.length c2) (C o3 st.sets.length c3) (C o4 st.frm.length c4) (C o5 st.out.length c5) op xk xn xs s ax n8 (C o6 k6 c6) (C o7 st.order.length c7) st.down st.n) 50);have ai:=he.below ae;have aj:=hE.below ae;have ak:=i2.keep (Ai ae);generalize hW:w.alloc (aD (sA st.kind st.name st.table st.col (C o1 st.cols.length c1) (C o2 st.rows.length c2) (C o3 st.sets.length c3) (C o4 st.frm.length c4) (C o5 st.out.length c5) op xk xn xs s ax n8 (C o6 k6 c6) (C o7 st.order.length c7) st.down st.n) 50)=W1 at ae bS ai aj ak;have HW:Hid _:=hW;have al:Hid _:=aj;have bw:Hid _:=ak;have bx:Hid _:=ad;have bz:Hid (∀r∈st.rows.map (fun l=>l.map (ev [])),Jh t r):=fun r hr=>by
  obtain⟨l,hl,rfl⟩:=cL.1 hr;exact aw l hl
 have ay:=fun W (h:Below W1.heap.size W1 W)=>Nq (ai.below h) ah
 have az:=fun ao cc rv W (h:Below W1.heap.size W1 W) (hc:IsL Cp (fun k=>k∉E) W (C ao t.cols.length cc) t.cols) (hr:IsL C8 (fun k=>k∉E) W rv (st.rows.map fun l=>l.map (ev [])))=>Aex (Br.below al.out h) hn (ai.below h) ok bm t ao cc hc _ rv hr bz.out bv bq (fun hb=>by rw[aX];exact bn hb)
 have ca:Hid _:=az;have cb:Hid _:=ay;have a5:=Aa bS (j:=5) rfl;clear hW hE aj hR ak ad aw i1 i2 i3 i4 i5 i6 i7 az ay ah;have ba:(st.rows.map fun l=>l.map (ev [])).length=st.rows.length:=by simp
 have bb:Hid _:=ba;clear ba;go_enter Tryz.func40,Tryz.ntmps40;go_upto_region 1 with fail;rw[HW.out];go_wp2
 go_loopw[6,12] (fun zv i wr=>∃k:Nat,k≤st.rows.length∧i=U Y k∧Hid (Dm W1.heap.size zv ((st.rows.map fun l=>l.map (ev [])).take k) wr)∧Below W1.heap.size W1 wr) (fun _ i _=>st.rows.length-(cQ i).toNat)
 case atStart=>exact⟨0,bA _,rfl,B8 _ _,aF _ _⟩
 case round=>
  obtain⟨k,hk,rfl,am,aa⟩:=hrel;have af:=aa.size
  by_cases cd:k<st.rows.length
  ·obtain⟨l,hx⟩:∃l,st.rows[k]?=O l:=⟨_,aB cd⟩;obtain⟨b,ce,dd,cf,_,de,⟨yv,rfl,an⟩,bc⟩:=At (IsL.keep bw.out (Ai aa)) hx;cases cf;obtain⟨yo,yc,rfl⟩:=an.shape;have d0:wr.cell? ⟨b,ce+k,J⟩=O (C yo l.length yc):=by have:=bc 0 _ rfl;simpa[H7]using this
   obtain⟨bd,be⟩:=bx.out l (aS hx);have cg:=Ub l _ _ [] _ wr (an.mono (fun k hk _=>hk)) (aE _) be bd (.inl ⟨⟨J,0,rfl,fun _=>rfl⟩,rfl⟩) (fun v hv=>by grind) (bA _);have ch:Hid ((st.rows.map fun l=>l.map (ev [])).take (k+1)=(st.rows.map fun l=>l.map (ev [])).take k++[l.map (ev [])]):=by
    show _=_;rw[bI,cE,hx];rfl
   obtain⟨cj,bf,bg⟩:=am.out;have ap:((st.rows.map fun l=>l.map (ev [])).take k).length=k:=by rw[bK,bb.out];omega
   have ck:Hid _:=ap;have bh:=by have:=bf;rwa[ap]at this
   have cl:=bh.lt;have cm:Hid _:=bg;have v0:(0:Int)≤k:=by omega
   have v1:k<(st.rows.length:Int):=by omega
   clear hx bc an bd be bf bg ap;go_wp2_with(first
    |(go_fit cg;rintro e w2 ⟨vv,rfl,ad,cn⟩;obtain⟨ab,ac,rfl⟩:=Ex.shape (Ex.of_own ad);have ag:Below _ wr (w2.alloc (aD [C ab l.length ac].toArray 79)):=Ac cn (Aq _ _);have co:=Ak bh ag;have cp:=Cb w2 [C ab l.length ac] 79;have bi:=aH af ag.size)
    |(at_builtin;go_must(refine bM _ rfl _ _ 30 rfl _ 79 i0 _ 1 24 dB bo bp bt bu rfl (by simp) _ _ _ rfl co _ 1 1 _ rfl rfl cp ?h1 (by simp only[cG];omega) (by omega) bi ?h2)))
   case h1=>simp only[cT];repeat(first|exact fun _ h=>absurd h dE|refine⟨rfl,?_⟩)
   case h2=>
    intro z2 w4 cq bj _ cr;have ct:z2.ownBlock=u6.ownBlock∨z2.ownBlock=O (w2.alloc (aD [C ab l.length ac].toArray 79)).heap.size:=by rw[bQ];exact cr
    have cu:w2.ownsRow wr.heap.size 46 3 (C ab l.length ac) (l.map (ev [])).length (Ax (l.map (ev []))):=by rw[aX];exact ad
    have cv:IsL Ly (FO _ u6) (w2.alloc (aD [C ab l.length ac].toArray 79)) _ _:=
     (Nf cu fun k hk=>⟨aH af hk,fun e=>by grind⟩).keep (Ai (Aq _ _))
    have cx:w4.ownsRow W1.heap.size 79 1 z2 (((st.rows.map fun l=>l.map (ev [])).take k).length+1) (cj++[C ab l.length ac]):=by rw[ck.out];exact cq
    have df:=L9 cx (All.keep (Ai ag) cm.out) cv bj ct;go_wp2_with fail;go_roundw
    case rel=>exact⟨k+1,by omega,by rfl,by show Dm _ _ _ _;rw[ch.out];omega,(aa.trans (ag.mono af)).grown bj bi fun k hk=>(cl k hk).1⟩
    case measure=>simp[cQ];omega
  ·have cy:k=st.rows.length:=by omega
   subst cy;have v1:¬(st.rows.length<(st.rows.length:Int)):=by omega
   have aq:=am.out;rw[bF (by simp)]at aq;have ar:IsL C8 (fun k=>k∉E) wr u6 _:=aq.isL fun k hk hb=>by have:=Br.lt al.out hb;omega
   obtain⟨uo,uc,bk⟩:=ar.shape;rw[bb.out]at bk;subst bk;have a2:=Aa ((aa.block _ (aA bS)).trans bS) (j:=2) rfl;have cz:Hid _:=ar;clear aq ar am;go_wp2_with(first
    |(go_fit(cb.out wr aa);rintro e w5 ⟨ao,cc,rfl,da,bl⟩;have au:=aa.trans (bl.mono af);have HP:=ca.out ao cc _ w5 au (My (Br.below al.out au) da) (IsL.keep cz.out (Ai bl));have HP:=HP.mono fun e w' h=>h.ltr)
    |(go_fit HP;rintro e w6 ⟨N6,m6,rfl,db⟩))
   go_ret2;exact Li.from db.out (But.of_below (Ac ae au))
def Atn (st:Stm)(A:List Fnd):List Fnd:=if 0≤st.n then A.take st.n.toNat else A
theorem Am1 {Eg:List Nat}{n:Nat}{d:Db}{T:List Pg}{a:Int}{cq io po:Option Addr}{tc ic pc:Nat}{w:aJ}(he:EngC Eg w n d.c T a (C cq d.c.tables.length tc) (C io d.c.indexes.length ic) (C po T.length pc))(ok:DbOk d)(bi:Has d (flat T))(bj:K9 d.c)(st:Stm)(cs:List aL)(hR:Ie.R (fun k=>k<w.heap.size) w st cs)(ts:List TabD)(bk:ts.length=st.frm.length)(aq:∀(k:Nat) (nm:Wd) (t:TabD),st.frm[k]?=O nm→ts[k]?=O t→Bv d.c.tables nm=O t)(h2:ts.length≤2)(bl:Fk st.wher)(bm:Df st.wher)(bn:geB 40 st.wher=aK→Mv 40 st.wher)(cr:st.order.length≤1000000)(bo:∀e∈st.order,Fk e)(ct:st.out.length≤16777216)(bp:∀e∈st.out,Fk e):
  aR aC 43 #[aG (O ⟨n,0,J⟩),aU cs.toArray] w fun e w'=>∃A2:List Fnd,A2.Perm (((Cj (Hd d) 0 [⟨[],[],[]⟩] ts).filter fun f=>Au st.wher f.row).map (G5 st))∧(A2.Pairwise fun a b=>¬Ku (Hh st) b a<0)∧Ng w w' e ((Atn st A2).map fun f=>st.out.map (ev f.row)):=by
 obtain⟨i0,cu,cv,cx,cy⟩:=dF P5;obtain⟨o1,c1,o2,c2,o3,c3,o4,c4,o5,c5,op,xk,xn,xs,s,aa,n8,o6,k6,c6,o7,c7,rfl,i1,i2,i3,i4,i5,i6,i7⟩:=Bb hR;have ak:∀t∈ts,t∈d.c.tables:=fun t ht=>by
  obtain⟨k,hk,rfl⟩:=bB ht;exact(Ee (aq k _ _ (aB (show k<st.frm.length by omega)) (aB hk))).1
 have bq:=(Ed ok.cat).2.2;have ar:Hid ((Cj (Hd d) 0 [⟨[],[],[]⟩] ts).length≤900∧∀f∈Cj (Hd d) 0 [⟨[],[],[]⟩] ts,f.row.length≤8∧f.ids.length≤2∧∀v∈f.row,good v=aK):=by
  have hA:∀t∈ts,∀a,(Hd d t a).length≤30∧∀r∈Hd d t a,r.length=t.cols.length∧∀v∈r,good v=aK:=fun t ht a=>⟨ok.len t (ak t ht),fun r hr=>B7 (ok.fit t (ak t ht) r hr)⟩
  obtain⟨j1,j2⟩:=Wk (A:=Hd d) ts 0 0 [⟨[],[],[]⟩] (fun t h a=>⟨(hA t h a).1,fun r hr=>((hA t h a).2 r hr).1⟩) (fun f hf=>by rw[cA]at hf;rw[hf];exact⟨rfl,aE _⟩);have j3:=Am0 (c:=4) ts fun t h=>(bq t (ak t h)).2.2
  rw[dX,Nat.one_mul]at j1;refine⟨aH j1 (Nat.pow_le_pow_right (by decide) h2),fun f hf=>?_⟩;have:=j2 f hf;exact⟨by omega,by omega,(Zc (A:=Hd d) (P:=fun v=>good v=aK) ts 0 [⟨[],[],[]⟩] (fun t h a r hr=>((hA t h a).2 r hr).2) (fun f hf v hv=>by rw[cA]at hf;rw[hf]at hv;cases hv)) f hf⟩
 obtain⟨ad,bS,-⟩:=al1 w (aD (sA st.kind st.name st.table st.col (C o1 st.cols.length c1) (C o2 st.rows.length c2) (C o3 st.sets.length c3) (C o4 st.frm.length c4) (C o5 st.out.length c5) op xk xn xs s aa n8 (C o6 k6 c6) (C o7 st.order.length c7) st.down st.n) 50);have au:=he.below ad;generalize hW:w.alloc (aD (sA st.kind st.name st.table st.col (C o1 st.cols.length c1) (C o2 st.rows.length c2) (C o3 st.sets.length c3) (C o4 st.frm.length c4) (C o5 st.out.length c5) op xk xn xs s aa n8 (C o6 k6 c6) (C o7 st.order.length c7) st.down st.n) 50)=W1 at ad bS au;have HW:Hid _:=hW;have av:∀W,Below W1.heap.size W1 W→aR aC 67 #[aG (O ⟨n,0,J⟩),aU (sA st.kind st.name st.table st.col (C o1 st.cols.length c1) (C o2 st.rows.length c2) (C o3 st.sets.length c3) (C o4 st.frm.length c4) (C o5 st.out.length c5) op xk xn xs s aa n8 (C o6 k6 c6) (C o7 st.order.length c7) st.down st.n)] W _:=fun W h=>Ajp (au.below h) ok bi bj st _ (Ie.mono (F':=fun k=>k<W.heap.size) (fun k hk _=>hk) (Ie.keep (Ae (Ac ad h)) hR)) ts bk aq h2 bl bm bn
 have ag:Hid (∀A:List Fnd,A.Perm ((Cj (Hd d) 0 [⟨[],[],[]⟩] ts).filter fun f=>Au st.wher f.row)→A.length≤900∧∀f∈A,f.row.length≤8∧f.ids.length≤2∧∀v∈f.row,good v=aK):=fun A hp=>⟨by rw[hp.length_eq];exact aH (cO _ _) ar.out.1,fun f hf=>ar.out.2 f (aW.1 (hp.mem_iff.1 hf)).1⟩
 generalize cz:((Cj (Hd d) 0 [⟨[],[],[]⟩] ts).filter fun f=>Au st.wher f.row)=FD at av ag;have bt:∀(A:List Fnd) (z:aL) (W:aJ),Below W1.heap.size W1 W→Di W1.heap.size z A W→Hid (A.Perm FD)→aR aC 66 #[aU (sA st.kind st.name st.table st.col (C o1 st.cols.length c1) (C o2 st.rows.length c2) (C o3 st.sets.length c3) (C o4 st.frm.length c4) (C o5 st.out.length c5) op xk xn xs s aa n8 (C o6 k6 c6) (C o7 st.order.length c7) st.down st.n),z] W _:=fun A z W h da hp=>Apm st _ A z W1.heap.size W (Ie.mono (F':=fun k=>k<W1.heap.size) (fun k _ hk=>cC hk ad.size) (Ie.keep (Ae (Ac ad h)) hR)) da h.size (by have:=(ag.out A hp.out).1;omega) cr bo (fun f hf=>by
  have:=(ag.out A hp.out).2 f hf;exact⟨by omega,aH this.1 (by decide),fun v hv=>Iy (this.2.2 v hv)⟩)
 have db:Hid _:=i5;have dc:Hid _:=bp;clear hW hR i1 i2 i3 i4 i5 i6 i7 aq ak ok bi bq bk cz bo bp he au ar bm bn bl bj;go_enter Tryz.func43,Tryz.ntmps43;go_upto_region 1 with fail;rw[HW.out];refine bE (S:=(fun W=>W.heap[w.heap.size]?=O (aD (sA st.kind st.name st.table st.col (C o1 st.cols.length c1) (C o2 st.rows.length c2) (C o3 st.sets.length c3) (C o4 st.frm.length c4) (C o5 st.out.length c5) op xk xn xs s aa n8 (C o6 k6 c6) (C o7 st.order.length c7) st.down st.n) 50))) (by kernel_rfl) ?_ (fun hHeld=>?_)
 ·exact bS
 refine tk 1 ?_;refine dR (i:=0) (v:=aU (sA st.kind st.name st.table st.col (C o1 st.cols.length c1) (C o2 st.rows.length c2) (C o3 st.sets.length c3) (C o4 st.frm.length c4) (C o5 st.out.length c5) op xk xn xs s aa n8 (C o6 k6 c6) (C o7 st.order.length c7) st.down st.n)) rfl (by kernel_rfl) (by kernel_rfl) (by kernel_rfl) (fun _ _ _ h=>h) (Iw rfl 50 _ rfl w.heap.size rfl (sA st.kind st.name st.table st.col (C o1 st.cols.length c1) (C o2 st.rows.length c2) (C o3 st.sets.length c3) (C o4 st.frm.length c4) (C o5 st.out.length c5) op xk xn xs s aa n8 (C o6 k6 c6) (C o7 st.order.length c7) st.down st.n) 50 _ (fun _ h=>h) aN rfl D4) (by assumption) ?_;refine dR (i:=2) (v:=aU (sA st.kind st.name st.table st.col (C o1 st.cols.length c1) (C o2 st.rows.length c2) (C o3 st.sets.length c3) (C o4 st.frm.length c4) (C o5 st.out.length c5) op xk xn xs s aa n8 (C o6 k6 c6) (C o7 st.order.length c7) st.down st.n)) rfl (by kernel_rfl) (by kernel_rfl) (by kernel_rfl) (fun _ _ _ h=>h) (Iw rfl 50 _ rfl w.heap.size rfl (sA st.kind st.name st.table st.col (C o1 st.cols.length c1) (C o2 st.rows.length c2) (C o3 st.sets.length c3) (C o4 st.frm.length c4) (C o5 st.out.length c5) op xk xn xs s aa n8 (C o6 k6 c6) (C o7 st.order.length c7) st.down st.n) 50 _ (fun _ h=>h) aN rfl D4) (by assumption) ?_;refine Bi 3 (fun K hK=>?_);go_simp
 (refine(av _ (aF _ _).drew).mono ?_;rintro e w7 ⟨zv,A,rfl,bu,bv,dd⟩;have aw:Below W1.heap.size W1 w7:=Ac (aF _ _).drew dd;have aj:Hid _:=bv)
 go_wp2_with fail;refine hK.out _ _ ?_ (fun hHeld=>?_)
 ·exact(aw.block _ (aA bS)).trans bS
 clear hK K;refine Bi 4 (fun K hK=>?_);go_simp
 (refine(bt _ _ _ aw bu aj).mono ?_;rintro e w8 ⟨rfl,A2,al,bw,ax,ae⟩;have af:Below W1.heap.size W1 w8:=aw.trans ae)
 go_wp2_with fail;refine hK.out _ _ ?_ (fun hHeld=>?_)
 ·exact(af.block _ (aA bS)).trans bS
 clear hK K;refine tk 5 ?_;refine cI (by kernel_rfl) ?_ _;clear av bt;have ed:=(ag.out A aj.out).1;have ah:A2.length=A.length:=by rw[al.length_eq,aX]
 have de:Hid (A2.Perm (FD.map (G5 st))):=al.trans (aj.out.map _);have bx:∀f∈A2,f.row.length≤8∧∀v∈f.row,good v=aK:=fun f hf=>by
  obtain⟨q,hq,rfl⟩:=cL.1 (al.mem_iff.1 hf);have:=(ag.out A aj.out).2 q hq;exact⟨this.1,this.2.2⟩
 obtain⟨zo,zc,hz,ee⟩:∃zo zc,zv=C zo A.length zc∧A.length≤zc:=by
  have h1:=Di.isL ax;obtain⟨ef,h2,_⟩:=h1;rcases h2.row.2 with⟨h0,ao,cap,h3,_⟩|⟨_,b,df,cap,h3,_,h4,_⟩
  ·exact⟨ao,cap,by rw[h3,←ah,h0],by omega⟩
  ·exact⟨_,cap,by rw[h3,ah],by omega⟩
 subst hz;obtain⟨m,hm,bz,ca⟩:∃m:Nat,m≤A.length∧Atn st A2=A2.take m∧((st.n<0∧m=A.length)∨(0≤st.n∧st.n≤A.length∧st.n=m)∨(0≤st.n∧(A.length:Int)<st.n∧m=A.length)):=by
  unfold Atn
  by_cases h1:0≤st.n
  ·rw[if_pos h1]
   by_cases h3:st.n≤A.length
   ·exact⟨st.n.toNat,by omega,rfl,by omega⟩
   ·exact⟨A.length,aE _,by rw[←ah,bV,bF (by omega)],by omega⟩
  ·rw[if_neg h1];exact⟨A.length,aE _,by rw[←ah,bV],by omega⟩
 have dg:Hid _:=bz;have dh:Hid _:=ax;have di:Hid _:=bw;have dj:Hid _:=bx;have ay:Hid _:=ah;have az:=(af.block _ (aA bS)).trans bS;have dk:=Aa az (j:=19) rfl;have cb:Hid _:=az;generalize st.n=N at dk ca;generalize A.length=L at*;clear bz ax bw bx ah bu bv al ag aj az;rcases ca with⟨n1,rfl⟩|⟨n1,n2,rfl⟩|⟨n1,n2,rfl⟩
 focus
  have n3:¬(0≤N):=by omega
  go_upto_region 5 with fail
 rotate_left
 focus
  go_upto_region 5 with fail;rw[show(min (m:Int) (L:Int))=(m:Int)from by omega,cF]
 rotate_left
 focus
  go_upto_region 5 with fail;rw[show(min N (m:Int))=(m:Int)from by omega,cF]
 all_goals
  have cc:Hid (((A2.take m).map fun f=>st.out.map (ev f.row)).length=m):=by
   show _=_;have:=ay.out;rw[aX,bK];omega
  have eg:m≤900:=by omega
  go_wp2_with fail
  go_loopw[6,26] (fun zv i wr=>∃k:Nat,k≤m∧i=U Y k∧Hid (Dm w8.heap.size zv (((A2.take m).map fun f=>st.out.map (ev f.row)).take k) wr)∧Below w8.heap.size w8 wr) (fun _ i _=>m-(cQ i).toNat)
  case atStart=>exact⟨0,bA _,rfl,B8 _ _,aF _ _⟩
  case round=>
   obtain⟨k,hk,rfl,cd,ai⟩:=hrel
   by_cases dl:k<m
   ·obtain⟨f,hx⟩:∃f,A2[k]?=O f:=⟨_,aB (by have:=ay.out;omega)⟩;have ba:=Di.isL dh.out;rw[←ay.out]at ba;obtain⟨b,df,eh,dm,_,hb,⟨x1,x2,x3,rfl,bb,ce,cf⟩,am⟩:=At ba hx;cases dm;obtain⟨y1,z1,rfl⟩:=bb.shape;obtain⟨y2,z2,rfl⟩:=ce.shape;obtain⟨y3,z3,rfl⟩:=cf.shape;have d0:=(ai.cell (p:=⟨b,_,J⟩) hb).trans (am 0 _ rfl);have d1:=(ai.cell (p:=⟨b,_,J⟩) hb).trans (am 1 _ rfl);have d2:=(ai.cell (p:=⟨b,_,J⟩) hb).trans (am 2 _ rfl);simp only[Qk,dW]at d0 d1 d2;obtain⟨dn,dp⟩:=dj.out f (aS hx);obtain⟨an,bX,-⟩:=al1 wr (aD #[C y1 f.row.length z1,C y2 f.ids.length z2,C y3 f.ord.length z3] 123);have ae:Below w8.heap.size w8 (wr.alloc (aD #[C y1 f.row.length z1,C y2 f.ids.length z2,C y3 f.ord.length z3] 123)):=ai.trans (an.mono ai.size);have a8:=Aa ((ae.block _ (aA cb.out)).trans cb.out) (j:=8) rfl;have b0:=Aa bX (j:=0) rfl;have bc:=F6 (bb.keep (Ae ae));have bd:=IsL.keep db.out (Ae (Ac ad (af.trans (ae.mono af.size))));have dq:Hid (((A2.take m).map fun f=>st.out.map (ev f.row)).take (k+1)=((A2.take m).map fun f=>st.out.map (ev f.row)).take k++[st.out.map (ev f.row)]):=by
     show _=_;rw[bI,cE,List.getElem?_take_of_lt dl,hx];rfl
    obtain⟨cg,ch,cj⟩:=cd.out;have be:(((A2.take m).map fun f=>st.out.map (ev f.row)).take k).length=k:=by rw[bK,cc.out];omega
    have ds:Hid _:=be;have ck:wr.ownsRow w8.heap.size 79 1 u6 k cg:=by have:=ch;rwa[be]at this
    have bf:=Ak ck an;have bg:=bf.lt;have cl:Hid _:=All.keep (Ai an) cj;have v0:(0:Int)≤(k:Int):=by omega
    have v1:(k:Int)<(m:Int):=by omega
    clear hx am ce cf ch cj be ck ba;go_upto_region 8 with fail;generalize wr.alloc (aD #[C y1 f.row.length z1,C y2 f.ids.length z2,C y3 f.ord.length z3] 123)=wb at an bX ae a8 b0 bc bd bf bg cl⊢;generalize wr.heap.size=gX at bX b0⊢;have bh:=ae.size;have dt:=Ub st.out (C o5 st.out.length c5) (C y1 f.row.length z1) f.row wb.heap.size wb (bd.mono (fun k hk _=>hk)) (aE _) dc.out ct bc (fun v hv=>Iy (dp v hv)) (aH dn (by decide));clear bc bd bb;go_wp2_with(first
     |(go_fit dt;rintro e w2 ⟨vv,rfl,cm,du⟩;obtain⟨ab,ac,rfl⟩:=Ex.shape (Ex.of_own cm);have ap:Below wb.heap.size wb (w2.alloc (aD [C ab st.out.length ac].toArray 79)):=Ac du (Aq _ _);have cn:w8.heap.size≤(w2.alloc (aD [C ab st.out.length ac].toArray 79)).heap.size:=aH bh ap.size)
     |(at_builtin;go_must(refine bM _ rfl _ _ 30 rfl w8.heap.size 79 i0 (C J 0 0) 1 24 dB cu cv cx cy rfl (by decide) _ _ _ rfl (Ak bf ap) ⟨w2.heap.size,0,J⟩ 1 1 [.slice ab st.out.length ac] rfl rfl (Cb w2 [.slice ab st.out.length ac] 79) ?h1 (by simp only[cG];omega) (by omega) cn ?h2)))
    case h1=>simp only[cT];repeat(first|exact fun _ h=>absurd h dE|refine⟨rfl,?_⟩)
    case h2=>
     intro z2 w4 dv co _ dw;have dx:z2.ownBlock=u6.ownBlock∨z2.ownBlock=O (w2.alloc (aD [C ab st.out.length ac].toArray 79)).heap.size:=by rw[bQ];exact dw
     have dy:w2.ownsRow wb.heap.size 46 3 (C ab st.out.length ac) (st.out.map (ev f.row)).length (Ax (st.out.map (ev f.row))):=by rw[aX];exact cm
     have dz:IsL Ly (FO w8.heap.size u6) (w2.alloc (aD [C ab st.out.length ac].toArray 79)) (C ab st.out.length ac) (st.out.map (ev f.row)):=
      (Nf dy fun k hk=>⟨aH bh hk,fun e=>by have:=(bg k e.symm).2;omega⟩).keep (Ai (Aq _ _))
     have ea:w4.ownsRow w8.heap.size 79 1 z2 ((((A2.take m).map fun f=>st.out.map (ev f.row)).take k).length+1) (cg++[C ab st.out.length ac]):=by rw[ds.out];exact dv
     have eb:Below w8.heap.size w8 w4:=(ae.trans (ap.mono bh)).grown co cn fun k hk=>(bg k hk).1
     go_wp2_with fail;go_roundw
     case rel=>exact⟨k+1,by omega,by go_num,by show Dm _ _ _ _;rw[dq.out];exact L9 ea (All.keep (Ai ap) cl.out) dz co dx,eb⟩
     case measure=>simp[cQ];omega
   ·have ec:k=m:=by omega
    subst ec;have v1:¬((k:Int)<(k:Int)):=by omega
    have cp:=cd.out;rw[bF (Nat.le_of_eq cc.out),←dg.out]at cp;go_wp2;go_ret;exact⟨A2,de.out,di.out.imp (fun h=>by omega),_,rfl,cp.base (Ac ad af).size,Ac ad (af.trans (ai.mono af.size))⟩
theorem Aie:∀{a b:List V},Ez a b=0→a=b
 |[],[],_=>rfl
 |[],_::_,h=>by simp[Ez]at h
 |_::_,[],h=>by simp[Ez]at h
 |x::a,y::b,h=>by
  unfold Ez at h
  by_cases h0:Bt x y=0
  ·rw[if_pos h0]at h;have e:x=y:=Amy (by omega) (fun h1=>by have:=(A5a.anti y x).1 h1;omega);rw[e,Aie h]
  omega
theorem Az9 {d}(ok:DbOk d){t}(ht:t∈d.c.tables){f g}{r q}(hr:r∈d.R t.name)(hq:q∈d.R t.name)(hl:f.ids.length=g.ids.length)(h:(Ei f r).ids=(Ei g q).ids):f.ids=g.ids∧r=q:=by
 obtain⟨h1,h2⟩:=List.append_inj h hl;refine⟨h1,Y4 ok ht hr hq ?_⟩;have e1:=Hf ok.cat ht;have l1:=(B7 (ok.fit t ht r hr)).1;have l2:=(B7 (ok.fit t ht q hq)).1
 match r,q,h2 with
 |[],_,_=>grind
 |_::_,[],_=>grind
 |x::_,y::_,h2=>
  simp at h2;rw[rk,rk,cN,cN,h2]
theorem Am2 {d:Db}(ok:DbOk d):∀(ts:List TabD) (a:Nat) (f g x y:Fnd),(∀t∈ts,t∈d.c.tables)→f.ids.length=g.ids.length→x∈Cj (Hd d) a [f] ts→y∈Cj (Hd d) a [g] ts→x.ids=y.ids→f.ids=g.ids∧(f.row=g.row→x.row=y.row)
 |[],_,f,g,x,y,_,_,hx,hy,he=>by
  rw[Cj,cA]at hx hy;subst hx hy;exact⟨he,fun h=>h⟩
 |t::ts,a,f,g,x,y,ht,hl,hx,hy,he=>by
  have aa:=ht t eF;obtain⟨f1,ad,ae⟩:=(H9 ts).1 hx;obtain⟨g1,af,ag⟩:=(H9 ts).1 hy;obtain⟨f2,ab,r,hr,rfl⟩:=A5l.1 ad;obtain⟨g2,ac,q,hq,rfl⟩:=A5l.1 af;rw[cA]at ab ac;subst ab ac;have e1:=Hf ok.cat aa;have l1:=(B7 (ok.fit t aa r hr)).1;have l2:=(B7 (ok.fit t aa q hq)).1;obtain⟨i1,i2⟩:=Am2 ok ts (a+t.cols.length) _ _ x y (fun t h=>ht t (eC _ h)) (by simp only[Ei,cY,bK];omega) ae ag he;obtain⟨j1,j2⟩:=Az9 ok aa hr hq hl i1;exact⟨j1,fun h=>i2 (by rw[Ei,Ei,h,j2])⟩
theorem A2v {d}(ok:DbOk d)(st)(ts)(ht:∀t∈ts,t∈d.c.tables){A B:List Fnd}
  (ha:A.Perm (((Cj (Hd d) 0 [⟨[],[],[]⟩] ts).filter fun f=>Au st.wher f.row).map (G5 st))) (hb:B.Perm (((Cj (Hd d) 0 [⟨[],[],[]⟩] ts).filter fun f=>Au st.wher f.row).map (G5 st))) (sa:A.Pairwise fun a b=>¬Ku (Hh st) b a<0) (sb:B.Pairwise fun a b=>¬Ku (Hh st) b a<0):A=B:=by
 have hc:Cmp (Ku (Hh st)):=Aci (by unfold Hh;simp);have ac:=fun t h r hr=>(B7 (ok.fit t (ht t h) r hr)).1
 have hn:=Rg (A:=Hd d) ts 0 [⟨[],[],[]⟩] (fun t h' a=>⟨(ok.rise t (ht t h')).imp (fun{a b} aa he=>by rw[he]at aa;exact absurd aa (by simp[Gt])),fun r hr=>ac t h' r hr⟩) (fun f hf=>by grind) (List.pairwise_singleton _ _);have hp:((Cj (Hd d) 0 [⟨[],[],[]⟩] ts).filter fun f=>Au st.wher f.row).map (G5 st) |>.Pairwise fun a b=>a.ids≠b.ids:=by
  rw[List.pairwise_map];refine(hn.sublist List.filter_sublist).imp_of_mem fun{x y} hx hy ad he=>ad ?_
  exact(Am2 ok ts 0 ⟨[],[],[]⟩ ⟨[],[],[]⟩ x y ht rfl (aW.1 hx).1 (aW.1 hy).1 he).2 rfl
 have ab:∀{L:List Fnd},L.Perm _→(L.Pairwise fun a b=>¬Ku (Hh st) b a<0)→L.Pairwise _:=fun{L} hL hs=>by
  have h1:=hL.symm.pairwise hp fun h e=>h e.symm
  refine(hs.and h1).imp fun{a b} h=>?_
  obtain⟨h2,h3⟩:=h;have h4:=hc.anti b a;have h5:=hc.anti a b;rcases Int.lt_trichotomy (Ku (Hh st) a b) 0 with h6|h6|h6
  ·omega
  ·exfalso;apply h3;apply Aie;unfold Ku Ak3 at h6;grind
  omega
 exact Y3 (r:=fun a b=>Ku _ a b<0) (fun a b h1 h2=>by have:=(hc.anti a b).1 h1;omega) (ab ha sa) (ab hb sb) fun x=>by grind
theorem Apo (N m)(w):aR aC 39 #[U Y N,U Y m] w fun e w'=>e=aI (aU #[U Y m,U Y N,C J 0 0])∧Below w.heap.size w w':=by
 go_enter Tryz.func39,Tryz.ntmps39;go_wp2_with fail;exact aM (v:=aU #[U Y m,U Y N,C J 0 0]) (aP Tryz.results39 _ _ w.heap.size 32 #[U Y m,U Y N,C J 0 0] _ _ rfl (Ab _ _) aT rfl (by kernel_rfl)) rfl ⟨rfl,Aq _ _⟩
theorem Ox {ct}{st b}(h:Cf ct st=.ok b)(hk:st.kind=4∨st.kind=5∨st.kind=6):∃t,Bv ct.tables st.table=O t∧Iu t.cols st.rows=.ok b.rows∧Cr t [] st.sets=.ok b.sets∧whR [t] st.wher=.ok b.wher:=by
 obtain⟨_,_,h⟩:=Fe h;unfold Ep at h;rw[if_neg (by omega),if_neg (by omega),if_neg (by omega),if_pos hk]at h;unfold Gm at h;grind
theorem Am3 {ct}{st b}(h:Cf ct st=.ok b)(hk:st.kind=7):∃S,G3 ct.tables st.frm=.ok S∧Lz S st.out=.ok b.out∧I9 S st.order=.ok b.order∧whR S st.wher=.ok b.wher∧b.frm=st.frm∧b.down=st.down∧b.n=st.n:=by
 obtain⟨_,_,h⟩:=Fe h;unfold Ep at h;rw[if_neg (by omega),if_neg (by omega),if_neg (by omega),if_neg (by omega),if_pos hk]at h;unfold E3 at h;grind
theorem Am4 {T}:∀(l seen:List Wd) (S:List TabD),Es (Iv T) seen l=.ok S→S.length=l.length∧∀(k:Nat) (nm:Wd) (t:TabD),l[k]?=O nm→S[k]?=O t→Bv T nm=O t
 |[],_,S,h=>by
  have e:=aV h;grind
 |p::l,seen,S,h=>by
  unfold Es at h;cases hf:Iv T seen p with
  |error m=>grind
  |ok q=>
   rw[hf]at h;simp only at h;cases hw:Es (Iv T) (seen++[p]) l with
   |error m=>grind
   |ok qs=>
    rw[hw]at h;have e:=aV h;subst e;obtain⟨i1,i2⟩:=Am4 l _ qs hw;refine⟨by grind,fun k nm t h1 h2=>?_⟩;cases k with
    |zero=>
     obtain rfl:=bP h1;obtain rfl:=bP h2;unfold Iv at hf;grind
    |succ k=>grind
theorem Aw1 {T}{l}{S}(h:G3 T l=.ok S):S.length=l.length∧1≤S.length∧S.length≤2∧∀(k:Nat) (nm:Wd) (t:TabD),l[k]?=O nm→S[k]?=O t→Bv T nm=O t:=by
 unfold G3 at h;split at h
 ·grind
 ·obtain⟨h1,h2⟩:=Am4 l [] S h;grind
theorem Aw2 {S}{row}(hr:Aka (F8 S) row){ty}{d}{e e'}(h:asR S ty e=.ok e')(hg:geB d e=aK):Pj ty (ev row e')∧e'.nodes=e.nodes∧(Ek e→Ek e'):=by
 unfold asR at h;cases hb:Cv S e with
 |error m=>grind
 |ok r=>
  rw[hb]at h;simp only at h;split at h
  ·rename_i aa;obtain rfl:=aV h;have h1:=Aev hr hb hg;obtain⟨h2,h3⟩:=Md S e r hb;refine⟨⟨?_,h1.2⟩,h2,h3⟩;simp only[Jp,bZ,decide_eq_true_eq]at aa;rcases h1.1 with h|h
   ·omega
   omega
  grind
theorem Ze {S}{ty}{e e'}(h:asR S ty e=.ok e'):e'.nodes=e.nodes∧(Ek e→Ek e'):=by
 unfold asR at h;cases hb:Cv S e with
 |error m=>grind
 |ok r=>
  rw[hb]at h;simp only at h;split at h
  ·obtain rfl:=aV h;exact Md S e r hb
  grind
theorem Zf {S}{e e'}(h:whR S e=.ok e'):e'.nodes=e.nodes∧(Ek e→Ek e'):=by
 unfold whR at h;split at h
 ·grind
 ·exact Ze h
theorem Zg {S}(ht:(F8 S).length≤1000){e e'}(h:whR S e=.ok e')(hg:e.opn≠0→geB 40 e=aK):(Df e→Df e')∧(geB 40 e'=aK→Mv 40 e'):=by
 unfold whR at h;split at h
 ·rename_i h0;obtain rfl:=aV h;exact⟨id,fun h=>by rw[Acj h0]at h;grind⟩
 ·rename_i h0;unfold asR at h;cases hb:Cv S e with
  |error j=>grind
  |ok r=>
   rw[hb]at h;simp only at h;split at h
   ·obtain rfl:=aV h;obtain⟨h1,h2⟩:=Abd S ht e r hb;grind
   grind
theorem Ss {α β}{f}:∀{l:List α}{rs:List β},Gl f l=.ok rs→rs.length=l.length∧∀(i:Nat) (a:α) (b:β),l[i]?=O a→rs[i]?=O b→f a=.ok b
 |[],rs,h=>by
  have e:=aV h;grind
 |x::l,rs,h=>by
  unfold Gl at h;cases hf:f x with
  |error m=>grind
  |ok y=>
   rw[hf]at h;simp only at h;cases hw:Gl f l with
   |error m=>grind
   |ok ys=>
    rw[hw]at h;have e:=aV h;subst e;obtain⟨i1,i2⟩:=Ss hw;grind
theorem Aw3 {t:TabD}(ab:∀c∈t.cols,c.ty≠3){row r:List E}(h:Lc t.cols row=.ok r)(hg:∀e∈row,geB 40 e=aK):Jh t (r.map (ev [])):=by
 unfold Lc at h;split at h
 ·rename_i hl;obtain⟨h1,h2⟩:=Ss h;have aa:r.length=t.cols.length:=by rw[h1,eT];omega
  refine⟨by rw[aX,aa],fun i c v hc hv=>?_⟩;rw[cE]at hv;obtain⟨b,hb,rfl⟩:=Option.map_eq_some_iff.1 hv;have hi:i<row.length:=by have:=(cD.1 hc).1;omega
  have hz:(t.cols.zip row)[i]?=O (c,row[i]):=by rw[dQ];exact⟨hc,aB hi⟩
  have h4:asR [] c.ty row[i]=.ok b:=h2 i _ b hz hb;obtain⟨⟨h5,h6⟩,_⟩:=Aw2 (S:=[]) (row:=[]) ⟨rfl,fun i c v h=>by simp[F8]at h⟩ h4 (hg _ (cH hi));grind
 grind
theorem Acn {l}(h:Je l=aQ):∀e∈l,geB 40 e=aK:=fun e he=>by
 unfold Je at h;rw[eK]at h;have:=h e he;simpa[Lb]using this
theorem Wl {st}(h:Kd st=aK):(∀row∈st.rows,∀e∈row,geB 40 e=aK)∧(∀p∈st.sets,geB 40 p.2=aK)∧(∀e∈st.out,geB 40 e=aK)∧(∀e∈st.order,geB 40 e=aK)∧(st.wher.opn≠0→geB 40 st.wher=aK):=by
 simp only[Kd,aY,eL,bZ,decide_eq_true_eq]at h;obtain⟨⟨⟨⟨h1,h2⟩,h3⟩,h4⟩,h5⟩:=h;rw[eK]at h1 h2;refine⟨fun row hr=>Acn (by grind),fun p hp=>?_,Acn h3,Acn h4,fun h0=>?_⟩
 ·have:=h2 p hp;simpa[Lb]using this
 ·rcases h5 with h|h
  ·omega
  ·simpa[Lb]using h
theorem Ato {t}(ab:∀c∈t.cols,c.ty≠3){rows rs}(h:Iu t.cols rows=.ok rs)(hg:∀row∈rows,∀e∈row,geB 40 e=aK):∀r∈rs,Jh t (r.map (ev [])):=fun r hr=>by
 obtain⟨h1,h2⟩:=Ss h;obtain⟨i,hi,rfl⟩:=bB hr;have aa:i<rows.length:=by omega
 exact Aw3 ab (h2 i _ _ (aB aa) (aB hi)) (hg _ (cH aa))
theorem Aw4 {cols}{row r}(h:Lc cols row=.ok r):r.length=cols.length∧∀e'∈r,∃e∈row,e'.nodes=e.nodes∧(Ek e→Ek e'):=by
 unfold Lc at h;split at h
 ·rename_i hl;obtain⟨h1,h2⟩:=Ss h;have ab:r.length=cols.length:=by rw[h1,eT];omega
  refine⟨ab,fun e' he=>?_⟩;obtain⟨i,hi,rfl⟩:=bB he;have ac:i<cols.length:=by omega
  have aa:i<row.length:=by omega
  have hz:(cols.zip row)[i]?=O (cols[i],row[i]):=by rw[dQ];exact⟨aB ac,aB aa⟩
  have h3:asR [] (cols[i]).ty row[i]=.ok _:=h2 i _ _ hz (aB hi);exact⟨_,cH aa,Ze h3⟩
 grind
theorem Aey {cols}{rows rs}(h:Iu cols rows=.ok rs):rs.length=rows.length∧∀r∈rs,r.length=cols.length∧∃row∈rows,∀e'∈r,∃e∈row,e'.nodes=e.nodes∧(Ek e→Ek e'):=by
 obtain⟨h1,h2⟩:=Ss h;refine⟨h1,fun r hr=>?_⟩;obtain⟨i,hi,rfl⟩:=bB hr;have aa:i<rows.length:=by omega
 obtain⟨h3,h4⟩:=Aw4 (h2 i _ _ (aB aa) (aB hi));exact⟨h3,_,cH aa,h4⟩
theorem Abh {S}:∀{l:List E}{rs:List (E×Int)},Be S l=.ok rs→rs.length=l.length∧∀r∈rs,∃e∈l,Cv S e=.ok r
 |[],rs,h=>by
  rw[Be]at h;grind
 |x::l,rs,h=>by
  rw[Be]at h;cases hf:Cv S x with
  |error m=>grind
  |ok y=>
   rw[hf]at h;simp only at h;cases hw:Be S l with
   |error m=>grind
   |ok ys=>
    rw[hw]at h;have e:=aV h;subst e;obtain⟨i1,i2⟩:=Abh hw;grind
theorem Aif {S}{l l'}(h:I9 S l=.ok l'):l'.length=l.length∧∀e'∈l',∃e∈l,e'.nodes=e.nodes∧(Ek e→Ek e'):=by
 unfold I9 at h;cases hb:Be S l with
 |error m=>grind
 |ok rs=>
  rw[hb]at h;have e:=aV h;subst e;obtain⟨h1,h2⟩:=Abh hb;refine⟨by grind,fun e' he=>?_⟩;obtain⟨r,hr,rfl⟩:=cL.1 he;obtain⟨e,aa,h3⟩:=h2 r hr;exact⟨e,aa,Md S e r h3⟩
theorem A0a:(Tryz.prog.info? 46).map (fun i=>(i.zero,i.size,i.bytes))=O (O (aU #[U Y 0,U Y 0,Z ⟨#[]⟩]),3,32):=by kernel_rfl
theorem Am5 (cs)(n)(sv)(F)(w)(h:Bq F 3 w sv n cs)(h1:∀u∈cs,u.oneCell'=aK)(hn:n*32≤140737488355328):
  aR aC 130 #[sv] w fun e w'=>∃v,e=aI v∧w'.ownsRow w.heap.size 46 3 v n cs∧Below w.heap.size w w':=by
 obtain⟨i0,aa,ac,ae,af⟩:=dF A0a;have ap:∀(w) (a) (n c n' c'),(binOp _ 79 (C a n c) _).run _ w=.ok _ w:=fun w a n c n' c'=>Lib.run_eql_slice_nil w _ _ a n c n' c' eJ
 have ag:=h.1;have fin:∀ao c,sv=C ao n c→(ao=J→n=0)→(∀ad,ao=O ad→∀j u,cs[j]?=O u→w.cell? (ad.add j)=O u∧ad.block<w.heap.size)→(ao=J→c=0)→
   aR aC 130 #[sv] w fun e w'=>∃v,e=aI v∧w'.ownsRow w.heap.size 46 3 v n cs∧Below w.heap.size w w':=by
  intro ao c he h0 hc ah;subst he;cases ao with
  |none=>
   obtain rfl:=h0 rfl;obtain rfl:=ah rfl;have:=bY (by omega);subst this;go_enter Tryz.func130,Tryz.ntmps130;go_wp2;go_ret;exact⟨_,rfl,World.ownsRow_nil _ _ _ _,aF _ _⟩
  |some ad=>
   have ai:(w.alloc _).ownsRow _ 46 3 _ 0 []:=World.ownsRow_made w #[] 0 (aE _) (bA _) (by simp);have HC:Hid (∀j u,cs[j]?=O u→(w.alloc (aD #[] 46)).cell? (ad.add j)=O u):=fun j u hj=>by
    obtain⟨aj,aq⟩:=hc ad rfl j u hj;obtain⟨ab,ao,ak⟩:=ad;exact((Aq w _).cell (by unfold Addr.add;grind)).trans aj
   have HB:Hid _:=hn;clear hn hc;obtain⟨ab,ao,ak⟩:=ad;go_enter Tryz.func130,Tryz.ntmps130;go_wp2_with(at_builtin;refine bM _ rfl _ _ 79 rfl _ 46 i0 _ 3 32 eJ aa ac ae af rfl (by simp) _ _ _ rfl ai _ n c cs rfl ag HC.out h1 (by have:=HB.out;simp only[cG];omega) (by have:=HB.out;omega) (by simp) ?_);intro v' w1 al am _ _;go_wp2;go_ret;exact⟨v',rfl,al,((aF _ w).alloc (aE _) _).grown am (by simp) (by intro k hk;simp[eP]at hk;omega)⟩
 rcases h.2 with⟨h0,ao,c,he,hnil⟩|⟨h0,b,off,cap,he,_,hb,_,_,hc⟩
 ·subst h0;have an:=bY (by omega);subst an;exact fin ao c he (fun _=>rfl) (fun ad _ j u hj=>by grind) hnil
 ·exact fin _ cap he (fun h=>by grind) (fun ad h j u hj=>by cases h;rw[Addr.add_lit];grind) (fun h=>by grind)
def Gn (t:TabD)(sets:List (Wd×E))(r:List V):List V:=sets.foldl (fun nx p=>nx.set (D7 t.cols p.1).toNat (ev r p.2)) r
theorem Am6 (t:TabD)(r):∀(sets:List (Wd×E)) (nx:List V),(sets.foldl (fun nx p=>nx.set (D7 t.cols p.1).toNat (ev r p.2)) nx).length=nx.length
 |[],_=>rfl
 |p::l,nx=>by rw[dJ,Am6 t r l,dI]
theorem Aw5 {t}{sets:List (Wd×E)}{r}{j}{p}(h:sets[j]?=O p):Gn t (sets.take (j+1)) r=(Gn t (sets.take j) r).set (D7 t.cols p.1).toNat (ev r p.2):=by
 unfold Gn;rw[bI,h,eB,List.foldl_append];rfl
theorem Aez:∀(L:List V) (k:Nat) (v:V),Ax (L.set k v)=(((Ax L).set (k*3) (U Y v.k)).set (k*3+1) (U Y v.n)).set (k*3+2) (Z v.s)
 |[],k,v=>by rfl
 |a::L,0,v=>by rfl
 |a::L,k+1,v=>by
  have e:∀l,Ax (a::l)=a.cells++Ax l:=fun l=>by rfl
  rw[cX,e,e,Aez L k v];have h3:a.cells.length=3:=rfl;grind
theorem A0b {w:aJ}{g k}{X:List aL}{ty}(h:w.heap[g]?=O (aD X.toArray ty))(a b c):(((w.setCell ⟨g,k*3,J⟩ a).setCell ⟨g,k*3+1,J⟩ b).setCell ⟨g,k*3+2,J⟩ c).heap[g]?=O (aD (((X.set (k*3) a).set (k*3+1) b).set (k*3+2) c).toArray ty):=by
 have h3:=Dj (Dj (Dj h (k*3) a) (k*3+1) b) (k*3+2) c;simp_all
theorem G6 {w:aJ}{g b o k}{x y z u}(h:w.cell? ⟨b,o,J⟩=O u)(hn:b≠g):(((w.setCell ⟨g,k*3,J⟩ x).setCell ⟨g,k*3+1,J⟩ y).setCell ⟨g,k*3+2,J⟩ z).cell? ⟨b,o,J⟩=O u:=by
 rw[dV (w:=w)]
 ·omega
 ·exact((bD _ _ _ _ hn).trans (bD _ _ _ _ hn)).trans (bD _ _ _ _ hn)
theorem App (t:TabD)(so:Option Addr)(sc:Nat)(sets:List (Wd×E))(sv:aL)(rows:List (List V))(rv:aL)(w:aJ)(hl:IsL Cp (fun k=>k<w.heap.size) w (C so t.cols.length sc) t.cols)(hs:IsL Fc (fun k=>k<w.heap.size) w sv sets)(hr:IsL C8 (fun k=>k<w.heap.size) w rv rows)(fe:sets.length≤16777216)(ff:rows.length≤1000000)(bl:∀p∈sets,Fk p.2∧∃k:Nat,D7 t.cols p.1=(k:Int)∧k<t.cols.length)(bm:∀r∈rows,r.length=t.cols.length∧∀v∈r,good v=aK)(da:0<t.cols.length)(fg:t.cols.length≤4):
  aR aC 65 #[aU #[Z t.name,C so t.cols.length sc],sv,rv] w fun e w'=>Ng w w' e (rows.map (Gn t sets)):=by
 obtain⟨i0,db,dc,dd,de⟩:=dF P5;obtain⟨eo,ec,rfl⟩:=hs.shape;obtain⟨ro,rc,rfl⟩:=hr.shape;obtain⟨ak,bT,-⟩:=al1 w (aD #[Z t.name,C so t.cols.length sc] 82);generalize hW:w.alloc (aD #[Z t.name,C so t.cols.length sc] 82)=W1 at ak bT;have HW:Hid _:=hW;have HL:Hid _:=hl;have HS:Hid _:=hs;have HR:Hid _:=hr;have df:Hid _:=bl;have dg:Hid _:=bm;have dh:Hid _:=da;have di:Hid ((rows.map (Gn t sets)).length=rows.length):=aX _;clear hW hl hs hr bl bm;go_enter Tryz.func65,Tryz.ntmps65;go_upto_region 1 with fail;rw[HW.out];go_wp2
 go_loopw[7,15] (fun zv i wr=>∃k:Nat,k≤rows.length∧i=U Y k∧Hid (Dm W1.heap.size zv ((rows.map (Gn t sets)).take k) wr)∧Below W1.heap.size W1 wr) (fun _ i _=>rows.length-(cQ i).toNat)
 case atStart=>exact⟨0,bA _,rfl,B8 _ _,aF _ _⟩
 case round=>
  obtain⟨k,hk,rfl,bn,am⟩:=hrel;have ar:=am.size
  by_cases bo:k<rows.length
  ·obtain⟨r,hx⟩:∃r,rows[k]?=O r:=⟨_,aB bo⟩;have bc:Below w.heap.size w wr:=ak.trans (am.mono ak.size);obtain⟨b,dj,fh,dk,_,fi,⟨yv,rfl,bd⟩,bp⟩:=At (IsL.keep HR.out (Ae bc)) hx;cases dk;obtain⟨yo,yc,rfl⟩:=bd.shape;have bq:=F6 bd;have d0:wr.cell? ⟨b,dj+k,J⟩=O (C yo r.length yc):=by have:=bp 0 _ rfl;simpa[C8]using this
   obtain⟨bt,bu⟩:=dg.out r (aS hx);have bv:∀v∈r,v.s.size≤cG:=fun v hv=>Iy (bu v hv)
   have dl:r.length≤4:=by omega
   obtain⟨fj,bw,bx⟩:=bd;have dm:=A49.1 bx;subst dm;have bz:=Am5 (Ax r) r.length (C yo r.length yc) _ wr bw (Vk r) (by omega);have dn:Hid ((rows.map (Gn t sets)).take (k+1)=(rows.map (Gn t sets)).take k++[Gn t sets r]):=by
    show _=_;rw[bI,cE,hx];rfl
   obtain⟨ca,cb,cc⟩:=bn.out;have be:((rows.map (Gn t sets)).take k).length=k:=by rw[bK,di.out];omega
   have dp:Hid _:=be;have cd:wr.ownsRow W1.heap.size 79 1 u7 k ca:=by have:=cb;rwa[be]at this
   have ce:Hid _:=cd;have dq:Hid _:=cc;have cf:Hid _:=bt;have ds:Hid _:=bv;have v0:(0:Int)≤(k:Int):=by omega
   have v1:(k:Int)<(rows.length:Int):=by omega
   obtain⟨wo,dt⟩:∃x,x=wr:=⟨_,rfl⟩;subst dt;have du:Hid _:=bq;have HJ:Hid (k+1≤rows.length):=bo;clear hx bp bw bx bu bv bt cb cc be cd bq;go_wp2_with(go_fit bz;rintro e w5 ⟨dv,rfl,cg,dw⟩);have dx:0<r.length∨r.length=0:=by omega
   obtain⟨g,cap,X0,dy,au,dz,ea,eb,ed,ee⟩:∃(g cap:Nat) (X:List aL),dv=C (O ⟨g,0,J⟩) r.length cap∧wo.heap.size≤g∧w5.heap[g]?=O (aD X.toArray 46)∧r.length≤cap∧cap≤cG∧X.length=cap*3∧X.take (r.length*3)=Ax r:=by
    rcases G2 cg with⟨_,h0⟩|h
    ·exact absurd h0 (by have:=cf.out;have:=dh.out;omega)
    ·exact h
   subst dy;clear cg bz dx
   go_loopw[23] (fun i wq=>∃(j:Nat) (X:List aL),j≤sets.length∧i=U Y j∧wq.heap[g]?=O (aD X.toArray 46)∧X.length=cap*3∧Hid (X.take (r.length*3)=Ax (Gn t (sets.take j) r))∧Below wo.heap.size wo wq) (fun i _=>sets.length-(cQ i).toNat)
   case atStart=>exact⟨0,X0,bA _,rfl,dz,ed,ee,dw⟩
   case round=>
    obtain⟨j,X,hj,rfl,av,bf,ch,an⟩:=hrel;have aw:Below w.heap.size w wr:=bc.trans (an.mono bc.size)
    by_cases cj:j<sets.length
    ·obtain⟨⟨cw,e'⟩,hq⟩:∃q,sets[j]?=O q:=⟨_,aB cj⟩;obtain⟨ax,kk,ay,ef⟩:=df.out _ (aS hq);simp only at ax ay;obtain⟨b9,fk,fl,eg,_,fm,⟨d8,rfl,eh,bg⟩,ab⟩:=At (IsL.keep HS.out (Ae aw)) hq;cases eg;obtain⟨ad,⟨ae,af,ag⟩,s',ah,n',ai,k',c',ck,_⟩:=Rr bg;obtain rfl:d8=[U Y ad,U Y ae,U Y af,Z ag,Z s',Z ah,U Y n',C ai k' c']:=by have:=congrArg dS (dG ck);simpa using this
     have e0:=ab 0 _ rfl;have e1:=ab 1 _ rfl;have e2:=ab 2 _ rfl;have e3:=ab 3 _ rfl;have e4:=ab 4 _ rfl;have e5:=ab 5 _ rfl;have e6:=ab 6 _ rfl;have e7:=ab 7 _ rfl;have e8:=ab 8 _ rfl;simp only[Fc,dW]at e0 e1 e2 e3 e4 e5 e6 e7 e8;have j0:(0:Int)≤(j:Int):=by omega
     have j1:(j:Int)<(sets.length:Int):=by omega
     have cl:Hid (j+1≤sets.length):=cj;have fn:kk<r.length:=by rw[cf.out];exact ef
     have p0:(0:Int)≤(kk:Int):=by omega
     have p1:(kk:Int)<(r.length:Int):=by omega
     obtain⟨al,aa,-⟩:=al1 wr (aD (Mb cw ad ae af ag s' ah n' (C ai k' c')) 141);have hX:=(al.block g (aA av)).trans av;have cm:=((am.trans (an.mono ar)).block _ (aA bT)).trans bT;have ap:=(al.block _ (aA cm)).trans cm;have ac:g≠wr.heap.size:=bL (aA av);have cn:g≠w.heap.size:=by have:=aA bT;omega
     have aq:Below w.heap.size w (wr.alloc (aD (Mb cw ad ae af ag s' ah n' (C ai k' c')) 141)):=aw.trans (al.mono aw.size);have az:=an.trans (al.mono an.size);have bh:=IsE.keep (Ae (al.mono aw.size)) _ _ bg;have co:Hid (Gn t (sets.take (j+1)) r=(Gn t (sets.take j) r).set kk (ev r e')):=by
      show _=_;rw[Aw5 hq,ay];rfl
     generalize fo:wr.alloc (aD (Mb cw ad ae af ag s' ah n' (C ai k' c')) 141)=W8 at al aa hX ap aq az bh;have cp:=fun W (h:Below W8.heap.size W8 W)=>L8 t.cols t.name (C so t.cols.length sc) cw w.heap.size W (IsL.keep HL.out (Ae (Ac aq h))) (Ac aq h).size
     simp only[ay]at cp;have bi:=fun W (h:Below W8.heap.size W8 W)=>Ach e' (aU (Af ad ⟨ae,af,ag⟩ s' ah n' (C ai k' c'))) (C yo r.length yc) r w.heap.size W (IsE.keep (Ae (h.mono aq.size)) _ _ bh) (Ac aq h).size ax.1 ax.2 (Cq.below (Cq.below du.out az) h) ds.out (aH dl (by decide))
     generalize ev r e'=vv at bi co;obtain⟨vk,vn,vs⟩:=vv;simp only[V.val]at bi;have ei:kk*3+2<X.length:=by rw[bf];omega
     obtain⟨x0,cq⟩:∃u,X[kk*3]?=O u:=⟨_,aB (by omega)⟩;obtain⟨x1,cr⟩:∃u,X[kk*3+1]?=O u:=⟨_,aB (by omega)⟩;obtain⟨x2,cs⟩:∃u,X[kk*3+2]?=O u:=⟨_,aB ei⟩;have ej:Hid _:=cq;have ek:Hid _:=cr;have el:Hid _:=cs;generalize fp:wr.heap.size=gS at aa ac;have KS:Hid _:=fun W (h:Below W8.heap.size W8 W)=>(show(W.cell? ⟨w.heap.size,0,J⟩=O (Z t.name)∧W.cell? ⟨w.heap.size,1,J⟩=O (C so t.cols.length sc))∧(W.cell? ⟨gS,0,J⟩=O (Z cw)∧W.cell? ⟨gS,1,J⟩=O (U Y ad)∧W.cell? ⟨gS,2,J⟩=O (U Y ae)∧W.cell? ⟨gS,3,J⟩=O (U Y af)∧W.cell? ⟨gS,4,J⟩=O (Z ag)∧W.cell? ⟨gS,5,J⟩=O (Z s')∧W.cell? ⟨gS,6,J⟩=O (Z ah)∧W.cell? ⟨gS,7,J⟩=O (U Y n')∧W.cell? ⟨gS,8,J⟩=O (C ai k' c'))from⟨⟨Aa ((h.block _ (aA ap)).trans ap) (j:=0) rfl,Aa ((h.block _ (aA ap)).trans ap) (j:=1) rfl⟩,Aa ((h.block _ (aA aa)).trans aa) (j:=0) rfl,Aa ((h.block _ (aA aa)).trans aa) (j:=1) rfl,Aa ((h.block _ (aA aa)).trans aa) (j:=2) rfl,Aa ((h.block _ (aA aa)).trans aa) (j:=3) rfl,Aa ((h.block _ (aA aa)).trans aa) (j:=4) rfl,Aa ((h.block _ (aA aa)).trans aa) (j:=5) rfl,Aa ((h.block _ (aA aa)).trans aa) (j:=6) rfl,Aa ((h.block _ (aA aa)).trans aa) (j:=7) rfl,Aa ((h.block _ (aA aa)).trans aa) (j:=8) rfl⟩)
     have KT:Hid _:=fun W (h:Below W8.heap.size W8 W) (x y z:aL)=>(show((((W.setCell ⟨g,kk*3,J⟩ x).setCell ⟨g,kk*3+1,J⟩ y).setCell ⟨g,kk*3+2,J⟩ z).cell? ⟨w.heap.size,0,J⟩=O (Z t.name)∧(((W.setCell ⟨g,kk*3,J⟩ x).setCell ⟨g,kk*3+1,J⟩ y).setCell ⟨g,kk*3+2,J⟩ z).cell? ⟨w.heap.size,1,J⟩=O (C so t.cols.length sc))∧((((W.setCell ⟨g,kk*3,J⟩ x).setCell ⟨g,kk*3+1,J⟩ y).setCell ⟨g,kk*3+2,J⟩ z).cell? ⟨gS,0,J⟩=O (Z cw)∧(((W.setCell ⟨g,kk*3,J⟩ x).setCell ⟨g,kk*3+1,J⟩ y).setCell ⟨g,kk*3+2,J⟩ z).cell? ⟨gS,1,J⟩=O (U Y ad)∧(((W.setCell ⟨g,kk*3,J⟩ x).setCell ⟨g,kk*3+1,J⟩ y).setCell ⟨g,kk*3+2,J⟩ z).cell? ⟨gS,2,J⟩=O (U Y ae)∧(((W.setCell ⟨g,kk*3,J⟩ x).setCell ⟨g,kk*3+1,J⟩ y).setCell ⟨g,kk*3+2,J⟩ z).cell? ⟨gS,3,J⟩=O (U Y af)∧(((W.setCell ⟨g,kk*3,J⟩ x).setCell ⟨g,kk*3+1,J⟩ y).setCell ⟨g,kk*3+2,J⟩ z).cell? ⟨gS,4,J⟩=O (Z ag)∧(((W.setCell ⟨g,kk*3,J⟩ x).setCell ⟨g,kk*3+1,J⟩ y).setCell ⟨g,kk*3+2,J⟩ z).cell? ⟨gS,5,J⟩=O (Z s')∧(((W.setCell ⟨g,kk*3,J⟩ x).setCell ⟨g,kk*3+1,J⟩ y).setCell ⟨g,kk*3+2,J⟩ z).cell? ⟨gS,6,J⟩=O (Z ah)∧(((W.setCell ⟨g,kk*3,J⟩ x).setCell ⟨g,kk*3+1,J⟩ y).setCell ⟨g,kk*3+2,J⟩ z).cell? ⟨gS,7,J⟩=O (U Y n')∧(((W.setCell ⟨g,kk*3,J⟩ x).setCell ⟨g,kk*3+1,J⟩ y).setCell ⟨g,kk*3+2,J⟩ z).cell? ⟨gS,8,J⟩=O (C ai k' c'))from by
      obtain⟨⟨t0,t1⟩,s0,s1,s2,s3,s4,s5,s6,s7,s8⟩:=KS.out W h;exact⟨⟨G6 t0 (fun e=>cn e.symm),G6 t1 (fun e=>cn e.symm)⟩,G6 s0 (fun e=>ac e.symm),G6 s1 (fun e=>ac e.symm),G6 s2 (fun e=>ac e.symm),G6 s3 (fun e=>ac e.symm),G6 s4 (fun e=>ac e.symm),G6 s5 (fun e=>ac e.symm),G6 s6 (fun e=>ac e.symm),G6 s7 (fun e=>ac e.symm),G6 s8 (fun e=>ac e.symm)⟩)
     clear cq cr cs hq ab bg bh ck eh ax ay;go_upto_region 9 with fail
     try rw[HW8.out]
     refine bE (S:=(fun W=>(W.cell? ⟨w.heap.size,0,J⟩=O (Z t.name)∧W.cell? ⟨w.heap.size,1,J⟩=O (C so t.cols.length sc))∧(W.cell? ⟨gS,0,J⟩=O (Z cw)∧W.cell? ⟨gS,1,J⟩=O (U Y ad)∧W.cell? ⟨gS,2,J⟩=O (U Y ae)∧W.cell? ⟨gS,3,J⟩=O (U Y af)∧W.cell? ⟨gS,4,J⟩=O (Z ag)∧W.cell? ⟨gS,5,J⟩=O (Z s')∧W.cell? ⟨gS,6,J⟩=O (Z ah)∧W.cell? ⟨gS,7,J⟩=O (U Y n')∧W.cell? ⟨gS,8,J⟩=O (C ai k' c')))) (by kernel_rfl) ?_ (fun hHeld=>?_)
     ·exact KS.out _ (aF _ _).drew
     refine tk 0 ?_;refine tk 1 ?_;refine tk 2 ?_;refine tk 3 ?_;refine tk 5 ?_;refine tk 6 ?_;refine tk 7 ?_;refine Bi 4 (fun K hK=>?_);go_simp
     (go_fit(cp _ (aF _ _).drew);rintro e w7 ⟨rfl,en⟩;have bj:Below W8.heap.size W8 w7:=Ac (aF _ _).drew en)
     go_wp2_with fail;refine hK.out _ _ ?_ (fun hHeld=>?_)
     ·exact KS.out _ bj
     clear hK K;refine Bi 8 (fun K hK=>?_);go_simp
     (go_fit(bi _ bj);rintro e w8 ⟨rfl,ep⟩;have ba:Below W8.heap.size W8 w8:=Ac bj ep;have aj:=(ba.block g (aA hX)).trans hX;have y0:w8.cell? ⟨g,kk*3,J⟩=O x0:=(Aa aj (by simpa using ej.out));have y1:w8.cell? ⟨g,kk*3+1,J⟩=O x1:=(Aa aj (by simpa using ek.out));have y2:w8.cell? ⟨g,kk*3+2,J⟩=O x2:=(Aa aj (by simpa using el.out));have z0:w8.frozen? ⟨g,kk*3,J⟩=aQ:=(by simp[aZ,aj]);have z1:w8.frozen? ⟨g,kk*3+1,J⟩=aQ:=(by simp[aZ,aj]);have z2:w8.frozen? ⟨g,kk*3+2,J⟩=aQ:=(by simp[aZ,aj]))
     go_wp2_with fail;refine hK.out _ _ ?_ (fun hHeld=>?_)
     ·exact KS.out _ ba
     clear hK K;refine tk 9 ?_;refine Bi 10 (fun K hK=>?_);go_simp;go_wp2_with fail;refine hK.out _ _ ?_ (fun hHeld=>?_)
     ·exact KT.out _ ba _ _ _
     clear hK K;refine cI (by kernel_rfl) ?_ _;go_wp2_with fail;go_roundw
     case rel=>exact⟨j+1,_,cl.out,by go_num,A0b aj _ _ _,by simp only[dI];exact bf,by
      show _=_;rw[co.out,Aez,←ch.out];simp only[List.take_set,V.k],(((az.trans (ba.mono az.size)).setCell au _).setCell au _).setCell au _⟩
     case measure=>have:=cl.out;simp[cQ];omega
    ·have et:j=sets.length:=by omega
     subst et;have j1:¬((sets.length:Int)<(sets.length:Int)):=by omega
     have bk:=ch.out;rw[bV]at bk;have ct:(Gn t sets r).length=r.length:=Am6 t r sets r;have cu:wr.ownsRow wo.heap.size 46 3 (C (O ⟨g,0,J⟩) r.length cap) (Gn t sets r).length (Ax (Gn t sets r)):=by
      rw[ct];exact Jm au av ea eb bf bk
     have eu:Hid _:=cu;have bb:Below wo.heap.size wo (wr.alloc (aD [C (O ⟨g,0,J⟩) r.length cap].toArray 79)):=Ac an (Aq _ _);have cv:=Ak ce.out bb;have cx:W1.heap.size≤(wr.alloc (aD [C (O ⟨g,0,J⟩) r.length cap].toArray 79)).heap.size:=aH ar bb.size;have ew:Hid _:=(World.ownsRow.lt ce.out);clear bk ct cu;go_wp2_with(at_builtin;go_must(refine bM _ rfl _ _ 30 rfl W1.heap.size 79 i0 (C J 0 0) 1 24 dB db dc dd de rfl (by decide) _ _ _ rfl cv ⟨wr.heap.size,0,J⟩ 1 1 [.slice (O ⟨g,0,J⟩) r.length cap] rfl rfl (Cb wr [.slice (O ⟨g,0,J⟩) r.length cap] 79) ?h1 (by simp only[cG];omega) (by omega) cx ?h2))
     case h1=>first|rfl|(intro u hu;simp at hu;subst hu;rfl)
     case h2=>
      intro z2 w4 ex cy _ ey;have ez:z2.ownBlock=u7.ownBlock∨z2.ownBlock=O (wr.alloc (aD [C (O ⟨g,0,J⟩) r.length cap].toArray 79)).heap.size:=by rw[bQ];exact ey
      have fa:IsL Ly (FO W1.heap.size u7) (wr.alloc (aD [C (O ⟨g,0,J⟩) r.length cap].toArray 79)) (C (O ⟨g,0,J⟩) r.length cap) (Gn t sets r):=
       (Nf eu.out fun k hk=>⟨aH ar hk,fun e=>by have:=(ew.out k e.symm).2;omega⟩).keep (Ai (Aq _ _))
      have fb:w4.ownsRow W1.heap.size 79 1 z2 (((rows.map (Gn t sets)).take k).length+1) (ca++[C (O ⟨g,0,J⟩) r.length cap]):=by rw[dp.out];exact ex
      have fc:Below W1.heap.size W1 w4:=(am.trans (bb.mono ar)).grown cy cx fun k hk=>(cv.lt k hk).1
      go_wp2_with fail;go_roundw
      case rel=>exact⟨k+1,HJ.out,by go_num,by show Dm _ _ _ _;rw[dn.out];exact L9 fb (All.keep (Ai bb) dq.out) fa cy ez,fc⟩
      case measure=>have:=HJ.out;simp[cQ];omega
  ·have fd:k=rows.length:=by omega
   subst fd;have v1:¬((rows.length:Int)<(rows.length:Int)):=by omega
   have cz:=bn.out;rw[bF (by simp)]at cz;go_wp2;go_ret;exact⟨_,rfl,cz.base ak.size,ak.trans (am.mono ak.size)⟩
theorem Aw6 {t}{nx}{k}{c}{v}(h:Jh t nx)(hc:t.cols[k]?=O c)(hv:good v=aK∧(v.k=c.ty∨v.k=0)):Jh t (nx.set k v):=by
 refine⟨by rw[dI];exact h.1,fun i c' u aa hu=>?_⟩
 by_cases ab:k=i
 ·grind
 ·rw[List.getElem?_set_ne ab]at hu;exact h.2 i c' u aa hu
theorem Aw7 {t:TabD}(ac:∀c∈t.cols,c.ty≠3){ab sets:List (Wd×E)}(h:Cr t [] ab=.ok sets)(hg:∀p∈ab,geB 40 p.2=aK)(r:List V)(hr:Ga t r=aK):Jh t (Gn t sets r):=by
 have aa:=Atb hr;have h0:Jh t r:=⟨aa.1,fun i c v h1 h2=>⟨(aa.2 i c v h1 h2).1,(aa.2 i c v h1 h2).2.symm⟩⟩;have ad:∀(l:List (Wd×E)) (nx:List V),(∀q∈l,q∈sets)→Jh t nx→Jh t (l.foldl (fun nx p=>nx.set (D7 t.cols p.1).toNat (ev r p.2)) nx):=by
  intro l
  induction l with
  |nil=>exact fun nx _ hx=>hx
  |cons q l ih=>
   intro nx hm hx;rw[dJ];refine ih _ (fun p hp=>hm p (eC _ hp)) ?_;obtain⟨p,hp,hq,af,has⟩:=Za h q (hm q eF);rcases Kl t.cols q.1 with hc|⟨k,c,hc,hck,_⟩
   ·omega
   ·have ae:Ab8 t.cols q.1=c.ty:=by unfold Ab8;rw[hc,cF,hck];rfl
    obtain⟨⟨h5,h6⟩,_⟩:=Awt aa has (hg p hp);rw[ae]at h5;have h7:=ac c (aS hck);rw[hc,cF];exact Aw6 hx hck ⟨h6 (by omega),h5.symm⟩
 exact ad sets r (fun _ h=>h) h0
theorem Aw8 {t}{src sets}(h:Cr t [] src=.ok sets):∀q∈sets,∃p∈src,(q.2.nodes=p.2.nodes∧(Ek p.2→Ek q.2))∧∃k:Nat,D7 t.cols q.1=(k:Int)∧k<t.cols.length:=fun q hq=>by
 obtain⟨p,hp,_,aa,has⟩:=Za h q hq;rcases Kl t.cols q.1 with hc|⟨k,c,hc,hck,_⟩
 ·omega
 ·exact⟨p,hp,Ze has,k,hc,(cD.1 hck).1⟩
theorem A0c {S}:∀e∈Vy S,Fk e:=fun e he=>by
 obtain⟨p,_,rfl⟩:=cL.1 he;refine⟨by simp[E.nodes,Ev],?_⟩;simp only[Ek,Qj,zero,and_true];exact bA _
theorem A2w {S}{l l'}(h:Lz S l=.ok l')(hl:∀e∈l,Fk e):(∀e∈l',Fk e)∧(l'.length=l.length∨l'.length=(Vy S).length):=by
 unfold Lz at h;split at h
 ·obtain rfl:=aV h;exact⟨A0c,.inr rfl⟩
 ·obtain⟨h1,h2⟩:=Aif h;refine⟨fun e' he=>?_,.inl h1⟩;obtain⟨e,aa,h3,h4⟩:=h2 e' he;exact⟨by rw[h3];exact(hl e aa).1,h4 (hl e aa).2⟩
structure Rep where
 code:Int
 n:Int
 rows:List (List V)
structure FitC (st:Stm):Prop where
 b:FitB st
 rowsl:st.rows.length≤1000000
 rows:∀r∈st.rows,r≠[]∧∀e∈r,Fk e
 sets:∀p∈st.sets,Fk p.2
 out:∀e∈st.out,Fk e
 order:st.order.length≤1000000∧∀e∈st.order,Fk e
 wher:Fk st.wher
def Am7 (c:CatD)(l:List Wd):List TabD:=l.filterMap (Bv c.tables)
theorem Aig {c:CatD}:∀{l:List Wd}{S:List TabD},S.length=l.length→(∀(k:Nat) (nm:Wd) (t:TabD),l[k]?=O nm→S[k]?=O t→Bv c.tables nm=O t)→Am7 c l=S
 |[],[],_,_=>rfl
 |[],_::_,h,_=>by simp at h
 |_::_,[],h,_=>by simp at h
 |a::l,t::S,h,hk=>by
  have h0:=hk 0 a t rfl rfl;have ih:=Aig (c:=c) (l:=l) (S:=S) (by simpa using h) fun k nm t h1 h2=>hk (k+1) nm t (by simpa using h1) (by simpa using h2)
  unfold Am7 at ih⊢;grind
def Ae0 (d:Db)(b:Stm):List Fnd:=((Cj (Hd d) 0 [⟨[],[],[]⟩] (Am7 d.c b.frm)).filter fun f=>Au b.wher f.row).map (G5 b)
def Agl (d:Db)(b:Stm):List Fnd:=(Ae0 d b).mergeSort fun x y=>decide (Ku (Hh b) x y≤0)
def Atp (d:Db)(b:Stm):List (List V):=(Atn b (Agl d b)).map fun f=>b.out.map (ev f.row)
theorem Apq (d)(b):(Agl d b).Perm (Ae0 d b):=List.mergeSort_perm _ _
theorem A0d (b):Hh b=1∨Hh b= -1:=by unfold Hh;simp
theorem Ajs (d)(b):(Agl d b).Pairwise fun x y=>¬Ku (Hh b) y x<0:=by
 have hc:=Aci (A0d b);have:=List.pairwise_mergeSort (le:=fun x y=>decide (Ku _ x y≤0)) (fun x y z h1 h2=>by
  rw[decide_eq_true_eq]at*;exact hc.trans x y z h1 h2) (fun x y=>by
  rw[bZ,decide_eq_true_eq,decide_eq_true_eq];have:=hc.anti y x;omega) (Ae0 d b)
 refine this.imp fun{x y} h h2=>?_
 rw[decide_eq_true_eq]at h;have:=(hc.anti y x).1 h2;omega
def Ff (d:Db)(b:Stm):Rep×Db:=
 if b.kind=1 then(⟨0,0,[]⟩,⟨A8 d.c b,d.R⟩)
 else if b.kind=2 then(⟨0,0,[]⟩,⟨A8 d.c b,d.R⟩)
 else if b.kind=3 then(⟨0,0,[]⟩,⟨A8 d.c b,(d.upd b.name []).R⟩)
 else if b.kind=4 then match Bv d.c.tables b.table with
  |some t=>let A:=b.rows.map fun l=>l.map (ev [])
   (⟨(C9 t d A).2,if(C9 t d A).2=0 then(A.length:Int)else 0,[]⟩,(C9 t d A).1)
  |none=>(⟨0,0,[]⟩,d)
 else if b.kind=5 then match Bv d.c.tables b.table with
  |some t=>(⟨0,(((d.R t.name).filter (Au b.wher)).length:Int),[]⟩,d.upd t.name ((d.R t.name).filter fun r=>!Au b.wher r))
  |none=>(⟨0,0,[]⟩,d)
 else if b.kind=6 then match Bv d.c.tables b.table with
  |some t=>let A:=((d.R t.name).filter (Au b.wher)).map (Gn t b.sets)
   let d1:=d.upd t.name ((d.R t.name).filter fun r=>!Au b.wher r)
   (⟨(C9 t d1 A).2,if(C9 t d1 A).2=0 then(A.length:Int)else 0,[]⟩,(C9 t d1 A).1)
  |none=>(⟨0,0,[]⟩,d)
 else(⟨0,0,Atp d b⟩,d)
def Fp (d:Db)(st:Stm):Rep×Db:=match Cf d.c st with
 |eV m=>(⟨m,0,[]⟩,d)
 |.ok b=>Ff d b
theorem Dg {s}(h:nm s=aK):s.size≤cG:=aH (Agg h) (by simp[cG])
theorem Aih {t}(h:Kr t=aK):∀x∈t.cols,Od x=aK:=fun x hx=>by
 simp only[Kr,Vj,aY,eL]at h;obtain⟨i,hi,rfl⟩:=bB hx;have:=J0 h.2 i (bA _) (by omega);simp only[X4,aB hi,eD,eG]at this;grind
theorem Aw9 {x}(h:Od x=aK):nm x.name=aK∧(x.ty=1∨x.ty=2):=by
 simpa only[Od,aY,bZ,decide_eq_true_eq]using h
theorem Aii {T}{tb cl}(h:Ks T tb cl=aK):∃t,Bv T tb=O t∧∃x∈t.cols,x.name=cl:=by
 unfold Ks at h;split at h
 ·rename_i t ht;rw[decide_eq_true_eq]at h;rcases Kl t.cols cl with e|⟨k,x,e,hx,hn⟩
  ·omega
  grind
 grind
theorem Wm {c}(h:Dv c=aK):K9 c:=by
 obtain⟨h1,h2,h3,h4,h5,h6⟩:=(Cw c).1 h;have hT:∀t∈c.tables,nm t.name=aK∧∀x∈t.cols,nm _=aK:=fun t ht=>by
  have:=h3 t ht;refine⟨?_,fun x hx=>(Aw9 (Aih this x hx)).1⟩;simp only[Kr,aY]at this;grind
 refine⟨fun t ht=>⟨Dg (hT t ht).1,fun x hx=>Dg ((hT t ht).2 x hx)⟩,fun x hx=>?_⟩;have:=h5 x hx;simp only[Kc,eD,eG]at this;obtain⟨t,ht,y,hy,hn⟩:=Aii this.2;obtain⟨aa,ab⟩:=Ee ht;exact⟨Dg this.1,by rw[←ab];exact Dg (hT t aa).1,by rw[←hn];exact Dg ((hT t aa).2 y hy)⟩
theorem Ard {c}(h:Dv c=aK){t}(ht:t∈c.tables):∀x∈t.cols,x.ty≠3:=fun x hx h3=>by
 have:=(Aw9 (Aih (((Cw c).1 h).2.2.1 t ht) x hx)).2;omega
theorem Am8 {c}{st b}(h:Cf c st=.ok b)(hk:b.kind=1):(∀u∈c.tables,u.name≠b.name)∧A8 c b=⟨Eh TabD.name c.tables ⟨b.name,b.cols⟩,c.indexes⟩∧Dv (A8 c b)=aK:=by
 refine⟨?_,by unfold A8;grind,(Yw h).1⟩;obtain⟨aa,ab,_⟩:=G4 h;obtain⟨_,_,hb⟩:=Fe h;rw[Ep,if_pos (aa.symm.trans hk)]at hb;obtain⟨hc,e⟩:=Ik hb;subst e;unfold Kn at hc;split at hc
 ·omega
 split at hc
 ·omega
 rename_i c2;exact A40.1 (by simp_all)
theorem Ae1 {c}{st b}(h:Cf c st=.ok b)(hk:b.kind=2):(∃t,Bv c.tables b.table=O t)∧A8 c b=⟨c.tables,Eh IdxD.name c.indexes ⟨b.name,b.table,b.col⟩⟩∧Dv (A8 c b)=aK:=by
 refine⟨?_,by unfold A8;grind,(Yw h).1⟩;obtain⟨aa,ab,_⟩:=G4 h;obtain⟨_,_,hb⟩:=Fe h;rw[Ep,if_neg (by omega),if_pos (aa.symm.trans hk)]at hb;obtain⟨hc,e⟩:=Ik hb;subst e;unfold Q6 at hc;split at hc
 ·omega
 split at hc
 ·omega
 rename_i c2;have:Ks c.tables b.table b.col=aK:=by cases hq:Ks c.tables b.table b.col<;>simp_all
 obtain⟨t,ht,_⟩:=Aii this;grind
theorem Ae2 {c}{st b}(h:Cf c st=.ok b)(hk:b.kind=3):(∃t,Bv c.tables b.name=O t)∧A8 c b=⟨c.tables.filter (fun t=>!decide (t.name=b.name)),c.indexes.filter (fun x=>!decide (x.table=b.name))⟩∧Dv (A8 c b)=aK:=by
 refine⟨?_,by unfold A8;grind,(Yw h).1⟩;obtain⟨aa,ab,_⟩:=G4 h;obtain⟨_,_,hb⟩:=Fe h;rw[Ep,if_neg (by omega),if_neg (by omega),if_pos (aa.symm.trans hk)]at hb;obtain⟨hc,e⟩:=Ik hb;subst e;unfold Ot at hc;split at hc
 ·rename_i c1;exact Option.isSome_iff_exists.1 c1
 omega
theorem Atq {c}{st b}(h:Cf c st=.ok b)(hk:b.kind=1∨b.kind=2∨b.kind=3):b=st:=by
 obtain⟨aa,ab,_⟩:=G4 h;obtain⟨_,_,hb⟩:=Fe h;unfold Ep at hb;rcases hk with hk|hk|hk
 ·rw[if_pos (aa.symm.trans hk)]at hb;exact(Ik hb).2
 ·rw[if_neg (by omega),if_pos (aa.symm.trans hk)]at hb;exact(Ik hb).2
 ·rw[if_neg (by omega),if_neg (by omega),if_pos (aa.symm.trans hk)]at hb;exact(Ik hb).2
theorem Apr {d}(ok:DbOk d){F}(hh:Has d F){st b}(h:Cf d.c st=.ok b)(hk:b.kind=1):DbOk ⟨A8 d.c b,d.R⟩∧Has ⟨A8 d.c b,d.R⟩ F:=by
 obtain⟨h1,h2,h3⟩:=Am8 h hk;rw[h2]at h3⊢;exact⟨Awe ok h1 h3,As2 ok hh h1⟩
theorem Axa {d}(ok:DbOk d){st b}(h:Cf d.c st=.ok b)(hk:b.kind=2):DbOk ⟨A8 d.c b,d.R⟩:=by
 obtain⟨h1,h2,h3⟩:=Ae1 h hk;rw[h2]at h3⊢;exact A2i ok h3
theorem Axb {d}(ok:DbOk d){st b}(h:Cf d.c st=.ok b)(hk:b.kind=3):DbOk ⟨A8 d.c b,(d.upd b.name []).R⟩:=by
 obtain⟨⟨t,ht⟩,h2,h3⟩:=Ae2 h hk;obtain⟨aa,ab⟩:=Ee ht;rw[h2]at h3⊢;have ac:=by
  have:=Agj ok aa (fun _=>aQ);rw[ab,List.filter_eq_nil_iff.2 (by simp)]at this;exact this
 exact A2j ac (by show(if b.name=b.name then[]else _)=[];simp) h3
theorem Aij {F}{w}{l}{cs}(h:Fz F w l cs)(h0:0<l.length):∃(j:Nat) (s:Wd),cs[j]?=O (Z s):=by
 cases l with
 |nil=>grind
 |cons e l=>
  rw[Fz]at h;obtain⟨c,rest,rfl,h2,h3,_⟩:=h;obtain⟨op,x,s,name,n,ao,k,cap,h4⟩:=h3.shape;have h5:=congrArg dS (dG h4);simp only[Af]at h5;refine⟨4,s,?_⟩;simp_all
mutual
theorem Agm {E':List Nat}{F:Nat→Prop}{w:aJ}(hE:Br E' w):∀(e:E) (v:aL),IsE F w e v→IsE (fun k=>k∉E') w e v
 |.mk op x s name n l,v,h=>by
  rw[IsE]at h⊢;obtain⟨sv,cs,h1,h2,h3⟩:=h;exact⟨sv,cs,h1,Lg hE h2 fun h0=>Aij h3 h0,Aco hE l cs h3⟩
theorem Aco {E':List Nat}{F:Nat→Prop}{w:aJ}(hE:Br E' w):∀(l:List E) (cs:List aL),Fz F w l cs→Fz (fun k=>k∉E') w l cs
 |[],cs,h=>by assumption
 |e::l,cs,h=>by
  rw[Fz]at h⊢;obtain⟨c,rest,h1,h2,h3,h4⟩:=h;exact⟨c,rest,h1,h2,Agm hE e _ h3,Aco hE l rest h4⟩
end
theorem Zh {E'}{F}{w}(hE:Br E' w){sv}{l}(h:IsL Az F w sv l):IsL Az (fun k=>k∉E') w sv l:=by
 rw[Akr]at h⊢;obtain⟨cs,h1,h2⟩:=h;exact⟨cs,Lg hE h1 fun h0=>Aij h2 h0,Aco hE l cs h2⟩
theorem Pm {α}{K}{F G}{w}:∀{l:List α}{cs:List aL},(∀a∈l,∀c,K.R F w a c→K.R G w a c)→All K F w l cs→All K G w l cs
 |[],_,_,h=>h
 |a::l,cs,hf,h=>by
  obtain⟨c,rest,h1,h2,h3⟩:=h;exact⟨c,rest,h1,hf a (by simp) c h2,Pm (fun b hb=>hf b (by grind)) h3⟩
theorem A0e {E'}{F}{w}(hE:Br E' w){sv}{l}(h:IsL Fc F w sv l):IsL Fc (fun k=>k∉E') w sv l:=by
 obtain⟨cs,h1,h2⟩:=h;refine⟨cs,Lg hE h1 fun h0=>?_,Pm (fun a _ c h=>?_) h2⟩
 ·cases l with
  |nil=>grind
  |cons x l=>
   obtain⟨c,rest,rfl,⟨d,rfl,_⟩,_⟩:=h2;exact⟨0,x.1,rfl⟩
 ·obtain⟨d,h3,h4,h5⟩:=h;exact⟨d,h3,h4,Agm hE _ _ h5⟩
theorem Axc {E'}{F}{w}(hE:Br E' w){sv}{l}(h:IsL Nz F w sv l):IsL Nz (fun k=>k∉E') w sv l:=by
 obtain⟨cs,h1,h2⟩:=h;refine⟨cs,Lg hE h1 fun h0=>?_,Pm (fun a _ c h=>(show c=_ from h)) h2⟩;cases l with
 |nil=>grind
 |cons x l=>
  obtain⟨c,rest,rfl,h3,_⟩:=h2;obtain rfl:=h3;exact⟨0,x,rfl⟩
theorem Atr {F}{w}{sv}{l}(h:IsL Az F w sv l)(h0:l≠[]):∃b o c i,sv=C (O ⟨b,o,J⟩) l.length c∧w.cell? ⟨b,o,J⟩=O (U Y i):=by
 rw[Akr]at h;obtain⟨cs,⟨_,h1⟩,h2⟩:=h;rcases h1 with⟨hz,_⟩|⟨_,b,o,c,rfl,_,_,_,_,hc⟩
 ·grind
 ·cases l with
  |nil=>grind
  |cons e l=>
   rw[Fz]at h2;obtain⟨c1,rest,rfl,h3,h4,_⟩:=h2;obtain⟨op,x,s,name,n,ao,k,cap,h5⟩:=h4.shape;have h6:=congrArg dS (dG h5);simp only[Af]at h6;exact⟨b,o,c,op,rfl,hc 0 _ (by grind)⟩
theorem A0f {E':List Nat}{F:Nat→Prop}{w:aJ}(hE:Br E' w){sv:aL}{l:List (List E)}(h:IsL H7 F w sv l)(ac:∀r∈l,r≠[]):IsL H7 (fun k=>k∉E') w sv l:=by
 obtain⟨cs,h1,h2⟩:=h;refine⟨cs,Wi h1.row (fun b ae cap _ h0 _ hc hb=>?_) (rfl:F=F),Pm (fun a _ c h=>?_) h2⟩
 ·cases l with
  |nil=>simp at h0
  |cons x l=>
   obtain⟨c,rest,rfl,⟨xv,rfl,hx⟩,_⟩:=h2;obtain⟨b1,o1,c1,i,rfl,hi⟩:=Atr hx (ac x (by simp));have a0:=hc 0 _ rfl;obtain⟨cc,T',a,tv,iv,pv,he,ah⟩:=hE b hb;obtain⟨ai,tc,rfl⟩:=he.tabs.shape;obtain⟨io,ic,rfl⟩:=he.idxs.shape;obtain⟨po,pc,rfl⟩:=Ct he.pages.pages;simp only[dD,he.blk]at a0;have ad:0<x.length:=List.length_pos_iff.2 (ac x (by simp))
   match ae,a0 with
   |0,a0=>
    obtain⟨e1,e2,_⟩:=cV (bP (show O _=O _ from a0));subst e1;obtain⟨t,ht⟩:∃t,cc.tables[0]?=O t:=⟨_,aB (by rw[e2];exact ad)⟩;obtain⟨b',o',cs,e,_,_,⟨sv,rfl,_⟩,aa⟩:=At he.tabs ht;simp only[cR,dM]at e;obtain⟨rfl,rfl,_⟩:=e;have:=aa 0 _ rfl;grind
   |1,a0=>
    obtain⟨e1,e2,_⟩:=cV (bP (show O _=O _ from a0));subst e1;obtain⟨t,ht⟩:∃t,cc.indexes[0]?=O t:=⟨_,aB (by rw[e2];exact ad)⟩;obtain⟨b',o',cs,e,_,_,h3,aa⟩:=At he.idxs ht;obtain rfl:=h3;simp only[cR,dM]at e;obtain⟨rfl,rfl,_⟩:=e;have:=aa 0 _ rfl;grind
   |2,a0=>
    obtain⟨e1,e2,_⟩:=cV (bP (show O _=O _ from a0));subst e1;obtain⟨rows,ab,af⟩:=he.pages;obtain⟨_,ab⟩:=ab;rcases ab with⟨hz,_⟩|⟨_,b3,o3,c3,e3,_,_,_,_,hc3⟩
    ·omega
    ·simp only[Value.slice.injEq,cR,dM]at e3;obtain⟨⟨rfl,rfl,_⟩,_⟩:=e3;cases T' with
     |nil=>grind
     |cons p T'=>
      cases rows with
      |nil=>assumption
      |cons r rows=>
       obtain⟨kv,vv⟩:=r;obtain⟨ag,_⟩:=af;obtain⟨ko,kc,rfl⟩:=ag.shape;have:=hc3 0 _ rfl;grind
   |3,a0=>grind
   |o+4,a0=>grind
 ·obtain⟨sv,h3,h4⟩:=h;exact⟨sv,h3,Zh hE h4⟩
theorem A2x {E'}{F}{w}(hE:Br E' w){st}{cs}(h:Ie.R F w st cs)(aa:∀r∈st.rows,r≠[]):Ie.R (fun k=>k∉E') w st cs:=by
 obtain⟨cols,rows,sets,frm,out,w8,order,hc,h8,h1,h2,h3,h4,h5,h6,h7⟩:=h.is;exact⟨⟨cols,rows,sets,frm,out,w8,order,hc,h8,My hE h1,A0f hE h2 aa,A0e hE h3,Axc hE h4,Zh hE h5,Agm hE _ _ h6,Zh hE h7⟩⟩
structure Dull (w:aJ) (g:Nat):Prop where
 text:∀(o:Nat) (s:Wd),w.cell? ⟨g,o,J⟩≠O (Z s)
 lists:∀(o:Nat) (a a':Option Addr) (n c n' c':Nat),w.cell? ⟨g,o,J⟩=O (C a n c)→w.cell? ⟨g,o+1,J⟩≠O (C a' n' c')
theorem Cn {w}{g}{x y}{so}{n c}{t}(h:w.heap[g]?=O (aD #[U Y x,U Y y,C so n c] t)):Dull w g:=by
 refine⟨fun o s=>?_,fun o a a' n c n' c'=>?_⟩
 ·simp only[dD,h];grind
 ·simp only[dD,h];grind
section
variable {F:Nat→Prop}{w:aJ}{g:Nat}(hd:Dull w g)
include hd
theorem Tm {size:Nat}{sv:aL}{n:Nat}{cs:List aL}(h:Bq F size w sv n cs)(ht:0<n→∃(j:Nat) (s:Wd),cs[j]?=O (Z s)):Bq (fun k=>F k∧k≠g) size w sv n cs:=by
 obtain⟨h1,h2⟩:=h;refine⟨h1,?_⟩;rcases h2 with h2|⟨h0,b,off,cap,rfl,hF,h3⟩
 ·grind
 ·refine .inr ⟨h0,b,off,cap,rfl,⟨hF,fun e=>?_⟩,h3⟩;subst e;obtain⟨j,s,hj⟩:=ht h0;exact hd.text _ _ (h3.2.2.2 j _ hj)
theorem Axd {sv:aL}{l:List ColD}(h:IsL Cp F w sv l):IsL Cp (fun k=>F k∧k≠g) w sv l:=by
 obtain⟨cs,h1,h2⟩:=h;refine⟨cs,Tm hd h1 fun h0=>?_,Pm (fun a _ c h=>(show c=_ from h)) h2⟩;cases l with
 |nil=>grind
 |cons x l=>
  obtain⟨c,rest,rfl,h3,_⟩:=h2;obtain rfl:=h3;exact⟨0,_,rfl⟩
theorem Axe {sv:aL}{l:List TabD}(h:IsL Ck F w sv l):IsL Ck (fun k=>F k∧k≠g) w sv l:=by
 obtain⟨cs,h1,h2⟩:=h;refine⟨cs,Tm hd h1 fun h0=>?_,Pm (fun a _ c h=>?_) h2⟩
 ·cases l with
  |nil=>grind
  |cons x l=>
   obtain⟨c,rest,rfl,⟨sv,rfl,_⟩,_⟩:=h2;exact⟨0,_,rfl⟩
 ·obtain⟨sv,h4,h5⟩:=h;exact⟨sv,h4,Axd hd h5⟩
theorem Axf {sv:aL}{l:List IdxD}(h:IsL Eb F w sv l):IsL Eb (fun k=>F k∧k≠g) w sv l:=by
 obtain⟨cs,h1,h2⟩:=h;refine⟨cs,Tm hd h1 fun h0=>?_,Pm (fun a _ c h=>(show c=_ from h)) h2⟩;cases l with
 |nil=>grind
 |cons x l=>
  obtain⟨c,rest,rfl,h3,_⟩:=h2;obtain rfl:=h3;exact⟨0,_,rfl⟩
theorem Aik {sv:aL}{L:List Wd}(h:Bq F 1 w sv L.length (L.map Z)):Bq (fun k=>F k∧k≠g) 1 w sv L.length (L.map Z):=
 Tm hd h fun h0=>by
  cases L with
  |nil=>grind
  |cons s L=>exact⟨0,s,rfl⟩
theorem Am9:∀{rs:List (aL×aL)}{T:List Pg},Kt F w rs T→Kt (fun k=>F k∧k≠g) w rs T
 |[],[],_=>trivial
 |_::_,_::_,h=>⟨Aik hd h.1,Aik hd h.2.1,Am9 h.2.2⟩
theorem Ats {sv:aL}{T:List Pg}(h:Kf F w sv T):Kf (fun k=>F k∧k≠g) w sv T:=by
 obtain⟨rows,⟨h1,h3⟩,h2⟩:=h;refine⟨rows,⟨h1,?_⟩,Am9 hd h2⟩;rcases h3 with h3|⟨h0,b,off,cap,rfl,hF,h4⟩
 ·grind
 ·refine .inr ⟨h0,b,off,cap,rfl,⟨hF,fun e=>?_⟩,h4⟩;subst e;cases T with
  |nil=>grind
  |cons p T=>
   cases rows with
   |nil=>assumption
   |cons r rows=>
    obtain⟨kv,vv⟩:=r;obtain⟨aa,ab,_⟩:=h2;obtain⟨ko,kc,rfl⟩:=aa.shape;obtain⟨vo,vc,rfl⟩:=ab.shape;exact hd.lists _ _ _ _ _ _ _ (h4.2.2.2 0 _ rfl) (h4.2.2.2 1 _ rfl)
end
theorem EngC.row {E}{w}{n}{c}{T}{a}{tv iv pv}(h:EngC E w n c T a tv iv pv){g}(hd:Dull w g)(hn:n≠g)(cells):EngC E (w.setRow g cells) n c T a tv iv pv:=by
 have hk:Keeps (fun k=>k∉E∧k≠g) w (w.setRow g cells):=(Keeps.refl _ _).row (fun h=>h.2 rfl) _;exact⟨Bz h.blk hn _,((Axe hd h.tabs).keep hk).mono fun k _ h=>h.1,((Axf hd h.idxs).keep hk).mono fun k _ h=>h.1,((Ats hd h.pages).keep hk).mono fun k _ h=>h.1,h.good⟩
theorem Dm.row {base}{z}{A}{w}(h:Dm base z A w){g}(hg:g<base)(cells):Dm base z A (w.setRow g cells):=by
 obtain⟨cs,⟨h1,h3⟩,h2⟩:=h;refine⟨cs,⟨h1,?_⟩,h2.keep ((Keeps.refl _ _).row (fun h=>by omega) _)⟩;rcases h3 with h3|⟨b,cap,cur,hv,hb,hh,r⟩
 ·grind
 ·exact .inr ⟨b,cap,cur,hv,hb,Bz hh (by omega) _,r⟩
theorem But.rowB {a}{w w'}(h:But a w w'){b}(hb:w.heap.size≤b)(cells):But a w (w'.setRow b cells):=
 ⟨h.os,h.tape,h.output,by simp[cZ];exact h.size,fun k hk hn=>by
  rw[←h.block k hk hn];simp only[cZ,dU];grind⟩
theorem Aps {E}{n}{c}{T}{a}{to' io po}{tc ic pc}{w}(hE:Br E w)(hn:n∈E)(he:EngC E w n c T a (C to' c.tables.length tc) (C io c.indexes.length ic) (C po T.length pc))(aq:Dv c=aK)(st)(cs)(hR:Ie.R (fun k=>k∉E) w st cs)(R)(ok:DbOk ⟨c,R⟩)(ab:Has ⟨c,R⟩ (flat T)){t}(ar:Bv c.tables st.name=O t)(hw:A8 c st=⟨c.tables.filter (fun t=>!decide (t.name=st.name)),c.indexes.filter (fun x=>!decide (x.table=st.name))⟩):
  aR aC 38 #[aG (O ⟨n,0,J⟩),aU cs.toArray] w fun e w'=>e=aI (bU #[])∧∃bz ca cb cd ce cf T2,EngC E w' n (A8 c st) T2 a (C bz (A8 c st).tables.length ca) (C cb (A8 c st).indexes.length cd) (C ce T2.length cf)∧Has ⟨(A8 c st),((⟨c,R⟩:Db).upd t.name []).R⟩ (flat T2)∧But n w w':=by
 obtain⟨ak,be⟩:=Ee ar;obtain⟨bf,cg,ch⟩:=(Ed ok.cat).2.2 t ak;have hT:=aH (Jb he.good) (Lv ok he.good ab);obtain⟨o1,c1,o2,c2,o3,c3,o4,c4,o5,c5,op,xk,xn,xs,s,ae,n8,o6,k6,c6,o7,c7,rfl,i1,i2,i3,i4,i5,i6,i7⟩:=Bb hR;obtain⟨ac,bS,-⟩:=al1 w (aD (sA st.kind st.name st.table st.col (C o1 st.cols.length c1) (C o2 st.rows.length c2) (C o3 st.sets.length c3) (C o4 st.frm.length c4) (C o5 st.out.length c5) op xk xn xs s ae n8 (C o6 k6 c6) (C o7 st.order.length c7) st.down st.n) 50);have af:=he.below ac;have au:=hE.below ac;have av:=Ie.keep (Ai ac) hR;have bg:=(bL he.lt).symm;have aw:=Nq af ar;have bh:=Aa bS (j:=1) rfl;generalize hW:w.alloc _=W1 at ac bS af au aw bh av;have HW:Hid _:=hW;have bi:Hid _:=au;have bj:Hid _:=av;have HA:Hid (F5 _ _=R _):=Acd ok he.good ab ak;have cj:Hid (∀r∈R _,r.length=t.cols.length∧∀v∈r,good v=aK):=fun r hr=>B7 (ok.fit t ak r hr)
 have ck:=Qd ab;have bk:Hid (Has ⟨(A8 c st),((⟨c,R⟩:Db).upd t.name []).R⟩ (G1 (flat T) c.indexes t (R t.name))):=by
  show Has _ _;have h1:=Ace ok ak ab (A:=R t.name) (p:=fun _=>aK) (fun r=>by simp);rw[show((R t.name).filter fun r=>!(fun _=>aK) r)=[]from by simp]at h1;have h2:=Azo h1 (s:=st.name) (by rw[←be];show(if t.name=t.name then _ else _)=_;simp);rw[hw];exact h2
 have cl:Hid _:=Qc ok ab;have ag:Hid _:=(Cw c).1 aq;clear hW hE au hR av i1 i2 i3 i4 i5 i6 i7 ok ab ar hw be;go_enter Tryz.func38,Tryz.ntmps38;go_upto_region 1 with fail;rw[HW.out];go_upto_region 2 with(go_fit aw;rintro e w2 ⟨ao,cc,rfl,bl,al⟩);obtain⟨am,bT,-⟩:=al1 w2 (aD #[Z t.name,C ao t.cols.length cc] 82);have aa:=al.trans (am.mono al.size);have ax:=(aa.block _ (aA bS)).trans bS;have ay:=af.below aa;have an:=Br.below bi.out aa;have bm:=My an (bl.keep (Ai am));have bn:=ac.trans (aa.mono ac.size);have az:=Ie.keep (Ai aa) bj.out;have ba:w2.heap.size≠n:=by have:=aA af.blk;have:=al.size;omega
 generalize w2.alloc _=W3 at am aa bT ax ay an bm bn az⊢;generalize w2.heap.size=gT at bT ba⊢;have bb:=fun W (h:Below _ W3 W)=>Uc (ay.below h) t ao cc (by omega) (aH bf (by simp)) cl.out
 rw[HA.out]at bb;have bo:=fun rv W h (hr:IsL C8 _ W rv _)=>Acl (Br.below an h) hn (ay.below h) aq t ao cc (bm.keep (Ai h)) _ rv hr cj.out cg ch bf (by omega) ck
 have bp:Hid _:=an;have cm:Hid _:=az;have KS:Hid _:=fun W (h:But n W3 W)=>cU (show W.cell? _=O (Z _)from Aa ((h.block _ (aA bT) ba).trans bT) (j:=0) rfl) (show W.cell? _=O (C ao _ cc)from Aa ((h.block _ (aA bT) ba).trans bT) (j:=1) rfl)
 have s0:=KS.out _ (But.refl _ _).drew;clear aw bl al am aa bS af bi bh HW bj az;generalize cn:R _=rows at*;clear cn
 go_region_held3(fun W=>W.cell? ⟨gT,0,J⟩=O (Z t.name)∧W.cell? ⟨gT,1,J⟩=O (C ao t.cols.length cc)) (with_reducible omega)
  (first
   |(go_fit(bb _ (aF _ _).drew);rintro e w6 ⟨dc,rfl,bc,co⟩;obtain⟨ro,rc,rfl⟩:=bc.shape;have bd:=Ac (aF _ _).drew co;have bq:=Aid (Br.below bp.out (aF _ _).drew) bc;have s1:=KS.out w6 (But.of_below bd))
   |(go_fit(bo _ _ bd bq);rintro e w7 ⟨rfl,cp,cq,T7,ad,bt,dd,cr⟩;have ah:=(But.of_below bd).trans cr;have s2:=KS.out w7 ah))
 have ap:=(ah.block _ (aA ax) bg).trans ax;have bu:=Br.put bp.out ah hn ad aq;have bv:=Ie.keep (Jr ah hn) cm.out;have ct:=fun W h=>Acm c _ st (sA _ _ _ _ _ _ _ _ _ op xk xn xs s ae n8 _ _ _ _).toList _ W ⟨_,_,rfl,(ad.tabs.mono fun k hk _=>hk).keep (Ae h),(ad.idxs.mono fun k hk _=>hk).keep (Ae h)⟩ (Ie.keep (Ae h) (Ie.mono (fun k hk _=>hk) bv)) h.size (by have:=ag.out.1;omega) (by have:=ag.out.2.1;omega) ag.out.2.2.2.1 ag.out.2.2.2.2.2
 have q0:=Aa ad.blk (j:=0) rfl;have q1:=Aa ad.blk (j:=1) rfl;have cu:Hid _:=bu;have cv:Hid (Has ⟨(A8 c st),((⟨c,R⟩:Db).upd t.name []).R⟩ (flat T7)):=by show Has _ _;rw[bt];exact bk.out
 clear KS s0 s1 s2 bb bo bu bv bt bk bq bc ag;go_wp2_with fail;refine bE (S:=(fun W=>W.heap[w.heap.size]?=O (aD (sA st.kind st.name st.table st.col (C o1 st.cols.length c1) (C o2 st.rows.length c2) (C o3 st.sets.length c3) (C o4 st.frm.length c4) (C o5 st.out.length c5) op xk xn xs s ae n8 (C o6 k6 c6) (C o7 st.order.length c7) st.down st.n) 50))) (by rfl) ?_ (fun hHeld=>?_)
 ·assumption
 refine tk 0 ?_;refine tk 1 ?_;refine tk 2 ?_;refine tk 3 ?_;refine dR (i:=5) (v:=aU (sA st.kind st.name st.table st.col (C o1 st.cols.length c1) (C o2 st.rows.length c2) (C o3 st.sets.length c3) (C o4 st.frm.length c4) (C o5 st.out.length c5) op xk xn xs s ae n8 (C o6 k6 c6) (C o7 st.order.length c7) st.down st.n)) rfl (by kernel_rfl) (by kernel_rfl) (by kernel_rfl) (fun _ _ _ h=>h) (Iw rfl 50 _ rfl w.heap.size rfl (sA st.kind st.name st.table st.col (C o1 st.cols.length c1) (C o2 st.rows.length c2) (C o3 st.sets.length c3) (C o4 st.frm.length c4) (C o5 st.out.length c5) op xk xn xs s ae n8 (C o6 k6 c6) (C o7 st.order.length c7) st.down st.n) 50 _ (fun _ h=>h) aN rfl D4) (by assumption) ?_;refine Bi 4 (fun K hK=>?_);go_simp;go_wp2_with fail;refine hK.out _ _ ?_ (fun hHeld=>?_)
 ·omega
 clear hK K;refine Bi 6 (fun K hK=>?_);go_simp
 (refine(ct _ (aF _ _).drew).mono ?_;rintro e w4 ⟨v4,rfl,⟨de,df,rfl,bw,bx⟩,cx⟩;obtain⟨cy,cz,rfl⟩:=bw.shape;obtain⟨da,db,rfl⟩:=bx.shape;have ai:=Ac (aF _ _).drew cx;have aj:=ad.below ai;have q4:=Aa aj.blk (j:=0) rfl;have q5:=Aa aj.blk (j:=1) rfl;have z4:w4.frozen? ⟨n,0,J⟩=aQ:=(by simp only[aZ,aj.blk];rfl);have z5:w4.frozen? ⟨n,1,J⟩=aQ:=(by simp only[aZ,aj.blk];rfl))
 go_wp2_with fail;refine hK.out _ _ ?_ (fun hHeld=>?_)
 ·exact(ai.block _ (aA ap)).trans ap
 clear hK K;refine tk 7 ?_;refine tk 8 ?_;refine Bi 9 (fun K hK=>?_);go_simp;go_wp2_with fail;refine hK.out _ _ ?_ (fun hHeld=>?_)
 ·exact Z8 ((ai.block _ (aA ap)).trans ap) bg
 clear hK K;refine cI (by kernel_rfl) ?_ _;go_wp2_with fail
 go_end0
 exact⟨rfl,cy,cz,da,db,cp,cq,T7,aj.storeCat (Br.below cu.out ai) hn bw bx,cv.out,(((But.of_below bn).trans ah).trans (But.of_below ai)).set _ _ |>.set _ _⟩
theorem Ajt {Eg}{n}{d}{T}{a}{to' io po}{tc ic pc}{w}(hE:Br Eg w)(hn:n∈Eg)(he:EngC Eg w n d.c T a (C to' d.c.tables.length tc) (C io d.c.indexes.length ic) (C po T.length pc))(ok:DbOk d)(ad:Has d (flat T))(bi:K9 d.c)(st)(cs)(hR:Ie.R (fun k=>k∉Eg) w st cs){t}(am:Bv d.c.tables st.table=O t)(bj:Fk st.wher)(bk:Df st.wher)(bl:geB 40 st.wher=aK→Mv 40 st.wher):
  aR aC 41 #[aG (O ⟨n,0,J⟩),aU cs.toArray] w fun e w'=>e=aI (bU #[U Y (((d.R t.name).filter (Au st.wher)).length:Int),U Y 0])∧∃bm bn T',EngC Eg w' n d.c T' a (C to' d.c.tables.length tc) (C io d.c.indexes.length ic) (C bm T'.length bn)∧DbOk (d.upd t.name ((d.R t.name).filter fun r=>!Au st.wher r))∧Has (d.upd t.name ((d.R t.name).filter fun r=>!Au st.wher r)) (flat T')∧But n w w':=by
 obtain⟨o1,c1,o2,c2,o3,c3,o4,c4,o5,c5,op,xk,xn,xs,s,av,n8,o6,k6,c6,o7,c7,rfl,i1,i2,i3,i4,i5,i6,i7⟩:=Bb hR;generalize aw:(d.R t.name).filter (Au st.wher)=rows;have bo:Hid _:=aw;clear aw;have ab:=(Ee am).1;obtain⟨bp,bq,bt⟩:=(Ed ok.cat).2.2 t ab;have hT:=aH (Jb he.good) (Lv ok he.good ad);obtain⟨ae,bS,-⟩:=al1 w (aD (sA st.kind st.name st.table st.col (C o1 st.cols.length c1) (C o2 st.rows.length c2) (C o3 st.sets.length c3) (C o4 st.frm.length c4) (C o5 st.out.length c5) op xk xn xs s av n8 (C o6 k6 c6) (C o7 st.order.length c7) st.down st.n) 50);have ag:=he.below ae;have ax:=hE.below ae;have da:=(bL he.lt).symm;have ay:=IsE.keep (Ai ae) _ _ i6;have az:=Nq ag am;have bu:=Aa bS (j:=2) rfl;generalize hW:w.alloc _=W1 at*;have HW:Hid _:=hW;have ba:Hid _:=ax;have bv:Hid _:=ok;have bw:Hid _:=ad;have bb:Hid _:=ay;clear hW hE ax hR i1 i2 i4 i5 i6 i7 am ay;go_enter Tryz.func41,Tryz.ntmps41;go_upto_region 1 with fail;rw[HW.out];go_upto_region 2 with(go_fit az;rintro e w2 ⟨ao,cc,rfl,bc,ah⟩);obtain⟨ai,bT,-⟩:=al1 w2 (aD #[Z t.name,C ao t.cols.length cc] 82);have ac:=ah.trans (ai.mono ah.size);have aa:=(ac.block _ (aA bS)).trans bS;have an:=ag.below ac;have aj:=Br.below ba.out ac;have ak:=My aj (bc.keep (Ai ai));have bd:=ae.trans (ac.mono ae.size);have ap:=IsE.keep (Ai ac) _ _ bb.out;have bx:w2.heap.size≠n:=by have:=aA ag.blk;have:=ah.size;omega
 generalize w2.alloc _=W3 at ai ac bT aa an aj ak bd ap⊢;generalize w2.heap.size=gT at bT bx⊢;have aq:=Ah9 an bv.out bw.out t ao cc (ak.mono (fun k hk _=>hk)) ab _ op xk xn xs s av n8 o6 k6 c6 (IsE.mono (fun k hk _=>hk) _ _ ap) bj bk bl bi;have ar:Hid _:=aj;have be:Hid _:=ak;have a0:=Aa bT (j:=0) rfl;have a1:=Aa bT (j:=1) rfl;have b9:=Aa aa (j:=9) rfl;have bz:=Aa aa (j:=10) rfl;have ca:=Aa aa (j:=11) rfl;have cb:=Aa aa (j:=12) rfl;have cd:=Aa aa (j:=13) rfl;have ce:=Aa aa (j:=14) rfl;have cf:=Aa aa (j:=15) rfl;have cg:=Aa aa (j:=16) rfl;have bf:Hid (∀r∈(d.R _).filter (Au st.wher),r.length=t.cols.length∧∀v∈r,good v=aK):=fun r hr=>B7 (ok.fit t ab r (aW.1 hr).1)
 have ch:Hid (Has _ (G1 _ _ t ((d.R _).filter (Au st.wher)))):=Ace ok ab ad fun r=>aW
 have cj:Hid (DbOk (d.upd _ ((d.R _).filter fun r=>!Au st.wher r))):=Agj ok ab _;have ck:Hid (∀r∈(d.R _).filter (Au st.wher),Ga t r=aK):=fun r hr=>ok.fit t ab r (aW.1 hr).1
 have cl:=Qd ad;have cm:Hid (((d.R _).filter (Au st.wher)).length≤30):=aH (cO _ _) (ok.len t ab);have cn:Hid _:=ok.cat;clear az bc ah ai ac bS ag ba bu aj ak HW bb ap ok ad;rw[bo.out]at aq bf ch ck cm;go_upto_region 3 with(go_fit aq;rintro e w6 ⟨co,rfl,bg,af⟩);have al:IsL C8 (fun k=>k∉Eg) w6 co rows:=bg.isL fun k hk hb=>by have:=Br.lt ar.out hb;omega
 obtain⟨ro,rc,cp⟩:=al.shape;subst cp;have cq:=an.below af;have au:=Br.below ar.out af;have bh:=(af.block _ (aA bT)).trans bT;have cr:Hid _:=IsL.keep be.out (Ai af);have ct:=Acl au hn cq cn.out t ao cc cr.out rows _ al bf.out bq bt bp (by omega) cl;have db:Hid _:=au;have dc:Hid _:=al;have e0:=Aa bh (j:=0) rfl;have e1:=Aa bh (j:=1) rfl;clear aq a0 a1 b9 bz ca cb cd ce cf cg au bg al ar be;go_wp2_with(go_fit ct;rintro e w7 ⟨rfl,cu,cv,T7,cx,cy,dd,cz⟩);go_ret2;refine⟨rfl,cu,cv,T7,cx,cj.out,by rw[cy];assumption,?_⟩;exact(But.of_below (Ac bd af)).trans cz
theorem Aju {Eg}{n}{d}{T}{a}{to' io po}{tc ic pc}{w}(hE:Br Eg w)(hn:n∈Eg)(he:EngC Eg w n d.c T a (C to' d.c.tables.length tc) (C io d.c.indexes.length ic) (C po T.length pc))(ok:DbOk d)(ag:Has d (flat T))(cq:K9 d.c)(st)(cs)(hR:Ie.R (fun k=>k∉Eg) w st cs){t}(av:Bv d.c.tables st.table=O t)(cr:Fk st.wher)(ct:Df st.wher)(cu:geB 40 st.wher=aK→Mv 40 st.wher)(cv:st.sets.length≤16777216)(cx:∀p∈st.sets,Fk p.2∧∃k:Nat,D7 t.cols p.1=(k:Int)∧k<t.cols.length)(cy:∀r,Ga t r=aK→Jh t (Gn t st.sets r)):
  aR aC 42 #[aG (O ⟨n,0,J⟩),aU cs.toArray] w fun e w'=>Li Eg n t (d.upd t.name ((d.R t.name).filter fun r=>!Au st.wher r)) (((d.R t.name).filter (Au st.wher)).map (Gn t st.sets)) a (C to' d.c.tables.length tc) (C io d.c.indexes.length ic) w w' e:=by
 obtain⟨o1,c1,o2,c2,o3,c3,o4,c4,o5,c5,op,xk,xn,xs,s,bg,n8,o6,k6,c6,o7,c7,rfl,i1,i2,i3,i4,i5,i6,i7⟩:=Bb hR;generalize bh:(d.R t.name).filter (Au st.wher)=rows;have cz:Hid _:=bh;clear bh;have ab:=(Ee av).1;obtain⟨da,bi,bj⟩:=(Ed ok.cat).2.2 t ab;have hT:=aH (Jb he.good) (Lv ok he.good ag);obtain⟨af,bS,-⟩:=al1 w (aD (sA st.kind st.name st.table st.col (C o1 st.cols.length c1) (C o2 st.rows.length c2) (C o3 st.sets.length c3) (C o4 st.frm.length c4) (C o5 st.out.length c5) op xk xn xs s bg n8 (C o6 k6 c6) (C o7 st.order.length c7) st.down st.n) 50);have ah:=he.below af;have bk:=hE.below af;have bl:=(bL he.lt).symm;have bm:=IsE.keep (Ai af) _ _ i6;have bn:=i3.keep (Ai af);have db:Hid _:=bn;have bo:=Nq ah av;have dc:=Aa bS (j:=2) rfl;generalize hW:w.alloc _=W1 at*;have HW:Hid _:=hW;have bp:Hid _:=bk;have dd:Hid _:=ok;have de:Hid _:=ag;have bq:Hid _:=bm;clear hW hE bk hR i1 i2 i3 i4 i5 i6 i7 av bm bn;go_enter Tryz.func42,Tryz.ntmps42;go_upto_region 1 with fail;rw[HW.out];go_upto_region 2 with(go_fit bo;rintro e w2 ⟨ao,cc,rfl,bt,ai⟩);obtain⟨aj,bT,-⟩:=al1 w2 (aD #[Z t.name,C ao t.cols.length cc] 82);have ac:=ai.trans (aj.mono ai.size);have aa:=(ac.block _ (aA bS)).trans bS;have aw:=ah.below ac;have ak:=Br.below bp.out ac;have al:=My ak (bt.keep (Ai aj));have bu:=af.trans (ac.mono af.size);have ax:=IsE.keep (Ai ac) _ _ bq.out;have am:w2.heap.size≠n:=by have:=aA ah.blk;have:=ai.size;omega
 have ay:=ac;generalize w2.alloc _=W3 at aj ac ay bT aa aw ak al bu ax⊢;generalize w2.heap.size=gT at bT am⊢;have az:=Ah9 aw dd.out de.out t ao cc (al.mono (fun k hk _=>hk)) ab _ op xk xn xs s bg n8 o6 k6 c6 (IsE.mono (fun k hk _=>hk) _ _ ax) cr ct cu cq;have ba:Hid _:=ak;have bv:Hid _:=al;have a0:=Aa bT (j:=0) rfl;have a1:=Aa bT (j:=1) rfl;have b9:=Aa aa (j:=9) rfl;have df:=Aa aa (j:=10) rfl;have dg:=Aa aa (j:=11) rfl;have dh:=Aa aa (j:=12) rfl;have di:=Aa aa (j:=13) rfl;have dj:=Aa aa (j:=14) rfl;have dk:=Aa aa (j:=15) rfl;have dl:=Aa aa (j:=16) rfl;have an:Hid (∀r∈(d.R _).filter (Au st.wher),r.length=t.cols.length∧∀v∈r,good v=aK):=fun r hr=>B7 (ok.fit t ab r (aW.1 hr).1)
 have bb:Hid (Has _ (G1 _ _ t ((d.R _).filter (Au st.wher)))):=Ace ok ab ag fun r=>aW
 have dm:Hid (DbOk (d.upd _ ((d.R _).filter fun r=>!Au st.wher r))):=Agj ok ab _;have bc:Hid (∀r∈(d.R _).filter (Au st.wher),Ga t r=aK):=fun r hr=>ok.fit t ab r (aW.1 hr).1
 have bw:=Qd ag;have bx:Hid (((d.R _).filter (Au st.wher)).length≤30):=aH (cO _ _) (ok.len t ab);have bz:Hid _:=ok.cat;clear bo bt ai aj ac bS ah bp dc ak al HW bq ax ok ag;rw[cz.out]at az an bb bc bx;go_upto_region 3 with(go_fit az;rintro e w6 ⟨dn,rfl,ca,ad⟩);have ap:IsL C8 (fun k=>k∉Eg) w6 dn rows:=ca.isL fun k hk hb=>by have:=Br.lt ba.out hb;omega
 obtain⟨ro,rc,dp⟩:=ap.shape;subst dp;have bd:=Br.below ba.out ad;have aq:=(ad.block _ (aA bT)).trans bT;have cb:Hid _:=IsL.keep bv.out (Ai ad);have cd:=Acl bd hn (aw.below ad) bz.out t ao cc cb.out rows _ ap an.out bi bj da (by omega) bw;have ce:Hid _:=bd;have cf:Hid _:=ap;have e0:=Aa aq (j:=0) rfl;have e1:=Aa aq (j:=1) rfl;clear az a0 a1 b9 df dg dh di dj dk dl bd ca ap ba bv;have cg:Hid (IsL Fc _ w6 _ _):=IsL.keep db.out (Ai (ay.trans (ad.mono ay.size)));go_upto_region 4 with(go_fit cd;rintro e w7 ⟨rfl,dz,ea,T7,ch,dq,eb,ae⟩);have ar:=(ae.block _ (aA aq) am).trans aq;have cj:=(ad.block _ (aA aa)).trans aa;have ck:=(ae.block _ (aA cj) bl).trans cj;have be:=Br.put ce.out ae hn ch bz.out;have bf:=IsL.keep cb.out (Jr ae hn);have cl:=IsL.keep cf.out (Jr ae hn);have cm:=IsL.keep cg.out (Jr ae hn);have ds:=fun W h=>App t ao cc _ _ rows _ W ((bf.keep (Ai h)).mono (fun k hk _=>hk)) ((cm.keep (Ai h)).mono (fun k hk _=>hk)) ((cl.keep (Ai h)).mono (fun k hk _=>hk)) cv (by have:=bx.out;omega) cx an.out bi bj
 have dt:Hid (Has (d.upd t.name ((d.R t.name).filter fun r=>!Au st.wher r)) (flat T7)):=by show Has _ _;rw[dq];exact bb.out
 have du:=fun rv W h (hr:IsL C8 _ W rv _)=>Aex (d:=d.upd _ _) (Br.below be h) hn (ch.below h) dm.out dt.out t ao cc (bf.keep (Ai h)) _ rv hr (fun r hr=>by
  obtain⟨q,hq,rfl⟩:=cL.1 hr;exact cy q (bc.out q hq)) ab
 have dv:Hid _:=be;have KS:Hid _:=fun W (h:But n w7 W)=>cU (show W.cell? _=O (Z _)from Aa ((h.block _ (aA ar) am).trans ar) (j:=0) rfl) (cU (show W.cell? _=O (C ao _ cc)from Aa ((h.block _ (aA ar) am).trans ar) (j:=1) rfl) (show W.cell? _=O (C o3 _ c3)from Aa ((h.block _ (aA ck) bl).trans ck) (j:=6) rfl))
 have s0:=KS.out _ (But.refl _ _).drew;clear cd e0 e1 bf cl cm cg ce cf be bb an bc bw
 go_region_held3(fun W=>W.cell? ⟨gT,0,J⟩=O (Z t.name)∧W.cell? ⟨gT,1,J⟩=O (C ao t.cols.length cc)∧W.cell? ⟨w.heap.size,6,J⟩=O (C o3 st.sets.length c3)) (with_reducible omega)
  (first
   |(go_fit(ds _ (aF _ _).drew);rintro e w8 ⟨dw,rfl,dx,dy⟩;have au:=Ac (aF _ _).drew dy;have cn:IsL C8 (fun k=>k∉Eg) w8 dw _:=(dx.isL fun k hk hb=>(by have:=Br.lt dv.out hb;have ec:w7.heap.size≤k:=hk;omega));obtain⟨ed,ee,co⟩:=cn.shape;rw[aX]at co;subst co;have s1:=KS.out w8 (But.of_below au))
   |(go_fit((du _ _ au cn).mono (fun e w' h=>Li.ltr h));rintro e w9 ⟨N9,m9,rfl,cp⟩;have s2:=KS.out w9 ((But.of_below au).trans cp.out.2.choose_spec.choose_spec.choose_spec.2.2.2.2)))
 go_wp2_with fail;go_ret2;exact Li.from cp.out ((((But.of_below (Ac bu ad)).trans ae)).trans (But.of_below au))
def Dt (E:List Nat)(w:aJ)(n:Nat)(d:Db)(a:Int)(q:Bool):Prop:=∃T to' tc io ic po pc,EngC E w n d.c T a (C to' d.c.tables.length tc) (C io d.c.indexes.length ic) (C po T.length pc)∧Has d (flat T)∧(q=aK→T.length≤1)
theorem Dt.row {E}{w}{n}{d}{a}{q}(h:Dt E w n d a q){g}(hd:Dull w g)(hn:n≠g)(cells):Dt E (w.setRow g cells) n d a q:=by
 obtain⟨T,aa,tc,io,ic,po,pc,h1,h2⟩:=h;exact⟨T,aa,tc,io,ic,po,pc,h1.row hd hn _,h2⟩
theorem Dt.below {E}{w w'}{n}{d}{a}{q}(h:Dt E w n d a q)(hb:Below w.heap.size w w'):Dt E w' n d a q:=by
 obtain⟨T,aa,tc,io,ic,po,pc,h1,h2⟩:=h;exact⟨T,aa,tc,io,ic,po,pc,h1.below hb,h2⟩
def Zi (E:List Nat)(n:Nat)(p:Rep×Db)(a:Int)(q:Bool)(w w':aJ):Prop:=Dt E w' n p.2 a q∧DbOk p.2∧But n w w'
def G7 (d:Db)(b:Stm):Bool:=decide (b.kind=1)||decide (b.kind=7)||(decide (b.kind=4)&&decide (d.c.indexes.length=0)&&d.c.tables.all (fun t=>decide ((d.R t.name).length=0))&&decide (b.rows.length≤4))
theorem Ana {t}:∀{seen:List Wd}{l rs:List (Wd×E)},Cr t seen l=.ok rs→rs.length=l.length
 |_,[],rs,h=>by rw[Cr]at h;grind
 |seen,p::l,rs,h=>by
  rw[Cr]at h;split at h
  ·grind
  ·split at h
   ·grind
   ·rename_i qs hq;cases h;rw[eN,eN,Ana hq]
section
variable {E:List Nat}{n:Nat}{d:Db}{T:List Pg}{a:Int}{to' io po:Option Addr}{tc ic pc:Nat}{w:aJ}(hE:Br E w) (hn:n∈E) (he:EngC E w n d.c T a (C to' d.c.tables.length tc) (C io d.c.indexes.length ic) (C po T.length pc)) (ok:DbOk d) (hhas:Has d (flat T)) (q:Bool) (hq:q=aK→T.length≤1) {st b:Stm}(hb:Cf d.c st=.ok b) {cs:List aL}
include hE hn he ok hhas hb
include hq in
theorem Apt (hR:Ie.R (fun k=>k<w.heap.size) w b cs)(hk:b.kind=1):aR aC 36 #[aG (O ⟨n,0,J⟩),aU cs.toArray] w fun e w'=>e=aI (bU #[])∧Zi E n (Ff d b) a (q&&G7 d b) w w':=by
 refine(Ajq hE hn he ok.cat b cs hR).mono ?_;rintro e w' ⟨rfl,aa,ab,ac,ad,h1,h2⟩;obtain⟨h3,h4⟩:=Apr ok hhas hb hk;unfold Ff;rw[if_pos hk];exact⟨rfl,⟨T,aa,ab,ac,ad,po,pc,h1,h4,fun h=>hq (by grind)⟩,h3,h2⟩
theorem Axg (hR:Ie.R (fun k=>k<w.heap.size) w b cs)(hk:b.kind=2):aR aC 37 #[aG (O ⟨n,0,J⟩),aU cs.toArray] w fun e w'=>e=aI (bU #[])∧Zi E n (Ff d b) a (q&&G7 d b) w w':=by
 obtain⟨⟨t,ht⟩,h2,h3⟩:=Ae1 hb hk;refine(Az8 hE hn he ok.cat b cs hR d.R ok hhas ht h3 h2).mono ?_;rintro e w' ⟨rfl,aa,ab,ac,ad,ae,af,T2,h4,h5,h6⟩;have h7:=Axa ok hb hk;unfold Ff;rw[if_neg (by omega),if_pos hk];exact⟨rfl,⟨T2,aa,ab,ac,ad,ae,af,h4,h5,fun h=>by simp[G7,hk]at h⟩,h7,h6⟩
theorem Axh (hR:Ie.R (fun k=>k∉E) w b cs)(hk:b.kind=3):aR aC 38 #[aG (O ⟨n,0,J⟩),aU cs.toArray] w fun e w'=>e=aI (bU #[])∧Zi E n (Ff d b) a (q&&G7 d b) w w':=by
 obtain⟨⟨t,ht⟩,h2,h3⟩:=Ae2 hb hk;refine(Aps hE hn he ok.cat b cs hR d.R ok hhas ht h2).mono ?_;rintro e w' ⟨rfl,aa,ab,ac,ad,ae,af,T2,h4,h5,h6⟩;have h7:=Axb ok hb hk;rw[(Ee ht).2]at h5;unfold Ff;rw[if_neg (by omega),if_neg (by omega),if_pos hk];exact⟨rfl,⟨T2,aa,ab,ac,ad,ae,af,h4,h5,fun h=>by simp[G7,hk]at h⟩,h7,h6⟩
end
def Wn (E:List Nat)(n:Nat)(p:Rep×Db)(a:Int)(q:Bool)(w w':aJ)(e:Ending):Prop:=∃N m:Int,e=aI (bU #[U Y N,U Y m])∧Hid (p.1=⟨m,N,[]⟩)∧Zi E n p a q w w'
theorem Ail {E}{n}{t}{d0 d:Db}{rows}{a}{to' io}{tc ic}{w w'}{e}{q b}(h:Li E n t d rows a (C to' d0.c.tables.length tc) (C io d0.c.indexes.length ic) w w' e b)(hc:d.c=d0.c)(hq:q=b):Wn E n (⟨(C9 t d rows).2,if(C9 t d rows).2=0 then(rows.length:Int)else 0,[]⟩,(C9 t d rows).1) a q w w' e:=by
 subst hq;obtain⟨rfl,aa,ab,T',h1,h2,h3,h6,h4⟩:=h;refine⟨_,_,rfl,rfl,⟨T',to',tc,io,ic,aa,ab,?_,h3,h6⟩,h2,h4⟩;show EngC E w' n (C9 t d rows).1.c T' a _ _ _;rw[Arc];grind
section
variable {E:List Nat}{n:Nat}{d:Db}{T:List Pg}{a:Int}{to' io po:Option Addr}{tc ic pc:Nat}{w:aJ}(hE:Br E w) (hn:n∈E) (he:EngC E w n d.c T a (C to' d.c.tables.length tc) (C io d.c.indexes.length ic) (C po T.length pc)) (ok:DbOk d) (hhas:Has d (flat T)) (q:Bool) {st b:Stm}(hb:Cf d.c st=.ok b) (hf:FitC st) {cs:List aL}(hR:Ie.R (fun k=>k∉E) w b cs)
include hE hn he ok hhas hb hf hR
theorem Apu (hq:q=aK→T.length≤1)(hk:b.kind=4):aR aC 40 #[aG (O ⟨n,0,J⟩),aU cs.toArray] w fun e w'=>Wn E n (Ff d b) a (q&&G7 d b) w w' e:=by
 obtain⟨ae,_,af,_⟩:=G4 hb;obtain⟨t,ht,hr,hs,hw⟩:=Ox hb (.inl (ae.symm.trans hk));obtain⟨ag,_⟩:=Wl (Fe hb).2.1;obtain⟨hl,ah⟩:=Aey hr;rw[←af]at ht;have ac:=(Ee ht).1;have e1:Ff d b=(⟨(C9 t d (b.rows.map fun l=>l.map (ev []))).2,if(C9 t d (b.rows.map fun l=>l.map (ev []))).2=0 then((b.rows.map fun l=>l.map (ev [])).length:Int)else 0,[]⟩,(C9 t d (b.rows.map fun l=>l.map (ev []))).1):=by
  unfold Ff;rw[if_neg (by omega),if_neg (by omega),if_neg (by omega),if_pos hk,ht]
 have ai:∀l∈b.rows,l.length≤16777216∧∀e∈l,Fk e:=fun l aa=>by
  obtain⟨h1,row,aj,h2⟩:=ah l aa;refine⟨by have:=(Hf ok.cat ac).2;omega,fun e' ak=>?_⟩;obtain⟨e0,al,h3,h4⟩:=h2 e' ak;have h5:=(hf.rows row aj).2 e0 al;exact⟨by rw[h3];exact h5.1,h4 h5.2⟩
 rw[e1];refine(Ajr hE hn he ok hhas b cs hR ht (by rw[hl];exact hf.rowsl) ai (fun l aa=>Ato (Ard ok.cat ac) hr ag l aa) (q&&G7 d b) fun ab=>?_).mono fun e w' h=>Ail h rfl rfl
 rw[aY]at ab;have ad:=ab.2;simp only[G7,hk,bZ,aY,decide_eq_true_eq,List.all_eq_true]at ad;have am:(d.c.indexes.length=0∧∀t∈d.c.tables,(d.R t.name).length=0)∧b.rows.length≤4:=by
  rcases ad with(h|h)|h
  ·omega
  ·omega
  ·exact⟨⟨h.1.1.2,h.1.2⟩,h.2⟩
 refine⟨by omega,hq ab.1,?_⟩;cases hF:flat T with
 |nil=>grind
 |cons x F=>
  obtain⟨u,hu,r,an,_⟩:=(hhas x).1 (by rw[hF];simp);grind
theorem Apv (hk:b.kind=5):aR aC 41 #[aG (O ⟨n,0,J⟩),aU cs.toArray] w fun e w'=>Wn E n (Ff d b) a (q&&G7 d b) w w' e:=by
 obtain⟨ac,_,ad,_⟩:=G4 hb;obtain⟨t,ht,hr,hs,hw⟩:=Ox hb (.inr (.inl (ac.symm.trans hk)));obtain⟨_,_,_,_,ae⟩:=Wl (Fe hb).2.1;rw[←ad]at ht;have aa:=Zf hw;have ab:=Zg (by have:=(Hf ok.cat ((Ee ht).1)).2;simp[F8];omega) hw ae;refine(Ajt hE hn he ok hhas (Wm ok.cat) b cs hR ht ⟨by rw[aa.1];exact hf.wher.1,aa.2 hf.wher.2⟩ (ab.1 hf.b.fs.wher) ab.2).mono ?_;rintro e w' ⟨rfl,af,ag,T',h1,h2,h3,h4⟩;have e1:Ff d b=(⟨0,(((d.R t.name).filter (Au b.wher)).length:Int),[]⟩,d.upd t.name ((d.R t.name).filter fun r=>!Au b.wher r)):=by
  unfold Ff;rw[if_neg (by omega),if_neg (by omega),if_neg (by omega),if_neg (by omega),if_pos hk,ht]
 rw[e1];exact⟨_,_,rfl,rfl,⟨T',to',tc,io,ic,af,ag,h1,h3,fun h=>by simp[G7,hk]at h⟩,h2,h4⟩
theorem Apw (hk:b.kind=6):aR aC 42 #[aG (O ⟨n,0,J⟩),aU cs.toArray] w fun e w'=>Wn E n (Ff d b) a (q&&G7 d b) w w' e:=by
 obtain⟨ad,_,ae,_⟩:=G4 hb;obtain⟨t,ht,hr,hs,hw⟩:=Ox hb (.inr (.inr (ad.symm.trans hk)));obtain⟨_,af,_,_,ag⟩:=Wl (Fe hb).2.1;rw[←ae]at ht;have aa:=(Ee ht).1;have ab:=Zf hw;have ac:=Zg (by have:=(Hf ok.cat aa).2;simp[F8];omega) hw ag;refine(Aju hE hn he ok hhas (Wm ok.cat) b cs hR ht ⟨by rw[ab.1];exact hf.wher.1,ab.2 hf.wher.2⟩ (ac.1 hf.b.fs.wher) ac.2 (by rw[Ana hs];exact hf.b.sets) (fun p hp=>?_) (fun r ah=>Aw7 (Ard ok.cat aa) hs af r ah)).mono fun e w' h=>?_
 ·obtain⟨p0,ai,⟨h3,h4⟩,h5⟩:=Aw8 hs p hp;have h6:=hf.sets p0 ai;exact⟨⟨by rw[h3];exact h6.1,h4 h6.2⟩,h5⟩
 ·have e1:Ff d b=(⟨(C9 t (d.upd t.name ((d.R t.name).filter fun r=>!Au b.wher r)) (((d.R t.name).filter (Au b.wher)).map (Gn t b.sets))).2,if(C9 t (d.upd t.name ((d.R t.name).filter fun r=>!Au b.wher r)) (((d.R t.name).filter (Au b.wher)).map (Gn t b.sets))).2=0 then((((d.R t.name).filter (Au b.wher)).map (Gn t b.sets)).length:Int)else 0,[]⟩,(C9 t (d.upd t.name ((d.R t.name).filter fun r=>!Au b.wher r)) (((d.R t.name).filter (Au b.wher)).map (Gn t b.sets))).1):=by
   unfold Ff;rw[if_neg (by omega),if_neg (by omega),if_neg (by omega),if_neg (by omega),if_neg (by omega),if_pos hk,ht]
  rw[e1];exact Ail h rfl (by simp[G7,hk])
end
section
variable {E:List Nat}{n:Nat}{d:Db}{T:List Pg}{a:Int}{to' io po:Option Addr}{tc ic pc:Nat}{w:aJ}(he:EngC E w n d.c T a (C to' d.c.tables.length tc) (C io d.c.indexes.length ic) (C po T.length pc)) (ok:DbOk d) (hhas:Has d (flat T)) {st b:Stm}(hb:Cf d.c st=.ok b) (hf:FitC st) {cs:List aL}(hR:Ie.R (fun k=>k<w.heap.size) w b cs)
include he ok hhas hb hf hR
theorem Apx (hk:b.kind=7):aR aC 43 #[aG (O ⟨n,0,J⟩),aU cs.toArray] w fun e w'=>Ng w w' e (Atp d b):=by
 obtain⟨ag,_⟩:=G4 hb;obtain⟨S,hS,ho,hr,hw,ah,_,_⟩:=Am3 hb (ag.symm.trans hk);obtain⟨ab,ar,ai,aa⟩:=Aw1 hS;obtain⟨_,_,_,_,aj⟩:=Wl (Fe hb).2.1;rw[←ah]at ab aa;have ac:∀t∈S,t∈d.c.tables:=fun t ht=>by
  obtain⟨k,hk,rfl⟩:=bB ht;exact(Ee (aa k _ _ (aB (show k<b.frm.length by omega)) (aB hk))).1
 have ak:(F8 S).length≤1000:=by
  have h4:∀t∈S,t.cols.length≤4:=fun t ht=>(Hf ok.cat (ac t ht)).2
  have:=J7 TabD.cols 4 S h4;unfold F8;omega
 have ad:=Zf hw;have ae:=Zg ak hw aj;obtain⟨al,am⟩:=Aif hr;obtain⟨an,ap⟩:=A2w ho hf.out;have au:(Vy S).length≤16777216:=by
  have:=J7 (fun t:TabD=>t.cols.map fun c=>(t.name,c.name)) 4 S fun t ht=>by rw[aX];exact(Hf ok.cat (ac t ht)).2
  unfold Vy;rw[Aa4];unfold Hb;omega
 refine(Am1 he ok hhas (Wm ok.cat) b cs hR S ab aa ai ⟨by rw[ad.1];exact hf.wher.1,ad.2 hf.wher.2⟩ (ae.1 hf.b.fs.wher) ae.2 (by rw[al];exact hf.order.1) (fun e he=>?_) (by rcases ap with h|h<;>rw[h];exact hf.b.out;omega) an).mono ?_
 ·obtain⟨e0,aq,h3,h4⟩:=am e he;have h5:=hf.order.2 e0 aq;exact⟨by rw[h3];exact h5.1,h4 h5.2⟩
 ·rintro e w' ⟨A2,hp,hs,af⟩;have e1:=by
   refine A2v ok b S ac hp ?_ hs (Ajs d b);have:=Apq d b;unfold Ae0 at this;rw[(Aig ab aa)]at this;exact this
  rw[e1]at af;exact af
end
theorem Axi {d}{b}(hk:b.kind=1∨b.kind=2∨b.kind=3):(Ff d b).1=⟨0,0,[]⟩:=by
 unfold Ff;grind
theorem Apy {d}{b}(hk:b.kind=7):Ff d b=(⟨0,0,Atp d b⟩,d):=by
 unfold Ff;grind
theorem Ajv {P}{w}{ops}{o}{a}{K}{Q}{X}(aa:o.guard=J)(ty)(x)(ho:o.op=.load ty x)
  (g) (hx:a.eval x=aG (O ⟨g,0,J⟩)) (t) (cs) (fr) (d) (hg:w.heap[g]?=O (aD cs t fr))
  (hu:P.underlying ty=O d) (hd:(match d with|.struct _|.array _ _=>aK|_=>aQ)=aK) (hi:(P.info? ty).map (·.size)=O cs.size)
  (h:K (a.put o.dst (aU cs)) w):if eS o (yielded ops a.tmps)=aK then Oper.wp P o a w K Q else X:=by
 rw[if_pos (by simp[eS,aa])];exact wp_load_row ty x ho g hx t cs fr d hg hu hd hi h
theorem C3 (x y)(so)(n c):(#[U Y x,U Y y,C so n c]:Array aL).all (·.oneCell')=aK:=by simp[bO]
theorem Ar:(Tryz.prog.info? 32).map (·.size)=O 3:=by kernel_rfl
theorem Anb {ct}{st}{m}(h:Cf ct st=eV m):m=1∨m=3∨m=4∨m=5∨m=8:=by
 unfold Cf at h;split at h
 ·grind
 ·exact Ahs h
def Anc (E:List Nat)(n:Nat)(p:Rep×Db)(a:Int)(q:Bool)(w w':aJ)(e:Ending):Prop:=(∃rv,e=aI (aU #[U Y p.1.code,U Y p.1.n,rv])∧Dm w.heap.size rv p.1.rows w')∧Zi E n p a q w w'
def Su (d:Db)(st:Stm)(q:Bool):Bool:=match Cf d.c st with
 |eV _=>q
 |.ok b=>q&&G7 d b
theorem Att {c:CatD}{st b:Stm}(h:Cf c st=.ok b)(hf:FitC st):∀r∈b.rows,r≠[]:=by
 obtain⟨hk,_,_,_,_,h1,h7⟩:=G4 h
 by_cases h3:st.kind≤3
 ·rw[Atq h (by omega)];exact fun r hr=>(hf.rows r hr).1
 ·by_cases h4:st.kind=7
  ·obtain⟨_,_,hb⟩:=Fe h;rw[Ep,if_neg (by omega),if_neg (by omega),if_neg (by omega),if_neg (by omega),if_pos h4]at hb;have e:b.rows=st.rows:=by
    unfold E3 at hb;split at hb
    ·grind
    split at hb
    ·grind
    split at hb
    ·grind
    split at hb
    ·grind
    cases hb;rfl
   rw[e];exact fun r hr=>(hf.rows r hr).1
  ·obtain⟨t,ht,hr,_⟩:=Ox h (by omega);obtain⟨_,aa⟩:=Aey hr;intro r ab e;obtain⟨hl,row,ac,_⟩:=aa r ab;have hc:=(Ed (Fe h).1).2.2 t (Ee ht).1;grind
theorem A2y {E}{n}{d}{T}{a}{to' io po}{tc ic pc}{w}(hE:Br E w)(hn:n∈E)(he:EngC E w n d.c T a (C to' d.c.tables.length tc) (C io d.c.indexes.length ic) (C po T.length pc))(ok:DbOk d)(ac:Has d (flat T))(q)(hq:q=aK→T.length≤1)(st)(cs)(hR:Ie.R (fun k=>k<w.heap.size) w st cs)(hf:FitC st):
  aR aC 26 #[aG (O ⟨n,0,J⟩),aU cs.toArray] w fun e w'=>Anc E n (Fp d st) a (Su d st q) w w' e:=by
 obtain⟨o1,c1,o2,c2,o3,c3,o4,c4,o5,c5,op,xk,xn,xs,s,aj,n8,o6,k6,c6,o7,c7,rfl,-⟩:=Bb hR;obtain⟨ak,am,ar,be⟩:=al2 w (aD (sA st.kind st.name st.table st.col (C o1 st.cols.length c1) (C o2 st.rows.length c2) (C o3 st.sets.length c3) (C o4 st.frm.length c4) (C o5 st.out.length c5) op xk xn xs s aj n8 (C o6 k6 c6) (C o7 st.order.length c7) st.down st.n) 50) (aD #[U Y 0,U Y 0,C J 0 0] 32);have an:=he.below ak;have HB:∀W,Below ((w.alloc (aD (sA st.kind st.name st.table st.col (C o1 st.cols.length c1) (C o2 st.rows.length c2) (C o3 st.sets.length c3) (C o4 st.frm.length c4) (C o5 st.out.length c5) op xk xn xs s aj n8 (C o6 k6 c6) (C o7 st.order.length c7) st.down st.n) 50)).alloc (aD #[U Y 0,U Y 0,C J 0 0] 32)).heap.size ((w.alloc (aD (sA st.kind st.name st.table st.col (C o1 st.cols.length c1) (C o2 st.rows.length c2) (C o3 st.sets.length c3) (C o4 st.frm.length c4) (C o5 st.out.length c5) op xk xn xs s aj n8 (C o6 k6 c6) (C o7 st.order.length c7) st.down st.n) 50)).alloc (aD #[U Y 0,U Y 0,C J 0 0] 32)) W→aR aC 35 #[aU #[C to' d.c.tables.length tc,C io d.c.indexes.length ic],aU (sA st.kind st.name st.table st.col (C o1 st.cols.length c1) (C o2 st.rows.length c2) (C o3 st.sets.length c3) (C o4 st.frm.length c4) (C o5 st.out.length c5) op xk xn xs s aj n8 (C o6 k6 c6) (C o7 st.order.length c7) st.down st.n)] W fun r w'=>∃(ad:Array aL) (z:Int),r=aI (bU #[aU ad,U Y z])∧ad.size=20∧ad.all (·.oneCell')=aK∧Hid (match Cf d.c st with|eV m=>z=m|.ok b=>z=0∧Ie.R (Fx w.heap.size (w.heap.size+2)) w' b ad.toList)∧Below W.heap.size W w':=fun W h=>(Aws d.c _ st (sA st.kind st.name st.table st.col (C o1 st.cols.length c1) (C o2 st.rows.length c2) (C o3 st.sets.length c3) (C o4 st.frm.length c4) (C o5 st.out.length c5) op xk xn xs s aj n8 (C o6 k6 c6) (C o7 st.order.length c7) st.down st.n).toList w.heap.size W ⟨_,_,rfl,(he.tabs.mono (F':=fun k=>k<w.heap.size) fun k hk _=>hk).keep (Ae (Ac ak h)),(he.idxs.mono (F':=fun k=>k<w.heap.size) fun k hk _=>hk).keep (Ae (Ac ak h))⟩ (Ie.keep (Ae (Ac ak h)) hR) (Ac ak h).size (Wm ok.cat) hf.b).mono (by
  rintro r w' ⟨⟨u,rfl,hu⟩,bf⟩;cases aa:Cf d.c st with
  |error m=>
   rw[aa]at hu;obtain rfl:u=_:=hu;exact⟨Bn,m,rfl,rfl,P0 (Ca _ _ _) (Ca _ _ _) (Ca _ _ _) (Ca _ _ _) (Ca _ _ _) (Ca _ _ _) (Ca _ _ _),rfl,bf⟩
  |ok b=>
   rw[aa]at hu;obtain⟨ad,rfl,bp,h1,hk⟩:=hu;exact⟨ad,0,rfl,bp,h1,⟨rfl,Ie.mono (fun k _ hk=>hk.imp id (fun h3=>aH (aH (Nat.le_of_eq be.symm) h.size) h3)) hk⟩,bf⟩)
 have bg:=he.lt;generalize hW:((w.alloc _).alloc _)=W2 at ak am ar be an HB;have HW:Hid _:=hW;have v0:=Aa an.blk (j:=0) rfl;have v1:=Aa an.blk (j:=1) rfl;clear hW;clear hR;go_enter Tryz.func26,Tryz.ntmps26;go_upto_region 1 with fail;rw[HW.out];refine bE (S:=(fun W=>W.cell? ⟨n,0,J⟩=O (C to' d.c.tables.length tc)∧W.cell? ⟨n,1,J⟩=O (C io d.c.indexes.length ic))) (by rfl) ?_ (fun hHeld=>?_)
 ·simp_all
 refine tk 0 ?_;refine tk 1 ?_;refine tk 2 ?_;refine tk 3 ?_;refine Bi 4 (fun K hK=>?_);refine Ajv rfl 50 _ rfl w.heap.size ?_ 50 (sA st.kind st.name st.table st.col (C o1 st.cols.length c1) (C o2 st.rows.length c2) (C o3 st.sets.length c3) (C o4 st.frm.length c4) (C o5 st.out.length c5) op xk xn xs s aj n8 (C o6 k6 c6) (C o7 st.order.length c7) st.down st.n) (0,0) _ ?_ aN ?_ ?_ ?_;exact rfl;exact am;exact rfl;exact D4;refine hK.out _ _ ?_ (fun hHeld=>?_)
 ·omega
 clear hK K;refine Bi 5 (fun K hK=>?_);go_simp
 (refine(HB _ (aF _ _).drew).mono ?_;rintro e w1 ⟨ad,z,rfl,ap,au,bh,bi⟩;have av:=Ac (aF _ _).drew bi;have bb:=(av.block _ (aA am)).trans am;have bj:=(av.block _ (aA ar)).trans ar;have aq:=an.below av;have aw:=No ap)
 go_wp2_with fail;refine hK.out _ _ ?_ (fun hHeld=>?_)
 ·exact⟨Aa aq.blk rfl,Aa aq.blk rfl⟩
 clear hK K;refine tk 6 ?_;refine tk 7 ?_;refine tk 8 ?_;refine Bi 9 (fun K hK=>?_);refine Hx rfl 50 _ _ rfl w.heap.size ad ?_ ?_ 50 (sA st.kind st.name st.table st.col (C o1 st.cols.length c1) (C o2 st.rows.length c2) (C o3 st.sets.length c3) (C o4 st.frm.length c4) (C o5 st.out.length c5) op xk xn xs s aj n8 (C o6 k6 c6) (C o7 st.order.length c7) st.down st.n) ?_ ?_ ?_ ?_ ?_;exact rfl;exact rfl;exact bb;exact aw;exact ap.symm;exact au;refine hK.out _ _ ?_ (fun hHeld=>?_)
 ·exact⟨Aa (Bz aq.blk (bL bg) _) rfl,Aa (Bz aq.blk (bL bg) _) rfl⟩
 clear hK K
 try simp only[Act.put]
 refine tk 10 ?_;refine cI (by kernel_rfl) ?_ _;have bS:=Ao (cells:=ad) bb;have bR:=Bz (g:=w.heap.size) bj (by omega) ad;have hb:=Below.row (Ac ak av) (aE _) ad;have bc:Hid (match Cf d.c st with|eV m=>z=m|.ok b=>z=0∧Ie.R (Fx w.heap.size (w.heap.size+2)) (w1.setRow w.heap.size ad) b ad.toList):=by
  have h:=bh.out
  revert h
  show _→_;cases Cf d.c st with
  |error m=>exact fun h=>h
  |ok b=>exact fun h=>⟨h.1,Ie.keep ((Keeps.refl _ _).row (fun h=>by rcases h with h|h<;>omega) _) h.2⟩
 clear bb bj am ar HB aq an v0 v1 bi bh HW;generalize w1.setRow _ ad=V at bS bR hb bc⊢;have ax:=bc.out;clear bc;cases aa:Cf d.c st with
 |error m=>
  rw[aa]at ax;obtain rfl:=ax;have HE:Hid (Fp d st=(⟨z,0,[]⟩,d)):=by show _=_;rw[Fp,aa]
  have HQ:Hid (Su d st q=q):=by show _=_;rw[Su,aa]
  have hm:=Anb aa;clear aa;rcases hm with rfl|rfl|rfl|rfl|rfl
  ·go_wp2_with(refine aO rfl 32 _ _ rfl (w.heap.size+1) #[U Y 1,U Y 0,C J 0 0] ?_ ?_ 32 #[U Y 0,U Y 0,C J 0 0] ?_ ?_ ?_ ?_ ?_;exact rfl;exact rfl;exact bR;exact Ar;exact rfl;exact C3 _ _ _ _ _);refine aM (v:=aU #[U Y 1,U Y 0,C J 0 0]) (aP bC _ _ (w.heap.size+1) 32 #[U Y 1,U Y 0,C J 0 0] _ _ rfl (Ao bR) aT rfl Ar) rfl ?_;rw[HE.out,HQ.out];have ab:=Below.row hb (show w.heap.size≤w.heap.size+1 by omega) #[U Y 1,U Y 0,C J 0 0];exact⟨⟨_,rfl,B8 _ _⟩,⟨T,to',tc,io,ic,po,pc,he.below ab,ac,hq⟩,ok,But.of_below ab⟩
  ·go_wp2_with(refine aO rfl 32 _ _ rfl (w.heap.size+1) #[U Y 3,U Y 0,C J 0 0] ?_ ?_ 32 #[U Y 0,U Y 0,C J 0 0] ?_ ?_ ?_ ?_ ?_;exact rfl;exact rfl;exact bR;exact Ar;exact rfl;exact C3 _ _ _ _ _);refine aM (v:=aU #[U Y 3,U Y 0,C J 0 0]) (aP bC _ _ (w.heap.size+1) 32 #[U Y 3,U Y 0,C J 0 0] _ _ rfl (Ao bR) aT rfl Ar) rfl ?_;rw[HE.out,HQ.out];have ab:=Below.row hb (show w.heap.size≤w.heap.size+1 by omega) #[U Y 3,U Y 0,C J 0 0];exact⟨⟨_,rfl,B8 _ _⟩,⟨T,to',tc,io,ic,po,pc,he.below ab,ac,hq⟩,ok,But.of_below ab⟩
  ·go_wp2_with(refine aO rfl 32 _ _ rfl (w.heap.size+1) #[U Y 4,U Y 0,C J 0 0] ?_ ?_ 32 #[U Y 0,U Y 0,C J 0 0] ?_ ?_ ?_ ?_ ?_;exact rfl;exact rfl;exact bR;exact Ar;exact rfl;exact C3 _ _ _ _ _);refine aM (v:=aU #[U Y 4,U Y 0,C J 0 0]) (aP bC _ _ (w.heap.size+1) 32 #[U Y 4,U Y 0,C J 0 0] _ _ rfl (Ao bR) aT rfl Ar) rfl ?_;rw[HE.out,HQ.out];have ab:=Below.row hb (show w.heap.size≤w.heap.size+1 by omega) #[U Y 4,U Y 0,C J 0 0];exact⟨⟨_,rfl,B8 _ _⟩,⟨T,to',tc,io,ic,po,pc,he.below ab,ac,hq⟩,ok,But.of_below ab⟩
  ·go_wp2_with(refine aO rfl 32 _ _ rfl (w.heap.size+1) #[U Y 5,U Y 0,C J 0 0] ?_ ?_ 32 #[U Y 0,U Y 0,C J 0 0] ?_ ?_ ?_ ?_ ?_;exact rfl;exact rfl;exact bR;exact Ar;exact rfl;exact C3 _ _ _ _ _);refine aM (v:=aU #[U Y 5,U Y 0,C J 0 0]) (aP bC _ _ (w.heap.size+1) 32 #[U Y 5,U Y 0,C J 0 0] _ _ rfl (Ao bR) aT rfl Ar) rfl ?_;rw[HE.out,HQ.out];have ab:=Below.row hb (show w.heap.size≤w.heap.size+1 by omega) #[U Y 5,U Y 0,C J 0 0];exact⟨⟨_,rfl,B8 _ _⟩,⟨T,to',tc,io,ic,po,pc,he.below ab,ac,hq⟩,ok,But.of_below ab⟩
  ·go_wp2_with(refine aO rfl 32 _ _ rfl (w.heap.size+1) #[U Y 8,U Y 0,C J 0 0] ?_ ?_ 32 #[U Y 0,U Y 0,C J 0 0] ?_ ?_ ?_ ?_ ?_;exact rfl;exact rfl;exact bR;exact Ar;exact rfl;exact C3 _ _ _ _ _);refine aM (v:=aU #[U Y 8,U Y 0,C J 0 0]) (aP bC _ _ (w.heap.size+1) 32 #[U Y 8,U Y 0,C J 0 0] _ _ rfl (Ao bR) aT rfl Ar) rfl ?_;rw[HE.out,HQ.out];have ab:=Below.row hb (show w.heap.size≤w.heap.size+1 by omega) #[U Y 8,U Y 0,C J 0 0];exact⟨⟨_,rfl,B8 _ _⟩,⟨T,to',tc,io,ic,po,pc,he.below ab,ac,hq⟩,ok,But.of_below ab⟩
 |ok b=>
  rw[aa]at ax;obtain⟨rfl,ai⟩:=ax;have HE:Hid (Fp d st=Ff d b):=by show _=_;rw[Fp,aa]
  have HQ:Hid (Su d st q=(q&&G7 d b)):=by show _=_;rw[Su,aa]
  have ae:=hE.below hb;have af:=he.below hb;obtain⟨p1,d1,p2,d2,p3,d3,p4,d4,p5,d5,yo,yk,yn,ys,y0,bw,y8,p6,m6,d6,p7,d7,bk,-⟩:=Bb ai;obtain rfl:=Array.toList_inj.1 bk;clear bk;have a0:=Aa bS (j:=0) rfl;have al:=A2x ae ai (Att aa hf);have ay:w.heap.size+1≠n:=by omega
  have bq:=G4 aa;rcases(show(b.kind=1∨b.kind=2∨b.kind=3)∨(b.kind=4∨b.kind=5∨b.kind=6)∨b.kind=7 by omega)with hk|hk|hk
  all_goals clear bq
  all_goals have HK:Hid _:=hk
  ·rcases hk with hk|hk|hk
   all_goals rw[hk]at a0
   focus have HI:=Apt ae hn af ok ac q hq aa (Ie.mono (fun k hk _=>hk) ai) hk
   rotate_left
   focus have HI:=Axg ae hn af ok ac q aa (Ie.mono (fun k hk _=>hk) ai) hk
   rotate_left
   focus have HI:=Axh ae hn af ok ac q aa al hk
   all_goals
    clear aa hk hf ai al af ae ap au hE he ac;generalize(q&&G7 d b)=q2 at HI HQ;generalize hp:Ff d b=p at HI HE;go_wp2_with(first
     |(go_fit HI;rintro e w8 ⟨rfl,ag⟩;have ah:=(ag.2.2.block _ (aA bR) ay).trans bR)
     |(refine cB rfl 50 _ rfl _ ?_ 50 _ _ _ bS aN ?_ ?_ ?_;exact rfl;exact rfl;exact aw)
     |(refine aO rfl 32 _ _ rfl (w.heap.size+1) #[U Y 0,U Y 0,C J 0 0] ?_ ?_ 32 #[U Y 0,U Y 0,C J 0 0] ?_ ?_ ?_ ?_ ?_;exact rfl;exact rfl;exact ah;exact Ar;exact rfl;exact C3 _ _ _ _ _))
    refine aM (v:=aU #[U Y 0,U Y 0,C J 0 0]) (aP bC _ _ (w.heap.size+1) 32 #[U Y 0,U Y 0,C J 0 0] _ _ rfl (Ao ah) aT rfl Ar) rfl ?_;have bl:p.1=⟨0,0,[]⟩:=by rw[←hp];exact Axi (by have:=HK.out;omega)
    rw[HE.out,HQ.out];refine⟨⟨_,by rw[bl],by rw[bl];exact B8 _ _⟩,ag.1.row (Cn ah) (Ne.symm ay) _,ag.2.1,((But.of_below hb).trans ag.2.2).rowB (by omega) _⟩
  ·rcases hk with hk|hk|hk
   all_goals rw[hk]at a0
   focus have HI:=Apu ae hn af ok ac q aa hf al hq hk
   rotate_left
   focus have HI:=Apv ae hn af ok ac q aa hf al hk
   rotate_left
   focus have HI:=Apw ae hn af ok ac q aa hf al hk
   all_goals
    clear aa hk hf ai al af ae ap au hE he ac;generalize(q&&G7 d b)=q2 at HI HQ;generalize hp:Ff d b=p at HI HE;clear hp;go_wp2_with(first
     |(go_fit HI;rintro e w8 ⟨N8,m8,rfl,bm,ag⟩;have ah:=(ag.2.2.block _ (aA bR) ay).trans bR)
     |(go_fit(Apo _ _ _);rintro e w9 ⟨rfl,ab⟩;have bd:=(ab.block _ (aA ah)).trans ah)
     |(refine cB rfl 50 _ rfl _ ?_ 50 _ _ _ bS aN ?_ ?_ ?_;exact rfl;exact rfl;exact aw)
     |(refine aO rfl 32 _ _ rfl (w.heap.size+1) #[U Y m8,U Y N8,C J 0 0] ?_ ?_ 32 #[U Y 0,U Y 0,C J 0 0] ?_ ?_ ?_ ?_ ?_;exact rfl;exact rfl;exact bd;exact Ar;exact rfl;exact C3 _ _ _ _ _))
    refine aM (v:=aU #[U Y m8,U Y N8,C J 0 0]) (aP bC _ _ (w.heap.size+1) 32 #[U Y m8,U Y N8,C J 0 0] _ _ rfl (Ao bd) aT rfl Ar) rfl ?_;rw[HE.out,HQ.out];refine⟨⟨_,by rw[bm.out],by rw[bm.out];exact B8 _ _⟩,(ag.1.below ab).row (Cn bd) (Ne.symm ay) _,ag.2.1,(((But.of_below hb).trans ag.2.2).trans (But.of_below ab)).rowB (by omega) _⟩
  ·rw[hk]at a0;have HI:=Apx af ok ac aa hf (Ie.mono (fun k hk _=>hk) ai) hk;have bt:(q&&G7 d b)=aK→T.length≤1:=fun h=>hq (by grind)
   clear aa hk hf ai al af ae ap au hE;have HD:Hid (Ff d b=(⟨0,0,_⟩,d)):=Apy HK.out;generalize Atp d b=A at HI HD;have bu:Hid _:=ac;have bv:Hid _:=he;clear he ac;go_wp2_with(first
    |(go_fit HI;rintro e w8 ⟨bx,rfl,bn,bo⟩;obtain⟨az,ba,rfl⟩:=(J8 bn).shape;have ah:=(bo.block _ (aA bR)).trans bR)
    |(refine cB rfl 50 _ rfl _ ?_ 50 _ _ _ bS aN ?_ ?_ ?_;exact rfl;exact rfl;exact aw)
    |(refine aO rfl 32 _ _ rfl (w.heap.size+1) #[U Y 0,U Y 0,C az A.length ba] ?_ ?_ 32 #[U Y 0,U Y 0,C J 0 0] ?_ ?_ ?_ ?_ ?_;exact rfl;exact rfl;exact ah;exact Ar;exact rfl;exact C3 _ _ _ _ _))
   refine aM (v:=aU #[U Y 0,U Y 0,C az A.length ba]) (aP bC _ _ (w.heap.size+1) 32 #[U Y 0,U Y 0,C az A.length ba] _ _ rfl (Ao ah) aT rfl Ar) rfl ?_;rw[HE.out,HQ.out,HD.out];have ab:=Below.row (Ac hb bo) (show w.heap.size≤w.heap.size+1 by omega) #[U Y 0,U Y 0,C az A.length ba];refine⟨⟨_,rfl,(bn.row (by grind) _).base hb.size⟩,⟨T,to',tc,io,ic,po,pc,bv.out.below ab,bu.out,bt⟩,ok,But.of_below ab⟩
theorem A0g (m)(n):(str m).extract 0 n=str (m.take n):=by
 have:((str m).extract 0 n).data.toList=m.take n:=by
  rw[dH];simp[Bs]
 rw[←Qn ((str m).extract 0 n),this]
theorem A0h (m)(n):(str m).extract n (str m).size=str (m.drop n):=by
 have:((str m).extract n (str m).size).data.toList=m.drop n:=by
  rw[dH,Jy,Bs,bF (by simp)]
 rw[←Qn ((str m).extract n _),this]
theorem Sv (a)(w)(x r)(d)(h:RdC w a x r d aQ)(hr:r.size≤1500):
  aR aC 32 #[.pointer (O ⟨a,0,J⟩)] w fun e w'=>e=.returned (.tuple #[])∧Rd w' a (adv (Ig r.data.toList)) d∧But a w w':=by
 obtain⟨c0,c1,c2,c3⟩:=h.cells;have TL:=Alm r w;have ht:=Aqr r.data.toList;have ah:(r.data.toList.dropWhile D8).length≤1500:=by
  have:=Oo D8 r.data.toList;rw[Dp]at this;omega
 generalize Ig _=T at ht⊢;generalize r.data.toList.dropWhile D8=m at TL ht ah;have HT:Hid _:=ht;clear ht;have ai:(str m).size≤1500:=by rw[Jy];exact ah
 have WS:=fun W=>Alk (str m) W (by unfold cG;omega)
 rw[Bs]at WS;have ab:=Abz m
 by_cases ad:C4 m=0∧m≠[]
 ·obtain⟨ae,hm⟩:=ad;have he:(str m).toList.isEmpty=aQ:=by rw[bH,Bs];cases m with|nil=>grind|cons c m=>rfl
  have HF:Hid (T=[noW]):=by have:=HT.out;rw[if_neg hm,if_pos ae]at this;exact this
  rw[ae]at WS;clear HT hm ae ab;go_enter eA,dT;go_wp2_with(first
   |(go_fit TL;rintro e w1 ⟨rfl,aa⟩;have aj:=(fun W y z hW=>Sa a W y z d aQ hW) w1 _ _ (h.below aa))
   |(go_fit(WS _);rintro e w' ⟨rfl,rfl⟩)
   |(go_fit aj;rintro e w2 ⟨rfl,ak,al⟩))
  refine aM (v:=bU #[]) (by simp[eI,Tryz.results32,go_sem]) rfl ⟨rfl,?_,(But.of_below aa).trans al⟩;rw[HF.out];exact⟨_,_,_,ak,.wrong⟩
 ·have HF:Hid (T=[]∧m=[]∧C4 m=0∨0<C4 m∧T=str (m.take (C4 m))::Ig (m.drop (C4 m))):=by
   have:=HT.out
   by_cases hm:m=[]
   ·grind
   ·have h0:C4 m≠0:=fun e=>ad ⟨e,hm⟩
    rw[if_neg hm,if_neg h0]at this;exact .inr ⟨by omega,this⟩
  have af:(C4 m=0∧(str m).toList.isEmpty=aK)∨0<C4 m:=by
   rcases HF.out with⟨_,h1,h2⟩|⟨h1,_⟩
   ·exact .inl ⟨h2,by rw[bH,Bs,h1];rfl⟩
   ·omega
  have ac:0<C4 m→IsTok _:=fun h=>Ad0 h
  have e1:=A0g m (C4 m);have e2:=A0h m (C4 m);have ht:(str (m.take (C4 m))).size≤1500:=by rw[Jy,bK];omega
  have hd:(str (m.drop (C4 m))).size≤1500:=by rw[Jy,eM];omega
  have ed:(str _).data.toList=m.drop (C4 m):=Bs _;rw[←Jy m]at ab;generalize C4 m=n at WS ab HF af ac e1 e2 ht hd ed;have ag:Hid (Reads ((str m).extract 0 n) ((str m).extract n (str m).size) aQ (adv T)):=by
   show Reads _ _ _ _;rw[e1,e2];rcases HF.out with⟨rfl,rfl,rfl⟩|⟨h0,rfl⟩
   ·exact .over
   ·rw[Mp (ac h0).pos];have:=Reads.word (ac h0) ht hd;grind
  clear HF HT e1 e2 ht hd ed ac ad;generalize str m=sm at TL WS ab ai af ag;have i0:(0:Int)≤n:=by omega
  have i1:n≤(sm.size:Int):=by omega
  rcases af with⟨hn',he⟩|hn'
  ·have am:((n:Int)==0)=aK:=beq_iff_eq.2 (by omega);clear hn';go_enter eA,dT;go_wp2_with(first
    |(go_fit TL;rintro e w1 ⟨rfl,aa⟩)
    |(go_fit(WS _);rintro e w' ⟨rfl,rfl⟩))
   have hR:=h.below aa;obtain⟨d0,d1,d2,d3⟩:=hR.cells;have f0:=hR.frozen 0;have f1:=hR.frozen 1
   go_region
   go_end0
   exact⟨rfl,⟨_,_,_,((hR.set0 _).set1 _).drew,ag.out⟩,(((But.of_below aa).set _ _).set _ _).drew⟩
  ·have am:((n:Int)==0)=aQ:=beq_eq_false_iff_ne.2 (by omega);go_enter eA,dT;go_wp2_with(first
    |(go_fit TL;rintro e w1 ⟨rfl,aa⟩)
    |(go_fit(WS _);rintro e w' ⟨rfl,rfl⟩))
   have hR:=h.below aa;obtain⟨d0,d1,d2,d3⟩:=hR.cells;have f0:=hR.frozen 0;have f1:=hR.frozen 1
   go_region
   go_end0
   exact⟨rfl,⟨_,_,_,((hR.set0 _).set1 _).drew,ag.out⟩,(((But.of_below aa).set _ _).set _ _).drew⟩
theorem Ajw (s)(w)(hs:s.size≤1500):
  aR aC 23 #[.string s] w fun e w'=>∃a,e=.returned (.pointer (O ⟨a,0,J⟩))∧w.heap.size≤a∧Rd w' a (adv (Ig s.data.toList)) 0∧Below w.heap.size w w':=by
 have hR:RdC _ _ noW s 0 aQ:=Ab w _;have aa:Below _ w (w.alloc (aD #[Z noW,Z s,U Y 0,dP aQ] 95)):=(aF _ _).alloc (aE _) _;go_enter Tryz.func23,Tryz.ntmps23;go_wp2_with(go_fit(Sv _ _ noW s 0 hR hs);rintro e w1 ⟨rfl,ab,ac⟩);go_ret;exact⟨_,rfl,aE _,ab,aa.trans (ac.below (aE _) (by simp))⟩
theorem Reads.empty {x r}{b}{s}(h:Reads x r b s)(hx:x.size=0):s=J∧b=aK∨s=O []∧b=aQ:=by
 cases h with
 |wrong=>simp
 |over=>simp
 |word h1 _ _=>have:=h1.pos;omega
theorem Reads.at {x r}{b}{s}(h:Reads x r b s)(hx:0<x.size):s=O (x::Ig r.data.toList)∧b=aQ∧IsTok x∧r.size≤1500:=by
 cases h with
 |wrong=>cases hx
 |over=>cases hx
 |word h1 _ h2=>grind
theorem Atu {x r}{b}{s}{k}(h:Reads x r b s)(hk:0<k.size):(x≠k∧Ag k s=(aQ,s))∨(x=k∧b=aQ∧r.size≤1500∧Ag k s=(aK,adv (Ig r.data.toList))):=by
 cases h with
 |wrong=>exact .inl ⟨by rintro rfl;exact absurd hk (by decide),rfl⟩
 |over=>exact .inl ⟨by rintro rfl;exact absurd hk (by decide),rfl⟩
 |word h1 _ h2=>
  by_cases e:x=k
  ·subst e;exact .inr ⟨rfl,rfl,h2,J3⟩
  ·exact .inl ⟨e,Fg e⟩
theorem A2z (x k:Wd):(x.toList==k.toList)=decide (x=k):=by rw[bH k,Aup]
theorem Pn {x}(h:x.size=0):x=noW:=by
 cases x with
 |mk d=>
  have:d.size=0:=h;grind
theorem C7 (a)(k:Wd)(s)(d)(w)(h:Rd w a s d)(hk:0<k.size):
  aR aC 47 #[aG (O ⟨a,0,J⟩),Z k] w fun e w'=>e=aI (dP (Ag k s).1)∧Rd w' a (Ag k s).2 d∧But a w w':=by
 obtain⟨x,r,b,h1,h2⟩:=h;obtain⟨c0,c1,c2,c3⟩:=h1.cells;rcases Atu h2 hk with⟨hx,e⟩|⟨rfl,rfl,hr,e⟩
 ·rw[e];have hb:(x.toList==k.toList)=aQ:=by rw[A2z];simpa using hx
  clear hx;go_enter Tryz.func47,Tryz.ntmps47;go_wp2_with fail;go_ret;exact⟨rfl,⟨x,r,b,h1,h2⟩,But.refl _ _⟩
 ·rw[e];have hb:(x.toList==x.toList)=aK:=beq_self_eq_true _;go_enter Tryz.func47,Tryz.ntmps47;go_wp2_with(go_fit(Sv a w x r d h1 hr);rintro e w1 ⟨rfl,aa,ab⟩);go_ret;simp_all
theorem Wo (a)(s)(d)(w)(h:Rd w a s d):
  aR aC 46 #[aG (O ⟨a,0,J⟩)] w fun e w'=>e=aI (bU #[])∧Rd w' a J d∧But a w w':=by
 obtain⟨x,r,b,h1,h2⟩:=h;exact(Sa a w x r d b h1).mono fun e w' ⟨he,hr,hb⟩=>⟨he,⟨_,_,_,hr,.wrong⟩,hb⟩
theorem Po {a}{w w'}(h:But a w w'){b o}{v}(hc:w.cell? ⟨b,o,J⟩=O v)(hn:b≠a):w'.cell? ⟨b,o,J⟩=O v:=by
 have aa:b<w.heap.size:=by
  rcases Nat.lt_or_ge b w.heap.size with h|h
  ·omega
  ·have:=Array.getElem?_eq_none h;simp[dD,this]at hc
 rw[dV (h.block b aa hn)];omega
theorem Axj (a b ad cap:Nat)(ks:List Wd)(s:St)(d:Int)(w:aJ)(h:Rd w a s d)(ae:∀k∈ks,0<k.size)(ag:b≠a)(hc:∀i k,ks[i]?=O k→w.cell? ⟨b,ad+i,J⟩=O (Z k))(hl:ks.length≤1000):
  aR aC 34 #[aG (O ⟨a,0,J⟩),C (O ⟨b,ad,J⟩) ks.length cap] w fun e w'=>e=aI (bU #[])∧Rd w' a (Us ks s) d∧But a w w':=by
 have HC:Hid _:=hc;have HK:Hid _:=ae;clear hc ae;generalize hn:ks.length=n at*;have HN:Hid _:=hn;clear hn;go_enter Tryz.func34,Tryz.ntmps34;go_wp2_with fail
 go_loopw[5,8] (fun _ i wr=>∃k:Nat,k≤n∧i=U Y k∧Rd wr a (Us (ks.take k) s) d∧But a w wr) (fun _ i _=>n-(cQ i).toNat)
 case atStart=>exact⟨0,bA _,rfl,h,But.refl _ _⟩
 case round=>
  obtain⟨k,hk,rfl,aa,ab⟩:=hrel
  by_cases ah:k<n
  ·obtain⟨x,hx⟩:∃x,ks[k]?=O x:=⟨_,aB (by rw[HN.out];exact ah)⟩;have hc:=Po ab (HC.out k x hx) ag;have ai:=HK.out x (aS hx);have HW:Hid (Us (ks.take (k+1)) s=Cg x (Us (ks.take k) s)):=by
    show _=_;rw[bI,hx];simp[Us]
   clear hx;generalize Us _ s=t at aa HW;have SK:=C7 a x t d wr aa ai;have aj:Cg x t=if(Ag x t).1 then(Ag x t).2 else J:=rfl;rw[aj]at HW;generalize Ag x t=q at SK HW;obtain⟨q1,q2⟩:=q;have j0:(0:Int)≤k:=by omega
   have j1:k<(n:Int):=by omega
   cases q1
   ·go_wp2_with(first
     |(go_fit SK;rintro e w1 ⟨rfl,af,ac⟩;have FA:=Wo a _ d w1 af)
     |(go_fit FA;rintro e w2 ⟨rfl,am,ak⟩))
    go_roundw
    case rel=>exact⟨k+1,by omega,by rfl,by rw[HW.out];grind,(ab.trans ac).trans ak⟩
    case measure=>simp[cQ];omega
   ·go_wp2_with(first
     |(go_fit SK;rintro e w1 ⟨rfl,af,ac⟩))
    go_roundw
    case rel=>exact⟨k+1,by omega,by rfl,by rw[HW.out];grind,ab.trans ac⟩
    case measure=>simp[cQ];omega
  ·have al:k=n:=by omega
   subst al;have e1:ks.take k=ks:=by rw[←HN.out,bV]
   rw[e1]at aa;go_wp2_with fail
   go_end0
   grind
theorem A0i (a b cap)(k:Wd)(s)(d)(w)(h:Rd w a s d)(hk:0<k.size)(aa:b≠a)(hc:w.cell? ⟨b,0,J⟩=O (Z k)):
  aR aC 34 #[aG (O ⟨a,0,J⟩),C (O ⟨b,0,J⟩) 1 cap] w fun e w'=>e=aI (bU #[])∧Rd w' a (Cg k s) d∧But a w w':=
 Axj a b 0 cap [k] s d w h (by grind) aa (fun i x hx=>by grind) (by simp)
theorem Wp {x r}{b}{s}(h:Reads x r b s)(f):Gj f s=fst f x:=by
 cases h<;>rfl
theorem Nr {f}{x}(h:1≤x.size):fst f x=f x[0]:=by
 unfold fst;rw[J4 x h]
theorem Ane (a)(s)(d)(w)(h:Rd w a s d):
  aR aC 365 #[aG (O ⟨a,0,J⟩),.func (.func 74) #[] #[]] w fun e w'=>e=aI (dP (Gj Bo s))∧w'=w:=by
 obtain⟨x,r,b,h1,h2⟩:=h;obtain⟨c0,c1,c2,c3⟩:=h1.cells;rw[Wp h2]
 by_cases hx:x.size=0
 ·have he:x.toList.isEmpty=aK:=by rw[Pn hx];rw[bH];rfl
  have hf:fst Bo x=aQ:=by rw[Pn hx];rfl
  rw[hf];clear hf hx;go_enter dC,cW;go_wp2_with fail;go_ret;simp
 ·have aa:1≤x.size:=by omega
  have he:x.toList.isEmpty=aQ:=by rw[bH,J4 x aa];rfl
  have D:=fun W=>Te (x[0].toNat:Int) W
  simp only[S7]at D;rw[Nr aa];generalize Bo _=v at D⊢;clear hx;go_enter dC,cW;go_wp2_with(go_fit(D _);rintro e w' ⟨rfl,rfl⟩);go_ret;exact⟨rfl,rfl⟩
theorem Anf (a)(s)(d)(w)(h:Rd w a s d):
  aR aC 365 #[aG (O ⟨a,0,J⟩),.func (.func 366) #[] #[]] w fun e w'=>e=aI (dP (Gj Du s))∧w'=w:=by
 obtain⟨x,r,b,h1,h2⟩:=h;obtain⟨c0,c1,c2,c3⟩:=h1.cells;rw[Wp h2]
 by_cases hx:x.size=0
 ·have he:x.toList.isEmpty=aK:=by rw[Pn hx];rw[bH];rfl
  have hf:fst Du x=aQ:=by rw[Pn hx];rfl
  rw[hf];clear hf hx;go_enter dC,cW;go_wp2_with fail;go_ret;simp
 ·have aa:1≤x.size:=by omega
  have he:x.toList.isEmpty=aQ:=by rw[bH,J4 x aa];rfl
  have D:=fun W=>Aon (x[0].toNat:Int) W
  rw[Nr aa];have hq:((x[0].toNat:Int)==39)=Du x[0]:=by
   unfold Du;rw[eU,beq_iff_eq,beq_iff_eq,←cJ];simp;omega
  simp only[hq]at D;clear hq;generalize Du _=v at D⊢;clear hx;go_enter dC,cW;go_wp2_with(go_fit(D _);rintro e w' ⟨rfl,rfl⟩);go_ret;exact⟨rfl,rfl⟩
theorem Wq {x r}{b}{s}(h:Reads x r b s):x.size≤1500:=by
 cases h with
 |wrong=>decide
 |over=>decide
 |word _ h1 _=>omega
theorem Gq (a:Nat)(s:St)(d:Int)(w:aJ)(h:Rd w a s d):
  aR aC 80 #[aG (O ⟨a,0,J⟩)] w fun e w'=>e=aI (Z (Bm s).1)∧Rd w' a (Bm s).2 d∧But a w w':=by
 obtain⟨x,r,b,h1,h2⟩:=h;obtain⟨c0,c1,c2,c3⟩:=h1.cells;have ac:=Wq h2;have NM:=K7 x w (by unfold cG;omega);cases hn:nm x
 ·have e:Bm s=(noW,J):=by cases h2<;>simp[Bm,hn]
  rw[e];rw[hn]at NM;have FA:=Sa a w x r d b h1;go_enter Tryz.func80,Tryz.ntmps80;go_wp2_with(first
   |(go_fit NM;rintro e w' ⟨rfl,rfl⟩)
   |(go_fit FA;rintro e w2 ⟨rfl,aa,ab⟩))
  go_ret;exact⟨rfl,⟨_,_,_,aa,.wrong⟩,ab⟩
 ·obtain⟨rfl,rfl,_,hr⟩:=h2.at (Adw hn);have e:=Vq (r:=Ig r.data.toList) hn;rw[e];rw[hn]at NM;clear e;have NX:=Sv a w x r d h1 hr;go_enter Tryz.func80,Tryz.ntmps80;go_wp2_with(first
   |(go_fit NM;rintro e w' ⟨rfl,rfl⟩)
   |(go_fit NX;rintro e w2 ⟨rfl,aa,ab⟩))
  go_ret;simp_all
structure Env (w:aJ):Prop where
 mx:∃m,w.cell? ⟨2,0,J⟩=O (U Y m)
 es:∃t p,w.cell? ⟨3,0,J⟩=O (.iface t p)
 er:∃t p,w.cell? ⟨4,0,J⟩=O (.iface t p)
 tab:True
 low:8≤w.heap.size
theorem Env.below {B}{w w'}(h:Env w)(hb:Below B w w')(hB:8≤B):Env w':=by
 obtain⟨⟨m,h1⟩,⟨t2,p2,h2⟩,⟨t3,p3,h3⟩,h4,h5⟩:=h;refine⟨⟨m,?_⟩,⟨t2,p2,?_⟩,⟨t3,p3,?_⟩,?_,aH h5 hb.size⟩
 ·exact(hb.cell (show 2<B by omega)).trans h1
 ·exact(hb.cell (show 3<B by omega)).trans h2
 ·exact(hb.cell (show 4<B by omega)).trans h3
 simp
theorem Env.next {w w'}(h:Env w)(hb:Below w.heap.size w w'):Env w':=h.below hb h.low
theorem Env.but {a}{w w'}(h:Env w)(hb:But a w w')(ha:8≤a):Env w':=h.below (hb.below (B:=8) ha h.low) (aE _)
theorem Zj:∀(l:List UInt8) (acc:Nat),l.all Bo=aK→acc<18446744073709551616→(∃u,cP acc l=.ok u∧u=l.foldl (fun n c=>10*n+(c.toNat-48)) acc)∨(cP acc l=.range∧18446744073709551616≤l.foldl (fun n c=>10*n+(c.toNat-48)) acc)
 |[],acc,_,_=>.inl ⟨acc,rfl,rfl⟩
 |c::l,acc,h,ha=>by
  simp only[List.all_cons,aY]at h;have hc:=by have:=h.1;simpa[Bo]using this
  have ge:∀(l:List UInt8) (x),x≤l.foldl (fun n c=>10*n+(c.toNat-48)) x:=by
   intro l
   induction l with
   |nil=>simp
   |cons c l ih=>grind
  unfold cP;rw[if_pos hc,dJ];split
  ·grind
  ·split
   ·grind
   ·rename_i h1 h2;rw[show 10*acc+(c.toNat-48)=acc*10+(c.toNat-48)from by omega];exact Zj l _ h.2 (by omega)
theorem Abi {x:Wd}(h:x.data.toList.all Bo=aK)(h0:0<x.size):(dK x.data.toList=.ok (Ir x.data.toList:Int)∧Ir x.data.toList<9223372036854775808)∨(dK x.data.toList=.range∧9223372036854775808≤Ir x.data.toList):=by
 have hf:=J4 x h0;have hd:Bo x[0]=aK:=by rw[hf]at h;simp at h;exact h.1
 have ab:48≤x[0].toNat∧x[0].toNat≤57:=by simpa[Bo]using hd
 have e1:=eO x[0] (x.data.toList.drop 1) (by omega) (by omega);rw[←hf]at e1;rw[e1];have aa:x.data.toList≠[]:=by rw[hf];simp
 rw[Lib.parseMag,if_neg aa];rcases Zj x.data.toList 0 h (by omega)with⟨u,h1,h2⟩|⟨h1,h2⟩
 ·rw[h1];have e2:u=Ir _:=h2;rw[←e2];simp only[Lib.signless];grind
 ·rw[h1];exact .inr ⟨rfl,by have:Ir x.data.toList=_:=rfl;unfold Ir;omega⟩
theorem Atv {x}(h:IsTok x∨x.size=0)(hd:fst Bo x=aQ):dK x.data.toList=dK []:=by
 rcases h with h|h
 ·have h0:=h.pos;have hf:=J4 x h.pos;have aa:Bo x[0]=aQ:=by rw[Nr h.pos]at hd;exact hd
  by_cases hs:x[0].toNat=43∨x[0].toNat=45
  ·have hl:fst Ce x=aQ:=by rw[Nr h.pos];simp only[Ce,dZ,decide_eq_false_iff_not];omega
   have hq:fst Du x=aQ:=by
    rw[Nr h.pos];cases hq:Du x[0]
    ·rfl
    ·simp only[Du,beq_iff_eq]at hq;simp_all
   have h1:=h.one hd hl hq;have e:x.data.toList.drop 1=[]:=by
    apply bY;rw[eM,Dp];omega
   rw[hf,e];rcases hs with hs|hs
   ·have:x[0]=43:=by rw[←cJ];exact hs
    rw[this];rfl
   ·have:x[0]=45:=by rw[←cJ];exact hs
    rw[this];rfl
  ·rw[hf,eO _ _ (fun e=>hs (.inl e)) (fun e=>hs (.inr e)),Lib.parseMag,if_neg (by simp),cP,if_neg]
   ·rfl
   ·intro c;simp only[Bo,dZ,decide_eq_false_iff_not]at aa;omega
 ·rw[Pn h]
theorem A20 (x)(w)(h:IsTok x)(hd:fst Bo x=aK)(hn:Ir x.data.toList<9223372036854775808)(hs:x.size≤1500):
  aR aC 149 #[.string x] w fun e w'=>e=.returned (.tuple #[.int .i64 (Ir x.data.toList:Nat),.nilIface])∧Below w.heap.size w w':=by
 rcases Abi (h.dig hd) h.pos with⟨h6,h7⟩|⟨h6,h7⟩
 ·refine(Any.strconv_Atoi_ok Tryz.laysC172 x (by omega) _ h6 w).mono fun e w' hx=>?_
  obtain⟨h4,h5⟩:=hx;refine⟨h4,?_⟩;rcases h5 with rfl|⟨t,rfl⟩
  ·exact aF _ _
  ·exact Lib.bytesWorld_below _ _ _
 ·omega
theorem A0j (x:Wd)(w:aJ)(he:Env w)(h:IsTok x∨x.size=0)(hb:fst Bo x=aQ∨9223372036854775808≤Ir x.data.toList)(hs:x.size≤1500):
  aR aC 149 #[Z x] w fun e w'=>∃n t p,e=aI (bU #[U Y n,.iface t p])∧Below w.heap.size w w':=by
 obtain⟨t2,p2,h2⟩:=he.es;obtain⟨t3,p3,h3⟩:=he.er;cases hd:fst Bo x
 ·refine(Any.strconv_Atoi_syntax Tryz.laysC172 x (by omega) (Atv h hd) _ w h2 (.inr ⟨t2,p2,rfl⟩)).mono fun e w' hx=>?_
  obtain⟨N,h4,_,_,h5⟩:=hx;exact⟨_,_,_,h4,h5⟩
 ·have h0:=Rl hd;have ht:IsTok x:=by rcases h with h|h;exact h;omega
  rcases Abi (ht.dig hd) h0 with⟨h6,h7⟩|⟨h6,h7⟩
  ·rcases hb with hb|hb
   ·rw[hd]at hb;cases hb
   ·omega
  ·refine(Any.strconv_Atoi_range Tryz.laysC172 x (by omega) h6 _ w h3 (.inr ⟨t3,p3,rfl⟩)).mono fun e w' hx=>?_
   grind
theorem Atw {x}(h):fst (fun c=>c==48) x=((x[0].toNat:Int)==48):=by
 rw[Nr h,eU,beq_iff_eq,beq_iff_eq,←cJ];grind
theorem Apz {x}(h:IsTok x)(hd:fst Bo x=aK):Kp x=if(x.size=1∨((x[0]'h.pos).toNat:Int)≠48)∧Ir x.data.toList≤1000000 then O (Ir x.data.toList:Int)else J:=by
 have h1:decide (1≤x.size)=aK:=decide_eq_true h.pos;rw[Kp,h1,h.dig hd,Atw h.pos];simp
theorem Wr (a)(s)(d)(w)(h:Rd w a s d)(he:Env w):
  aR aC 89 #[aG (O ⟨a,0,J⟩)] w fun e w'=>e=aI (U Y (Cz s).1)∧Rd w' a (Cz s).2 d∧But a w w':=by
 obtain⟨x,r,b,h1,h2⟩:=h;obtain⟨c0,c1,c2,c3⟩:=h1.cells;have ah:=Wq h2;have ai:IsTok x∨x.size=0:=by cases h2 with|wrong=>exact .inr rfl|over=>exact .inr rfl|word h _ _=>grind
 have FA:=fun W hb=>Sa a W x r d b (h1.below hb)
 by_cases ad:fst Bo x=aQ∨9223372036854775808≤Ir x.data.toList
 ·have AT:=A0j x w he ai ad ah;have hn:Kp x=J:=by
   rw[Kp];rcases ad with hb|hb
   ·cases hx:Kp x with
    |none=>assumption
    |some n=>rw[Yd hx]at hb;grind
   ·grind
  have e:Cz s=(0,J):=by cases h2<;>simp[Cz,hn]
  rw[e];clear e ad hn;go_enter cS,cK;go_wp2_with(first
   |(go_fit AT;rintro e w1 ⟨n,t,p,rfl,aa⟩;have ae:=FA w1 aa)
   |(go_fit ae;rintro e w2 ⟨rfl,ab,ac⟩))
  go_ret;exact⟨rfl,⟨_,_,_,ab,.wrong⟩,(But.of_below aa).trans ac⟩
 ·have hd:fst Bo x=aK:=by cases hx:fst Bo x;exact absurd (.inl hx) ad;rfl
  have af:Ir x.data.toList<9223372036854775808:=by
   rcases Nat.lt_or_ge (Ir x.data.toList) 9223372036854775808 with h|h
   ·omega
   ·omega
  have ht:IsTok x:=by rcases ai with h|h;exact h;have:=Rl hd;omega
  have h0:=ht.pos;obtain⟨rfl,rfl,_,hr⟩:=h2.at h0;have AT:=A20 x w ht hd af ah;have hw:=Apz ht hd;have NX:=fun W hb=>Sv a W x r d (h1.below hb) hr
  generalize Ir _=n at AT hw af;have q0:(0:Int)<x.size:=by omega
  clear ad af
  by_cases hz:x.size=1∨(x[0].toNat:Int)≠48
  ·by_cases hm:n≤1000000
   ·rw[if_pos ⟨hz,hm⟩]at hw;rw[Vr hw];clear hw;have g1:¬(1000000<(n:Int)):=by omega
    rcases hz with hz|hz
    ·have g2:¬((1:Int)<x.size):=by omega
     go_enter cS,cK;go_wp2_with(first
      |(go_fit AT;rintro e w1 ⟨rfl,aa⟩;have ag:=NX w1 aa)
      |(go_fit ag;rintro e w2 ⟨rfl,ab,ac⟩))
     go_ret;exact⟨rfl,ab,(But.of_below aa).trans ac⟩
    ·have g3:=beq_eq_false_iff_ne.2 hz;clear hz
     by_cases g2:(1:Int)<x.size
     all_goals
      go_enter cS,cK;go_wp2_with(first
       |(go_fit AT;rintro e w1 ⟨rfl,aa⟩;have ag:=NX w1 aa)
       |(go_fit ag;rintro e w2 ⟨rfl,ab,ac⟩))
      go_ret;exact⟨rfl,ab,(But.of_below aa).trans ac⟩
   ·rw[if_neg (fun c=>hm c.2)]at hw;have e:Cz (O (x::Ig r.data.toList))=(0,J):=by simp[Cz,hw]
    rw[e];clear e hw;have g1:1000000<(n:Int):=by omega
    by_cases g2:(1:Int)<x.size<;>cases g3:((x[0].toNat:Int)==48)
    all_goals
     go_enter cS,cK;go_wp2_with(first
      |(go_fit AT;rintro e w1 ⟨rfl,aa⟩;have ae:=FA w1 aa)
      |(go_fit ae;rintro e w2 ⟨rfl,ab,ac⟩))
     go_ret;exact⟨rfl,⟨_,_,_,ab,.wrong⟩,(But.of_below aa).trans ac⟩
  ·rw[if_neg (fun c=>hz c.1)]at hw;have e:Cz (O (x::Ig r.data.toList))=(0,J):=by simp[Cz,hw]
   rw[e];clear e hw;have g2:(1:Int)<x.size:=by
    have:x.size≠1:=fun e=>hz (.inl e)
    omega
   have g3:((x[0].toNat:Int)==48)=aK:=by
    rw[beq_iff_eq];cases hx:((x[0].toNat:Int)==48)
    ·omega
    ·omega
   clear hz;go_enter cS,cK;go_wp2_with(first
    |(go_fit AT;rintro e w1 ⟨rfl,aa⟩;have ae:=FA w1 aa)
    |(go_fit ae;rintro e w2 ⟨rfl,ab,ac⟩))
   go_ret;exact⟨rfl,⟨_,_,_,ab,.wrong⟩,(But.of_below aa).trans ac⟩
theorem But.keeps {a}{F}{w w'}(h:But a w w')(hF:¬F a):Keeps F w w':=⟨h.size,fun k h1 h2=>h.block k h2 (by grind)⟩
theorem Z9 (k n:Int)(s:Wd)(w:aJ):aR aC 364 #[aU #[U Y k,U Y n,Z s]] w fun e w'=>e=aI (aU (Af 1 ⟨k,n,s⟩ noW noW 0 (C J 0 0)))∧Below w.heap.size w w':=by
 go_enter Tryz.func364,Tryz.ntmps364;go_wp2;exact aM (v:=aU #[U Y 1,U Y k,U Y n,Z s,Z noW,Z noW,U Y 0,C J 0 0]) (by simp[eI,Tryz.results364,go_sem]) rfl ⟨rfl,((aF _ _).alloc (aE _) _).alloc (by simp) _⟩
theorem Ws (op)(ao)(n c)(w):aR aC 224 #[U Y op,C ao n c] w fun e w'=>e=aI (aU (Af op zero noW noW 0 (C ao n c)))∧Below w.heap.size w w':=by
 go_enter Tryz.func224,Tryz.ntmps224;go_wp2;exact aM (v:=aU #[U _ op,U _ 0,U _ 0,Z noW,Z noW,Z noW,U _ 0,C ao n c]) (by simp[eI,go_sem]) rfl ⟨rfl,(aF _ _).alloc (aE _) _⟩
theorem Aw {w:aJ}{b}{arr}{t}(h:w.heap[b]?=O (aD arr t))(o):w.frozen? ⟨b,o,J⟩=aQ:=by
 simp[aZ,h]
theorem But.new {a}{w w'}(h:But a w w'){b}(hb:w.heap.size≤b)(o)(u):But a w (w'.setCell ⟨b,o,J⟩ u):=
 ⟨h.os,h.tape,h.output,by simp[World.setCell];exact h.size,fun k hk hn=>(bD w' ⟨b,o,J⟩ u k (show k≠b by omega)).trans (h.block k hk hn)⟩
theorem Rd.other {w}{a}{s}{d}(h:Rd w a s d){b}(hb:b≠a)(o)(u):Rd (w.setCell ⟨b,o,J⟩ u) a s d:=by
 obtain⟨x,r,v,h1,h2⟩:=h;exact⟨x,r,v,(bD w _ u a (fun e=>hb e.symm)).trans h1,h2⟩
theorem Jx {a}{w w'}(h:But a w w'){b}{x}(hx:w.heap[b]?=O x)(hn:b≠a):w'.heap[b]?=O x:=(h.block b (aA hx) hn).trans hx
theorem Rd.drew {w}{a}{s}{d}(h:Rd w a s d):Rd w.drew a s d:=h
theorem Sw (a b cap:Nat)(aa:List (Wd×Int))(s:St)(d:Int)(w:aJ)(h:Rd w a s d)(ag:∀o∈aa,0<o.1.size)(ah:b≠a)(hc:∀i o,aa[i]?=O o→w.cell? ⟨b,i*2,J⟩=O (Z o.1)∧w.cell? ⟨b,i*2+1,J⟩=O (U Y o.2))(hl:aa.length≤1000):
  aR aC 223 #[aG (O ⟨a,0,J⟩),C (O ⟨b,0,J⟩) aa.length cap] w fun e w'=>e=aI (U Y (Ap aa s).1)∧Rd w' a (Ap aa s).2 d∧But a w w':=by
 have HC:Hid _:=hc;have HK:Hid _:=ag;clear hc ag;generalize hn:aa.length=n at*;have HN:Hid _:=hn;clear hn;go_enter Tryz.func223,Tryz.ntmps223;go_wp2_with fail
 go_loopw[6,9] (fun _ i wr=>∃k:Nat,k≤n∧i=U Y k∧Rd wr a s d∧Hid (Ap (aa.drop k) s=Ap aa s)∧But a w wr) (fun _ i _=>n-(cQ i).toNat)
 case atStart=>exact⟨0,bA _,rfl,h,rfl,But.refl _ _⟩
 case round=>
  obtain⟨k,hk,rfl,ai,HE,ab⟩:=hrel
  by_cases ak:k<n
  ·obtain⟨o,ho⟩:∃o,aa[k]?=O o:=⟨_,aB (by rw[HN.out];exact ak)⟩;obtain⟨x,y⟩:=o;have al:=Po ab (HC.out k _ ho).1 ah;have am:=Po ab (HC.out k _ ho).2 ah;have aj:=HK.out _ (aS ho);simp only at al am aj;have ac:Hid (Ap aa s=if(Ag x s).1 then(y,(Ag x s).2)else Ap (aa.drop (k+1)) s):=by
    rw[←HE.out];obtain⟨an,ap⟩:=cD.1 ho;rw[List.drop_eq_getElem_cons an,ap];rfl
   clear ho;have j0:(0:Int)≤k:=by omega
   have j1:k<(n:Int):=by omega
   have ae:Below _ wr (wr.alloc (aD #[Z x,U Y y] 198)):=(aF _ _).alloc (aE _) _;have SK:=C7 a x s d _ (ai.below ae) aj;have aq:wr.heap.size≠a:=by have:=ai.lt;omega
   have cx:(wr.alloc (aD #[Z x,U _ y] 198)).cell? ⟨_,1,J⟩=O (U Y y):=Aa (Ab wr _) rfl;have HF:Hid ((Ag x s).1=aQ→(Ag x s).2=s):=Bp;generalize Ag x s=q at SK ac HF;obtain⟨q1,q2⟩:=q;cases q1
   ·have e2:q2=s:=HF.out rfl;subst e2;go_wp2_with(go_fit SK;rintro e w1 ⟨rfl,af,ad⟩);go_roundw
    case rel=>exact⟨k+1,by omega,by rfl,af,by grind,(ab.trans (.of_below ae)).trans ad⟩
    case measure=>simp[cQ];omega
   ·go_wp2_with(go_fit SK;rintro e w1 ⟨rfl,af,ad⟩;have cy:=Po ad cx aq);go_ret;rw[ac.out];exact⟨rfl,af,(ab.trans (.of_below ae)).trans ad⟩
  ·have ar:k=n:=by omega
   subst ar;have e1:aa.drop k=[]:=by rw[←HN.out,List.drop_length]
   have ac:Hid (Ap aa s=(0,s)):=by rw[←HE.out,e1];rfl
   go_wp2_with fail;go_ret;rw[ac.out];simp_all
theorem Abj {x}:x.extract 1 (x.size-1)=(R0 x).s:=by
 have:(x.extract 1 (x.size-1)).data.toList=(x.data.toList.drop 1).take (x.size-2):=by
  rw[dH,Nat.sub_sub]
 unfold R0;rw[←Qn (x.extract 1 _),this];rfl
theorem A0k (a)(s)(d)(w)(h:Rd w a s d)(hq:Gj Du s=aK):
  aR aC 367 #[aG (O ⟨a,0,J⟩)] w fun e w'=>e=aI (aU #[U Y (Oj s).1.k,U Y (Oj s).1.n,Z (Oj s).1.s])∧Rd w' a (Oj s).2 d∧But a w w':=by
 obtain⟨x,r,b,h1,h2⟩:=h;rw[Wp h2]at hq;obtain⟨rfl,rfl,ht,hr⟩:=h2.at (Rl hq);have ah:=ht.quo hq;have ai:=Wq h2;obtain⟨c0,c1,c2,c3⟩:=h1.cells;have ex:=Abj (x:=x);have e0:Oj (O (x::Ig _))=if good _ then(R0 x,adv (Ig r.data.toList))else(zero,J):=rfl;rw[e0];have ev:R0 x=⟨2,0,(R0 x).s⟩:=rfl;rw[←ex]at ev;rw[ev];clear ex ev e0;have i0:(1:Int)≤x.size-1:=by omega
 have i1:x.size-1≤(x.size:Int):=by omega
 have i2:((x.size:Int)-1).toNat=x.size-1:=by omega
 have k1:=fun o=>(h1.below ((aF _ _).alloc (aE _) o)).cells.1
 have k2:=fun o o'=>(h1.below (((aF _ _).alloc (aE _) o).alloc (by simp) o')).cells.1
 have hl:=h1.lt;have af:(x.extract 1 (x.size-1)).size≤cG:=by unfold cG;simp;omega
 have hy:Hid (R0 x=⟨2,0,x.extract 1 (x.size-1)⟩):=by show R0 x=_;rw[Abj (x:=x)];rfl
 generalize hW:((w.alloc (aD #[U Y 0,U Y 0,Z ⟨#[]⟩] 46)).alloc (aD #[U Y 2,U Y 0,Z (x.extract 1 (x.size-1))] 46)).drew=W;have HW:Hid _:=hW;have ad:Below w.heap.size w W:=by rw[←hW];exact(((aF _ _).alloc (aE _) _).alloc (by simp) _).drew
 have b0:W.heap[w.heap.size]?=O (aD #[U Y 0,U Y 0,Z ⟨#[]⟩] 46):=by
  rw[←hW];exact Ad (Ab w _) _
 have b1:W.heap[w.heap.size+1]?=O (aD #[U Y 2,U Y 0,Z (x.extract 1 (x.size-1))] 46):=by
  rw[←hW];have:=Ab (w.alloc (aD #[U Y 0,U Y 0,Z ⟨#[]⟩] 46)) (aD #[U Y 2,U Y 0,Z (x.extract 1 (x.size-1))] 46);rw[bQ]at this;exact this
 clear hW;have p0:=Aa b1 (j:=0) rfl;have p1:=Aa b1 (j:=1) rfl;have p2:=Aa b1 (j:=2) rfl;have G:=Mn ⟨2,0,x.extract 1 _⟩ W af;simp only[V.val]at G;have G':aR _ 230 _ W fun e w'=>e=aI _∧Below _ W w':=
  G.mono fun e w' ⟨h,h'⟩=>⟨h,by rw[h'];exact(aF _ _).alloc (aE _) _⟩
 clear G;have aa:w.heap.size≠a:=by omega
 have ag:w.heap.size+1≠a:=by omega
 cases hg:good _
 ·rw[hg]at G';simp only[eH,if_false];go_enter Tryz.func367,Tryz.ntmps367;go_wp2_with fail
  go_region
  rw[HW.out];go_wp2_with(first
   |(go_fit G';rintro e w1 ⟨rfl,ab⟩;have b2:=(ab.block _ (aA b0)).trans b0)
   |(go_fit(Sa a w1 x r d aQ (h1.below (Ac ad ab)));rintro e w2 ⟨rfl,ae,ac⟩;have b3:=Jx ac b2 aa;have q0:=Aa b3 (j:=0) rfl;have q1:=Aa b3 (j:=1) rfl;have q2:=Aa b3 (j:=2) rfl;have f0:=Aw b3 0;have f1:=Aw b3 1;have f2:=Aw b3 2))
  refine aM (v:=aU #[U _ 0,U _ 0,Z noW]) (by simp[eI,go_sem,q0,q1,q2]) rfl ⟨rfl,?_,?_⟩
  ·exact(((Rd.other ⟨_,_,_,ae,.wrong⟩ aa _ _).other aa _ _).other aa _ _)
  ·exact((((But.of_below (Ac ad ab)).trans ac).new (aE _) _ _).new (aE _) _ _).new (aE _) _ _
 ·rw[hg]at G';simp only[if_true];go_enter Tryz.func367,Tryz.ntmps367;go_wp2_with fail
  go_region
  rw[HW.out];go_wp2_with(first
   |(go_fit G';rintro e w1 ⟨rfl,ab⟩;have b4:=(ab.block _ (aA b1)).trans b1)
   |(go_fit(Sv a w1 x r d (h1.below (Ac ad ab)) hr);rintro e w2 ⟨rfl,ae,ac⟩;have b3:=Jx ac ((ab.block _ (aA b0)).trans b0) aa;have q0:=Aa b3 (j:=0) rfl;have q1:=Aa b3 (j:=1) rfl;have q2:=Aa b3 (j:=2) rfl;have f0:=Aw b3 0;have f1:=Aw b3 1;have f2:=Aw b3 2;have b5:=Jx ac b4 ag;have r0:=Aa b5 (j:=0) rfl;have r1:=Aa b5 (j:=1) rfl;have r2:=Aa b5 (j:=2) rfl))
  refine aM (by simp[eI,go_sem,q0,q1,q2]) rfl ⟨rfl,?_,?_⟩
  ·exact(((ae.other aa _ _).other aa _ _).other aa _ _)
  ·exact((((But.of_below (Ac ad ab)).trans ac).new (aE _) _ _).new (aE _) _ _).new (aE _) _ _
def E6 (g:dY)(p:St→E×St)(d:Int):Prop:=∀(a:Nat) (s:St) (w:aJ),Rd w a s d→Env w→8≤a→
 aR aC g #[aG (O ⟨a,0,J⟩)] w fun e w'=>∃v,e=aI v∧IsE (Fr w.heap.size) w' (p s).1 v∧Rd w' a (p s).2 d∧But a w w'
def Ia (g:dY){α:Type}(K:Elem α)(val:List aL→aL)(p:St→α×St)(d:Int):Prop:=∀(a:Nat) (s:St) (w:aJ),Rd w a s d→Env w→8≤a→
 aR aC g #[aG (O ⟨a,0,J⟩)] w fun e w'=>∃c,e=aI (val c)∧K.R (Fr w.heap.size) w' (p s).1 c∧Rd w' a (p s).2 d∧But a w w'
def Aaa (g:dY)(p:St→E×St)(d:Int):Prop:=∀(a:Nat) (s:St) (w:aJ),Rd w a s d→Env w→8≤a→
 aR aC 286 #[aG (O ⟨a,0,J⟩),.func (.func g) #[aG (O ⟨a,0,J⟩)] #[]] w fun e w'=>∃v,e=aI v∧IsE (Fr w.heap.size) w' (p s).1 v∧Rd w' a (p s).2 d∧But a w w'
abbrev E7:Array aL:=#[U Y 0,U Y 0,U Y 0,Z noW,Z noW,Z noW,U Y 0,C J 0 0]
theorem Aab {w:aJ}{b:Nat}{aa:Array aL}{t:bW}(h:w.heap[b]?=O (aD aa t)){v0 v1 v2 v3 v4 v5 v6 v7:aL}(ha:aa=#[v0,v1,v2,v3,v4,v5,v6,v7]):
  w.cell? ⟨b,0,J⟩=O v0∧w.cell? ⟨b,1,J⟩=O v1∧w.cell? ⟨b,2,J⟩=O v2∧w.cell? ⟨b,3,J⟩=O v3∧w.cell? ⟨b,4,J⟩=O v4∧w.cell? ⟨b,5,J⟩=O v5∧w.cell? ⟨b,6,J⟩=O v6∧w.cell? ⟨b,7,J⟩=O v7:=by
 subst ha;exact⟨Aa h rfl,Aa h rfl,Aa h rfl,Aa h rfl,Aa h rfl,Aa h rfl,Aa h rfl,Aa h rfl⟩
theorem Qe {w:aJ}{b:Nat}{x:Obj}(h:w.heap[b]?=O x){a:Nat}(hn:b≠a)(o:Nat)(u:aL):(w.setCell ⟨a,o,J⟩ u).heap[b]?=O x:=(bD w ⟨a,o,J⟩ u b hn).trans h
theorem But.row {a:Nat}{w w':aJ}(h:But a w w'){b:Nat}(hb:w.heap.size≤b)(cells:Array aL):But a w (w'.setRow b cells):=
 ⟨h.os,h.tape,h.output,by simp[cZ];exact h.size,fun k hk hn=>by
  have:=h.block k hk hn;simp only[cZ,dU];rw[if_neg (by omega)];exact this⟩
theorem Rd.row {w:aJ}{a:Nat}{s:St}{d:Int}(h:Rd w a s d){b:Nat}(hb:b≠a)(cells:Array aL):Rd (w.setRow b cells) a s d:=by
 obtain⟨x,r,v,h1,h2⟩:=h;exact⟨x,r,v,Bz h1 (fun e=>hb e.symm) cells,h2⟩
theorem Fh (a:Nat)(k:Wd)(s:St)(d:Int)(w:aJ)(h:Rd w a s d)(hk:0<k.size)(m:Nat)(hm:w.heap.size=m):
  aR aC 34 #[aG (O ⟨a,0,J⟩),C (O ⟨m,0,J⟩) 1 1] (w.alloc (aD #[Z k] 9)) fun e w'=>e=aI (bU #[])∧Rd w' a (Cg k s) d∧But a w w':=by
 have hl:=h.lt;subst hm;refine(A0i a w.heap.size 1 k s d _ (h.below ((aF _ _).alloc (aE _) _)) hk (by omega) (Aa (Ab w _) rfl)).mono fun e w' hx=>?_
 exact⟨hx.1,hx.2.1,((But.refl a w).alloc _).trans hx.2.2⟩
theorem Rd.depth {w:aJ}{a:Nat}{s:St}{d:Int}(h:Rd w a s d):w.cell? ⟨a,2,J⟩=O (U Y d)∧w.frozen? ⟨a,2,J⟩=aQ:=by
 obtain⟨x,r,b,h1,_⟩:=h;exact⟨h1.cells.2.2.1,h1.frozen 2⟩
theorem Rd.set2 {w:aJ}{a:Nat}{s:St}{d:Int}(h:Rd w a s d)(x:Int):Rd (w.setCell ⟨a,2,J⟩ (U Y x)) a s x:=by
 obtain⟨y,r,b,h1,h2⟩:=h;exact⟨y,r,b,h1.set2 x,h2⟩
structure Rowed {α:Type}(K:Elem α) (T:bW) (z:Array aL):Prop where
 info:(Tryz.prog.info? T).map (·.size)=O z.size
 und:∃d,Tryz.prog.underlying T=O d∧(match d with|.struct _|.array _ _=>aK|_=>aQ)=aK
 one:∀{F w x c},K.R F w x c→c.toArray.all (·.oneCell')=aK∧c.toArray.size=z.size
theorem Ae3:Rowed Az 48 E7:=
 ⟨by kernel_rfl,⟨_,dA,rfl⟩,fun h=>by obtain⟨_,_,_,_,_,_,_,_,_,_,rfl⟩:=Fl h;exact⟨by simp[bO],rfl⟩⟩
theorem Aim:Rowed Fc 141 #[Z noW,U Y 0,U Y 0,U Y 0,Z noW,Z noW,Z noW,U Y 0,C J 0 0]:=
 ⟨by kernel_rfl,⟨_,Tryz.underlying141,rfl⟩,fun h=>by obtain⟨_,_,_,_,_,_,_,_,_,_,_,rfl⟩:=S5 h;exact⟨by simp[bO],rfl⟩⟩
theorem Ain:Rowed Cp 84 #[Z noW,U Y 0,dP aQ]:=
 ⟨by kernel_rfl,⟨_,Tryz.underlying84,rfl⟩,fun h=>by obtain⟨_,_,_,rfl⟩:=Xw h;exact⟨by simp[bO],rfl⟩⟩
theorem Bx:Rowed Ie 50 Bn:=
 ⟨by kernel_rfl,⟨_,aN,rfl⟩,fun h=>by
  obtain⟨_,_,_,_,_,_,_,_,_,_,_,_,_,_,_,_,_,_,_,_,_,_,rfl,_⟩:=Bb h;exact⟨P0 (Ca _ _ _) (Ca _ _ _) (Ca _ _ _) (Ca _ _ _) (Ca _ _ _) (Ca _ _ _) (Ca _ _ _),rfl⟩⟩
structure RmSt (T:bW) (z:Array aL) (a:Nat) (w W:aJ) (s:St) (d:Int):Prop where
 room:W.heap[w.heap.size]?=O (aD z T)
 but:But a w W
 rd:Rd W a s d
 lt:a<w.heap.size
structure RmEnd {α:Type}(K:Elem α) (T:bW) (a:Nat) (w X:aJ) (s:St) (d:Int) (x:α) (c:List aL):Prop where
 room:X.heap[w.heap.size]?=O (aD c.toArray T)
 is:K.R (Fr w.heap.size) X x c
 rd:Rd X a s d
 but:But a w X
structure VrSt (T:bW) (z:Array aL) (a L:Nat) (w W:aJ) (s:St) (d:Int) (e:E):Prop where
 rm:RmSt T z a w W s d
 var:∃c,W.heap[L]?=O (aD c 48)∧IsE (fun k=>w.heap.size<k∧k≠L) W e (aU c)
 lt:w.heap.size<L
section
variable {α:Type}{K:Elem α}{T:bW}{z:Array aL}{a L:Nat}{w W W':aJ}{s s':St}{d:Int}{ops:Array Oper}{rest:List Oper}{o o':Oper}{act:Act}{Q:Exit→Act→aJ→Prop}{x y x' y':Operand}{e:E}{q:α}{c:List aL}
theorem Dr (h:Rd w a s d):RmSt T z a w (w.alloc (aD z T)) s d:=
 have hb:=(aF _ w).alloc (aE _) (aD z T)
 ⟨Ab w _,.of_below hb,h.below hb,h.lt⟩
theorem RmSt.call (h:RmSt T z a w W s d)(hb:But a W W')(hr:Rd W' a s' d):RmSt T z a w W' s' d:=⟨Jx hb h.room (by have:=h.lt;omega),h.but.trans hb,hr,h.lt⟩
theorem RmSt.below (h:RmSt T z a w W s d)(hb:Below W.heap.size W W'):RmSt T z a w W' s d:=h.call (.of_below hb) (h.rd.below hb)
theorem RmSt.env (h:RmSt T z a w W s d)(he:Env w)(ha:8≤a):Env W:=he.but h.but ha
theorem RmSt.new (h:RmSt T z a w W s d):∀k,Fr W.heap.size k→w.heap.size<k:=fun k hk=>cC (aA h.room) hk
theorem RmSt.put (h:RmSt T z a w W s d)(R:Rowed K T z){F:Nat→Prop}(hR:K.R F W q c)(hF:∀k,F k→w.heap.size<k)
  (g:∀X,RmEnd K T a w X s d q c→bG aC ops Q rest (act.put o.dst dL) X)
  (aa:o.guard=J:=by rfl) (ho:o.op=.store T x y:=by rfl) (hx:act.eval x=aG (O ⟨w.heap.size,0,J⟩):=by rfl) (hy:act.eval y=aU c.toArray:=by rfl):bG aC ops Q (o::rest) act W:=by
 have hc:=R.one hR;refine aO aa _ x y ho _ _ hx hy _ _ h.room (by rw[hc.2];exact R.info) hc.2.symm hc.1 (g _ ⟨Ao h.room,?_,h.rd.row (by have:=h.lt;omega) _,h.but.row (aE _) _⟩);exact K.mono (fun k _ hk=>Nat.le_of_lt (hF k hk)) (K.keep ((Keeps.refl _ _).row (fun hk=>Nat.lt_irrefl _ (hF _ hk)) _) hR)
theorem RmSt.putE (h:RmSt 48 E7 a w W s d){F:Nat→Prop}{v:aL}(hR:IsE F W e v)(hF:∀k,F k→w.heap.size<k)
  (g:∀X c,RmEnd Az 48 a w X s d e c→bG aC ops Q rest (act.put o.dst dL) X)
  (aa:o.guard=J:=by rfl) (ho:o.op=.store 48 x y:=by rfl) (hx:act.eval x=aG (O ⟨w.heap.size,0,J⟩):=by rfl) (hy:act.eval y=v:=by rfl):bG aC ops Q (o::rest) act W:=by
 obtain⟨op,x,xs,nm,n,ao,k,cc,rfl⟩:=hR.shape;exact h.put Ae3 (c:=(Af op x xs nm n (C ao k cc)).toList) ⟨rfl,hR⟩ hF (g · _) aa ho hx hy
theorem RmEnd.fin (h:RmEnd K T a w W s d q c)(R:Rowed K T z){fn:Func}{p:Tmp}(hr:fn.results=#[.cell p T])(hp:act.tmps.getD p dL=aG (O ⟨w.heap.size,0,J⟩):=by rfl)(hd:act.defers=[]:=by rfl):
  bodyPost aC fn (fun e w'=>∃c,e=aI (I7 c)∧K.R (Fr w.heap.size) w' q c∧Rd w' a s d∧But a w w') .ret act W:=by
 obtain⟨b,hu,hb⟩:=R.und;exact aM (aP hr _ _ _ _ _ _ _ hp h.room hu (by cases b<;>first|rfl|exact hb) (by rw[(R.one h.is).2];exact R.info)) hd ⟨c,rfl,h.is,h.rd,h.but⟩
theorem RmEnd.finE (h:RmEnd Az 48 a w W s d e c){fn:Func}{p:Tmp}(hr:fn.results=#[.cell p 48])(hp:act.tmps.getD p dL=aG (O ⟨w.heap.size,0,J⟩):=by rfl)(hd:act.defers=[]:=by rfl):
  bodyPost aC fn (fun r w'=>∃v,r=aI v∧IsE (Fr w.heap.size) w' e v∧Rd w' a s d∧But a w w') .ret act W:=
 aM (aP hr _ _ _ _ _ _ _ hp h.room dA rfl (by rw[(Ae3.one h.is).2];exact Ae3.info)) hd ⟨_,rfl,h.is.2,h.rd,h.but⟩
theorem RmSt.var (h:RmSt T z a w W s d){F:Nat→Prop}{v:aL}(hR:IsE F W e v)(hF:∀k,F k→w.heap.size<k)
  (g:∀X,VrSt T z a W.heap.size w X s d e→bG aC ops Q rest (act.put o.dst dL) X)
  (aa:o.guard=J:=by rfl) (ho:o.op=.store 48 x y:=by rfl) (hx:act.eval x=aG (O ⟨W.heap.size,0,J⟩):=by rfl) (hy:act.eval y=v:=by rfl):bG aC ops Q (o::rest) act (W.alloc (aD E7 48)):=by
 obtain⟨op,x',xs,nm,n,ao,k,cc,rfl⟩:=hR.shape;have hb:=(aF _ W).alloc (aE _) (aD E7 48);have hl:=aA h.room;have ab:=h.lt;have hL:=h.below hb;refine aO aa _ x y ho _ _ hx hy _ _ (Ab W _) Ae3.info rfl (by simp[bO]) (g _ ⟨⟨Bz hL.room (by omega) _,hL.but.row (by omega) _,hL.rd.row (by omega) _,h.lt⟩,⟨_,Ao (Ab W _),?_⟩,hl⟩);exact IsE.keep (((Ai hb)).row (fun hk=>hk.2 rfl) _) _ _ (IsE.mono (fun k hk hf=>⟨hF k hf,bL hk⟩) _ _ hR)
theorem VrSt.call (h:VrSt T z a L w W s d e)(hb:But a W W')(hr:Rd W' a s' d):VrSt T z a L w W' s' d e:=by
 obtain⟨c,h1,h2⟩:=h.var;have:=h.rm.lt;have:=h.lt;exact⟨h.rm.call hb hr,⟨c,Jx hb h1 (by omega),IsE.keep (hb.keeps fun hk=>by have:=hk.1;omega) _ _ h2⟩,h.lt⟩
theorem VrSt.below (h:VrSt T z a L w W s d e)(hb:Below W.heap.size W W'):VrSt T z a L w W' s d e:=h.call (.of_below hb) (h.rm.rd.below hb)
theorem VrSt.alloc (h:VrSt T z a L w W s d e)(x:Obj):VrSt T z a L w (W.alloc x) s d e:=h.below ((aF _ _).alloc (aE _) x)
theorem VrSt.le (h:VrSt T z a L w W s d e):L<W.heap.size:=by obtain⟨c,h1,_⟩:=h.var;exact aA h1
theorem VrSt.load (h:VrSt T z a L w W s d e)(g:∀op x xs nm n ao k cc,IsE (fun k=>w.heap.size<k∧k≠L) W e (aU (Af op x xs nm n (C ao k cc)))→bG aC ops Q rest (act.put o.dst (aU (Af op x xs nm n (C ao k cc)))) W)
  (aa:o.guard=J:=by rfl) (ho:o.op=.load 48 x:=by rfl) (hx:act.eval x=aG (O ⟨L,0,J⟩):=by rfl):bG aC ops Q (o::rest) act W:=by
 obtain⟨c,h1,h2⟩:=h.var;obtain⟨op,x',xs,nm,n,ao,k,cc,he⟩:=h2.shape;cases he;exact cB aa _ x ho L hx _ _ _ _ h1 dA rfl Ae3.info (g _ _ _ _ _ _ _ _ h2)
theorem VrSt.lds (h:VrSt 48 E7 a L w W s d e)(g:∀X c,RmEnd Az 48 a w X s d e c→bG aC ops Q rest ((act.put o.dst (aU c.toArray)).put o'.dst dL) X)
  (aa:o.guard=J:=by rfl) (ho:o.op=.load 48 x:=by rfl) (hx:act.eval x=aG (O ⟨L,0,J⟩):=by rfl)
  (ab:o'.guard=J:=by rfl) (ac:o'.op=.store 48 x' y':=by rfl) (ad:∀v,(act.put o.dst v).eval x'=aG (O ⟨w.heap.size,0,J⟩):=by intro v;rfl) (ae:∀v,(act.put o.dst v).eval y'=v:=by intro v;rfl):bG aC ops Q (o::o'::rest) act W:=by
 refine h.load (fun op x xs nm n ao k cc hE=>?_) aa ho hx;exact h.rm.put Ae3 (c:=(Af op x xs nm n (C ao k cc)).toList) ⟨rfl,hE⟩ (fun k hk=>hk.1) (fun X hX=>g X _ hX) ab ac (ad _) (ae _)
end
abbrev set8 (w:aJ)(b:Nat)(v0 v1 v2 v3 v4 v5 v6 v7:aL):aJ:=
 (((((((w.setCell ⟨b,0,J⟩ v0).setCell ⟨b,1,J⟩ v1).setCell ⟨b,2,J⟩ v2).setCell ⟨b,3,J⟩ v3).setCell ⟨b,4,J⟩ v4).setCell ⟨b,5,J⟩ v5).setCell ⟨b,6,J⟩ v6).setCell ⟨b,7,J⟩ v7
theorem Ang {P:aJ→Prop}{L:Nat}(hP:∀W i v,P W→P (W.setCell ⟨L,i,J⟩ v)){W:aJ}(h:P W)(v0 v1 v2 v3 v4 v5 v6 v7:aL):P (set8 W L v0 v1 v2 v3 v4 v5 v6 v7):=
 hP _ _ _ (hP _ _ _ (hP _ _ _ (hP _ _ _ (hP _ _ _ (hP _ _ _ (hP _ _ _ (hP _ _ _ h)))))))
theorem Ae4 {w:aJ}{b:Nat}{t:bW}{op aa:Int}{x x':V}{s s' nm ab:Wd}{n n':Int}{sl ac:aL}(h:w.heap[b]?=O (aD (Af op x s nm n sl) t)):
  (set8 w b (U Y aa) (U Y x'.k) (U Y x'.n) (Z x'.s) (Z s') (Z ab) (U Y n') ac).heap[b]?=O (aD (Af aa x' s' ab n' ac) t):=by
 have g:=upd (upd (upd (upd (upd (upd (upd (upd h 0 (U Y aa)) 1 (U Y x'.k)) 2 (U Y x'.n)) 3 (Z x'.s)) 4 (Z s')) 5 (Z ab)) 6 (U Y n')) 7 ac;simp only[dN,cX,eE]at g;exact g
section
variable {T:bW}{z:Array aL}{a L:Nat}{w W:aJ}{s:St}{d:Int}{e e':E}{op:Int}{x:V}{s1 nm:Wd}{n:Int}{sl:aL}
theorem RmSt.dep (h:RmSt T z a w W s d)(d':Int):RmSt T z a w (W.setCell ⟨a,2,J⟩ (U Y d')) s d':=⟨Qe h.room (by have:=h.lt;omega) _ _,h.but.set _ _,h.rd.set2 d',h.lt⟩
theorem RmSt.drew (h:RmSt T z a w W s d):RmSt T z a w W.drew s d:=⟨h.room,h.but.drew,h.rd.drew,h.lt⟩
theorem VrSt.drew (h:VrSt T z a L w W s d e):VrSt T z a L w W.drew s d e:=by
 obtain⟨c,h1,h2⟩:=h.var;exact⟨h.rm.drew,⟨c,h1,IsE.keep (Keeps.refl _ _).drew _ _ h2⟩,h.lt⟩
theorem VrSt.dep (h:VrSt T z a L w W s d e)(d':Int):VrSt T z a L w (W.setCell ⟨a,2,J⟩ (U Y d')) s d' e:=by
 obtain⟨c,h1,h2⟩:=h.var;have:=h.rm.lt;have:=h.lt;exact⟨h.rm.dep d',⟨c,Qe h1 (by omega) _ _,IsE.keep ((Keeps.refl _ _).set (fun hk=>by have:=hk.1;omega) _ _) _ _ h2⟩,h.lt⟩
theorem VrSt.set8 (h:VrSt T z a L w W s d e)(hE:IsE (fun k=>w.heap.size<k∧k≠L) W e' (aU (Af op x s1 nm n sl))):
  VrSt T z a L w (set8 W L (U Y op) (U Y x.k) (U Y x.n) (Z x.s) (Z s1) (Z nm) (U Y n) sl) s d e':=by
 obtain⟨c,h1,h2⟩:=h.var;obtain⟨_,_,_,_,_,_,_,_,he⟩:=h2.shape;cases he;have:=h.rm.lt;have:=h.lt;have g:=Ang (P:=fun X=>X.heap[w.heap.size]?=O (aD z T)∧But a w X∧Rd X a s d∧Keeps (fun k=>w.heap.size<k∧k≠L) W X) (L:=L) (fun X i u ⟨p1,p2,p3,p4⟩=>⟨Qe p1 (by omega) _ _,p2.new (by omega) _ _,p3.other (by omega) _ _,p4.set (fun hk=>hk.2 rfl) _ _⟩) ⟨h.rm.room,h.rm.but,h.rm.rd,Keeps.refl _ _⟩ (U Y op) (U Y x.k) (U Y x.n) (Z x.s) (Z s1) (Z nm) (U Y n) sl;exact⟨⟨g.1,g.2.1,g.2.2.1,h.rm.lt⟩,⟨_,Ae4 h1,IsE.keep g.2.2.2 _ _ hE⟩,h.lt⟩
theorem RmSt.set8 (h:RmSt 48 E7 a w W s d){F:Nat→Prop}(hE:IsE F W e (aU (Af op x s1 nm n sl)))(hF:∀k,F k→w.heap.size<k):
  ∃c,RmEnd Az 48 a w (set8 W w.heap.size (U Y op) (U Y x.k) (U Y x.n) (Z x.s) (Z s1) (Z nm) (U Y n) sl) s d e c:=by
 have:=h.lt;have g:=Ang (P:=fun X=>But a w X∧Rd X a s d∧Keeps F W X) (L:=w.heap.size) (fun X i u ⟨p2,p3,p4⟩=>⟨p2.new (by omega) _ _,p3.other (by omega) _ _,p4.set (fun hk=>Nat.lt_irrefl _ (hF _ hk)) _ _⟩) ⟨h.but,h.rd,Keeps.refl _ _⟩ (U Y op) (U Y x.k) (U Y x.n) (Z x.s) (Z s1) (Z nm) (U Y n) sl;exact⟨(Af op x s1 nm n sl).toList,Ae4 (x:=zero) h.room,⟨rfl,IsE.mono (fun k _ hk=>Nat.le_of_lt (hF k hk)) _ _ (IsE.keep g.2.2 _ _ hE)⟩,g.2.1,g.1⟩
theorem VrSt.cells (h:VrSt T z a L w W s d e):∃op x s1 nm n ao k c,W.heap[L]?=O (aD (Af op x s1 nm n (C ao k c)) 48)∧IsE (fun k=>w.heap.size<k∧k≠L) W e (aU (Af op x s1 nm n (C ao k c))):=by
 obtain⟨c,h1,h2⟩:=h.var;obtain⟨_,_,_,_,_,_,_,_,he⟩:=h2.shape;cases he;exact⟨_,_,_,_,_,_,_,_,h1,h2⟩
end
set_option maxHeartbeats 8000000
set_option maxRecDepth 100000
theorem Anh (a:Nat)(k:Wd)(s:St)(d:Int)(w:aJ)(h:Rd w a s d)(hk:0<k.size)(hn:(Ag k s).1=aQ):
  aR aC 47 #[aG (O ⟨a,0,J⟩),Z k] w fun e w'=>e=aI (dP aQ)∧Rd w' a s d∧But a w w':=by
 refine(C7 a k s d w h hk).mono fun e w' hx=>?_
 rw[hn,Bp hn]at hx;exact hx
theorem Ani (a:Nat)(k:Wd)(s:St)(d:Int)(w:aJ)(h:Rd w a s d)(hk:0<k.size)(hn:(Ag k s).1=aK):
  aR aC 47 #[aG (O ⟨a,0,J⟩),Z k] w fun e w'=>e=aI (dP aK)∧Rd w' a (Ag k s).2 d∧But a w w':=by
 refine(C7 a k s d w h hk).mono fun e w' hx=>?_
 rw[hn]at hx;exact hx
theorem Ajx (s:St):0≤(Cz s).1∧(Cz s).1≤1000000:=by
 unfold Cz;split
 ·split
  ·rename_i w l n hn;simp only;rw[Kp]at hn;split at hn
   ·rename_i c;cases hn;simp only[aY,decide_eq_true_eq]at c;omega
   ·cases hn
  ·simp
 ·simp
theorem A21 (d:Int):E6 368 Vo d:=by
 intro a s w h _ _;generalize e1:Vo s=q;go_enter Tryz.func368,Tryz.ntmps368;go_wp2_with fail;have M:=Dr (T:=48) (z:=E7) h;generalize w.alloc (aD E7 48)=W at M⊢;go_fit(Gq a _ d _ M.rd);rintro e v ⟨rfl,hr,hb⟩;replace M:=M.call hb hr;go_wp2_with fail;go_fit(C7 a K6 _ d _ M.rd (by decide));rintro e v ⟨rfl,hr,hb⟩;replace M:=M.call hb hr;cases h1:(Ag K6 (Bm s).2).1
 ·go_wp2_with(refine M.putE (Aqg (fun _=>False) _ _ _) nofun fun X c H=>?_);obtain rfl:(Tq noW (Bm s).1,(Ag K6 (Bm s).2).2)=q:=by rw[←e1,Vo,h1];rfl
  exact H.finE eQ
 ·go_wp2_with fail;go_fit(Gq a _ d _ M.rd);rintro e v ⟨rfl,hr,hb⟩;replace M:=M.call hb hr;go_wp2_with(refine M.putE (Aqg (fun _=>False) _ _ _) nofun fun X c H=>?_);obtain rfl:(Tq (Bm s).1 (Bm (Ag K6 (Bm s).2).2).1,(Bm (Ag K6 (Bm s).2).2).2)=q:=by rw[←e1,Vo,h1];rfl
  exact H.finE eQ
theorem Ae5 {F:dY}:Aaa F Ok 5:=by
 intro a s w h _ _;go_enter Tryz.func286,Tryz.ntmps286;go_upto_region 1 with fail;have M:=Dr (T:=48) (z:=E7) h;generalize w.alloc (aD E7 48)=W at M⊢;obtain⟨k1,k2⟩:=M.rd.depth;go_wp2_with fail;go_fit(Wo a s 5 _ M.rd);rintro e v ⟨rfl,hr,hb⟩;go_wp2_with(refine(M.call hb hr).putE (Zr (fun _=>False) _) nofun fun X c H=>?_);exact H.finE eR
theorem Aio {F:dY}(aa:∀args w,(callFunc F args).run aC w=.ok (.enter F args) w)(p:St→E×St)(d:Int)(h0:0≤d)(h5:d<5)(hp:E6 F p (d+1)):Aaa F p d:=by
 intro a s w h he ha;have hd:(d==5)=aQ:=beq_eq_false_iff_ne.2 (by omega);go_enter Tryz.func286,Tryz.ntmps286;go_upto_region 1 with fail;have M:=Dr (T:=48) (z:=E7) h;generalize w.alloc (aD E7 48)=W at M⊢;obtain⟨k1,k2⟩:=M.rd.depth;go_wp2_with fail;replace M:=M.dep (d+1);clear k1 k2;generalize W.setCell ⟨a,2,J⟩ (U Y (d+1))=W at M⊢;go_fit(hp a _ _ M.rd (M.env he ha) ha);rintro e v ⟨u,rfl,hE,hr,hb⟩;go_upto_region 6 with(refine(M.call hb hr).var hE M.new fun X V=>?_);obtain⟨k1,k2⟩:=V.rm.rd.depth;go_wp2_with(refine(V.dep d).lds fun X c H=>?_);exact H.finE eR
theorem Atx {p:St→E×St}{aa:List (Wd×Int)}{f:Nat}{e:E}{s:St}(hz:∀o∈aa,o.2≠0)(h:(Ap aa s).1=0):Dn p aa f e s=(e,(Ap aa s).2):=by
 cases f with
 |zero=>rw[R6 hz h];rfl
 |succ f=>rw[Dn,if_pos h]
theorem A0l {p:St→E×St}{aa:List (Wd×Int)}{f:Nat}{e:E}{s:St}(hp:∀s,Bg (p s).2≤Bg s)(h:(Ap aa s).1≠0)(hf:Bg s≤f):
  ∃f',f'<f∧Dn p aa f e s=Dn p aa f' (Hj (Ap aa s).1 [e,(p (Ap aa s).2).1]) (p (Ap aa s).2).2∧Bg (p (Ap aa s).2).2≤f':=by
 have h1:=Adz h;have h2:=hp (Ap aa s).2;cases f with
 |zero=>omega
 |succ f=>exact⟨f,by omega,by rw[Dn,if_neg h],by omega⟩
def Ae6 (w:aJ)(b:Nat)(ops:List (Wd×Int)):Prop:=∀i o,ops[i]?=O o→w.cell? ⟨b,i*2,J⟩=O (Z o.1)∧w.cell? ⟨b,i*2+1,J⟩=O (U Y o.2)
theorem Ae6.but {a:Nat}{w w':aJ}{b:Nat}{aa:List (Wd×Int)}(h:Ae6 w b aa)(hb:But a w w')(hn:b≠a):Ae6 w' b aa:=
 fun i o ho=>⟨Po hb (h i o ho).1 hn,Po hb (h i o ho).2 hn⟩
theorem Aip {w:aJ}{b:Nat}{k:Wd}{o:Int}{t:bW}(h:w.heap[b]?=O (aD #[Z k,U Y o] t)):Ae6 w b [(k,o)]:=by
 intro i x hx
 match i,hx with
 |0,hx=>simp at hx;subst hx;exact⟨Aa h rfl,Aa h rfl⟩
 |i+1,hx=>simp at hx
theorem Aiq {w:aJ}{b:Nat}{k k':Wd}{o o':Int}{t:bW}(h:w.heap[b]?=O (aD #[Z k,U Y o,Z k',U Y o'] t)):Ae6 w b [(k,o),(k',o')]:=by
 intro i x hx
 match i,hx with
 |0,hx=>simp at hx;subst hx;exact⟨Aa h rfl,Aa h rfl⟩
 |1,hx=>simp at hx;subst hx;exact⟨Aa h rfl,Aa h rfl⟩
 |i+2,hx=>simp at hx
theorem Zk {F:dY}(aq:∀args w,(callFunc F args).run aC w=.ok (.enter F args) w)(p:St→E×St)(aa:List (Wd×Int))(d:Int)(hp:E6 F p d)(hs:∀s,Bg (p s).2≤Bg s)(hz:∀o∈aa,o.2≠0)(hk:∀o∈aa,0<o.1.size)(hl:aa.length≤1000)
  (a:Nat) (s:St) (w:aJ) (h:Rd w a s d) (he:Env w) (ha:8≤a) (b cap:Nat) (ad:b≠a) (ar:b<w.heap.size) (ho:Ae6 w b aa):
  aR aC 147 #[aG (O ⟨a,0,J⟩),.func (.func F) #[aG (O ⟨a,0,J⟩)] #[],C (O ⟨b,0,J⟩) aa.length cap] w fun e w'=>∃v,e=aI v∧IsE (Fr w.heap.size) w' (Is p aa s).1 v∧Rd w' a (Is p aa s).2 d∧But a w w':=by
 generalize e1:Is p aa s=R;have ah:Hid _:=e1;have HO:Hid _:=ho;have HP:Hid _:=hp;have HS:Hid _:=hs;have HZ:Hid _:=hz;have HK:Hid _:=hk;clear e1 ho hp hs hz hk;go_enter Tryz.func147,Tryz.ntmps147;go_wp2_with fail;have M:=Dr (T:=48) (z:=E7) h;generalize w.alloc (aD E7 48)=W at M⊢;go_fit(HP.out a _ _ M.rd (M.env he ha) ha);rintro e v ⟨u,rfl,hE,hr,hb⟩;go_upto_region 2 with(refine(M.call hb hr).var hE M.new fun X V=>?_);generalize v.heap.size=L at V⊢;go_wp2_with fail;go_fit(Sw a b cap aa _ d _ V.rm.rd HK.out ad (Ae6.but HO.out V.rm.but ad) hl);rintro e v ⟨rfl,hr,hb⟩;replace V:=V.call hb hr;clear hb hr hE M;go_wp2_with fail
 go_loopg[8] (Bg (p s).2) (fun f o wr=>∃σ e,o=U Y (Ap aa σ).1∧VrSt 48 E7 a L w wr (Ap aa σ).2 d e∧Hid (R=Dn p aa f e σ∧Bg σ≤f))
 case atStart=>exact⟨_,_,rfl,V,ah.out.symm,aE _⟩
 case round=>
  clear V ah;obtain⟨σ,e,rfl,V,HF⟩:=hrel
  by_cases af:(Ap aa σ).1=0
  ·obtain rfl:(e,(Ap aa σ).2)=R:=(HF.out.1.trans (Atx HZ.out af)).symm;clear HF;go_wp2_with(refine V.lds fun X c H=>?_);exact H.finE Tryz.results147
  ·obtain⟨f',al,h2,h3⟩:=A0l (e:=e) HS.out af HF.out.2;have ac:Hid (R=Dn p aa f' (Hj (Ap aa σ).1 [e,(p (Ap aa σ).2).1]) (p (Ap aa σ).2).2∧Bg (p (Ap aa σ).2).2≤f'):=⟨HF.out.1.trans h2,h3⟩;clear HF h2 h3;have ai:((Ap aa σ).1==0)=aQ:=beq_eq_false_iff_ne.2 af;generalize Ap aa σ=q at V ac ai⊢;obtain⟨o1,s2⟩:=q;dsimp only at V ac ai⊢;have P2:=HP.out a _ _ V.drew.rm.rd (V.drew.rm.env he ha) ha;generalize p s2=q at P2 ac;obtain⟨E2,s3⟩:=q;dsimp only at P2 ac;obtain⟨op,⟨xk,xn,xs⟩,s4,nm,n,ao,k,cc,aj,hE⟩:=V.cells;obtain⟨l0,l1,l2,l3,l4,l5,l6,l7⟩:=Aab aj rfl;have au:=V.lt;have av:=V.rm.lt;have HE:Hid _:=hE;clear hE;go_wp2_with fail
   go_region_with(first
    |(go_fit P2;rintro e' w3 ⟨v2,rfl,ag,am,ae⟩;obtain⟨aw,⟨ax,ay,az⟩,s5,ba,n2,bb,k2,bc,rfl⟩:=ag.shape;obtain⟨m0,m1,m2,m3,m4,m5,m6,m7⟩:=Aab (Jx ae (w:=wr.drew) aj (show L≠a by omega)) rfl)
    |(refine(Ws _ _ _ _ _).mono ?_;rintro e' w4 ⟨rfl,ak⟩;have V4:=((V.drew.call ae am).alloc _).below ak;obtain⟨bd,⟨be,bf,bg⟩,s6,bh,n3,bi,k3,bj,ab,bk⟩:=V4.cells;obtain⟨y0,y1,y2,y3,y4,y5,y6,y7⟩:=Aab ab rfl;have z0:=Aw ab 0;have z1:=Aw ab 1;have z2:=Aw ab 2;have z3:=Aw ab 3;have z4:=Aw ab 4;have z5:=Aw ab 5;have z6:=Aw ab 6;have z7:=Aw ab 7))
   all_goals
    have bl:wr.heap.size≤w3.heap.size:=ae.size;have bm:=V.le;have V5:=V4.set8 (IsE.keep (Ai ak) _ _ (Nw (op:=o1) (x:=zero) (s:=noW) (name:=noW) (n:=0) (Akd (IsE.keep (ae.keeps (w:=wr.drew) fun hk=>by have:=hk.1;omega) _ _ (IsE.keep (Keeps.drew (Keeps.refl _ _)) _ _ HE.out)) (IsE.mono (F':=fun k=>w.heap.size<k∧k≠L) (fun k _ h2=>by have:wr.heap.size≤k:=h2;exact⟨by omega,by omega⟩) _ _ ag) ⟨by omega,by omega⟩)));clear l0 l1 l2 l3 l4 l5 l6 l7 m0 m1 m2 m3 m4 m5 m6 m7 y0 y1 y2 y3 y4 y5 y6 y7 z0 z1 z2 z3 z4 z5 z6 z7 ag;go_wp2_with(go_fit(Sw a b cap aa s3 d _ V5.rm.rd HK.out ad (Ae6.but HO.out V5.rm.but ad) hl);rintro e' w6 ⟨rfl,an,ap⟩)
    go_roundg f'
    case measure=>exact al
    case rel=>exact⟨s3,_,rfl,V5.call ap an,ac⟩
set_option maxHeartbeats 8000000
set_option maxRecDepth 100000
theorem A22 (p:St→E×St)(d:Int)(hp:E6 332 p d)(hs:∀s,Bg (p s).2≤Bg s):E6 287 (Is p Adp) d:=by
 intro a s w h he ha;go_enter Tryz.func287,Tryz.ntmps287;go_upto_region 1 with fail;have M:=Dr (T:=48) (z:=E7) h;generalize w.alloc (aD E7 48)=W at M⊢;have hM:=aA M.room;have aa:=M.lt;replace M:=M.below ((aF _ _).alloc (aE _) (aD #[Z ⟨#[43]⟩,U Y 3,Z ⟨#[45]⟩,U Y 4] 198));go_wp2_with fail;go_fit(Zk (fun _ _=>rfl) p Adp d hp hs (by decide) (by decide) (by decide) a s _ M.rd (M.env he ha) ha W.heap.size 2 (by omega) (by simp) (Aiq (Ab W _)));rintro e v ⟨u,rfl,hE,hr,hb⟩;go_wp2_with(refine(M.call hb hr).putE hE M.new fun X c H=>?_);exact H.finE Tryz.results287
theorem Ae7 (p:St→E×St)(d:Int)(hp:E6 225 p d)(hs:∀s,Bg (p s).2≤Bg s):E6 148 (Is p Adq) d:=by
 intro a s w h he ha;go_enter Tryz.func148,Tryz.ntmps148;go_upto_region 1 with fail;have M:=Dr (T:=48) (z:=E7) h;generalize w.alloc (aD E7 48)=W at M⊢;have hM:=aA M.room;have aa:=M.lt;replace M:=M.below ((aF _ _).alloc (aE _) (aD #[Z ⟨#[97,110,100]⟩,U Y 7] 198));go_wp2_with fail;go_fit(Zk (fun _ _=>rfl) p Adq d hp hs (by decide) (by decide) (by decide) a s _ M.rd (M.env he ha) ha W.heap.size 1 (by omega) (by simp) (Aip (Ab W _)));rintro e v ⟨u,rfl,hE,hr,hb⟩;go_wp2_with(refine(M.call hb hr).putE hE M.new fun X c H=>?_);exact H.finE Tryz.results148
theorem Agn (p:St→E×St)(d:Int)(hp:E6 148 p d)(hs:∀s,Bg (p s).2≤Bg s):E6 87 (Is p Aj6) d:=by
 intro a s w h he ha;go_enter Tryz.func87,Tryz.ntmps87;go_upto_region 1 with fail;have M:=Dr (T:=48) (z:=E7) h;generalize w.alloc (aD E7 48)=W at M⊢;have hM:=aA M.room;have aa:=M.lt;replace M:=M.below ((aF _ _).alloc (aE _) (aD #[Z ⟨#[111,114]⟩,U Y 8] 198));go_wp2_with fail;go_fit(Zk (fun _ _=>rfl) p Aj6 d hp hs (by decide) (by decide) (by decide) a s _ M.rd (M.env he ha) ha W.heap.size 1 (by omega) (by simp) (Aip (Ab W _)));rintro e v ⟨u,rfl,hE,hr,hb⟩;go_wp2_with(refine(M.call hb hr).putE hE M.new fun X c H=>?_);exact H.finE Tryz.results87
theorem A0m (sub:St→E×St)(d:Int)(hp:Aaa 87 sub d):E6 332 (Ha sub) d:=by
 intro a s w h he ha;generalize e1:Ha sub s=q;have HP:Hid _:=hp;clear hp;go_enter Tryz.func332,Tryz.ntmps332;go_wp2_with fail;have M:=Dr (T:=48) (z:=E7) h;generalize w.alloc (aD E7 48)=W at M⊢;go_fit(C7 a Dl _ d _ M.rd (by decide));rintro e v ⟨rfl,hr,hb⟩;replace M:=M.call hb hr;cases h1:(Ag Dl s).1;rotate_left
 ·go_wp2_with fail;go_fit(HP.out a _ _ M.rd (M.env he ha) ha);rintro e v2 ⟨u,rfl,hE,hr,hb⟩;go_wp2_with(refine(M.call hb hr).var hE M.new fun X V=>?_);go_fit(Fh a Dc _ d _ V.rm.rd (by decide) _ rfl);rintro e v3 ⟨rfl,hr,hb⟩;go_wp2_with(refine(V.call hb hr).lds fun X c H=>?_);obtain rfl:((sub (Ag Dl s).2).1,Cg Dc (sub (Ag Dl s).2).2)=q:=by simp[←e1,Ha,h1]
  exact H.finE bN
 rw[Bp h1]at M;go_wp2_with fail;go_fit(C7 a Fw _ d _ M.rd (by decide));rintro e v ⟨rfl,hr,hb⟩;replace M:=M.call hb hr;cases h2:(Ag Fw s).1;rotate_left
 ·go_wp2_with fail;go_fit(Z9 0 0 noW _);rintro e v2 ⟨rfl,hb⟩;go_wp2_with(refine(M.below hb).putE (Zs (fun _=>False) _ zero) nofun fun X c H=>?_);obtain rfl:(Lx zero,(Ag Fw s).2)=q:=by simp[←e1,Ha,h1,h2]
  exact H.finE bN
 rw[Bp h2]at M;go_wp2_with fail;go_fit(C7 a Gf _ d _ M.rd (by decide));rintro e v ⟨rfl,hr,hb⟩;replace M:=M.call hb hr;cases h3:(Ag Gf s).1;rotate_left
 ·obtain⟨n0,n1⟩:=Ajx (Ag Gf s).2;go_wp2_with fail;go_fit(Wr a _ d _ M.rd (M.env he ha));rintro e v2 ⟨rfl,hr,hb⟩;replace M:=M.call hb hr;go_wp2_with fail;go_fit(Z9 1 (-(Cz (Ag Gf s).2).1) noW _);rintro e v2 ⟨rfl,hb⟩;go_wp2_with(refine(M.below hb).putE (Zs (fun _=>False) _ ⟨_,_,_⟩) nofun fun X c H=>?_);obtain rfl:(Lx ⟨1,-(Cz (Ag Gf s).2).1,noW⟩,(Cz (Ag Gf s).2).2)=q:=by simp[←e1,Ha,h1,h2,h3]
  exact H.finE bN
 rw[Bp h3]at M;go_wp2_with fail;go_fit(Ane a _ d _ M.rd);rintro e v2 ⟨rfl,rfl⟩;cases h4:Gj Bo s;rotate_left
 ·go_wp2_with fail;go_fit(Wr a _ d _ M.rd (M.env he ha));rintro e v2 ⟨rfl,hr,hb⟩;replace M:=M.call hb hr;go_wp2_with fail;go_fit(Z9 1 _ noW _);rintro e v2 ⟨rfl,hb⟩;go_wp2_with(refine(M.below hb).putE (Zs (fun _=>False) _ ⟨_,_,_⟩) nofun fun X c H=>?_);obtain rfl:(Lx ⟨1,(Cz s).1,noW⟩,(Cz s).2)=q:=by simp[←e1,Ha,h1,h2,h3,h4]
  exact H.finE bN
 go_wp2_with fail;go_fit(Anf a _ d _ M.rd);rintro e v2 ⟨rfl,rfl⟩;cases h5:Gj Du s;rotate_left
 ·go_wp2_with fail;go_fit(A0k a _ d _ M.rd h5);rintro e v2 ⟨rfl,hr,hb⟩;replace M:=M.call hb hr;go_wp2_with fail;go_fit(Z9 _ _ _ _);rintro e v2 ⟨rfl,hb⟩;go_wp2_with(refine(M.below hb).putE (Zs (fun _=>False) _ ⟨_,_,_⟩) nofun fun X c H=>?_);obtain rfl:(Lx (Oj s).1,(Oj s).2)=q:=by simp[←e1,Ha,h1,h2,h3,h4,h5]
  exact H.finE bN
 go_wp2_with fail;go_fit(A21 d a _ _ M.rd (M.env he ha) ha);rintro e v2 ⟨u,rfl,hE,hr,hb⟩;go_wp2_with(refine(M.call hb hr).putE hE M.new fun X c H=>?_);obtain rfl:Vo s=q:=by simp[←e1,Ha,h1,h2,h3,h4,h5]
 exact H.finE bN
theorem A0n (sub aa:St→E×St)(d:Int)(hs:E6 287 (Fo sub) d)(hp:Aaa 225 aa d):E6 225 (It sub aa) d:=by
 intro a s w h he ha;generalize e1:It sub aa s=q;have HP:Hid _:=hp;have HS:Hid _:=hs;clear hp hs;go_enter Tryz.func225,Tryz.ntmps225;go_wp2_with fail;have M:=Dr (T:=48) (z:=E7) h;generalize w.alloc (aD E7 48)=W at M⊢;go_fit(C7 a N4 _ d _ M.rd (by decide));rintro e v ⟨rfl,hr,hb⟩;replace M:=M.call hb hr;cases h1:(Ag N4 s).1;rotate_left
 ·go_wp2_with fail;go_fit(HP.out a _ _ M.rd (M.env he ha) ha);rintro e v2 ⟨u,rfl,hE,hr,hb⟩;obtain⟨op,⟨xk,xn,xs⟩,s4,nm,n,ao,k,cc,rfl⟩:=hE.shape;go_wp2_with fail;go_fit(Ws 9 _ 1 1 _);rintro e v3 ⟨rfl,ab⟩;go_wp2_with(refine((M.call hb hr).below (((aF _ _).alloc (aE _) _).trans (ab.mono (by simp)))).putE (Nw (op:=9) (x:=zero) (s:=noW) (name:=noW) (n:=0) ((Abq (IsE.mono (F':=fun k=>w.heap.size<k) (fun k _ hk=>M.new k hk) _ _ hE) (aA (M.call hb hr).room)).keep (Ai ab))) (fun _ h=>h) fun X c H=>?_);obtain rfl:(Hj 9 [(aa (Ag N4 s).2).1],(aa (Ag N4 s).2).2)=q:=by simp[←e1,It,h1]
  exact H.finE cM
 rw[Bp h1]at M;go_wp2_with fail;go_fit(HS.out a _ _ M.rd (M.env he ha) ha);rintro e v2 ⟨u,rfl,hE,hr,hb⟩;go_wp2_with(refine(M.call hb hr).var hE M.new fun X V=>?_);go_fit(C7 a kIs _ d _ V.rm.rd (by decide));rintro e v3 ⟨rfl,hr,hb⟩;replace V:=V.call hb hr;clear hr hb hE M;generalize v2.heap.size=L at V⊢;have h0:It sub aa s=if(Ag kIs (Fo sub s).2).1 then(Hj 10 [(Fo sub s).1],Cg Fw (Ag kIs (Fo sub s).2).2)
   else if(Ap Fj (Fo sub s).2).1=0 then((Fo sub s).1,(Ap Fj (Fo sub s).2).2)
   else(Hj (Ap Fj (Fo sub s).2).1 [(Fo sub s).1,(Fo sub (Ap Fj (Fo sub s).2).2).1],(Fo sub (Ap Fj (Fo sub s).2).2).2):=by rw[It,h1];rfl
 rw[e1]at h0;generalize Fo sub s=R at V h0⊢;have HQ:Hid _:=h0;clear h0 e1 h1;cases h2:(Ag kIs R.2).1;rotate_left
 ·go_wp2_with fail;go_fit(Fh a Fw _ d _ V.rm.rd (by decide) _ rfl);rintro e v4 ⟨rfl,hr,hb⟩;replace V:=V.call hb hr;go_wp2_with(refine V.load fun op x xs nm n ao k cc hE=>?_);go_fit(Ws 10 _ 1 1 _);rintro e v5 ⟨rfl,ab⟩;go_wp2_with(refine(V.rm.below (((aF _ _).alloc (aE _) _).trans (ab.mono (by simp)))).putE (Nw (op:=10) (x:=zero) (s:=noW) (name:=noW) (n:=0) ((Abq (IsE.mono (F':=fun k=>w.heap.size<k) (fun k _ hk=>hk.1) _ _ hE) (aA V.rm.room)).keep (Ai ab))) (fun _ h=>h) fun X c H=>?_);obtain rfl:(Hj 10 [R.1],Cg Fw (Ag kIs R.2).2)=q:=by rw[HQ.out,h2];rfl
  exact H.finE cM
 rw[Bp h2]at V;have ae:=V.le;have ak:=V.lt;have al:=V.rm.lt;have hO:=Aiq (Ab v3 (aD #[Z ⟨#[61]⟩,U Y 5,Z ⟨#[60]⟩,U Y 6] 198));replace V:=V.alloc (aD #[Z ⟨#[61]⟩,U Y 5,Z ⟨#[60]⟩,U Y 6] 198);go_wp2_with fail;go_fit(Sw a v3.heap.size 2 Fj _ d _ V.rm.rd (by decide) (by omega) hO (by simp));rintro e v4 ⟨rfl,hr,hb⟩;replace V:=V.call hb hr;clear hO hr hb ae
 by_cases h3:(Ap Fj R.2).1=0
 ·obtain rfl:(R.1,(Ap Fj R.2).2)=q:=by rw[HQ.out,h2,h3];rfl
  clear HQ;go_wp2_with(refine V.lds fun X c H=>?_);exact H.finE cM
 have af:((Ap Fj R.2).1==0)=aQ:=beq_eq_false_iff_ne.2 h3;have ac:Hid ((Hj (Ap Fj R.2).1 [R.1,(Fo sub (Ap Fj R.2).2).1],(Fo sub (Ap Fj R.2).2).2)=q):=by show _=_;rw[HQ.out,h2,if_neg h3];rfl
 clear HQ h2 h3;generalize Ap Fj R.2=S at V ac af⊢;obtain⟨o1,s2⟩:=S;dsimp only at V ac af⊢;have P2:=HS.out a _ _ V.drew.rm.rd (V.drew.rm.env he ha) ha;generalize Fo sub s2=S at P2 ac;obtain⟨E2,s3⟩:=S;dsimp only at P2 ac;obtain⟨op,⟨xk,xn,xs⟩,s4,nm,n,ao,k,cc,ag,hE⟩:=V.cells;obtain⟨l0,l1,l2,l3,l4,l5,l6,l7⟩:=Aab ag rfl;have HE:Hid _:=hE;clear hE;go_upto_region 9 with fail
 go_region_with(first
  |(go_fit P2;rintro e' w3 ⟨v2,rfl,ah,aj,ad⟩;obtain⟨am,⟨an,ap,aq⟩,s5,ar,n2,au,k2,av,rfl⟩:=ah.shape;obtain⟨m0,m1,m2,m3,m4,m5,m6,m7⟩:=Aab (Jx ad (w:=v4.drew) ag (show L≠a by omega)) rfl)
  |(refine(Ws _ _ _ _ _).mono ?_;rintro e' w4 ⟨rfl,ai⟩;have V4:=((V.drew.call ad aj).alloc _).below ai;obtain⟨y0,y1,y2,y3,y4,y5,y6,y7⟩:=Aab V4.rm.room rfl;have z0:=Aw V4.rm.room 0;have z1:=Aw V4.rm.room 1;have z2:=Aw V4.rm.room 2;have z3:=Aw V4.rm.room 3;have z4:=Aw V4.rm.room 4;have z5:=Aw V4.rm.room 5;have z6:=Aw V4.rm.room 6;have z7:=Aw V4.rm.room 7))
 all_goals
  have aw:v4.heap.size≤w3.heap.size:=ad.size;have ae:=V.le;obtain⟨c,H⟩:=V4.rm.set8 (IsE.keep (Ai ai) _ _ (Nw (op:=o1) (x:=zero) (s:=noW) (name:=noW) (n:=0) (Akd (IsE.keep (ad.keeps (w:=v4.drew) fun hk=>by have:=hk.1;omega) _ _ (IsE.keep (Keeps.drew (Keeps.refl _ _)) _ _ HE.out)) (IsE.mono (F':=fun k=>w.heap.size<k∧k≠L) (fun k _ h2=>by have:v4.heap.size≤k:=h2;exact⟨by omega,by omega⟩) _ _ ah) ⟨by omega,by omega⟩))) fun k hk=>hk.1
  obtain rfl:=ac.out;go_wp2_with fail;exact H.finE cM
theorem A45 (d:Nat)(hd:d≤5):E6 87 (Jn d).1 (5-d:Nat)∧E6 225 (Jn d).2 (5-d:Nat):=by
 have aa:∀n:Nat,Aaa 87 (Kw n) (5-n:Nat)→Aaa 225 (Mh n) (5-n:Nat)→E6 87 (Jn n).1 (5-n:Nat)∧E6 225 (Jn n).2 (5-n:Nat):=by
  intro n h1 h2;rw[Au2];have hs:Ci (Kw n) (Adr n)∧Ci (Mh n) (Ads n):=by
   cases n with
   |zero=>exact⟨fun s a r h=>by simp[Kw,Ok]at h,fun s a r h=>by simp[Mh,Ok]at h⟩
   |succ n=>exact⟨(Yg n).1,(Yg n).2.1⟩
  have ht:=A0n (Kw n) (Mh n) _ (A22 (Ha (Kw n)) _ (A0m (Kw n) _ h1) (Adv hs.1).shrinks) h2;have st:=Adx hs.1 hs.2;exact⟨Agn (Asg (Kw n) (Mh n)) _ (Ae7 (It (Kw n) (Mh n)) _ ht st.shrinks) (Pu st (by decide):Ci (Asg (Kw n) (Mh n)) _).shrinks,ht⟩
 induction d with
 |zero=>exact aa 0 Ae5 Ae5
 |succ n ih=>
  obtain⟨i1,i2⟩:=ih (by omega);have e:((5-(n+1):Nat):Int)+1=((5-n:Nat):Int):=by omega
  refine aa (n+1) (Aio (fun _ _=>rfl) _ _ (by omega) (by omega) ?_) (Aio (fun _ _=>rfl) _ _ (by omega) (by omega) ?_)
  ·rw[e];exact i1
  ·rw[e];exact i2
theorem Sx:E6 87 Mi 0:=(A45 5 (aE _)).1
theorem Abk {g}{p}{d}(h:E6 g p d):Ia g Az I7 p d:=by
 intro a s w h1 h2 h3;refine(h a s w h1 h2 h3).mono fun e w' hx=>?_
 obtain⟨v,h4,h5,h6⟩:=hx;obtain⟨op,x,xs,aa,n,ao,k,c,rfl⟩:=h5.shape;exact⟨_,h4,⟨rfl,h5⟩,h6⟩
theorem Axk {α}{one}{f}{acc:List α}{s}(h:(Ag Em s).1=aQ):J2 one f acc s=(acc,(Ag Em s).2):=by
 cases f with
 |zero=>rw[Bp h];rfl
 |succ f=>rw[J2,h];rfl
theorem A23 {α}{one}{f}{acc:List α}{s}(hs:∀s,Bg (one s).2≤Bg s)(h:(Ag Em s).1=aK)(hf:Bg s≤f):
  ∃f',f'<f∧J2 one f acc s=J2 one f' (acc++[(one (Ag Em s).2).1]) (one (Ag Em s).2).2∧Bg (one (Ag Em s).2).2≤f'∧Bg (one (Ag Em s).2).2+1≤Bg s:=by
 have h1:=Yi h;have h2:=hs (Ag Em s).2;cases f with
 |zero=>omega
 |succ f=>exact⟨f,by omega,by rw[J2,if_pos h],by omega,by omega⟩
theorem Rd.len {w}{a}{s}{d}(h:Rd w a s d):Bg s≤1502:=by
 obtain⟨x,r,b,_,h2⟩:=h;cases h2 with
 |wrong=>simp[Bg]
 |over=>simp[Bg]
 |word _ _ hr=>
  obtain⟨ws,h1,_,h3⟩:=Aqs _ r.data.toList (aE _);rw[Dp]at h3;rcases h1 with h1|h1
  ·rw[h1];simp[Bg];omega
  ·rw[h1];simp[Bg];omega
theorem U5 {a}{w w'}{base}{e}{size}{v}{n}{xs}(h:w.ownsRow base e size v n xs)(hb:But a w w')(ha:a<base):w'.ownsRow base e size v n xs:=by
 obtain⟨h1,h2⟩:=h;refine⟨h1,?_⟩;rcases h2 with h2|⟨g,cap,cur,hv,hg,hh,r⟩
 ·grind
 ·exact .inr ⟨g,cap,cur,hv,hg,by rw[hb.block g (aA hh) (by omega)];omega,r⟩
theorem Air {a}{w w'}{base}{e}{size}{v}{n}{xs}{u}(h:w.ownsRow base e size v n xs)(hg:w.grownBy w' v.ownBlock)(hu:But a u w)(hb:u.heap.size≤base):But a u w':=
 ⟨hg.os.trans hu.os,hg.tape.trans hu.tape,hg.output.trans hu.output,aH hu.size hg.size,fun k hk hn=>(hg.block k (cC hk hu.size) (fun e=>by have:=(h.lt k e.symm).1;omega)).trans (hu.block k hk hn)⟩
theorem Rd.grown {a}{w w'}{base}{e}{size}{v}{n}{xs}{s}{d}(h:w.ownsRow base e size v n xs)(hg:w.grownBy w' v.ownBlock)(hr:Rd w a s d)(ha:a<base):Rd w' a s d:=by
 obtain⟨x,r,b,h1,h2⟩:=hr;exact⟨x,r,b,(hg.block a h1.lt (fun e=>by have:=(h.lt a e.symm).1;omega)).trans h1,h2⟩
theorem Aty:(Tryz.prog.info? 48).map (fun i=>(i.zero,i.size,i.bytes))=O (O (aU #[U Y 0,U Y 0,U Y 0,Z ⟨#[]⟩,Z ⟨#[]⟩,Z ⟨#[]⟩,U Y 0,C J 0 0]),8,104):=by kernel_rfl
theorem Axl:(Tryz.prog.info? 44).map (fun i=>(i.zero,i.size,i.bytes))=O (O (C J 0 0),1,24):=by kernel_rfl
theorem Axm:(Tryz.prog.info? 141).map (fun i=>(i.zero,i.size,i.bytes))=O (O (aU #[Z ⟨#[]⟩,U Y 0,U Y 0,U Y 0,Z ⟨#[]⟩,Z ⟨#[]⟩,Z ⟨#[]⟩,U Y 0,C J 0 0]),9,120):=by kernel_rfl
theorem Axn:(Tryz.prog.info? 9).map (fun i=>(i.zero,i.size,i.bytes))=O (O (Z ⟨#[]⟩),1,16):=by kernel_rfl
theorem Axo:(Tryz.prog.info? 84).map (fun i=>(i.zero,i.size,i.bytes))=O (O (aU #[Z ⟨#[]⟩,U Y 0,dP aQ]),3,32):=by kernel_rfl
def Ago (TS T:bW)(k bytes:Nat):Prop:=Tryz.prog.underlying TS=O (.slice T)∧∃z,(Tryz.prog.info? T).map (fun i=>(i.zero,i.size,i.bytes))=O (O z,k,bytes)∧z.cells.size=k
theorem Axp:Ago 44 48 8 104:=⟨Tryz.underlying44,_,Aty,rfl⟩
theorem A0o:Ago 41 44 1 24:=⟨Tryz.underlying41,_,Axl,rfl⟩
theorem A0p:Ago 42 141 9 120:=⟨Tryz.underlying42,_,Axm,rfl⟩
theorem A0q:Ago 43 9 1 16:=⟨Tryz.underlying43,_,Axn,rfl⟩
theorem A0r:Ago 40 84 3 32:=⟨Tryz.underlying40,_,Axo,rfl⟩
theorem Zl {k bytes:Nat}{TS T:bW}{ab:Array Oper}{rest:List Oper}{o:Oper}{aa:Act}{Q:Exit→Act→aJ→Prop}{s x:Operand}{base n:Nat}{v:aL}{xs c:List aL}{w3:aJ}(I:Ago TS T k bytes)
  (ac:(w3.alloc (aD c.toArray T)).ownsRow base T k v n xs) (hn:n≤1600) (ad:base≤w3.heap.size) (h1:∀u∈c,u.oneCell'=aK)
  (h:∀v' w',w'.ownsRow base T k v' (n+1) (xs++c)→(w3.alloc (aD c.toArray T)).grownBy w' v.ownBlock→(v'.ownBlock=v.ownBlock∨v'.ownBlock=O (w3.heap.size+1))→bG aC ab Q rest (aa.put o.dst v') w')
  (ae:o.guard=J:=by exact rfl) (ho:o.op=.call {callee:=.builtin .append,args:=#[s,x],argTypes:=#[TS,TS]}:=by exact rfl) (hs:aa.eval s=v:=by exact rfl) (hx:aa.eval x=C (O ⟨w3.heap.size,0,J⟩) 1 1:=by exact rfl)
  (hl:c.length=k:=by exact rfl) (hb:0<k∧bytes≤1000:=by decide):bG aC ab Q (o::rest) aa (w3.alloc (aD c.toArray T)):=by
 obtain⟨hu,z,hz,af⟩:=I;obtain⟨i,hi,h2,h3,h4⟩:=dF hz;refine bM _ ae s x TS ho base T i z k bytes hu hi h2 h3 h4 af hb.1 v n xs hs ac ⟨w3.heap.size,0,J⟩ 1 1 c hx (by omega) (Cb w3 c T) h1 (by simp only[cG];omega) ?_ (aH ad (by simp)) fun v' w' a b _ d=>h v' w' a b (by simpa using d)
 exact aH (Nat.mul_le_mul (show n+1≤1601 by omega) hb.2) (by decide)
theorem Axq {α:Type}{K:Elem α}{T:bW}{k a:Nat}{w wr w2 w3:aJ}{z:aL}{acc:List α}{cs c3:List aL}{x2:α}{s3:St}{d:Int}(ad:a<w.heap.size)(ag:wr.ownsRow w.heap.size T k z acc.length cs)(aj:All K (FO w.heap.size z) wr acc cs)(ae:But a w wr)(aa:But a wr w2)(ab:But a w2 w3)(ak:K.R (Fr w2.heap.size) w3 x2 c3)(al:Rd w3 a s3 d):
  (w3.alloc (aD c3.toArray T)).ownsRow w.heap.size T k z acc.length cs∧w.heap.size≤w3.heap.size∧∀z2 w4,(w3.alloc (aD c3.toArray T)).grownBy w4 z.ownBlock→(z2.ownBlock=z.ownBlock∨z2.ownBlock=O (w3.heap.size+1))→All K (FO w.heap.size z2) w4 (acc++[x2]) (cs++c3)∧Rd w4 a s3 d∧But a w w4:=by
 have af:=(U5 (U5 ag aa ad) ab ad).alloc (aD c3.toArray T);refine⟨af,(ae.trans (aa.trans ab)).size,fun z2 w4 ac am=>?_⟩;have ah:=Aq w3 (aD c3.toArray T);have ai:¬FO w.heap.size z a:=by intro hf;have:=hf.1;omega
 have aq:wr.heap.size≤w2.heap.size:=aa.size;have an:z2.ownBlock=z.ownBlock∨z2.ownBlock=O (w3.alloc (aD c3.toArray T)).heap.size:=by rw[bQ];exact am
 have ap:∀k,O k=z.ownBlock→k<wr.heap.size:=fun k e=>(ag.lt k e.symm).2
 exact⟨All.mono (fun k hk hf=>⟨hf.1,hf.2.2⟩) (All.keep (F:=fun k=>w.heap.size≤k∧O k≠z.ownBlock∧O k≠z2.ownBlock) ⟨ac.size,fun k hk hl=>ac.block k hl hk.2.1⟩ (All.mono (fun k hk hf=>⟨hf.1,hf.2,(Uj an k hk hf).2⟩) ((All.keep (((aa.keeps ai).trans (ab.keeps ai)).alloc (aD c3.toArray T)) aj).append (All.keep (Ai ah) (All.one (K.mono (F':=FO w.heap.size z) (fun k _ hf=>⟨by have:w2.heap.size≤k:=hf;have:=ae.size;omega,fun e=>by have:w2.heap.size≤k:=hf;have:=ap k e;omega⟩) ak)))))),Rd.grown af ac (al.below ah) ad,Air af ac (((ae.trans aa).trans ab).alloc _) (aE _)⟩
def Wt {α:Type}(P:(St→α×St)→St→List α×St)(g F:dY)(K0:Elem α)(val:List aL→aL)(T0:bW)(k0:Nat):Prop:=∀(K:Elem α) (T:bW) (k:Nat),K=K0∧T=T0∧k=k0→∀(p:St→α×St) (d:Int),Ia F K val p d→(∀s,Bg (p s).2≤Bg s)→∀(a:Nat) (s:St) (w:aJ),Rd w a s d→Env w→8≤a→
  aR aC g #[aG (O ⟨a,0,J⟩),.func (.func F) #[aG (O ⟨a,0,J⟩)] #[]] w fun e w'=>∃sv,e=aI sv∧IsL K (Fr w.heap.size) w' sv (P p s).1∧Rd w' a (P p s).2 d∧But a w w'
theorem lists:Wt Ib 86 87 Az I7 48 8∧Wt Ib 81 82 H7 Afm 44 1∧Wt Ib 84 85 Fc I7 141 9∧Wt Ib 88 80 Nz Afm 9 1∧Wt Ib 220 144 Cp I7 84 3:=by
 refine⟨?_,?_,?_,?_,?_⟩
 all_goals
  intro K T k hK p d hp hs a s w h he ha;have aq:Hid (k=K.size):=by rw[hK.1,hK.2.2];rfl
  have ah:=h.lt;have P1:=hp a s w h he ha;have ae:Ib p s=J2 p (Bg (p s).2) [(p s).1] (p s).2:=rfl;have bd:=h.len;have ai:=hs s;generalize Ib p s=R at ae⊢;generalize p s=q at P1 ae ai;obtain⟨x1,s1⟩:=q;simp only at P1 ae ai;have aj:Hid _:=ae;have HP:Hid _:=hp;have HS:Hid _:=hs;clear ae hp hs;obtain⟨Q,hQ⟩:∃Q:Nat→aL→aJ→Prop,Q=fun f z wr=>∃acc cs σ,wr.ownsRow w.heap.size T k z acc.length cs∧All K (FO w.heap.size z) wr acc cs∧Rd wr a σ d∧Hid (R=J2 p f acc σ∧Bg σ≤f)∧acc.length+Bg σ≤1600∧But a w wr:=⟨_,rfl⟩
  have HQ:Hid _:=hQ;clear hQ
  first
   |go_enter Tryz.func86,Tryz.ntmps86
   |go_enter Tryz.func81,Tryz.ntmps81
   |go_enter Tryz.func84,Tryz.ntmps84
   |go_enter Tryz.func88,Tryz.ntmps88
   |go_enter Tryz.func220,Tryz.ntmps220
  go_wp2_with(go_fit P1;rintro e w1 ⟨c1,rfl,aa,ar,ak⟩;have S:Q (Bg s1) (C (O ⟨w1.heap.size,0,J⟩) 1 1) (w1.alloc (aD c1.toArray T)):=(by rw[HQ.out];exact⟨[x1],c1,s1,A1o w1 w.heap.size T c1 k ((K.len aa).trans aq.out.symm) ak.size,All.keep (Ai (Aq _ _)) (All.one (K.mono (fun k hk hf=>⟨hf,fun e=>by simp[eP]at e;omega⟩) aa)),ar.below (Aq _ _),⟨aj.out,aE _⟩,by simp;omega,ak.alloc _⟩);obtain⟨rfl,rfl,rfl⟩:=hK;(first|obtain⟨_,_,_,_,_,_,_,_,_,_,rfl⟩:=Fl aa|obtain⟨_,_,_,rfl⟩:=Xv aa|obtain⟨_,_,_,_,_,_,_,_,_,_,_,rfl⟩:=S5 aa|obtain⟨_,rfl⟩:=Ag8 aa|obtain⟨_,_,_,rfl⟩:=Xw aa);simp only[I7,Afm,cN])
  go_loopg[5] (Bg s1) (fun f z wr=>Q f z wr)
  case atStart=>exact S
  case round=>
   clear S aj;rw[HQ.out]at hrel;obtain⟨acc,cs,σ,al,am,an,HF,be,af⟩:=hrel;have ap:Hid _:=am;clear am;cases hc:(Ag Em σ).1
   ·have SK:=Anh a Em σ d wr an (by decide) hc;have au:Hid (R=(acc,σ)):=by show R=_;rw[HF.out.1,Axk hc,Bp hc]
    clear HF hc;go_wp2_with(go_fit SK;rintro e w2 ⟨rfl,ag,ab⟩);go_ret;rw[au.out];refine⟨_,rfl,?_,ag,af.trans ab⟩;exact⟨cs,Bq.of_own (U5 al ab ah) (fun k hk=>hk),All.mono (fun k _ hk=>hk.1) (All.keep (ab.keeps (by intro hf;have:=hf.1;omega)) ap.out)⟩
   ·have SK:=Ani a Em σ d wr an (by decide) hc;obtain⟨f',bf,ac⟩:∃f',f'<gk∧Hid (R=J2 p f' (acc++[(p (Ag Em σ).2).1]) (p (Ag Em σ).2).2∧Bg (p (Ag Em σ).2).2≤f'∧Bg (p (Ag Em σ).2).2+1≤Bg σ):=by
     obtain⟨f',h1,h2,h3,h4⟩:=A23 HS.out hc HF.out.2;exact⟨f',h1,HF.out.1.trans h2,h3,h4⟩
    clear HF hc;generalize(Ag Em σ).2=s2 at SK ac;have PF:=fun w2 (h2:Rd w2 a s2 d) (e2:Env w2)=>HP.out a s2 w2 h2 e2 ha
    generalize p s2=q at PF ac;obtain⟨x2,s3⟩:=q;simp only at PF ac;go_wp2_with(first
     |(go_fit SK;rintro e w2 ⟨rfl,ag,ab⟩;have P2:=PF w2 ag (he.but (af.trans ab) ha))
     |(go_fit P2;rintro e w3 ⟨c3,rfl,ad,av,aw⟩;have L3:=Axq ah al ap.out af ab aw ad av;(first|obtain⟨_,_,_,_,_,_,_,_,_,_,rfl⟩:=Fl ad|obtain⟨_,_,_,rfl⟩:=Xv ad|obtain⟨_,_,_,_,_,_,_,_,_,_,_,rfl⟩:=S5 ad|obtain⟨_,rfl⟩:=Ag8 ad|obtain⟨_,_,_,rfl⟩:=Xw ad);simp only[I7,Afm,cN])
     |(at_builtin;first|refine Zl Axp L3.1 ?h0 L3.2.1 ?h1 ?h2|refine Zl A0o L3.1 ?h0 L3.2.1 ?h1 ?h2|refine Zl A0p L3.1 ?h0 L3.2.1 ?h1 ?h2|refine Zl A0q L3.1 ?h0 L3.2.1 ?h1 ?h2|refine Zl A0r L3.1 ?h0 L3.2.1 ?h1 ?h2))
    case h0=>omega
    case h1=>simp only[cT];repeat(first|exact fun _ h=>absurd h dE|refine⟨rfl,?_⟩)
    case h2=>
     intro z2 w4 ax ay az;obtain⟨ba,bb,bc⟩:=L3.2.2 z2 w4 ay az;go_wp2_with fail
     go_roundg f'
     case measure=>omega
     case rel=>
      rw[HQ.out];refine⟨acc++[x2],_,s3,by rw[cY];exact ax,ba,bb,⟨ac.out.1,ac.out.2.1⟩,?_,bc⟩;have:=ac.out.2.2;simp only[cY,dX];omega
set_option maxHeartbeats 4000000
set_option maxRecDepth 100000
theorem A5m:Wt Hu 146 87 Az I7 48 8∧Wt Hu 143 144 Cp I7 84 3:=by
 refine⟨?_,?_⟩;have LL:=lists.1;rotate_left;have LL:=lists.2.2.2.2
 all_goals
  intro K T k hK p d hp hs a s w h he ha;have ah:=h.lt;have W1:=Fh a Dl s d w h (by decide) _ rfl;have ab:Hu p s=((Ib p _).1,Cg Dc _):=rfl;rw[ab];generalize Cg Dl s=s1 at W1⊢;have LF:=fun w1 (h1:Rd w1 a s1 d) (e1:Env w1)=>LL K T k hK p d hp hs a s1 w1 h1 e1 ha
  generalize Ib p s1=q at LF⊢;obtain⟨l,s2⟩:=q;simp only at LF⊢;clear ab hp hs LL hK
  first
   |go_enter Tryz.func146,Tryz.ntmps146
   |go_enter Tryz.func143,Tryz.ntmps143
  go_wp2_with(first
   |(go_fit W1;rintro e w1 ⟨rfl,ad,aa⟩;have L1:=LF w1 ad (he.but aa ha))
   |(go_fit L1;rintro e w2 ⟨sv,rfl,hL,ae,af⟩;have W2:=Fh a Dc s2 d w2 ae (by decide) _ rfl)
   |(go_fit W2;rintro e w3 ⟨rfl,ag,ac⟩))
  go_ret;have h1:=aa.size;exact⟨_,rfl,(hL.mono (fun k _ hk=>by omega)).keep (ac.keeps (show¬w.heap.size≤a by omega)),ag,(aa.trans af).trans ac⟩
theorem A24:Ia 82 H7 Afm Alc 0:=by
 intro a s w h he ha;have B:=A5m.1 _ _ _ ⟨rfl,rfl,rfl⟩ Mi 0 (Abk Sx) Om.shrinks a s w h he ha;have hr:Alc s=Hu Mi s:=rfl;rw[hr];generalize Hu Mi s=q at B⊢;obtain⟨l,s1⟩:=q;simp only at B⊢;clear hr;go_enter Tryz.func82,Tryz.ntmps82;go_wp2_with(go_fit B;rintro e w1 ⟨sv,rfl,hL,aa,ab⟩);go_ret;exact⟨[sv],rfl,⟨sv,rfl,hL⟩,aa,ab⟩
theorem A0s (a:Nat)(s:St)(d:Int)(w:aJ)(h:Rd w a s d):
  aR aC 221 #[aG (O ⟨a,0,J⟩)] w fun e w'=>e=aI (U Y (Lr s).1)∧Rd w' a (Lr s).2 d∧But a w w':=by
 cases hc:(Ag Tu s).1
 ·have e:Lr s=(2,Cg Zv s):=by simp only[Lr,hc,eH,if_false,Bp hc]
  rw[e];have SK:=Anh a Tu s d w h (by decide) hc;have WF:=fun w1 (h1:Rd w1 a s d)=>Fh a Zv s d w1 h1 (by decide) _ rfl
  clear hc e;go_enter Tryz.func221,Tryz.ntmps221;go_wp2_with(first
   |(go_fit SK;rintro e w1 ⟨rfl,aa,ab⟩;have W1:=WF w1 aa)
   |(go_fit W1;rintro e w2 ⟨rfl,ac,ad⟩))
  go_ret;exact⟨rfl,ac,ab.trans ad⟩
 ·have e:Lr s=(1,(Ag Tu s).2):=by simp only[Lr,hc,if_true]
  rw[e];have SK:=Ani a Tu s d w h (by decide) hc;clear hc e;go_enter Tryz.func221,Tryz.ntmps221;go_wp2_with(go_fit SK;rintro e w1 ⟨rfl,aa,ab⟩);go_ret;exact⟨rfl,aa,ab⟩
theorem Atz (d:Int):Ia 144 Cp I7 O8 d:=by
 intro a s w h _ _;generalize e1:O8 s=q;go_enter Tryz.func144,Tryz.ntmps144;go_wp2_with fail;have M:=Dr (T:=84) (z:=#[Z noW,U Y 0,dP aQ]) h;generalize w.alloc (aD #[Z noW,U Y 0,dP aQ] 84)=W at M⊢;go_fit(Gq a _ d _ M.rd);rintro e v ⟨rfl,hr,hb⟩;replace M:=M.call hb hr;go_wp2_with fail;go_fit(A0s a _ d _ M.rd);rintro e v ⟨rfl,hr,hb⟩;replace M:=M.call hb hr;go_wp2_with fail;go_fit(C7 a Vg _ d _ M.rd (by decide));rintro e v ⟨rfl,hr,hb⟩;go_wp2_with(refine(M.call hb hr).put Ain (F:=fun _=>False) (q:=⟨(Bm s).1,(Lr (Bm s).2).1,(Ag Vg (Lr (Bm s).2).2).1⟩) rfl nofun fun X H=>?_);subst e1;exact H.fin Ain Tryz.results144
theorem Ue:E6 83 Ma 0:=by
 intro a s w h he ha;generalize e1:Ma s=q;go_enter Tryz.func83,Tryz.ntmps83;go_wp2_with fail;have M:=Dr (T:=48) (z:=E7) h;generalize w.alloc (aD E7 48)=W at M⊢;go_fit(C7 a N7 _ 0 _ M.rd (by decide));rintro e v ⟨rfl,hr,hb⟩;replace M:=M.call hb hr;cases h1:(Ag N7 s).1
 ·go_wp2_with(refine M.putE (Zr (fun _=>False) _) nofun fun X c H=>?_);obtain rfl:(E.nil,(Ag N7 s).2)=q:=by rw[←e1,Ma,h1];rfl
  exact H.finE Tryz.results83
 ·go_wp2_with fail;go_fit(Sx a _ _ M.rd (M.env he ha) ha);rintro e v ⟨u,rfl,hE,hr,hb⟩;go_wp2_with(refine(M.call hb hr).putE hE M.new fun X c H=>?_);obtain rfl:Mi (Ag N7 s).2=q:=by rw[←e1,Ma,h1];rfl
  exact H.finE Tryz.results83
theorem At0:Ia 85 Fc I7 Ro 0:=by
 intro a s w h he ha;generalize e1:Ro s=q;go_enter Tryz.func85,Tryz.ntmps85;go_wp2_with fail;have M:=Dr (T:=141) (z:=#[Z noW,U Y 0,U Y 0,U Y 0,Z noW,Z noW,Z noW,U Y 0,C J 0 0]) h;generalize w.alloc (aD #[Z noW,U Y 0,U Y 0,U Y 0,Z noW,Z noW,Z noW,U Y 0,C J 0 0] 141)=W at M⊢;go_fit(Gq a _ 0 _ M.rd);rintro e v ⟨rfl,hr,hb⟩;replace M:=M.call hb hr;go_wp2_with fail;go_fit(Fh a kEq _ 0 _ M.rd (by decide) _ rfl);rintro e v ⟨rfl,hr,hb⟩;replace M:=M.call hb hr;go_wp2_with fail;go_fit(Sx a _ _ M.rd (M.env he ha) ha);rintro e v2 ⟨u,rfl,hE,hr,hb⟩;obtain⟨op,⟨xk,xn,xs⟩,s4,nm,n,ao,k,cc,rfl⟩:=hE.shape;go_wp2_with(refine(M.call hb hr).put Aim (q:=((Bm s).1,_)) (c:=Z (Bm s).1::(Af op ⟨xk,xn,xs⟩ s4 nm n (C ao k cc)).toList) ⟨_,rfl,rfl,hE⟩ M.new fun X H=>?_);subst e1;exact H.fin Aim Tryz.results85
theorem J9 (k)(w):aR aC 79 #[U Y k] w fun e w'=>e=aI (aU (Uk k))∧Below w.heap.size w w':=by
 have b0:=Ab w (aD Bn 50);have h1:(Uk k).all _=aK:=P0 (Ca _ _ _) (Ca _ _ _) (Ca _ _ _) (Ca _ _ _) (Ca _ _ _) (Ca _ _ _) (Ca _ _ _);go_enter Tryz.func79,Tryz.ntmps79;go_wp2_with(refine aO rfl 50 _ _ rfl _ (Uk k) rfl rfl 50 Bn b0 D4 rfl h1 ?_);exact aM (v:=aU (Uk k)) (aP Tryz.results79 _ _ w.heap.size 50 _ _ _ rfl (Ao b0) aN rfl D4) rfl ⟨rfl,Below.row ((aF _ _).alloc (aE _) _) (aE _) _⟩
theorem At1:(Tryz.prog.info? 48).map (·.size)=O 8:=by kernel_rfl
theorem Aac {F}{w}{s}{c}(h:Ie.R F w s c):c.toArray.all (·.oneCell')=aK∧c.toArray.size=20:=by
 have hl:c.length=20:=Ie.len h;obtain⟨cols,rows,sets,frm,out,w8,order,rfl,h8,h1,h2,h3,h4,h5,h6,h7⟩:=h.is;refine⟨?_,by omega⟩;obtain⟨op,xk,xn,xs,sx,nm,n,ao,k,cap,rfl⟩:=Fl ⟨h8,h6⟩;exact P0 (Gh h1) (Gh h2) (Gh h3) (Gh h4) (Gh h5) (Ca _ _ _) (Gh h7)
theorem Aah {P}{ops}{rest}{op}{a}{w}{Q}(aa:op.guard=J)(ty)(x y)(ho:op.op=.store ty x y)
  (b o) (v) (hx:a.eval x=aG (O ⟨b,o,J⟩)) (hy:a.eval y=v)
  (ht:w.there b o 1) (hi:(P.info? ty).map (·.size)=O 1) (h1:v.oneCell'=aK)
  (h:bG P ops Q rest (a.put op.dst dL) (w.setCell ⟨b,o,J⟩ v)):bG P ops Q (op::rest) a w:=
 wpList_plain aa fun _ hK=>by
  have:=run_storeCells_cells (P:=P) b o [v] 0 w (fun j hj=>by simpa using(ht j (by omega)).1) (fun j hj=>by simpa using(ht j (by omega)).2) (fun x hx=>by grind);have hc:v.cells=#[v]:=by cases v<;>first|rfl|cases h1
  have hs:(storeVar ty ⟨b,o,J⟩ v).run P w=.ok () (w.setCell ⟨b,o,J⟩ v):=by
   cases hq:P.info? ty with
   |none=>grind
   |some i=>
    have hs:=by simpa[hq]using hi
    simp only[dW]at this;simp[storeVar,sizeOf,typeInfo,hq,hc,hs,this];rfl
  unfold Oper.wp execOp;simp only[ho,hx,hy,Instr.storeAt,Instr.sureAddr,Sem.run_bind,Sem.run_pure,Result.andThen_ok,hs];exact hK _ _ h
structure RqSt (a L:Nat) (w W:aJ) (s:St) (st:Stm):Prop where
 rm:RmSt 50 Bn a w W s 0
 stm:∃c,W.heap[L]?=O (aD c.toArray 50)∧Ie.R (Fr (L+1)) W st c
 lt:w.heap.size<L
section
variable {a L:Nat}{w W W':aJ}{s s':St}{st:Stm}{ops:Array Oper}{rest:List Oper}{o o':Oper}{act:Act}{Q:Exit→Act→aJ→Prop}{x y x' y':Operand}
theorem RmSt.begun (h:RmSt 50 Bn a w W s 0){w1:aJ}{k:Int}(hb:Below W.heap.size W w1)
  (g:∀X,RqSt a w1.heap.size w X s (Aj k)→bG aC ops Q rest (act.put o.dst dL) X)
  (ab:o.guard=J:=by rfl) (ho:o.op=.store 50 x y:=by rfl) (hx:act.eval x=aG (O ⟨w1.heap.size,0,J⟩):=by rfl) (hy:act.eval y=aU (Uk k):=by rfl):bG aC ops Q (o::rest) act (w1.alloc (aD Bn 50)):=by
 have hl:=aA h.room;have hz:=hb.size;have aa:=hb.alloc hz (aD Bn 50);refine aO ab _ x y ho _ _ hx hy _ _ (Ab w1 _) D4 rfl (P0 (Ca _ _ _) (Ca _ _ _) (Ca _ _ _) (Ca _ _ _) (Ca _ _ _) (Ca _ _ _) (Ca _ _ _)) (g _ ⟨⟨Bz ((aa.block _ hl).trans h.room) (by omega) _,(h.but.trans (.of_below aa)).row (by omega) _,(h.rd.below aa).row (by have:=h.lt;omega) _,h.lt⟩,⟨(Uk k).toList,Ao (Ab w1 _),?_⟩,by omega⟩);exact N0 (IsL.nil _ _ _) (IsL.nil _ _ _) (IsL.nil _ _ _) (IsL.nil _ _ _) (IsL.nil _ _ _) (Zr _ _) (IsL.nil _ _ _)
theorem RqSt.call (h:RqSt a L w W s st)(hb:But a W W')(hr:Rd W' a s' 0):RqSt a L w W' s' st:=by
 obtain⟨c,h1,h2⟩:=h.stm;have:=h.rm.lt;have:=h.lt;exact⟨h.rm.call hb hr,⟨c,Jx hb h1 (by omega),Ie.keep (hb.keeps (show¬L+1≤a by omega)) h2⟩,h.lt⟩
theorem RqSt.alloc (h:RqSt a L w W s st)(x:Obj):RqSt a L w (W.alloc x) s st:=h.call (.of_below ((aF _ _).alloc (aE _) x)) (h.rm.rd.below ((aF _ _).alloc (aE _) x))
theorem RqSt.le (h:RqSt a L w W s st):L+1≤W.heap.size:=by obtain⟨c,h1,h2⟩:=h.stm;grind
theorem RqSt.new (h:RqSt a L w W s st):∀k,k<W'.heap.size→Fr W.heap.size k→Fr (L+1) k:=fun k _ hk=>aH h.le hk
theorem RqSt.sto (h:RqSt a L w W s st)(j:Nat){t:bW}{v:aL}(aa:Stm)
  (g:∀X,RqSt a L w X s aa→bG aC ops Q rest (act.put o.dst dL) X)
  (ab:o.guard=J:=by rfl) (ho:o.op=.store t x y:=by rfl) (hx:act.eval x=aG (O ⟨L,j,J⟩):=by rfl) (hy:act.eval y=v:=by rfl)
  (hs:∀c,Ie.R (Fr (L+1)) W st c→Ie.R (Fr (L+1)) W aa (c.set j v):=by
   intro c hc;obtain⟨_,_,_,_,_,_,_,_,_,_,_,_,_,_,_,_,_,_,_,_,_,_,rfl,_,_,_,_,_,_,_⟩:=Bb hc;exact N0 (by assumption) (by assumption) (by assumption) (by assumption) (by assumption) (by assumption) (by assumption))
  (h1:v.oneCell'=aK:=by rfl) (hi:(Tryz.prog.info? t).map (·.size)=O 1:=by kernel_rfl) (hj:j<20:=by decide):bG aC ops Q (o::rest) act W:=by
 obtain⟨c,h2,h3⟩:=h.stm;have:=h.rm.lt;have:=h.lt;have hl:=(Aac h3).2;refine Aah ab t x y ho L j v hx hy (fun i hi=>?_) hi h1 (g _ ⟨⟨Qe h.rm.room (by omega) _ _,h.rm.but.new (by omega) _ _,h.rm.rd.other (by omega) _ _,h.rm.lt⟩,⟨_,?_,Ie.keep ((Keeps.refl _ _).set (show¬L+1≤L by omega) _ _) (hs c h3)⟩,h.lt⟩)
 ·have:i=0:=by omega
  subst this;exact⟨by rw[Aa h2 (dO (show j+0<_ by omega))];rfl,Aw h2 _⟩
 ·have:=upd h2 j v;grind
theorem Ais {P:aJ→Prop}{L}(hP:∀W i v,P W→P (W.setCell ⟨L,i,J⟩ v)):∀(vs:List aL) (o:Nat) (W:aJ),P W→P (W.setCells L o vs)
 |[],_,_,h=>h
 |_::vs,_,_,h=>Ais hP vs _ _ (hP _ _ _ h)
theorem RqSt.stoW (h:RqSt a L w W s st){e:E}{v:aL}(hE:IsE (Fr (L+1)) W e v)
  (g:∀X,RqSt a L w X s {st with wher:=e}→bG aC ops Q rest (act.put o.dst dL) X)
  (aa:o.guard=J:=by rfl) (ho:o.op=.store 48 x y:=by rfl) (hx:act.eval x=aG (O ⟨L,9,J⟩):=by rfl) (hy:act.eval y=v:=by rfl):bG aC ops Q (o::rest) act W:=by
 obtain⟨c,h2,h3⟩:=h.stm;have:=h.rm.lt;have:=h.lt;obtain⟨op,⟨xk,xn,xs⟩,s1,nm,n,ao,k,cc,rfl⟩:=hE.shape;obtain⟨_,_,_,_,_,_,_,_,_,_,_,_,_,_,_,_,_,_,_,_,_,_,rfl,i1,i2,i3,i4,i5,_,i7⟩:=Bb h3;have h4:=Ais (P:=fun X=>X.heap[w.heap.size]?=O (aD Bn 50)∧But a w X∧Rd X a s 0∧Keeps (Fr (L+1)) W X) (L:=L) (fun X i u ⟨p1,p2,p3,p4⟩=>⟨Qe p1 (by omega) _ _,p2.new (by omega) _ _,p3.other (by omega) _ _,p4.set (show¬L+1≤L by omega) _ _⟩) (Af op ⟨xk,xn,xs⟩ s1 nm n (C ao k cc)).toList 9 W ⟨h.rm.room,h.rm.but,h.rm.rd,Keeps.refl _ _⟩;have h5:=upd (upd (upd (upd (upd (upd (upd (upd h2 9 (U Y op)) 10 (U Y xk)) 11 (U Y xn)) 12 (Z xs)) 13 (Z s1)) 14 (Z nm)) 15 (U Y n)) 16 (C ao k cc);simp only[dN,cX,eE]at h5;refine wpList_store_mid aa _ x y ho L 9 _ hx hy (fun j hj=>?_) At1 (by simp[bO]) (g _ ⟨⟨h4.1,h4.2.1,h4.2.2.1,h.rm.lt⟩,⟨_,h5,Ie.keep h4.2.2.2 (N0 i1 i2 i3 i4 i5 hE i7)⟩,h.lt⟩);have ab:j<8:=hj;exact⟨by rw[Aa h2 (dO (show 9+j<20 by omega))];rfl,Aw h2 _⟩
theorem RqSt.lds (h:RqSt a L w W s st)(g:∀X c,RmEnd Ie 50 a w X s 0 st c→bG aC ops Q rest ((act.put o.dst (aU c.toArray)).put o'.dst dL) X)
  (aa:o.guard=J:=by rfl) (ho:o.op=.load 50 x:=by rfl) (hx:act.eval x=aG (O ⟨L,0,J⟩):=by rfl)
  (ab:o'.guard=J:=by rfl) (ac:o'.op=.store 50 x' y':=by rfl) (ad:∀v,(act.put o.dst v).eval x'=aG (O ⟨w.heap.size,0,J⟩):=by intro v;rfl) (ae:∀v,(act.put o.dst v).eval y'=v:=by intro v;rfl):bG aC ops Q (o::o'::rest) act W:=by
 obtain⟨c,h2,h3⟩:=h.stm;refine cB aa _ x ho L hx _ _ _ _ h2 aN rfl (by rw[(Aac h3).2];exact D4) ?_;exact h.rm.put Bx h3 (fun k hk=>cC h.lt (Nat.le_of_succ_le hk)) (fun X hX=>g X c hX) ab ac (ad _) (ae _)
end
set_option maxHeartbeats 4000000
set_option maxRecDepth 100000
theorem Ap0:Ia 80 Nz Afm Bm 0:=by
 intro a s w h _ _;exact(Gq a s 0 w h).mono fun e w' ⟨h1,h2,h3⟩=>⟨[Z _],h1,rfl,h2,h3⟩
theorem Axr:Ia 49 Ie I7 Z2 0:=by
 intro a s w h he ha;simp only[Z2];go_enter Tryz.func49,Tryz.ntmps49;go_wp2_with fail;have M:=Dr (T:=50) (z:=Bn) h;generalize w.alloc _=W at M⊢;go_fit(J9 3 W);rintro e X ⟨rfl,hb⟩;go_wp2_with(refine M.begun hb fun X S=>?_);go_fit(Fh a Ka _ 0 X S.rm.rd (by decide) _ rfl);rintro e v ⟨rfl,hr,hb⟩;replace S:=S.call hb hr;go_wp2_with(fail);go_fit(Gq a _ 0 _ S.rm.rd);rintro e v ⟨rfl,hr,hb⟩;replace S:=S.call hb hr;go_wp2_with(first|refine S.sto 1 _ fun X S=>?_|refine S.lds fun X c H=>?_);exact H.fin Bx Tryz.results49
theorem Ae8:Ia 78 Ie I7 Uv 0:=by
 intro a s w h he ha;simp only[Uv];go_enter Tryz.func78,Tryz.ntmps78;go_wp2_with fail;have M:=Dr (T:=50) (z:=Bn) h;generalize w.alloc _=W at M⊢;go_fit(J9 2 W);rintro e X ⟨rfl,hb⟩;go_wp2_with(refine M.begun hb fun X S=>?_);go_fit(Gq a _ 0 _ S.rm.rd);rintro e v ⟨rfl,hr,hb⟩;replace S:=S.call hb hr;go_wp2_with(refine S.sto 1 _ fun X S=>?_);go_fit(Fh a kOn _ 0 X S.rm.rd (by decide) _ rfl);rintro e v ⟨rfl,hr,hb⟩;replace S:=S.call hb hr;go_wp2_with(fail);go_fit(Gq a _ 0 _ S.rm.rd);rintro e v ⟨rfl,hr,hb⟩;replace S:=S.call hb hr;go_wp2_with(refine S.sto 2 _ fun X S=>?_);go_fit(Fh a Dl _ 0 X S.rm.rd (by decide) _ rfl);rintro e v ⟨rfl,hr,hb⟩;replace S:=S.call hb hr;go_wp2_with(fail);go_fit(Gq a _ 0 _ S.rm.rd);rintro e v ⟨rfl,hr,hb⟩;replace S:=S.call hb hr;go_wp2_with(refine S.sto 3 _ fun X S=>?_);go_fit(Fh a Dc _ 0 X S.rm.rd (by decide) _ rfl);rintro e v ⟨rfl,hr,hb⟩;replace S:=S.call hb hr;go_wp2_with(refine S.lds fun X c H=>?_);exact H.fin Bx Tryz.results78
theorem Ae9:Ia 77 Ie I7 Uu 0:=by
 intro a s w h he ha;simp only[Uu];go_enter Tryz.func77,Tryz.ntmps77;go_wp2_with fail;have M:=Dr (T:=50) (z:=Bn) h;generalize w.alloc _=W at M⊢;go_fit(J9 1 W);rintro e X ⟨rfl,hb⟩;go_wp2_with(refine M.begun hb fun X S=>?_);go_fit(Gq a _ 0 _ S.rm.rd);rintro e v ⟨rfl,hr,hb⟩;replace S:=S.call hb hr;go_wp2_with(refine S.sto 1 _ fun X S=>?_);go_fit(A5m.2 _ _ _ ⟨rfl,rfl,rfl⟩ O8 0 (Atz 0) Ald.shrinks a _ _ S.rm.rd (S.rm.env he ha) ha);rintro e v ⟨sv,rfl,hI,hr,hb⟩;obtain⟨ao,cp,rfl⟩:=hI.shape;replace hI:=hI.mono S.new;replace S:=S.call hb hr;go_wp2_with(first|refine S.sto 4 _ fun X S=>?_|refine S.lds fun X c H=>?_);exact H.fin Bx Tryz.results77
theorem Ap1:Ia 50 Ie I7 Rm 0:=by
 intro a s w h he ha;simp only[Rm];go_enter Tryz.func50,Tryz.ntmps50;go_wp2_with fail;have M:=Dr (T:=50) (z:=Bn) h;generalize w.alloc _=W at M⊢;go_fit(J9 4 W);rintro e X ⟨rfl,hb⟩;go_wp2_with(refine M.begun hb fun X S=>?_);go_fit(Fh a Aj3 _ 0 X S.rm.rd (by decide) _ rfl);rintro e v ⟨rfl,hr,hb⟩;replace S:=S.call hb hr;go_wp2_with(fail);go_fit(Gq a _ 0 _ S.rm.rd);rintro e v ⟨rfl,hr,hb⟩;replace S:=S.call hb hr;go_wp2_with(refine S.sto 2 _ fun X S=>?_);go_fit(Fh a Zw _ 0 X S.rm.rd (by decide) _ rfl);rintro e v ⟨rfl,hr,hb⟩;replace S:=S.call hb hr;go_wp2_with(fail);go_fit(lists.2.1 _ _ _ ⟨rfl,rfl,rfl⟩ Alc 0 A24 Avc.shrinks a _ _ S.rm.rd (S.rm.env he ha) ha);rintro e v ⟨sv,rfl,hI,hr,hb⟩;obtain⟨ao,cp,rfl⟩:=hI.shape;replace hI:=hI.mono S.new;replace S:=S.call hb hr;go_wp2_with(first|refine S.sto 5 _ fun X S=>?_|refine S.lds fun X c H=>?_);exact H.fin Bx Tryz.results50
theorem Ap2:Ia 51 Ie I7 Rn 0:=by
 intro a s w h he ha;simp only[Rn];go_enter Tryz.func51,Tryz.ntmps51;go_wp2_with fail;have M:=Dr (T:=50) (z:=Bn) h;generalize w.alloc _=W at M⊢;go_fit(J9 5 W);rintro e X ⟨rfl,hb⟩;go_wp2_with(refine M.begun hb fun X S=>?_);go_fit(Fh a Vf _ 0 X S.rm.rd (by decide) _ rfl);rintro e v ⟨rfl,hr,hb⟩;replace S:=S.call hb hr;go_wp2_with(fail);go_fit(Gq a _ 0 _ S.rm.rd);rintro e v ⟨rfl,hr,hb⟩;replace S:=S.call hb hr;go_wp2_with(refine S.sto 2 _ fun X S=>?_);go_fit(Ue a _ _ S.rm.rd (S.rm.env he ha) ha);rintro e v ⟨y,rfl,hI,hr,hb⟩;replace hI:=IsE.mono S.new _ _ hI;replace S:=S.call hb hr;go_wp2_with(first|refine S.stoW hI fun X S=>?_|refine S.lds fun X c H=>?_);exact H.fin Bx Tryz.results51
theorem At2:Ia 52 Ie I7 Rp 0:=by
 intro a s w h he ha;simp only[Rp];go_enter Tryz.func52,Tryz.ntmps52;go_wp2_with fail;have M:=Dr (T:=50) (z:=Bn) h;generalize w.alloc _=W at M⊢;go_fit(J9 6 W);rintro e X ⟨rfl,hb⟩;go_wp2_with(refine M.begun hb fun X S=>?_);go_fit(Gq a _ 0 _ S.rm.rd);rintro e v ⟨rfl,hr,hb⟩;replace S:=S.call hb hr;go_wp2_with(refine S.sto 2 _ fun X S=>?_);go_fit(Fh a Ar6 _ 0 X S.rm.rd (by decide) _ rfl);rintro e v ⟨rfl,hr,hb⟩;replace S:=S.call hb hr;go_wp2_with(fail);go_fit(lists.2.2.1 _ _ _ ⟨rfl,rfl,rfl⟩ Ro 0 At0 Ale.shrinks a _ _ S.rm.rd (S.rm.env he ha) ha);rintro e v ⟨sv,rfl,hI,hr,hb⟩;obtain⟨ao,cp,rfl⟩:=hI.shape;replace hI:=hI.mono S.new;replace S:=S.call hb hr;go_wp2_with(refine S.sto 6 _ fun X S=>?_);go_fit(Ue a _ _ S.rm.rd (S.rm.env he ha) ha);rintro e v ⟨y,rfl,hI,hr,hb⟩;replace hI:=IsE.mono S.new _ _ hI;replace S:=S.call hb hr;go_wp2_with(first|refine S.stoW hI fun X S=>?_|refine S.lds fun X c H=>?_);exact H.fin Bx Tryz.results52
set_option maxHeartbeats 4000000
set_option maxRecDepth 100000
theorem Axs:Ia 53 Ie I7 Uy 0:=by
 intro a s w h he ha;simp only[Uy];generalize e1:Af0 s=q1;generalize e2:Ib Bm _=q2;generalize e3:Ma _=q3;generalize e4:Uw _=q4;generalize e5:Ux _=q5;go_enter Tryz.func53,Tryz.ntmps53;go_wp2_with fail;have M:=Dr (T:=50) (z:=Bn) h;generalize w.alloc _=W at M⊢;go_fit(J9 7 W);rintro e X0 ⟨rfl,hb⟩;go_wp2_with(refine M.begun hb fun X S=>?_);generalize X0.heap.size=L at S⊢;go_fit(C7 a Zx _ 0 _ S.rm.rd (by decide));rintro e v ⟨rfl,hr,hb⟩;replace S:=S.call hb hr;clear hr hb M;go_upto_if 7 with fail
 go_cut[]from 6 to 12 (fun wx=>RqSt a L w wx q1.2 {Aj 7 with out:=q1.1})
 case first=>
  cases h1:(Ag Zx s).1
  ·go_wp2_with fail;go_fit(lists.1 _ _ _ ⟨rfl,rfl,rfl⟩ Mi 0 (Abk Sx) Om.shrinks a _ _ S.rm.rd (S.rm.env he ha) ha);rintro e v ⟨sv,rfl,hI,hr,hb⟩;obtain⟨ao,cp,rfl⟩:=hI.shape;replace hI:=hI.mono S.new;replace S:=S.call hb hr;go_wp2_with(refine S.sto 8 _ fun X S=>?_);go_meet;rw[←e1,Af0,h1];grind
  ·go_wp2_with fail;go_meet;rw[←e1,Af0,h1];exact S
 clear S;go_wp2_with fail;go_fit(Fh a Vf _ 0 _ hcut.rm.rd (by decide) _ rfl);rintro e v ⟨rfl,hr,hb⟩;have S:=hcut.call hb hr;go_wp2_with fail;go_fit(lists.2.2.2.1 _ _ _ ⟨rfl,rfl,rfl⟩ Bm 0 Ap0 Ask.shrinks a _ _ S.rm.rd (S.rm.env he ha) ha);rintro e v ⟨sv,rfl,hI,hr,hb⟩;obtain⟨ao,cp,rfl⟩:=hI.shape;replace hI:=hI.mono S.new;replace S:=S.call hb hr;rw[e2]at hI S;go_wp2_with(refine S.sto 7 _ fun X S=>?_);go_fit(Ue a _ _ S.rm.rd (S.rm.env he ha) ha);rintro e v ⟨y,rfl,hI,hr,hb⟩;replace hI:=IsE.mono S.new _ _ hI;replace S:=S.call hb hr;rw[e3]at hI S;go_wp2_with(refine S.stoW hI fun X S=>?_);go_fit(C7 a N5 _ 0 _ S.rm.rd (by decide));rintro e v ⟨rfl,hr,hb⟩;replace S:=S.call hb hr;clear hr hb hI hcut;go_upto_if 25 with fail
 go_cut[]from 25 to 35 (fun wx=>RqSt a L w wx q4.2 {Aj 7 with out:=q1.1,frm:=q2.1,wher:=q3.1,order:=q4.1.1,down:=q4.1.2})
 case first=>
  cases h1:(Ag N5 _).1
  ·go_wp2_with fail;go_meet;rw[←e4,Uw,h1];exact S
  ·go_wp2_with fail;go_fit(Fh a kBy _ 0 _ S.rm.rd (by decide) _ rfl);rintro e v ⟨rfl,hr,hb⟩;replace S:=S.call hb hr;go_wp2_with fail;go_fit(Sx a _ _ S.rm.rd (S.rm.env he ha) ha);rintro e v ⟨y,rfl,hI,hr,hb⟩;replace hI:=IsE.mono S.new _ _ hI;replace S:=S.call hb hr;obtain⟨op,⟨xk,xn,xs⟩,s4,nm,n,ao,k,cc,rfl⟩:=hI.shape;have hL:=Akr.2 (Abq hI S.le);replace S:=S.alloc (aD (Af op ⟨xk,xn,xs⟩ s4 nm n (C ao k cc)) 48);go_wp2_with(refine S.sto 17 _ fun X S=>?_);go_fit(C7 a Zu _ 0 _ S.rm.rd (by decide));rintro e v ⟨rfl,hr,hb⟩;replace S:=S.call hb hr;go_wp2_with(refine S.sto 18 _ fun X S=>?_);go_meet;rw[←e4,Uw,h1];grind
 clear S;go_wp2_with fail;go_fit(C7 a Ry _ 0 _ hcut.rm.rd (by decide));rintro e v ⟨rfl,hr,hb⟩;have S:=hcut.call hb hr;clear hr hb hcut;go_upto_if 37 with fail
 go_cut[]from 37 to 40 (fun wx=>RqSt a L w wx q5.2 {Aj 7 with out:=q1.1,frm:=q2.1,wher:=q3.1,order:=q4.1.1,down:=q4.1.2,n:=q5.1})
 case first=>
  cases h1:(Ag Ry _).1
  ·go_wp2_with fail;go_meet;rw[←e5,Ux,h1];exact S
  ·go_wp2_with fail;go_fit(Wr a _ 0 _ S.rm.rd (S.rm.env he ha));rintro e v ⟨rfl,hr,hb⟩;replace S:=S.call hb hr;go_wp2_with(refine S.sto 19 _ fun X S=>?_);go_meet;rw[←e5,Ux,h1];grind
 go_wp2_with(refine hcut.lds fun X c H=>?_);exact H.fin Bx Tryz.results53
theorem At3:Ia 48 Ie I7 Nh 0:=by
 intro a s w h he ha;generalize e1:Nh s=q;go_enter Tryz.func48,Tryz.ntmps48;go_wp2_with fail;have M:=Dr (T:=50) (z:=Bn) h;generalize w.alloc _=W at M⊢;go_fit(C7 a Ka _ 0 _ M.rd (by decide));rintro e v ⟨rfl,hr,hb⟩;replace M:=M.call hb hr;cases h1:(Ag Ka s).1
 ·go_wp2_with fail;go_fit(Fh a Xy _ 0 _ M.rd (by decide) _ rfl);rintro e v ⟨rfl,hr,hb⟩;replace M:=M.call hb hr;go_wp2_with fail;go_fit(Ae8 a _ _ M.rd (M.env he ha) ha);rintro e v2 ⟨c,rfl,hR,hr,hb⟩;go_wp2_with(refine(M.call hb hr).put Bx hR M.new fun X H=>?_);obtain rfl:Uv _=q:=by rw[←e1,Nh,h1];rfl
  exact H.fin Bx Tryz.results48
 ·go_wp2_with fail;go_fit(Ae9 a _ _ M.rd (M.env he ha) ha);rintro e v2 ⟨c,rfl,hR,hr,hb⟩;go_wp2_with(refine(M.call hb hr).put Bx hR M.new fun X H=>?_);obtain rfl:Uu _=q:=by rw[←e1,Nh,h1];rfl
  exact H.fin Bx Tryz.results48
theorem Ap3:Ia 33 Ie I7 C5 0:=by
 intro a s w h he ha;generalize e1:C5 s=q;go_enter Tryz.func33,Tryz.ntmps33;go_wp2_with fail;have M:=Dr (T:=50) (z:=Bn) h;generalize w.alloc _=W at M⊢;go_fit(C7 a Jj _ 0 _ M.rd (by decide));rintro e v ⟨rfl,hr,hb⟩;replace M:=M.call hb hr;cases h1:(Ag Jj s).1;rotate_left
 ·go_wp2_with fail;go_fit(At3 a _ _ M.rd (M.env he ha) ha);rintro e v2 ⟨c,rfl,hR,hr,hb⟩;go_wp2_with(refine(M.call hb hr).put Bx hR M.new fun X H=>?_);obtain rfl:Nh (Ag Jj s).2=q:=by simp[←e1,C5,h1]
  exact H.fin Bx bJ
 rw[Bp h1]at M;go_wp2_with fail;go_fit(C7 a S6 _ 0 _ M.rd (by decide));rintro e v ⟨rfl,hr,hb⟩;replace M:=M.call hb hr;cases h2:(Ag S6 s).1;rotate_left
 ·go_wp2_with fail;go_fit(Axr a _ _ M.rd (M.env he ha) ha);rintro e v2 ⟨c,rfl,hR,hr,hb⟩;go_wp2_with(refine(M.call hb hr).put Bx hR M.new fun X H=>?_);obtain rfl:Z2 (Ag S6 s).2=q:=by simp[←e1,C5,h1,h2]
  exact H.fin Bx bJ
 rw[Bp h2]at M;go_wp2_with fail;go_fit(C7 a M9 _ 0 _ M.rd (by decide));rintro e v ⟨rfl,hr,hb⟩;replace M:=M.call hb hr;cases h3:(Ag M9 s).1;rotate_left
 ·go_wp2_with fail;go_fit(Ap1 a _ _ M.rd (M.env he ha) ha);rintro e v2 ⟨c,rfl,hR,hr,hb⟩;go_wp2_with(refine(M.call hb hr).put Bx hR M.new fun X H=>?_);obtain rfl:Rm (Ag M9 s).2=q:=by simp[←e1,C5,h1,h2,h3]
  exact H.fin Bx bJ
 rw[Bp h3]at M;go_wp2_with fail;go_fit(C7 a M8 _ 0 _ M.rd (by decide));rintro e v ⟨rfl,hr,hb⟩;replace M:=M.call hb hr;cases h4:(Ag M8 s).1;rotate_left
 ·go_wp2_with fail;go_fit(Ap2 a _ _ M.rd (M.env he ha) ha);rintro e v2 ⟨c,rfl,hR,hr,hb⟩;go_wp2_with(refine(M.call hb hr).put Bx hR M.new fun X H=>?_);obtain rfl:Rn (Ag M8 s).2=q:=by simp[←e1,C5,h1,h2,h3,h4]
  exact H.fin Bx bJ
 rw[Bp h4]at M;go_wp2_with fail;go_fit(C7 a Nb _ 0 _ M.rd (by decide));rintro e v ⟨rfl,hr,hb⟩;replace M:=M.call hb hr;cases h5:(Ag Nb s).1;rotate_left
 ·go_wp2_with fail;go_fit(At2 a _ _ M.rd (M.env he ha) ha);rintro e v2 ⟨c,rfl,hR,hr,hb⟩;go_wp2_with(refine(M.call hb hr).put Bx hR M.new fun X H=>?_);obtain rfl:Rp (Ag Nb s).2=q:=by simp[←e1,C5,h1,h2,h3,h4,h5]
  exact H.fin Bx bJ
 rw[Bp h5]at M;go_wp2_with fail;go_fit(C7 a Na _ 0 _ M.rd (by decide));rintro e v ⟨rfl,hr,hb⟩;replace M:=M.call hb hr;cases h6:(Ag Na s).1;rotate_left
 ·go_wp2_with fail;go_fit(Axs a _ _ M.rd (M.env he ha) ha);rintro e v2 ⟨c,rfl,hR,hr,hb⟩;go_wp2_with(refine(M.call hb hr).put Bx hR M.new fun X H=>?_);obtain rfl:Uy (Ag Na s).2=q:=by simp[←e1,C5,h1,h2,h3,h4,h5,h6]
  exact H.fin Bx bJ
 rw[Bp h6]at M;go_wp2_with fail;go_fit(Wo a s 0 _ M.rd);rintro e v ⟨rfl,hr,hb⟩;go_wp2_with(refine(M.call hb hr).put Bx (F:=fun _=>False) (c:=Bn.toList) (N0 (IsL.nil _ _ _) (IsL.nil _ _ _) (IsL.nil _ _ _) (IsL.nil _ _ _) (IsL.nil _ _ _) (Zr _ _) (IsL.nil _ _ _)) nofun fun X H=>?_);obtain rfl:(Stm.nil,J)=q:=by simp[←e1,C5,h1,h2,h3,h4,h5,h6]
 exact H.fin Bx bJ
end
end Go.Proofs.YtocegbpmmiabmaaGreatDoor

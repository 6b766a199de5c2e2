/-
  14 texts of this proof in one,in build order:GClones,GCat,GTree,UFlat,UCat,USame,ULive0,ULive,UPlay,URefused,URefFacts,OpenVals,Bulk,OpenL.
-/
import Derived.ProofKit
import Derived.JoinedCond
import Derived.Test.YtjapkoofjlmdgaaGreatDoorRows
import Derived.Deep.Slices
import Derived.Deep.SlicePairs
import Derived.Deep.Strs
import Derived.SizedLaws
import Derived.ChangeSame
import Derived.Test.YtjapkoofjlmdgaaGreatDoorJ01
import Derived.Test.YtjapkoofjlmdgaaGreatDoorJ02
import Derived.Test.YtjapkoofjlmdgaaGreatDoorJ03
import Derived.Test.YtjapkoofjlmdgaaGreatDoorJ06
import Derived.Test.YtjapkoofjlmdgaaGreatDoorJ14
set_option linter.unusedSimpArgs false
set_option linter.unusedVariables false
set_option maxRecDepth 100000
set_option maxHeartbeats 0
open Go.Value renaming agg→bU,bool→cA,int→Z,oneCell'→aY,ownBlock→aQ,pointer→bF,slice→J,string→aB
open Option renaming none→X,some→O
open List renaming append_assoc→cI,append_nil→cM,drop_length→cK,eq_nil_of_length_eq_zero→aE,flatMap_append→bJ,forall_mem_cons→cD,getElem?_append_right→aS,getElem?_eq_getElem→aA,getElem?_eq_some_iff→aH,length_append→aM,length_cons→aV,length_take→bS,map_append→cL,mem_cons→bZ,mem_cons_self→cE,mem_of_getElem?→aI,not_mem_nil→cJ,range→aR,range_succ→bG,set_append_right→bH,take_add_one→bE,take_length→bO
open Go.Obj renaming cells→Y
open Go.Proofs.Tryz renaming prog→aC,underlying42→cG,underlying54→bD,underlying64→cF
open Go renaming Calls→aX,Value→aK,World→aW,below_drewN→bY,info_parts→cB,lt_of_block→aD,wpList_append_own_at→aT
open Nat renaming le_refl→aL,le_trans→aN,lt_of_lt_of_le→aU,lt_or_eq_of_le→cH,sub_self→cC,zero_le→aF
open Go.Ending renaming returned→aG
open Go.RowKit.Below renaming refl→aJ
open Go.IntKind renaming i64→aO
open Bool renaming false→bL,true→aP
open Go.Proofs renaming intOf→aZ
open Go.World renaming frozen?→bW,ownsRow_made→bK,ownsRow_nil→bC
open Go.Lib renaming run_eql_slice_nil→bI
open List.cons renaming injEq→bM
open Go.Addr renaming add→bV,add_lit→bN
namespace Go.Proofs.YtjapkoofjlmdgaaGreatDoor
section
open Go.RowKit
theorem Az2:(Tryz.prog.info? 76).map (fun i=>(i.zero,i.size,i.bytes))=O (O (bU #[aB ⟨#[]⟩,Z aO 0,cA bL]),3,32):=by kernel_rfl
theorem Am1 (cs)(n)(sv)(F)(w)(h:Bp F 3 w sv n cs)(h1:∀u∈cs,u.oneCell'=aP)(hn:n*32≤140737488355328):
  aX aC 21 #[sv] w fun e w'=>∃v,e=aG v∧w'.ownsRow w.heap.size 76 3 v n cs∧Below w.heap.size w w':=by
 obtain⟨i0,aa,ac,ae,af⟩:=cB Az2;have ap:∀(w) (a) (n c n' c'),(binOp _ 64 (J a n c) _).run _ w=.ok _ w:=fun w a n c n' c'=>bI w _ _ a n c n' c' cF
 have ag:=h.1;have fin:∀ao c,sv=J ao n c→(ao=X→n=0)→(∀ad,ao=O ad→∀j u,cs[j]?=O u→w.cell? (ad.add j)=O u∧ad.block<w.heap.size)→(ao=X→c=0)→
   aX aC 21 #[sv] w fun e w'=>∃v,e=aG v∧w'.ownsRow w.heap.size 76 3 v n cs∧Below w.heap.size w w':=by
  intro ao c he h0 hc ah;subst he;cases ao with
  |none=>
   obtain rfl:=h0 rfl;obtain rfl:=ah rfl;have:=aE (by omega);subst this;go_enter Tryz.func21,Tryz.ntmps21;go_wp2;go_ret;exact⟨_,rfl,bC _ _ _ _,aJ _ _⟩
  |some ad=>
   have ai:(w.alloc _).ownsRow _ 76 3 _ 0 []:=bK w #[] 0 (aL _) (aF _) (by simp);have HC:Hid (∀j u,cs[j]?=O u→(w.alloc (Y #[] 76)).cell? (ad.add j)=O u):=fun j u hj=>by
    obtain⟨aj,aq⟩:=hc ad rfl j u hj;obtain⟨ab,ao,ak⟩:=ad;exact((Aq w _).cell (by unfold bV;grind)).trans aj
   have HB:Hid _:=hn;clear hn hc;obtain⟨ab,ao,ak⟩:=ad;go_enter Tryz.func21,Tryz.ntmps21;go_wp2_with(at_builtin;refine aT _ rfl _ _ 64 rfl _ 76 i0 _ 3 32 cF aa ac ae af rfl (by simp) _ _ _ rfl ai _ n c cs rfl ag HC.out h1 (by have:=HB.out;simp only[maxLen];omega) (by have:=HB.out;omega) (by simp) ?_);intro v' w1 al am _ _;go_wp2;go_ret;exact⟨v',rfl,al,((aJ _ w).alloc (aL _) _).grown am (by simp) (by intro k hk;simp[aQ]at hk;omega)⟩
 rcases h.2 with⟨h0,ao,c,he,hnil⟩|⟨h0,b,off,cap,he,_,hb,_,_,hc⟩
 ·subst h0;have an:=aE (by omega);subst an;exact fin ao c he (fun _=>rfl) (fun ad _ j u hj=>by grind) hnil
 ·exact fin _ cap he (fun h=>by grind) (fun ad h j u hj=>by cases h;rw[bN];grind) (fun h=>by grind)
theorem Az3:(Tryz.prog.info? 83).map (fun i=>(i.zero,i.size,i.bytes))=O (O (bU #[J X 0 0,J X 0 0]),2,48):=by kernel_rfl
theorem Am2 (cs)(n)(sv)(F)(w)(h:Bp F 2 w sv n cs)(h1:∀u∈cs,u.oneCell'=aP)(hn:n*48≤140737488355328):
  aX aC 23 #[sv] w fun e w'=>∃v,e=aG v∧w'.ownsRow w.heap.size 83 2 v n cs∧Below w.heap.size w w':=by
 obtain⟨i0,aa,ac,ae,af⟩:=cB Az3;have ap:∀(w) (a) (n c n' c'),(binOp _ 42 (J a n c) _).run _ w=.ok _ w:=fun w a n c n' c'=>bI w _ _ a n c n' c' cG
 have ag:=h.1;have fin:∀ao c,sv=J ao n c→(ao=X→n=0)→(∀ad,ao=O ad→∀j u,cs[j]?=O u→w.cell? (ad.add j)=O u∧ad.block<w.heap.size)→(ao=X→c=0)→
   aX aC 23 #[sv] w fun e w'=>∃v,e=aG v∧w'.ownsRow w.heap.size 83 2 v n cs∧Below w.heap.size w w':=by
  intro ao c he h0 hc ah;subst he;cases ao with
  |none=>
   obtain rfl:=h0 rfl;obtain rfl:=ah rfl;have:=aE (by omega);subst this;go_enter Tryz.func23,Tryz.ntmps23;go_wp2;go_ret;exact⟨_,rfl,bC _ _ _ _,aJ _ _⟩
  |some ad=>
   have ai:(w.alloc _).ownsRow _ 83 2 _ 0 []:=bK w #[] 0 (aL _) (aF _) (by simp);have HC:Hid (∀j u,cs[j]?=O u→(w.alloc (Y #[] 83)).cell? (ad.add j)=O u):=fun j u hj=>by
    obtain⟨aj,aq⟩:=hc ad rfl j u hj;obtain⟨ab,ao,ak⟩:=ad;exact((Aq w _).cell (by unfold bV;grind)).trans aj
   have HB:Hid _:=hn;clear hn hc;obtain⟨ab,ao,ak⟩:=ad;go_enter Tryz.func23,Tryz.ntmps23;go_wp2_with(at_builtin;refine aT _ rfl _ _ 42 rfl _ 83 i0 _ 2 48 cG aa ac ae af rfl (by simp) _ _ _ rfl ai _ n c cs rfl ag HC.out h1 (by have:=HB.out;simp only[maxLen];omega) (by have:=HB.out;omega) (by simp) ?_);intro v' w1 al am _ _;go_wp2;go_ret;exact⟨v',rfl,al,((aJ _ w).alloc (aL _) _).grown am (by simp) (by intro k hk;simp[aQ]at hk;omega)⟩
 rcases h.2 with⟨h0,ao,c,he,hnil⟩|⟨h0,b,off,cap,he,_,hb,_,_,hc⟩
 ·subst h0;have an:=aE (by omega);subst an;exact fin ao c he (fun _=>rfl) (fun ad _ j u hj=>by grind) hnil
 ·exact fin _ cap he (fun h=>by grind) (fun ad h j u hj=>by cases h;rw[bN];grind) (fun h=>by grind)
theorem Az4:(Tryz.prog.info? 9).map (fun i=>(i.zero,i.size,i.bytes))=O (O (aB ⟨#[]⟩),1,16):=by kernel_rfl
theorem Ze (cs)(n)(sv)(F)(w)(h:Bp F 1 w sv n cs)(h1:∀u∈cs,u.oneCell'=aP)(hn:n*16≤140737488355328):
  aX aC 24 #[sv] w fun e w'=>∃v,e=aG v∧w'.ownsRow w.heap.size 9 1 v n cs∧Below w.heap.size w w':=by
 obtain⟨i0,aa,ac,ae,af⟩:=cB Az4;have ap:∀(w) (a) (n c n' c'),(binOp _ 54 (J a n c) _).run _ w=.ok _ w:=fun w a n c n' c'=>bI w _ _ a n c n' c' bD
 have ag:=h.1;have fin:∀ao c,sv=J ao n c→(ao=X→n=0)→(∀ad,ao=O ad→∀j u,cs[j]?=O u→w.cell? (ad.add j)=O u∧ad.block<w.heap.size)→(ao=X→c=0)→
   aX aC 24 #[sv] w fun e w'=>∃v,e=aG v∧w'.ownsRow w.heap.size 9 1 v n cs∧Below w.heap.size w w':=by
  intro ao c he h0 hc ah;subst he;cases ao with
  |none=>
   obtain rfl:=h0 rfl;obtain rfl:=ah rfl;have:=aE (by omega);subst this;go_enter Tryz.func24,Tryz.ntmps24;go_wp2;go_ret;exact⟨_,rfl,bC _ _ _ _,aJ _ _⟩
  |some ad=>
   have ai:(w.alloc _).ownsRow _ 9 1 _ 0 []:=bK w #[] 0 (aL _) (aF _) (by simp);have HC:Hid (∀j u,cs[j]?=O u→(w.alloc (Y #[] 9)).cell? (ad.add j)=O u):=fun j u hj=>by
    obtain⟨aj,aq⟩:=hc ad rfl j u hj;obtain⟨ab,ao,ak⟩:=ad;exact((Aq w _).cell (by unfold bV;grind)).trans aj
   have HB:Hid _:=hn;clear hn hc;obtain⟨ab,ao,ak⟩:=ad;go_enter Tryz.func24,Tryz.ntmps24;go_wp2_with(at_builtin;refine aT _ rfl _ _ 54 rfl _ 9 i0 _ 1 16 bD aa ac ae af rfl (by simp) _ _ _ rfl ai _ n c cs rfl ag HC.out h1 (by have:=HB.out;simp only[maxLen];omega) (by have:=HB.out;omega) (by simp) ?_);intro v' w1 al am _ _;go_wp2;go_ret;exact⟨v',rfl,al,((aJ _ w).alloc (aL _) _).grown am (by simp) (by intro k hk;simp[aQ]at hk;omega)⟩
 rcases h.2 with⟨h0,ao,c,he,hnil⟩|⟨h0,b,off,cap,he,_,hb,_,_,hc⟩
 ·subst h0;have an:=aE (by omega);subst an;exact fin ao c he (fun _=>rfl) (fun ad _ j u hj=>by grind) hnil
 ·exact fin _ cap he (fun h=>by grind) (fun ad h j u hj=>by cases h;rw[bN];grind) (fun h=>by grind)
theorem Wq {α}{K}{F}{w}(hK:∀a c,K.R F w a c→∀u∈c,u.oneCell'=aP):∀{l:List α}{cs:List aK},All K F w l cs→∀u∈cs,u.oneCell'=aP
 |[],cs,h,u,hu=>by obtain rfl:=h;grind
 |a::l,cs,h,u,hu=>by
  obtain⟨c,rest,rfl,h2,h3⟩:=h;rcases List.mem_append.1 hu with hu|hu
  ·grind
  ·exact Wq hK h3 u hu
theorem Az5 {F}{w}(a)(c)(h:Cp.R F w a c):∀u∈c,u.oneCell'=aP:=by
 obtain rfl:=h;simp[aY]
theorem Az6 {F}{w}(a)(c)(h:D6.R F w a c):∀u∈c,u.oneCell'=aP:=by
 obtain rfl:=h;simp[aY]
theorem Az7 {F}{w}(a)(c)(h:Ci.R F w a c):∀u∈c,u.oneCell'=aP:=by
 obtain⟨sv,rfl,h2⟩:=h;obtain⟨ao,cp,rfl⟩:=h2.shape;simp[aY]
theorem Aci {α}{K}{F G}{w w'}:∀{l:List α}{cs:List aK},(∀a∈l,∀c,K.R F w a c→K.R G w' a c)→All K F w l cs→All K G w' l cs
 |[],_,_,h=>h
 |a::l,cs,hf,h=>by
  obtain⟨c,rest,h1,h2,h3⟩:=h;exact⟨c,rest,h1,hf a (by simp) c h2,Aci (fun b hb=>hf b (by grind)) h3⟩
theorem A2a (a b)(n m n' m'):(#[J a n n',J b m m']:Array aK).all (·.oneCell')=aP:=by simp[aY]
theorem Am3:(Tryz.prog.info? 41).map (·.size)=O 2:=by kernel_rfl
theorem Zf {w:aW}{B g n cap size}{t}{cs}(h:w.ownsRow B t size (J (O ⟨g,0,X⟩) n cap) n cs)(j)(v):(w.setCell ⟨g,j,X⟩ v).ownsRow B t size (J (O ⟨g,0,X⟩) n cap) n (cs.set j v):=by
 obtain⟨h1,h2⟩:=h;refine⟨by grind,?_⟩;rcases h2 with⟨h2,_⟩|⟨g',cap',cur,he,hg,hh,hn,hm,hs,ht⟩
 ·grind
 ·cases he;refine .inr ⟨g,cap,_,rfl,hg,Dh hh j v,hn,hm,by grind,?_⟩;rw[←ht,Array.toList_setIfInBounds,List.take_set]
def U0 (B:Nat)(z:aK)(L:List TabD)(k:Nat)(w:aW):Prop:=∃cs1 cs2,w.ownsRow B 74 2 z L.length (cs1++cs2)∧All Ci (FO B z) w (L.take k) cs1∧All Ci (fun j=>O j≠z.ownBlock) w (L.drop k) cs2
theorem U0.below {B}{z}{L}{k}{w w'}(h:U0 B z L k w)(hb:Below w.heap.size w w'):U0 B z L k w':=by
 obtain⟨aa,ab,h1,h2,h3⟩:=h;exact⟨aa,ab,Aj h1 hb,h2.keep (Ak hb),h3.keep (Ak hb)⟩
theorem Aqm {α}{K}{F}{w}:∀{l:List α}{cs:List aK},All K F w l cs→cs.length=l.length*K.size
 |[],cs,h=>by obtain rfl:=h;simp
 |a::l,cs,h=>by
  obtain⟨c,rest,rfl,h2,h3⟩:=h;rw[aM,K.len h2,Aqm h3,aV,Nat.succ_mul,Nat.add_comm]
theorem U0.get {B}{z}{L}{k}{w}(h:U0 B z L k w){t}(ht:L[k]?=O t):∃g cap sv,z=J (O ⟨g,0,X⟩) L.length cap∧B≤g∧g<w.heap.size∧(∃ab,w.heap[g]?=O (Y ab 74)∧k*2+1<ab.size)∧w.cell? ⟨g,k*2,X⟩=O (aB t.name)∧w.cell? ⟨g,k*2+1,X⟩=O sv∧IsL Cp (fun j=>O j≠z.ownBlock) w sv t.cols∧
  ∀(w':aW) (v:aK),Below w.heap.size w w'→IsL Cp (FO B z) w' v t.cols→U0 B z L (k+1) (w'.setCell ⟨g,k*2+1,X⟩ v):=by
 obtain⟨aa,ag,h1,h2,h3⟩:=h;have hk:=(aH.1 ht).1;have ac:aa.length=k*2:=by rw[Aqm h2,bS,Nat.min_eq_left (Nat.le_of_lt hk)];rfl
 rw[Sj ht]at h3;obtain⟨c,rest,rfl,⟨sv,rfl,h4⟩,h5⟩:=h3;rcases h1.2 with⟨_,h0⟩|⟨g,cap,ab,rfl,hg,hh,hn,hm,hs,htk⟩
 ·omega
 have ae:∀j u,(aa++([aB t.name,sv]++rest))[j]?=O u→w.cell? ⟨g,j,X⟩=O u:=fun j u hj=>by
  refine Aa hh ?_;grind
 have e0:(aa++([aB t.name,sv]++rest))[k*2]?=O (aB t.name):=by rw[aS (by omega),ac,cC];rfl
 have e1:(aa++([aB t.name,sv]++rest))[k*2+1]?=O sv:=by rw[aS (by omega),ac,show k*2+1-k*2=1 by omega];rfl
 refine⟨g,cap,sv,rfl,hg,aD hh,⟨ab,hh,by omega⟩,ae _ _ e0,ae _ _ e1,h4,fun w' v hb hv=>?_⟩;have af:(aa++([Value.string t.name,sv]++rest)).set (k*2+1) v=(aa++[aB t.name,v])++rest:=by
  rw[bH _ _ (by omega),ac,show k*2+1-k*2=1 by omega];simp
 have ad:∀{F},(∀j,F j→O j≠(Value.slice (O ⟨g,0,X⟩) L.length cap).ownBlock)→Keeps F w' (w'.setCell ⟨g,k*2+1,X⟩ v):=fun hF=>(Keeps.refl _ _).set (fun h=>hF _ h (by rfl)) _ _
 refine⟨aa++[aB t.name,v],rest,?_,?_,?_⟩
 ·have:=Zf (Aj h1 hb) (k*2+1) v;rw[af]at this;exact this
 ·rw[bE,ht];exact All.append ((h2.keep (Ak hb)).keep (ad fun j h=>h.2)) ⟨_,[],rfl,⟨v,rfl,hv.keep (ad fun j h=>h.2)⟩,rfl⟩
 ·exact(h5.keep (Ak hb)).keep (ad fun j h=>h)
theorem Aqn (w):aX aC 9 #[] w fun e w'=>e=aG (bF (O ⟨w.heap.size,0,X⟩))∧w'=w.alloc (Y #[J X 0 0,J X 0 0,J X 0 0,Z aO 0] 46):=by
 go_enter Tryz.func9,Tryz.ntmps9;go_wp2;go_ret;simp
theorem Aqo {E}{w}(hE:Cl E w):Cl (w.heap.size::E) (w.alloc (Y #[J X 0 0,J X 0 0,J X 0 0,Z aO 0] 46))∧Fl (w.heap.size::E) (w.alloc (Y #[J X 0 0,J X 0 0,J X 0 0,Z aO 0] 46)) w.heap.size F6 0 aP:=by
 have hk:∀k,k<w.heap.size→k∉E→k∉w.heap.size::E:=fun k h1 h2 h3=>by grind
 have new:EngC (w.heap.size::E) _ _ F6.c [] 0 _ _ _:=⟨Ab w _,IsL.nil _ _ _,IsL.nil _ _ _,Kd.nil _ _,by simp,by simp[Cf]⟩;refine⟨fun m hm=>?_,[],X,0,X,0,X,0,new,Avc,fun _=>aF _⟩;rcases bZ.1 hm with rfl|hm
 ·exact⟨_,_,_,_,_,_,new,Al1.cat⟩
 ·obtain⟨c',T',a',aa,ab,ac,h1,h2⟩:=hE m hm;exact⟨c',T',a',aa,ab,ac,(h1.mono hk).below (Aq w (Y #[J X 0 0,J X 0 0,J X 0 0,Z aO 0] 46)),h2⟩
theorem Abb {E}{n:Nat}{c:CatD}{T:List Pg}{a:Int}{bl io po:Option Addr}{tc ic pc:Nat}{w:aW}(he:EngC E w n c T a (J bl c.tables.length tc) (J io c.indexes.length ic) (J po T.length pc))(ag:Ds c=aP):
  aX aC 13 #[bF (O ⟨n,0,X⟩)] w fun e w'=>∃tv iv,e=aG (bU #[tv,iv])∧IsL Ci (Fr w.heap.size) w' tv c.tables∧IsL D6 (Fr w.heap.size) w' iv c.indexes∧Below w.heap.size w w':=by
 have h3:c.tables.length≤3:=((Cv c).1 ag).1;have h4:c.indexes.length≤4:=((Cv c).1 ag).2.1;have bm:Hid (∀t∈c.tables,t.cols.length≤4):=fun t ht=>(He ag ht).2
 obtain⟨ac,bR,bn⟩:=al1 w (Y #[J X 0 0,J X 0 0] 41);have ab:=he.below ac;have ck:n<w.heap.size:=he.lt;generalize hW:w.alloc (Y #[J X 0 0,J X 0 0] 41)=W1 at ac bR ab bn;have HW:Hid _:=hW;have v0:=Aa ab.blk (j:=0) rfl;have v1:=Aa ab.blk (j:=1) rfl;obtain⟨ai,ar,aj⟩:=ab.tabs;obtain⟨ak,ah,ad⟩:=ab.idxs;have au:=R7 ai c.tables.length _ _ W1 ar (Wq Az7 aj) (by omega);have av:Hid _:=aj;have bo:Hid _:=ab.idxs;clear hW he aj ar ah ad ab ag;go_enter Tryz.func13,Tryz.ntmps13;go_upto_region 1 with fail;rw[HW.out];go_upto_region 4 with(go_fit au;rintro e w2 ⟨z,rfl,ae,aw⟩);obtain⟨zo,zc,rfl⟩:=Eu.shape (Eu.of_own ae);have ax:U0 W1.heap.size (J zo c.tables.length zc) c.tables 0 w2:=by
  refine⟨[],ai,ae,rfl,?_⟩;have h5:All Ci (fun k=>k<W1.heap.size) W1 c.tables ai:=All.mono (fun k hk _=>hk) av.out;refine(h5.keep (Ae aw)).mono fun k _ hk e=>?_
  have:=(ae.lt k e.symm).1;omega
 have bp:Hid _:=ax;have ay:=ae.lt;have cl:Hid _:=ay;clear ax ae au av ay;go_wp2_with fail
 go_loopw[17] (fun i wr=>∃k:Nat,k≤c.tables.length∧i=Z aO k∧Hid (U0 W1.heap.size (J zo c.tables.length zc) c.tables k wr)∧Below W1.heap.size W1 wr) (fun i _=>c.tables.length-(aZ i).toNat)
 case atStart=>exact⟨0,aF _,rfl,bp,aw⟩
 case round=>
  obtain⟨k,hk,rfl,az,aa⟩:=hrel
  by_cases bq:k<c.tables.length
  ·obtain⟨t,hx⟩:∃x,c.tables[k]?=O x:=⟨_,aA bq⟩;obtain⟨g,cap,sv,hz,bt,al,⟨cm,bu,cn⟩,d0,d1,am,ba⟩:=az.out.get hx;cases hz;obtain⟨y1,z1,rfl⟩:=am.shape;obtain⟨af,bX,-⟩:=al1 wr (Y #[aB t.name,J y1 t.cols.length z1] 74);obtain⟨bb,bc,an⟩:=am.keep (Ak af);have bv:=Am1 bb _ _ _ _ bc (Wq Az5 an) (by have:=bm.out t (aI hx);omega);have bw:Hid _:=an;have bx:Hid _:=ba;have b1:=Aa bX (j:=1) rfl;have bz:=(af.block g al).trans bu;have co:=aa.size;have v5:(0:Int)≤k:=by omega
   have v6:k<(c.tables.length:Int):=by omega
   clear bc an am ba hx;go_wp2_with(go_fit bv;rintro e w3 ⟨v3,rfl,bd,ap⟩;obtain⟨vo,vc,rfl⟩:=Eu.shape (Eu.of_own bd);have y9:=((Ac af ap).cell al).trans d1;have z9:w3.frozen? ⟨g,k*2+1,X⟩=bL:=(by simp[bW,(ap.block g (aU al af.size)).trans bz]));have be:=Ac af ap;have ca:IsL Cp (FO W1.heap.size (J (O ⟨g,0,X⟩) c.tables.length zc)) w3 (J vo t.cols.length vc) t.cols:=by
    refine⟨bb,Bp.of_own bd fun q hq=>⟨?_,fun e=>?_⟩,Aci (fun a _ c h=>(show c=_ from h)) bw.out⟩
    ·grind
    ·have h1:=by simpa[aQ]using e
     grind
   have cb:=bx.out w3 _ be ca;go_roundw
   case rel=>exact⟨_,by omega,by rfl,cb,(aa.trans (be.mono aa.size)).setCell (show W1.heap.size≤g from bt) _⟩
   case measure=>simp[aZ];omega
  ·have cc:k=c.tables.length:=by omega
   subst cc;have v5:¬(c.tables.length<(c.tables.length:Int)):=by omega
   have bf:IsL Ci (Fr W1.heap.size) wr (J zo c.tables.length zc) c.tables:=by
    obtain⟨cd,ce,h1,h2,h5⟩:=az.out;rw[bO]at h2;rw[cK]at h5;obtain rfl:ce=[]:=h5;rw[cM]at h1;exact⟨cd,Bp.of_own h1 fun _ h=>h,h2.mono fun k _ h=>h.1⟩
   obtain⟨ak,ah,ad⟩:=IsL.keep bo.out (Ak aa);have cf:=R8 ak _ _ _ wr ah (Wq Az6 ad) (by omega);have u1:=(aa.cell (show n<W1.heap.size by omega)).trans v1;have bg:=(aa.block _ (aD bR)).trans bR;have cg:Hid _:=ad;have ch:Hid _:=bf;clear ah ad bf;go_wp2_with(first
    |(go_fit cf;rintro e w7 ⟨v7,rfl,bh,aq⟩;obtain⟨xo,xc,rfl⟩:=Eu.shape (Eu.of_own bh);have bi:=(aq.block _ (aD bg)).trans bg)
    |(refine wpList_store_row rfl 41 _ _ rfl w.heap.size #[J zo c.tables.length zc,J xo c.indexes.length xc] ?_ ?_ 41 #[J X 0 0,J X 0 0] ?_ ?_ ?_ ?_ ?_;exact rfl;exact rfl;exact bi;exact Am3;exact rfl;exact A2a _ _ _ _ _ _))
   refine bodyPost_ret (v:=bU #[J zo c.tables.length zc,J xo c.indexes.length xc]) (results_cell_row Tryz.results13 _ _ w.heap.size 41 #[J zo c.tables.length zc,J xo c.indexes.length xc] _ _ rfl (Ao bi) Tryz.underlying41 rfl Am3) rfl ?_;have bj:Keeps (Fr W1.heap.size) w7 (w7.setRow w.heap.size #[J zo c.tables.length zc,J xo c.indexes.length xc]):=(Keeps.refl _ _).row (fun h=>by omega) _;have cj:IsL D6 (Fr _) w7 _ _:=⟨ak,Bp.of_own bh fun _ h=>aN aa.size h,Aci (fun a _ c h=>(show c=_ from h)) cg.out⟩;have bk:∀k,k<(w7.setRow w.heap.size #[J zo c.tables.length zc,J xo c.indexes.length xc]).heap.size→Fr _ k→Fr _ k:=fun k _ h=>aN ac.size h
   refine⟨_,_,rfl,((IsL.keep ch.out (Ak aq)).keep bj).mono bk,(cj.keep bj).mono bk,Below.row (ac.trans ((aa.trans (aq.mono aa.size)).mono ac.size)) (aL _) _⟩
theorem Ail {w:aW}{g x o o'}(h:x≠g)(u v)(j):((w.setCell ⟨g,o,X⟩ u).setCell ⟨g,o',X⟩ v).cell? ⟨x,j,X⟩=w.cell? ⟨x,j,X⟩:=by
 simp[World.cell?,World.setCell,Array.getElem?_modify,Ne.symm h]
def Ae3 (B:Nat)(z:aK)(T:List Pg)(k:Nat)(w:aW):Prop:=∃rs1 rs2:List (aK×aK),w.ownsRow B 83 2 z T.length (A3 (rs1++rs2))∧Kr (FO B z) w rs1 (T.take k)∧Kr (fun j=>O j≠z.ownBlock) w rs2 (T.drop k)
theorem Am4 {F}{w}:∀{rs:List (aK×aK)}{T:List Pg},Kr F w rs T→rs.length=T.length
 |[],[],_=>rfl
 |[],_::_,h=>h.elim
 |_::_,[],h=>h.elim
 |_::_,_::_,h=>by rw[aV,aV,Am4 h.2.2]
theorem Abc {F}{w}:∀{rs qs:List (aK×aK)}{T U:List Pg},Kr F w rs T→Kr F w qs U→Kr F w (rs++qs) (T++U)
 |[],_,[],_,_,h=>h
 |[],_,_::_,_,h,_=>h.elim
 |_::_,_,[],_,h,_=>h.elim
 |_::_,_,_::_,_,h,h2=>⟨h.1,h.2.1,Abc h.2.2 h2⟩
theorem Wr (a b):A3 (a++b)=A3 a++A3 b:=by simp[A3]
theorem Ae3.get {B}{z}{T}{k}{w}(h:Ae3 B z T k w){p}(hp:T[k]?=O p):∃g cap kv vv,z=J (O ⟨g,0,X⟩) T.length cap∧B≤g∧g<w.heap.size∧(∃ae,w.heap[g]?=O (Y ae 83))∧w.cell? ⟨g,k*2,X⟩=O kv∧w.cell? ⟨g,k*2+1,X⟩=O vv∧Bp (fun j=>O j≠z.ownBlock) 1 w kv p.K.length (p.K.map aB)∧Bp (fun j=>O j≠z.ownBlock) 1 w vv p.V.length (p.V.map aB)∧
  ∀(w':aW) (u v:aK),Below w.heap.size w w'→Bp (FO B z) 1 w' u p.K.length (p.K.map aB)→Bp (FO B z) 1 w' v p.V.length (p.V.map aB)→Ae3 B z T (k+1) ((w'.setCell ⟨g,k*2,X⟩ u).setCell ⟨g,k*2+1,X⟩ v):=by
 obtain⟨aa,ab,h1,h2,h3⟩:=h;have hk:=(aH.1 hp).1;have ah:aa.length=k:=by rw[Am4 h2,bS,Nat.min_eq_left (Nat.le_of_lt hk)]
 rw[Sj hp]at h3;cases ab with
 |nil=>exact h3.elim
 |cons r ab=>
 obtain⟨kv,vv⟩:=r;obtain⟨h4,h5,h6⟩:=h3;rcases h1.2 with⟨_,h0⟩|⟨g,cap,ae,rfl,hg,hh,hn,hm,hs,htk⟩
 ·omega
 have ac:(A3 aa).length=k*2:=by rw[Mc,ah]
 have af:A3 (aa++(kv,vv)::ab)=A3 aa++([kv,vv]++A3 ab):=by rw[Wr];rfl
 have ag:∀j u,(A3 (aa++(kv,vv)::ab))[j]?=O u→w.cell? ⟨g,j,X⟩=O u:=fun j u hj=>by
  refine Aa hh ?_;grind
 have e0:(A3 (aa++(kv,vv)::ab))[k*2]?=O kv:=by rw[af,aS (by omega),ac,cC];rfl
 have e1:(A3 (aa++(kv,vv)::ab))[k*2+1]?=O vv:=by rw[af,aS (by omega),ac,show k*2+1-k*2=1 by omega];rfl
 refine⟨g,cap,kv,vv,rfl,hg,aD hh,⟨ae,hh⟩,ag _ _ e0,ag _ _ e1,h4,h5,fun w' u v hb hu hv=>?_⟩;have ai:((A3 (aa++(kv,vv)::ab)).set (k*2) u).set (k*2+1) v=A3 ((aa++[(u,v)])++ab):=by
  rw[af,bH _ _ (by omega),ac,cC,bH _ _ (by omega),ac,show k*2+1-k*2=1 by omega,Wr,Wr,cI];rfl
 have ad:∀{F},(∀j,F j→O j≠(Value.slice (O ⟨g,0,X⟩) T.length cap).ownBlock)→Keeps F w' ((w'.setCell ⟨g,k*2,X⟩ u).setCell ⟨g,k*2+1,X⟩ v):=fun hF=>((Keeps.refl _ _).set (fun h=>hF _ h (by rfl)) _ _).set (fun h=>hF _ h (by rfl)) _ _
 refine⟨aa++[(u,v)],ab,?_,?_,?_⟩
 ·have:=Zf (Zf (Aj h1 hb) (k*2) u) (k*2+1) v;rw[ai]at this;exact this
 ·rw[bE,hp];exact Abc ((h2.keep (Ak hb)).keep (ad fun j h=>h.2)) ⟨hu.keep (ad fun j h=>h.2),hv.keep (ad fun j h=>h.2),trivial⟩
 ·exact(h6.keep (Ak hb)).keep (ad fun j h=>h)
theorem Am5 (L:List Wd):∀u∈L.map Value.string,u.oneCell'=aP:=fun u hu=>by
 obtain⟨s,_,rfl⟩:=List.mem_map.1 hu;rfl
theorem Ae4 {F}{w}:∀{rs:List (aK×aK)}{T:List Pg},Kr F w rs T→∀u∈A3 rs,u.oneCell'=aP
 |[],[],_,u,hu=>by cases hu
 |[],_::_,h,_,_=>h.elim
 |_::_,[],h,_,_=>h.elim
 |r::rs,p::T,h,u,hu=>by
  obtain⟨a1,c1,e1⟩:=h.1.shape;obtain⟨a2,c2,e2⟩:=h.2.1.shape;have:A3 (r::rs)=r.1::r.2::A3 rs:=rfl;rw[this]at hu;rcases bZ.1 hu with rfl|hu
  ·rw[e1];rfl
  ·rcases bZ.1 hu with rfl|hu
   ·rw[e2];rfl
   ·exact Ae4 h.2.2 u hu
theorem A2b (a)(n n'):(#[J a n n']:Array aK).all (·.oneCell')=aP:=by simp[aY]
theorem Aim:(Tryz.prog.info? 44).map (·.size)=O 1:=by kernel_rfl
theorem Acj {E:List Nat}{n:Nat}{c:CatD}{T:List Pg}{a:Int}{bn io po:Option Addr}{tc ic pc:Nat}{w:aW}(he:EngC E w n c T a (J bn c.tables.length tc) (J io c.indexes.length ic) (J po T.length pc))(hT:T.length≤1000):
  aX aC 16 #[bF (O ⟨n,0,X⟩)] w fun e w'=>∃zo zc,e=aG (bU #[J zo T.length zc])∧Kd (Fr w.heap.size) w' (J zo T.length zc) T∧Below w.heap.size w w':=by
 have av:Hid (∀p∈T,p.ok):=he.good.1;obtain⟨ae,bR,bo⟩:=al1 w (Y #[J X 0 0] 44);have ai:=he.below ae;have cd:n<w.heap.size:=he.lt;generalize hW:w.alloc (Y #[J X 0 0] 44)=W1 at ae bR ai bo;have HW:Hid _:=hW;have v2:=Aa ai.blk (j:=2) rfl;obtain⟨ak,aw,al⟩:=ai.pages;have ax:=Am2 (A3 ak) T.length _ _ W1 aw (Ae4 al) (by omega);have ay:Hid _:=al;clear hW he aw al ai;go_enter Tryz.func16,Tryz.ntmps16;go_upto_region 1 with fail;rw[HW.out];go_upto_region 4 with(go_fit ax;rintro e w2 ⟨z,rfl,aj,az⟩);obtain⟨zo,zc,rfl⟩:=Eu.shape (Eu.of_own aj);have ba:Ae3 W1.heap.size (J zo T.length zc) T 0 w2:=by
  refine⟨[],ak,aj,trivial,?_⟩;have h5:Kr (fun k=>k<W1.heap.size) W1 ak T:=Kr.mono (fun k hk _=>hk) ay.out;refine(h5.keep (Ae az)).mono fun k _ hk e=>?_
  have:=(aj.lt k e.symm).1;omega
 have bp:Hid _:=ba;clear ba aj ax ay;go_wp2_with fail
 go_loopw[17] (fun i wr=>∃k:Nat,k≤T.length∧i=Z aO k∧Hid (Ae3 W1.heap.size (J zo T.length zc) T k wr)∧Below W1.heap.size W1 wr) (fun i _=>T.length-(aZ i).toNat)
 case atStart=>exact⟨0,aF _,rfl,bp,az⟩
 case round=>
  obtain⟨k,hk,rfl,bb,af⟩:=hrel
  by_cases bq:k<T.length
  ·obtain⟨p,hx⟩:∃x,T[k]?=O x:=⟨_,aA bq⟩;obtain⟨g,cap,kv,vv,hz,bc,ag,⟨ce,bd⟩,d0,d1,am,an,be⟩:=bb.out.get hx;cases hz;obtain⟨y1,z1,rfl⟩:=am.shape;obtain⟨y2,z2,rfl⟩:=an.shape;have bt:=(av.out p (aI hx)).2.1;have cf:p.V.length≤4:=by rw[(av.out p (aI hx)).2.2];exact bt
   obtain⟨aa,bX,-⟩:=al1 wr (Y #[J y1 p.K.length z1,J y2 p.V.length z2] 83);have ap:=(aa.block g ag).trans bd;have e0:=(aa.cell ag).trans d0;have e1:=(aa.cell ag).trans d1;have x0:=Aa bX (j:=0) rfl;have x1:=Aa bX (j:=1) rfl;have ac:=aD bX;have ah:=aU ag aa.size;have aq:=(Nat.ne_of_lt ag).symm;have ar:=am.keep (Ak aa);have au:=an.keep (Ak aa);have bu:Hid _:=be;have bv:=af.size;have v5:(0:Int)≤k:=by omega
   have v6:k<(T.length:Int):=by omega
   clear am an be hx bd;go_upto_region 7 with fail;have bf:=aa.size;generalize wr.alloc _=wb at aa bX ap e0 e1 x0 x1 ac ah ar au bf⊢;generalize wr.heap.size=gX at bX x0 x1 ac aq bv bf⊢;have bg:=fun W h=>Ze _ _ _ _ W (ar.keep (Ak h)) (Am5 _) (by omega)
   have bh:=fun W h=>Ze _ _ _ _ W (au.keep (Ak h)) (Am5 _) (by omega)
   clear ar au;refine wp_region_held_drew (S:=(fun W=>W.cell? ⟨gX,0,X⟩=O (J y1 p.K.length z1)∧W.cell? ⟨gX,1,X⟩=O (J y2 p.V.length z2))) (by rfl) ?_ (fun hHeld=>?_)
   ·simp_all
   refine tk 0 ?_;refine tk 1 ?_;refine tk 2 ?_;refine tk 3 ?_;refine tk 5 ?_;refine tk 6 ?_;refine Bh 4 (fun K hK=>?_);go_simp
   (refine(bg _ (aJ _ _).drew).mono ?_;rintro e w3 ⟨v3,rfl,bi,bw⟩;obtain⟨ko,kc,rfl⟩:=Eu.shape (Eu.of_own bi);have ad:=Ac (aJ _ _).drew bw)
   go_wp2_with fail;refine hK.out _ _ ?_ (fun hHeld=>?_)
   ·exact⟨(ad.cell ac).trans x0,(ad.cell ac).trans x1⟩
   clear hK K;refine Bh 7 (fun K hK=>?_);go_simp
   (refine(bh _ ad).mono ?_;rintro e w4 ⟨v4,rfl,bj,bk⟩;obtain⟨vo,vc,rfl⟩:=Eu.shape (Eu.of_own bj);have ab:=Ac ad bk;have y8:=(ab.cell ah).trans e0;have y9:=(ab.cell ah).trans e1;have z8:w4.frozen? ⟨g,k*2,X⟩=bL:=(by simp[bW,(ab.block g ah).trans ap]);have z9:w4.frozen? ⟨g,k*2+1,X⟩=bL:=(by simp[bW,(ab.block g ah).trans ap]))
   go_wp2_with fail;refine hK.out _ _ ?_ (fun hHeld=>?_)
   ·exact⟨(ab.cell ac).trans x0,(ab.cell ac).trans x1⟩
   clear hK K;refine tk 8 ?_;refine tk 9 ?_;refine Bh 10 (fun K hK=>?_);go_simp;go_wp2_with fail;refine hK.out _ _ ?_ (fun hHeld=>?_)
   ·exact⟨(Ail aq _ _ _).trans ((ab.cell ac).trans x0),(Ail aq _ _ _).trans ((ab.cell ac).trans x1)⟩
   clear hK K;refine wpAnyH_done (by kernel_rfl) ?_ _;have hB:=Ac aa ab;have hu:Bp (FO W1.heap.size (J (O ⟨g,0,X⟩) T.length zc)) 1 w4 _ _ _:=Bp.of_own (Aj bi bk) fun q hq=>⟨by have:wb.heap.size≤q:=hq;omega,fun e=>by
    have h1:=by simpa[aQ]using e
    have:wb.heap.size≤q:=hq;omega⟩
   have hv:Bp (FO W1.heap.size (J (O ⟨g,0,X⟩) T.length zc)) 1 w4 _ _ _:=Bp.of_own bj fun q hq=>⟨by have:=ad.size;omega,fun e=>by
    have h1:=by simpa[aQ]using e
    have:=ad.size;omega⟩
   have bx:=bu.out w4 _ _ hB hu hv;clear bg bh;go_wp2_with fail;go_roundw
   case rel=>exact⟨_,by omega,by rfl,bx,((af.trans (hB.mono af.size)).setCell (show W1.heap.size≤g from bc) _).setCell (show W1.heap.size≤g from bc) _⟩
   case measure=>simp[aZ];omega
  ·have bz:k=T.length:=by omega
   subst bz;have v5:¬(T.length<(T.length:Int)):=by omega
   have ca:Kd (Fr W1.heap.size) wr (J zo T.length zc) T:=by
    obtain⟨cb,bl,h1,h2,h5⟩:=bb.out;rw[bO]at h2;rw[cK]at h5;cases bl with
    |cons r bl=>exact h5.elim
    |nil=>
     rw[cM]at h1;exact⟨cb,Bp.of_own h1 fun _ h=>h,h2.mono fun k _ h=>h.1⟩
   have bm:=(af.block _ (aD bR)).trans bR;go_wp2_with(refine wpList_store_row rfl 44 _ _ rfl w.heap.size #[J zo T.length zc] ?_ ?_ 44 #[J X 0 0] ?_ ?_ ?_ ?_ ?_;exact rfl;exact rfl;exact bm;exact Aim;exact rfl;exact A2b _ _ _);refine bodyPost_ret (v:=bU #[J zo T.length zc]) (results_cell_row Tryz.results16 _ _ w.heap.size 44 #[J zo T.length zc] _ _ rfl (Ao bm) Tryz.underlying44 rfl Aim) rfl ?_;have cc:Keeps (Fr W1.heap.size) wr (wr.setRow w.heap.size #[J zo T.length zc]):=(Keeps.refl _ _).row (fun h=>by omega) _;exact⟨zo,zc,rfl,(ca.keep cc).mono fun k _ h=>aN ae.size h,Below.row (ae.trans (af.mono ae.size)) (aL _) _⟩
theorem Awz {w}{ao}{n c i}{T}{p}(h:A8 w (J ao n c) T)(hi:T[i]?=O p):∃b aa ka kc va vc,ao=O ⟨b,aa,X⟩∧b<w.heap.size∧w.cell? ⟨b,aa+i*2,X⟩=O (J ka p.K.length kc)∧w.cell? ⟨b,aa+i*2+1,X⟩=O (J va p.V.length vc)∧An w (J ka p.K.length kc) p.K∧An w (J va p.V.length vc) p.V:=by
 obtain⟨b,aa,cap,e,hb,_,_,hT⟩:=h.at (by have:=(aH.1 hi).1;omega);simp only[Value.slice.injEq]at e;obtain⟨kv,vv,c0,c1,hk,hv⟩:=hT i p hi;obtain⟨ka,kc,rfl⟩:=hk.shape;obtain⟨va,vc,rfl⟩:=hv.shape;grind
def tx (l:List (Wd×Wd)):List Wd:=l.flatMap fun x=>[x.1,x.2]
theorem Aw0 (l):(tx l).length=2*l.length:=by
 induction l with
 |nil=>rfl
 |cons a l ih=>simp only[tx,List.flatMap_cons,aM,aV,List.length_nil]at ih⊢;omega
theorem A2c (l)(a b):tx (l++[(a,b)])=tx l++[a]++[b]:=by simp[tx]
def Lu (T:List Pg)(k:Nat)(p:Pg)(q:Nat):List (Wd×Wd):=flat (T.take k)++(p.K.zip p.V).take q
theorem Aph {T}{k}{p}(hp:T[k]?=O p):flat T=flat (T.take k)++(p.K.zip p.V++flat (T.drop (k+1))):=by
 obtain⟨h1,rfl⟩:=aH.1 hp
 conv=>lhs;rw[←List.take_append_drop k T]
 rw[Bg,List.drop_eq_getElem_cons h1,E6]
theorem Ata {T}{k q:Nat}{p:Pg}{a b:Wd}(ha:p.K[q]?=O a)(hb:p.V[q]?=O b):Lu T k p (q+1)=Lu T k p q++[(a,b)]:=by
 have hz:(p.K.zip p.V)[q]?=O (a,b):=by rw[List.getElem?_zip_eq_some];exact⟨ha,hb⟩
 unfold Lu;rw[bE,hz,cI];rfl
theorem Atb (T)(k)(p):Lu T k p 0=flat (T.take k):=by simp[Lu]
theorem Aw1 {T}{k}{p}(hp:T[k]?=O p):Lu T k p p.K.length=flat (T.take (k+1)):=by
 unfold Lu;rw[List.take_of_length_le (l:=p.K.zip p.V) (by grind),bE,hp,Bg];simp[flat]
theorem Aw2 {T}{k q}{p}(hp:T[k]?=O p):(Lu T k p q).length≤(flat T).length:=by
 rw[Aph hp,Lu,aM,aM,aM,bS];omega
theorem A2d:(Tryz.prog.info? 9).map (fun i=>(i.zero,i.size,i.bytes))=O (O (aB ⟨#[]⟩),1,16):=by kernel_rfl
theorem A2e {w:aW}{base n g}{t t'}{size}{z}{cs}{arr}(own:w.ownsRow base t size z n cs)(pb:w.heap[g]?=O (Y arr t'))(ht:t≠t'):O g≠z.ownBlock:=fun e=>by
 rcases own.2 with⟨h,_⟩|⟨b,cap,cur,rfl,_,hh,_⟩
 ·rw[h]at e;cases e
 ·have:=by simpa[aQ]using e
  grind
theorem Ae5 {w wr W w3}{P n:Nat}{z}{cs}{a b}(own:wr.ownsRow w.heap.size 9 1 z n cs)(hW:Below wr.heap.size wr W)(pb:wr.heap[P]?=O (Y #[a,b] 83))(hb:Below w.heap.size w wr)(gr:W.grownBy w3 z.ownBlock):
  w3.heap[P]?=O (Y #[a,b] 83)∧Below w.heap.size w w3:=by
 have lP:=aD pb;have hs:=hW.size;refine⟨(gr.block _ (by omega) (A2e own pb (by simp))).trans ((hW.block _ lP).trans pb),?_⟩;exact(hb.trans (hW.mono hb.size)).grown gr (by have:=hb.size;omega) (fun j hj=>(own.lt j hj).1)
theorem Abd (T:List Pg)(so:Option Addr)(sc:Nat)(w:aW)(h:A8 w (J so T.length sc) T)(hg:As T)(hf:(flat T).length≤450):
  aX aC 15 #[bU #[J so T.length sc]] w fun e w'=>∃v,e=aG v∧An w' v (tx (flat T))∧Below w.heap.size w w':=by
 obtain⟨i0,ak,al,am,an⟩:=cB A2d;have ca:T.length≤450:=aN (Ja hg) hf;have ap:Hid (∀p∈T,p.ok):=hg.1;have HF:Hid ((flat T).length≤450):=hf;have aq:=Aq w (Y #[J so T.length sc] 44);have c0:=Aa (Ab w (Y #[J so T.length sc] 44)) (j:=0) rfl;have HS:Hid _:=h;generalize hW:w.alloc (Y #[J so T.length sc] 44)=W1 at aq c0;have HW:Hid _:=hW;clear hW h hg hf;go_enter Tryz.func15,Tryz.ntmps15;go_upto_region 1 with fail;rw[HW.out];go_wp2_with fail
 go_loopw[3,11] (fun zv i wr=>∃(k M:Nat) (cs:List aK),k≤T.length∧i=Z aO k∧Hid (M=(tx (flat (T.take k))).length∧cs=(tx (flat (T.take k))).map aB)∧wr.ownsRow w.heap.size 9 1 zv M cs∧Below w.heap.size w wr) (fun _ i _=>T.length-(aZ i).toNat)
 case atStart=>exact⟨0,0,[],aF _,rfl,⟨by rw[List.take_zero];rfl,by rw[List.take_zero];rfl⟩,bC _ _ _ _,aq⟩
 case round=>
  obtain⟨k,M,cs,hk,rfl,HM,ac,aa⟩:=hrel
  by_cases bf:k<T.length
  ·obtain⟨p,hp⟩:∃p,T[k]?=O p:=⟨_,aA bf⟩;obtain⟨ba,oa,ka,kc,va,vc,bg,ar,bh,bi,au,av⟩:=Awz HS.out hp;cases bg;have a0:=(aa.cell (p:=⟨ba,_,X⟩) ar).trans bh;have a1:=(aa.cell (p:=⟨ba,_,X⟩) ar).trans bi;have cb:p.K.length≤4:=(ap.out p (aI hp)).2.1;have ad:Hid (p.V.length=p.K.length):=(ap.out p (aI hp)).2.2;obtain⟨ae,bX,-⟩:=al1 wr (Y #[J ka p.K.length kc,J va p.V.length vc] 83);have x0:=Aa bX (j:=0) rfl;have v0:(0:Int)≤(k:Int):=by omega
   have v1:(k:Int)<(T.length:Int):=by omega
   have HP:Hid _:=hp;have bj:Hid _:=au;have bk:Hid _:=av;have aw:=Aj ac ae;have ax:=aa.trans (ae.mono aa.size);clear au av hp ac;go_upto_region 5 with fail;generalize wr.alloc (Y #[J ka p.K.length kc,J va p.V.length vc] 83)=wb at ae bX x0 aw ax⊢;generalize wr.heap.size=P at bX x0⊢;go_wp2_with fail
   go_loopw[3,18] (fun zv i wq=>∃(q M:Nat) (cs:List aK),q≤p.K.length∧i=Z aO q∧Hid (M=(tx (Lu T k p q)).length∧cs=(tx (Lu T k p q)).map aB)∧wq.ownsRow w.heap.size 9 1 zv M cs∧wq.heap[P]?=O (Y #[J ka p.K.length kc,J va p.V.length vc] 83)∧Below w.heap.size w wq) (fun _ i _=>p.K.length-(aZ i).toNat)
   case atStart=>exact⟨0,M,cs,aF _,rfl,by show _∧_;rw[Atb];exact HM.out,aw,bX,ax⟩
   case round=>
    obtain⟨q,M2,bl,hq,rfl,af,ag,bP,ab⟩:=hrel
    by_cases ay:q<p.K.length
    ·obtain⟨a,ha⟩:∃a,p.K[q]?=O a:=⟨_,aA ay⟩;obtain⟨b,hb⟩:∃b,p.V[q]?=O b:=⟨_,aA (by rw[ad.out];exact ay)⟩;obtain⟨kb,ko,cc,bm,bn,_,_,az⟩:=An.at bj.out (by omega);cases bm;obtain⟨vb,vo,cd,bo,bp,_,_,bb⟩:=An.at bk.out (by rw[ad.out];omega);cases bo;have k0:=(ab.cell bn).trans (az q a ha);have k1:=bb q b hb;have bc:Hid (tx (Lu T k p (q+1))=tx (Lu T k p q)++[a]++[b]):=by show _=_;rw[Ata ha hb,A2c]
     have ce:M2≤900:=by
      have h1:=af.out.1;rw[Aw0]at h1;have h2:=Aw2 (q:=q) HP.out;have h3:=HF.out;omega
     have v3:(0:Int)≤q:=by omega
     have v4:q<(p.K.length:Int):=by omega
     have v5:q<(p.V.length:Int):=by rw[ad.out];omega
     have ah:=Aq wr (Y [aB a].toArray 9);clear ha hb az bb;go_wp2_with(at_builtin;go_must(refine aT _ rfl _ _ 54 rfl _ 9 i0 _ 1 16 bD ak al am an rfl (by simp) _ _ _ rfl (Aj ag ah) _ 1 1 _ rfl rfl (B8 wr [.string a] 9) ?h1 (by simp only[maxLen];omega) (by omega) (aN ab.size ah.size) ?h2))
     case h1=>simp only[cD];repeat(first|exact fun _ h=>absurd h cJ|refine⟨rfl,?_⟩)
     case h2=>
      intro z4 w4 bd bq _ _;obtain⟨be,ai⟩:=Ae5 ag ah bP ab bq;have x4:=Aa be (j:=1) rfl;have k4:=(ai.cell bp).trans k1;have aj:=Aq w4 (Y [aB b].toArray 9);go_wp2_with(at_builtin;go_must(refine aT _ rfl _ _ 54 rfl _ 9 i0 _ 1 16 bD ak al am an rfl (by simp) _ _ _ rfl (Aj bd aj) _ 1 1 _ rfl rfl (B8 w4 [.string b] 9) ?h3 (by simp only[maxLen];omega) (by omega) (aN ai.size aj.size) ?h4))
      case h3=>simp only[cD];repeat(first|exact fun _ h=>absurd h cJ|refine⟨rfl,?_⟩)
      case h4=>
       intro z6 w6 bt bu _ _;obtain⟨bv,bw⟩:=Ae5 bd aj be ai bu;go_wp2_with fail;go_roundw
       case rel=>exact⟨q+1,_,_,by omega,by rfl,⟨by rw[bc.out,af.out.1];simp,by rw[bc.out,af.out.2];simp⟩,bt,bv,bw⟩
       case measure=>simp[aZ];omega
    ·have bx:q=p.K.length:=by omega
     subst bx;have v4:¬(p.K.length<(p.K.length:Int)):=by omega
     go_wp2;go_roundw
     case rel=>exact⟨k+1,M2,bl,by omega,by rfl,by show _∧_;rw[←Aw1 HP.out];assumption,ag,ab⟩
     case measure=>simp[aZ];omega
  ·have bz:k=T.length:=by omega
   subst bz;have v1:¬(T.length<(T.length:Int)):=by omega
   go_wp2;go_ret;obtain⟨h1,h2⟩:=HM.out;rw[bO]at h1 h2;refine⟨_,rfl,?_,aa⟩;have:=Eu.of_own ac;rw[h1,h2]at this;exact this
def A2f (w:aW)(ao:Option Addr)(T:List TabD):Prop:=∀(k:Nat) (x:TabD),T[k]?=O x→∃b off so sc,ao=O ⟨b,off,X⟩∧b<w.heap.size∧w.cell? ⟨b,off+k*2,X⟩=O (aB x.name)∧w.cell? ⟨b,off+k*2+1,X⟩=O (J so x.cols.length sc)∧∀(j:Nat) (y:ColD),x.cols[j]?=O y→∃b' off',so=O ⟨b',off',X⟩∧b'<w.heap.size∧w.cell? ⟨b',off'+j*3,X⟩=O (aB y.name)∧w.cell? ⟨b',off'+j*3+1,X⟩=O (Z aO y.ty)∧w.cell? ⟨b',off'+j*3+2,X⟩=O (cA y.must)
theorem Aqp {F}{w}{ao}{n c}{T}(h:IsL Ci F w (J ao n c) T):A2f w ao T:=fun k x hx=>by
 obtain⟨b,ad,cs,ae,_,af,⟨sv,rfl,ab⟩,ac⟩:=Av h hx;obtain⟨so,sc,rfl⟩:=ab.shape;refine⟨b,ad,so,sc,ae,af,ac 0 _ rfl,ac 1 _ rfl,fun j y hy=>?_⟩;obtain⟨b',ag,aj,ah,_,ai,hR,aa⟩:=Av ab hy;obtain rfl:=hR;exact⟨b',ag,ah,ai,aa 0 _ rfl,aa 1 _ rfl,aa 2 _ rfl⟩
def A2g (w:aW)(ao:Option Addr)(I:List IdxD):Prop:=∀(k:Nat) (x:IdxD),I[k]?=O x→∃b off,ao=O ⟨b,off,X⟩∧b<w.heap.size∧w.cell? ⟨b,off+k*3,X⟩=O (aB x.name)∧w.cell? ⟨b,off+k*3+1,X⟩=O (aB x.table)∧w.cell? ⟨b,off+k*3+2,X⟩=O (aB x.col)
theorem Aqq {F}{w}{ao}{n c}{I}(h:IsL D6 F w (J ao n c) I):A2g w ao I:=fun k x hx=>by
 obtain⟨b,ab,cs,ac,_,ad,ae,aa⟩:=Av h hx;obtain rfl:=ae;exact⟨b,ab,ac,ad,aa 0 _ rfl,aa 1 _ rfl,aa 2 _ rfl⟩
theorem Atc (A:CatD)(va vb:aK)(F G:Nat→Prop)(w:aW)(ha:Hp F w A va)(hb:Hp G w A vb)(hg:Ds A=aP):
  aX aC 12 #[va,vb] w fun e w'=>e=aG (cA aP)∧Below w.heap.size w w':=by
 have bb:A.tables.length≤3:=((Cv A).1 hg).1;have bc:A.indexes.length≤4:=((Cv A).1 hg).2.1;have aj:Hid (∀x∈A.tables,x.cols.length≤4):=fun t ht=>(He hg ht).2
 clear hg;obtain⟨T,I⟩:=A;obtain⟨tv,iv,rfl,hl,hi⟩:=ha;obtain⟨uv,jv,rfl,hu,hj⟩:=hb;simp only at hl hi hu hj bb bc aj;obtain⟨ak,tc,rfl⟩:=hl.shape;obtain⟨io,ic,rfl⟩:=hi.shape;obtain⟨uo,uc,rfl⟩:=hu.shape;obtain⟨jo,jc,rfl⟩:=hj.shape;have HT:Hid _:=Aqp hl;have HU:Hid _:=Aqp hu;have HI:Hid _:=Aqq hi;have HJ:Hid _:=Aqq hj;obtain⟨af,-,bB,-⟩:=al2 w (Y #[J ak T.length tc,J io I.length ic] 41) (Y #[J uo T.length uc,J jo I.length jc] 41);have bA:=Ad (Ab w (Y #[J ak T.length tc,J io I.length ic] 41)) (Y #[J uo T.length uc,J jo I.length jc] 41);generalize hW:(w.alloc (Y #[J ak T.length tc,J io I.length ic] 41)).alloc (Y #[J uo T.length uc,J jo I.length jc] 41)=W2 at af bA bB;have HW:Hid _:=hW;clear hW hl hi hu hj;have a0:=Aa bA (j:=0) rfl;have a1:=Aa bA (j:=1) rfl;have b0:=Aa bB (j:=0) rfl;have b1:=Aa bB (j:=1) rfl;go_enter Tryz.func12,Tryz.ntmps12;go_upto_region 1 with fail;rw[HW.out];go_wp2
 go_loopw[28] (fun i wr=>∃k:Nat,k≤T.length∧i=Z aO k∧Below W2.heap.size W2 wr) (fun i _=>T.length-(aZ i).toNat)
 case atStart=>exact⟨0,aF _,rfl,aJ _ _⟩
 case round=>
  obtain⟨k,hk,rfl,ag⟩:=hrel;obtain⟨wo,bd⟩:∃wo,wo=wr:=⟨_,rfl⟩;subst bd;have al:Below w.heap.size w wo:=af.trans (ag.mono af.size);have bj:=af.size;have be:=ag.size;have bf:=(ag.block _ (aD bA)).trans bA;have ar:=(ag.block _ (aD bB)).trans bB
  by_cases am:k<T.length
  ·obtain⟨x,hx⟩:∃x,T[k]?=O x:=⟨_,aA am⟩;obtain⟨b,au,so,sc,ab,av,g0,g1,aw⟩:=HT.out k x hx;cases ab;obtain⟨d,an,bk,bl,ab,ap,h0,h1,ax⟩:=HU.out k x hx;cases ab;obtain⟨ay,bX,-⟩:=al1 wo (Y #[aB x.name,J so x.cols.length sc] 74);have ah:Below w.heap.size w (wo.alloc (Y #[aB x.name,J so x.cols.length sc] 74)):=al.alloc (by omega) _;have d0:=(al.cell (p:=⟨b,au+k*2,X⟩) av).trans g0;have d1:=(al.cell (p:=⟨b,au+k*2+1,X⟩) av).trans g1;have e0:=(ah.cell (p:=⟨d,an+k*2,X⟩) ap).trans h0;have e1:=(ah.cell (p:=⟨d,an+k*2+1,X⟩) ap).trans h1;have aq:=(ay.block _ (aD ar)).trans ar;have f0:=Aa aq (j:=0) rfl;have f1:=Aa bX (j:=0) rfl;have f2:=Aa bX (j:=1) rfl;have v0:(0:Int)≤(k:Int):=by omega
   have v1:(k:Int)<(T.length:Int):=by omega
   have bm:=aj.out x (aI hx);have bg:Hid _:=aw;have bh:Hid _:=ax;clear aw ax hx g0 g1 h0 h1;generalize az:wo.alloc (Y #[aB x.name,J so x.cols.length sc] 74)=Wx at*;go_wp2_with fail
   try rw[az]
   have ba:Below W2.heap.size W2 Wx:=ag.trans (ay.mono be);clear az;go_quiet(fail);go_wp2
   go_loopw[58] (fun i wr=>∃k2:Nat,k2≤x.cols.length∧i=Z aO k2∧Below Wx.heap.size Wx wr) (fun i _=>x.cols.length-(aZ i).toNat)
   case atStart=>exact⟨0,aF _,rfl,bY (aJ _ _) _⟩
   case round=>
    obtain⟨k2,bn,rfl,ac⟩:=hrel;have aa:Below w.heap.size w wr:=ah.trans (ac.mono ah.size)
    by_cases bi:k2<x.cols.length
    ·obtain⟨p,hp⟩:∃p,x.cols[k2]?=O p:=⟨_,aA bi⟩;obtain⟨pb,po,ab,ad,p0,p1,p2⟩:=bg.out k2 p hp;cases ab;obtain⟨qb,qo,ab,ae,q3,q4,q5⟩:=bh.out k2 p hp;cases ab;have m0:=(aa.cell ad).trans p0;have m1:=(aa.cell ad).trans p1;have m2:=(aa.cell ad).trans p2;have m3:=(aa.cell ae).trans q3;have m4:=(aa.cell ae).trans q4;have m5:=(aa.cell ae).trans q5;have r0:=Aa ((ac.block _ (aD bX)).trans bX) (j:=1) rfl;have r1:=Aa ((ac.block _ (aD aq)).trans aq) (j:=0) rfl;have r2:=(ac.cell (p:=⟨d,an+k*2+1,X⟩) (aU ap ah.size)).trans e1;have u0:(0:Int)≤k2:=by omega
     have u1:k2<(x.cols.length:Int):=by omega
     clear hp p0 p1 p2 q3 q4 q5;obtain⟨pn,pt,pm⟩:=p;simp only at m0 m1 m2 m3 m4 m5;go_wp2_with fail;go_quiet(fail);go_wp2;go_roundw
     case rel=>exact⟨k2+1,by omega,by go_num,bY ac _⟩
     case measure=>simp[aZ];omega
    ·have ai:k2=x.cols.length:=by omega
     subst ai;have u1:¬((x.cols.length:Int)<(x.cols.length:Int)):=by omega
     go_wp2;go_roundw
     case rel=>exact⟨k+1,by omega,by go_num,ba.trans (ac.mono ba.size)⟩
     case measure=>simp[aZ];omega
  ·have ai:k=T.length:=by omega
   subst ai;have v1:¬((T.length:Int)<(T.length:Int)):=by omega
   have e0:=Aa bf (j:=1) rfl;clear HT HU aj;go_wp2
   go_loopw[81] (fun i wr=>∃k:Nat,k≤I.length∧i=Z aO k∧Below W2.heap.size W2 wr) (fun i _=>I.length-(aZ i).toNat)
   case atStart=>exact⟨0,aF _,rfl,ag⟩
   case round=>
    obtain⟨k,hk,rfl,ac⟩:=hrel;have aa:Below w.heap.size w wr:=af.trans (ac.mono af.size)
    by_cases am:k<I.length
    ·obtain⟨x,hx⟩:∃x,I[k]?=O x:=⟨_,aA am⟩;obtain⟨pb,po,ab,ad,p0,p1,p2⟩:=HI.out k x hx;cases ab;obtain⟨qb,qo,ab,ae,q3,q4,q5⟩:=HJ.out k x hx;cases ab;have m0:=(aa.cell ad).trans p0;have m1:=(aa.cell ad).trans p1;have m2:=(aa.cell ad).trans p2;have m3:=(aa.cell ae).trans q3;have m4:=(aa.cell ae).trans q4;have m5:=(aa.cell ae).trans q5;have r0:=Aa ((ac.block _ (aD bA)).trans bA) (j:=1) rfl;have r1:=Aa ((ac.block _ (aD bB)).trans bB) (j:=1) rfl;have u0:(0:Int)≤k:=by omega
     have u1:k<(I.length:Int):=by omega
     clear hx p0 p1 p2 q3 q4 q5;obtain⟨pn,pt,pm⟩:=x;simp only at m0 m1 m2 m3 m4 m5;go_wp2_with fail;go_quiet(fail);go_wp2;go_roundw
     case rel=>exact⟨k+1,by omega,by rfl,bY ac _⟩
     case measure=>simp[aZ];omega
    ·have ai:k=I.length:=by omega
     subst ai;have v1:¬(I.length<(I.length:Int)):=by omega
     go_wp2;go_ret;exact⟨rfl,aa⟩
theorem Am6 (L:List Wd)(va vb:aK)(w:aW)(ha:An w va L)(hb:An w vb L)(hl:L.length≤1000000):
  aX aC 14 #[va,vb] w fun e w'=>e=aG (cA aP)∧Below w.heap.size w w':=by
 obtain⟨ao,ac,rfl⟩:=Eu.shape ha;obtain⟨bo,bc,rfl⟩:=Eu.shape hb;have HA:Hid _:=ha;have HB:Hid _:=hb;clear ha hb;go_enter Tryz.func14,Tryz.ntmps14;go_wp2_with fail
 go_loopw[13] (fun i wr=>∃k:Nat,k≤L.length∧i=Z aO k∧Below w.heap.size w wr) (fun i _=>L.length-(aZ i).toNat)
 case atStart=>exact⟨0,aF _,rfl,aJ _ _⟩
 case round=>
  obtain⟨k,hk,rfl,aa⟩:=hrel
  by_cases af:k<L.length
  ·obtain⟨s,hs⟩:∃s,L[k]?=O s:=⟨_,aA af⟩;obtain⟨b1,o1,c1,ab,ag,_,_,ad⟩:=An.at HA.out (by omega);cases ab;obtain⟨b2,o2,c2,ab,ah,_,_,ae⟩:=An.at HB.out (by omega);cases ab;have m0:=(aa.cell ag).trans (ad k s hs);have m1:=(aa.cell ah).trans (ae k s hs);have u0:(0:Int)≤k:=by omega
   have u1:k<(L.length:Int):=by omega
   clear hs ad ae;go_wp2_with fail;go_quiet(fail);go_wp2;go_roundw
   case rel=>exact⟨k+1,by omega,by rfl,bY aa _⟩
   case measure=>simp[aZ];omega
  ·have ai:k=L.length:=by omega
   subst ai;have v1:¬(L.length<(L.length:Int)):=by omega
   go_wp2;go_ret;exact⟨rfl,aa⟩
theorem A2h {d}{T U}(hT:As T)(hU:As U)(h1:Has d (flat T))(h2:Has d (flat U)):flat T=flat U:=by
 have aa:∀a b:Wd×Wd,klt a.1 b.1=aP→¬klt b.1 a.1=aP:=fun a b h1 h2=>by rw[Kv h1]at h2;grind
 refine Yu (r:=fun a b=>klt a.1 b.1=aP) aa ?_ ?_ fun x=>(h1 x).trans (h2 x).symm
 ·have:=hT.rise;grind
 ·have:=hU.rise;grind
theorem A2i {E}{n m}{d}{a b}{q r}{w}(h1:Fl E w n d a q)(h2:Fl E w m d b r)(ok:DbOk d):
  aX aC 7 #[bF (O ⟨n,0,X⟩),bF (O ⟨m,0,X⟩)] w fun e w'=>e=aG (cA aP)∧Below w.heap.size w w':=by
 obtain⟨T,bz,tc,io,ic,po,pc,he,hh,_⟩:=h1;obtain⟨U,uo,uc,jo,jc,ro,rc,hu,hv,_⟩:=h2;have aa:=Lt ok he.good hh;have ab:=Lt ok hu.good hv;have hT:=aN (Ja he.good) aa;have hU:=aN (Ja hu.good) ab;have al:Hid _:=A2h he.good hu.good hh hv;have am:=Abb he ok.cat;have an:=fun W (h:Below _ w W)=>Abb (hu.below h) ok.cat
 have ap:=fun W (h:Below _ w W)=>Acj (he.below h) (by omega)
 have aq:=fun W (h:Below _ w W)=>Acj (hu.below h) (by omega)
 have ar:Hid _:=he.good;have au:Hid _:=hu.good;have av:Hid _:=ok.cat;have ad:Hid _:=aa;have aw:Hid _:=ab;clear he hu hh hv aa ab ok;go_enter Tryz.func7,Tryz.ntmps7;go_wp2_with(first
  |(go_fit am;rintro e w1 ⟨ax,ay,rfl,az,ba,ae⟩)
  |(go_fit(an w1 ae);rintro e w2 ⟨bb,bc,rfl,bd,be,ac⟩;have hS:=Atc d.c _ _ _ _ w2 ⟨ax,ay,rfl,az.keep (Ak ac),ba.keep (Ak ac)⟩ ⟨bb,bc,rfl,bd,be⟩ av.out;have bf:=Ac ae ac)
  |(go_fit hS;rintro e w3 ⟨rfl,bg⟩;have af:=Ac bf bg)
  |(go_fit(ap w3 af);rintro e w4 ⟨bh,bi,rfl,bj,bk⟩;have bl:=Ac af bk;have bm:=Abd T bh bi w4 bj.pages ar.out ad.out)
  |(go_fit bm;rintro e w5 ⟨v5,rfl,ag,bn⟩;have ah:=Ac bl bn;obtain⟨x5,y5,rfl⟩:=Eu.shape ag)
  |(go_fit(aq w5 ah);rintro e w6 ⟨bo,bp,rfl,bq,ai⟩;have bt:=Ac ah ai;have bu:=Abd U bo bp w6 bq.pages au.out aw.out)
  |(go_fit bu;rintro e w7 ⟨v7,rfl,aj,ak⟩;have bv:=Ac bt ak;obtain⟨x7,y7,rfl⟩:=Eu.shape aj;have bw:=Am6 _ _ _ w7 (ag.below (Ac ai ak)) (by rw[al.out];exact aj) (by rw[Aw0];have:=ad.out;omega))
  |(go_fit bw;rintro e w8 ⟨rfl,bx⟩;have ca:=Ac bv bx))
 go_ret;simp_all
def aT1:Wd:={data:=([99,114,101,97,116,101,32,116,97,98,108,101,32,116,32,40,97,32,105,110,116,32,109,117,115,116,44,32,98,32,116,101,120,116,41,59,32].append [105,110,115,101,114,116,32,105,110,116,111,32,116,32,118,97,108,117,101,115,32,40,49,44,39,120,39,41,44,40,50,44,110,117,108,108,41,59]).toArray}
def aT2:Wd:={data:=#[115,101,108,101,99,116,32,98,32,102,114,111,109,32,116,32,119,104,101,114,101,32,97,32,61,32,49,59]}
def Su:Db:=(doR F6 0 aT1).2.1
def vX:V:=⟨2,0,⟨#[120]⟩⟩
theorem A3h:doR F6 0 aT1=(⟨0,2,[]⟩,Su,1):=by kernel_rfl
theorem A3i:doR Su 1 aT2=(⟨0,0,[[vX]]⟩,Su,2):=by kernel_rfl
theorem A2j:doQ F6 0 aT1 aP=aP:=by kernel_rfl
theorem A2k:doQ Su 1 aT2 aP=aP:=by kernel_rfl
theorem Aw3:(Su.c.tables.map fun t=>(Su.R t.name).length)=[2]:=by kernel_rfl
theorem Aw4:∃t∈Su.c.tables,∃r,r∈Su.R t.name:=by
 have h:=Aw3;generalize Su=d at h⊢;obtain⟨⟨T,I⟩,R⟩:=d;simp only at h⊢
 match T,h with
 |t::T,h=>
  simp only[List.map_cons,bM]at h
  match hr:R _,h.1 with
  |r::l,_=>simp_all
theorem Api {T}(h:Has Su (flat T))(h1:T.length≤1):T.length=1:=by
 obtain⟨t,ht,r,hr⟩:=Aw4;have:=(h (rk t r,str _)).2 ⟨t,ht,r,hr,.inl rfl⟩;cases T with
 |nil=>cases this
 |cons p T=>grind
theorem Aw5:∃d:Db,doR F6 0 aT1=(⟨0,2,[]⟩,d,1)∧doR d 1 aT2=(⟨0,0,[[vX]]⟩,d,2)∧doQ F6 0 aT1 aP=aP∧doQ d 1 aT2 aP=aP∧∀T,Has d (flat T)→T.length≤1→T.length=1:=⟨Su,A3h,A3i,A2j,A2k,fun _=>Api⟩
theorem Az8 {B}{z}{v}{w}(h:Dq B z [[v]] w):∃g c b o c',z=J (O ⟨g,0,X⟩) 1 c∧g<w.heap.size∧b<w.heap.size∧w.cell? ⟨g,0,X⟩=O (J (O ⟨b,o,X⟩) 1 c')∧w.cell? ⟨b,o,X⟩=O (Z aO v.k)∧w.cell? ⟨b,o+1,X⟩=O (Z aO v.n)∧w.cell? ⟨b,o+2,X⟩=O (aB v.s):=by
 have h1:=Rb h;obtain⟨cs,ac,_⟩:=h;rcases ac.2 with⟨_,h0⟩|⟨g,cap,cur,rfl,_,hh,_⟩
 ·grind
 ·obtain⟨b',ae,af,e,_,hb,⟨yv,rfl,ab⟩,ad⟩:=Av h1 (i:=0) rfl;simp only[Option.some.injEq,Addr.mk.injEq]at e;obtain⟨rfl,rfl,_⟩:=e;obtain⟨yo,yc,rfl⟩:=ab.shape;obtain⟨b2,o2,ag,e2,_,ah,hR,aa⟩:=Av ab (i:=0) rfl;subst e2;obtain rfl:=hR;have c0:=ad 0 _ rfl;have d0:=aa 0 _ rfl;have d1:=aa 1 _ rfl;have d2:=aa 2 _ rfl;grind
theorem Aw6 (w)(ac:Env w):aX aC 8 #[] w fun e w'=>e=aG (cA aP)∧Below w.heap.size w w':=by
 obtain⟨dA,e1,e2,q1,q2,aj⟩:=Aw5;have ak:Cl [] w:=fun n hn=>by grind
 obtain⟨ae,af⟩:=Aqo ak;obtain⟨aa,-,bb⟩:=al1 w (Y #[J X 0 0,J X 0 0,J X 0 0,Z aO 0] 46);have HN:=Aqn w;have h8:=ac.low;generalize hW:w.alloc _=W1 at ae af aa HN bb;have al:aX aC 6 #[bF (O ⟨w.heap.size,0,X⟩),bU #[aB aT1]] W1 fun e w'=>∃vo vc,e=aG (bU #[Z aO 0,Z aO 2,J vo 0 vc])∧Fl [w.heap.size] w' w.heap.size dA 1 aP∧Hid (DbOk dA)∧But w.heap.size W1 w':=by
  have h:=Ae2 ae (by simp) aP af Al1 (by omega) (ac.next aa) h8 aT1;rw[e1,q1]at h;generalize aT1=t1 at h⊢;refine h.mono ?_;rintro e w' ⟨⟨rv,rfl,am⟩,h2,h3,h4⟩;obtain⟨vo,vc,rfl⟩:=am.shape;exact⟨vo,vc,rfl,h2,h3,h4⟩
 have an:∀W,Fl [w.heap.size] W _ dA 1 aP→DbOk dA→Env W→aX _ 6 #[bF _,bU #[aB aT2]] W fun e w'=>∃rv,e=aG (bU #[Z aO 0,Z aO 0,rv])∧Dq W.heap.size rv [[vX]] w'∧Fl [w.heap.size] w' w.heap.size dA 2 aP∧But w.heap.size W w':=fun W h ok he=>by
  have bc:Cl _ W:=fun n hn=>by
   obtain rfl:=List.mem_singleton.1 hn;obtain⟨T,bd,tc,io,ic,po,pc,h1,_⟩:=h;exact⟨_,_,_,_,_,_,h1,ok.cat⟩
  have h:=Ae2 bc (by simp) aP h ok (by omega) he h8 aT2;rw[e2,q2]at h;generalize aT2=t2 at h⊢;refine h.mono ?_;rintro e w' ⟨⟨rv,rfl,am⟩,h2,h3,h4⟩;grind
 clear hW af ae ak e1 e2 q1 q2;have bi:=ac.next aa;go_enter Tryz.func8,Tryz.ntmps8;go_upto_region 2 with(go_fit HN;rintro e w1 ⟨rfl,rfl⟩);go_upto_region 5 with(go_at_call 6;refine al.mono ?_;rintro e w2 ⟨vo,vc,rfl,ap,be,aq⟩);have ad:Below _ w (w2.alloc (Y #[Z aO 0,Z aO 2,J vo 0 vc] 32)):=Ac (aa.trans (aq.below (aL _) aa.size)) (Aq _ _);have bP:=Ab w2 (Y #[Z aO 0,Z aO 2,J vo 0 vc] 32);have ar:=ap.below (Aq w2 (Y #[Z aO 0,Z aO 2,J vo 0 vc] 32));have au:w2.heap.size≠w.heap.size:=by have:=aq.size;omega
 have ag:=an _ ar be.out (ac.next ad);have av:=ad.size;clear al an ap ar;generalize w2.alloc _=W3 at ad bP ag av⊢;generalize w2.heap.size=p at bP au⊢;go_upto_region 6 with(go_at_call 6;refine ag.mono ?_;rintro e w4 ⟨rv,rfl,aw,ax,ah⟩;obtain⟨rg,rc,rb,ro,bj,rfl,bf,bg,c0,d0,d1,d2⟩:=Az8 aw);obtain⟨ab,bQ,-⟩:=al1 w4 (Y #[Z aO 0,Z aO 0,J (O ⟨rg,0,X⟩) 1 rc] 32);have ai:=(ab.block _ (aU (aD bP) ah.size)).trans ((ah.block _ (aD bP) au).trans bP);have k0:=(ab.cell bf).trans c0;have k1:=(ab.cell bg).trans d2;have ay:=ax.below ab;have az:=Ac (ad.trans (ah.below (aL _) av)) ab;clear c0 d0 d1 d2 aw ax ag bP;generalize w4.alloc _=W5 at ai bQ k0 k1 ay az⊢;generalize w4.heap.size=g at bQ⊢;obtain⟨T,bd,tc,io,ic,po,pc,h1,h2,h3⟩:=ay;have ba:=aj T h2 (h3 rfl);have HT:=Acj h1 (by omega);rw[ba]at HT;have x0:=Aa ai (j:=0) rfl;have x1:=Aa ai (j:=1) rfl;have x2:=Aa bQ (j:=2) rfl;have hx:(vX.s.toList==[120])=aP:=by kernel_rfl
 have fF:∀(zo) (zc) (w),(Instr.field 44 (bU #[J zo 1 zc]) 0).run aC w=.ok (J zo 1 zc) w:=fun zo zc w=>by rfl
 clear h1 h2 h3 ba aj;go_wp2_with(go_fit HT;rintro e w7 ⟨zo,zc,rfl,_,bh⟩);go_ret;exact⟨rfl,Ac az bh⟩
def Iy:Db×Int→List Wd→Db×Int
 |s,[]=>s
 |s,t::l=>Iy ((doR s.1 s.2 t).2.1,(doR s.1 s.2 t).2.2) l
theorem A2l {d}{a}(t)(h:0≤a):0≤(doR d a t).2.2:=by
 unfold doR;grind
theorem Fl.weak {E}{w}{n}{d}{a}{q}(h:Fl E w n d a q):Fl E w n d a bL:=by
 obtain⟨T,aa,tc,io,ic,po,pc,h1,h2,_⟩:=h;exact⟨T,aa,tc,io,ic,po,pc,h1,h2,fun h=>by grind⟩
theorem Fl.more {E}{w}{n m}{d}{a}{q}(h:Fl E w n d a q)(hm:w.heap.size≤m):Fl (m::E) w n d a q:=by
 obtain⟨T,aa,tc,io,ic,po,pc,h1,h2⟩:=h;exact⟨T,aa,tc,io,ic,po,pc,h1.mono fun k hk h3 h4=>by grind,h2⟩
theorem Fl.lt {E}{w}{n}{d}{a}{q}(h:Fl E w n d a q):n<w.heap.size:=by
 obtain⟨T,aa,tc,io,ic,po,pc,h1,_⟩:=h;exact h1.lt
theorem Aw7 (p x y)(w)(hx:∃t,x=bU #[aB t])(hy:∃C N vo rl vc,y=bU #[Z aO C,Z aO N,J vo rl vc]):aX aC 5 #[p,x,y] w fun e w'=>e=aG (cA aP)∧Below w.heap.size w w':=by
 obtain⟨t,rfl⟩:=hx;obtain⟨C,N,vo,rl,vc,rfl⟩:=hy;go_enter Tryz.func5,Tryz.ntmps5;go_wp2;go_ret;exact⟨rfl,Da _ _ _⟩
def U1 (E:List Nat)(L:List Wd)(w w':aW)(e:Ending):Prop:=∃n,e=aG (.tuple #[bF (O ⟨n,0,X⟩),cA aP])∧w.heap.size≤n∧Cl (n::E) w'∧Fl (n::E) w' n (Iy (F6,0) (L.take 40)).1 (Iy (F6,0) (L.take 40)).2 bL∧DbOk (Iy (F6,0) (L.take 40)).1∧0≤(Iy (F6,0) (L.take 40)).2∧Below w.heap.size w w'
theorem Am7 {E:List Nat}(L:List Wd)(lo:Option Addr)(lc:Nat)(w:aW)(af:Env w)(hE:Cl E w)(hl:An w (J lo L.length lc) L)(bp:L.length≤9223372036854775807):
  aX aC 4 #[J lo L.length lc,.func (.func 5) #[] #[]] w fun e w'=>U1 E L w w' e:=by
 have bh:=Aw6 w af;have bi:Hid _:=af;have HL:Hid _:=hl;have bj:Hid _:=hE;have h8:8≤w.heap.size:=af.low;clear hl af hE;go_enter Tryz.func4,Tryz.ntmps4;go_upto_region 3 with(go_fit bh;rintro e w1 ⟨rfl,am⟩);have HN:=Aqn w1;obtain⟨an,ap⟩:=Aqo (Cl.below bj.out am);have ba:Below w.heap.size w (w1.alloc (Y #[J X 0 0,J X 0 0,J X 0 0,Z aO 0] 46)):=Ac am (Aq w1 _);have ag:=am.size;generalize w1.alloc (Y #[J X 0 0,J X 0 0,J X 0 0,Z aO 0] 46)=W2 at HN an ap ba;generalize w1.heap.size=n at HN an ap ag;go_upto_region 5 with(go_fit HN;rintro e w2 ⟨rfl,rfl⟩)
 go_loopw[7] (fun i wr=>∃(k:Nat) (d1:Db) (a1:Int),k≤L.length∧k≤40∧i=Z aO k∧Hid (Iy (F6,0) (L.take 40)=Iy (d1,a1) ((L.take 40).drop k))∧Hid (Fl (n::E) wr n d1 a1 bL)∧Hid (DbOk d1)∧Hid (0≤a1)∧Hid (Cl (n::E) wr)∧Below w.heap.size w wr) (fun i _=>40-(aZ i).toNat)
 case atStart=>exact⟨0,F6,0,aF _,aF _,rfl,rfl,ap.weak,Al1,Int.le_refl _,an,ba⟩
 case round=>
  obtain⟨k,d1,a1,hk,bq,rfl,aq,ah,ai,HA,ad,ac⟩:=hrel
  by_cases ar:k<L.length∧k<40
  ·obtain⟨ar,bt⟩:=ar;obtain⟨t,hx⟩:∃t,L[k]?=O t:=⟨_,aA ar⟩;obtain⟨ab,ao,bu,bk,au,_,_,bb⟩:=An.at HL.out (by omega);cases bk;have y0:=bb k t hx;have y1:=(ac.cell au).trans y0;have aj:=Ae2 ad.out (cE) bL ah.out ai.out HA.out (bi.out.next ac) (show 8≤n by omega) t;have bl:Hid ((L.take 40).drop k=t::(L.take 40).drop _):=Sj (by grind);have av:Hid (Iy (d1,a1) ((L.take 40).drop k)=Iy ((doR d1 a1 t).2.1,(doR d1 a1 t).2.2) ((L.take 40).drop (k+1))):=by show _=_;rw[bl.out,Iy]
   have aw:Hid (0≤(doR d1 a1 t).2.2):=A2l t HA.out;generalize doQ d1 a1 t bL=q2 at aj;generalize doR d1 a1 t=p at aj av aw;obtain⟨⟨C,N,rows⟩,d2,a2⟩:=p;simp only at av aw;have v0:(0:Int)≤k:=by omega
   have v1:k<(L.length:Int):=by omega
   have v2:(k:Int)<40:=by omega
   clear hx bb;go_upto_region 8 with(go_fit aj;rintro e w5 ⟨⟨rv,rfl,bc⟩,ax,ay,az⟩;obtain⟨vo,vc,rfl⟩:=bc.shape);generalize rows.length=rl at*;have bd:Cl (n::E) w5:=by
    obtain⟨T,bv,tc,io,ic,po,pc,h1,_⟩:=ax;exact Cl.put ad.out az (cE) h1 ay.cat
   obtain⟨ak,bX,-⟩:=al1 w5 (Y #[Z aO C,Z aO N,J vo rl vc] 32);have al:=Ac (ac.trans (az.below ag ac.size)) ak;have be:Hid _:=bd.below ak;have bf:Hid _:=(ax.below ak).weak;have bm:Hid _:=ay;have x0:=Aa bX (j:=0) rfl;have x1:=Aa bX (j:=1) rfl;have x2:=Aa bX (j:=2) rfl;have ae:=aD bX;have x3:=(al.cell au).trans y0;have bg:=aU au al.size;clear aj bc ax ay bd az ad ah ai;generalize w5.alloc _=W6 at ak bX al be bf x0 x1 x2 ae x3 bg⊢;generalize w5.heap.size=gX at bX x0 x1 x2 ae⊢;refine wp_region_held_drew (S:=(fun W=>W.cell? ⟨ab,ao+k,X⟩=O (aB t)∧W.cell? ⟨gX,0,X⟩=O (Z aO C)∧W.cell? ⟨gX,1,X⟩=O (Z aO N)∧W.cell? ⟨gX,2,X⟩=O (J vo rl vc))) (by rfl) ?_ (fun hHeld=>?_)
   ·simp_all
   refine tk 0 ?_;refine tk 1 ?_;refine tk 2 ?_;refine tk 3 ?_;refine tk 4 ?_;refine tk 5 ?_;refine tk 6 ?_;refine Bh 7 (fun K hK=>?_);go_simp
   (refine(Aw7 _ _ _ _ ⟨_,rfl⟩ ⟨_,_,_,_,_,rfl⟩).mono ?_;rintro e w7 ⟨rfl,bn⟩;have aa:=Ac (aJ _ _).drew bn)
   go_wp2_with fail;refine hK.out _ _ ?_ (fun hHeld=>?_)
   ·exact⟨(aa.cell bg).trans x3,(aa.cell ae).trans x0,(aa.cell ae).trans x1,(aa.cell ae).trans x2⟩
   clear hK K;refine tk 8 ?_;refine wpAnyH_done (by kernel_rfl) ?_ _;go_wp2_with fail;go_roundw
   case rel=>exact⟨_,d2,a2,by omega,by omega,by rfl,aq.out.trans av.out,Fl.below bf.out aa,bm,aw,Cl.below be.out aa,Ac al aa⟩
   case measure=>simp[aZ];omega
  ·have HD:Hid ((L.take 40).drop k=[]):=List.drop_eq_nil_of_le (by grind)
   by_cases bw:k<L.length
   ·have v1:k<(L.length:Int):=by omega
    have bo:k=40:=by omega
    subst bo;go_wp2;go_ret2;unfold U1;rw[aq.out,HD.out,Iy];exact⟨n,rfl,ag,ad.out,ah.out,ai.out,HA.out,ac⟩
   ·have v1:¬(k<(L.length:Int)):=by omega
    go_wp2;go_ret2;unfold U1;rw[aq.out,HD.out,Iy];exact⟨n,rfl,ag,ad.out,ah.out,ai.out,HA.out,ac⟩
theorem Abe:∀(l:List Stm) (d:Db) (i:Nat) (aa:Rep),aa.code=0→(Fu d l i aa).1.code≠0→(Fu d l i aa).1.rows=[]
 |[],_,_,_,h,hc=>absurd h hc
 |s::l,d,i,aa,_,hc=>by
  unfold Fu at hc⊢;split at hc
  ·rename_i h;rw[if_pos h];exact Abe l _ _ _ h hc
  grind
theorem Atd {d}{a}{t}(h:(doR d a t).1.code≠0):(doR d a t).1.rows=[]∧(doR d a t).2.1=d:=by
 unfold doR at h⊢;split at h
 ·grind
 ·rename_i h1;rw[if_neg h1];split at h
  ·grind
  ·rename_i h2;rw[if_neg h2];split at h
   ·grind
   ·rename_i h3;rw[if_neg h3];exact⟨Abe _ _ _ _ rfl h,rfl⟩
theorem A2m (d)(a)(t):(doR d a t).1.code=0∨(doR d a t).1.code=1∨(doR d a t).1.code=2∨(doR d a t).1.code=3∨(doR d a t).1.code=4∨(doR d a t).1.code=5∨(doR d a t).1.code=7∨(doR d a t).1.code=8:=by
 unfold doR;split
 ·simp
 ·split
  ·have:=Aba t.data.toList;grind
  ·have:=Ach (Bj t.data.toList).1 d 0 My rfl;grind
theorem Fl.but {E}{w w'}{n m}{d}{a}{q}(h:Fl E w n d a q)(hb:But m w w')(hm:m∈E)(aa:n≠m):Fl E w' n d a q:=by
 obtain⟨T,ab,tc,io,ic,po,pc,h1,h2⟩:=h;exact⟨T,ab,tc,io,ic,po,pc,h1.but hb hm aa,h2⟩
theorem topRefused_any (L:List Wd)(lo:Option Addr)(lc:Nat)(t:Wd)(w:aW)(ae:Env w)(hl:An w (J lo L.length lc) L)(aq:L.length≤9223372036854775807):
  aX aC 3 #[J lo L.length lc,bU #[aB t]] w fun e w'=>e=aG (cA aP)∧Below w.heap.size w w':=by
 obtain⟨ab,bT,-⟩:=al1 w (Y #[aB t] 24);have bf:Cl [] w:=fun n hn=>by cases hn
 have h8:8≤w.heap.size:=ae.low;generalize hW:w.alloc (Y #[aB t] 24)=W1 at ab bT;have HW:Hid _:=hW;have ac:=Am7 (E:=[]) L lo lc W1 (ae.next ab) (bf.below ab) (hl.below ab) aq;have aa:=A2m (Iy (F6,0) (L.take 40)).1 (Iy (F6,0) (L.take 40)).2 t;have af:=@Atd (Iy (F6,0) (L.take 40)).1 (Iy (F6,0) (L.take 40)).2 t;have ad:∀(n1:Nat) (W:aW),Below w.heap.size w W→Cl [n1] W→aX aC 4 #[J lo L.length lc,.func (.func 5) #[] #[]] W fun e w'=>U1 [n1] L W w' e:=fun n1 W h hE=>Am7 L lo lc W (ae.next h) hE (hl.below h) aq
 have ar:∀(n1 n2:Nat) (d:Db) (a:Int) (W:aW),Below w.heap.size w W→Cl [n2,n1] W→Fl [n2,n1] W n1 d a bL→DbOk d→0≤a→8≤n1→aX aC 6 #[bF (O ⟨n1,0,X⟩),bU #[aB t]] W fun e w'=>A0i [n2,n1] n1 (doR d a t) (doQ d a t bL) W w' e:=fun n1 n2 d a W h hE he ok ha h8=>Ae2 hE (by simp) bL he ok ha (ae.next h) h8 t
 unfold U1 at ac ad;generalize Iy (F6,0) (L.take 40)=s at ac ad aa af;obtain⟨d,a⟩:=s;simp only at ac ad aa af;have bn:=ab.size;clear hW hl;go_enter Tryz.func3,Tryz.ntmps3;go_upto_region 1 with fail;rw[HW.out];go_upto_region 2 with(go_fit ac;rintro e w2 ⟨n1,rfl,bo,au,ai,av,bg,aw⟩);have ax:=Ac ab aw;have ay:=ad n1 w2 ax au;have az:=(aw.block _ (aD bT)).trans bT;clear ac ad;go_upto_region 3 with(go_fit ay;rintro e w3 ⟨n2,rfl,bh,ba,bb,bp,bq,aj⟩);have ak:=Ac ax aj;have bc:=(ai.more bh).below aj;have bt:=ai.lt;have HD:=ar n1 n2 d a w3 ak ba bc av bg (by omega);have bi:=(aj.block _ (aD az)).trans az;have x9:=Aa bi (j:=0) rfl;have bj:n2≠n1:=by omega
 clear ay ar;have ag:Hid _:=af;generalize doQ d a t bL=q2 at HD;generalize doR d a t=p at HD aa ag;obtain⟨⟨C,N,rows⟩,d2,a2⟩:=p;simp only at aa ag;clear af;go_upto_region 6 with(go_fit HD;rintro e w5 ⟨⟨rv,rfl,bd⟩,be,bu,al⟩;obtain⟨vo,vc,rfl⟩:=bd.shape);obtain⟨ah,bX,-⟩:=al1 w5 (Y #[Z aO C,Z aO N,J vo rows.length vc] 32);have am:Below w.heap.size w (w5.alloc (Y #[Z aO C,Z aO N,J vo rows.length vc] 32)):=Ac (ak.trans (al.below (by omega) ak.size)) ah;have an:=be.below ah;have ap:=(bb.but al (by simp) bj).below ah;have x0:=Aa bX (j:=0) rfl;have x2:=Aa bX (j:=2) rfl;clear HD bd be al bc ai bb au ba;generalize w5.alloc _=W6 at ah bX am an ap x0 x2⊢;generalize w5.heap.size=gX at bX x0 x2⊢;rcases aa with rfl|aa
 ·go_wp2_with fail;go_ret;exact⟨rfl,am⟩
 ·obtain⟨bk,bl⟩:=ag.out (show C≠0 by omega);subst bk bl;have HS:=A2i an ap av;clear ag an ap;rcases aa with rfl|rfl|rfl|rfl|rfl|rfl|rfl
  all_goals
   go_wp2_with(go_fit HS;rintro e w8 ⟨rfl,bm⟩);go_ret;exact⟨rfl,Ac am bm⟩
theorem topRefused_closed:joinedFacts aC 3 Tryz.f3 (OpenSpec.ofChange Rows.topRefusedSpec).bare Rows.topRefusedRow=aP:=by
 unfold joinedFacts;rw[topRefused_laidOut,A0j,Axc,Aio,Ana,Axd,A0k,Axa,Axb]
 kernel_rfl
end
section
open Go.RowKit Go.Deep
section
variable {H:Type}{enc:TypeId×aK→H}{w:aW}{base:Nat}{spare:Nat→Bool}{held:Bool}
end
end
section
theorem Az9 {H}(d:DataW H):1≤Rows.uptoBulk d:=by
 cases d with
 |lit l=>cases l<;>simp[Rows.uptoBulk]
 |nil=>simp[Rows.uptoBulk]
 |ptr d=>simp[Rows.uptoBulk]
 |slice elems spare=>simp[Rows.uptoBulk]
 |agg parts=>simp[Rows.uptoBulk]
 |iface t d=>simp[Rows.uptoBulk]
 |map entries=>simp[Rows.uptoBulk]
 |held h=>simp[Rows.uptoBulk]
theorem Apj {H}(l:List (DataW H)):l.length≤Rows.uptoBulkAll l:=by
 induction l with
 |nil=>simp
 |cons x r ih=>have:=Az9 x;simp only[Rows.uptoBulkAll,aV];omega
end
section
open Go.RowKit Go.Deep Go.ChangeShapes
section
variable {H:Type}{enc:TypeId×aK→H}{w:aW}{base:Nat}{spare:Nat→Bool}{held:Bool}
theorem A0a (a b:List (DataW H)):Rows.uptoBulkAll (a++b)=Rows.uptoBulkAll a+Rows.uptoBulkAll b:=by
 induction a with
 |nil=>simp[Rows.uptoBulkAll]
 |cons x r ih=>simp only[List.cons_append,Rows.uptoBulkAll,ih];omega
theorem Aqr {D:Nat→DataW H}:∀(n i:Nat),i<n→Rows.uptoBulk (D i)≤Rows.uptoBulkAll ((aR n).map D)
 |n+1,i,h=>by
  rw[bG,cL,A0a];rcases cH (Nat.lt_succ_iff.1 h)with h1|h1
  ·have:=Aqr (D:=D) n i h1;omega
  ·subst h1;simp[Rows.uptoBulkAll]
theorem Ain {α:Type}{K:Elem α}{F:Nat→Prop}{f:Nat→α}{g:Nat→List aK}:∀n:Nat,(∀i,i<n→K.R F w (f i) (g i))→All K F w ((aR n).map f) ((aR n).flatMap g)
 |0,_=>rfl
 |n+1,h=>by
  rw[bG,cL,bJ];refine All.append (Ain n fun i hi=>h i (by omega)) ?_;have:=All.one (h n (by omega));grind
theorem Ws {g:Nat→List aK}{s}:∀(n:Nat),(∀i,i<n→(g i).length=s)→((aR n).flatMap g).length=n*s
 |0,_=>by simp
 |n+1,h=>by
  rw[bG,bJ,aM,Ws n fun i hi=>h i (by omega)];grind
theorem Am8 {g:Nat→List aK}{s:Nat}:∀(n i:Nat),(∀i,i<n→(g i).length=s)→i<n→∀j,j<s→((aR n).flatMap g)[i*s+j]?=(g i)[j]?
 |n+1,i,h,hi,j,hj=>by
  have hl:=Ws (g:=g) n fun i hi=>h i (by omega)
  rw[bG,bJ];rcases cH (Nat.lt_succ_iff.1 hi)with h1|h1
  ·rw[List.getElem?_append_left (by rw[hl];have:=Nat.mul_le_mul_right s (show i+1≤n from h1);grind)];exact Am8 n i (fun i hi=>h i (by omega)) h1 j hj
  simp_all
theorem Aw8 {α:Type}(d0:α)(K:Elem α)(t et:TypeId)(hu:Tryz.prog.underlying t=O (.slice et))(hc:Tryz.prog.cellsOf et=K.size)(hK:0<K.size)(B:Nat)(Q:α→Prop)
  (ah:∀(ab:Nat) (cs:List aK) (x:DataW H×List MemPlace),Rows.uptoBulk x.1≤B→DataW.trod enc aC w base spare held ab et cs=O x→∃a,K.R (fun k=>k<w.heap.size) w a cs∧Q a)
  {ab:Nat}{sv:aK}{x:DataW H×List MemPlace}(hB:Rows.uptoBulk x.1≤B) (h:DataW.trod enc aC w base spare held ab t [sv]=O x):
  ∃l:List α,IsL K (fun k=>k<w.heap.size) w sv l∧(∀a∈l,Q a)∧l.length≤Rows.uptoBulk x.1:=by
 rcases open_slice hu h with⟨hcs,rfl⟩|⟨ad,len,cap,m,n5,D,Pl,hcs,hb,hlc,hm,hmm,rfl,hxx⟩
 ·simp only[bM,and_true]at hcs;subst hcs;exact⟨[],IsL.nil K _ w,by simp,aF _⟩
 ·simp only[bM,and_true]at hcs;subst hcs;have ap:len≤m:=by rw[hmm];split<;>omega
  have ai:Rows.uptoBulkAll ((aR len).map D)≤B:=by simp only[Rows.uptoBulk]at hB;omega
  have aq:len≤Rows.uptoBulkAll ((aR len).map D):=by have:=Apj ((aR len).map D);simpa using this
  have e1:∀i,i<len→∃r:α×List aK,K.R (fun k=>k<w.heap.size) w r.1 r.2∧Q r.1∧∀j u,r.2[j]?=O u→w.cell? (ad.add (i*K.size+j))=O u:=by
   intro i hi;obtain⟨ae,h1,h2⟩:=hxx i (by omega);rw[hc]at h1;obtain⟨_,ar,aj⟩:=World.cells?_some h1;obtain⟨a,ha,hq⟩:=ah n5 ae (D i,Pl i) (aN (Aqr len i hi) ai) h2;refine⟨(a,ae),ha,hq,fun j u hj=>?_⟩;have ac:=(aH.1 hj).1;simp only at ac;have:=aj j (by omega);rw[add_add]at this;rw[this];exact hj
  have:Inhabited (α×List aK):=⟨(d0,[])⟩;obtain⟨f,hf⟩:=choose_lt e1;refine⟨(aR len).map fun i=>(f i).1,⟨(aR len).flatMap fun i=>(f i).2,?_,Ain len fun i hi=>(hf i hi).1⟩,?_,?_⟩
  ·have aa:∀i,i<len→(f i).2.length=K.size:=fun i hi=>K.len (hf i hi).1
   refine⟨by rw[Ws len aa];simp,?_⟩;rcases Nat.eq_zero_or_pos len with rfl|hpos
   ·grind
   ·obtain⟨b,ak,au⟩:=ad;obtain⟨u0,al⟩:∃u,(f 0).2[0]?=O u:=⟨_,aA (by rw[aa 0 hpos];exact hK)⟩;have af:=(hf 0 hpos).2.2 0 u0 al;have am:=by simpa[bV]using World.cell?_spot af
    subst am;have ag:=by have:=block_lt_of_cell af;simpa[bV]using this
    refine .inr ⟨by simpa using hpos,b,ak,cap,by simp,ag,ag,by simpa using hlc,hm,fun j u hj=>?_⟩;have ac:=(aH.1 hj).1;rw[Ws len aa]at ac;have hi:j/K.size<len:=Nat.div_lt_of_lt_mul (by grind);have an:j%K.size<K.size:=Nat.mod_lt _ hK;have ej:j/K.size*K.size+j%K.size=j:=by rw[Nat.mul_comm];exact Nat.div_add_mod j K.size
    rw[←ej,Am8 len _ aa hi _ an]at hj;have:=(hf _ hi).2.2 _ u hj;rw[bN,ej]at this;omega
  ·grind
  ·simp only[Rows.uptoBulk,List.length_map,List.length_range];omega
end
end
end Go.Proofs.YtjapkoofjlmdgaaGreatDoor

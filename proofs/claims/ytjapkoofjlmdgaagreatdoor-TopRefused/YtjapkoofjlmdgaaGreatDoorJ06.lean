/-
  10 texts of this proof in one,in build order:WDel,YRise,WSearch,WIns,WWith,YCat,YCat2,YExpr,YExprs,YFit.
-/
import Derived.Deep.RegionHeld3
import Derived.Deep.LoopGhost
import Derived.Deep.Cut
import Derived.BigRegion
import Derived.Deep.QuietTactic
import Derived.BigQuiet
import Derived.Deep.CutRange
import Derived.Laws.EntriesVeiled
import Derived.Test.YtjapkoofjlmdgaaGreatDoorJ01
import Derived.Test.YtjapkoofjlmdgaaGreatDoorJ02
import Derived.Test.YtjapkoofjlmdgaaGreatDoorJ04
set_option linter.unusedSimpArgs false
set_option linter.unusedVariables false
set_option maxRecDepth 100000
set_option maxHeartbeats 0
open Go.Value renaming agg→Z,agg→bJ,bool→aR,int→O,int→cT,oneCell'→bE,ownBlock→eE,pointer→cF,slice→L,slice→aX,string→J,string→dC
open List renaming all_eq_not_any_not→dD,append_assoc→dV,append_nil→eK,drop_left'→eJ,eq_nil_of_length_eq_zero→aK,ext_getElem→eC,flatten_append→bI,getD_eq_getElem?_getD→aM,getElem?_append_left→cY,getElem?_append_right→aZ,getElem?_eq_getElem→aA,getElem?_eq_some_iff→aG,getElem?_map→bR,getElem?_take_of_lt→bC,getElem_mem→bY,length_append→bN,length_map→eI,length_take→bX,mem_flatten→eB,mem_of_getElem?→aC,mem_of_mem_take→dK,size_toArray→bQ,take_append→cU,take_append_drop→aW,take_left→bM,take_length→eA,take_of_length_le→cE,take_take→bL
open Go.Proofs.Tryz renaming func144→cD,func147→dF,func152→cC,func167→cR,func170→cQ,func292→cA,func293→dE,func47→cW,func48→bP,func86→cV,ntmps144→bV,ntmps152→bU,ntmps167→cM,ntmps170→cL,ntmps292→bT,ntmps293→cZ,ntmps47→cP,ntmps48→bK,ntmps86→cO,prog→N,underlying3→dY,underlying38→aJ,underlying39→aI
open Option renaming getD_some→dR,none→K,some→A
open Go.Ending renaming returned→U
open Go.RowKit.Below renaming refl→f
open Nat renaming add_sub_cancel_left→dG,add_zero→aP,eq_zero_or_pos→dU,le_of_not_lt→eH,le_refl→aF,le_succ→cX,le_succ_of_le→dZ,le_trans→aD,lt_of_lt_of_le→aB,lt_of_not_le→eG,lt_succ_self→eF,min→bW,min_def→aU,min_eq_left→aO,mul_le_mul_right→bA,zero_add→bB,zero_le→bD
open Go.Obj renaming cells→Q
open Go.Builtin renaming append_→dS,firstCells→dI,zeroCells→aE
open Go renaming Calls→S,Value→aQ,World→cH,grownCap→cG,info_parts→cI,length_splice→aN,lt_of_block→aH,maxLen→z,splice→bH,wpList_append_own_at→aS,zeroValue→dP
open Go.IntKind renaming i64→M,wrap_i64→aY
open Go.Addr renaming add_lit→aL
open Bool renaming false→aT,true→bF
open Go.Op renaming bytesLess→aV
open Go.World renaming frozen?→bG,ownsRow_made→dO,ownsRow_nil→dQ,shape?→cN,size_alloc→cS
open Array renaming size_append→bO,size_map→eL,size_range→dX,toArray_toList→dJ,toList_append→dN,toList_map→dW
open Go.Extern.SlicesOverlaps renaming overlaps→bS
open Go.Act renaming eval→bZ,put→cK
open Go.Proofs renaming intOf→cJ
open Option.some renaming injEq→dA
open Go.Lib renaming run_append_grow_zeros→dB,run_eql_slice_nil→dM,run_overlaps_apart→dH,wpList_append_run→dL
open Go.RowKit renaming wrap64→dT
open Go.Addr.mk renaming injEq→eD
namespace Go.Proofs.YtjapkoofjlmdgaaGreatDoor
section
open Go.RowKit
def Ng:Elem (List aQ) where
 size:=2
 R _ _ c cs:=cs=c∧Lm c
 len h:=by obtain⟨rfl,s0,a1,n1,c1,rfl⟩:=h;rfl
 keep _ h:=h
 mono _ h:=h
theorem Ag5 {c}(h:Lm c):c.length=2:=by obtain⟨s0,a1,n1,c1,rfl⟩:=h;rfl
theorem Ag6 {c}(h:Lm c):∀u∈c,u.oneCell'=bF:=by
 obtain⟨s0,a1,n1,c1,rfl⟩:=h;simp[bE]
theorem Abs:(Tryz.prog.info? 74).map (fun i=>(i.zero,i.size,i.bytes))=A (A (Z #[J ⟨#[]⟩,L K 0 0]),2,40):=by kernel_rfl
theorem R5:(Tryz.prog.info? 74).map (·.size)=A 2:=by kernel_rfl
theorem Ads {w}{B}{v}{CS}(h:w.ownsRow B 74 2 v CS.length CS.flatten)(hs:∀c∈CS,Lm c):IsL Ng (fun _=>True) w v CS:=
 ⟨CS.flatten,Bp.of_own h fun _ _=>trivial,Lo rfl fun i x c h1 h2=>by rw[h1]at h2;cases h2;exact⟨rfl,hs _ (aC h1)⟩⟩
def Nh:Elem (List aQ) where
 size:=3
 R _ _ c cs:=cs=c∧Md c
 len h:=by obtain⟨rfl,s0,s1,s2,rfl⟩:=h;rfl
 keep _ h:=h
 mono _ h:=h
theorem Ag7 {c}(h:Md c):c.length=3:=by obtain⟨s0,s1,s2,rfl⟩:=h;rfl
theorem Ag8 {c}(h:Md c):∀u∈c,u.oneCell'=bF:=by
 obtain⟨s0,s1,s2,rfl⟩:=h;simp[bE]
theorem Abt:(Tryz.prog.info? 78).map (fun i=>(i.zero,i.size,i.bytes))=A (A (Z #[J ⟨#[]⟩,J ⟨#[]⟩,J ⟨#[]⟩]),3,48):=by kernel_rfl
theorem R6:(Tryz.prog.info? 78).map (·.size)=A 3:=by kernel_rfl
theorem Adt {w}{B}{v}{CS}(h:w.ownsRow B 78 3 v CS.length CS.flatten)(hs:∀c∈CS,Md c):IsL Nh (fun _=>True) w v CS:=
 ⟨CS.flatten,Bp.of_own h fun _ _=>trivial,Lo rfl fun i x c h1 h2=>by rw[h1]at h2;cases h2;exact⟨rfl,hs _ (aC h1)⟩⟩
theorem An1 (n):∀u∈(aE ((Z #[J ⟨#[]⟩,L K 0 0]):aQ).cells n).toList,u.oneCell'=bF:=by
 intro u hu;simp only[aE,dW,List.mem_map]at hu;obtain⟨i,_,rfl⟩:=hu;have aa:i%2<2:=Nat.mod_lt _ (by simp);have ab:∀j,j<2→(((Z #[J ⟨#[]⟩,L K 0 0]):aQ).cells[j]!).oneCell'=bF:=by
  intro j hj;rcases(by omega:j=0∨j=1)with rfl|rfl
  all_goals rfl
 exact ab _ aa
theorem An2 (n):∀u∈(aE ((Z #[J ⟨#[]⟩,J ⟨#[]⟩,J ⟨#[]⟩]):aQ).cells n).toList,u.oneCell'=bF:=by
 intro u hu;simp only[aE,dW,List.mem_map]at hu;obtain⟨i,_,rfl⟩:=hu;have aa:i%3<3:=Nat.mod_lt _ (by simp);have ab:∀j,j<3→(((Z #[J ⟨#[]⟩,J ⟨#[]⟩,J ⟨#[]⟩]):aQ).cells[j]!).oneCell'=bF:=by
  intro j hj;rcases(by omega:j=0∨j=1∨j=2)with rfl|rfl|rfl
  all_goals rfl
 exact ab _ aa
theorem R7 (cs)(n)(sv)(F)(w)(h:Bp F 2 w sv n cs)(h1:∀u∈cs,u.oneCell'=bF)(hn:n*40≤140737488355328):
  S N 20 #[sv] w fun e w'=>∃v,e=U v∧w'.ownsRow w.heap.size 74 2 v n cs∧Below w.heap.size w w':=by
 obtain⟨i0,aa,ac,ae,af⟩:=cI Abs;have ap:∀(w) (a) (n c n' c'),(binOp _ 38 (L a n c) _).run _ w=.ok _ w:=fun w a n c n' c'=>dM w _ _ a n c n' c' aJ
 have ag:=h.1;have fin:∀ao c,sv=L ao n c→(ao=K→n=0)→(∀ad,ao=A ad→∀j u,cs[j]?=A u→w.cell? (ad.add j)=A u∧ad.block<w.heap.size)→(ao=K→c=0)→
   S N 20 #[sv] w fun e w'=>∃v,e=U v∧w'.ownsRow w.heap.size 74 2 v n cs∧Below w.heap.size w w':=by
  intro ao c he h0 hc ah;subst he;cases ao with
  |none=>
   obtain rfl:=h0 rfl;obtain rfl:=ah rfl;have:=aK (by omega);subst this;go_enter Tryz.func20,Tryz.ntmps20;go_wp2;go_ret;exact⟨_,rfl,dQ _ _ _ _,f _ _⟩
  |some ad=>
   have ai:(w.alloc _).ownsRow _ 74 2 _ 0 []:=dO w #[] 0 (aF _) (bD _) (by simp);have HC:Hid (∀j u,cs[j]?=A u→(w.alloc (Q #[] 74)).cell? (ad.add j)=A u):=fun j u hj=>by
    obtain⟨aj,aq⟩:=hc ad rfl j u hj;obtain⟨ab,ao,ak⟩:=ad;exact((Aq w _).cell (by unfold Addr.add;grind)).trans aj
   have HB:Hid _:=hn;clear hn hc;obtain⟨ab,ao,ak⟩:=ad;go_enter Tryz.func20,Tryz.ntmps20;go_wp2_with(at_builtin;refine aS _ rfl _ _ 38 rfl _ 74 i0 _ 2 40 aJ aa ac ae af rfl (by simp) _ _ _ rfl ai _ n c cs rfl ag HC.out h1 (by have:=HB.out;simp only[z];omega) (by have:=HB.out;omega) (by simp) ?_);intro v' w1 al am _ _;go_wp2;go_ret;exact⟨v',rfl,al,((f _ w).alloc (aF _) _).grown am (by simp) (by intro k hk;simp[eE]at hk;omega)⟩
 rcases h.2 with⟨h0,ao,c,he,hnil⟩|⟨h0,b,off,cap,he,_,hb,_,_,hc⟩
 ·subst h0;have an:=aK (by omega);subst an;exact fin ao c he (fun _=>rfl) (fun ad _ j u hj=>by grind) hnil
 ·exact fin _ cap he (fun h=>by grind) (fun ad h j u hj=>by cases h;rw[aL];grind) (fun h=>by grind)
theorem R8 (cs)(n)(sv)(F)(w)(h:Bp F 3 w sv n cs)(h1:∀u∈cs,u.oneCell'=bF)(hn:n*48≤140737488355328):
  S N 22 #[sv] w fun e w'=>∃v,e=U v∧w'.ownsRow w.heap.size 78 3 v n cs∧Below w.heap.size w w':=by
 obtain⟨i0,aa,ac,ae,af⟩:=cI Abt;have ap:∀(w) (a) (n c n' c'),(binOp _ 39 (L a n c) _).run _ w=.ok _ w:=fun w a n c n' c'=>dM w _ _ a n c n' c' aI
 have ag:=h.1;have fin:∀ao c,sv=L ao n c→(ao=K→n=0)→(∀ad,ao=A ad→∀j u,cs[j]?=A u→w.cell? (ad.add j)=A u∧ad.block<w.heap.size)→(ao=K→c=0)→
   S N 22 #[sv] w fun e w'=>∃v,e=U v∧w'.ownsRow w.heap.size 78 3 v n cs∧Below w.heap.size w w':=by
  intro ao c he h0 hc ah;subst he;cases ao with
  |none=>
   obtain rfl:=h0 rfl;obtain rfl:=ah rfl;have:=aK (by omega);subst this;go_enter Tryz.func22,Tryz.ntmps22;go_wp2;go_ret;exact⟨_,rfl,dQ _ _ _ _,f _ _⟩
  |some ad=>
   have ai:(w.alloc _).ownsRow _ 78 3 _ 0 []:=dO w #[] 0 (aF _) (bD _) (by simp);have HC:Hid (∀j u,cs[j]?=A u→(w.alloc (Q #[] 78)).cell? (ad.add j)=A u):=fun j u hj=>by
    obtain⟨aj,aq⟩:=hc ad rfl j u hj;obtain⟨ab,ao,ak⟩:=ad;exact((Aq w _).cell (by unfold Addr.add;grind)).trans aj
   have HB:Hid _:=hn;clear hn hc;obtain⟨ab,ao,ak⟩:=ad;go_enter Tryz.func22,Tryz.ntmps22;go_wp2_with(at_builtin;refine aS _ rfl _ _ 39 rfl _ 78 i0 _ 3 48 aI aa ac ae af rfl (by simp) _ _ _ rfl ai _ n c cs rfl ag HC.out h1 (by have:=HB.out;simp only[z];omega) (by have:=HB.out;omega) (by simp) ?_);intro v' w1 al am _ _;go_wp2;go_ret;exact⟨v',rfl,al,((f _ w).alloc (aF _) _).grown am (by simp) (by intro k hk;simp[eE]at hk;omega)⟩
 rcases h.2 with⟨h0,ao,c,he,hnil⟩|⟨h0,b,off,cap,he,_,hb,_,_,hc⟩
 ·subst h0;have an:=aK (by omega);subst an;exact fin ao c he (fun _=>rfl) (fun ad _ j u hj=>by grind) hnil
 ·exact fin _ cap he (fun h=>by grind) (fun ad h j u hj=>by cases h;rw[aL];grind) (fun h=>by grind)
theorem Aiy (l)(ao)(n c:Nat)(f0:aQ)(p:Nat→Bool)(St:Nat→cH→Prop)(En:cH→Prop)(w:cH)(ag:∀i W,St i W→En W)(ae:∀i W,St i W→IsL Ng (fun _=>True) W (L ao n c) l)
  (ah:∀i cs W,l[i]?=A cs→St i W→S N 102 #[Z cs.toArray,f0] W fun e W'=>e=U (aR (p i))∧En W'∧(p i=aT→St (i+1) W')) (h0:St 0 w):
  S N 173 #[L ao n c,.func (.func 102) #[] #[f0]] w fun e W'=>e=U (O M (Bk p 0 l.length))∧En W':=by
 obtain⟨hn,ai⟩:=Ew (ae 0 w h0);subst hn;unfold z at ai;go_enter Tryz.func173,Tryz.ntmps173;go_wp2
 go_loopw[8] (fun i wr=>∃k:Nat,k≤l.length∧i=O M k∧St k wr∧Hid (Bk p 0 l.length=Bk p k (l.length-k))) (fun i _=>l.length-(cJ i).toNat)
 case atStart=>exact⟨0,bD _,rfl,h0,rfl⟩
 case round=>
  obtain⟨k,hk,rfl,aa,HP⟩:=hrel
  by_cases af:k<l.length
  ·obtain⟨x,hx⟩:∃x,l[k]?=A x:=⟨_,aA af⟩;obtain⟨b,ak,cs,rfl,_,hb,hR,ab⟩:=Av (ae k wr aa) hx;have HC:=ah k x wr hx aa;obtain⟨rfl,aj⟩:=hR;obtain⟨s0,a1,n1,c1,rfl⟩:=aj;have d0:=ab 0 _ rfl;have d1:=ab 1 _ rfl;simp only[Ng,aP]at d0 d1;have k0:(0:Int)≤k:=by omega
   have k1:k<(l.length:Int):=by omega
   have ac:Hid _:=L5 p k _ af;clear ab hx;generalize hq:p k=q at HC ac;clear hq;cases q
   ·go_wp2_with(go_fit HC;rintro e W' ⟨rfl,_,ad⟩);go_roundw
    case rel=>exact⟨_,by omega,by rfl,ad (by simp),by rw[HP.out,ac.out];rfl⟩
    case measure=>simp[cJ];omega
   ·go_wp2_with(go_fit HC;rintro e W' ⟨rfl,ad,_⟩);go_ret;exact⟨Au (by rw[HP.out,ac.out];rfl),ad⟩
  ·have HE:Hid (Bk p k (l.length-k)= -1):=by show _=_;rw[show l.length-k=0 from by omega,Bk]
   go_wp2;go_ret;exact⟨Au (by rw[HP.out,HE.out]),ag k _ aa⟩
theorem Afs (CS)(v)(f0)(p)(B)(w)(ad:w.ownsRow B 74 2 v CS.length CS.flatten)(hs:∀c∈CS,Lm c)(hB:B≤w.heap.size)
  (ak:∀i cs W,CS[i]?=A cs→w.grownBy W v.ownBlock→S N 102 #[Z cs.toArray,f0] W fun e W'=>e=U (aR (p i))∧Below W.heap.size W W'):
  S N 171 #[v,.func (.func 102) #[] #[f0]] w fun e w'=>∃v',e=U v'∧w'.ownsRow B 74 2 v' (Bv p 0 CS).length (Bv p 0 CS).flatten∧w.grownBy w' v.ownBlock∧Below B w w':=by
 have ae:∀c∈CS,c.length=2:=fun c hc=>Ag5 (hs c hc)
 obtain⟨ao,cap,rfl⟩:=(Ads ad hs).shape;have HI:=Aiy CS ao CS.length cap f0 p (fun _ W=>Below w.heap.size w W) (fun W=>Below w.heap.size w W) w (fun _ _ h=>h) (fun _ W h=>Ads (Aj ad h) hs)
  (fun i cs W hi hW=>(ak i cs W hi (Ck _ hW)).mono fun e W' ⟨he,hb⟩=>⟨he,Ac hW hb,fun _=>Ac hW hb⟩) (f _ _)
 rcases Od p CS.length 0 with hf|⟨i0,hf,_,hi0,hp0,hpre⟩
 ·have au:Hid (Bv p 0 CS=CS):=Io p CS 0 (Oc p _ _ hf);rw[hf]at HI;go_enter Tryz.func171,Tryz.ntmps171;go_wp2_with(go_fit HI;rintro e w1 ⟨rfl,aa⟩);go_ret;rw[au.out];exact⟨_,rfl,Aj ad aa,Ck _ aa,aa.mono hB⟩
 ·rw[hf]at HI;rcases G1 ad with⟨_,h0⟩|⟨g,cap',X0,hv,hBg,hX0,hncap,hcapm,hXl,hXt⟩
  ·omega
  cases hv;have al:Hid (Bv p 0 (CS.take (i0+1))=CS.take i0):=by
   show _=_;have hx:CS[i0]?=A (CS[i0]'(by omega)):=aA (by omega);rw[In p CS i0 _ hx,hp0,Io p (CS.take i0) 0 fun j h1 h2=>hpre j h1 (by simp at h2;omega)];simp
  have bi:CS.length≤9223372036854775807:=by
   simp only[z]at hcapm;omega
  clear hf hp0 hpre;go_enter Tryz.func171,Tryz.ntmps171;go_wp2_with(go_fit HI;rintro e w1 ⟨rfl,aa⟩);have ab:=(aa.block g (aH hX0)).trans hX0
  go_loopw[5,6] (fun iv jv wr=>∃i j:Nat,∃X:List aQ,i<j∧j≤CS.length∧iv=O M i∧jv=O M j∧wr.heap[g]?=A (Q X.toArray 74)∧X.length=cap*2∧Hid (X.take (i*2)=(Bv p 0 (CS.take j)).flatten)∧Hid (i=(Bv p 0 (CS.take j)).length)∧(∀m c,j≤m→CS[m]?=A c→∀r u,c[r]?=A u→X[m*2+r]?=A u)∧w.grownBy wr (A g)) (fun _ j _=>CS.length-(cJ j).toNat)
  case atStart=>
   refine⟨i0,i0+1,X0,by omega,by omega,rfl,by rfl,ab,hXl,?_,?_,?_,Ck _ aa⟩
   ·show _=_;rw[al.out];have e1:X0.take (i0*2)=(X0.take (CS.length*2)).take (i0*2):=by rw[bL,aO (by omega)]
    rw[e1,hXt,←aW i0 CS,bI,aW];have av:(CS.take i0).flatten.length=i0*2:=by rw[Gu fun c hc=>ae c (dK hc),bX,aO (by omega)]
    rw[←av,bM]
   ·show _=_;rw[al.out,bX,aO (by omega)]
   ·intro m c hm hc r u hr;have h1:=Ki ae hc r u hr;have bj:=(aG.1 hc).1;have aw:=(aG.1 hr).1;rw[ae c (aC hc)]at aw;rw[←hXt,bC (by omega)]at h1;exact h1
  case round=>
   obtain⟨i,j,X,bk,hj,rfl,rfl,hX,af,HT,HL,ag,am⟩:=hrel
   by_cases ax:j<CS.length
   ·obtain⟨x,hx⟩:∃x,CS[j]?=A x:=⟨_,aA ax⟩;have HC:=fun W hW=>ak j x W hx hW
    have an:=In p CS j x hx;obtain⟨s0,a1,n1,c1,rfl⟩:=hs x (aC hx);have d0:wr.cell? ⟨g,j*2,K⟩=A (J s0):=Aa hX (by have:=ag j _ (aF _) hx 0 _ rfl;grind);have d1:wr.cell? ⟨g,j*2+1,K⟩=A (L a1 n1 c1):=Aa hX (by simp_all);have j0:(0:Int)≤j:=by omega
    have j1:j<(CS.length:Int):=by omega
    have ah:w.grownBy (wr.alloc (Q [J s0,L a1 n1 c1].toArray 74)) _:=Cj am (Ck _ (Aq _ _));have ai:=HC _ ah;have ab:=Ad hX (Q [J s0,L a1 n1 c1].toArray 74);have HR:Hid _:=ag;have HS:Hid _:=an;clear hx ag HC an;generalize hq:p j=q at ai HS;cases q
    ·have ay:(#[J s0,L a1 n1 c1]:Array aQ).all (·.oneCell')=bF:=by simp[bE]
     go_wp2_with(first
      |(go_fit ai;rintro e W' ⟨rfl,ac⟩;have aj:=(ac.block g (aH ab)).trans ab;have t0:=(ac.block _ (by simp)).trans (Ab wr _);have x0:=Aa t0 (j:=0) rfl;have x1:=Aa t0 (j:=1) rfl;have az:W'.there g (i*2) 2:=(fun r hr=>⟨by rw[Aa aj (u:=X[i*2+r]'(by omega)) (by simp)];rfl,by simp[bG,aj]⟩);have ba:(0:Int)≤i:=(by omega);have bb:i<(CS.length:Int):=(by omega))
      |(refine wpList_store_mid rfl 74 _ _ rfl g (i*2) #[J s0,L a1 n1 c1] ?_ ?_ ?_ ?_ ?_ ?_;exact rfl;exact rfl;exact az;exact R5;exact ay))
     go_roundw
     case rel=>
      refine⟨_,_,_,_,_,_,_,_,_,_,_,_,_,_,_,_,_,_,_,_,_,_,_,?_,rfl⟩;refine⟨i+1,j+1,bH X (i*2) [J s0,L a1 n1 c1],by omega,by omega,by rfl,by rfl,?_,?_,?_,?_,?_,?_⟩
      ·exact Fo _ _ X _ aj (by grind)
      ·rw[aN _ _ _ (by grind)];omega
      ·show _=_;rw[HS.out];have e1:(i+1) *2=i*2+([J s0,L a1 n1 c1]:List aQ).length:=by simp;omega
       rw[e1,F5 _ _ _ (by omega),HT.out];simp
      ·show _=_;rw[HS.out];have:=HL.out;grind
      ·intro m c hm hc r u hr;rw[Jc _ _ _ _ (by omega) (by grind)];exact HR.out m c (by omega) hc r u hr
      ·exact Cj (Cj ah (Ck _ ac)) (Gg g _ _)
     case measure=>simp[cJ];omega
    ·go_wp2_with(go_fit ai;rintro e W' ⟨rfl,ac⟩);go_roundw
     case rel=>
      refine⟨_,_,_,_,_,_,_,_,_,_,_,_,_,_,_,_,_,_,_,_,_,_,_,?_,rfl⟩;refine⟨i,j+1,X,by omega,by omega,by first|rfl|go_num,by go_num,(ac.block g (aH ab)).trans ab,af,?_,?_,fun m c hm hc r u hr=>HR.out m c (by omega) hc r u hr,Cj ah (Ck _ ac)⟩
      ·show _=_;rw[HS.out,HT.out];simp
      ·show _=_;rw[HS.out];simpa using HL.out
     case measure=>simp[cJ];omega
   ·have bc:j=CS.length:=by omega
    subst bc;rw[eA]at HT HL;have v1:¬((CS.length:Int)<(CS.length:Int)):=by omega
    have ba:(0:Int)≤(i:Int):=by omega
    have bb:(i:Int)≤(CS.length:Int):=by omega
    have bl:¬(cap=i):=by omega
    have bm:(i:Int)≤(cap:Int):=by omega
    have hz:∀w,(dP 74).run N w=.ok (Z #[J ⟨#[]⟩,L K 0 0]) w:=fun w=>by
     obtain⟨i9,bd,be,_,_⟩:=cI Abs;simp[dP,typeInfo,bd,be]
    have ap:∀n,∀u∈(aE ((Z #[J ⟨#[]⟩,L K 0 0]):aQ).cells n).toList,u.oneCell'=bF:=fun n u hu=>An1 n u hu
    obtain⟨w2,Y,bn,hY,bf,aq,bg⟩:=Po (P:=N) (w:=wr) 38 74 2 (Z #[J ⟨#[]⟩,L K 0 0]) aJ hz rfl ap g (i*2) (CS.length-i) (cap-i) X 74 hX (by rw[af,Nat.sub_mul];have:CS.length*2≤cap*2:=bA _ hncap;omega);have HY:Hid _:=hY;have bh:Hid _:=aq;clear hY aq hz ap;go_wp2;go_ret;have ar:=Cj am bg;refine⟨_,rfl,?_,ar,K6 ar hBg hB⟩;rw[←HL.out];exact Jl hBg HY.out (by omega) hcapm (bf.trans af) (bh.out.trans HT.out)
theorem Aiz (l)(ao)(n c:Nat)(f0:aQ)(p:Nat→Bool)(St:Nat→cH→Prop)(En:cH→Prop)(w:cH)(ag:∀i W,St i W→En W)(ae:∀i W,St i W→IsL Nh (fun _=>True) W (L ao n c) l)
  (ah:∀i cs W,l[i]?=A cs→St i W→S N 104 #[Z cs.toArray,f0] W fun e W'=>e=U (aR (p i))∧En W'∧(p i=aT→St (i+1) W')) (h0:St 0 w):
  S N 222 #[L ao n c,.func (.func 104) #[] #[f0]] w fun e W'=>e=U (O M (Bk p 0 l.length))∧En W':=by
 obtain⟨hn,ai⟩:=Ew (ae 0 w h0);subst hn;unfold z at ai;go_enter Tryz.func222,Tryz.ntmps222;go_wp2
 go_loopw[8] (fun i wr=>∃k:Nat,k≤l.length∧i=O M k∧St k wr∧Hid (Bk p 0 l.length=Bk p k (l.length-k))) (fun i _=>l.length-(cJ i).toNat)
 case atStart=>exact⟨0,bD _,rfl,h0,rfl⟩
 case round=>
  obtain⟨k,hk,rfl,ab,HP⟩:=hrel
  by_cases af:k<l.length
  ·obtain⟨x,hx⟩:∃x,l[k]?=A x:=⟨_,aA af⟩;obtain⟨b,ak,cs,rfl,_,hb,hR,aa⟩:=Av (ae k wr ab) hx;have HC:=ah k x wr hx ab;obtain⟨rfl,aj⟩:=hR;obtain⟨s0,s1,s2,rfl⟩:=aj;have d0:=aa 0 _ rfl;have d1:=aa 1 _ rfl;have d2:=aa 2 _ rfl;simp only[Nh,aP]at d0 d1 d2;have k0:(0:Int)≤k:=by omega
   have k1:k<(l.length:Int):=by omega
   have ac:Hid _:=L5 p k _ af;clear aa hx;generalize hq:p k=q at HC ac;clear hq;cases q
   ·go_wp2_with(go_fit HC;rintro e W' ⟨rfl,_,ad⟩);go_roundw
    case rel=>exact⟨_,by omega,by rfl,ad (by simp),by rw[HP.out,ac.out];rfl⟩
    case measure=>simp[cJ];omega
   ·go_wp2_with(go_fit HC;rintro e W' ⟨rfl,ad,_⟩);go_ret;exact⟨Au (by rw[HP.out,ac.out];rfl),ad⟩
  ·have HE:Hid (Bk p k (l.length-k)= -1):=by show _=_;rw[show l.length-k=0 from by omega,Bk]
   go_wp2;go_ret;exact⟨Au (by rw[HP.out,HE.out]),ag k _ ab⟩
theorem Aft (CS)(v)(f0)(p)(B)(w)(ad:w.ownsRow B 78 3 v CS.length CS.flatten)(hs:∀c∈CS,Md c)(hB:B≤w.heap.size)
  (ak:∀i cs W,CS[i]?=A cs→w.grownBy W v.ownBlock→S N 104 #[Z cs.toArray,f0] W fun e W'=>e=U (aR (p i))∧Below W.heap.size W W'):
  S N 172 #[v,.func (.func 104) #[] #[f0]] w fun e w'=>∃v',e=U v'∧w'.ownsRow B 78 3 v' (Bv p 0 CS).length (Bv p 0 CS).flatten∧w.grownBy w' v.ownBlock∧Below B w w':=by
 have ae:∀c∈CS,c.length=3:=fun c hc=>Ag7 (hs c hc)
 obtain⟨ao,cap,rfl⟩:=(Adt ad hs).shape;have HI:=Aiz CS ao CS.length cap f0 p (fun _ W=>Below w.heap.size w W) (fun W=>Below w.heap.size w W) w (fun _ _ h=>h) (fun _ W h=>Adt (Aj ad h) hs)
  (fun i cs W hi hW=>(ak i cs W hi (Ck _ hW)).mono fun e W' ⟨he,hb⟩=>⟨he,Ac hW hb,fun _=>Ac hW hb⟩) (f _ _)
 rcases Od p CS.length 0 with hf|⟨i0,hf,_,hi0,hp0,hpre⟩
 ·have au:Hid (Bv p 0 CS=CS):=Io p CS 0 (Oc p _ _ hf);rw[hf]at HI;go_enter Tryz.func172,Tryz.ntmps172;go_wp2_with(go_fit HI;rintro e w1 ⟨rfl,aa⟩);go_ret;rw[au.out];exact⟨_,rfl,Aj ad aa,Ck _ aa,aa.mono hB⟩
 ·rw[hf]at HI;rcases G1 ad with⟨_,h0⟩|⟨g,cap',X0,hv,hBg,hX0,hncap,hcapm,hXl,hXt⟩
  ·omega
  cases hv;have al:Hid (Bv p 0 (CS.take (i0+1))=CS.take i0):=by
   show _=_;have hx:CS[i0]?=A (CS[i0]'(by omega)):=aA (by omega);rw[In p CS i0 _ hx,hp0,Io p (CS.take i0) 0 fun j h1 h2=>hpre j h1 (by simp at h2;omega)];simp
  have bi:CS.length≤9223372036854775807:=by
   simp only[z]at hcapm;omega
  clear hf hp0 hpre;go_enter Tryz.func172,Tryz.ntmps172;go_wp2_with(go_fit HI;rintro e w1 ⟨rfl,aa⟩);have ab:=(aa.block g (aH hX0)).trans hX0
  go_loopw[5,6] (fun iv jv wr=>∃i j:Nat,∃X:List aQ,i<j∧j≤CS.length∧iv=O M i∧jv=O M j∧wr.heap[g]?=A (Q X.toArray 78)∧X.length=cap*3∧Hid (X.take (i*3)=(Bv p 0 (CS.take j)).flatten)∧Hid (i=(Bv p 0 (CS.take j)).length)∧(∀m c,j≤m→CS[m]?=A c→∀r u,c[r]?=A u→X[m*3+r]?=A u)∧w.grownBy wr (A g)) (fun _ j _=>CS.length-(cJ j).toNat)
  case atStart=>
   refine⟨i0,i0+1,X0,by omega,by omega,rfl,by rfl,ab,hXl,?_,?_,?_,Ck _ aa⟩
   ·show _=_;rw[al.out];have e1:X0.take (i0*3)=(X0.take (CS.length*3)).take (i0*3):=by rw[bL,aO (by omega)]
    rw[e1,hXt,←aW i0 CS,bI,aW];have av:(CS.take i0).flatten.length=i0*3:=by rw[Gu fun c hc=>ae c (dK hc),bX,aO (by omega)]
    rw[←av,bM]
   ·show _=_;rw[al.out,bX,aO (by omega)]
   ·intro m c hm hc r u hr;have h1:=Ki ae hc r u hr;have bj:=(aG.1 hc).1;have aw:=(aG.1 hr).1;rw[ae c (aC hc)]at aw;rw[←hXt,bC (by omega)]at h1;exact h1
  case round=>
   obtain⟨i,j,X,bk,hj,rfl,rfl,hX,af,HT,HL,ag,am⟩:=hrel
   by_cases ax:j<CS.length
   ·obtain⟨x,hx⟩:∃x,CS[j]?=A x:=⟨_,aA ax⟩;have HC:=fun W hW=>ak j x W hx hW
    have an:=In p CS j x hx;obtain⟨s0,s1,s2,rfl⟩:=hs x (aC hx);have d0:wr.cell? ⟨g,j*3,K⟩=A (J s0):=Aa hX (by have:=ag j _ (aF _) hx 0 _ rfl;grind);have d1:wr.cell? ⟨g,j*3+1,K⟩=A (J s1):=Aa hX (by simp_all);have d2:wr.cell? ⟨g,j*3+2,K⟩=A (J s2):=Aa hX (by simp_all);have j0:(0:Int)≤j:=by omega
    have j1:j<(CS.length:Int):=by omega
    have ah:w.grownBy (wr.alloc (Q [J s0,J s1,J s2].toArray 78)) _:=Cj am (Ck _ (Aq _ _));have ai:=HC _ ah;have ab:=Ad hX (Q [J s0,J s1,J s2].toArray 78);have HR:Hid _:=ag;have HS:Hid _:=an;clear hx ag HC an;generalize hq:p j=q at ai HS;cases q
    ·have ay:(#[J s0,J s1,J s2]:Array aQ).all (·.oneCell')=bF:=by simp[bE]
     go_wp2_with(first
      |(go_fit ai;rintro e W' ⟨rfl,ac⟩;have aj:=(ac.block g (aH ab)).trans ab;have t0:=(ac.block _ (by simp)).trans (Ab wr _);have x0:=Aa t0 (j:=0) rfl;have x1:=Aa t0 (j:=1) rfl;have x2:=Aa t0 (j:=2) rfl;have az:W'.there g (i*3) 3:=(fun r hr=>⟨by rw[Aa aj (u:=X[i*3+r]'(by omega)) (by simp)];rfl,by simp[bG,aj]⟩);have ba:(0:Int)≤i:=(by omega);have bb:i<(CS.length:Int):=(by omega))
      |(refine wpList_store_mid rfl 78 _ _ rfl g (i*3) #[J s0,J s1,J s2] ?_ ?_ ?_ ?_ ?_ ?_;exact rfl;exact rfl;exact az;exact R6;exact ay))
     go_roundw
     case rel=>
      refine⟨_,_,_,_,_,_,_,_,_,_,_,_,_,_,_,_,_,_,_,_,_,_,_,?_,rfl⟩;refine⟨i+1,j+1,bH X (i*3) [J s0,J s1,J s2],by omega,by omega,by rfl,by rfl,?_,?_,?_,?_,?_,?_⟩
      ·exact Fo _ _ X _ aj (by grind)
      ·rw[aN _ _ _ (by grind)];omega
      ·show _=_;rw[HS.out];have e1:(i+1) *3=i*3+([J s0,J s1,J s2]:List aQ).length:=by simp;omega
       rw[e1,F5 _ _ _ (by omega),HT.out];simp
      ·show _=_;rw[HS.out];have:=HL.out;grind
      ·intro m c hm hc r u hr;rw[Jc _ _ _ _ (by omega) (by grind)];exact HR.out m c (by omega) hc r u hr
      ·exact Cj (Cj ah (Ck _ ac)) (Gg g _ _)
     case measure=>simp[cJ];omega
    ·go_wp2_with(go_fit ai;rintro e W' ⟨rfl,ac⟩);go_roundw
     case rel=>
      refine⟨_,_,_,_,_,_,_,_,_,_,_,_,_,_,_,_,_,_,_,_,_,_,_,?_,rfl⟩;refine⟨i,j+1,X,by omega,by omega,by first|rfl|go_num,by go_num,(ac.block g (aH ab)).trans ab,af,?_,?_,fun m c hm hc r u hr=>HR.out m c (by omega) hc r u hr,Cj ah (Ck _ ac)⟩
      ·show _=_;rw[HS.out,HT.out];simp
      ·show _=_;rw[HS.out];simpa using HL.out
     case measure=>simp[cJ];omega
   ·have bc:j=CS.length:=by omega
    subst bc;rw[eA]at HT HL;have v1:¬((CS.length:Int)<(CS.length:Int)):=by omega
    have ba:(0:Int)≤(i:Int):=by omega
    have bb:(i:Int)≤(CS.length:Int):=by omega
    have bl:¬(cap=i):=by omega
    have bm:(i:Int)≤(cap:Int):=by omega
    have hz:∀w,(dP 78).run N w=.ok (Z #[J ⟨#[]⟩,J ⟨#[]⟩,J ⟨#[]⟩]) w:=fun w=>by
     obtain⟨i9,bd,be,_,_⟩:=cI Abt;simp[dP,typeInfo,bd,be]
    have ap:∀n,∀u∈(aE ((Z #[J ⟨#[]⟩,J ⟨#[]⟩,J ⟨#[]⟩]):aQ).cells n).toList,u.oneCell'=bF:=fun n u hu=>An2 n u hu
    obtain⟨w2,Y,bn,hY,bf,aq,bg⟩:=Po (P:=N) (w:=wr) 39 78 3 (Z #[J ⟨#[]⟩,J ⟨#[]⟩,J ⟨#[]⟩]) aI hz rfl ap g (i*3) (CS.length-i) (cap-i) X 78 hX (by rw[af,Nat.sub_mul];have:CS.length*3≤cap*3:=bA _ hncap;omega);have HY:Hid _:=hY;have bh:Hid _:=aq;clear hY aq hz ap;go_wp2;go_ret;have ar:=Cj am bg;refine⟨_,rfl,?_,ar,K6 ar hBg hB⟩;rw[←HL.out];exact Jl hBg HY.out (by omega) hcapm (bf.trans af) (bh.out.trans HT.out)
end
section
open Go.RowKit Go.Maps
theorem Ag9 (p)(k n)(h:k<n):Bz p k (n-k)=(p k||Bz p (k+1) (n-(k+1))):=by
 rw[show n-k=(n-(k+1))+1 from by omega,Bz]
def Eb (l:List Wd)(i:Nat):Bool:=match l[i]?,l[i+1]? with
 |some a,A b=>!aV a.toList b.toList
 |_,_=>aT
def Ic (l:List Wd):Bool:=!Bz (Eb l) 0 (l.length-1)
theorem Ig (aa:Wd)(ao)(n c)(w):S N 98 #[Z #[J aa,L ao n c]] w fun e w'=>e=U (J aa)∧Below w.heap.size w w':=by
 go_enter Tryz.func98,Tryz.ntmps98;go_wp2;go_ret;exact⟨rfl,Aq _ _⟩
theorem Ih (aa t c:Wd)(w):S N 100 #[Z #[J aa,J t,J c]] w fun e w'=>e=U (J aa)∧Below w.heap.size w w':=by
 go_enter Tryz.func100,Tryz.ntmps100;go_wp2;go_ret;exact⟨rfl,Aq _ _⟩
theorem Mh {W W'}{b off k}{a0 a1 a2 a3}(h:W.cell? ⟨b,off+k*2,K⟩=A a0∧W.cell? ⟨b,off+k*2+1,K⟩=A a1∧W.cell? ⟨b,off+(k+1) *2,K⟩=A a2∧W.cell? ⟨b,off+(k+1) *2+1,K⟩=A a3)(hb:Below W.heap.size W W')(hl:b<W.heap.size):W'.cell? ⟨b,off+k*2,K⟩=A a0∧W'.cell? ⟨b,off+k*2+1,K⟩=A a1∧W'.cell? ⟨b,off+(k+1) *2,K⟩=A a2∧W'.cell? ⟨b,off+(k+1) *2+1,K⟩=A a3:=by
 have kc:=fun o=>hb.cell (p:=⟨b,o,K⟩) hl
 grind
theorem Axz (l:List TabD)(sv:aQ)(C:Nat)(w:cH)(hl:IsL Ci (fun k=>k<C) w sv l)(hC:C≤w.heap.size):
  S N 146 #[sv,.func (.func 98) #[] #[]] w fun e w'=>e=U (aR (Ic (l.map TabD.name)))∧Below w.heap.size w w':=by
 obtain⟨ao,c,rfl⟩:=hl.shape;have ap:=(Ew hl).2;unfold z at ap;have E:Hid (Ic (l.map TabD.name)= !Bz (Eb (l.map TabD.name)) 0 (l.length-1)):=by show _=_;rw[Ic,eI]
 generalize Ic (l.map TabD.name)=r at E;go_enter Tryz.func146,Tryz.ntmps146;go_wp2
 go_loopw[5] (fun i wr=>∃k:Nat,k≤l.length-1∧i=O M ((k:Int)+1)∧Below w.heap.size w wr∧Hid (Bz (Eb (l.map TabD.name)) 0 (l.length-1)=Bz (Eb (l.map TabD.name)) k (l.length-1-k))) (fun i _=>l.length-(cJ i).toNat)
 case atStart=>exact⟨0,bD _,rfl,f _ _,rfl⟩
 case round=>
  obtain⟨k,hk,rfl,ad,HP⟩:=hrel
  by_cases aq:k+1<l.length
  ·obtain⟨x,hx⟩:∃x,l[k]?=A x:=⟨_,aA (by omega)⟩;obtain⟨y,hy⟩:∃y,l[k+1]?=A y:=⟨_,aA aq⟩;have aj:=hl.keep (Ae (ad.mono hC));obtain⟨b,aa,ax,rfl,_,hb,ar,ak⟩:=Av aj hx;obtain⟨b',ay,az,an,_,_,au,al⟩:=Av aj hy;simp only[dA,eD,and_true]at an;obtain⟨rfl,rfl⟩:=an;obtain⟨ba,rfl,av⟩:=ar;obtain⟨ae,af,rfl⟩:=av.shape;obtain⟨bb,rfl,aw⟩:=au;obtain⟨ag,ah,rfl⟩:=aw.shape;have d0:=ak 0 _ rfl;have d1:=ak 1 _ rfl;have e0:=al 0 _ rfl;have e1:=al 1 _ rfl;simp only[Ci,aP]at d0 d1 e0 e1;have ai:Hid (Bz (Eb (l.map TabD.name)) k (l.length-1-k)=(!aV x.name.toList y.name.toList||Bz (Eb (l.map TabD.name)) (k+1) (l.length-1-(k+1)))):=by
    show _=_;rw[Ag9 _ k _ (by omega),Eb,bR,bR,hx,hy];rfl
   have k0:(0:Int)≤k+1:=by omega
   have k1:k+1<(l.length:Int):=by omega
   have k2:dT (k+1-1)=k:=by unfold dT;omega
   have k3:(0:Int)≤k:=by omega
   have k4:k<(l.length:Int):=by omega
   have k5:((k:Int)+1).toNat=k+1:=by omega
   have k6:IntKind.i64.wrap k=k:=by rw[aY];omega
   have S0:=(show wr.cell? _=A _∧wr.cell? _=A _∧wr.cell? _=A _∧wr.cell? _=A _ from⟨d0,d1,e0,e1⟩);clear ak al hx hy aj;cases hq:aV x.name.toList y.name.toList
   ·have am:Hid (Bz (Eb (l.map TabD.name)) k (l.length-1-k)=bF):=by show _=_;rw[ai.out,hq];rfl
    clear ai;go_wp2_with fail
    go_region_held3(fun w'=>w'.cell? ⟨b,aa+k*2,K⟩=A (J x.name)∧w'.cell? ⟨b,aa+k*2+1,K⟩=A (L ae x.cols.length af)∧w'.cell? ⟨b,aa+(k+1) *2,K⟩=A (J y.name)∧w'.cell? ⟨b,aa+(k+1) *2+1,K⟩=A (L ag y.cols.length ah)) (first|simp_all|exact S0)
     (first|(go_at_call_of 98 (bJ #[J x.name,L ae x.cols.length af]);go_fit(Ig _ ae _ af _);rintro r0 w2 ⟨rfl,ab⟩;have S1:=Mh (W:=wr.drew) S0 ab hb;have z1:=aB hb ab.size)|(go_at_call_of 98 (bJ #[J y.name,L ag y.cols.length ah]);go_fit(Ig _ ag _ ah _);rintro r1 w3 ⟨rfl,ac⟩;have S2:=Mh S1 ac z1;have z2:=aB z1 ac.size))
    go_wp2;go_ret;exact⟨Ah (by rw[E.out,HP.out,am.out];rfl),ad.trans ((Ac (Ac (f _ _).drew ab) ac).mono ad.size)⟩
   ·have am:Hid (Bz (Eb (l.map TabD.name)) k (l.length-1-k)=Bz (Eb (l.map TabD.name)) (k+1) (l.length-1-(k+1))):=by show _=_;rw[ai.out,hq];rfl
    clear ai;go_wp2_with fail
    go_region_held3(fun w'=>w'.cell? ⟨b,aa+k*2,K⟩=A (J x.name)∧w'.cell? ⟨b,aa+k*2+1,K⟩=A (L ae x.cols.length af)∧w'.cell? ⟨b,aa+(k+1) *2,K⟩=A (J y.name)∧w'.cell? ⟨b,aa+(k+1) *2+1,K⟩=A (L ag y.cols.length ah)) (first|simp_all|exact S0)
     (first|(go_at_call_of 98 (bJ #[J x.name,L ae x.cols.length af]);go_fit(Ig _ ae _ af _);rintro r0 w2 ⟨rfl,ab⟩;have S1:=Mh (W:=wr.drew) S0 ab hb;have z1:=aB hb ab.size)|(go_at_call_of 98 (bJ #[J y.name,L ag y.cols.length ah]);go_fit(Ig _ ag _ ah _);rintro r1 w3 ⟨rfl,ac⟩;have S2:=Mh S1 ac z1;have z2:=aB z1 ac.size))
    go_wp2;go_roundw
    case rel=>exact⟨_,by omega,by rfl,ad.trans ((Ac (Ac (f _ _).drew ab) ac).mono ad.size),HP.out.trans am.out⟩
    case measure=>simp[cJ];omega
  ·have HE:Hid (Bz (Eb (l.map TabD.name)) k (l.length-1-k)=aT):=by show _=_;rw[show l.length-1-k=0 from by omega];rfl
   have k1:¬k+1<(l.length:Int):=by omega
   go_wp2;go_ret;exact⟨Ah (by rw[E.out,HP.out,HE.out];rfl),ad⟩
theorem Mi {W W'}{b off k}{a0 a1 a2 a3 a4 a5}(h:W.cell? ⟨b,off+k*3,K⟩=A a0∧W.cell? ⟨b,off+k*3+1,K⟩=A a1∧W.cell? ⟨b,off+k*3+2,K⟩=A a2∧W.cell? ⟨b,off+(k+1) *3,K⟩=A a3∧W.cell? ⟨b,off+(k+1) *3+1,K⟩=A a4∧W.cell? ⟨b,off+(k+1) *3+2,K⟩=A a5)(hb:Below W.heap.size W W')(hl:b<W.heap.size):W'.cell? ⟨b,off+k*3,K⟩=A a0∧W'.cell? ⟨b,off+k*3+1,K⟩=A a1∧W'.cell? ⟨b,off+k*3+2,K⟩=A a2∧W'.cell? ⟨b,off+(k+1) *3,K⟩=A a3∧W'.cell? ⟨b,off+(k+1) *3+1,K⟩=A a4∧W'.cell? ⟨b,off+(k+1) *3+2,K⟩=A a5:=by
 have kc:=fun o=>hb.cell (p:=⟨b,o,K⟩) hl
 grind
theorem Ax0 (l:List IdxD)(sv:aQ)(C:Nat)(w:cH)(hl:IsL D6 (fun k=>k<C) w sv l)(hC:C≤w.heap.size):
  S N 150 #[sv,.func (.func 100) #[] #[]] w fun e w'=>e=U (aR (Ic (l.map IdxD.name)))∧Below w.heap.size w w':=by
 obtain⟨ao,c,rfl⟩:=hl.shape;have ak:=(Ew hl).2;unfold z at ak;have E:Hid (Ic (l.map IdxD.name)= !Bz (Eb (l.map IdxD.name)) 0 (l.length-1)):=by show _=_;rw[Ic,eI]
 generalize Ic (l.map IdxD.name)=r at E;go_enter Tryz.func150,Tryz.ntmps150;go_wp2
 go_loopw[5] (fun i wr=>∃k:Nat,k≤l.length-1∧i=O M ((k:Int)+1)∧Below w.heap.size w wr∧Hid (Bz (Eb (l.map IdxD.name)) 0 (l.length-1)=Bz (Eb (l.map IdxD.name)) k (l.length-1-k))) (fun i _=>l.length-(cJ i).toNat)
 case atStart=>exact⟨0,bD _,rfl,f _ _,rfl⟩
 case round=>
  obtain⟨k,hk,rfl,ad,HP⟩:=hrel
  by_cases al:k+1<l.length
  ·obtain⟨x,hx⟩:∃x,l[k]?=A x:=⟨_,aA (by omega)⟩;obtain⟨y,hy⟩:∃y,l[k+1]?=A y:=⟨_,aA al⟩;have ah:=hl.keep (Ae (ad.mono hC));obtain⟨b,aa,ap,rfl,_,hb,am,ae⟩:=Av ah hx;obtain⟨b',aq,ar,aj,_,_,an,af⟩:=Av ah hy;simp only[dA,eD,and_true]at aj;obtain⟨rfl,rfl⟩:=aj;obtain rfl:=am;obtain rfl:=an;have d0:=ae 0 _ rfl;have d1:=ae 1 _ rfl;have d2:=ae 2 _ rfl;have e0:=af 0 _ rfl;have e1:=af 1 _ rfl;have e2:=af 2 _ rfl;simp only[D6,aP]at d0 d1 d2 e0 e1 e2;have ag:Hid (Bz (Eb (l.map IdxD.name)) k (l.length-1-k)=(!aV x.name.toList y.name.toList||Bz (Eb (l.map IdxD.name)) (k+1) (l.length-1-(k+1)))):=by
    show _=_;rw[Ag9 _ k _ (by omega),Eb,bR,bR,hx,hy];rfl
   have k0:(0:Int)≤k+1:=by omega
   have k1:k+1<(l.length:Int):=by omega
   have k2:dT (k+1-1)=k:=by unfold dT;omega
   have k3:(0:Int)≤k:=by omega
   have k4:k<(l.length:Int):=by omega
   have k5:((k:Int)+1).toNat=k+1:=by omega
   have k6:IntKind.i64.wrap k=k:=by rw[aY];omega
   have S0:=(show wr.cell? _=A _∧wr.cell? _=A _∧wr.cell? _=A _∧wr.cell? _=A _∧wr.cell? _=A _∧wr.cell? _=A _ from⟨d0,d1,d2,e0,e1,e2⟩);clear ae af hx hy ah;cases hq:aV x.name.toList y.name.toList
   ·have ai:Hid (Bz (Eb (l.map IdxD.name)) k (l.length-1-k)=bF):=by show _=_;rw[ag.out,hq];rfl
    clear ag;go_wp2_with fail
    go_region_held3(fun w'=>w'.cell? ⟨b,aa+k*3,K⟩=A (J x.name)∧w'.cell? ⟨b,aa+k*3+1,K⟩=A (J x.table)∧w'.cell? ⟨b,aa+k*3+2,K⟩=A (J x.col)∧w'.cell? ⟨b,aa+(k+1) *3,K⟩=A (J y.name)∧w'.cell? ⟨b,aa+(k+1) *3+1,K⟩=A (J y.table)∧w'.cell? ⟨b,aa+(k+1) *3+2,K⟩=A (J y.col)) (first|assumption|exact S0)
     (first|(go_at_call_of 100 (bJ #[J x.name,J x.table,J x.col]);go_fit(Ih _ _ _ _);rintro r0 w2 ⟨rfl,ab⟩;have S1:=Mi (W:=wr.drew) S0 ab hb;have z1:=aB hb ab.size)|(go_at_call_of 100 (bJ #[J y.name,J y.table,J y.col]);go_fit(Ih _ _ _ _);rintro r1 w3 ⟨rfl,ac⟩;have S2:=Mi S1 ac z1;have z2:=aB z1 ac.size))
    go_wp2;go_ret;exact⟨Ah (by rw[E.out,HP.out,ai.out];rfl),ad.trans ((Ac (Ac (f _ _).drew ab) ac).mono ad.size)⟩
   ·have ai:Hid (Bz (Eb (l.map IdxD.name)) k (l.length-1-k)=Bz (Eb (l.map IdxD.name)) (k+1) (l.length-1-(k+1))):=by show _=_;rw[ag.out,hq];rfl
    clear ag;go_wp2_with fail
    go_region_held3(fun w'=>w'.cell? ⟨b,aa+k*3,K⟩=A (J x.name)∧w'.cell? ⟨b,aa+k*3+1,K⟩=A (J x.table)∧w'.cell? ⟨b,aa+k*3+2,K⟩=A (J x.col)∧w'.cell? ⟨b,aa+(k+1) *3,K⟩=A (J y.name)∧w'.cell? ⟨b,aa+(k+1) *3+1,K⟩=A (J y.table)∧w'.cell? ⟨b,aa+(k+1) *3+2,K⟩=A (J y.col)) (first|assumption|exact S0)
     (first|(go_at_call_of 100 (bJ #[J x.name,J x.table,J x.col]);go_fit(Ih _ _ _ _);rintro r0 w2 ⟨rfl,ab⟩;have S1:=Mi (W:=wr.drew) S0 ab hb;have z1:=aB hb ab.size)|(go_at_call_of 100 (bJ #[J y.name,J y.table,J y.col]);go_fit(Ih _ _ _ _);rintro r1 w3 ⟨rfl,ac⟩;have S2:=Mi S1 ac z1;have z2:=aB z1 ac.size))
    go_wp2;go_roundw
    case rel=>exact⟨_,by omega,by rfl,ad.trans ((Ac (Ac (f _ _).drew ab) ac).mono ad.size),HP.out.trans ai.out⟩
    case measure=>simp[cJ];omega
  ·have HE:Hid (Bz (Eb (l.map IdxD.name)) k (l.length-1-k)=aT):=by show _=_;rw[show l.length-1-k=0 from by omega];rfl
   have k1:¬k+1<(l.length:Int):=by omega
   go_wp2;go_ret;exact⟨Ah (by rw[E.out,HP.out,HE.out];rfl),ad⟩
theorem Aug (l)(ao)(n c)(f0)(af:Wd)(cf:Nat→Int)(m0)(w)(ad:∀W,Below w.heap.size w W→IsL Ng (fun _=>True) W (L ao n c) l)
  (hm:m0≤l.length) (ag:∀t,t<m0→cf t<0) (ah:∀t,m0≤t→t<l.length→¬cf t<0) (hl:l.length≤1000000)
  (ai:∀i cs W,l[i]?=A cs→Below w.heap.size w W→S N 164 #[Z cs.toArray,J af,f0] W fun e W'=>e=U (O M (cf i))∧Below W.heap.size W W'):
  S N 166 #[L ao n c,J af,.func (.func 164) #[] #[f0]] w fun e w'=>∃b,e=U (.tuple #[O M m0,aR b])∧Below w.heap.size w w':=by
 obtain⟨hn,au⟩:=Ew (ad w (f _ _));subst hn;have aj:Hid _:=ag;have ak:Hid _:=ah;clear ag ah;go_enter Tryz.func166,Tryz.ntmps166;go_wp2
 go_loopg[9,10] l.length (fun kx s9 al wr=>∃lo hi:Nat,s9=O M lo∧al=O M hi∧lo≤m0∧m0≤hi∧hi≤l.length∧hi-lo≤kx∧Below w.heap.size w wr)
 case atStart=>exact⟨0,l.length,rfl,rfl,bD _,hm,aF _,by omega,f _ _⟩
 case round=>
  obtain⟨lo,hi,rfl,rfl,am,an,ap,hg,aa⟩:=hrel
  by_cases av:lo<hi
  ·have k0:(0:Int)≤((lo:Int)+(hi:Int))/2:=by omega
   have k1:((lo:Int)+(hi:Int))/2<(l.length:Int):=by omega
   have k2:(((lo:Int)+(hi:Int))/2).toNat=(lo+hi)/2:=by omega
   obtain⟨x,hx⟩:∃x,l[(lo+hi)/2]?=A x:=⟨_,aA (by omega)⟩;obtain⟨b,aq,cs,ae,_,hb,hR,ab⟩:=Av (ad wr aa) hx;subst ae;have HC:=ai _ x wr hx aa;obtain⟨rfl,s0,a1,n1,c1,rfl⟩:=hR;have d0:=ab 0 _ rfl;have d1:=ab 1 _ rfl;simp only[Ng,aP]at d0 d1;clear ab hx;have H1:=aj.out ((lo+hi)/2);have H2:=ak.out ((lo+hi)/2);generalize cf _=q at HC H1 H2
   by_cases hq:q<0
   ·have aw:(lo+hi)/2<m0:=eG fun h=>by omega
    clear H1 H2;go_wp2_with(go_fit HC;rintro e W' ⟨rfl,ac⟩)
    go_roundg (hi-((lo+hi)/2+1))
    case measure=>omega
    case rel=>exact⟨(lo+hi)/2+1,hi,by rw[show((lo:Int)+(hi:Int))/2+1=(((lo+hi)/2+1:Nat):Int) by omega],rfl,by omega,an,ap,by omega,Ac aa ac⟩
   ·have ar:m0≤(lo+hi)/2:=eH fun h=>hq (H1 h)
    clear H1 H2;go_wp2_with(go_fit HC;rintro e W' ⟨rfl,ac⟩)
    go_roundg ((lo+hi)/2-lo)
    case measure=>omega
    case rel=>exact⟨lo,(lo+hi)/2,rfl,by rw[show((lo:Int)+(hi:Int))/2=(((lo+hi)/2:Nat):Int) by omega],am,ar,by omega,by omega,Ac aa ac⟩
  ·obtain rfl:m0=lo:=by omega
   obtain rfl:m0=hi:=by omega
   by_cases hn:m0<l.length
   ·have k0:(0:Int)≤(m0:Int):=by omega
    have k1:(m0:Int)<(l.length:Int):=by omega
    obtain⟨x,hx⟩:∃x,l[m0]?=A x:=⟨_,aA (by omega)⟩;obtain⟨b,aq,cs,ae,_,hb,hR,ab⟩:=Av (ad wr aa) hx;subst ae;have HC:=ai _ x wr hx aa;obtain⟨rfl,s0,a1,n1,c1,rfl⟩:=hR;have d0:=ab 0 _ rfl;have d1:=ab 1 _ rfl;simp only[Ng,aP]at d0 d1;clear ab hx;generalize cf m0=q at HC;go_wp2_with(go_fit HC;rintro e W' ⟨rfl,ac⟩);go_ret2;exact⟨_,rfl,Ac aa ac⟩
   ·have k1:¬m0<(l.length:Int):=by omega
    go_wp2;go_ret2
    first|exact⟨_,rfl,aa⟩|exact⟨.inl rfl,aa⟩
theorem An3 (s0 aa:Wd)(a1)(n1 c1)(pb)(w)(hp:w.cell? ⟨pb,0,K⟩=A (.func (.func 98) #[] #[]))(ac:pb<w.heap.size):
  S N 164 #[Z [J s0,L a1 n1 c1].toArray,J aa,cF (A ⟨pb,0,K⟩)] w fun e w'=>e=U (O M (Fy s0 aa))∧Below w.heap.size w w':=by
 have ab:=Aq w (Q [J s0,L a1 n1 c1].toArray 74);have ae:=(ab.cell ac).trans hp;have HC:=fun W=>Qj s0 aa W
 generalize Fy s0 aa=r at HC;go_enter Tryz.func164,Tryz.ntmps164;go_wp2_with(first|(go_fit(Ig s0 a1 n1 c1 _);rintro e W1 ⟨rfl,ad⟩)|(go_fit(HC _);rintro e W2 ⟨rfl,rfl⟩));go_ret;exact⟨rfl,Ac ab ad⟩
theorem Auh (l)(ao)(n c)(f0)(af:Wd)(cf:Nat→Int)(m0)(w)(ad:∀W,Below w.heap.size w W→IsL Nh (fun _=>True) W (L ao n c) l)
  (hm:m0≤l.length) (ag:∀t,t<m0→cf t<0) (ah:∀t,m0≤t→t<l.length→¬cf t<0) (hl:l.length≤1000000)
  (ai:∀i cs W,l[i]?=A cs→Below w.heap.size w W→S N 168 #[Z cs.toArray,J af,f0] W fun e W'=>e=U (O M (cf i))∧Below W.heap.size W W'):
  S N 169 #[L ao n c,J af,.func (.func 168) #[] #[f0]] w fun e w'=>∃b,e=U (.tuple #[O M m0,aR b])∧Below w.heap.size w w':=by
 obtain⟨hn,au⟩:=Ew (ad w (f _ _));subst hn;have aj:Hid _:=ag;have ak:Hid _:=ah;clear ag ah;go_enter Tryz.func169,Tryz.ntmps169;go_wp2
 go_loopg[9,10] l.length (fun kx s9 al wr=>∃lo hi:Nat,s9=O M lo∧al=O M hi∧lo≤m0∧m0≤hi∧hi≤l.length∧hi-lo≤kx∧Below w.heap.size w wr)
 case atStart=>exact⟨0,l.length,rfl,rfl,bD _,hm,aF _,by omega,f _ _⟩
 case round=>
  obtain⟨lo,hi,rfl,rfl,am,an,ap,hg,aa⟩:=hrel
  by_cases av:lo<hi
  ·have k0:(0:Int)≤((lo:Int)+(hi:Int))/2:=by omega
   have k1:((lo:Int)+(hi:Int))/2<(l.length:Int):=by omega
   have k2:(((lo:Int)+(hi:Int))/2).toNat=(lo+hi)/2:=by omega
   obtain⟨x,hx⟩:∃x,l[(lo+hi)/2]?=A x:=⟨_,aA (by omega)⟩;obtain⟨b,aq,cs,ae,_,hb,hR,ab⟩:=Av (ad wr aa) hx;subst ae;have HC:=ai _ x wr hx aa;obtain⟨rfl,s0,s1,s2,rfl⟩:=hR;have d0:=ab 0 _ rfl;have d1:=ab 1 _ rfl;have d2:=ab 2 _ rfl;simp only[Nh,aP]at d0 d1 d2;clear ab hx;have H1:=aj.out ((lo+hi)/2);have H2:=ak.out ((lo+hi)/2);generalize cf _=q at HC H1 H2
   by_cases hq:q<0
   ·have aw:(lo+hi)/2<m0:=eG fun h=>by omega
    clear H1 H2;go_wp2_with(go_fit HC;rintro e W' ⟨rfl,ac⟩)
    go_roundg (hi-((lo+hi)/2+1))
    case measure=>omega
    case rel=>exact⟨(lo+hi)/2+1,hi,by rw[show((lo:Int)+(hi:Int))/2+1=(((lo+hi)/2+1:Nat):Int) by omega],rfl,by omega,an,ap,by omega,Ac aa ac⟩
   ·have ar:m0≤(lo+hi)/2:=eH fun h=>hq (H1 h)
    clear H1 H2;go_wp2_with(go_fit HC;rintro e W' ⟨rfl,ac⟩)
    go_roundg ((lo+hi)/2-lo)
    case measure=>omega
    case rel=>exact⟨lo,(lo+hi)/2,rfl,by rw[show((lo:Int)+(hi:Int))/2=(((lo+hi)/2:Nat):Int) by omega],am,ar,by omega,by omega,Ac aa ac⟩
  ·obtain rfl:m0=lo:=by omega
   obtain rfl:m0=hi:=by omega
   by_cases hn:m0<l.length
   ·have k0:(0:Int)≤(m0:Int):=by omega
    have k1:(m0:Int)<(l.length:Int):=by omega
    obtain⟨x,hx⟩:∃x,l[m0]?=A x:=⟨_,aA (by omega)⟩;obtain⟨b,aq,cs,ae,_,hb,hR,ab⟩:=Av (ad wr aa) hx;subst ae;have HC:=ai _ x wr hx aa;obtain⟨rfl,s0,s1,s2,rfl⟩:=hR;have d0:=ab 0 _ rfl;have d1:=ab 1 _ rfl;have d2:=ab 2 _ rfl;simp only[Nh,aP]at d0 d1 d2;clear ab hx;generalize cf m0=q at HC;go_wp2_with(go_fit HC;rintro e W' ⟨rfl,ac⟩);go_ret2;exact⟨_,rfl,Ac aa ac⟩
   ·have k1:¬m0<(l.length:Int):=by omega
    go_wp2;go_ret2
    first|exact⟨_,rfl,aa⟩|exact⟨.inl rfl,aa⟩
theorem An4 (s0 aa:Wd)(s1 s2:Wd)(pb)(w)(hp:w.cell? ⟨pb,0,K⟩=A (.func (.func 100) #[] #[]))(ac:pb<w.heap.size):
  S N 168 #[Z [J s0,J s1,J s2].toArray,J aa,cF (A ⟨pb,0,K⟩)] w fun e w'=>e=U (O M (Fy s0 aa))∧Below w.heap.size w w':=by
 have ab:=Aq w (Q [J s0,J s1,J s2].toArray 78);have ae:=(ab.cell ac).trans hp;have HC:=fun W=>Qj s0 aa W
 generalize Fy s0 aa=r at HC;go_enter Tryz.func168,Tryz.ntmps168;go_wp2_with(first|(go_fit(Ih s0 s1 s2 _);rintro e W1 ⟨rfl,ad⟩)|(go_fit(HC _);rintro e W2 ⟨rfl,rfl⟩));go_ret;exact⟨rfl,Ac ab ad⟩
theorem Ak2 {α}(X aa ab cx:List α)(hX:X.take (aa.length+ab.length)=aa++ab)(hl:aa.length+cx.length+ab.length≤X.length):
  (bH (bH X (aa.length+cx.length) ab) aa.length cx).take (aa.length+(cx.length+ab.length))=aa++(cx++ab):=by
 have e1:=by
  have:=congrArg (List.take aa.length) hX;rw[bL,aO (by omega),bM]at this;exact this
 have hL:=aN _ _ _ hl;have e2:=by
  have:=congrArg (List.take aa.length) (Tp X (aa.length+cx.length) ab (by omega));rw[bL,aO (by omega),bL,aO (by omega),e1]at this;exact this
 have e3:((bH X (aa.length+cx.length) ab).drop (aa.length+cx.length)).take ab.length=ab:=by
  have:=F5 X (aa.length+cx.length) ab (by omega);rw[←aW (aa.length+cx.length) (bH X (aa.length+cx.length) ab),Tp X _ _ (by omega)]at this;generalize(bH X (aa.length+cx.length) ab).drop (aa.length+cx.length)=D at this⊢;have h3:=congrArg (List.drop (aa.length+cx.length)) this;rw[eJ (by simp;omega),cU]at h3;rw[cE (l:=X.take _) (by grind),eJ (by simp;omega)]at h3;rw[show aa.length+cx.length+ab.length-(X.take (aa.length+cx.length)).length=ab.length by simp;omega]at h3;exact h3
 rw[bH,e2,cU,cE (by omega),show aa.length+(cx.length+ab.length)-aa.length=cx.length+ab.length by omega,cU,cE (by omega),show cx.length+ab.length-cx.length=ab.length by omega,e3]
theorem Ak3 {α}(X aa ab cx:List α)(hX:X.take aa.length=aa)(hl:aa.length+cx.length+ab.length≤X.length):
  (bH (bH X aa.length cx) (aa.length+cx.length) ab).take (aa.length+(cx.length+ab.length))=aa++(cx++ab):=by
 have hL:(bH X aa.length cx).length=X.length:=aN _ _ _ (by omega);rw[←Nat.add_assoc,F5 _ _ _ (by omega),F5 _ _ _ (by omega),hX];simp
theorem A21 (cs1 cs2 cx)(n1 n2:Nat)(v:aQ)(B vb:Nat)(w:cH)(ho:w.ownsRow B 74 2 v (n1+n2) (cs1++cs2))(h1:cs1.length=n1*2)(h2:cs2.length=n2*2)(hx:cx.length=2)
  (one:∀u∈cs1++cs2,u.oneCell'=bF) (ae:∀u∈cx,u.oneCell'=bF) (hn:n1+n2≤1000000) (hv:w.heap[vb]?=A (Q cx.toArray 74)) (ca:v.ownBlock≠A vb) (hB:B≤w.heap.size):
  S N 167 #[v,O M n1,L (A ⟨vb,0,K⟩) 1 1] w fun e w'=>∃v',e=U v'∧w'.ownsRow B 74 2 v' (n1+n2+1) (cs1++(cx++cs2))∧Below B w w':=by
 obtain⟨i0,ai,aj,ak,af⟩:=cI Abs;have av:=aH hv;have aw:∀j u,cx[j]?=A u→w.cell? ((⟨vb,0,K⟩:Addr).add j)=A u:=fun j u hj=>by
  rw[aL,bB];exact Aa hv (by grind)
 rcases dU n2 with rfl|h0
 ·obtain rfl:=aK (by omega);simp only[eK,aP]at ho hn⊢;have HV:Hid _:=aw;have ax:∀ao cap,v=L ao n1 cap→(ao=K→n1=0∧cap=0)→(∀a,ao=A a→∃g,a=⟨g,0,K⟩)→S N 167 #[v,O M n1,L (A ⟨vb,0,K⟩) 1 1] w fun e w'=>∃v',e=U v'∧w'.ownsRow B 74 2 v' (n1+1) (cs1++cx)∧Below B w w':=by
   intro ao cap cc cd ce;subst cc;have HO:Hid _:=ho;have fin:∀v' w',w'.ownsRow B 74 2 v' (n1+1) (cs1++cx)→w.grownBy w' (aX ao n1 cap).ownBlock→Below B w w':=fun v' w' _ hg=>(f _ _).grown hg hB fun k hk=>(ho.lt k hk).1
   clear ho aw;cases ao with
   |none=>
    obtain⟨rfl,rfl⟩:=cd rfl;go_enter cR,cM;go_wp2_with(at_builtin;refine aS _ rfl _ _ 38 rfl B 74 i0 _ 2 40 aJ ai aj ak af rfl (by simp) _ _ _ rfl HO.out _ 1 1 cx rfl hx HV.out ae (by decide) (by simp) hB ?_);intro v' w1 aa al _ _;go_wp2;go_ret;exact⟨v',rfl,aa,fin _ _ aa al⟩
   |some a=>
    obtain⟨g,rfl⟩:=ce a rfl
    by_cases cu:cap=n1
    all_goals
     go_enter cR,cM;go_wp2_with(at_builtin;refine aS _ rfl _ _ 38 rfl B 74 i0 _ 2 40 aJ ai aj ak af rfl (by decide) _ _ _ rfl HO.out ⟨vb,0,K⟩ 1 1 cx rfl hx HV.out ae (by simp only[z];omega) (by omega) hB ?_);intro v' w1 aa al _ _;go_wp2;go_ret;exact⟨v',rfl,aa,fin _ _ aa al⟩
  rcases G1 ho with⟨rfl,rfl⟩|⟨g,cap,X,rfl,_,_,_,_,_,_⟩
  ·exact ax K 0 rfl (fun _=>⟨rfl,rfl⟩) (fun a h=>by cases h)
  ·exact ax _ cap rfl (fun h=>by cases h) (fun a h=>by cases h;exact⟨_,rfl⟩)
 ·rcases G1 ho with⟨rfl,hz⟩|⟨g,cap,X,rfl,hBg,hX,hncap,hcapm,hXl,hXt⟩
  ·omega
  have ay:=aH hX;have az:vb≠g:=by rintro rfl;exact ca rfl
  have cv:X.length=cap*2:=hXl;have ba:∀u∈cs2,u.oneCell'=bF:=fun u hu=>one u (by simp[hu])
  have ag:∀j u,cs2[j]?=A u→X[n1*2+j]?=A u:=fun j u hj=>by
   have cf:=(aG.1 hj).1;have:(cs1++cs2)[n1*2+j]?=A u:=by rw[←h1,aZ (by omega),dG];exact hj
   rw[←hXt,bC (by omega)]at this;exact this
  simp only[z]at hcapm;have q1:¬((n1:Int)=((n1+n2:Nat):Int)):=by omega
  have q2:¬(cap=n1):=by omega
  have q3:(n1:Int)≤((n1+n2:Nat):Int):=by omega
  by_cases cg:n1+n2+1≤cap
  ·have bb:∀o lb cb,(callFunc 230 #[L (A ⟨vb,0,K⟩) 1 1,L (A ⟨g,o,K⟩) lb cb]).run N w=.ok (.value (aR aT)) w:=fun o lb cb=>by
    rw[run_callFunc_extern Tryz.func230 (by kernel_rfl) (by kernel_rfl) (by kernel_rfl) (e:=bS #[38,38] #[4]) (by kernel_rfl),
     dH w 38 4 74 aJ 2 Tryz.sizeOf74 ⟨vb,0,K⟩ ⟨g,o,K⟩ 1 1 lb cb az 74 74 2 X.length (by simp[cN,hv,hx]) (by simp[cN,hX]) (by omega) (by simp[bG,hv]) (by simp[bG,hv])]
    rfl
   have r2:¬(cap=n1+1):=by omega
   have r3:¬((cap:Int)<((n1+n2:Nat):Int)+1):=by omega
   have r4:(n1:Int)+1≤((n1+n2:Nat):Int)+1:=by omega
   have r5:(n1:Int)≤((n1+n2:Nat):Int)+1:=by omega
   have ch:IntKind.i64.wrap ((n1:Int)+1)=(n1:Int)+1:=by rw[aY];omega
   have bc:(0:Int)≤(n1:Int)+1:=by omega
   have cj:((n1:Int)+1).toNat=n1+1:=by omega
   have am:Hid _:=ag;have ck:Hid _:=bb;have bd:cs2.length=bW (n1+n2+1-n1) (n1+n2+1-(n1+1)) *2:=by simp only[aU];split<;>omega
   have be:cs2.length=bW (n1+n2+1-n1) (n1+n2-n1) *2:=by simp only[aU];split<;>omega
   have ab:cx.length=bW 1 (n1+n2+1-n1) *2:=by simp only[aU];split<;>omega
   have bf:(n1+1) *2+cs2.length≤X.length:=by omega
   have bg:Hid (n1*2+cx.length≤X.length):=(by omega:_≤_);have HM:Hid _:=And.intro bd be;have cl:Hid _:=ab;have an:Hid _:=Ak2 X cs1 cs2 cx (by rw[h1,h2,←Nat.add_mul];exact hXt) (by omega);have ap:Hid _:=aN X ((n1+1) *2) cs2 bf;clear bd be ab;generalize bh:n1+n2=n at*;have cm:Hid _:=bh;clear hXt ag ho bb bh;go_enter cR,cM;go_wp2_with(simp only[ck.out])
   go_region_law (refine Pn (by rfl) _ _ 38 38 (by rfl) 74 2 aJ R5 g ((n1+1) *2) (n-n1) (cap-(n1+1)) ⟨g,n1*2,K⟩ (n+1-n1) (cap-n1) (by simp[bZ,cK]) (by simp[bZ,cK]) X 74 (by exact hX) cs2 HM.out.2 (fun j u hj=>by rw[aL];exact Aa (w:=w) hX (by have:=am.out j u hj;simpa using this)) bf ba ?_;intro w2 bi bj)
   have aq:Hid (∀j u,cx[j]?=A u→w2.cell? ((⟨vb,0,K⟩:Addr).add j)=A u):=fun j u hj=>by rw[aL,bB];exact Aa ((bj.block vb av (fun e=>az (by cases e;rfl))).trans hv) (by simpa using hj)
   have cn:Hid _:=bi;clear bi;obtain⟨w3,cy,ac,ah⟩:=Pm (P:=N) (w:=w2) 38 38 74 2 aJ R5 g (n1*2) (n+1-n1) (cap-n1) ⟨vb,0,K⟩ 1 1 _ 74 cn.out cx cl.out aq.out (by rw[ap.out];exact bg.out) ae;have bk:Hid _:=ac;clear ac;go_wp2;go_ret;refine⟨_,rfl,?_,K6 (Cj (Ck _ ((f _ w).drew)) (Cj bj ah)) hBg hB⟩;have e1:=an.out;rw[h1,hx,h2]at e1;rw[show n1*2+2=(n1+1) *2 by omega]at e1;refine Jl hBg bk.out cg (by simp only[z];exact hcapm) ?_ ?_
   ·rw[aN _ _ _ (by rw[ap.out];exact bg.out),ap.out];exact hXl
   ·rw[←e1,show n1*2+(2+n2*2)=(n+1) *2 by have:=cm.out;omega]
  ·obtain rfl:cap=n1+n2:=by omega
   have bl:((n1+n2:Nat):Int)+1-(n1:Int)=((n2+1:Nat):Int):=by omega
   have hG:cG w (n1+(n2+1)) (n1+n2) 74≤z:=grownCap_le_maxLen w (n1+(n2+1)) (n1+n2) _ (by unfold z;omega);have co:=grownCap_ge w (n1+(n2+1)) (n1+n2) 74;have bm:(dI i0.size n1 (L (A ⟨g,0,K⟩) n1 (n1+n2))).run N w.drew=.ok cs1.toArray w.drew:=by
    rw[ak];exact run_firstCells_some w.drew 2 n1 ⟨g,0,K⟩ n1 (n1+n2) cs1 h1 (fun j u hj=>by
     rw[aL,bB];have cf:=(aG.1 hj).1;refine Aa hX ?_;grind)
   have ar:∀ty,(dS #[38,3] ty #[L (A ⟨g,0,K⟩) n1 (n1+n2),O M (((n1+n2:Nat):Int)+1-(n1:Int))]).run N w=.ok (L (A ⟨w.heap.size,0,K⟩) (n1+(n2+1)) (cG w (n1+(n2+1)) (n1+n2) 74)) (w.drew.alloc (Q (cs1.toArray++aE ((Z #[J ⟨#[]⟩,L K 0 0]):aQ).cells (n2+1)++aE ((Z #[J ⟨#[]⟩,L K 0 0]):aQ).cells (cG w (n1+(n2+1)) (n1+n2) 74-(n1+(n2+1)))) 74)):=fun ty=>by
    rw[bl];exact dB w 38 3 ty 74 i0 _ _ _ aJ dY ai aj _ n1 _ cs1 bm _ (by omega) (by omega) (by omega) (by omega) (by simp only[af];exact aD (bA 40 (show n2+1≤1000001 by omega)) (by decide)) (by simp only[af];exact growslice_fits (by omega) (aD (bA 40 (show n1+(n2+1)≤1000001 by omega)) (by decide)))
   generalize cz:cG w (n1+(n2+1)) (n1+n2) 74=G at*;obtain⟨Y,hY⟩:∃Y:List aQ,Y.toArray=cs1.toArray++aE ((Z #[J ⟨#[]⟩,L K 0 0]):aQ).cells (n2+1)++aE ((Z #[J ⟨#[]⟩,L K 0 0]):aQ).cells (G-(n1+(n2+1))):=⟨_,dJ⟩;rw[←hY]at ar;have bn:Y.length=G*2:=by
    have:=congrArg Array.size hY;rw[bQ,bO,bO]at this;simp only[aE,eL,dX,bQ,Value.cells]at this;rw[this,h1];simp
    try omega
   have bo:Y.take cs1.length=cs1:=by
    have:=congrArg Array.toList hY;simp only[dN]at this;rw[this,dV,bM]
   generalize au:(w.drew.alloc (Q Y.toArray 74))=W1 at ar;have bc:W1.heap[w.heap.size]?=A (Q Y.toArray 74):=by rw[←au];exact Ab w.drew _
   have ad:Below w.heap.size w W1:=by rw[←au];exact((f _ w).drew).alloc (aF _) _
   have aq:∀j u,cx[j]?=A u→W1.cell? ((⟨vb,0,K⟩:Addr).add j)=A u:=fun j u hj=>by rw[aL,bB];exact Aa ((ad.block vb av).trans hv) (by simpa using hj)
   have ab:cx.length=bW 1 (n1+(n2+1)-n1) *2:=by simp only[aU];split<;>omega
   obtain⟨w3,da,ac,ah⟩:=Pm (P:=N) (w:=W1) 38 38 74 2 aJ R5 w.heap.size (n1*2) (n1+(n2+1)-n1) (G-n1) ⟨vb,0,K⟩ 1 1 _ 74 bc cx ab aq (by omega) ae;have bp:(bH Y (n1*2) cx).length=Y.length:=aN _ _ _ (by omega);have bq:cs2.length=bW (n1+n2-n1) (n1+(n2+1)-(n1+1)) *2:=by simp only[aU];split<;>omega
   have an:Hid _:=Ak3 Y cs1 cs2 cx bo (by omega);have ch:IntKind.i64.wrap (n1+1)=n1+1:=by rw[aY];omega
   have db:(0:Int)≤n1+1:=by omega
   have cj:((n1:Int)+1).toNat=n1+1:=by omega
   have s1:((n1+n2:Nat):Int)<((n1+n2:Nat):Int)+1:=by omega
   have s2:¬(G=n1):=by omega
   have s3:¬(G=n1+1):=by omega
   have s4:n1≤((n1+(n2+1):Nat):Int):=by omega
   have s5:n1+1≤((n1+(n2+1):Nat):Int):=by omega
   have bt:(n1+1) *2+cs2.length≤(bH Y (n1*2) cx).length:=by omega
   have am:Hid _:=ag;have cp:Hid _:=bq;have bu:Hid _:=bt;have bk:Hid _:=ac;have cq:Hid (n1+n2+1≤G):=(by omega:_≤_);have dc:Hid _:=bp.trans bn;clear ab bq bt ag ac hXt bo bm ho au hY bp bn co;generalize bv:n1+(n2+1)=N1 at*;generalize bw:n1+n2=n at*;have bx:Hid _:=bw;have cr:Hid _:=bv;clear bw bv bl;go_enter cR,cM;go_wp2_with(at_builtin;refine dL _ rfl _ _ _ _ rfl _ _ rfl rfl _ _ (ar _) ?_)
   go_region_law (refine Pn (by rfl) _ _ 38 38 (by rfl) 74 2 aJ R5 w.heap.size _ _ (G-(n1+1)) ⟨g,n1*2,K⟩ _ (n-n1) (by simp[bZ,cK]) (by simp[bZ,cK]) _ 74 (by assumption) cs2 cp.out (fun j u hj=>by rw[aL];exact Aa (((ah.block g (aB ay ad.size) (fun e=>by grind)).trans (ad.block g ay)).trans hX) (by have:=am.out j u hj;grind)) bu.out ba ?_;intro w4 bz cs)
   have ct:Hid _:=bz;clear bz;go_wp2;go_ret;refine⟨_,rfl,?_,(ad.trans (K6 (Cj ah (Cj (Ck _ ((f _ w3).drew)) cs)) (aF _) ad.size)).mono hB⟩;have e1:=an.out;rw[h1,hx,h2]at e1;rw[show n1*2+2=(n1+1) *2 by omega]at e1;have hN:N1=n+1:=by have a1:=bx.out;have a2:=cr.out;omega
   subst hN;refine Jl hB ct.out cq.out hG ?_ ?_
   ·rw[aN _ _ _ bu.out];assumption
   ·rw[←e1,show n1*2+(2+n2*2)=(n+1) *2 by have:=bx.out;omega]
theorem A22 (cs1 cs2 cx)(n1 n2:Nat)(v:aQ)(B vb:Nat)(w:cH)(ho:w.ownsRow B 78 3 v (n1+n2) (cs1++cs2))(h1:cs1.length=n1*3)(h2:cs2.length=n2*3)(hx:cx.length=3)
  (one:∀u∈cs1++cs2,u.oneCell'=bF) (ae:∀u∈cx,u.oneCell'=bF) (hn:n1+n2≤1000000) (hv:w.heap[vb]?=A (Q cx.toArray 78)) (ca:v.ownBlock≠A vb) (hB:B≤w.heap.size):
  S N 170 #[v,O M n1,L (A ⟨vb,0,K⟩) 1 1] w fun e w'=>∃v',e=U v'∧w'.ownsRow B 78 3 v' (n1+n2+1) (cs1++(cx++cs2))∧Below B w w':=by
 obtain⟨i0,ah,ai,aj,ak⟩:=cI Abt;have av:=aH hv;have aw:∀j u,cx[j]?=A u→w.cell? ((⟨vb,0,K⟩:Addr).add j)=A u:=fun j u hj=>by
  rw[aL,bB];exact Aa hv (by grind)
 rcases dU n2 with rfl|h0
 ·obtain rfl:=aK (by omega);simp only[eK,aP]at ho hn⊢;have HV:Hid _:=aw;have ax:∀ao cap,v=L ao n1 cap→(ao=K→n1=0∧cap=0)→(∀a,ao=A a→∃g,a=⟨g,0,K⟩)→S N 170 #[v,O M n1,L (A ⟨vb,0,K⟩) 1 1] w fun e w'=>∃v',e=U v'∧w'.ownsRow B 78 3 v' (n1+1) (cs1++cx)∧Below B w w':=by
   intro ao cap cc cd ce;subst cc;have HO:Hid _:=ho;have fin:∀v' w',w'.ownsRow B 78 3 v' (n1+1) (cs1++cx)→w.grownBy w' (aX ao n1 cap).ownBlock→Below B w w':=fun v' w' _ hg=>(f _ _).grown hg hB fun k hk=>(ho.lt k hk).1
   clear ho aw;cases ao with
   |none=>
    obtain⟨rfl,rfl⟩:=cd rfl;go_enter cQ,cL;go_wp2_with(at_builtin;refine aS _ rfl _ _ 39 rfl B 78 i0 _ 3 48 aI ah ai aj ak rfl (by simp) _ _ _ rfl HO.out _ 1 1 cx rfl hx HV.out ae (by decide) (by simp) hB ?_);intro v' w1 aa al _ _;go_wp2;go_ret;exact⟨v',rfl,aa,fin _ _ aa al⟩
   |some a=>
    obtain⟨g,rfl⟩:=ce a rfl
    by_cases cu:cap=n1
    all_goals
     go_enter cQ,cL;go_wp2_with(at_builtin;refine aS _ rfl _ _ 39 rfl B 78 i0 _ 3 48 aI ah ai aj ak rfl (by decide) _ _ _ rfl HO.out ⟨vb,0,K⟩ 1 1 cx rfl hx HV.out ae (by simp only[z];omega) (by omega) hB ?_);intro v' w1 aa al _ _;go_wp2;go_ret;exact⟨v',rfl,aa,fin _ _ aa al⟩
  rcases G1 ho with⟨rfl,rfl⟩|⟨g,cap,X,rfl,_,_,_,_,_,_⟩
  ·exact ax K 0 rfl (fun _=>⟨rfl,rfl⟩) (fun a h=>by cases h)
  ·exact ax _ cap rfl (fun h=>by cases h) (fun a h=>by cases h;exact⟨_,rfl⟩)
 ·rcases G1 ho with⟨rfl,hz⟩|⟨g,cap,X,rfl,hBg,hX,hncap,hcapm,hXl,hXt⟩
  ·omega
  have ay:=aH hX;have az:vb≠g:=by rintro rfl;exact ca rfl
  have cv:X.length=cap*3:=hXl;have ba:∀u∈cs2,u.oneCell'=bF:=fun u hu=>one u (by simp[hu])
  have af:∀j u,cs2[j]?=A u→X[n1*3+j]?=A u:=fun j u hj=>by
   have cf:=(aG.1 hj).1;have:(cs1++cs2)[n1*3+j]?=A u:=by rw[←h1,aZ (by omega),dG];exact hj
   rw[←hXt,bC (by omega)]at this;exact this
  simp only[z]at hcapm;have q1:¬((n1:Int)=((n1+n2:Nat):Int)):=by omega
  have q2:¬(cap=n1):=by omega
  have q3:(n1:Int)≤((n1+n2:Nat):Int):=by omega
  by_cases cg:n1+n2+1≤cap
  ·have bb:∀o lb cb,(callFunc 232 #[L (A ⟨vb,0,K⟩) 1 1,L (A ⟨g,o,K⟩) lb cb]).run N w=.ok (.value (aR aT)) w:=fun o lb cb=>by
    rw[run_callFunc_extern Tryz.func232 (by kernel_rfl) (by kernel_rfl) (by kernel_rfl) (e:=bS #[39,39] #[4]) (by kernel_rfl),
     dH w 39 4 78 aI 3 Tryz.sizeOf78 ⟨vb,0,K⟩ ⟨g,o,K⟩ 1 1 lb cb az 78 78 3 X.length (by simp[cN,hv,hx]) (by simp[cN,hX]) (by omega) (by simp[bG,hv]) (by simp[bG,hv])]
    rfl
   have r2:¬(cap=n1+1):=by omega
   have r3:¬((cap:Int)<((n1+n2:Nat):Int)+1):=by omega
   have r4:(n1:Int)+1≤((n1+n2:Nat):Int)+1:=by omega
   have r5:(n1:Int)≤((n1+n2:Nat):Int)+1:=by omega
   have ch:IntKind.i64.wrap ((n1:Int)+1)=(n1:Int)+1:=by rw[aY];omega
   have bc:(0:Int)≤(n1:Int)+1:=by omega
   have cj:((n1:Int)+1).toNat=n1+1:=by omega
   have am:Hid _:=af;have ck:Hid _:=bb;have bd:cs2.length=bW (n1+n2+1-n1) (n1+n2+1-(n1+1)) *3:=by simp only[aU];split<;>omega
   have be:cs2.length=bW (n1+n2+1-n1) (n1+n2-n1) *3:=by simp only[aU];split<;>omega
   have ab:cx.length=bW 1 (n1+n2+1-n1) *3:=by simp only[aU];split<;>omega
   have bf:(n1+1) *3+cs2.length≤X.length:=by omega
   have bg:Hid (n1*3+cx.length≤X.length):=(by omega:_≤_);have HM:Hid _:=And.intro bd be;have cl:Hid _:=ab;have an:Hid _:=Ak2 X cs1 cs2 cx (by rw[h1,h2,←Nat.add_mul];exact hXt) (by omega);have ap:Hid _:=aN X ((n1+1) *3) cs2 bf;clear bd be ab;generalize bh:n1+n2=n at*;have cm:Hid _:=bh;clear hXt af ho bb bh;go_enter cQ,cL;go_wp2_with(simp only[ck.out])
   go_region_law (refine Pn (by rfl) _ _ 39 39 (by rfl) 78 3 aI R6 g ((n1+1) *3) (n-n1) (cap-(n1+1)) ⟨g,n1*3,K⟩ (n+1-n1) (cap-n1) (by simp[bZ,cK]) (by simp[bZ,cK]) X 78 (by exact hX) cs2 HM.out.2 (fun j u hj=>by rw[aL];exact Aa (w:=w) hX (by have:=am.out j u hj;simpa using this)) bf ba ?_;intro w2 bi bj)
   have aq:Hid (∀j u,cx[j]?=A u→w2.cell? ((⟨vb,0,K⟩:Addr).add j)=A u):=fun j u hj=>by rw[aL,bB];exact Aa ((bj.block vb av (fun e=>az (by cases e;rfl))).trans hv) (by simpa using hj)
   have cn:Hid _:=bi;clear bi;obtain⟨w3,cy,ac,ag⟩:=Pm (P:=N) (w:=w2) 39 39 78 3 aI R6 g (n1*3) (n+1-n1) (cap-n1) ⟨vb,0,K⟩ 1 1 _ 78 cn.out cx cl.out aq.out (by rw[ap.out];exact bg.out) ae;have bk:Hid _:=ac;clear ac;go_wp2;go_ret;refine⟨_,rfl,?_,K6 (Cj (Ck _ ((f _ w).drew)) (Cj bj ag)) hBg hB⟩;have e1:=an.out;rw[h1,hx,h2]at e1;rw[show n1*3+3=(n1+1) *3 by omega]at e1;refine Jl hBg bk.out cg (by simp only[z];exact hcapm) ?_ ?_
   ·rw[aN _ _ _ (by rw[ap.out];exact bg.out),ap.out];exact hXl
   ·rw[←e1,show n1*3+(3+n2*3)=(n+1) *3 by have:=cm.out;omega]
  ·obtain rfl:cap=n1+n2:=by omega
   have bl:((n1+n2:Nat):Int)+1-(n1:Int)=((n2+1:Nat):Int):=by omega
   have hG:cG w (n1+(n2+1)) (n1+n2) 78≤z:=grownCap_le_maxLen w (n1+(n2+1)) (n1+n2) _ (by unfold z;omega);have co:=grownCap_ge w (n1+(n2+1)) (n1+n2) 78;have bm:(dI i0.size n1 (L (A ⟨g,0,K⟩) n1 (n1+n2))).run N w.drew=.ok cs1.toArray w.drew:=by
    rw[aj];exact run_firstCells_some w.drew 3 n1 ⟨g,0,K⟩ n1 (n1+n2) cs1 h1 (fun j u hj=>by
     rw[aL,bB];have cf:=(aG.1 hj).1;refine Aa hX ?_;grind)
   have ar:∀ty,(dS #[39,3] ty #[L (A ⟨g,0,K⟩) n1 (n1+n2),O M (((n1+n2:Nat):Int)+1-(n1:Int))]).run N w=.ok (L (A ⟨w.heap.size,0,K⟩) (n1+(n2+1)) (cG w (n1+(n2+1)) (n1+n2) 78)) (w.drew.alloc (Q (cs1.toArray++aE ((Z #[J ⟨#[]⟩,J ⟨#[]⟩,J ⟨#[]⟩]):aQ).cells (n2+1)++aE ((Z #[J ⟨#[]⟩,J ⟨#[]⟩,J ⟨#[]⟩]):aQ).cells (cG w (n1+(n2+1)) (n1+n2) 78-(n1+(n2+1)))) 78)):=fun ty=>by
    rw[bl];exact dB w 39 3 ty 78 i0 _ _ _ aI dY ah ai _ n1 _ cs1 bm _ (by omega) (by omega) (by omega) (by omega) (by grind) (by simp only[ak];exact growslice_fits (by omega) (aD (bA 48 (show n1+(n2+1)≤1000001 by omega)) (by decide)))
   generalize cz:cG w (n1+(n2+1)) (n1+n2) 78=G at*;obtain⟨Y,hY⟩:∃Y:List aQ,Y.toArray=cs1.toArray++aE ((Z #[J ⟨#[]⟩,J ⟨#[]⟩,J ⟨#[]⟩]):aQ).cells (n2+1)++aE ((Z #[J ⟨#[]⟩,J ⟨#[]⟩,J ⟨#[]⟩]):aQ).cells (G-(n1+(n2+1))):=⟨_,dJ⟩;rw[←hY]at ar;have bn:Y.length=G*3:=by
    have:=congrArg Array.size hY;rw[bQ,bO,bO]at this;simp only[aE,eL,dX,bQ,Value.cells]at this;rw[this,h1];simp
    try omega
   have bo:Y.take cs1.length=cs1:=by
    have:=congrArg Array.toList hY;simp only[dN]at this;rw[this,dV,bM]
   generalize au:(w.drew.alloc (Q Y.toArray 78))=W1 at ar;have bc:W1.heap[w.heap.size]?=A (Q Y.toArray 78):=by rw[←au];exact Ab w.drew _
   have ad:Below w.heap.size w W1:=by rw[←au];exact((f _ w).drew).alloc (aF _) _
   have aq:∀j u,cx[j]?=A u→W1.cell? ((⟨vb,0,K⟩:Addr).add j)=A u:=fun j u hj=>by rw[aL,bB];exact Aa ((ad.block vb av).trans hv) (by simpa using hj)
   have ab:cx.length=bW 1 (n1+(n2+1)-n1) *3:=by simp only[aU];split<;>omega
   obtain⟨w3,da,ac,ag⟩:=Pm (P:=N) (w:=W1) 39 39 78 3 aI R6 w.heap.size (n1*3) (n1+(n2+1)-n1) (G-n1) ⟨vb,0,K⟩ 1 1 _ 78 bc cx ab aq (by omega) ae;have bp:(bH Y (n1*3) cx).length=Y.length:=aN _ _ _ (by omega);have bq:cs2.length=bW (n1+n2-n1) (n1+(n2+1)-(n1+1)) *3:=by simp only[aU];split<;>omega
   have an:Hid _:=Ak3 Y cs1 cs2 cx bo (by omega);have ch:IntKind.i64.wrap (n1+1)=n1+1:=by rw[aY];omega
   have db:(0:Int)≤n1+1:=by omega
   have cj:((n1:Int)+1).toNat=n1+1:=by omega
   have s1:((n1+n2:Nat):Int)<((n1+n2:Nat):Int)+1:=by omega
   have s2:¬(G=n1):=by omega
   have s3:¬(G=n1+1):=by omega
   have s4:n1≤((n1+(n2+1):Nat):Int):=by omega
   have s5:n1+1≤((n1+(n2+1):Nat):Int):=by omega
   have bt:(n1+1) *3+cs2.length≤(bH Y (n1*3) cx).length:=by omega
   have am:Hid _:=af;have cp:Hid _:=bq;have bu:Hid _:=bt;have bk:Hid _:=ac;have cq:Hid (n1+n2+1≤G):=(by omega:_≤_);have dc:Hid _:=bp.trans bn;clear ab bq bt af ac hXt bo bm ho au hY bp bn co;generalize bv:n1+(n2+1)=N1 at*;generalize bw:n1+n2=n at*;have bx:Hid _:=bw;have cr:Hid _:=bv;clear bw bv bl;go_enter cQ,cL;go_wp2_with(at_builtin;refine dL _ rfl _ _ _ _ rfl _ _ rfl rfl _ _ (ar _) ?_)
   go_region_law (refine Pn (by rfl) _ _ 39 39 (by rfl) 78 3 aI R6 w.heap.size _ _ (G-(n1+1)) ⟨g,n1*3,K⟩ _ (n-n1) (by simp[bZ,cK]) (by simp[bZ,cK]) _ 78 (by assumption) cs2 cp.out (fun j u hj=>by rw[aL];exact Aa (((ag.block g (aB ay ad.size) (fun e=>by grind)).trans (ad.block g ay)).trans hX) (by have:=am.out j u hj;grind)) bu.out ba ?_;intro w4 bz cs)
   have ct:Hid _:=bz;clear bz;go_wp2;go_ret;refine⟨_,rfl,?_,(ad.trans (K6 (Cj ag (Cj (Ck _ ((f _ w3).drew)) cs)) (aF _) ad.size)).mono hB⟩;have e1:=an.out;rw[h1,hx,h2]at e1;rw[show n1*3+3=(n1+1) *3 by omega]at e1;have hN:N1=n+1:=by have a1:=bx.out;have a2:=cr.out;omega
   subst hN;refine Jl hB ct.out cq.out hG ?_ ?_
   ·rw[aN _ _ _ bu.out];assumption
   ·rw[←e1,show n1*3+(3+n2*3)=(n+1) *3 by have:=bx.out;omega]
theorem Ni {w:cH}{B base}{e}{k n}{v}{xs}(h:w.ownsRow B e k v n xs)(hb:base≤B):w.ownsRow base e k v n xs:=by
 refine⟨h.1,?_⟩;rcases h.2 with h|⟨g,cap,cur,h1,h2,h3⟩
 ·grind
 ·exact .inr ⟨g,cap,cur,h1,aD hb h2,h3⟩
theorem Arn (CS1 CS2)(nm:List aQ→Wd)(sv)(s0:Wd)(a1)(n1 c1)(w)(h:IsL Ng (fun _=>True) w sv (CS1++CS2))(af:∀c∈CS1++CS2,Lm c)(ap:∀c∈CS1++CS2,∀s r,c=J s::r→nm c=s)
  (h1:∀c∈CS1,aV (nm c).toList s0.toList=bF) (h2:∀c∈CS2,aV (nm c).toList s0.toList=aT) (hl:(CS1++CS2).length≤1000000):
  S N 97 #[sv,Z [J s0,L a1 n1 c1].toArray,.func (.func 98) #[] #[]] w fun e w'=>∃v,e=U v∧w'.ownsRow w.heap.size 74 2 v (CS1.length+CS2.length+1) (CS1.flatten++([J s0,L a1 n1 c1]++CS2.flatten))∧Below w.heap.size w w':=by
 obtain⟨ao,c,rfl⟩:=h.shape;obtain⟨ai,B4,B5,-⟩:=al2 w (Q [J s0,L a1 n1 c1].toArray 74) (Q #[.func (.func 98) #[] #[]] 148);generalize hW:(w.alloc _).alloc _=W at ai B4 B5;have aj:(CS1++CS2).flatten=CS1.flatten++CS2.flatten:=bI;have ak:=fun c hc=>Ag5 (af c hc)
 have bb:CS1.flatten.length=CS1.length*2:=Gu fun c hc=>ak c (by grind)
 have bc:CS2.flatten.length=CS2.length*2:=Gu fun c hc=>ak c (by grind)
 have al:∀u∈CS1.flatten++CS2.flatten,u.oneCell'=bF:=fun u hu=>by
  rw[←aj]at hu;obtain⟨c,hc,hu⟩:=eB.1 hu;exact Ag6 (af c hc) u hu
 have aq:∀V,Below _ w V→Bp _ 2 V _ _ _:=fun V hV=>by
  obtain⟨cs,hr,ha⟩:=h.keep (Ak hV);obtain⟨CS,rfl,he,hR⟩:=Uk ha;have bd:=by
   apply eC he;intro i q1 q2;exact(hR i _ _ (aA q2) (aA q1)).1
  rw[bd,aj]at hr;exact hr
 have HS:=fun V (hV:Below _ w V) hc (ar:w.heap.size+1<V.heap.size)=>Aug _ ao _ c _ s0 (fun i=>Fy _ s0) CS1.length V (fun V' ag=>h.keep (Ak (hV.trans (ag.mono hV.size)))) (by simp)
  (fun t ht=>by
   have hm:(CS1++CS2).getD t []∈CS1:=by rw[aM,cY ht,aA ht];exact bY ht
   show Fy _ _<0;unfold Fy;rw[if_pos (h1 _ hm)];decide)
  (fun t ht be=>by
   have au:t-CS1.length<CS2.length:=by rw[bN]at be;omega
   have hm:(CS1++CS2).getD t []∈CS2:=by rw[aM,aZ ht,aA au];exact bY au
   show¬Fy _ _<0;unfold Fy;rw[if_neg (by rw[h2 _ hm];decide)];split<;>decide) hl
  (fun i cs V' hi ag=>by
   obtain⟨r0,a1,n1,c1,rfl⟩:=af cs (aC hi);refine(An3 r0 s0 a1 n1 c1 (w.heap.size+1) V' ((ag.cell (p:=⟨w.heap.size+1,0,K⟩) ar).trans hc) (aB ar ag.size)).mono ?_;rintro e bl ⟨rfl,hb⟩;refine⟨?_,hb⟩;simp only[aM,hi,dR];rw[ap _ (aC hi) r0 _ rfl])
 have ah:=fun V hV=>R7 _ _ _ _ V (aq V hV) al (by omega)
 have bf:(CS1++CS2).length=CS1.length+CS2.length:=bN;have av:=fun v (B vb:Nat) V ho hv bg hB=>A21 _ _ [J s0,L a1 n1 c1] _ _ v B vb V ho bb bc rfl al (by simp[bE]) (by omega) hv bg hB
 rw[bf]at HS ah⊢;have HW:Hid _:=hW;have aw:=aH B5;clear hW aq h aj al af ap h1 h2 ak;have cB:=Aa B5 (j:=0) (u:=.func _ #[] #[]) rfl;have d0:=Aa B4 (j:=0) (u:=J s0) rfl;have d1:=Aa B4 (j:=1) (u:=L a1 n1 c1) rfl;go_enter Tryz.func97,Tryz.ntmps97;go_upto_region 1 with fail;rw[HW.out];go_wp2_with(first
  |(go_fit(Ig s0 a1 n1 c1 _);rintro e W1 ⟨rfl,ab⟩;have ax:=HS W1 (Ac ai ab) ((ab.cell aw).trans cB) (aB aw ab.size))
  |(go_fit ax;rintro e V1 ⟨bm,rfl,ay⟩))
 have aa:=Ac ai (Ac ab ay);have BV:=(ay.block _ (aB (aH B4) ab.size)).trans ((ab.block _ (aH B4)).trans B4);have KS:Hid (∀V,Below _ V1 V→V.cell? ⟨_,0,K⟩=A (J s0)∧V.cell? ⟨_,1,K⟩=A (L a1 n1 c1)):=fun V hV=>by
  have B:=(hV.block _ (aH BV)).trans BV;exact⟨Aa B rfl,Aa B rfl⟩
 have y0:=KS.out _ (f _ _).drew;have y4:=KS.out (V1.drew.alloc (Q [J s0,L a1 n1 c1].toArray 74)) ((f _ V1).drew.alloc (aF _) _);have y5:=KS.out (V1.alloc (Q [J s0,L a1 n1 c1].toArray 74)).drew ((f _ V1).alloc (aF _) _).drew;have hA:=aa.drew;have bh:Below _ w (V1.alloc (Q [J s0,L a1 n1 c1].toArray 74)).drew:=(aa.alloc aa.size _).drew;have az:=ah _ hA;have ba:=ah _ bh;have bi:V1.drew.heap.size=V1.heap.size:=rfl;have bj:(V1.alloc (Q [J s0,L a1 n1 c1].toArray 74)).drew.heap.size=V1.heap.size+1:=cS _ _;rw[bi]at az;rw[bj]at ba;have bk:(V1.alloc _).drew.heap[V1.heap.size]?=A (Q [J s0,L a1 n1 c1].toArray 74):=Ab V1 _;clear ah HS ax
 go_region_held3(fun V=>V.cell? ⟨w.heap.size,0,K⟩=A (J s0)∧V.cell? ⟨w.heap.size,1,K⟩=A (L a1 n1 c1))
  (with_reducible omega)
  (first
   |(go_at_call 20;refine az.mono ?_;rintro e w2 ⟨v,rfl,ac,ad⟩;have hz:=(f _ _).drew.trans ad;have y1:=KS.out _ hz;have y2:=KS.out _ (hz.alloc hz.size (Q [J s0,L a1 n1 c1].toArray 74));have HI:=av v _ _ _ (Aj ac (Aq _ _)) (Ab _ _) (fun hh=>by have:=(ac.lt _ hh).2;omega) (aD hz.size (by simp)))
   |(go_at_call 20;refine ba.mono ?_;rintro e w2 ⟨v,rfl,ac,ad⟩;have hz:=((f _ _).alloc (aF _) _).drew.trans (ad.mono (cX _));have y1:=KS.out _ hz;have HI:=av v _ _ w2 ac ((ad.block _ (eF _)).trans bk) (fun hh=>by have:=(ac.lt _ hh).1;omega) (by have:=ad.size;omega))
   |(go_at_call 167;refine HI.mono ?_;rintro e w3 ⟨v3,rfl,am,an⟩;have ae:=(hz.alloc hz.size _).trans (an.mono (aF _));have y3:=KS.out _ ae)
   |(go_at_call 167;refine HI.mono ?_;rintro e w3 ⟨v3,rfl,am,an⟩;have ae:=hz.trans (an.mono (cX _));have y3:=KS.out _ ae))
 ·go_wp2;go_ret;exact⟨_,rfl,Ni am aa.size,aa.trans (ae.mono aa.size)⟩
 ·go_wp2;go_ret;exact⟨_,rfl,Ni am (dZ aa.size),aa.trans (ae.mono aa.size)⟩
theorem Aro (CS1 CS2)(nm:List aQ→Wd)(sv)(s0:Wd)(s1 s2:Wd)(w)(h:IsL Nh (fun _=>True) w sv (CS1++CS2))(af:∀c∈CS1++CS2,Md c)(ap:∀c∈CS1++CS2,∀s r,c=J s::r→nm c=s)
  (h1:∀c∈CS1,aV (nm c).toList s0.toList=bF) (h2:∀c∈CS2,aV (nm c).toList s0.toList=aT) (hl:(CS1++CS2).length≤1000000):
  S N 99 #[sv,Z [J s0,J s1,J s2].toArray,.func (.func 100) #[] #[]] w fun e w'=>∃v,e=U v∧w'.ownsRow w.heap.size 78 3 v (CS1.length+CS2.length+1) (CS1.flatten++([J s0,J s1,J s2]++CS2.flatten))∧Below w.heap.size w w':=by
 obtain⟨ao,c,rfl⟩:=h.shape;obtain⟨ai,B4,B5,-⟩:=al2 w (Q [J s0,J s1,J s2].toArray 78) (Q #[.func (.func 100) #[] #[]] 150);generalize hW:(w.alloc _).alloc _=W at ai B4 B5;have aj:(CS1++CS2).flatten=CS1.flatten++CS2.flatten:=bI;have ak:=fun c hc=>Ag7 (af c hc)
 have bb:CS1.flatten.length=CS1.length*3:=Gu fun c hc=>ak c (by grind)
 have bc:CS2.flatten.length=CS2.length*3:=Gu fun c hc=>ak c (by grind)
 have al:∀u∈CS1.flatten++CS2.flatten,u.oneCell'=bF:=fun u hu=>by
  rw[←aj]at hu;obtain⟨c,hc,hu⟩:=eB.1 hu;exact Ag8 (af c hc) u hu
 have aq:∀V,Below _ w V→Bp _ 3 V _ _ _:=fun V hV=>by
  obtain⟨cs,hr,ha⟩:=h.keep (Ak hV);obtain⟨CS,rfl,he,hR⟩:=Uk ha;have bd:=by
   apply eC he;intro i q1 q2;exact(hR i _ _ (aA q2) (aA q1)).1
  rw[bd,aj]at hr;exact hr
 have HS:=fun V (hV:Below _ w V) hc (ar:w.heap.size+1<V.heap.size)=>Auh _ ao _ c _ s0 (fun i=>Fy _ s0) CS1.length V (fun V' ag=>h.keep (Ak (hV.trans (ag.mono hV.size)))) (by simp)
  (fun t ht=>by
   have hm:(CS1++CS2).getD t []∈CS1:=by rw[aM,cY ht,aA ht];exact bY ht
   show Fy _ _<0;unfold Fy;rw[if_pos (h1 _ hm)];decide)
  (fun t ht be=>by
   have au:t-CS1.length<CS2.length:=by rw[bN]at be;omega
   have hm:(CS1++CS2).getD t []∈CS2:=by rw[aM,aZ ht,aA au];exact bY au
   show¬Fy _ _<0;unfold Fy;rw[if_neg (by rw[h2 _ hm];decide)];split<;>decide) hl
  (fun i cs V' hi ag=>by
   obtain⟨r0,s1,s2,rfl⟩:=af cs (aC hi);refine(An4 r0 s0 s1 s2 (w.heap.size+1) V' ((ag.cell (p:=⟨w.heap.size+1,0,K⟩) ar).trans hc) (aB ar ag.size)).mono ?_;rintro e bl ⟨rfl,hb⟩;refine⟨?_,hb⟩;simp only[aM,hi,dR];rw[ap _ (aC hi) r0 _ rfl])
 have ah:=fun V hV=>R8 _ _ _ _ V (aq V hV) al (by omega)
 have bf:(CS1++CS2).length=CS1.length+CS2.length:=bN;have av:=fun v (B vb:Nat) V ho hv bg hB=>A22 _ _ [J s0,J s1,J s2] _ _ v B vb V ho bb bc rfl al (by simp[bE]) (by omega) hv bg hB
 rw[bf]at HS ah⊢;have HW:Hid _:=hW;have aw:=aH B5;clear hW aq h aj al af ap h1 h2 ak;have cB:=Aa B5 (j:=0) (u:=.func _ #[] #[]) rfl;have d0:=Aa B4 (j:=0) (u:=J s0) rfl;have d1:=Aa B4 (j:=1) (u:=J s1) rfl;have d2:=Aa B4 (j:=2) (u:=J s2) rfl;go_enter Tryz.func99,Tryz.ntmps99;go_upto_region 1 with fail;rw[HW.out];go_wp2_with(first
  |(go_fit(Ih s0 s1 s2 _);rintro e W1 ⟨rfl,ab⟩;have ax:=HS W1 (Ac ai ab) ((ab.cell aw).trans cB) (aB aw ab.size))
  |(go_fit ax;rintro e V1 ⟨bm,rfl,ay⟩))
 have aa:=Ac ai (Ac ab ay);have BV:=(ay.block _ (aB (aH B4) ab.size)).trans ((ab.block _ (aH B4)).trans B4);have KS:Hid (∀V,Below _ V1 V→V.cell? ⟨_,0,K⟩=A (J s0)∧V.cell? ⟨_,1,K⟩=A (J s1)∧V.cell? ⟨_,2,K⟩=A (J s2)):=fun V hV=>by
  have B:=(hV.block _ (aH BV)).trans BV;exact⟨Aa B rfl,Aa B rfl,Aa B rfl⟩
 have y0:=KS.out _ (f _ _).drew;have y4:=KS.out (V1.drew.alloc (Q [J s0,J s1,J s2].toArray 78)) ((f _ V1).drew.alloc (aF _) _);have y5:=KS.out (V1.alloc (Q [J s0,J s1,J s2].toArray 78)).drew ((f _ V1).alloc (aF _) _).drew;have hA:=aa.drew;have bh:Below _ w (V1.alloc (Q [J s0,J s1,J s2].toArray 78)).drew:=(aa.alloc aa.size _).drew;have az:=ah _ hA;have ba:=ah _ bh;have bi:V1.drew.heap.size=V1.heap.size:=rfl;have bj:(V1.alloc (Q [J s0,J s1,J s2].toArray 78)).drew.heap.size=V1.heap.size+1:=cS _ _;rw[bi]at az;rw[bj]at ba;have bk:(V1.alloc _).drew.heap[V1.heap.size]?=A (Q [J s0,J s1,J s2].toArray 78):=Ab V1 _;clear ah HS ax
 go_region_held3(fun V=>V.cell? ⟨w.heap.size,0,K⟩=A (J s0)∧V.cell? ⟨w.heap.size,1,K⟩=A (J s1)∧V.cell? ⟨w.heap.size,2,K⟩=A (J s2))
  (with_reducible omega)
  (first
   |(go_at_call 22;refine az.mono ?_;rintro e w2 ⟨v,rfl,ac,ad⟩;have hz:=(f _ _).drew.trans ad;have y1:=KS.out _ hz;have y2:=KS.out _ (hz.alloc hz.size (Q [J s0,J s1,J s2].toArray 78));have HI:=av v _ _ _ (Aj ac (Aq _ _)) (Ab _ _) (fun hh=>by have:=(ac.lt _ hh).2;omega) (aD hz.size (by simp)))
   |(go_at_call 22;refine ba.mono ?_;rintro e w2 ⟨v,rfl,ac,ad⟩;have hz:=((f _ _).alloc (aF _) _).drew.trans (ad.mono (cX _));have y1:=KS.out _ hz;have HI:=av v _ _ w2 ac ((ad.block _ (eF _)).trans bk) (fun hh=>by have:=(ac.lt _ hh).1;omega) (by have:=ad.size;omega))
   |(go_at_call 170;refine HI.mono ?_;rintro e w3 ⟨v3,rfl,am,an⟩;have ae:=(hz.alloc hz.size _).trans (an.mono (aF _));have y3:=KS.out _ ae)
   |(go_at_call 170;refine HI.mono ?_;rintro e w3 ⟨v3,rfl,am,an⟩;have ae:=hz.trans (an.mono (cX _));have y3:=KS.out _ ae))
 ·go_wp2;go_ret;exact⟨_,rfl,Ni am aa.size,aa.trans (ae.mono aa.size)⟩
 ·go_wp2;go_ret;exact⟨_,rfl,Ni am (dZ aa.size),aa.trans (ae.mono aa.size)⟩
def Ya:List ColD→Bool
 |x::_=>x.must
 |[]=>aT
def Kp (t:TabD):Bool:=nm t.name&&decide (1≤t.cols.length)&&decide (t.cols.length≤4)&&Ya t.cols&&Vd t.cols
def Yb (t:TabD):Prop:=t.name.size≤z∧Zp t.cols
theorem Xb (t:TabD)(sv:aQ)(C:Nat)(w:cH)(hl:IsL Cp (fun k=>k<C) w sv t.cols)(hC:C≤w.heap.size)(hf:Yb t):
  S N 144 #[Z #[J t.name,sv]] w fun e w'=>e=U (aR (Kp t))∧Below w.heap.size w w':=by
 obtain⟨name,cols⟩:=t;simp only at hl⊢;obtain⟨ao,c,rfl⟩:=hl.shape;have hN:=fun w=>K5 name w hf.1
 have aa:=Aq w (Q #[J name,L ao cols.length c] 74);have hG:=fun(h:cols.length≤16777215)=>Akb cols (L ao cols.length c) C (w.alloc (Q #[J name,L ao cols.length c] 74)) (hl.keep (Ae (aa.mono hC))) (aD hC aa.size) hf.2 h
 have E:Hid (Kp ⟨name,cols⟩=(nm name&&decide (1≤cols.length)&&decide (cols.length≤4)&&Ya cols&&Vd cols)):=rfl;generalize Kp ⟨name,cols⟩=r at E;generalize nm name=b at hN E;generalize Vd cols=g at hG E;have ad:=(Ew hl).2;cases b
 ·clear hl hG hf;go_enter cD,bV;go_wp2_with(go_fit(hN _);rintro e w1 ⟨rfl,rfl⟩);go_ret;exact⟨Ah (by rw[E.out];rfl),aa⟩
 by_cases h1:1≤cols.length
 rotate_left
 ·have q1:¬(1:Int)≤(cols.length:Int):=by omega
  have E2:Hid (r=aT):=by show _=_;rw[E.out];simp[h1]
  clear hl hG hf E;go_enter cD,bV;go_wp2_with(go_fit(hN _);rintro e w1 ⟨rfl,rfl⟩);go_ret;exact⟨Ah (by rw[E2.out]),aa⟩
 by_cases h4:cols.length≤4
 rotate_left
 ·have q1:(1:Int)≤cols.length:=by omega
  have q2:¬(cols.length:Int)≤4:=by omega
  have E2:Hid (r=aT):=by show _=_;rw[E.out];simp[h4]
  clear hl hG hf E;go_enter cD,bV;go_wp2_with(go_fit(hN _);rintro e w1 ⟨rfl,rfl⟩);go_ret;exact⟨Ah (by rw[E2.out]),aa⟩
 obtain⟨x,hx⟩:∃x,cols[0]?=A x:=⟨_,aA (by omega)⟩;obtain⟨b,ae,cs,rfl,_,hb,hR,ab⟩:=Av (hl.keep (Ae (aa.mono hC))) hx;obtain rfl:=hR;have d2:=ab 2 _ rfl;simp only[Nat.zero_mul,aP]at d2;have hm:Ya cols=x.must:=by
  match cols,hx with
  |y::r,hx=>simp at hx;subst hx;rfl
 have q1:(1:Int)≤cols.length:=by omega
 have q2:(cols.length:Int)≤4:=by omega
 have q3:(0:Int)<cols.length:=by omega
 have HG:=hG (by omega);have E2:Hid (r=(x.must&&g)):=by show _=_;rw[E.out,hm];simp[h1,h4]
 clear hl hG hf E hm hx ab;generalize x.must=m at d2 E2;cases m
 ·go_enter cD,bV;go_wp2_with(go_fit(hN _);rintro e w1 ⟨rfl,rfl⟩);go_ret;exact⟨Ah (by rw[E2.out];rfl),aa⟩
 ·go_enter cD,bV;go_wp2_with(first|(go_fit(hN _);rintro e w1 ⟨rfl,rfl⟩)|(go_fit HG;rintro e w2 ⟨rfl,ac⟩));go_ret;exact⟨Ah (by rw[E2.out];simp),Ac aa ac⟩
theorem Adu (t)(sv)(C)(w)(hl:IsL Cp (fun k=>k<C) w sv t.cols)(hC:C≤w.heap.size)(hf:Yb t):
  S N 143 #[Z #[J t.name,sv]] w fun e w'=>e=U (aR (!Kp t))∧Below w.heap.size w w':=by
 obtain⟨ao,c,rfl⟩:=hl.shape;have aa:=Aq w (Q #[J t.name,L ao t.cols.length c] 74);have HG:=Xb t _ C _ (hl.keep (Ae (aa.mono hC))) (aD hC aa.size) hf;generalize Kp t=r at HG;clear hl hf;go_enter Tryz.func143,Tryz.ntmps143;go_wp2_with(go_fit HG;rintro e w2 ⟨rfl,ab⟩);go_ret;exact⟨rfl,Ac aa ab⟩
def Qw (T:List TabD):Bool:=!Bz (atI T fun t=>!Kp t) 0 T.length&&Ic (T.map TabD.name)
def Apy (T:List TabD):Prop:=∀t∈T,Yb t
theorem Afu (T)(sv)(C)(w)(hl:IsL Ci (fun k=>k<C) w sv T)(hC:C≤w.heap.size)(hf:Apy T):
  S N 83 #[sv] w fun e w'=>e=U (aR (Qw T))∧Below w.heap.size w w':=by
 obtain⟨ao,c,rfl⟩:=hl.shape;have HC:=A33.1.has Tryz.func143 #[] (fun v=>#[v]) T _ ao _ c (atI T _) _ (fun W=>Below _ w W) w (fun i W h=>h) (fun i W h=>hl.keep (Ae (h.mono hC)))
  (by
   rintro i x cs W hx h1 ⟨sv,rfl,ab⟩;refine(Adu x sv C W ab (aD hC h1.size) (hf x (aC hx))).mono ?_;rintro e W' ⟨rfl,hb⟩;exact⟨by rw[Hu hx],h1.trans (hb.mono h1.size),fun _=>h1.trans (hb.mono h1.size)⟩)
  (f _ _)
 have HR:=fun w' (h:Below _ w w')=>Axz T _ C w' (hl.keep (Ae (h.mono hC))) (aD hC h.size)
 have E:Hid (Qw T=(!Bz _ 0 _&&Ic _)):=rfl;generalize Qw T=r at E;generalize Bz _ 0 _=q at E HC;generalize Ic _=r2 at E HR;clear hl hf;cases q
 ·go_enter Tryz.func83,Tryz.ntmps83;go_wp2_with(first|(go_fit HC;rintro e w1 ⟨rfl,aa⟩)|(go_fit(HR _ aa);rintro e w2 ⟨rfl,ac⟩));go_ret;exact⟨Ah (by rw[E.out];rfl),Ac aa ac⟩
 ·go_enter Tryz.func83,Tryz.ntmps83;go_wp2_with(first|(go_fit HC;rintro e w1 ⟨rfl,aa⟩));go_ret;exact⟨Ah (by rw[E.out];rfl),aa⟩
theorem Hv {T}{t}{s}(h:Bu T s=A t)(tv iv)(aa:Hj iv)(C)(w)(hl:IsL Ci (fun k=>k<C) w tv T)(hC:C≤w.heap.size):
  S N 105 #[Z #[tv,iv],J s] w fun e w'=>∃ao n c,e=U (.tuple #[Z #[J t.name,L ao n c],aR bF])∧IsL Cp (fun k=>k<C) w' (L ao n c) t.cols∧Below w.heap.size w w':=by
 refine(Wv T tv iv aa s C w hl hC).mono ?_;rintro e w' ⟨ab,ao,n,c,there,rfl,hm,hb⟩;grind
theorem Jn {T}{s}(h:Bu T s=K)(tv iv)(aa:Hj iv)(C)(w)(hl:IsL Ci (fun k=>k<C) w tv T)(hC:C≤w.heap.size):
  S N 105 #[Z #[tv,iv],J s] w fun e w'=>e=U (.tuple #[Z #[J noW,L K 0 0],aR aT])∧Below w.heap.size w w':=by
 refine(Wv T tv iv aa s C w hl hC).mono ?_;rintro e w' ⟨ab,ao,n,c,there,rfl,hm,hb⟩;grind
def Kq (T:List TabD)(tb cl:Wd):Bool:=match Bu T tb with
 |some t=>decide (0≤Dy t.cols cl)
 |none=>aT
theorem Adv (T)(tv iv)(ac:Hj iv)(tb cl:Wd)(C)(w)(hl:IsL Ci (fun k=>k<C) w tv T)(hC:C≤w.heap.size):
  S N 148 #[Z #[tv,iv],J tb,J cl] w fun e w'=>e=U (aR (Kq T tb cl))∧Below w.heap.size w w':=by
 obtain⟨ao,c,rfl⟩:=hl.shape;have aa:=Aq w (Q #[L ao T.length c,iv] 41);have ad:=hl.keep (Ae (aa.mono hC));have ae:=aD hC aa.size;cases h:Bu T tb with
 |none=>
  have HF:=Jn h _ iv ac C _ ad ae;have E:Hid (Kq T tb cl=aT):=by show _=_;simp[Kq,h]
  generalize Kq T tb cl=r at E;obtain⟨io,il,ic,rfl⟩:=ac;clear hl ad h;go_enter Tryz.func148,Tryz.ntmps148;go_wp2_with(go_fit HF;rintro e w1 ⟨rfl,ab⟩);go_ret;exact⟨Ah (by rw[E.out]),(Ac aa ab).alloc (aD aa.size ab.size) _⟩
 |some t=>
  have HF:=Hv h _ iv ac C _ ad ae;have E:Hid (Kq T tb cl=decide (0≤Dy t.cols cl)):=by show _=_;simp[Kq,h]
  generalize Kq T tb cl=r at E;have ag:=fun w' sv h hh=>L6 t.cols t.name sv cl C w' h hh
  generalize Dy _ cl=q at E ag;obtain⟨io,il,ic,rfl⟩:=ac;clear hl ad h;go_enter Tryz.func148,Tryz.ntmps148;go_wp2_with(first|(go_fit HF;rintro e w1 ⟨so,sn,sc,rfl,hL,ab⟩;have af:=Aq w1 (Q #[J t.name,L so sn sc] 74);have ah:=aD ae ab.size)|(go_fit(ag _ _ (hL.keep (Ae (af.mono ah))) (aD ah af.size));rintro e w2 ⟨rfl,ai⟩));go_ret;exact⟨Ah (by rw[E.out]),Ac (Ac aa ab) (Ac af ai)⟩
def Ka (T:List TabD)(x:IdxD):Bool:=!nm x.name|| !Kq T x.table x.col
theorem Abu (T)(x)(tv iv)(ab:Hj iv)(pb C)(w)(hl:IsL Ci (fun k=>k<C) w tv T)(hC:C≤w.heap.size)(hs:x.name.size≤z)(p0:w.cell? ⟨pb,0,K⟩=A tv)(p1:w.cell? ⟨pb,1,K⟩=A iv)(ac:pb<w.heap.size):
  S N 147 #[Z #[J x.name,J x.table,J x.col],cF (A ⟨pb,0,K⟩)] w fun e w'=>e=U (aR (Ka T x))∧Below w.heap.size w w':=by
 obtain⟨name,tb,cl⟩:=x;obtain⟨ao,c,rfl⟩:=hl.shape;simp only at hs⊢;have aa:=Aq w (Q #[J name,J tb,J cl] 78);have hN:=fun w=>K5 name w hs
 have HH:=Adv T _ iv ab tb cl C _ (hl.keep (Ae (aa.mono hC))) (aD hC aa.size);have E:Hid (Ka T ⟨name,tb,cl⟩=(!nm name|| !Kq T tb cl)):=rfl;generalize Ka T _=r at E;generalize nm name=b at hN E;generalize Kq T tb cl=h at HH E;obtain⟨io,il,ic,rfl⟩:=ab;have ae:=(aa.cell ac).trans p0;have af:=(aa.cell ac).trans p1;clear hl hs;cases b
 ·go_enter dF,Tryz.ntmps147;go_wp2_with(go_fit(hN _);rintro e w1 ⟨rfl,rfl⟩);go_ret;exact⟨Ah (by rw[E.out];rfl),aa⟩
 ·go_enter dF,Tryz.ntmps147;go_wp2_with(first|(go_fit(hN _);rintro e w1 ⟨rfl,rfl⟩)|(go_fit HH;rintro e w2 ⟨rfl,ad⟩));go_ret;exact⟨Ah (by rw[E.out];rfl),Ac aa ad⟩
def Ta (T:List TabD)(I:List IdxD):Bool:=!Bz (atI I (Ka T)) 0 I.length&&Ic (I.map IdxD.name)
def Apz (I:List IdxD):Prop:=∀x∈I,x.name.size≤z∧x.table.size≤z∧x.col.size≤z
theorem Adw (T)(I)(tv iv)(C)(w)(hl:IsL Ci (fun k=>k<C) w tv T)(hi:IsL D6 (fun k=>k<C) w iv I)(hC:C≤w.heap.size)(hf:Apz I):
  S N 84 #[Z #[tv,iv]] w fun e w'=>e=U (aR (Ta T I))∧Below w.heap.size w w':=by
 obtain⟨ag,tc,rfl⟩:=hl.shape;obtain⟨ao,c,rfl⟩:=hi.shape;obtain⟨aa,ad,-⟩:=al1 w (Q #[L ag T.length tc,L ao I.length c] 41);have HC:=A33.2.2.1.has dF #[_] (fun v=>#[v,_]) I _ ao _ c (atI I _)
  _ (fun W=>Below (w.heap.size+1) _ W)
  _ (fun i W h=>h) (fun i W h=>hi.keep (Ae ((aa.mono hC).trans (h.mono (by omega)))))
  (by
   rintro i x cs W hx h1 rfl;have ae:=h1.size;rw[cS]at ae;have af:=aa.trans (h1.mono (by omega));have hB:=(h1.block _ (by omega)).trans ad;refine(Abu T x _ _ (B7 _ _ _) _ C W (hl.keep (Ae (af.mono hC))) (aD hC af.size) (hf x (aC hx)).1 (Aa hB rfl) (Aa hB rfl) (by omega)).mono ?_;rintro e W' ⟨rfl,hb⟩;have hT:=h1.trans (hb.mono ae);exact⟨by rw[Hu hx],hT,fun _=>hT⟩)
  (f _ _)
 have HR:=fun w' (h:Below _ w w')=>Ax0 I _ C w' (hi.keep (Ae (h.mono hC))) (aD hC h.size)
 have E:Hid (Ta T I=(!Bz _ 0 _&&Ic _)):=rfl;generalize Ta T I=r at E;generalize Bz _ 0 _=q at E HC;generalize Ic _=r2 at E HR;clear hl hi hf;cases q
 ·go_enter Tryz.func84,Tryz.ntmps84;go_wp2_with(first|(go_fit HC;rintro e w1 ⟨rfl,ab⟩;have ac:=aa.trans (ab.mono (by omega));have g1:=(ab.cell (p:=⟨w.heap.size,1,K⟩) (show w.heap.size<w.heap.size+1 by omega)).trans (Aa ad rfl))|(go_fit(HR _ ac);rintro e w2 ⟨rfl,ah⟩));go_ret;exact⟨Ah (by rw[E.out];rfl),Ac ac ah⟩
 ·go_enter Tryz.func84,Tryz.ntmps84;go_wp2_with(first|(go_fit HC;rintro e w1 ⟨rfl,ab⟩;have ac:=aa.trans (ab.mono (by omega))));go_ret;exact⟨Ah (by rw[E.out];rfl),ac⟩
structure CatD where
 tables:List TabD
 indexes:List IdxD
def Ds (c:CatD):Bool:=decide (c.tables.length≤3)&&decide (c.indexes.length≤4)&&Qw c.tables&&Ta c.tables c.indexes
def Hp (F:Nat→Prop)(w:cH)(c:CatD)(v:aQ):Prop:=∃tv iv,v=Z #[tv,iv]∧IsL Ci F w tv c.tables∧IsL D6 F w iv c.indexes
def K7 (c:CatD):Prop:=Apy c.tables∧Apz c.indexes
theorem Hp.keep {F}{w w'}{c}{v}(h:Hp F w c v)(hk:Keeps F w w'):Hp F w' c v:=by
 obtain⟨tv,iv,h1,h2,h3⟩:=h;exact⟨tv,iv,h1,h2.keep hk,h3.keep hk⟩
theorem Ak4 (ct)(v)(C)(w)(h:Hp (fun k=>k<C) w ct v)(hC:C≤w.heap.size)(hf:K7 ct):
  S N 47 #[v] w fun e w'=>e=U (aR (Ds ct))∧Below w.heap.size w w':=by
 obtain⟨T,I⟩:=ct;obtain⟨tv,iv,rfl,hl,hi⟩:=h;simp only at hl hi;obtain⟨ac,tc,rfl⟩:=hl.shape;obtain⟨ao,c,rfl⟩:=hi.shape;have aa:=Aq w (Q #[L ac T.length tc,L ao I.length c] 41);have HT:=Afu T _ C _ (hl.keep (Ae (aa.mono hC))) (aD hC aa.size) hf.1;have HI:=fun w' (h:Below _ w w')=>Adw T I _ _ C w' (hl.keep (Ae (h.mono hC))) (hi.keep (Ae (h.mono hC))) (aD hC h.size) hf.2
 have E:Hid (Ds ⟨T,I⟩=(decide (T.length≤3)&&decide (I.length≤4)&&Qw T&&Ta T I)):=rfl;generalize Ds _=r at E;generalize Qw T=g at HT E;generalize Ta T I=g2 at HI E;have ad:=(Ew hl).2;have ae:=(Ew hi).2;unfold z at ad ae;clear hl hi hf
 by_cases h3:T.length≤3
 rotate_left
 ·have q1:¬(T.length:Int)≤3:=by omega
  have E2:Hid (r=aT):=by show _=_;rw[E.out];simp[h3]
  clear HT HI E;go_enter cW,cP;go_wp2_with fail;go_ret;exact⟨Ah (by rw[E2.out]),aa⟩
 have q1:(T.length:Int)≤3:=by omega
 by_cases h4:I.length≤4
 rotate_left
 ·have q2:¬(I.length:Int)≤4:=by omega
  have E2:Hid (r=aT):=by show _=_;rw[E.out];simp[h4]
  clear HT HI E;go_enter cW,cP;go_wp2_with fail;go_ret;exact⟨Ah (by rw[E2.out]),aa⟩
 have q2:(I.length:Int)≤4:=by omega
 have E2:Hid (r=(g&&g2)):=by show _=_;rw[E.out];simp[h3,h4]
 clear E;cases g
 ·go_enter cW,cP;go_wp2_with(go_fit HT;rintro e w1 ⟨rfl,ab⟩);go_ret;exact⟨Ah (by rw[E2.out];rfl),Ac aa ab⟩
 ·go_enter cW,cP;go_wp2_with(first|(go_fit HT;rintro e w1 ⟨rfl,ab⟩;obtain⟨ag,ah⟩:=E5 ab)|(go_fit(HI _ (Ac aa ab));rintro e w2 ⟨rfl,af⟩));go_ret;exact⟨Ah (by rw[E2.out];rfl),Ac (Ac aa ab) af⟩
theorem Nj {α}(l)(q:α→Bool):Bz (atI l q) 0 l.length=l.any q:=by
 rw[Zk];rcases N4 l q with⟨h1,h2⟩|⟨k,x,h1,h2,h3,_⟩
 ·grind
 grind
def Gi (op:Int):Int:=if op=1∨op=2 then 0 else if op=9∨op=10 then 1 else if 3≤op∧op≤8 then 2 else-1
def Qx (op:Int)(x:V)(s name:Wd):Bool:=if op=1 then good x else if op=2 then nm name&&(decide (s.size=0)||nm s)else bF
def geB:Nat→E→Bool
 |0,_=>aT
 |d+1,.mk op x s name _ l=>decide ((l.length:Int)=Gi op)&&Qx op x s name&&l.all (geB d)
mutual
def Dd:E→Prop
 |.mk _ x s name _ l=>x.s.size≤z∧s.size≤z∧name.size≤z∧D7 l
def D7:List E→Prop
 |[]=>True
 |e::l=>Dd e∧D7 l
end
theorem K8:∀{l:List E}{e:E},D7 l→e∈l→Dd e
 |[],_,_,h=>by grind
 |x::l,e,h,he=>by
  rw[D7]at h;rcases List.mem_cons.1 he with rfl|he
  ·grind
  ·exact K8 h.2 he
theorem Afv (op)(w):S N 151 #[O M op] w fun e w'=>e=U (O M (Gi op))∧w'=w:=by
 by_cases g1:op=1<;>by_cases g2:op=2<;>by_cases h9:op=9<;>by_cases aa:op=10<;>by_cases h3:op=3<;>by_cases h4:op=4<;>by_cases h5:op=5<;>by_cases h6:op=6<;>by_cases h7:op=7<;>by_cases h8:op=8
 all_goals(try omega)
 all_goals
  have E:Hid (Gi op=if op=1∨op=2 then 0 else if op=9∨op=10 then 1 else if 3≤op∧op≤8 then 2 else-1):=rfl;go_enter Tryz.func151,Tryz.ntmps151;go_wp2;go_ret;refine⟨Au ?_,rfl⟩;rw[E.out];omega
theorem Ak5 (op)(x)(s name)(n)(ao)(k c)(w)(hx:x.s.size≤z)(hs:s.size≤z)(hn:name.size≤z):
  S N 152 #[Z (Af op x s name n (L ao k c))] w fun e w'=>e=U (aR (Qx op x s name))∧Below w.heap.size w w':=by
 have hG:=fun w=>Ml x w hx
 have hN:=fun w=>K5 name w hn
 have hS:=fun w=>K5 s w hs
 have aa:=Aq w (Q (Af op x s name n (L ao k c)) 69);have E:Hid (Qx op x s name=if op=1 then good x else if op=2 then nm name&&(decide _||nm s)else bF):=rfl;generalize Qx op x s name=r at E;generalize good x=g at hG E;obtain⟨xk,xn,xs⟩:=x;simp only[V.val]at hG
 by_cases h1:op=1
 ·subst h1;clear hN hS;go_enter cC,bU;go_wp2_with(go_fit(hG _);rintro e w1 ⟨rfl,rfl⟩);go_ret;exact⟨Ah (by rw[E.out];rfl),aa.alloc aa.size _⟩
 by_cases h2:op=2
 ·subst h2;have E2:Hid (r=(nm name&&(s.toList.isEmpty||nm s))):=by show _=_;rw[E.out,Ky];rfl
  clear hG E;generalize nm name=b at hN E2;generalize nm s=b2 at hS E2;cases b
  ·go_enter cC,bU;go_wp2_with(go_at_call 138;first|(go_fit(hN _);rintro e w1 ⟨rfl,rfl⟩));go_ret;exact⟨Ah (by rw[E2.out];rfl),aa⟩
  ·cases he:s.toList.isEmpty
   ·go_enter cC,bU;go_wp2_with(first|(go_at_call_of 138 (dC name);go_fit(hN _);rintro e w1 ⟨rfl,rfl⟩)|(go_at_call_of 138 (dC s);go_fit(hS _);rintro e w2 ⟨rfl,rfl⟩));go_ret;exact⟨Ah (by rw[E2.out,he];simp),aa⟩
   ·go_enter cC,bU;go_wp2_with(first|(go_at_call_of 138 (dC name);go_fit(hN _);rintro e w1 ⟨rfl,rfl⟩));go_ret;exact⟨Ah (by rw[E2.out,he];simp),aa⟩
 have E2:Hid (r=bF):=by show _=_;rw[E.out,if_neg h1,if_neg h2]
 clear hG hN hS E;go_enter cC,bU;go_wp2_with fail;go_ret;exact⟨Ah (by rw[E2.out]),aa⟩
def Sa (d:Nat):Prop:=∀(e:E) (v:aQ) (C:Nat) (w:cH),IsE (fun k=>k<C) w e v→C≤w.heap.size→Dd e→
  S N 86 #[v,O M (d:Int)] w fun r w'=>r=U (aR (geB d e))∧Below w.heap.size w w'
theorem Ai0:Sa 0:=by
 intro e v C w he hC hf;obtain⟨op,⟨xk,xn,xs⟩,s,name,n,ao,k,c,rfl⟩:=he.shape;show S _ 86 #[_,O _ 0] w _;clear he hf;go_enter cV,cO;go_wp2_with fail;go_quiet(fail);go_wp2;go_ret;exact⟨Ah (by rfl),below_drewN (Da w (Q (Af op ⟨xk,xn,xs⟩ s name n (L ao k c)) 69) (Q #[O M 0] 3)) _⟩
theorem Ai1 (d)(hd:d+1≤40)(ih:Sa d)(e)(v)(pb C)(w)(he:IsE (fun k=>k<C) w e v)(hC:C≤w.heap.size)(hf:Dd e)(hp:w.cell? ⟨pb,0,K⟩=A (O M ((d:Int)+1)))(ab:pb<w.heap.size):
  S N 153 #[v,cF (A ⟨pb,0,K⟩)] w fun r w'=>r=U (aR (!geB d e))∧Below w.heap.size w w':=by
 obtain⟨op,⟨xk,xn,xs⟩,s,name,n,ao,k,c,rfl⟩:=he.shape;have aa:=Aq w (Q (Af op ⟨xk,xn,xs⟩ s name n (L ao k c)) 69);have HG:=ih e _ C _ (IsE.keep (Ae (aa.mono hC)) e _ he) (aD hC aa.size) hf;generalize geB d e=r at HG;have ad:=(aa.cell ab).trans hp;have q2:min ((d:Int)+1) 40=d+1:=by omega
 have q3:dT (d+1-1)=d:=by unfold dT;omega
 clear he hf;go_enter Tryz.func153,Tryz.ntmps153;go_wp2_with(go_fit HG;rintro e w1 ⟨rfl,ac⟩);go_ret;exact⟨rfl,Ac aa ac⟩
theorem Ap0 {W W'}{g}{a0 a1 a2 a3 a4 a5 a6 a7 a8}(h:W.cell? ⟨g,0,K⟩=A a0∧W.cell? ⟨g,1,K⟩=A a1∧W.cell? ⟨g,2,K⟩=A a2∧W.cell? ⟨g,3,K⟩=A a3∧W.cell? ⟨g,4,K⟩=A a4∧W.cell? ⟨g,5,K⟩=A a5∧W.cell? ⟨g,6,K⟩=A a6∧W.cell? ⟨g,7,K⟩=A a7∧W.cell? ⟨g+1,0,K⟩=A a8)(hb:Below W.heap.size W W')(hg:g+2≤W.heap.size):W'.cell? ⟨g,0,K⟩=A a0∧W'.cell? ⟨g,1,K⟩=A a1∧W'.cell? ⟨g,2,K⟩=A a2∧W'.cell? ⟨g,3,K⟩=A a3∧W'.cell? ⟨g,4,K⟩=A a4∧W'.cell? ⟨g,5,K⟩=A a5∧W'.cell? ⟨g,6,K⟩=A a6∧W'.cell? ⟨g,7,K⟩=A a7∧W'.cell? ⟨g+1,0,K⟩=A a8:=by
 have kc:∀b o,b<W.heap.size→W'.cell? _=W.cell? _:=fun b o hh=>hb.cell (p:=⟨b,o,K⟩) hh
 grind
theorem Ax1 (w:cH)(op xk xn)(xs s name:Wd)(n)(ao)(k c)(d)(W)(hW:(w.alloc (Q (Af op ⟨xk,xn,xs⟩ s name n (L ao k c)) 69)).alloc (Q #[O M d] 3)=W):
  (W.cell? ⟨w.heap.size,0,K⟩=A (O M op)∧W.cell? ⟨w.heap.size,1,K⟩=A (O M xk)∧W.cell? ⟨w.heap.size,2,K⟩=A (O M xn)∧W.cell? ⟨w.heap.size,3,K⟩=A (J xs)∧W.cell? ⟨w.heap.size,4,K⟩=A (J s)∧W.cell? ⟨w.heap.size,5,K⟩=A (J name)∧W.cell? ⟨w.heap.size,6,K⟩=A (O M n)∧W.cell? ⟨w.heap.size,7,K⟩=A (L ao k c)∧W.cell? ⟨w.heap.size+1,0,K⟩=A (O M d))∧w.heap.size+2≤W.heap.size:=by
 have b0:W.heap[w.heap.size]?=A (Q (Af op ⟨xk,xn,xs⟩ s name n (L ao k c)) 69):=by rw[←hW];exact Ad (Ab _ _) _
 have b1:W.heap[w.heap.size+1]?=A (Q #[O M d] 3):=by rw[←hW];exact Ca _ _ _
 exact⟨⟨Aa b0 rfl,Aa b0 rfl,Aa b0 rfl,Aa b0 rfl,Aa b0 rfl,Aa b0 rfl,Aa b0 rfl,Aa b0 rfl,Aa b1 rfl⟩,aH b1⟩
theorem Ai2 (d)(hd:d+1≤40)(ih:Sa d):Sa (d+1):=by
 intro e v C w he hC hf;cases e with
 |mk op x s name n l=>
  obtain⟨sv,rfl,ab⟩:=he.open;obtain⟨ao,c,rfl⟩:=ab.shape;obtain⟨xk,xn,xs⟩:=x;rw[Dd]at hf;obtain⟨af,aj,ak,al⟩:=hf;simp only at af;have aa:=Da w (Q (Af op ⟨xk,xn,xs⟩ s name n (L ao l.length c)) 69) (Q #[O M (d+1)] 3);have HL:=fun w=>Ak5 op ⟨xk,xn,xs⟩ s name n ao l.length c w af aj ak
  have HA:=fun w=>Afv op w
  have E:Hid (geB (d+1) (.mk op _ s name n l)=(decide _&&Qx op ⟨xk,xn,xs⟩ s name&&l.all _)):=rfl;generalize geB _ _=r at E;generalize Qx op _ s name=lf at HL E;generalize Gi op=ar at HA E;rw[show((d+1:Nat):Int)=d+1 from by omega];have q0:¬(d:Int)+1<1:=by omega
  clear he
  by_cases ad:l.length=ar
  rotate_left
  ·have q1:(l.length !=ar)=bF:=by simpa using ad
   have E2:Hid (r=aT):=by show _=_;rw[E.out];simp[ad]
   clear E ab HL;go_enter cV,cO;go_wp2_with fail;go_quiet(first|(go_at_call 151;refine Calls.quiet_of_same (HA _)));go_wp2;go_ret;exact⟨Ah (by rw[E2.out]),below_drewN aa _⟩
  have E2:Hid (r=(lf&&l.all (geB d))):=by show _=_;rw[E.out];simp[ad]
  have q1:(l.length !=ar)=aT:=by simpa using ad
  obtain⟨S0,z0⟩:=Ax1 w op xk xn xs s name n ao l.length c (d+1) _ rfl;clear E;cases lf
  ·clear ab;go_enter cV,cO;go_wp2_with fail;generalize am:(w.alloc _).alloc _=W0 at aa S0 z0⊢
   go_region_held3(fun w'=>w'.cell? ⟨w.heap.size,0,K⟩=A (O M op)∧w'.cell? ⟨w.heap.size,1,K⟩=A (O M xk)∧w'.cell? ⟨w.heap.size,2,K⟩=A (O M xn)∧w'.cell? ⟨w.heap.size,3,K⟩=A (J xs)∧w'.cell? ⟨w.heap.size,4,K⟩=A (J s)∧w'.cell? ⟨w.heap.size,5,K⟩=A (J name)∧w'.cell? ⟨w.heap.size,6,K⟩=A (O M n)∧w'.cell? ⟨w.heap.size,7,K⟩=A (L ao l.length c)∧w'.cell? ⟨w.heap.size+1,0,K⟩=A (O M ((d:Int)+1))) (first|assumption|exact S0)
    (first|(go_fit(HA _);rintro e w' ⟨rfl,rfl⟩)|(go_fit(HL _);rintro e w2 ⟨rfl,ac⟩;have S1:=Ap0 (W:=W0.drew) S0 ac z0))
   go_wp2;go_ret;exact⟨Ah (by rw[E2.out];rfl),aa.drew.trans (ac.mono aa.size)⟩
  ·have HC:=fun W1 ae=>
    A33.2.2.2.1.has Tryz.func153 #[_] (fun v=>#[v,_]) l _ ao _ c (atI l _)
     _ (fun W=>Below (w.heap.size+2) _ W)
     W1 (fun i W h=>h) (fun i W h=>(Aj7.2 ab).keep (Ae ((aa.mono hC).trans (h.mono (by omega)))))
     (by
      rintro i x cs W hx h1 hR;have ag:=h1.size;rw[show((w.alloc _).alloc _).heap.size=w.heap.size+2 from by simp]at ag;have ae:=aa.trans (h1.mono (by omega));refine(Ai1 d hd ih x _ _ C W hR.2 (aD hC ae.size) (K8 al (aC hx)) ((h1.cell (show w.heap.size+1<w.heap.size+2 by omega)).trans (Aa (Ca _ _ _) rfl)) (by omega)).mono ?_;rintro e W' ⟨rfl,hb⟩;have hT:=h1.trans (hb.mono ag);exact⟨by rw[Hu hx],hT,fun _=>hT⟩)
     ae
   have ah:Hid (l.all (geB d)= !Bz (atI l fun a=>!geB d a) 0 l.length):=by
    show _=_;rw[Nj,dD]
   have ai:(w.alloc (Q (Af op ⟨xk,xn,xs⟩ s name n (L ao l.length c)) 69) |>.alloc (Q #[O M (d+1)] 3)).heap.size=w.heap.size+2:=by simp
   generalize Bz _ 0 _=q at HC ah;clear ab;go_enter cV,cO;go_wp2_with fail;generalize am:(w.alloc _).alloc _=W0 at aa S0 z0 HC ai⊢
   go_region_held3(fun w'=>w'.cell? ⟨w.heap.size,0,K⟩=A (O M op)∧w'.cell? ⟨w.heap.size,1,K⟩=A (O M xk)∧w'.cell? ⟨w.heap.size,2,K⟩=A (O M xn)∧w'.cell? ⟨w.heap.size,3,K⟩=A (J xs)∧w'.cell? ⟨w.heap.size,4,K⟩=A (J s)∧w'.cell? ⟨w.heap.size,5,K⟩=A (J name)∧w'.cell? ⟨w.heap.size,6,K⟩=A (O M n)∧w'.cell? ⟨w.heap.size,7,K⟩=A (L ao l.length c)∧w'.cell? ⟨w.heap.size+1,0,K⟩=A (O M ((d:Int)+1))) (first|assumption|exact S0)
    (first|(go_fit(HA _);rintro e w' ⟨rfl,rfl⟩)|(go_fit(HL _);rintro e w2 ⟨rfl,ac⟩;have S1:=Ap0 (W:=W0.drew) S0 ac z0))
   have an:Below (w.heap.size+2) W0 w2:=(f _ _).drew.trans (ac.mono (by rw[←ai];exact aF _));obtain⟨_,_,_,_,_,_,_,g7,_⟩:=S1;go_wp2_with(go_fit(HC _ an);rintro e w3 ⟨rfl,ap⟩);go_ret;exact⟨Ah (by rw[E2.out,ah.out];rfl),aa.trans (ap.mono (by omega))⟩
theorem Ok:∀d:Nat,d≤40→Sa d
 |0,_=>Ai0
 |d+1,h=>Ai2 d h (Ok d (by omega))
def E.opn:E→Int
 |.mk op _ _ _ _ _=>op
def K9 (e:E):Bool:=!geB 40 e
def Jd (l:List E):Bool:=l.any K9
def Kb (st:Stm):Bool:=!st.rows.any Jd&& !st.sets.any (fun t=>K9 t.2)&& !Jd st.out&& !Jd st.order&&(decide (st.wher.opn=0)|| !K9 st.wher)
structure FitS (st:Stm):Prop where
 rows:∀r∈st.rows,D7 r
 sets:∀t∈st.sets,Dd t.2∧t.1.size≤z
 out:D7 st.out
 order:D7 st.order
 wher:Dd st.wher
 name:st.name.size≤z
 table:st.table.size≤z
 col:st.col.size≤z
 cols:Zp st.cols
 frm:∀s∈st.frm,s.size≤z
theorem O5 (e)(v)(C)(w)(he:IsE (fun k=>k<C) w e v)(hC:C≤w.heap.size)(hf:Dd e):
  S N 85 #[v] w fun r w'=>r=U (aR (K9 e))∧Below w.heap.size w w':=by
 obtain⟨op,⟨xk,xn,xs⟩,s,name,n,ao,k,c,rfl⟩:=he.shape;have aa:=Aq w (Q (Af op ⟨xk,xn,xs⟩ s name n (L ao k c)) 69);have HG:S _ 86 #[Z _,O _ 40] _ _:=Ok 40 (aF _) e _ C _ (IsE.keep (Ae (aa.mono hC)) e _ he) (aD hC aa.size) hf;have E:Hid (K9 e= !geB 40 e):=rfl;generalize K9 e=r at E;generalize geB 40 e=g at HG E;clear he hf;go_enter Tryz.func85,Tryz.ntmps85;go_wp2_with(go_fit HG;rintro e w1 ⟨rfl,ab⟩);go_ret;exact⟨Ah (by rw[E.out]),Ac aa ab⟩
theorem Ak6 (l)(sv)(C)(w)(hl:IsL Az (fun k=>k<C) w sv l)(hC:C≤w.heap.size)(hf:D7 l):
  S N 88 #[sv,.func (.func 85) #[] #[]] w fun e w'=>e=U (aR (Jd l))∧Below w.heap.size w w':=by
 obtain⟨ao,c,rfl⟩:=hl.shape;have:=A33.2.2.2.1.has Tryz.func85 #[] (fun v=>#[v]) l _ ao _ c (atI l K9) _ (fun W=>Below _ w W) w (fun i W h=>h) (fun i W h=>hl.keep (Ae (h.mono hC)))
  (by
   rintro i x cs W hx h1 hR;refine(O5 x _ C W hR.2 (aD hC h1.size) (K8 hf (aC hx))).mono ?_;rintro e W' ⟨rfl,hb⟩;exact⟨by rw[Hu hx],h1.trans (hb.mono h1.size),fun _=>h1.trans (hb.mono h1.size)⟩)
  (f _ _)
 rw[Nj]at this;exact this
theorem O6 (l)(sv)(pb C)(w)(hl:IsL Az (fun k=>k<C) w sv l)(hC:C≤w.heap.size)(hf:D7 l)(hp:w.cell? ⟨pb,0,K⟩=A (.func (.func 85) #[] #[])):
  S N 87 #[sv,cF (A ⟨pb,0,K⟩)] w fun r w'=>r=U (aR (Jd l))∧Below w.heap.size w w':=by
 obtain⟨ao,c,rfl⟩:=hl.shape;have HC:=Ak6 l _ C w hl hC hf;generalize Jd l=r at HC;clear hl hf;go_enter Tryz.func87,Tryz.ntmps87;go_wp2_with(go_fit HC;rintro e w1 ⟨rfl,aa⟩);go_ret;simp_all
theorem Afw (t)(cs)(pb C)(w)(hR:E8.R (fun k=>k<C) w t cs)(hC:C≤w.heap.size)(hf:Dd t.2)(hp:w.cell? ⟨pb,0,K⟩=A (.func (.func 85) #[] #[]))(ab:pb<w.heap.size):
  S N 89 #[Z cs.toArray,cF (A ⟨pb,0,K⟩)] w fun r w'=>r=U (aR (K9 t.2))∧Below w.heap.size w w':=by
 obtain⟨d,rfl,hd,he⟩:=hR;obtain⟨xo,xk,xn,ac,xs,xm,xi,xa,xl,xc,rfl⟩:=Fh ⟨hd,he⟩;have aa:=Aq w (Q #[J t.1,O M xo,O M xk,O M xn,J ac,J xs,J xm,O M xi,L xa xl xc] 133);have HG:=O5 t.2 _ C _ (IsE.keep (Ae (aa.mono hC)) t.2 _ he) (aD hC aa.size) hf;have ae:=(aa.cell ab).trans hp;generalize K9 t.2=r at HG;clear he hf hd;go_enter Tryz.func89,Tryz.ntmps89;go_wp2_with(go_fit HG;rintro e w1 ⟨rfl,ad⟩);go_ret;exact⟨rfl,Ac aa ad⟩
theorem Ai3 (st)(cs)(C)(w)(hR:I6.R (fun k=>k<C) w st cs)(hC:C≤w.heap.size)(hf:FitS st):
  S N 48 #[Z cs.toArray] w fun r w'=>r=U (aR (Kb st))∧Below w.heap.size w w':=by
 obtain⟨o1,c1,o2,c2,o3,c3,o4,c4,o5,c5,op,xk,xn,xs,s,au,n8,o6,k6,c6,o7,c7,rfl,_,h2,h3,_,h5,h6,h7⟩:=Ba hR;obtain⟨ag,ab,ah,av⟩:=al2 w (Q (sA st.kind st.name st.table st.col (L o1 st.cols.length c1) (L o2 st.rows.length c2) (L o3 st.sets.length c3) (L o4 st.frm.length c4) (L o5 st.out.length c5) op xk xn xs s au n8 (L o6 k6 c6) (L o7 st.order.length c7) st.down st.n) 71) (Q #[.func (.func 85) #[] #[]] 140);generalize ai:((w.alloc _).alloc _)=W0 at ag ab ah av;have ad:Hid _:=ai;clear ai hR;have KB:∀W,Below _ W0 W→Below _ w W:=fun W h=>Ac ag h
 have KP:∀W,Below _ W0 W→W.cell? _=A (.func _ #[] #[]):=fun W h=>(h.cell (p:=⟨_,0,K⟩) (show w.heap.size+1<W0.heap.size by omega)).trans (Aa ah rfl)
 have KL:∀W,Below W0.heap.size W0 W→w.heap.size+1<W.heap.size:=fun W h=>aB (show w.heap.size+1<W0.heap.size by omega) h.size
 have KC:=fun W h=>aD hC (KB W h).size
 have H1:=A33.2.2.2.2.2.1.has Tryz.func87 #[_] (fun v=>#[v,_]) _ _ o2 _ c2 (atI _ Jd) _ (fun W=>Below _ W0 W) W0 (fun i W h=>h) (fun i W h=>h2.keep (Ae ((KB W h).mono hC)))
  (by
   rintro i x cs W hx h1 ⟨sv,rfl,aw⟩;refine(O6 x sv _ C W aw (KC W h1) (hf.rows x (aC hx)) (KP W h1)).mono ?_;rintro e W' ⟨rfl,hb⟩;exact⟨by rw[Hu hx],Ac h1 hb,fun _=>Ac h1 hb⟩)
  (f _ _)
 have H2:=fun W1 aa=>A33.2.2.2.2.2.2.has Tryz.func89 #[_] (fun v=>#[v,_]) _ _ o3 _ c3 (atI st.sets _) _ (fun W=>Below _ W0 W) W1 (fun i W h=>h) (fun i W h=>h3.keep (Ae ((KB W h).mono hC)))
  (by
   rintro i x cs W hx h1 hR;refine(Afw x cs _ C W hR (KC W h1) (hf.sets x (aC hx)).1 (KP W h1) (KL W h1)).mono ?_;rintro e W' ⟨rfl,hb⟩;exact⟨by rw[Hu hx],Ac h1 hb,fun _=>Ac h1 hb⟩)
  aa
 have H3:=fun W1 aa=>O6 _ _ _ C W1 (h5.keep (Ae ((KB W1 aa).mono hC))) (KC W1 aa) hf.out (KP W1 aa)
 have H4:=fun W1 aa=>O6 _ _ _ C W1 (h7.keep (Ae ((KB W1 aa).mono hC))) (KC W1 aa) hf.order (KP W1 aa)
 have H5:=fun W1 aa=>O5 _ _ C W1 (IsE.keep (Ae ((KB W1 aa).mono hC)) _ _ h6) (KC W1 aa) hf.wher
 have aj:st.wher.opn=op:=by
  cases hw:st.wher with
  |mk op' x' s' nm' n' l'=>
   rw[hw]at h6;obtain⟨sv,he,_⟩:=h6.open;simp only[Value.agg.injEq,Array.mk.injEq,List.cons.injEq,Value.int.injEq,true_and]at he;exact he.1.symm
 have E:Hid (Kb st=(!st.rows.any Jd&& !st.sets.any (fun t=>K9 t.2)&& !Jd st.out&& !Jd st.order&&(decide (op=0)|| !K9 st.wher))):=by show _=_;rw[Kb,aj]
 rw[Nj]at H1;simp only[Nj]at H2;generalize Kb st=r at E;generalize st.rows.any Jd=b1 at H1 E;generalize st.sets.any _=b2 at H2 E;generalize Jd _=b3 at H3 E;generalize Jd _=b4 at H4 E;generalize K9 _=b5 at H5 E;clear h2 h3 h5 h6 h7 aj hf;have KS:Hid (∀W,Below _ W0 W→W.heap[w.heap.size]?=A _):=fun W h=>(h.block _ (show w.heap.size<W0.heap.size by omega)).trans ab
 cases b1;rotate_left
 ·go_enter bP,bK;go_upto_region 4 with fail;rw[ad.out];have g5:=Aa ab (j:=5) rfl;go_wp2_with(first|(go_fit H1;rintro e w1 ⟨rfl,B1⟩;have S1:=KS.out _ B1;have g6:=Aa S1 (j:=6) rfl;have g8:=Aa S1 (j:=8) rfl));go_ret;exact⟨Ah (by rw[E.out];rfl),KB _ B1⟩
 cases b2;rotate_left
 ·go_enter bP,bK;go_upto_region 4 with fail;rw[ad.out];have g5:=Aa ab (j:=5) rfl;go_wp2_with(first|(go_fit H1;rintro e w1 ⟨rfl,B1⟩;have S1:=KS.out _ B1;have g6:=Aa S1 (j:=6) rfl;have g8:=Aa S1 (j:=8) rfl)|(go_fit(H2 _ B1);rintro e w2 ⟨rfl,B2⟩;have S2:=KS.out _ B2;have g8:=Aa S2 (j:=8) rfl));go_ret;exact⟨Ah (by rw[E.out];rfl),KB _ B2⟩
 cases b3;rotate_left
 ·go_enter bP,bK;go_upto_region 4 with fail;rw[ad.out];have g5:=Aa ab (j:=5) rfl;go_wp2_with(first|(go_fit H1;rintro e w1 ⟨rfl,B1⟩;have S1:=KS.out _ B1;have g6:=Aa S1 (j:=6) rfl;have g8:=Aa S1 (j:=8) rfl)|(go_fit(H2 _ B1);rintro e w2 ⟨rfl,B2⟩;have S2:=KS.out _ B2;have g8:=Aa S2 (j:=8) rfl)|(go_at_call_of 87 (aX o5 st.out.length c5);go_fit(H3 _ B2);rintro e w3 ⟨rfl,ac⟩;have B3:=Ac B2 ac;have ax:=KS.out _ B3;have af:=Aa ax (j:=17) rfl));go_ret;exact⟨Ah (by rw[E.out];rfl),KB _ B3⟩
 cases b4;rotate_left
 ·go_enter bP,bK;go_upto_region 4 with fail;rw[ad.out];have g5:=Aa ab (j:=5) rfl;go_wp2_with(first|(go_fit H1;rintro e w1 ⟨rfl,B1⟩;have S1:=KS.out _ B1;have g6:=Aa S1 (j:=6) rfl;have g8:=Aa S1 (j:=8) rfl)|(go_fit(H2 _ B1);rintro e w2 ⟨rfl,B2⟩;have g8:=Aa (KS.out _ B2) (j:=8) rfl)|(go_at_call_of 87 (aX o5 st.out.length c5);go_fit(H3 _ B2);rintro e w3 ⟨rfl,ac⟩;have B3:=Ac B2 ac;have af:=Aa (KS.out _ B3) (j:=17) rfl)|(go_at_call_of 87 (aX o7 st.order.length c7);go_fit(H4 _ B3);rintro e w4 ⟨rfl,ae⟩;have B4:=Ac B3 ae;have S4:=KS.out _ B4;have gp:=KP _ B4;have g9:=Aa S4 (j:=9) rfl;have ak:=Aa S4 (j:=10) rfl;have al:=Aa S4 (j:=11) rfl;have am:=Aa S4 (j:=12) rfl;have an:=Aa S4 (j:=13) rfl;have ap:=Aa S4 (j:=14) rfl;have aq:=Aa S4 (j:=15) rfl;have ar:=Aa S4 (j:=16) rfl));go_ret;exact⟨Ah (by rw[E.out];rfl),KB _ B4⟩
 by_cases h0:op=0
 ·subst h0;go_enter bP,bK;go_upto_region 4 with fail;rw[ad.out];have g5:=Aa ab (j:=5) rfl;go_wp2_with(first|(go_fit H1;rintro e w1 ⟨rfl,B1⟩;have S1:=KS.out _ B1;have g6:=Aa S1 (j:=6) rfl;have g8:=Aa S1 (j:=8) rfl)|(go_fit(H2 _ B1);rintro e w2 ⟨rfl,B2⟩;have g8:=Aa (KS.out _ B2) (j:=8) rfl)|(go_at_call_of 87 (aX o5 st.out.length c5);go_fit(H3 _ B2);rintro e w3 ⟨rfl,ac⟩;have B3:=Ac B2 ac;have af:=Aa (KS.out _ B3) (j:=17) rfl)|(go_at_call_of 87 (aX o7 st.order.length c7);go_fit(H4 _ B3);rintro e w4 ⟨rfl,ae⟩;have B4:=Ac B3 ae;have S4:=KS.out _ B4;have gp:=KP _ B4;have g9:=Aa S4 (j:=9) rfl;have ak:=Aa S4 (j:=10) rfl;have al:=Aa S4 (j:=11) rfl;have am:=Aa S4 (j:=12) rfl;have an:=Aa S4 (j:=13) rfl;have ap:=Aa S4 (j:=14) rfl;have aq:=Aa S4 (j:=15) rfl;have ar:=Aa S4 (j:=16) rfl));go_ret;exact⟨Ah (by rw[E.out];rfl),KB _ B4⟩
 ·have az:(op==0)=aT:=by simpa using h0
  have E2:Hid (r= !b5):=by show _=_;rw[E.out];simp[h0]
  go_enter bP,bK;go_upto_region 4 with fail;rw[ad.out];have g5:=Aa ab (j:=5) rfl;go_wp2_with(first|(go_fit H1;rintro e w1 ⟨rfl,B1⟩;have S1:=KS.out _ B1;have g6:=Aa S1 (j:=6) rfl;have g8:=Aa S1 (j:=8) rfl)|(go_fit(H2 _ B1);rintro e w2 ⟨rfl,B2⟩;have g8:=Aa (KS.out _ B2) (j:=8) rfl)|(go_at_call_of 87 (aX o5 st.out.length c5);go_fit(H3 _ B2);rintro e w3 ⟨rfl,ac⟩;have B3:=Ac B2 ac;have af:=Aa (KS.out _ B3) (j:=17) rfl)|(go_at_call_of 87 (aX o7 st.order.length c7);go_fit(H4 _ B3);rintro e w4 ⟨rfl,ae⟩;have B4:=Ac B3 ae;have S4:=KS.out _ B4;have gp:=KP _ B4;have g9:=Aa S4 (j:=9) rfl;have ak:=Aa S4 (j:=10) rfl;have al:=Aa S4 (j:=11) rfl;have am:=Aa S4 (j:=12) rfl;have an:=Aa S4 (j:=13) rfl;have ap:=Aa S4 (j:=14) rfl;have aq:=Aa S4 (j:=15) rfl;have ar:=Aa S4 (j:=16) rfl)|(go_fit(H5 _ B4);rintro e w5 ⟨rfl,ay⟩;have B5:=Ac B4 ay));go_ret;exact⟨Ah (by rw[E2.out]),KB _ B5⟩
def Jo (k want:Int):Bool:=decide (k=want)||decide (k=0)
def Pr (op:Int):Int:=if op=3∨op=4 then 1 else 3
def Mo (ts:List Int)(want:Int):Bool:=ts.all fun k=>Jo k want
def Abv (op:Int)(ts:List Int):Bool:=
 if op=3∨op=4 then Mo ts 1 else if op=5∨op=6 then Mo ts 1||Mo ts 2 else if op=7∨op=8∨op=9 then Mo ts 3 else bF
theorem Yc (k want)(w):S N 290 #[O M k,O M want] w fun e w'=>e=U (aR (Jo k want))∧w'=w:=by
 by_cases h1:k=want<;>by_cases h2:k=0
 all_goals
  go_enter Tryz.func290,Tryz.ntmps290;go_wp2;go_ret;exact⟨Ah (by simp_all [Jo]),rfl⟩
theorem Arp (op)(w):S N 293 #[O M op] w fun e w'=>e=U (O M (Pr op))∧w'=w:=by
 by_cases h1:op=3
 ·subst h1;go_enter dE,cZ;go_wp2;go_ret;exact⟨rfl,rfl⟩
 by_cases h2:op=4
 ·subst h2;go_enter dE,cZ;go_wp2;go_ret;exact⟨rfl,rfl⟩
 have E:Hid (Pr op=3):=by show _=_;simp[Pr,h1,h2]
 have e3:(op==3)=aT:=by simpa using h1
 have e4:(op==4)=aT:=by simpa using h2
 go_enter dE,cZ;go_wp2;go_ret;exact⟨Au (by rw[E.out]),rfl⟩
theorem Aui (k want)(pb)(w)(hp:w.cell? ⟨pb,0,K⟩=A (O M want)):S N 333 #[O M k,cF (A ⟨pb,0,K⟩)] w fun e w'=>e=U (aR (!Jo k want))∧w'=w:=by
 have HC:=fun w=>Yc k want w
 generalize Jo k want=b at HC;go_enter Tryz.func333,Tryz.ntmps333;go_wp2_with(go_fit(HC _);rintro e w1 ⟨rfl,rfl⟩);go_ret;simp
theorem Ax2 (ts)(tv)(want)(pb)(F)(w)(hl:IsL Ov F w tv ts)(hp:w.cell? ⟨pb,0,K⟩=A tv)(ab:pb<w.heap.size):
  S N 331 #[O M want,cF (A ⟨pb,0,K⟩)] w fun e w'=>e=U (aR (Mo ts want))∧Below w.heap.size w w':=by
 obtain⟨ao,c,rfl⟩:=hl.shape;obtain⟨aa,ac,-⟩:=al1 w (Q #[O M want] 3);have ad:=(aa.cell ab).trans hp;have HC:=A33.2.2.2.2.1.has Tryz.func333 #[_] (fun v=>#[v,_]) ts F ao _ c (atI ts _) _ (fun W=>W=w.alloc _) _ (fun i W h=>h)
  (fun i W h=>by rw[h];exact hl.keep (Ak aa))
  (by
   rintro i x cs W hx rfl rfl;refine(Aui x want _ _ (Aa ac rfl)).mono ?_;rintro e W' ⟨rfl,rfl⟩;exact⟨by rw[Hu hx],rfl,fun _=>rfl⟩)
  rfl
 rw[Nj]at HC;have E:Hid (Mo ts want= !ts.any fun k=>!Jo k want):=by show _=_;rw[Mo,dD]
 generalize Mo ts want=r at E;generalize(ts.any _)=q at HC E;clear hl;go_enter Tryz.func331,Tryz.ntmps331;go_wp2_with(go_fit HC;rintro e w1 ⟨rfl,rfl⟩);go_ret;exact⟨Ah (by rw[E.out]),aa⟩
theorem A00 (op)(ts)(tv)(F)(w)(hl:IsL Ov F w tv ts):
  S N 292 #[O M op,tv] w fun e w'=>e=U (aR (Abv op ts))∧Below w.heap.size w w':=by
 obtain⟨ao,c,rfl⟩:=hl.shape;obtain⟨ad,af,-⟩:=al1 w (Q #[L ao ts.length c] 262);have H:=fun ag W h=>Ax2 ts _ ag _ F W ((hl.keep (Ak ad)).keep (Ak h)) ((h.cell (by simp)).trans (Aa af rfl)) (aB (by simp) h.size)
 have E:Hid (Abv op ts=if op=3∨op=4 then Mo ts 1 else if op=5∨op=6 then Mo ts 1||Mo ts 2 else if op=7∨op=8∨op=9 then Mo ts 3 else bF):=rfl;generalize Abv op ts=r at E;have H1:=H 1;have H2:=H 2;have H3:=H 3;clear H hl;generalize Mo ts 1=b1 at H1 E;generalize Mo ts 2=b2 at H2 E;generalize Mo ts 3=b3 at H3 E
 by_cases aa:op=3∨op=4
 ·have E2:Hid (r=b1):=by show _=_;rw[E.out,if_pos aa]
  clear E;rcases aa with rfl|rfl
  all_goals
   go_enter cA,bT;go_wp2_with(go_at_call_of 331 (cT M 1);go_fit(H1 _ (f _ _));rintro e w1 ⟨rfl,ab⟩);go_ret;exact⟨Ah (by rw[E2.out]),Ac ad ab⟩
 by_cases ac:op=5∨op=6
 ·have E2:Hid (r=(b1||b2)):=by show _=_;rw[E.out,if_neg aa,if_pos ac]
  clear E aa;cases b1
  ·rcases ac with rfl|rfl
   all_goals
    go_enter cA,bT;go_wp2_with(first|(go_at_call_of 331 (cT M 1);go_fit(H1 _ (f _ _));rintro e w1 ⟨rfl,ab⟩)|(go_at_call_of 331 (cT M 2);go_fit(H2 _ ab);rintro e w2 ⟨rfl,ah⟩));go_ret;exact⟨Ah (by rw[E2.out];rfl),Ac ad (Ac ab ah)⟩
  ·rcases ac with rfl|rfl
   all_goals
    go_enter cA,bT;go_wp2_with(go_at_call_of 331 (cT M 1);go_fit(H1 _ (f _ _));rintro e w1 ⟨rfl,ab⟩);go_ret;exact⟨Ah (by rw[E2.out];rfl),Ac ad ab⟩
 by_cases ae:op=7∨op=8∨op=9
 ·have E2:Hid (r=b3):=by show _=_;rw[E.out,if_neg aa,if_neg ac,if_pos ae]
  clear E aa ac;rcases ae with rfl|rfl|rfl
  all_goals
   go_enter cA,bT;go_wp2_with(go_at_call_of 331 (cT M 3);go_fit(H3 _ (f _ _));rintro e w1 ⟨rfl,ab⟩);go_ret;exact⟨Ah (by rw[E2.out]),Ac ad ab⟩
 have E2:Hid (r=bF):=by show _=_;rw[E.out,if_neg aa,if_neg ac,if_neg ae]
 have e3:(op==3)=aT:=by simp;omega
 have e4:(op==4)=aT:=by simp;omega
 have e5:(op==5)=aT:=by simp;omega
 have e6:(op==6)=aT:=by simp;omega
 have e7:(op==7)=aT:=by simp;omega
 have e8:(op==8)=aT:=by simp;omega
 have e9:(op==9)=aT:=by simp;omega
 clear H1 H2 H3 E aa ac ae;go_enter cA,bT;go_wp2_with fail;go_ret;exact⟨Ah (by rw[E2.out]),ad⟩
end
end Go.Proofs.YtjapkoofjlmdgaaGreatDoor

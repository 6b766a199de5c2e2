/-
  17 texts of this proof in one,in build order:SRead,SRef,SStmt,SStmtR,SToks,SShelf,SLex,SLex2,SRd,WDel,YRise,WSearch,WIns,WWith,YCat,YCat2,YExpr.
-/
import Derived.Lib.Bytealg
import Derived.Lib.IndexLaws
import Derived.Lib.SlTrimSet
import Derived.Lib.AtoiAll
import Derived.Lib.AtoiAllCases
import Derived.Shelf.Strings.Builder1
import Derived.Shelf.Strings.Builder2
import Derived.Shelf.Strings.OnBuilder
import Derived.Shelf.Strings.SlTrimAscii
import Derived.Shelf.Small.Strs
import Derived.Shelf.LaysM
import Derived.Shelf.LaysC
import Derived.Shelf.Strconv.AtoiAll
import Derived.Shelf.Strconv.ErrVarAll
import Derived.Shelf.Strings.Search3
import Derived.Shelf.Strings.Shaped
import Derived.Shelf.Strings.Fields
import Derived.Test.YtocegbpmmiabmaaGreatDoorProg
import Derived.Test.YtocegbpmmiabmaaGreatDoorRows
import Derived.WalkKit
import Derived.WalkSpells
import Derived.WalkLawsBesides
import Derived.BigRegion
import Derived.Deep.RegionHeld3
import Derived.Deep.LoopGhost
import Derived.Deep.Cut
import Derived.Deep.QuietTactic
import Derived.BigQuiet
import Derived.Test.YtocegbpmmiabmaaGreatDoorJ01
import Derived.Test.YtocegbpmmiabmaaGreatDoorJ02
set_option linter.unusedSimpArgs false
set_option linter.unusedVariables false
set_option maxRecDepth 100000
set_option maxHeartbeats 0
open Go.Value renaming agg→aY,agg→bR,bool→bC,int→O,oneCell'→bK,ownBlock→fF,pointer→dO,slice→K,string→H,string→dN,tuple→fQ
open Option renaming getD_some→eL,none→J,some→A
open List renaming append_assoc→eS,append_nil→fO,drop_left'→fN,eq_nil_of_length_eq_zero→aP,ext_getElem→fD,flatten_append→bQ,getD_eq_getElem?_getD→aR,getElem?_append_left→dK,getElem?_append_right→bE,getElem?_eq_getElem→aA,getElem?_eq_some_iff→aI,getElem?_map→cC,getElem?_take_of_lt→bJ,getElem_mem→cH,length_append→bX,length_cons→fC,length_map→fM,length_take→bO,mem_append→fL,mem_append_left→eC,mem_cons→cS,mem_flatten→fB,mem_map→dU,mem_of_getElem?→aE,mem_of_mem_take→eB,size_toArray→cA,take_append→dB,take_append_drop→bB,take_left→bW,take_length→fA,take_of_length_le→bL,take_take→bV
open Go.Proofs.Tryz renaming func151→cL,func154→dS,func159→cK,func174→cX,func177→cW,func45→bZ,func54→dD,func93→dC,isAgg3→eA,isAgg5→dZ,isAgg9→dY,ntmps151→cF,ntmps159→cE,ntmps174→cR,ntmps177→cQ,ntmps45→bS,ntmps54→cV,ntmps93→cU,prog→M,sizeOf3→dR,sizeOf5→dQ,sizeOf9→dP,underlying0→eY,underlying21→eQ,underlying265→eK,underlying3→bN,underlying4→eX,underlying5→dA,underlying59→aM,underlying60→aL,underlying9→cZ,zeroValue0→fH,zeroValue21→eW,zeroValue265→eP,zeroValue3→dH,zeroValue4→fG,zeroValue5→dG,zeroValue9→dF
open Go.Ending renaming returned→z
open Go.RowKit.Below renaming refl→aB
open Nat renaming add_sub_cancel_left→dT,add_zero→aV,eq_zero_or_pos→eR,le_of_not_lt→fK,le_refl→aJ,le_succ→dI,le_succ_of_le→eZ,le_trans→aG,lt_of_lt_of_le→aC,lt_of_not_le→fJ,lt_succ_self→fI,min→cG,min_def→aZ,min_eq_left→aU,mul_le_mul_right→bG,zero_add→bH,zero_le→bF
open Go.Builtin renaming append_→eM,firstCells→dW,zeroCells→aD
open Go.Obj renaming cells→S
open Prod renaming ext→aF,fst→bU
open Go.Lib renaming indexByte→aH,indexByte_ge→dE,indexByte_some→eT,run_append_grow_zeros→dM,run_eql_slice_nil→eE,run_overlaps_apart→dV,wpList_append_run→eD
open Go renaming Calls→Z,Value→aW,World→bT,grownCap→cM,info_parts→cN,length_splice→aS,lt_of_block→aK,maxLen→aN,splice→bP,wpList_append_own_at→aX,zeroValue→eI
open Prod.mk renaming injEq→aO
open Go.Addr renaming add_lit→aQ
open Bool renaming false→aT,false_eq_true→eN,true→N
open Go.IntKind renaming i64→U,wrap_i64→bD
open Go.Op renaming bytesLess→bA
open Go.World renaming frozen?→bI,ownsRow_made→eH,ownsRow_nil→eJ,setCell→cO,shape?→cT,size_alloc→cY
open Array renaming getElem?_modify→bM,size_append→bY,size_map→fP,size_range→eV,toArray_toList→dX,toList_append→eF,toList_map→eU
open Go.Extern.SlicesOverlaps renaming overlaps→cD
open Go.Act renaming eval→cI,put→cP
open Go.Proofs renaming intOf→cJ
open Go.Shelf renaming Ren→dJ
open Option.some renaming injEq→dL
open Go.Proofs.Any renaming strings_IndexByte→eG
open Go.RowKit renaming wrap64→eO
open Go.Addr.mk renaming injEq→fE
namespace Go.Proofs.YtocegbpmmiabmaaGreatDoor
section
theorem Yf {ops}{s}{r}:∀{k:Int},k≠0→Ap ops s=(k,A r)→∃o,(o,k)∈ops∧s=A (o::r)∧Qg r:=by
 induction ops with
 |nil=>intro k hk h;simp[Ap]at h;omega
 |cons o ops ih=>
  intro k hk h;unfold Ap at h;split at h
  ·rename_i hs;simp at h;obtain⟨rfl,hf⟩:=Dw hs h.2;grind
  grind
theorem R6 {ops}{s}(hz:∀o∈ops,o.2≠0)(h:(Ap ops s).1=0):(Ap ops s).2=s:=by
 induction ops with
 |nil=>rfl
 |cons o ops ih=>
  unfold Ap at h⊢;grind
theorem Ala (ops):Ap ops J=(0,J):=by
 induction ops with
 |nil=>rfl
 |cons o ops ih=>assumption
theorem Adt {ops}{r}(h:Vp (ops.map bU) r):Ap ops (A r)=(0,A r):=by
 induction ops with
 |nil=>rfl
 |cons o ops ih=>
  unfold Ap;rw[Z0 fun x hx=>h x hx o.1 (by simp)];exact ih (h.sub fun k hk=>by grind)
theorem Aay {ops}{o}{k}{l}(hu:(ops.map bU).Nodup)(h:(o,k)∈ops):Ap ops (A (o::l))=(k,adv l):=by
 induction ops with
 |nil=>grind
 |cons p ops ih=>
  rw[List.map_cons,List.nodup_cons]at hu;rcases cS.1 h with e|h
  ·subst e;simp[Ap,J3]
  ·have aa:o≠p.1:=by
    rintro rfl;exact hu.1 (dU.2 ⟨(p.1,k),h,rfl⟩)
   unfold Ap;rw[Z0 (fun x hx=>by grind)];grind
theorem Ut (part)(ops)(f)(e):Dn part ops f e J=(e,J):=by
 cases f with
 |zero=>rfl
 |succ f=>simp[Dn,Ala]
theorem Adu {part}{P:Gr}{ops}(hp:Ci part P)(hz:∀o∈ops,o.2≠0):
  ∀f e s a r,Dn part ops f e s=(a,A r)→∀l0,Chain P ops l0 e→∃l,s=A (l++r)∧Chain P ops (l0++l) a:=by
 intro f
 induction f with
 |zero=>intro e s a r h l0 hc;simp[Dn]at h;simp_all
 |succ f ih=>
  intro e s a r h l0 hc;unfold Dn at h;split at h
  ·rename_i h0;rw[R6 hz h0]at h;simp_all
  ·rename_i h0;obtain⟨k,s1,hs⟩:∃k s1,Ap ops s=(k,s1):=⟨_,_,rfl⟩;rw[hs]at h h0;simp only at h h0;obtain⟨b,s2,hb⟩:∃b s2,part s1=(b,s2):=⟨_,_,rfl⟩;rw[hb]at h;simp only at h;cases s2 with
   |none=>rw[Ut]at h;grind
   |some r2=>
    obtain⟨m,rfl,hm⟩:=hp _ _ _ hb;obtain⟨o,ho,rfl,_⟩:=Yf h0 hs;obtain⟨l,hl,aa⟩:=ih _ _ _ _ h _ (Chain.more hc ho hm);grind
theorem Pu {part}{P:Gr}{ops}(hp:Ci part P)(hz:∀o∈ops,o.2≠0):Ci (Is part ops) (Chain P ops):=by
 intro s a r h;unfold Is at h;obtain⟨b,s2,hb⟩:∃b s2,part s=(b,s2):=⟨_,_,rfl⟩;rw[hb]at h;simp only at h;cases s2 with
 |none=>rw[Ut]at h;grind
 |some r2=>
  obtain⟨m,rfl,hm⟩:=hp _ _ _ hb;obtain⟨l,hl,aa⟩:=Adu hp hz _ _ _ _ _ h _ (Chain.one hm);grind
theorem Au4 {part}{P:Gr}{ops}{F}(hp:E8 part P F)(hu:(ops.map bU).Nodup)(hz:∀o∈ops,o.2≠0)(ho:∀o∈ops,0<o.1.size∧∀k∈F,o.1≠k){l}{e}(h:Chain P ops l e):
  ∀r,Qg r→Vp F r→(∃f,r.length≤f∧Is part ops (A (l++r))=Dn part ops f e (A r))∧Qg (l++r)∧l≠[]:=by
 induction h with
 |one h=>
  intro r hr hn;obtain⟨h1,h2,h3⟩:=hp _ _ r h hr hn;exact⟨⟨_,aJ _,by rw[Is,h1];rfl⟩,h2,h3⟩
 |more hc hok hm ih=>
  intro r hr hn;rename_i l a o k m b;obtain⟨h1,h2,h3⟩:=hp _ _ r hm hr hn;obtain⟨hs,hF⟩:=ho _ hok;obtain⟨⟨f,hf,h4⟩,h5,h6⟩:=ih (o::(m++r)) (Ft hs) (Q0 hF);cases f with
  |zero=>grind
  |succ f=>
   refine⟨⟨f,by grind,?_⟩,by grind,by simp⟩;rw[show(l++o::m)++r=l++(o::(m++r))from by simp,h4,Dn,Aay hu hok];simp only;rw[if_neg (hz _ hok),show adv _=A _ from h2,h1]
theorem O7 {part}{P:Gr}{ops}{F}(hp:E8 part P F)(hu:(ops.map bU).Nodup)(hz:∀o∈ops,o.2≠0)(ho:∀o∈ops,0<o.1.size∧∀k∈F,o.1≠k):E8 (Is part ops) (Chain P ops) (F++ops.map bU):=by
 intro l e r h hr hn;obtain⟨⟨f,hf,h1⟩,h2,h3⟩:=Au4 hp hu hz ho h r hr (hn.sub fun k hk=>by simp[hk]);refine⟨?_,h2,h3⟩;rw[h1];cases f with
 |zero=>rfl
 |succ f=>simp[Dn,Adt (hn.sub (F':=ops.map bU) fun k hk=>List.mem_append_right _ hk)]
abbrev Ays:List Wd:=[K6]++Adp.map bU
abbrev Z1:List Wd:=Ays++[kIs,kEq,kLt]
abbrev A4u:List Wd:=Z1++Adq.map bU
abbrev Ash:List Wd:=A4u++Aj6.map bU
theorem Adv {sub}{G:Gr}(hs:Ci sub G):Ci (Ha sub) (Atom G):=by
 intro s a r h;unfold Ha at h;split at h
 ·rename_i h0;simp at h;obtain⟨h1,_⟩:=Do h.2;obtain⟨l,h3,h4⟩:=hs _ _ _ (aF h.1 h1);obtain⟨rfl,_⟩:=Dw h0 h3;exact⟨_,by simp,.br h4⟩
 ·split at h
  ·rename_i h0;simp at h;obtain⟨rfl,h1⟩:=h;obtain⟨rfl,_⟩:=Dw h0 h1;exact⟨_,rfl,.null⟩
  ·split at h
   ·rename_i h0;simp at h;obtain⟨w,h1,h2,_⟩:=Tw (n:=(Cz _).1) (aF rfl h.2);obtain⟨rfl,_⟩:=Dw h0 h1;exact⟨_,rfl,by rw[←h.1];exact .neg h2⟩
   ·split at h
    ·simp at h;obtain⟨w,rfl,h2,_⟩:=Tw (n:=(Cz s).1) (aF rfl h.2);exact⟨[w],rfl,by rw[←h.1];exact .num h2⟩
    ·split at h
     ·rename_i h0;simp only[aO]at h;unfold Oj at h;split at h
      ·rename_i w l _;split at h
       ·rename_i hg;simp at h;obtain⟨rfl,h⟩:=h;obtain⟨rfl,_⟩:=Ye h;exact⟨[_],rfl,.text h0 hg⟩
       grind
      grind
     ·unfold Vo at h;split at h
      ·rename_i h0;simp at h;obtain⟨h1,h2,_⟩:=Fd (a:=(Bm _).1) (aF rfl h.2);obtain⟨h3,_⟩:=Dw h0 h1;obtain⟨h4,h5,_⟩:=Fd (a:=(Bm s).1) (aF rfl h3);exact⟨_,h4,by rw[←h.1];exact .dot h5 h2⟩
      ·rename_i h0;simp only[aO]at h;rw[Bp (by grind)]at h;obtain⟨h4,h5,_⟩:=Fd (a:=(Bm s).1) (aF rfl h.2);exact⟨_,h4,by rw[←h.1];exact .ref h5⟩
theorem Fg {k w}{l}(h:w≠k):Ag k (A (w::l))=(aT,A (w::l)):=by simp[Ag,h]
theorem Vp.ne {F r}(h:Vp F r){k}(hk:k∈F):∀x,r.head? =A x→x≠k:=fun x hx=>h x hx k hk
theorem Aqq {w}{n}(h:Kp w=A n):0<w.size:=Rl (Yd h)
theorem Adw {w}(h:nm w=N):0<w.size:=Rl (P6 h)
theorem Aja {sub:St→E×St}{G:Gr}{F:List Wd}(hs:E8 sub G F)(hF:∀k∈F,Dc≠k):E8 (Ha sub) (Atom G) [K6]:=by
 intro l e r h hr hn;cases h with
 |null=>exact⟨by simp[Ha,Fg (k:=Dl) (w:=Fw) (by simp),J3,show adv r=A r from hr],Ft (by decide),by simp⟩
 |num hw=>
  rename_i w n;have hb:Gj Bo (A (w::r))=N:=Yd hw;exact⟨by simp[Ha,Fg (k:=Dl) (Adn hw (by rfl)),Fg (k:=Fw) (Adn hw (by rfl)),Fg (k:=Gf) (Adn hw (by rfl)),hb,Vr hw,show adv r=A r from hr],Ft (Aqq hw),by simp⟩
 |neg hw=>
  rename_i w n;exact⟨by simp[Ha,Fg (k:=Dl) (w:=Gf) (by simp),Fg (k:=Fw) (w:=Gf) (by simp),J3,Mp (Aqq hw),Vr hw,show adv r=A r from hr],Ft (by decide),by simp⟩
 |text hw hg=>
  rename_i w;have hb:Gj Du (A (w::r))=N:=hw;have aa:Gj Bo (A (w::r))=aT:=Ur hw Aax;exact⟨by simp[Ha,Fg (k:=Dl) (Ado hw (by rfl)),Fg (k:=Fw) (Ado hw (by rfl)),Fg (k:=Gf) (Ado hw (by rfl)),hb,aa,Oj,hg,show adv r=A r from hr],Ft (Rl hw),by simp⟩
 |ref hw=>
  rename_i w;have hb:Gj Du (A (w::r))=aT:=Ur (P6 hw) R5;have aa:Gj Bo (A (w::r))=aT:=Ur (P6 hw) R4;exact⟨by simp[Ha,Fg (k:=Dl) (Tb hw (by rfl)),Fg (k:=Fw) (Tb hw (by rfl)),Fg (k:=Gf) (Tb hw (by rfl)),hb,aa,Vo,Vq hw,show adv r=A r from hr,Z0 (hn.ne (k:=K6) (by simp))],Ft (Adw hw),by simp⟩
 |dot hw hv=>
  rename_i w v;have hb:Gj Du (A (w::K6::v::r))=aT:=Ur (P6 hw) R5;have aa:Gj Bo (A (w::K6::v::r))=aT:=Ur (P6 hw) R4;exact⟨by simp[Ha,Fg (k:=Dl) (Tb hw (by rfl)),Fg (k:=Fw) (Tb hw (by rfl)),Fg (k:=Gf) (Tb hw (by rfl)),hb,aa,Vo,Vq hw,Vq hv,show adv r=A r from hr,Mp (w:=K6) (l:=v::r) (by decide),J3,Mp (Adw hv)],Ft (Adw hw),by simp⟩
 |br hx=>
  rename_i l;obtain⟨h1,h2,_⟩:=hs l e (Dc::r) hx (Ft (by decide)) (Q0 hF);refine⟨?_,Ft (by decide),by simp⟩;rw[show Dl::(l++[Dc])++r=Dl::(l++Dc::r)from by simp];simp[Ha,J3,show adv (l++Dc::r)=A (l++Dc::r)from h2,h1,Ak9,show adv r=A r from hr]
theorem Au5 {sub}{G:Gr}(hs:Ci sub G):Ci (Fo sub) (Ak8 G):=Pu (Adv hs) (by simp)
theorem Alb {sub}{G:Gr}{F}(hs:E8 sub G F)(hF:∀k∈F,Dc≠k):E8 (Fo sub) (Ak8 G) Ays:=
 O7 (Aja hs hF) (by simp) (by simp) (by decide)
theorem Adx {sub subT}{G T:Gr}(hs:Ci sub G)(ht:Ci subT T):Ci (It sub subT) (Tc G T):=by
 intro s a r h;have aa:=Au5 hs;unfold It at h;split at h
 ·rename_i h0;simp at h;obtain⟨l,h3,h4⟩:=ht _ _ _ (aF rfl h.2);obtain⟨rfl,_⟩:=Dw h0 h3;exact⟨N4::l,by simp,by rw[←h.1];exact .neg h4⟩
 ·split at h
  ·rename_i h0;simp at h;obtain⟨h1,_⟩:=Do h.2;obtain⟨h2,_⟩:=Dw h0 h1;obtain⟨l,rfl,h4⟩:=aa _ _ _ (aF rfl h2);exact⟨l++[kIs,Fw],by simp,by rw[←h.1];exact .is h4⟩
  ·split at h
   ·rename_i h0;rw[R6 (by simp) h0]at h;obtain⟨l,rfl,h4⟩:=aa _ _ _ h;exact⟨l,rfl,.sum h4⟩
   ·rename_i h0;simp at h;obtain⟨m,h3,h4⟩:=aa _ _ _ (aF rfl h.2);obtain⟨o,h5,h6,_⟩:=Yf h0 (aF rfl h3);obtain⟨l,rfl,h7⟩:=aa _ _ _ (aF rfl h6);exact⟨l++o::m,by simp,by rw[←h.1];exact .cmp h7 h5 h4⟩
theorem Asi {G}{l}{e}(h:Atom G l e):∃w m,l=w::m∧w≠N4:=by
 cases h with
 |null=>simp
 |num h=>exact⟨_,_,rfl,Adn h (by rfl)⟩
 |neg h=>simp
 |text h _=>exact⟨_,_,rfl,Ado h (by rfl)⟩
 |ref h=>exact⟨_,_,rfl,Tb h (by rfl)⟩
 |dot h _=>exact⟨_,_,rfl,Tb h (by rfl)⟩
 |br h=>simp
theorem Au6 {G}{l}{e}(h:Ak8 G l e):∃w m,l=w::m∧w≠N4:=by
 induction h with
 |one h=>exact Asi h
 |more _ _ _ ih=>grind
theorem Ajb {sub ad:St→E×St}{G T:Gr}{F:List Wd}(hs:E8 sub G F)(hF:∀k∈F,Dc≠k)(ht:E8 ad T Z1):E8 (It sub ad) (Tc G T) Z1:=by
 intro l e r h hr hn;have aa:=Alb hs hF;have ac:∀{l e}(x:List Wd),Ak8 G l e→Ag N4 (A (l++x))=(aT,A (l++x)):=by
  intro l e x h;obtain⟨w,m,rfl,hw⟩:=Au6 h;exact Fg hw
 cases h with
 |neg h=>
  rename_i l e;obtain⟨h1,h2,_⟩:=ht l e r h hr hn;exact⟨by simp[It,J3,show adv (l++r)=A (l++r)from h2,h1],Ft (by decide),by simp⟩
 |sum h=>
  obtain⟨h1,h2,h3⟩:=aa l e r h hr (hn.sub fun k hk=>eC _ hk);refine⟨?_,h2,h3⟩;have e1:Ap Fj _=(0,A r):=Adt (hn.sub fun k hk=>by grind);simp only[It,ac r h,h1,Z0 (hn.ne (k:=kIs) (by simp)),e1];simp
 |is h=>
  rename_i l e;obtain⟨h1,h2,h3⟩:=aa l e (kIs::Fw::r) h (Ft (by decide)) (Q0 (by decide));have e0:(l++[kIs,Fw])++r=l++kIs::Fw::r:=by simp
  rw[e0];refine⟨?_,h2,by simp⟩;simp only[It,ac _ h,h1,J3,Mp (w:=Fw) (l:=r) (by decide),Ak9,show adv r=A r from hr];simp
 |cmp h ho hm=>
  rename_i l a o k m b;obtain⟨h4,h5,_⟩:=aa m b r hm hr (hn.sub fun k hk=>eC _ hk);have ab:0<o.size∧o≠kIs∧(∀k∈Ays,o≠k)∧k≠0:=by
   rcases cS.1 ho with e|ho
   ·cases e;decide
   ·cases List.mem_singleton.1 ho;decide
  obtain⟨h1,h2,h3⟩:=aa l a (o::(m++r)) h (Ft ab.1) (Q0 ab.2.2.1);have e0:(l++o::m)++r=l++o::(m++r):=by simp
  rw[e0];refine⟨?_,h2,by simp⟩;have e1:Ap Fj (A (o::(m++r)))=(k,A (m++r)):=by rw[Aay (by simp) ho,show adv (m++r)=A (m++r)from h5]
  simp only[It,ac _ h,h1,Fg (k:=kIs) ab.2.1,e1,h4,if_neg ab.2.2.2];simp
theorem Yg (d):Ci (Jn d).1 (Kq d).1∧Ci (Jn d).2 (Kq d).2∧E8 (Jn d).1 (Kq d).1 Ash∧E8 (Jn d).2 (Kq d).2 Z1:=by
 have aa:∀d,(Ci (Kw d) (Adr d)∧Ci (Mh d) (Ads d)∧E8 (Kw d) (Adr d) Ash∧E8 (Mh d) (Ads d) Z1)→Ci (Jn d).1 (Kq d).1∧Ci (Jn d).2 (Kq d).2∧E8 (Jn d).1 (Kq d).1 Ash∧E8 (Jn d).2 (Kq d).2 Z1:=by
  intro d ⟨h1,h2,h3,h4⟩;rw[Au2,A1w];have t1:=Adx h1 h2;have t2:=Ajb h3 (by simp) h4;refine⟨Pu (Pu t1 (by simp)) (by simp),t1,?_,t2⟩;exact O7 (O7 t2 (by simp) (by simp) (by decide)) (by simp) (by simp) (by decide)
 induction d with
 |zero=>exact aa 0 ⟨fun s a r h=>by simp[Kw,Ok]at h,fun s a r h=>by simp[Mh,Ok]at h,fun l a r h=>h.elim,fun l a r h=>h.elim⟩
 |succ d ih=>exact aa _ ih
def Pv (d:Int)(w:Wd):Int:=if w=Dl then d+1 else if w=Dc then d-1 else d
def R7 (d:Int)(l:List Wd):Int:=l.foldl Pv d
def Ic:Int→List Wd→List Wd
 |_,[]=>[]
 |d,w::l=>if d=0 then w::Ic (Pv d w) l else Ic (Pv d w) l
theorem Aaz (d:Int)(l m:List Wd):R7 d (l++m)=R7 (R7 d l) m:=by simp[R7]
theorem Ahh (d:Int)(w:Wd)(m:List Wd):R7 d (w::m)=R7 (Pv d w) m:=rfl
theorem Ol:∀(l m:List Wd) (d:Int),Ic d (l++m)=Ic d l++Ic (R7 d l) m
 |[],m,d=>rfl
 |w::l,m,d=>by
  simp only[List.cons_append,Ic,Ol l m,Ahh];split<;>simp
def Bal (l:List Wd):Prop:=∀d:Int,0≤d→R7 d l=d∧(0<d→Ic d l=[])
theorem Bal.append {l m:List Wd}(h:Bal l)(k:Bal m):Bal (l++m):=by
 intro d hd;rw[Aaz,Ol,(h d hd).1];exact⟨(k d hd).1,fun h0=>by rw[(h d hd).2 h0,(k d hd).2 h0];rfl⟩
theorem Aa0 {w:Wd}(h1:w≠Dl)(h2:w≠Dc)(d:Int):Pv d w=d:=by simp[Pv,h1,h2]
theorem Bal.one {w:Wd}(h1:w≠Dl)(h2:w≠Dc):Bal [w]:=by
 intro d hd;simp only[R7,List.foldl_cons,List.foldl_nil,Ic,Aa0 h1 h2];exact⟨trivial,fun h=>by rw[if_neg (by omega)]⟩
theorem Bal.cons {w:Wd}{l:List Wd}(h1:w≠Dl)(h2:w≠Dc)(h:Bal l):Bal (w::l):=(Bal.one h1 h2).append h
theorem Bal.br {l:List Wd}(h:Bal l):Bal (Dl::(l++[Dc])):=by
 intro d hd;have e1:Pv d Dl=d+1:=by simp[Pv]
 have e2:Pv (d+1) Dc=d:=by
  unfold Pv;rw[if_neg (by decide),if_pos rfl];omega
 rw[Ahh,e1,Aaz,(h (d+1) (by omega)).1];refine⟨by simp[R7,e2],fun h0=>?_⟩;unfold Ic;rw[if_neg (by omega),e1,Ol,(h (d+1) (by omega)).1,(h (d+1) (by omega)).2 (by omega)];simp only[Ic];rw[if_neg (by omega)];rfl
theorem Bal.end {l:List Wd}(h:Bal l):R7 0 l=0:=(h 0 (by omega)).1
theorem Aog {l m:List Wd}(h:Bal l):Ic 0 (l++m)=Ic 0 l++Ic 0 m:=by rw[Ol,h.end]
theorem Au7 {w:Wd}{m:List Wd}(h1:w≠Dl)(h2:w≠Dc):Ic 0 (w::m)=w::Ic 0 m:=by
 rw[Ic,if_pos rfl,Aa0 h1 h2]
def A4v (w:Wd):Bool:=nm w||(Kp w).isSome||fst Du w||decide (w=Fw)||decide (w=Gf)||decide (w=K6)||decide (w=Dl)
def A5c (w:Wd):Bool:=A4v w||decide (w=A1e)
def A4w (w:Wd):Bool:=A5c w||decide (w=N4)||decide (w=kIs)||decide (w=kEq)||decide (w=kLt)
def A4x (w:Wd):Bool:=A4w w||decide (w=Ayh)
def A4y (w:Wd):Bool:=A4x w||decide (w=kOr)
def Ayt (w:Wd):Bool:=A4y w||decide (w=Dc)
structure Neat (t:Wd→Bool) (l:List Wd):Prop where
 bal:Bal l
 tops:∀w∈Ic 0 l,t w=N
 all:∀w∈l,Ayt w=N
theorem Neat.mono {t t':Wd→Bool}{l:List Wd}(h:Neat t l)(ht:∀w,t w=N→t' w=N):Neat t' l:=⟨h.bal,fun w hw=>ht w (h.tops w hw),h.all⟩
theorem Neat.append {t:Wd→Bool}{l m:List Wd}(h:Neat t l)(k:Neat t m):Neat t (l++m):=
 ⟨h.bal.append k.bal,fun w hw=>by rw[Aog h.bal,fL]at hw;exact hw.elim (h.tops w) (k.tops w),fun w hw=>(fL.1 hw).elim (h.all w) (k.all w)⟩
theorem Neat.one {t:Wd→Bool}{w:Wd}(h1:w≠Dl)(h2:w≠Dc)(ht:t w=N)(ha:Ayt w=N):Neat t [w]:=
 ⟨.one h1 h2,fun x hx=>by rw[Au7 h1 h2]at hx;simp[Ic]at hx;subst hx;exact ht,fun x hx=>by simp at hx;subst hx;exact ha⟩
theorem Neat.cons {t:Wd→Bool}{w:Wd}{l:List Wd}(h1:w≠Dl)(h2:w≠Dc)(ht:t w=N)(ha:Ayt w=N)(h:Neat t l):Neat t (w::l):=(Neat.one h1 h2 ht ha).append h
def Lr (s:St):Int×St:=if(Ag Tu s).1 then(1,(Ag Tu s).2)else(2,Cg Zv (Ag Tu s).2)
def O8 (s:St):ColD×St:=(⟨(Bm s).1,(Lr (Bm s).2).1,(Ag Vg (Lr (Bm s).2).2).1⟩,(Ag Vg (Lr (Bm s).2).2).2)
def Uu (s:St):Stm×St:=({Aj 1 with name:=(Bm s).1,cols:=(Hu O8 (Bm s).2).1},(Hu O8 (Bm s).2).2)
def Uv (s:St):Stm×St:=
 let s1:=Bm s
 let s2:=Bm (Cg kOn s1.2)
 let s3:=Bm (Cg Dl s2.2)
 ({Aj 2 with name:=s1.1,table:=s2.1,col:=s3.1},Cg Dc s3.2)
def Nh (s:St):Stm×St:=if(Ag Ka s).1 then Uu (Ag Ka s).2 else Uv (Cg Xy (Ag Ka s).2)
def Z2 (s:St):Stm×St:=({Aj 3 with name:=(Bm (Cg Ka s)).1},(Bm (Cg Ka s)).2)
def Alc (s:St):List E×St:=Hu Mi s
def Rm (s:St):Stm×St:=
 let s1:=Bm (Cg Aj3 s)
 let s2:=Ib Alc (Cg Zw s1.2)
 ({Aj 4 with table:=s1.1,rows:=s2.1},s2.2)
def Ma (s:St):E×St:=if(Ag N7 s).1 then Mi (Ag N7 s).2 else(E.nil,(Ag N7 s).2)
def Rn (s:St):Stm×St:=
 let s1:=Bm (Cg Vf s)
 let s2:=Ma s1.2
 ({Aj 5 with table:=s1.1,wher:=s2.1},s2.2)
def Ro (s:St):(Wd×E)×St:=
 let s1:=Bm s
 let s2:=Mi (Cg kEq s1.2)
 ((s1.1,s2.1),s2.2)
def Rp (s:St):Stm×St:=
 let s1:=Bm s
 let s2:=Ib Ro (Cg Ar6 s1.2)
 let s3:=Ma s2.2
 ({Aj 6 with table:=s1.1,sets:=s2.1,wher:=s3.1},s3.2)
def Af0 (s:St):List E×St:=if(Ag Zx s).1 then([],(Ag Zx s).2)else Ib Mi (Ag Zx s).2
def Uw (s:St):(List E×Bool)×St:=
 if(Ag N5 s).1 then
  let s1:=Mi (Cg kBy (Ag N5 s).2)
  (([s1.1],(Ag Zu s1.2).1),(Ag Zu s1.2).2)
 else(([],aT),(Ag N5 s).2)
def Ux (s:St):Int×St:=if(Ag Ry s).1 then Cz (Ag Ry s).2 else(-1,(Ag Ry s).2)
def Uy (s:St):Stm×St:=
 let s1:=Af0 s
 let s2:=Ib Bm (Cg Vf s1.2)
 let s3:=Ma s2.2
 let s4:=Uw s3.2
 let s5:=Ux s4.2
 ({Aj 7 with out:=s1.1,frm:=s2.1,wher:=s3.1,order:=s4.1.1,down:=s4.1.2,n:=s5.1},s5.2)
def C5 (s:St):Stm×St:=
 if(Ag Jj s).1 then Nh (Ag Jj s).2
 else if(Ag S6 s).1 then Z2 (Ag S6 s).2
 else if(Ag M9 s).1 then Rm (Ag M9 s).2
 else if(Ag M8 s).1 then Rn (Ag M8 s).2
 else if(Ag Nb s).1 then Rp (Ag Nb s).2
 else if(Ag Na s).1 then Uy (Ag Na s).2
 else(Stm.nil,J)
def Ej:Nat→List Stm→St→List Stm×St
 |0,acc,s=>(acc,s)
 |f+1,acc,s=>match s with
  |some (w::l)=>Ej f (acc++[(C5 (A (w::l))).1]) (Cg Oa (C5 (A (w::l))).2)
  |s=>(acc,s)
inductive ListG {α:Type}(P:List Wd→α→Prop):List Wd→List α→Prop
 |one {l a}:P l a→ListG P l [a]
 |more {l a m az}:P l a→ListG P m az→ListG P (l++Em::m) (a::az)
def A3u (l:List Wd)(c:ColD):Prop:=nm c.name=N∧∃t,(t=Tu∧c.ty=1∨t=Zv∧c.ty=2)∧l=c.name::t::(if c.must then[Vg]else[])
def BrG {α:Type}(P:List Wd→List α→Prop)(l:List Wd)(az:List α):Prop:=∃m,l=Dl::(m++[Dc])∧P m az
abbrev A3v:List Wd→List E→Prop:=BrG (ListG Td)
def Yh (l:List Wd)(e:E):Prop:=l=[]∧e=E.nil∨∃m,l=N7::m∧Td m e
def A3w (l:List Wd)(c:Wd×E):Prop:=nm c.1=N∧∃m,l=c.1::kEq::m∧Td m c.2
def A1f (l:List Wd)(a:Wd):Prop:=nm a=N∧l=[a]
def A3x (l:List Wd)(es:List E):Prop:=l=[Zx]∧es=[]∨ListG Td l es
def Au8 (l:List Wd)(o:List E×Bool):Prop:=l=[]∧o=([],aT)∨∃m e,Td m e∧o.1=[e]∧l=N5::kBy::(m++if o.2 then[Zu]else[])
def Au9 (l:List Wd)(n:Int):Prop:=l=[]∧n= -1∨∃w,Kp w=A n∧l=[Ry,w]
inductive StmG:List Wd→Stm→Prop
 |table {n cs l}:nm n=N→ListG A3u l cs→StmG (Jj::Ka::n::Dl::(l++[Dc])) {Aj 1 with name:=n,cols:=cs}
 |index {a b c}:nm a=N→nm b=N→nm c=N→StmG [Jj,Xy,a,kOn,b,Dl,c,Dc] {Aj 2 with name:=a,table:=b,col:=c}
 |drop {n}:nm n=N→StmG [S6,Ka,n] {Aj 3 with name:=n}
 |insert {t l rs}:nm t=N→ListG A3v l rs→StmG (M9::Aj3::t::Zw::l) {Aj 4 with table:=t,rows:=rs}
 |delete {t w e}:nm t=N→Yh w e→StmG (M8::Vf::t::w) {Aj 5 with table:=t,wher:=e}
 |update {t l ss w e}:nm t=N→ListG A3w l ss→Yh w e→StmG (Nb::t::Ar6::(l++w)) {Aj 6 with table:=t,sets:=ss,wher:=e}
 |select {o os f fs w e r es m n}:A3x o os→ListG A1f f fs→Yh w e→Au8 r es→Au9 m n→StmG (Na::(o++Vf::(f++(w++(r++m))))) {Aj 7 with out:=os,frm:=fs,wher:=e,order:=es.1,down:=es.2,n:=n}
theorem Om:Ci Mi Td:=(Yg 5).1
theorem Ava {α}(one)(f)(acc:List α):J2 one f acc J=(acc,J):=by
 cases f<;>simp[J2,Au3]
theorem Asj {α}{one}{P:List Wd→α→Prop}(hp:Ci one P):∀f acc s az r,J2 one f acc s=(az,A r)→(s=A r∧az=acc)∨∃l bs,s=A (Em::(l++r))∧ListG P l bs∧az=acc++bs:=by
 intro f
 induction f with
 |zero=>intro acc s az r h;simp[J2]at h;grind
 |succ f ih=>
  intro acc s az r h;unfold J2 at h;split at h
  ·rename_i h0;obtain⟨b,s2,hb⟩:∃b s2,one (Ag Em s).2=(b,s2):=⟨_,_,rfl⟩;rw[hb]at h;simp only at h;cases s2 with
   |none=>grind
   |some r2=>
    obtain⟨m,h1,hm⟩:=hp _ _ _ hb;obtain⟨rfl,_⟩:=Dw h0 h1;rcases ih _ _ _ _ h with⟨h2,h3⟩|⟨l,bs,h2,h3,h4⟩
    ·simp at h2;subst h2;exact .inr ⟨m,[b],rfl,.one hm,h3⟩
    ·simp at h2;subst h2;exact .inr ⟨_,_,by simp,.more hm h3,by grind⟩
  ·rename_i h0;rw[Bp (by grind)]at h;grind
theorem On {α}{one}{P:List Wd→α→Prop}(hp:Ci one P):Ci (Ib one) (ListG P):=by
 intro s az r h;unfold Ib at h;obtain⟨b,s2,hb⟩:∃b s2,one s=(b,s2):=⟨_,_,rfl⟩;rw[hb]at h;simp only at h;cases s2 with
 |none=>rw[Ava]at h;grind
 |some r2=>
  obtain⟨m,rfl,hm⟩:=hp _ _ _ hb;rcases Asj hp _ _ _ _ _ h with⟨h2,h3⟩|⟨l,bs,h2,h3,h4⟩
  ·simp at h2;subst h2;subst h3;exact⟨m,rfl,.one hm⟩
  ·simp at h2;subst h2;exact⟨m++Em::l,by simp,by rw[h4];exact .more hm h3⟩
theorem Uz {α}{one}{P:List Wd→α→Prop}(hp:Ci one P):Ci (Hu one) (BrG (ListG P)):=by
 intro s az r h;simp only[Hu,aO]at h;obtain⟨h1,_⟩:=Do h.2;obtain⟨l,h2,h3⟩:=On hp _ _ _ (aF h.1 h1);obtain⟨rfl,_⟩:=Do h2;exact⟨_,by simp,l,rfl,h3⟩
theorem Ask:Ci Bm A1f:=by
 intro s a r h;obtain⟨rfl,h1,_⟩:=Fd h;exact⟨[a],rfl,h1,rfl⟩
theorem Ady (k)(s)(r)(h:(Ag k s).2=A r):(Ag k s).1=N∧s=A (k::r)∧Qg r∨(Ag k s).1=aT∧s=A r:=by
 cases hb:(Ag k s).1
 ·rw[Bp hb]at h;grind
 ·obtain⟨h1,h2⟩:=Dw hb h;grind
theorem Aoh {s}{t}{r}(h:Lr s=(t,A r)):∃w,s=A (w::r)∧(w=Tu∧t=1∨w=Zv∧t=2):=by
 unfold Lr at h;split at h
 ·rename_i h0;simp at h;obtain⟨rfl,_⟩:=Dw h0 h.2;grind
 ·rename_i h0;rw[Bp (by grind)]at h;simp at h;obtain⟨rfl,_⟩:=Do h.2;grind
theorem Ald:Ci O8 A3u:=by
 intro s c r h;simp only[O8,aO]at h;obtain⟨rfl,h⟩:=h;rcases Ady _ _ _ h with⟨h1,h2,_⟩|⟨h1,h2⟩
 all_goals
  obtain⟨w,h3,h4⟩:=Aoh (aF rfl h2);obtain⟨h5,h6,_⟩:=Fd (aF rfl h3)
 ·exact⟨[_,w,Vg],h5,h6,w,h4,by grind⟩
 ·exact⟨[_,w],h5,h6,w,h4,by grind⟩
theorem R8:Ci Ma Yh:=by
 intro s e r h;unfold Ma at h;split at h
 ·rename_i h0;obtain⟨l,h1,h2⟩:=Om _ _ _ h;obtain⟨rfl,_⟩:=Dw h0 h1;exact⟨_,by simp,.inr ⟨l,rfl,h2⟩⟩
 ·rename_i h0;rw[Bp (by grind)]at h;simp at h;exact⟨[],h.2,.inl ⟨rfl,h.1.symm⟩⟩
theorem Ale:Ci Ro A3w:=by
 intro s c r h;simp only[Ro,aO]at h;obtain⟨rfl,h⟩:=h;obtain⟨l,h1,h2⟩:=Om _ _ _ (aF rfl h);obtain⟨h3,_⟩:=Do h1;obtain⟨h4,h5,_⟩:=Fd (aF rfl h3);exact⟨_,h4,h5,l,rfl,h2⟩
theorem Avb:Ci Af0 A3x:=by
 intro s e r h;unfold Af0 at h;split at h
 ·rename_i h0;simp at h;obtain⟨rfl,_⟩:=Dw h0 h.2;exact⟨_,rfl,.inl ⟨rfl,h.1⟩⟩
 ·rename_i h0;rw[Bp (by grind)]at h;obtain⟨l,h1,h2⟩:=On Om _ _ _ h;exact⟨l,h1,.inr h2⟩
theorem Aoi:Ci Uw Au8:=by
 intro s o r h;unfold Uw at h;split at h
 ·rename_i h0;simp only[aO]at h;obtain⟨rfl,h⟩:=h;rcases Ady _ _ _ h with⟨h1,h2,_⟩|⟨h1,h2⟩
  all_goals
   obtain⟨l,h3,h4⟩:=Om _ _ _ (aF rfl h2);obtain⟨h5,_⟩:=Do h3;obtain⟨rfl,_⟩:=Dw h0 h5
  ·exact⟨N5::kBy::(l++[Zu]),by simp,.inr ⟨l,_,h4,rfl,by grind⟩⟩
  ·exact⟨N5::kBy::l,by simp,.inr ⟨l,_,h4,rfl,by grind⟩⟩
 ·rename_i h0;rw[Bp (by grind)]at h;simp at h;exact⟨[],h.2,.inl ⟨rfl,h.1.symm⟩⟩
theorem Aoj:Ci Ux Au9:=by
 intro s n r h;unfold Ux at h;split at h
 ·rename_i h0;obtain⟨w,h1,h2,_⟩:=Tw h;obtain⟨rfl,_⟩:=Dw h0 h1;exact⟨_,rfl,.inr ⟨w,h2,rfl⟩⟩
 ·rename_i h0;rw[Bp (by grind)]at h;simp at h;exact⟨[],h.2,.inl ⟨rfl,h.1.symm⟩⟩
theorem Aok:Ci Uu fun l st=>StmG (Jj::Ka::l) st:=by
 intro s st r h;simp only[Uu,aO]at h;obtain⟨rfl,h⟩:=h;obtain⟨l,h2,m,rfl,h3⟩:=Uz Ald _ _ _ (aF rfl h);obtain⟨h4,h5,_⟩:=Fd (aF rfl h2);exact⟨_,h4,.table h5 h3⟩
theorem Aol:Ci Uv fun l st=>StmG (Jj::Xy::l) st:=by
 intro s st r h;simp only[Uv,aO]at h;obtain⟨rfl,h⟩:=h;obtain⟨h2,_⟩:=Do h;obtain⟨h3,n3,_⟩:=Fd (aF rfl h2);obtain⟨h4,_⟩:=Do h3;obtain⟨h5,n5,_⟩:=Fd (aF rfl h4);obtain⟨h6,_⟩:=Do h5;obtain⟨h7,n7,_⟩:=Fd (aF rfl h6);exact⟨_,h7,.index n7 n5 n3⟩
theorem Alf:Ci Nh fun l st=>StmG (Jj::l) st:=by
 intro s st r h;unfold Nh at h;split at h
 ·rename_i h1;obtain⟨l,h2,h3⟩:=Aok _ _ _ h;obtain⟨h4,_⟩:=Dw h1 h2;grind
 ·rename_i h1;rw[Bp (by grind)]at h;obtain⟨l,h2,h3⟩:=Aol _ _ _ h;obtain⟨h4,_⟩:=Do h2;grind
theorem Asl:Ci Z2 fun l st=>StmG (S6::l) st:=by
 intro s st r h;simp only[Z2,aO]at h;obtain⟨rfl,h⟩:=h;obtain⟨h1,h2,_⟩:=Fd (aF rfl h);obtain⟨h3,_⟩:=Do h1;exact⟨_,h3,.drop h2⟩
theorem Avc:Ci Alc A3v:=Uz Om
theorem Alg:Ci Rm fun l st=>StmG (M9::l) st:=by
 intro s st r h;simp only[Rm,aO]at h;obtain⟨rfl,h⟩:=h;obtain⟨l,h1,h2⟩:=On Avc _ _ _ (aF rfl h);obtain⟨h3,_⟩:=Do h1;obtain⟨h4,h5,_⟩:=Fd (aF rfl h3);obtain⟨h6,_⟩:=Do h4;exact⟨_,h6,.insert h5 h2⟩
theorem Alh:Ci Rn fun l st=>StmG (M8::l) st:=by
 intro s st r h;simp only[Rn,aO]at h;obtain⟨rfl,h⟩:=h;obtain⟨l,h1,h2⟩:=R8 _ _ _ (aF rfl h);obtain⟨h4,h5,_⟩:=Fd (aF rfl h1);obtain⟨h6,_⟩:=Do h4;exact⟨_,h6,.delete h5 h2⟩
theorem Ali:Ci Rp fun l st=>StmG (Nb::l) st:=by
 intro s st r h;simp only[Rp,aO]at h;obtain⟨rfl,h⟩:=h;obtain⟨l,h1,h2⟩:=R8 _ _ _ (aF rfl h);obtain⟨m,h3,h4⟩:=On Ale _ _ _ (aF rfl h1);obtain⟨h5,_⟩:=Do h3;obtain⟨h6,h7,_⟩:=Fd (aF rfl h5);exact⟨_,h6.trans (by simp),.update h7 h4 h2⟩
theorem Aom:Ci Uy fun l st=>StmG (Na::l) st:=by
 intro s st r h;simp only[Uy,aO]at h;obtain⟨rfl,h⟩:=h;obtain⟨l5,h1,g1⟩:=Aoj _ _ _ (aF rfl h);obtain⟨l4,h2,g2⟩:=Aoi _ _ _ (aF rfl h1);obtain⟨l3,h3,g3⟩:=R8 _ _ _ (aF rfl h2);obtain⟨l2,h4,g4⟩:=On Ask _ _ _ (aF rfl h3);obtain⟨h5,_⟩:=Do h4;obtain⟨l1,h6,g6⟩:=Avb _ _ _ (aF rfl h5);exact⟨_,by grind,.select g6 g4 g3 g2 g1⟩
theorem Ajc:Ci C5 StmG:=by
 intro s st r h;have aa:∀{k}{p},(Ag k s).1=N→Ci p (fun l st=>StmG (k::l) st)→p (Ag k s).2=(st,A r)→∃l,s=A (l++r)∧StmG l st:=by
  intro k p h0 hp h;obtain⟨l,h1,h2⟩:=hp _ _ _ h;obtain⟨h3,_⟩:=Dw h0 h1;exact⟨k::l,h3,h2⟩
 unfold C5 at h;split at h
 ·rename_i h0;exact aa h0 Alf h
 ·split at h
  ·rename_i h0;exact aa h0 Asl h
  ·split at h
   ·rename_i h0;exact aa h0 Alg h
   ·split at h
    ·rename_i h0;exact aa h0 Alh h
    ·split at h
     ·rename_i h0;exact aa h0 Ali h
     ·split at h
      ·rename_i h0;exact aa h0 Aom h
      grind
theorem A3y {f:Nat}{acc:List Stm}:Ej f acc J=(acc,J)∧Ej f acc (A [])=(acc,A []):=by cases f<;>exact⟨rfl,rfl⟩
theorem Ci.shrinks {α:Type}{p:St→α×St}{G:List Wd→α→Prop}(h:Ci p G)(s:St):Bg (p s).2≤Bg s:=by
 cases h2:(p s).2 with
 |none=>simp[Bg]
 |some r=>
  obtain⟨l,rfl,_⟩:=h s _ r (aF rfl h2);simp[Bg]
theorem Alj (k:Wd)(s:St):Bg (Cg k s)≤Bg s-1:=by
 cases h:Cg k s with
 |none=>simp[Bg]
 |some r=>obtain⟨rfl,_⟩:=Do h;simp[Bg]
theorem Yi {k:Wd}{s:St}(h:(Ag k s).1=N):Bg (Ag k s).2+1≤Bg s:=by
 cases h2:(Ag k s).2 with
 |none=>
  cases s with
  |none=>simp[Ag]at h
  |some l=>cases l with
   |nil=>simp[Ag]at h
   |cons w l=>simp[Bg]
 |some r=>obtain⟨rfl,_⟩:=Dw h h2;simp[Bg]
theorem Adz {aa:List (Wd×Int)}{s:St}(h:(Ap aa s).1≠0):Bg (Ap aa s).2+1≤Bg s:=by
 induction aa with
 |nil=>simp[Ap]at h
 |cons o aa ih=>
  unfold Ap at h⊢;split at h
  ·rename_i hs;rw[if_pos hs];exact Yi hs
  ·rename_i hs;rw[if_neg hs];exact ih h
end
section
open Go.RowKit
abbrev Aj8:List UInt8:=[40,41,44,59,46,61,60,43,45,42]
def D8 (c:UInt8):Bool:=([32,10]:List UInt8).contains c
def C4 (l:List UInt8):Nat:=match l with
 |[]=>0
 |c::r=>if Ce c then I8 Ce (c::r)else if Bo c then I8 Bo (c::r)else if Du c then(if aH r 39<0 then 0 else(aH r 39).toNat+2)else if 0≤aH Aj8 c then 1 else 0
theorem Abz (l):C4 l≤l.length:=by
 unfold C4;split
 ·simp
 ·rename_i c r;split
  ·exact Afn _ _
  ·split
   ·exact Afn _ _
   ·split
    ·split
     ·simp
     ·rename_i h0;obtain⟨n,hn⟩:∃n:Nat,aH r 39=n:=⟨(aH r 39).toNat,by omega⟩;have:=(aI.1 (eT hn).1).1;grind
    grind
def Vs:Nat→List UInt8→List Wd
 |0,_=>[]
 |f+1,l=>if l.dropWhile D8=[]then[]else if C4 (l.dropWhile D8)=0 then[noW]else str ((l.dropWhile D8).take (C4 (l.dropWhile D8)))::Vs f ((l.dropWhile D8).drop (C4 (l.dropWhile D8)))
def Ig (l:List UInt8):List Wd:=Vs l.length l
theorem Oo (f)(l:List UInt8):(l.dropWhile f).length≤l.length:=(List.dropWhile_suffix f).length_le
theorem Ab0:∀(f:Nat) (l:List UInt8),l.length≤f→Vs f l=Vs l.length l
 |0,l,h=>by grind
 |f+1,[],_=>by rfl
 |f+1,c::r,h=>by
  have hd:=Oo D8 (c::r);rw[fC,Vs,Vs];split
  ·rfl
  ·split
   ·rfl
   ·rename_i h1 h2;have hl:((List.dropWhile D8 (c::r)).drop (C4 (List.dropWhile D8 (c::r)))).length≤r.length:=by
     simp at hd⊢;omega
    rw[Ab0 f _ (by grind),Ab0 _ _ hl]
theorem Aqr (l):Ig l=if l.dropWhile D8=[]then[]else if C4 (l.dropWhile D8)=0 then[noW]else str ((l.dropWhile D8).take (C4 (l.dropWhile D8)))::Ig ((l.dropWhile D8).drop (C4 (l.dropWhile D8))):=by
 cases l with
 |nil=>rfl
 |cons c r=>
  have hd:=Oo D8 (c::r)
  conv=>lhs;rw[Ig,fC,Vs]
  split
  ·rfl
  ·split
   ·rfl
   ·rw[Ab0 _ _ (by grind)];rfl
structure IsTok (w:Wd):Prop where
 pos:0<w.size
 dig:fst Bo w=N→w.data.toList.all Bo=N
 ltr:fst Ce w=N→w.data.toList.all Ce=N
 quo:fst Du w=N→2≤w.size
 one:fst Bo w=aT→fst Ce w=aT→fst Du w=aT→w.size=1
theorem Vt {f}{c}{r}{n}(h:0<n):fst f (str ((c::r).take n))=f c:=by
 obtain⟨m,rfl⟩:∃m,n=m+1:=⟨n-1,by omega⟩;rfl
theorem Ad0 {l}(h:0<C4 l):IsTok (str (l.take (C4 l))):=by
 have hl:=Abz l;have ab:(str (l.take (C4 l))).size=C4 l:=by rw[Jy,bO];omega
 cases l with
 |nil=>grind
 |cons c r=>
  refine⟨by omega,fun hd=>?_,fun hd=>?_,fun hd=>?_,fun h1 h2 h3=>?_⟩
  ·rw[Vt h]at hd;have aa:Ce c=aT:=by cases hx:Ce c;rfl;rw[R4 c hx]at hd;cases hd
   rw[Bs,C4,aa,hd];simp only[eN,if_false,if_true];exact Xz _ _
  ·rw[Vt h]at hd;rw[Bs,C4,hd];simp only[if_true];exact Xz _ _
  ·rw[Vt h]at hd;have aa:Ce c=aT:=by cases hx:Ce c;rfl;rw[R5 c hx]at hd;cases hd
   rw[ab];rw[C4,aa,Aax c hd,hd]at h⊢;grind
  ·rw[Vt h]at h1 h2 h3;rw[ab];rw[C4,h1,h2,h3]at h⊢;grind
theorem Aqs:∀(n:Nat) (l:List UInt8),l.length≤n→∃ws,(Ig l=ws∨Ig l=ws++[noW])∧(∀w∈ws,IsTok w)∧ws.length≤l.length:=by
 intro n
 induction n with
 |zero=>intro l h;simp at h;subst h;exact⟨[],.inl rfl,by simp,by simp⟩
 |succ n ih=>
  intro l h;have hd:=Oo D8 l;rw[Aqr];split
  ·exact⟨[],.inl rfl,by simp,by simp⟩
  ·split
   ·exact⟨[],.inr rfl,by simp,by simp⟩
   ·rename_i h1 h2;have hw:=Abz (l.dropWhile D8);obtain⟨ws,h3,h4,h5⟩:=ih ((l.dropWhile D8).drop (C4 (l.dropWhile D8))) (by simp;omega);refine⟨str ((l.dropWhile D8).take (C4 (l.dropWhile D8)))::ws,?_,?_,?_⟩
    ·grind
    ·intro w hw;rcases cS.1 hw with rfl|hw
     ·exact Ad0 (by omega)
     grind
    grind
end
end Go.Proofs.YtocegbpmmiabmaaGreatDoor
namespace Go.Proofs
open Go.Shelf
def Tryz.lays161_ren:dJ:=⟨fun|161=>44|231=>68|227=>69|233=>70|235=>71|228=>139|197=>140|151=>141|260=>217|152=>218|137=>76|119=>283|224=>284|225=>285|217=>142|266=>219|n=>n,fun|9=>9|4=>4|3=>3|5=>5|117=>127|116=>126|0=>0|124=>130|105=>191|21=>21|119=>329|46=>265|139=>332|138=>331|n=>n,fun|3=>0|4=>1|n=>n⟩
theorem Tryz.lays161:Go.Proofs.Lays.n161 M Tryz.lays161_ren:={
 mixed:=by kernel_rfl
 f119:=sF Tryz.func283
 f137:=sF Tryz.func76
 f151:=sF Tryz.func141
 f152:=sF Tryz.func218
 f161:=sF Tryz.func44
 f197:=sF Tryz.func140
 f217:=sF Tryz.func142
 f224:=sF Tryz.func284
 f225:=sF Tryz.func285
 f227:=sF Tryz.func69
 f228:=sF Tryz.func139
 f231:=sF Tryz.func68
 f233:=sF Tryz.func70
 f235:=sF Tryz.func71
 f260:=sF Tryz.func217
 f266:=sF Tryz.func219
 t0:=eY
 a0:=Tryz.isAgg0
 z0:=Tryz.sizeOf0
 v0:=fH
 t3:=bN
 a3:=eA
 z3:=dR
 v3:=dH
 t4:=eX
 a4:=Tryz.isAgg4
 z4:=Tryz.sizeOf4
 v4:=fG
 t5:=dA
 a5:=dZ
 z5:=dQ
 v5:=dG
 t9:=cZ
 a9:=dY
 z9:=dP
 v9:=dF
 t21:=eQ
 a21:=Tryz.isAgg21
 z21:=Tryz.sizeOf21
 v21:=eW
 t46:=eK
 a46:=Tryz.isAgg265
 z46:=Tryz.sizeOf265
 v46:=eP
 t105:=Tryz.underlying191
 a105:=Tryz.isAgg191
 z105:=Tryz.sizeOf191
 v105:=Tryz.zeroValue191
 t116:=Tryz.underlying126
 a116:=Tryz.isAgg126
 z116:=Tryz.sizeOf126
 t117:=Tryz.underlying127
 a117:=Tryz.isAgg127
 z117:=Tryz.sizeOf127
 v117:=Tryz.zeroValue127
 t119:=Tryz.underlying329
 a119:=Tryz.isAgg329
 z119:=Tryz.sizeOf329
 t124:=Tryz.underlying130
 a124:=Tryz.isAgg130
 z124:=Tryz.sizeOf130
 v124:=Tryz.zeroValue130
 t138:=Tryz.underlying331
 a138:=Tryz.isAgg331
 z138:=Tryz.sizeOf331
 v138:=Tryz.zeroValue331
 t139:=Tryz.underlying332
 a139:=Tryz.isAgg332
 z139:=Tryz.sizeOf332
 v139:=Tryz.zeroValue332
 g3:=by kernel_rfl
 g4:=by kernel_rfl}
def Tryz.lays137_ren:dJ:=⟨fun|137=>76|217=>142|266=>219|n=>n,fun|9=>9|5=>5|3=>3|n=>n,fun|n=>n⟩
theorem Tryz.lays137:Go.Proofs.Lays.n137 M Tryz.lays137_ren:={
 mixed:=by kernel_rfl
 f137:=sF Tryz.func76
 f217:=sF Tryz.func142
 f266:=sF Tryz.func219
 t3:=bN
 a3:=eA
 z3:=dR
 v3:=dH
 t5:=dA
 a5:=dZ
 z5:=dQ
 v5:=dG
 t9:=cZ
 a9:=dY
 z9:=dP
 v9:=dF}
def Tryz.laysC172_ren:dJ:=⟨fun|172=>149|244=>226|245=>227|247=>288|279=>289|280=>290|281=>291|282=>292|287=>333|316=>334|171=>336|205=>335|321=>369|322=>370|243=>371|246=>377|283=>379|284=>380|285=>381|286=>382|129=>272|317=>383|318=>384|319=>385|320=>386|337=>387|338=>388|n=>n,fun|9=>9|3=>3|75=>200|76=>201|4=>4|5=>5|167=>335|37=>302|0=>0|85=>336|2=>2|168=>338|53=>321|175=>364|46=>265|210=>367|127=>391|145=>394|143=>392|21=>21|171=>400|173=>402|212=>405|51=>319|20=>20|213=>406|232=>407|233=>408|80=>135|n=>n,fun|15=>3|16=>4|17=>5|18=>6|19=>7|n=>n⟩
theorem Tryz.laysC172:Go.Proofs.LaysC.n172 M Tryz.laysC172_ren:={
 mixed:=by kernel_rfl
 f129:=sF Tryz.func272
 f171:=sF Tryz.func336
 f172:=sF Tryz.func149
 f205:=sF Tryz.func335
 f243:=sF Tryz.func371
 f244:=sF Tryz.func226
 f245:=sF Tryz.func227
 f246:=sF Tryz.func377
 f247:=sF Tryz.func288
 f279:=sF Tryz.func289
 f280:=sF Tryz.func290
 f281:=sF Tryz.func291
 f282:=sF Tryz.func292
 f283:=sF Tryz.func379
 f284:=sF Tryz.func380
 f285:=sF Tryz.func381
 f286:=sF Tryz.func382
 f287:=sF Tryz.func333
 f316:=sF Tryz.func334
 f317:=sF Tryz.func383
 f318:=sF Tryz.func384
 f319:=sF Tryz.func385
 f320:=sF Tryz.func386
 f321:=sF Tryz.func369
 f322:=sF Tryz.func370
 f337:=sF Tryz.func387
 f338:=sF Tryz.func388
 t0:=eY
 a0:=Tryz.isAgg0
 z0:=Tryz.sizeOf0
 v0:=fH
 t2:=Tryz.underlying2
 a2:=Tryz.isAgg2
 z2:=Tryz.sizeOf2
 v2:=Tryz.zeroValue2
 t3:=bN
 a3:=eA
 z3:=dR
 v3:=dH
 t4:=eX
 a4:=Tryz.isAgg4
 z4:=Tryz.sizeOf4
 v4:=fG
 t5:=dA
 a5:=dZ
 z5:=dQ
 v5:=dG
 t9:=cZ
 a9:=dY
 z9:=dP
 v9:=dF
 t20:=Tryz.underlying20
 a20:=Tryz.isAgg20
 z20:=Tryz.sizeOf20
 v20:=Tryz.zeroValue20
 t21:=eQ
 a21:=Tryz.isAgg21
 z21:=Tryz.sizeOf21
 v21:=eW
 t37:=Tryz.underlying302
 a37:=Tryz.isAgg302
 z37:=Tryz.sizeOf302
 v37:=Tryz.zeroValue302
 t46:=eK
 a46:=Tryz.isAgg265
 z46:=Tryz.sizeOf265
 v46:=eP
 t51:=Tryz.underlying319
 a51:=Tryz.isAgg319
 z51:=Tryz.sizeOf319
 v51:=Tryz.zeroValue319
 t53:=Tryz.underlying321
 a53:=Tryz.isAgg321
 z53:=Tryz.sizeOf321
 v53:=Tryz.zeroValue321
 t75:=Tryz.underlying200
 a75:=Tryz.isAgg200
 z75:=Tryz.sizeOf200
 v75:=Tryz.zeroValue200
 t76:=Tryz.underlying201
 a76:=Tryz.isAgg201
 z76:=Tryz.sizeOf201
 v76:=Tryz.zeroValue201
 t85:=Tryz.underlying336
 a85:=Tryz.isAgg336
 z85:=Tryz.sizeOf336
 v85:=Tryz.zeroValue336
 t127:=Tryz.underlying391
 a127:=Tryz.isAgg391
 z127:=Tryz.sizeOf391
 v127:=Tryz.zeroValue391
 t143:=Tryz.underlying392
 a143:=Tryz.isAgg392
 z143:=Tryz.sizeOf392
 v143:=Tryz.zeroValue392
 t145:=Tryz.underlying394
 a145:=Tryz.isAgg394
 z145:=Tryz.sizeOf394
 v145:=Tryz.zeroValue394
 t167:=Tryz.underlying335
 a167:=Tryz.isAgg335
 z167:=Tryz.sizeOf335
 v167:=Tryz.zeroValue335
 t168:=Tryz.underlying338
 a168:=Tryz.isAgg338
 z168:=Tryz.sizeOf338
 v168:=Tryz.zeroValue338
 t171:=Tryz.underlying400
 a171:=Tryz.isAgg400
 z171:=Tryz.sizeOf400
 v171:=Tryz.zeroValue400
 t173:=Tryz.underlying402
 a173:=Tryz.isAgg402
 z173:=Tryz.sizeOf402
 v173:=Tryz.zeroValue402
 t175:=Tryz.underlying364
 a175:=Tryz.isAgg364
 z175:=Tryz.sizeOf364
 v175:=Tryz.zeroValue364
 t210:=Tryz.underlying367
 a210:=Tryz.isAgg367
 z210:=Tryz.sizeOf367
 v210:=Tryz.zeroValue367
 t212:=Tryz.underlying405
 a212:=Tryz.isAgg405
 z212:=Tryz.sizeOf405
 v212:=Tryz.zeroValue405
 t213:=Tryz.underlying406
 a213:=Tryz.isAgg406
 z213:=Tryz.sizeOf406
 t232:=Tryz.underlying407
 a232:=Tryz.isAgg407
 z232:=Tryz.sizeOf407
 v232:=Tryz.zeroValue407
 t233:=Tryz.underlying408
 a233:=Tryz.isAgg408
 z233:=Tryz.sizeOf408
 v233:=Tryz.zeroValue408
 g15:=by kernel_rfl
 g16:=by kernel_rfl
 g17:=by kernel_rfl
 g18:=by kernel_rfl
 g19:=by kernel_rfl
 t80:=Tryz.underlying135
 a80:=Tryz.isAgg135
 z80:=Tryz.sizeOf135
 v80:=Tryz.zeroValue135
 i0:=by kernel_rfl
 i2:=by kernel_rfl
 i3:=by kernel_rfl
 i4:=by kernel_rfl
 i5:=by kernel_rfl
 i9:=by kernel_rfl
 i20:=by kernel_rfl
 i21:=by kernel_rfl
 i37:=by kernel_rfl
 i46:=by kernel_rfl
 i51:=by kernel_rfl
 i53:=by kernel_rfl
 i75:=by kernel_rfl
 i76:=by kernel_rfl
 i80:=by kernel_rfl
 i85:=by kernel_rfl
 i127:=by kernel_rfl
 i143:=by kernel_rfl
 i145:=by kernel_rfl
 i167:=by kernel_rfl
 i168:=by kernel_rfl
 i171:=by kernel_rfl
 i173:=by kernel_rfl
 i175:=by kernel_rfl
 i210:=by kernel_rfl
 i212:=by kernel_rfl
 i232:=by kernel_rfl
 i233:=by kernel_rfl
 m15:=by kernel_rfl
 m16:=by kernel_rfl
 m17:=by kernel_rfl
 m18:=by kernel_rfl
 m19:=by kernel_rfl
 c0:=by kernel_rfl
 c2:=by kernel_rfl
 c3:=by kernel_rfl
 c4:=by kernel_rfl
 c5:=by kernel_rfl
 c9:=by kernel_rfl
 c20:=by kernel_rfl
 c21:=by kernel_rfl
 c37:=by kernel_rfl
 c46:=by kernel_rfl
 c51:=by kernel_rfl
 c53:=by kernel_rfl
 c75:=by kernel_rfl
 c76:=by kernel_rfl
 c80:=by kernel_rfl
 c85:=by kernel_rfl
 c127:=by kernel_rfl
 c143:=by kernel_rfl
 c145:=by kernel_rfl
 c167:=by kernel_rfl
 c168:=by kernel_rfl
 c171:=by kernel_rfl
 c173:=by kernel_rfl
 c175:=by kernel_rfl
 c210:=by kernel_rfl
 c212:=by kernel_rfl
 c213:=by kernel_rfl
 c232:=by kernel_rfl
 c233:=by kernel_rfl}
end Go.Proofs
namespace Go.Proofs.YtocegbpmmiabmaaGreatDoor
section
open Go.RowKit
theorem Te (c)(w):Z M 74 #[O .u8 c] w fun e w'=>e=z (bC (Um c))∧w'=w:=by
 by_cases h1:48≤c<;>by_cases h2:c≤57
 all_goals
  go_enter Tryz.func74,Tryz.ntmps74;go_wp2
  all_goals
   go_ret;exact⟨Ah (by simp_all [Um]),rfl⟩
theorem Aon (c)(w):Z M 366 #[O .u8 c] w fun e w'=>e=z (bC (c==39))∧w'=w:=by
 go_enter Tryz.func366,Tryz.ntmps366;go_wp2;go_ret;simp
theorem Aoo (s)(w)(hs:s.size≤aN):Z M 73 #[.func (.func 74) #[] #[],.string s] w fun e w'=>e=.returned (.int .i64 (I8 Bo s.data.toList:Nat))∧w'=w:=by
 unfold aN at hs;go_enter Tryz.func73,Tryz.ntmps73;go_wp2
 go_loop [5] (fun i=>∃k,k≤s.size∧i=.int .i64 k∧Hid ((s.data.toList.take k).all Bo=N)) (fun i=>s.size-(cJ i).toNat)
 case atStart=>exact⟨0,bF _,rfl,rfl⟩
 case round=>
  obtain⟨k,hk,rfl,HG⟩:=hrel
  by_cases aa:k<s.size
  ·cases hc:Bo s[k]
   ·have ab:Um (s[k].toNat:Int)=aT:=by rw[S7];exact hc
    have HE:Hid _:=O0 HG.out (fun c h=>by rw[Aks aa]at h;grind) (by simp_all);clear hc;go_wp2_with(refine(Te _ _).mono ?_;rintro e w' ⟨rfl,rfl⟩);go_ret;exact⟨Av (by rw[HE.out]),rfl⟩
   ·have ab:Um (s[k].toNat:Int)=N:=by rw[S7];exact hc
    have HN:Hid _:=Xd aa HG.out hc;clear hc;go_wp2_with(refine(Te _ _).mono ?_;rintro e w' ⟨rfl,rfl⟩);go_round
    case rel=>grind
    case measure=>simp[cJ];omega
  ·have HE:Hid _:=O0 HG.out (fun c h=>by simp_all) (by simp_all);go_wp2;go_ret;exact⟨Av (by rw[HE.out]),rfl⟩
theorem Avd (s:ByteArray):(s.extract 1 s.size).data.toList=s.data.toList.drop 1:=by
 rw[Lib.extract_data];simp[bL]
theorem Af1 (s:ByteArray)(w:bT)(hs:s.size≤aN)(h0:1≤s.size):Z M 75 #[.string s] w fun e w'=>e=.returned (.int .i64 (if aH (s.data.toList.drop 1) 39<0 then 0 else aH (s.data.toList.drop 1) 39+2))∧w'=w:=by
 unfold aN at hs;have ix:=eG Tryz.lays137 (s.extract 1 s.size) 39 w;rw[Avd,show(39:Int).toNat.toUInt8=39 from rfl]at ix;have aa:=dE (s.data.toList.drop 1) 39;have ab:aH (s.data.toList.drop 1) 39+1<s.size:=by
  rcases Int.lt_or_le (aH (s.data.toList.drop 1) 39) 0 with h|h
  ·omega
  ·obtain⟨n,hn⟩:∃n:Nat,aH (s.data.toList.drop 1) 39=n:=⟨(aH (s.data.toList.drop 1) 39).toNat,by omega⟩;have:=(aI.1 (eT hn).1).1;simp at this;omega
 generalize aH _ 39=n at ix aa ab⊢
 by_cases hn:n<0
 ·rw[if_pos hn];go_enter Tryz.func75,Tryz.ntmps75;go_wp2_with(go_fit ix;rintro e w' ⟨rfl,rfl⟩);go_ret;simp
 ·rw[if_neg hn];go_enter Tryz.func75,Tryz.ntmps75;go_wp2_with(go_fit ix;rintro e w' ⟨rfl,rfl⟩);go_ret;exact⟨Av (by omega),rfl⟩
theorem J4 (s:ByteArray)(h0:1≤s.size):s.data.toList=s[0]::s.data.toList.drop 1:=by
 have h:0<s.data.toList.length:=by rw[Dp];omega
 conv=>lhs;rw[←List.drop_zero (l:=s.data.toList)]
 rw[List.drop_eq_getElem_cons h];rfl
theorem Alk (s)(w)(hs:s.size≤aN):Z M 45 #[.string s] w fun e w'=>e=.returned (.int .i64 (C4 s.data.toList:Nat))∧w'=w:=by
 have ac:=hs;unfold aN at ac
 by_cases h0:s.size=0
 ·have hl:s.data.toList=[]:=List.length_eq_zero_iff.1 (by rw[Dp];exact h0);have he:(s.toList.isEmpty)=N:=by rw[Lib.toList_data,hl];rfl
  have hw:C4 s.data.toList=0:=by rw[hl];rfl
  rw[hw];clear hw;go_enter bZ,bS;go_wp2_with fail;go_ret;exact⟨rfl,rfl⟩
 ·have h1:1≤s.size:=by omega
  have hf:=J4 s h1;have he:(s.toList.isEmpty)=aT:=by rw[Lib.toList_data,hf];rfl
  have hw:C4 s.data.toList=if Ce s[0]then I8 Ce s.data.toList else if Bo s[0]then I8 Bo s.data.toList else if Du s[0]then(if aH (s.data.toList.drop 1) 39<0 then 0 else(aH (s.data.toList.drop 1) 39).toNat+2)else if 0≤aH Aj8 s[0]then 1 else 0:=by
   conv=>lhs;rw[hf]
   conv=>rhs;rw[hf]
   rfl
  have L:=fun W=>Vi (s[0].toNat:Int) W
  have D:=fun W=>Te (s[0].toNat:Int) W
  simp only[Vh,S7]at L D;have RL:=fun W=>Rz s W hs
  have RD:=fun W=>Aoo s W hs
  have Q:=fun W=>Af1 s W hs h1
  have IX:=fun W=>eG Tryz.lays137 ⟨#[40,41,44,59,46,61,60,43,45,42]⟩ (s[0].toNat:Int) W
  have ec:((s[0].toNat:Int)).toNat.toUInt8=s[0]:=by simp
  simp only[ec]at IX;have hq:((s[0].toNat:Int)==39)=Du s[0]:=by
   unfold Du;rw[Bool.eq_iff_iff,beq_iff_eq,beq_iff_eq,←UInt8.toNat_inj];simp;omega
  generalize C4 _=W at hw⊢;have HW:Hid _:=hw;clear hw hf;generalize I8 Ce _=rl at RL HW;generalize I8 Bo _=rd at RD HW;have ad:=dE (s.data.toList.drop 1) 39;generalize aH _ 39=n at Q HW ad;have aa:-1≤aH Aj8 s[0]:=dE _ _;have ab:aH Aj8 _=aH (⟨#[40,41,44,59,46,61,60,43,45,42]⟩:ByteArray).data.toList s[0]:=rfl;rw[ab]at HW aa;generalize aH _ _=m at IX HW aa;clear ab;generalize Ce _=bl at L HW;generalize Bo _=bd at D HW;generalize Du _=bq at hq HW;cases bl
  ·cases bd
   ·cases bq
    ·by_cases hm:0≤m
     ·go_enter bZ,bS;go_wp2_with(first
       |(go_fit(L _);rintro e w' ⟨rfl,rfl⟩)
       |(go_fit(D _);rintro e w' ⟨rfl,rfl⟩)
       |(go_fit(IX _);rintro e w' ⟨rfl,rfl⟩))
      go_ret;exact⟨Av (by rw[HW.out];grind),rfl⟩
     ·go_enter bZ,bS;go_wp2_with(first
       |(go_fit(L _);rintro e w' ⟨rfl,rfl⟩)
       |(go_fit(D _);rintro e w' ⟨rfl,rfl⟩)
       |(go_fit(IX _);rintro e w' ⟨rfl,rfl⟩))
      go_ret;exact⟨Av (by rw[HW.out];grind),rfl⟩
    ·go_enter bZ,bS;go_wp2_with(first
      |(go_fit(L _);rintro e w' ⟨rfl,rfl⟩)
      |(go_fit(D _);rintro e w' ⟨rfl,rfl⟩)
      |(go_fit(Q _);rintro e w' ⟨rfl,rfl⟩))
     all_goals
      go_ret;exact⟨Av (by rw[HW.out];simp only[eN,if_false,if_true];split<;>omega),rfl⟩
   ·go_enter bZ,bS;go_wp2_with(first
     |(go_fit(L _);rintro e w' ⟨rfl,rfl⟩)
     |(go_fit(D _);rintro e w' ⟨rfl,rfl⟩)
     |(go_fit(RD _);rintro e w' ⟨rfl,rfl⟩))
    go_ret;exact⟨Av (by rw[HW.out];simp),rfl⟩
  ·go_enter bZ,bS;go_wp2_with(first
    |(go_fit(L _);rintro e w' ⟨rfl,rfl⟩)
    |(go_fit(RL _);rintro e w' ⟨rfl,rfl⟩))
   go_ret;exact⟨Av (by rw[HW.out];simp),rfl⟩
structure But (a:Nat) (w w':bT):Prop where
 os:w'.os=w.os
 tape:w'.tape=w.tape
 output:w'.output=w.output
 size:w.heap.size≤w'.heap.size
 block:∀k,k<w.heap.size→k≠a→w'.heap[k]?=w.heap[k]?
theorem But.refl (a)(w):But a w w:=⟨rfl,rfl,rfl,aJ _,fun _ _ _=>rfl⟩
theorem But.trans {a}{u v w}(h:But a u v)(k:But a v w):But a u w:=
 ⟨k.os.trans h.os,k.tape.trans h.tape,k.output.trans h.output,aG h.size k.size,fun i hi hn=>(k.block i (aC hi h.size) hn).trans (h.block i hi hn)⟩
theorem But.of_below {a}{w w'}(h:Below w.heap.size w w'):But a w w':=⟨h.os,h.tape,h.output,h.size,fun k hk _=>h.block k hk⟩
theorem But.set {a}{w w'}(h:But a w w')(o)(u):But a w (w'.setCell ⟨a,o,J⟩ u):=
 h.trans ⟨rfl,rfl,rfl,by simp,fun k _ hn=>Below.heap_setCell _ _ _ _ hn⟩
theorem But.drew {a}{w w'}(h:But a w w'):But a w w'.drew:=⟨h.os,h.tape,h.output,h.size,h.block⟩
theorem But.alloc {a}{w w'}(h:But a w w')(o):But a w (w'.alloc o):=h.trans (.of_below ((aB _ _).alloc (aJ _) o))
theorem But.below {a B}{w w'}(h:But a w w')(hB:B≤a)(ha:B≤w.heap.size):Below B w w':=⟨h.os,h.tape,h.output,h.size,fun k hk=>h.block k (by omega) (by omega)⟩
def RdC (w:bT)(a:Nat)(word rest:Wd)(d:Int)(wrong:Bool):Prop:=
 w.heap[a]?=A (S #[H word,H rest,O U d,bC wrong] 95)
theorem RdC.lt {w}{a}{word rest}{d}{wrong}(h:RdC w a word rest d wrong):a<w.heap.size:=aK h
theorem RdC.cells {w}{a}{word rest}{d}{wrong}(h:RdC w a word rest d wrong):
  w.cell? ⟨a,0,J⟩=A (H word)∧w.cell? ⟨a,1,J⟩=A (H rest)∧w.cell? ⟨a,2,J⟩=A (O U d)∧w.cell? ⟨a,3,J⟩=A (bC wrong):=
 ⟨Aa h rfl,Aa h rfl,Aa h rfl,Aa h rfl⟩
theorem RdC.frozen {w}{a}{word rest}{d}{wrong}(h:RdC w a word rest d wrong)(o):w.frozen? ⟨a,o,J⟩=aT:=by
 simp[bI,show w.heap[a]?=_ from h]
theorem RdC.below {w w'}{a}{word rest}{d}{wrong}(h:RdC w a word rest d wrong)(hb:Below w.heap.size w w'):RdC w' a word rest d wrong:=(hb.block a h.lt).trans h
theorem RdC.set0 {w}{a}{word rest}{d}{wrong}(h:RdC w a word rest d wrong)(x:Wd):RdC (w.setCell ⟨a,0,J⟩ (H x)) a x rest d wrong:=by
 unfold RdC at h⊢;simp only[cO,bM,if_true,h];rfl
theorem RdC.set1 {w}{a}{word rest}{d}{wrong}(h:RdC w a word rest d wrong)(x:Wd):RdC (w.setCell ⟨a,1,J⟩ (H x)) a word x d wrong:=by
 unfold RdC at h⊢;simp only[cO,bM,if_true,h];rfl
theorem RdC.set2 {w}{a}{word rest}{d}{wrong}(h:RdC w a word rest d wrong)(x):RdC (w.setCell ⟨a,2,J⟩ (O U x)) a word rest x wrong:=by
 unfold RdC at h⊢;simp only[cO,bM,if_true,h];rfl
theorem RdC.set3 {w}{a}{word rest}{d}{wrong}(h:RdC w a word rest d wrong)(x):RdC (w.setCell ⟨a,3,J⟩ (bC x)) a word rest d x:=by
 unfold RdC at h⊢;simp only[cO,bM,if_true,h];rfl
theorem RdC.drew {w}{a}{word rest}{d}{wrong}(h:RdC w a word rest d wrong):RdC w.drew a word rest d wrong:=h
inductive Reads:Wd→Wd→Bool→St→Prop
 |wrong:Reads noW noW N J
 |over:Reads noW noW aT (A [])
 |word {x r:Wd}:IsTok x→x.size≤1500→r.size≤1500→Reads x r aT (A (x::Ig r.data.toList))
def Rd (w:bT)(a:Nat)(s:St)(d:Int):Prop:=∃x r b,RdC w a x r d b∧Reads x r b s
theorem Rd.below {w w'}{a}{s}{d}(h:Rd w a s d)(hb:Below w.heap.size w w'):Rd w' a s d:=by
 obtain⟨x,r,b,h1,h2⟩:=h;exact⟨x,r,b,h1.below hb,h2⟩
theorem Rd.lt {w}{a}{s}{d}(h:Rd w a s d):a<w.heap.size:=by
 obtain⟨x,r,b,h1,h2⟩:=h;exact h1.lt
theorem Sa (a)(w)(x r)(d)(b)(h:RdC w a x r d b):
  Z M 46 #[dO (A ⟨a,0,J⟩)] w fun e w'=>e=z (fQ #[])∧RdC w' a noW noW d N∧But a w w':=by
 obtain⟨c0,c1,c2,c3⟩:=h.cells;have f0:=h.frozen 0;have f1:=h.frozen 1;have f3:=h.frozen 3;go_enter Tryz.func46,Tryz.ntmps46;go_wp2
 go_end0
 exact⟨rfl,((h.set0 _).set1 _).set3 _,(((But.refl a w).set _ _).set _ _).set _ _⟩
theorem Alm (s)(w):Z M 44 #[.string s,.string ⟨#[32,10]⟩] w fun e w'=>e=.returned (.string (str (s.data.toList.dropWhile D8)))∧Below w.heap.size w w':=
 Any.strings_TrimLeft_laid Tryz.lays161 (by kernel_rfl) s ⟨#[32,10]⟩ w (by decide) (ascii_of_all (by rfl))
def Ni:Elem (List aW) where
 size:=2
 R _ _ c cs:=cs=c∧Lo c
 len h:=by obtain⟨rfl,s0,a1,n1,c1,rfl⟩:=h;rfl
 keep _ h:=h
 mono _ h:=h
theorem Ahi {c}(h:Lo c):c.length=2:=by obtain⟨s0,a1,n1,c1,rfl⟩:=h;rfl
theorem Ahj {c}(h:Lo c):∀u∈c,u.oneCell'=N:=by
 obtain⟨s0,a1,n1,c1,rfl⟩:=h;simp[bK]
theorem Ab1:(Tryz.prog.info? 82).map (fun i=>(i.zero,i.size,i.bytes))=A (A (aY #[H ⟨#[]⟩,K J 0 0]),2,40):=by kernel_rfl
theorem Sb:(Tryz.prog.info? 82).map (·.size)=A 2:=by kernel_rfl
theorem Ad1 {w}{B}{v}{CS}(h:w.ownsRow B 82 2 v CS.length CS.flatten)(hs:∀c∈CS,Lo c):IsL Ni (fun _=>True) w v CS:=
 ⟨CS.flatten,Bq.of_own h fun _ _=>trivial,Lq rfl fun i x c h1 h2=>by rw[h1]at h2;cases h2;exact⟨rfl,hs _ (aE h1)⟩⟩
def Nj:Elem (List aW) where
 size:=3
 R _ _ c cs:=cs=c∧Mf c
 len h:=by obtain⟨rfl,s0,s1,s2,rfl⟩:=h;rfl
 keep _ h:=h
 mono _ h:=h
theorem Ahk {c}(h:Mf c):c.length=3:=by obtain⟨s0,s1,s2,rfl⟩:=h;rfl
theorem Ahl {c}(h:Mf c):∀u∈c,u.oneCell'=N:=by
 obtain⟨s0,s1,s2,rfl⟩:=h;simp[bK]
theorem Ab2:(Tryz.prog.info? 86).map (fun i=>(i.zero,i.size,i.bytes))=A (A (aY #[H ⟨#[]⟩,H ⟨#[]⟩,H ⟨#[]⟩]),3,48):=by kernel_rfl
theorem Sc:(Tryz.prog.info? 86).map (·.size)=A 3:=by kernel_rfl
theorem Ad2 {w}{B}{v}{CS}(h:w.ownsRow B 86 3 v CS.length CS.flatten)(hs:∀c∈CS,Mf c):IsL Nj (fun _=>True) w v CS:=
 ⟨CS.flatten,Bq.of_own h fun _ _=>trivial,Lq rfl fun i x c h1 h2=>by rw[h1]at h2;cases h2;exact⟨rfl,hs _ (aE h1)⟩⟩
theorem Aop (n):∀u∈(aD ((aY #[H ⟨#[]⟩,K J 0 0]):aW).cells n).toList,u.oneCell'=N:=by
 intro u hu;simp only[aD,eU,dU]at hu;obtain⟨i,_,rfl⟩:=hu;have aa:i%2<2:=Nat.mod_lt _ (by simp);have ab:∀j,j<2→(((aY #[H ⟨#[]⟩,K J 0 0]):aW).cells[j]!).oneCell'=N:=by
  intro j hj;rcases(by omega:j=0∨j=1)with rfl|rfl
  all_goals rfl
 exact ab _ aa
theorem Aoq (n):∀u∈(aD ((aY #[H ⟨#[]⟩,H ⟨#[]⟩,H ⟨#[]⟩]):aW).cells n).toList,u.oneCell'=N:=by
 intro u hu;simp only[aD,eU,dU]at hu;obtain⟨i,_,rfl⟩:=hu;have aa:i%3<3:=Nat.mod_lt _ (by simp);have ab:∀j,j<3→(((aY #[H ⟨#[]⟩,H ⟨#[]⟩,H ⟨#[]⟩]):aW).cells[j]!).oneCell'=N:=by
  intro j hj;rcases(by omega:j=0∨j=1∨j=2)with rfl|rfl|rfl
  all_goals rfl
 exact ab _ aa
theorem Sd (cs)(n)(sv)(F)(w)(h:Bq F 2 w sv n cs)(h1:∀u∈cs,u.oneCell'=N)(hn:n*40≤140737488355328):
  Z M 27 #[sv] w fun e w'=>∃v,e=z v∧w'.ownsRow w.heap.size 82 2 v n cs∧Below w.heap.size w w':=by
 obtain⟨i0,aa,ac,ae,af⟩:=cN Ab1;have ap:∀(w) (a) (n c n' c'),(binOp _ 59 (K a n c) _).run _ w=.ok _ w:=fun w a n c n' c'=>eE w _ _ a n c n' c' aM
 have ag:=h.1;have fin:∀ao c,sv=K ao n c→(ao=J→n=0)→(∀ad,ao=A ad→∀j u,cs[j]?=A u→w.cell? (ad.add j)=A u∧ad.block<w.heap.size)→(ao=J→c=0)→
   Z M 27 #[sv] w fun e w'=>∃v,e=z v∧w'.ownsRow w.heap.size 82 2 v n cs∧Below w.heap.size w w':=by
  intro ao c he h0 hc ah;subst he;cases ao with
  |none=>
   obtain rfl:=h0 rfl;obtain rfl:=ah rfl;have:=aP (by omega);subst this;go_enter Tryz.func27,Tryz.ntmps27;go_wp2;go_ret;exact⟨_,rfl,eJ _ _ _ _,aB _ _⟩
  |some ad=>
   have ai:(w.alloc _).ownsRow _ 82 2 _ 0 []:=eH w #[] 0 (aJ _) (bF _) (by simp);have HC:Hid (∀j u,cs[j]?=A u→(w.alloc (S #[] 82)).cell? (ad.add j)=A u):=fun j u hj=>by
    obtain⟨aj,aq⟩:=hc ad rfl j u hj;obtain⟨ab,ao,ak⟩:=ad;exact((Aq w _).cell (by unfold Addr.add;grind)).trans aj
   have HB:Hid _:=hn;clear hn hc;obtain⟨ab,ao,ak⟩:=ad;go_enter Tryz.func27,Tryz.ntmps27;go_wp2_with(at_builtin;refine aX _ rfl _ _ 59 rfl _ 82 i0 _ 2 40 aM aa ac ae af rfl (by simp) _ _ _ rfl ai _ n c cs rfl ag HC.out h1 (by have:=HB.out;simp only[aN];omega) (by have:=HB.out;omega) (by simp) ?_);intro v' w1 al am _ _;go_wp2;go_ret;exact⟨v',rfl,al,((aB _ w).alloc (aJ _) _).grown am (by simp) (by intro k hk;simp[fF]at hk;omega)⟩
 rcases h.2 with⟨h0,ao,c,he,hnil⟩|⟨h0,b,off,cap,he,_,hb,_,_,hc⟩
 ·subst h0;have an:=aP (by omega);subst an;exact fin ao c he (fun _=>rfl) (fun ad _ j u hj=>by grind) hnil
 ·exact fin _ cap he (fun h=>by grind) (fun ad h j u hj=>by cases h;rw[aQ];grind) (fun h=>by grind)
theorem Se (cs)(n)(sv)(F)(w)(h:Bq F 3 w sv n cs)(h1:∀u∈cs,u.oneCell'=N)(hn:n*48≤140737488355328):
  Z M 29 #[sv] w fun e w'=>∃v,e=z v∧w'.ownsRow w.heap.size 86 3 v n cs∧Below w.heap.size w w':=by
 obtain⟨i0,aa,ac,ae,af⟩:=cN Ab2;have ap:∀(w) (a) (n c n' c'),(binOp _ 60 (K a n c) _).run _ w=.ok _ w:=fun w a n c n' c'=>eE w _ _ a n c n' c' aL
 have ag:=h.1;have fin:∀ao c,sv=K ao n c→(ao=J→n=0)→(∀ad,ao=A ad→∀j u,cs[j]?=A u→w.cell? (ad.add j)=A u∧ad.block<w.heap.size)→(ao=J→c=0)→
   Z M 29 #[sv] w fun e w'=>∃v,e=z v∧w'.ownsRow w.heap.size 86 3 v n cs∧Below w.heap.size w w':=by
  intro ao c he h0 hc ah;subst he;cases ao with
  |none=>
   obtain rfl:=h0 rfl;obtain rfl:=ah rfl;have:=aP (by omega);subst this;go_enter Tryz.func29,Tryz.ntmps29;go_wp2;go_ret;exact⟨_,rfl,eJ _ _ _ _,aB _ _⟩
  |some ad=>
   have ai:(w.alloc _).ownsRow _ 86 3 _ 0 []:=eH w #[] 0 (aJ _) (bF _) (by simp);have HC:Hid (∀j u,cs[j]?=A u→(w.alloc (S #[] 86)).cell? (ad.add j)=A u):=fun j u hj=>by
    obtain⟨aj,aq⟩:=hc ad rfl j u hj;obtain⟨ab,ao,ak⟩:=ad;exact((Aq w _).cell (by unfold Addr.add;grind)).trans aj
   have HB:Hid _:=hn;clear hn hc;obtain⟨ab,ao,ak⟩:=ad;go_enter Tryz.func29,Tryz.ntmps29;go_wp2_with(at_builtin;refine aX _ rfl _ _ 60 rfl _ 86 i0 _ 3 48 aL aa ac ae af rfl (by simp) _ _ _ rfl ai _ n c cs rfl ag HC.out h1 (by have:=HB.out;simp only[aN];omega) (by have:=HB.out;omega) (by simp) ?_);intro v' w1 al am _ _;go_wp2;go_ret;exact⟨v',rfl,al,((aB _ w).alloc (aJ _) _).grown am (by simp) (by intro k hk;simp[fF]at hk;omega)⟩
 rcases h.2 with⟨h0,ao,c,he,hnil⟩|⟨h0,b,off,cap,he,_,hb,_,_,hc⟩
 ·subst h0;have an:=aP (by omega);subst an;exact fin ao c he (fun _=>rfl) (fun ad _ j u hj=>by grind) hnil
 ·exact fin _ cap he (fun h=>by grind) (fun ad h j u hj=>by cases h;rw[aQ];grind) (fun h=>by grind)
theorem Ajd (l)(ao)(n c:Nat)(f0:aW)(p:Nat→Bool)(St:Nat→bT→Prop)(En:bT→Prop)(w:bT)(ag:∀i W,St i W→En W)(ae:∀i W,St i W→IsL Ni (fun _=>True) W (K ao n c) l)
  (ah:∀i cs W,l[i]?=A cs→St i W→Z M 109 #[aY cs.toArray,f0] W fun e W'=>e=z (bC (p i))∧En W'∧(p i=aT→St (i+1) W')) (h0:St 0 w):
  Z M 180 #[K ao n c,.func (.func 109) #[] #[f0]] w fun e W'=>e=z (O U (Bk p 0 l.length))∧En W':=by
 obtain⟨hn,ai⟩:=D5 (ae 0 w h0);subst hn;unfold aN at ai;go_enter Tryz.func180,Tryz.ntmps180;go_wp2
 go_loopw[8] (fun i wr=>∃k:Nat,k≤l.length∧i=O U k∧St k wr∧Hid (Bk p 0 l.length=Bk p k (l.length-k))) (fun i _=>l.length-(cJ i).toNat)
 case atStart=>exact⟨0,bF _,rfl,h0,rfl⟩
 case round=>
  obtain⟨k,hk,rfl,aa,HP⟩:=hrel
  by_cases af:k<l.length
  ·obtain⟨x,hx⟩:∃x,l[k]?=A x:=⟨_,aA af⟩;obtain⟨b,ak,cs,rfl,_,hb,hR,ab⟩:=At (ae k wr aa) hx;have HC:=ah k x wr hx aa;obtain⟨rfl,aj⟩:=hR;obtain⟨s0,a1,n1,c1,rfl⟩:=aj;have d0:=ab 0 _ rfl;have d1:=ab 1 _ rfl;simp only[Ni,aV]at d0 d1;have k0:(0:Int)≤k:=by omega
   have k1:k<(l.length:Int):=by omega
   have ac:Hid _:=L7 p k _ af;clear ab hx;generalize hq:p k=q at HC ac;clear hq;cases q
   ·go_wp2_with(go_fit HC;rintro e W' ⟨rfl,_,ad⟩);go_roundw
    case rel=>exact⟨_,by omega,by rfl,ad (by simp),by rw[HP.out,ac.out];rfl⟩
    case measure=>simp[cJ];omega
   ·go_wp2_with(go_fit HC;rintro e W' ⟨rfl,ad,_⟩);go_ret;exact⟨Av (by rw[HP.out,ac.out];rfl),ad⟩
  ·have HE:Hid (Bk p k (l.length-k)= -1):=by show _=_;rw[show l.length-k=0 from by omega,Bk]
   go_wp2;go_ret;exact⟨Av (by rw[HP.out,HE.out]),ag k _ aa⟩
theorem Af2 (CS)(v)(f0)(p)(B)(w)(ad:w.ownsRow B 82 2 v CS.length CS.flatten)(hs:∀c∈CS,Lo c)(hB:B≤w.heap.size)
  (ak:∀i cs W,CS[i]?=A cs→w.grownBy W v.ownBlock→Z M 109 #[aY cs.toArray,f0] W fun e W'=>e=z (bC (p i))∧Below W.heap.size W W'):
  Z M 178 #[v,.func (.func 109) #[] #[f0]] w fun e w'=>∃v',e=z v'∧w'.ownsRow B 82 2 v' (Bw p 0 CS).length (Bw p 0 CS).flatten∧w.grownBy w' v.ownBlock∧Below B w w':=by
 have ae:∀c∈CS,c.length=2:=fun c hc=>Ahi (hs c hc)
 obtain⟨ao,cap,rfl⟩:=(Ad1 ad hs).shape;have HI:=Ajd CS ao CS.length cap f0 p (fun _ W=>Below w.heap.size w W) (fun W=>Below w.heap.size w W) w (fun _ _ h=>h) (fun _ W h=>Ad1 (Ak ad h) hs)
  (fun i cs W hi hW=>(ak i cs W hi (Cm _ hW)).mono fun e W' ⟨he,hb⟩=>⟨he,Ac hW hb,fun _=>Ac hW hb⟩) (aB _ _)
 rcases Oi p CS.length 0 with hf|⟨i0,hf,_,hi0,hp0,hpre⟩
 ·have au:Hid (Bw p 0 CS=CS):=Iq p CS 0 (Oh p _ _ hf);rw[hf]at HI;go_enter Tryz.func178,Tryz.ntmps178;go_wp2_with(go_fit HI;rintro e w1 ⟨rfl,aa⟩);go_ret;rw[au.out];exact⟨_,rfl,Ak ad aa,Cm _ aa,aa.mono hB⟩
 ·rw[hf]at HI;rcases G2 ad with⟨_,h0⟩|⟨g,cap',X0,hv,hBg,hX0,hncap,hcapm,hXl,hXt⟩
  ·omega
  cases hv;have al:Hid (Bw p 0 (CS.take (i0+1))=CS.take i0):=by
   show _=_;have hx:CS[i0]?=A (CS[i0]'(by omega)):=aA (by omega);rw[Ip p CS i0 _ hx,hp0,Iq p (CS.take i0) 0 fun j h1 h2=>hpre j h1 (by simp at h2;omega)];simp
  have bi:CS.length≤9223372036854775807:=by
   simp only[aN]at hcapm;omega
  clear hf hp0 hpre;go_enter Tryz.func178,Tryz.ntmps178;go_wp2_with(go_fit HI;rintro e w1 ⟨rfl,aa⟩);have ab:=(aa.block g (aK hX0)).trans hX0
  go_loopw[5,6] (fun iv jv wr=>∃i j:Nat,∃X:List aW,i<j∧j≤CS.length∧iv=O U i∧jv=O U j∧wr.heap[g]?=A (S X.toArray 82)∧X.length=cap*2∧Hid (X.take (i*2)=(Bw p 0 (CS.take j)).flatten)∧Hid (i=(Bw p 0 (CS.take j)).length)∧(∀m c,j≤m→CS[m]?=A c→∀r u,c[r]?=A u→X[m*2+r]?=A u)∧w.grownBy wr (A g)) (fun _ j _=>CS.length-(cJ j).toNat)
  case atStart=>
   refine⟨i0,i0+1,X0,by omega,by omega,rfl,by rfl,ab,hXl,?_,?_,?_,Cm _ aa⟩
   ·show _=_;rw[al.out];have e1:X0.take (i0*2)=(X0.take (CS.length*2)).take (i0*2):=by rw[bV,aU (by omega)]
    rw[e1,hXt,←bB i0 CS,bQ,bB];have av:(CS.take i0).flatten.length=i0*2:=by rw[Gv fun c hc=>ae c (eB hc),bO,aU (by omega)]
    rw[←av,bW]
   ·show _=_;rw[al.out,bO,aU (by omega)]
   ·intro m c hm hc r u hr;have h1:=Kk ae hc r u hr;have bj:=(aI.1 hc).1;have aw:=(aI.1 hr).1;rw[ae c (aE hc)]at aw;rw[←hXt,bJ (by omega)]at h1;exact h1
  case round=>
   obtain⟨i,j,X,bk,hj,rfl,rfl,hX,af,HT,HL,ag,am⟩:=hrel
   by_cases ax:j<CS.length
   ·obtain⟨x,hx⟩:∃x,CS[j]?=A x:=⟨_,aA ax⟩;have HC:=fun W hW=>ak j x W hx hW
    have an:=Ip p CS j x hx;obtain⟨s0,a1,n1,c1,rfl⟩:=hs x (aE hx);have d0:wr.cell? ⟨g,j*2,J⟩=A (H s0):=Aa hX (by have:=ag j _ (aJ _) hx 0 _ rfl;grind);have d1:wr.cell? ⟨g,j*2+1,J⟩=A (K a1 n1 c1):=Aa hX (by simp_all);have j0:(0:Int)≤j:=by omega
    have j1:j<(CS.length:Int):=by omega
    have ah:w.grownBy (wr.alloc (S [H s0,K a1 n1 c1].toArray 82)) _:=Cl am (Cm _ (Aq _ _));have ai:=HC _ ah;have ab:=Ad hX (S [H s0,K a1 n1 c1].toArray 82);have HR:Hid _:=ag;have HS:Hid _:=an;clear hx ag HC an;generalize hq:p j=q at ai HS;cases q
    ·have ay:(#[H s0,K a1 n1 c1]:Array aW).all (·.oneCell')=N:=by simp[bK]
     go_wp2_with(first
      |(go_fit ai;rintro e W' ⟨rfl,ac⟩;have aj:=(ac.block g (aK ab)).trans ab;have t0:=(ac.block _ (by simp)).trans (Ab wr _);have x0:=Aa t0 (j:=0) rfl;have x1:=Aa t0 (j:=1) rfl;have az:W'.there g (i*2) 2:=(fun r hr=>⟨by rw[Aa aj (u:=X[i*2+r]'(by omega)) (by simp)];rfl,by simp[bI,aj]⟩);have ba:(0:Int)≤i:=(by omega);have bb:i<(CS.length:Int):=(by omega))
      |(refine wpList_store_mid rfl 82 _ _ rfl g (i*2) #[H s0,K a1 n1 c1] ?_ ?_ ?_ ?_ ?_ ?_;exact rfl;exact rfl;exact az;exact Sb;exact ay))
     go_roundw
     case rel=>
      refine⟨_,_,_,_,_,_,_,_,_,_,_,_,_,_,_,_,_,_,_,_,_,_,_,?_,rfl⟩;refine⟨i+1,j+1,bP X (i*2) [H s0,K a1 n1 c1],by omega,by omega,by rfl,by rfl,?_,?_,?_,?_,?_,?_⟩
      ·exact Fs _ _ X _ aj (by grind)
      ·rw[aS _ _ _ (by grind)];omega
      ·show _=_;rw[HS.out];have e1:(i+1) *2=i*2+([H s0,K a1 n1 c1]:List aW).length:=by simp;omega
       rw[e1,F7 _ _ _ (by omega),HT.out];simp
      ·show _=_;rw[HS.out];have:=HL.out;grind
      ·intro m c hm hc r u hr;rw[Jd _ _ _ _ (by omega) (by grind)];exact HR.out m c (by omega) hc r u hr
      ·exact Cl (Cl ah (Cm _ ac)) (Gi g _ _)
     case measure=>simp[cJ];omega
    ·go_wp2_with(go_fit ai;rintro e W' ⟨rfl,ac⟩);go_roundw
     case rel=>
      refine⟨_,_,_,_,_,_,_,_,_,_,_,_,_,_,_,_,_,_,_,_,_,_,_,?_,rfl⟩;refine⟨i,j+1,X,by omega,by omega,by first|rfl|go_num,by go_num,(ac.block g (aK ab)).trans ab,af,?_,?_,fun m c hm hc r u hr=>HR.out m c (by omega) hc r u hr,Cl ah (Cm _ ac)⟩
      ·show _=_;rw[HS.out,HT.out];simp
      ·show _=_;rw[HS.out];simpa using HL.out
     case measure=>simp[cJ];omega
   ·have bc:j=CS.length:=by omega
    subst bc;rw[fA]at HT HL;have v1:¬((CS.length:Int)<(CS.length:Int)):=by omega
    have ba:(0:Int)≤(i:Int):=by omega
    have bb:(i:Int)≤(CS.length:Int):=by omega
    have bl:¬(cap=i):=by omega
    have bm:(i:Int)≤(cap:Int):=by omega
    have hz:∀w,(eI 82).run M w=.ok (aY #[H ⟨#[]⟩,K J 0 0]) w:=fun w=>by
     obtain⟨i9,bd,be,_,_⟩:=cN Ab1;simp[eI,typeInfo,bd,be]
    have ap:∀n,∀u∈(aD ((aY #[H ⟨#[]⟩,K J 0 0]):aW).cells n).toList,u.oneCell'=N:=fun n u hu=>Aop n u hu
    obtain⟨w2,Y,bn,hY,bf,aq,bg⟩:=Pt (P:=M) (w:=wr) 59 82 2 (aY #[H ⟨#[]⟩,K J 0 0]) aM hz rfl ap g (i*2) (CS.length-i) (cap-i) X 82 hX (by rw[af,Nat.sub_mul];have:CS.length*2≤cap*2:=bG _ hncap;omega);have HY:Hid _:=hY;have bh:Hid _:=aq;clear hY aq hz ap;go_wp2;go_ret;have ar:=Cl am bg;refine⟨_,rfl,?_,ar,K8 ar hBg hB⟩;rw[←HL.out];exact Jm hBg HY.out (by omega) hcapm (bf.trans af) (bh.out.trans HT.out)
theorem Aje (l)(ao)(n c:Nat)(f0:aW)(p:Nat→Bool)(St:Nat→bT→Prop)(En:bT→Prop)(w:bT)(ag:∀i W,St i W→En W)(ae:∀i W,St i W→IsL Nj (fun _=>True) W (K ao n c) l)
  (ah:∀i cs W,l[i]?=A cs→St i W→Z M 111 #[aY cs.toArray,f0] W fun e W'=>e=z (bC (p i))∧En W'∧(p i=aT→St (i+1) W')) (h0:St 0 w):
  Z M 229 #[K ao n c,.func (.func 111) #[] #[f0]] w fun e W'=>e=z (O U (Bk p 0 l.length))∧En W':=by
 obtain⟨hn,ai⟩:=D5 (ae 0 w h0);subst hn;unfold aN at ai;go_enter Tryz.func229,Tryz.ntmps229;go_wp2
 go_loopw[8] (fun i wr=>∃k:Nat,k≤l.length∧i=O U k∧St k wr∧Hid (Bk p 0 l.length=Bk p k (l.length-k))) (fun i _=>l.length-(cJ i).toNat)
 case atStart=>exact⟨0,bF _,rfl,h0,rfl⟩
 case round=>
  obtain⟨k,hk,rfl,ab,HP⟩:=hrel
  by_cases af:k<l.length
  ·obtain⟨x,hx⟩:∃x,l[k]?=A x:=⟨_,aA af⟩;obtain⟨b,ak,cs,rfl,_,hb,hR,aa⟩:=At (ae k wr ab) hx;have HC:=ah k x wr hx ab;obtain⟨rfl,aj⟩:=hR;obtain⟨s0,s1,s2,rfl⟩:=aj;have d0:=aa 0 _ rfl;have d1:=aa 1 _ rfl;have d2:=aa 2 _ rfl;simp only[Nj,aV]at d0 d1 d2;have k0:(0:Int)≤k:=by omega
   have k1:k<(l.length:Int):=by omega
   have ac:Hid _:=L7 p k _ af;clear aa hx;generalize hq:p k=q at HC ac;clear hq;cases q
   ·go_wp2_with(go_fit HC;rintro e W' ⟨rfl,_,ad⟩);go_roundw
    case rel=>exact⟨_,by omega,by rfl,ad (by simp),by rw[HP.out,ac.out];rfl⟩
    case measure=>simp[cJ];omega
   ·go_wp2_with(go_fit HC;rintro e W' ⟨rfl,ad,_⟩);go_ret;exact⟨Av (by rw[HP.out,ac.out];rfl),ad⟩
  ·have HE:Hid (Bk p k (l.length-k)= -1):=by show _=_;rw[show l.length-k=0 from by omega,Bk]
   go_wp2;go_ret;exact⟨Av (by rw[HP.out,HE.out]),ag k _ ab⟩
theorem Af3 (CS)(v)(f0)(p)(B)(w)(ad:w.ownsRow B 86 3 v CS.length CS.flatten)(hs:∀c∈CS,Mf c)(hB:B≤w.heap.size)
  (ak:∀i cs W,CS[i]?=A cs→w.grownBy W v.ownBlock→Z M 111 #[aY cs.toArray,f0] W fun e W'=>e=z (bC (p i))∧Below W.heap.size W W'):
  Z M 179 #[v,.func (.func 111) #[] #[f0]] w fun e w'=>∃v',e=z v'∧w'.ownsRow B 86 3 v' (Bw p 0 CS).length (Bw p 0 CS).flatten∧w.grownBy w' v.ownBlock∧Below B w w':=by
 have ae:∀c∈CS,c.length=3:=fun c hc=>Ahk (hs c hc)
 obtain⟨ao,cap,rfl⟩:=(Ad2 ad hs).shape;have HI:=Aje CS ao CS.length cap f0 p (fun _ W=>Below w.heap.size w W) (fun W=>Below w.heap.size w W) w (fun _ _ h=>h) (fun _ W h=>Ad2 (Ak ad h) hs)
  (fun i cs W hi hW=>(ak i cs W hi (Cm _ hW)).mono fun e W' ⟨he,hb⟩=>⟨he,Ac hW hb,fun _=>Ac hW hb⟩) (aB _ _)
 rcases Oi p CS.length 0 with hf|⟨i0,hf,_,hi0,hp0,hpre⟩
 ·have au:Hid (Bw p 0 CS=CS):=Iq p CS 0 (Oh p _ _ hf);rw[hf]at HI;go_enter Tryz.func179,Tryz.ntmps179;go_wp2_with(go_fit HI;rintro e w1 ⟨rfl,aa⟩);go_ret;rw[au.out];exact⟨_,rfl,Ak ad aa,Cm _ aa,aa.mono hB⟩
 ·rw[hf]at HI;rcases G2 ad with⟨_,h0⟩|⟨g,cap',X0,hv,hBg,hX0,hncap,hcapm,hXl,hXt⟩
  ·omega
  cases hv;have al:Hid (Bw p 0 (CS.take (i0+1))=CS.take i0):=by
   show _=_;have hx:CS[i0]?=A (CS[i0]'(by omega)):=aA (by omega);rw[Ip p CS i0 _ hx,hp0,Iq p (CS.take i0) 0 fun j h1 h2=>hpre j h1 (by simp at h2;omega)];simp
  have bi:CS.length≤9223372036854775807:=by
   simp only[aN]at hcapm;omega
  clear hf hp0 hpre;go_enter Tryz.func179,Tryz.ntmps179;go_wp2_with(go_fit HI;rintro e w1 ⟨rfl,aa⟩);have ab:=(aa.block g (aK hX0)).trans hX0
  go_loopw[5,6] (fun iv jv wr=>∃i j:Nat,∃X:List aW,i<j∧j≤CS.length∧iv=O U i∧jv=O U j∧wr.heap[g]?=A (S X.toArray 86)∧X.length=cap*3∧Hid (X.take (i*3)=(Bw p 0 (CS.take j)).flatten)∧Hid (i=(Bw p 0 (CS.take j)).length)∧(∀m c,j≤m→CS[m]?=A c→∀r u,c[r]?=A u→X[m*3+r]?=A u)∧w.grownBy wr (A g)) (fun _ j _=>CS.length-(cJ j).toNat)
  case atStart=>
   refine⟨i0,i0+1,X0,by omega,by omega,rfl,by rfl,ab,hXl,?_,?_,?_,Cm _ aa⟩
   ·show _=_;rw[al.out];have e1:X0.take (i0*3)=(X0.take (CS.length*3)).take (i0*3):=by rw[bV,aU (by omega)]
    rw[e1,hXt,←bB i0 CS,bQ,bB];have av:(CS.take i0).flatten.length=i0*3:=by rw[Gv fun c hc=>ae c (eB hc),bO,aU (by omega)]
    rw[←av,bW]
   ·show _=_;rw[al.out,bO,aU (by omega)]
   ·intro m c hm hc r u hr;have h1:=Kk ae hc r u hr;have bj:=(aI.1 hc).1;have aw:=(aI.1 hr).1;rw[ae c (aE hc)]at aw;rw[←hXt,bJ (by omega)]at h1;exact h1
  case round=>
   obtain⟨i,j,X,bk,hj,rfl,rfl,hX,af,HT,HL,ag,am⟩:=hrel
   by_cases ax:j<CS.length
   ·obtain⟨x,hx⟩:∃x,CS[j]?=A x:=⟨_,aA ax⟩;have HC:=fun W hW=>ak j x W hx hW
    have an:=Ip p CS j x hx;obtain⟨s0,s1,s2,rfl⟩:=hs x (aE hx);have d0:wr.cell? ⟨g,j*3,J⟩=A (H s0):=Aa hX (by have:=ag j _ (aJ _) hx 0 _ rfl;grind);have d1:wr.cell? ⟨g,j*3+1,J⟩=A (H s1):=Aa hX (by simp_all);have d2:wr.cell? ⟨g,j*3+2,J⟩=A (H s2):=Aa hX (by simp_all);have j0:(0:Int)≤j:=by omega
    have j1:j<(CS.length:Int):=by omega
    have ah:w.grownBy (wr.alloc (S [H s0,H s1,H s2].toArray 86)) _:=Cl am (Cm _ (Aq _ _));have ai:=HC _ ah;have ab:=Ad hX (S [H s0,H s1,H s2].toArray 86);have HR:Hid _:=ag;have HS:Hid _:=an;clear hx ag HC an;generalize hq:p j=q at ai HS;cases q
    ·have ay:(#[H s0,H s1,H s2]:Array aW).all (·.oneCell')=N:=by simp[bK]
     go_wp2_with(first
      |(go_fit ai;rintro e W' ⟨rfl,ac⟩;have aj:=(ac.block g (aK ab)).trans ab;have t0:=(ac.block _ (by simp)).trans (Ab wr _);have x0:=Aa t0 (j:=0) rfl;have x1:=Aa t0 (j:=1) rfl;have x2:=Aa t0 (j:=2) rfl;have az:W'.there g (i*3) 3:=(fun r hr=>⟨by rw[Aa aj (u:=X[i*3+r]'(by omega)) (by simp)];rfl,by simp[bI,aj]⟩);have ba:(0:Int)≤i:=(by omega);have bb:i<(CS.length:Int):=(by omega))
      |(refine wpList_store_mid rfl 86 _ _ rfl g (i*3) #[H s0,H s1,H s2] ?_ ?_ ?_ ?_ ?_ ?_;exact rfl;exact rfl;exact az;exact Sc;exact ay))
     go_roundw
     case rel=>
      refine⟨_,_,_,_,_,_,_,_,_,_,_,_,_,_,_,_,_,_,_,_,_,_,_,?_,rfl⟩;refine⟨i+1,j+1,bP X (i*3) [H s0,H s1,H s2],by omega,by omega,by rfl,by rfl,?_,?_,?_,?_,?_,?_⟩
      ·exact Fs _ _ X _ aj (by grind)
      ·rw[aS _ _ _ (by grind)];omega
      ·show _=_;rw[HS.out];have e1:(i+1) *3=i*3+([H s0,H s1,H s2]:List aW).length:=by simp;omega
       rw[e1,F7 _ _ _ (by omega),HT.out];simp
      ·show _=_;rw[HS.out];have:=HL.out;grind
      ·intro m c hm hc r u hr;rw[Jd _ _ _ _ (by omega) (by grind)];exact HR.out m c (by omega) hc r u hr
      ·exact Cl (Cl ah (Cm _ ac)) (Gi g _ _)
     case measure=>simp[cJ];omega
    ·go_wp2_with(go_fit ai;rintro e W' ⟨rfl,ac⟩);go_roundw
     case rel=>
      refine⟨_,_,_,_,_,_,_,_,_,_,_,_,_,_,_,_,_,_,_,_,_,_,_,?_,rfl⟩;refine⟨i,j+1,X,by omega,by omega,by first|rfl|go_num,by go_num,(ac.block g (aK ab)).trans ab,af,?_,?_,fun m c hm hc r u hr=>HR.out m c (by omega) hc r u hr,Cl ah (Cm _ ac)⟩
      ·show _=_;rw[HS.out,HT.out];simp
      ·show _=_;rw[HS.out];simpa using HL.out
     case measure=>simp[cJ];omega
   ·have bc:j=CS.length:=by omega
    subst bc;rw[fA]at HT HL;have v1:¬((CS.length:Int)<(CS.length:Int)):=by omega
    have ba:(0:Int)≤(i:Int):=by omega
    have bb:(i:Int)≤(CS.length:Int):=by omega
    have bl:¬(cap=i):=by omega
    have bm:(i:Int)≤(cap:Int):=by omega
    have hz:∀w,(eI 86).run M w=.ok (aY #[H ⟨#[]⟩,H ⟨#[]⟩,H ⟨#[]⟩]) w:=fun w=>by
     obtain⟨i9,bd,be,_,_⟩:=cN Ab2;simp[eI,typeInfo,bd,be]
    have ap:∀n,∀u∈(aD ((aY #[H ⟨#[]⟩,H ⟨#[]⟩,H ⟨#[]⟩]):aW).cells n).toList,u.oneCell'=N:=fun n u hu=>Aoq n u hu
    obtain⟨w2,Y,bn,hY,bf,aq,bg⟩:=Pt (P:=M) (w:=wr) 60 86 3 (aY #[H ⟨#[]⟩,H ⟨#[]⟩,H ⟨#[]⟩]) aL hz rfl ap g (i*3) (CS.length-i) (cap-i) X 86 hX (by rw[af,Nat.sub_mul];have:CS.length*3≤cap*3:=bG _ hncap;omega);have HY:Hid _:=hY;have bh:Hid _:=aq;clear hY aq hz ap;go_wp2;go_ret;have ar:=Cl am bg;refine⟨_,rfl,?_,ar,K8 ar hBg hB⟩;rw[←HL.out];exact Jm hBg HY.out (by omega) hcapm (bf.trans af) (bh.out.trans HT.out)
end
section
open Go.RowKit Go.Maps
theorem Ahm (p)(k n)(h:k<n):B6 p k (n-k)=(p k||B6 p (k+1) (n-(k+1))):=by
 rw[show n-k=(n-(k+1))+1 from by omega,B6]
def Ef (l:List Wd)(i:Nat):Bool:=match l[i]?,l[i+1]? with
 |some a,A b=>!bA a.toList b.toList
 |_,_=>aT
def Id (l:List Wd):Bool:=!B6 (Ef l) 0 (l.length-1)
theorem Ii (aa:Wd)(ao)(n c)(w):Z M 105 #[aY #[H aa,K ao n c]] w fun e w'=>e=z (H aa)∧Below w.heap.size w w':=by
 go_enter Tryz.func105,Tryz.ntmps105;go_wp2;go_ret;exact⟨rfl,Aq _ _⟩
theorem Ij (aa t c:Wd)(w):Z M 107 #[aY #[H aa,H t,H c]] w fun e w'=>e=z (H aa)∧Below w.heap.size w w':=by
 go_enter Tryz.func107,Tryz.ntmps107;go_wp2;go_ret;exact⟨rfl,Aq _ _⟩
theorem Mj {W W'}{b off k}{a0 a1 a2 a3}(h:W.cell? ⟨b,off+k*2,J⟩=A a0∧W.cell? ⟨b,off+k*2+1,J⟩=A a1∧W.cell? ⟨b,off+(k+1) *2,J⟩=A a2∧W.cell? ⟨b,off+(k+1) *2+1,J⟩=A a3)(hb:Below W.heap.size W W')(hl:b<W.heap.size):W'.cell? ⟨b,off+k*2,J⟩=A a0∧W'.cell? ⟨b,off+k*2+1,J⟩=A a1∧W'.cell? ⟨b,off+(k+1) *2,J⟩=A a2∧W'.cell? ⟨b,off+(k+1) *2+1,J⟩=A a3:=by
 have kc:=fun o=>hb.cell (p:=⟨b,o,J⟩) hl
 grind
theorem Ayu (l:List TabD)(sv:aW)(C:Nat)(w:bT)(hl:IsL Ck (fun k=>k<C) w sv l)(hC:C≤w.heap.size):
  Z M 153 #[sv,.func (.func 105) #[] #[]] w fun e w'=>e=z (bC (Id (l.map TabD.name)))∧Below w.heap.size w w':=by
 obtain⟨ao,c,rfl⟩:=hl.shape;have ap:=(D5 hl).2;unfold aN at ap;have E:Hid (Id (l.map TabD.name)= !B6 (Ef (l.map TabD.name)) 0 (l.length-1)):=by show _=_;rw[Id,fM]
 generalize Id (l.map TabD.name)=r at E;go_enter Tryz.func153,Tryz.ntmps153;go_wp2
 go_loopw[5] (fun i wr=>∃k:Nat,k≤l.length-1∧i=O U ((k:Int)+1)∧Below w.heap.size w wr∧Hid (B6 (Ef (l.map TabD.name)) 0 (l.length-1)=B6 (Ef (l.map TabD.name)) k (l.length-1-k))) (fun i _=>l.length-(cJ i).toNat)
 case atStart=>exact⟨0,bF _,rfl,aB _ _,rfl⟩
 case round=>
  obtain⟨k,hk,rfl,ad,HP⟩:=hrel
  by_cases aq:k+1<l.length
  ·obtain⟨x,hx⟩:∃x,l[k]?=A x:=⟨_,aA (by omega)⟩;obtain⟨y,hy⟩:∃y,l[k+1]?=A y:=⟨_,aA aq⟩;have aj:=hl.keep (Ae (ad.mono hC));obtain⟨b,aa,ax,rfl,_,hb,ar,ak⟩:=At aj hx;obtain⟨b',ay,az,an,_,_,au,al⟩:=At aj hy;simp only[dL,fE,and_true]at an;obtain⟨rfl,rfl⟩:=an;obtain⟨ba,rfl,av⟩:=ar;obtain⟨ae,af,rfl⟩:=av.shape;obtain⟨bb,rfl,aw⟩:=au;obtain⟨ag,ah,rfl⟩:=aw.shape;have d0:=ak 0 _ rfl;have d1:=ak 1 _ rfl;have e0:=al 0 _ rfl;have e1:=al 1 _ rfl;simp only[Ck,aV]at d0 d1 e0 e1;have ai:Hid (B6 (Ef (l.map TabD.name)) k (l.length-1-k)=(!bA x.name.toList y.name.toList||B6 (Ef (l.map TabD.name)) (k+1) (l.length-1-(k+1)))):=by
    show _=_;rw[Ahm _ k _ (by omega),Ef,cC,cC,hx,hy];rfl
   have k0:(0:Int)≤k+1:=by omega
   have k1:k+1<(l.length:Int):=by omega
   have k2:eO (k+1-1)=k:=by unfold eO;omega
   have k3:(0:Int)≤k:=by omega
   have k4:k<(l.length:Int):=by omega
   have k5:((k:Int)+1).toNat=k+1:=by omega
   have k6:IntKind.i64.wrap k=k:=by rw[bD];omega
   have S0:=(show wr.cell? _=A _∧wr.cell? _=A _∧wr.cell? _=A _∧wr.cell? _=A _ from⟨d0,d1,e0,e1⟩);clear ak al hx hy aj;cases hq:bA x.name.toList y.name.toList
   ·have am:Hid (B6 (Ef (l.map TabD.name)) k (l.length-1-k)=N):=by show _=_;rw[ai.out,hq];rfl
    clear ai;go_wp2_with fail
    go_region_held3(fun w'=>w'.cell? ⟨b,aa+k*2,J⟩=A (H x.name)∧w'.cell? ⟨b,aa+k*2+1,J⟩=A (K ae x.cols.length af)∧w'.cell? ⟨b,aa+(k+1) *2,J⟩=A (H y.name)∧w'.cell? ⟨b,aa+(k+1) *2+1,J⟩=A (K ag y.cols.length ah)) (first|simp_all|exact S0)
     (first|(go_at_call_of 105 (bR #[H x.name,K ae x.cols.length af]);go_fit(Ii _ ae _ af _);rintro r0 w2 ⟨rfl,ab⟩;have S1:=Mj (W:=wr.drew) S0 ab hb;have z1:=aC hb ab.size)|(go_at_call_of 105 (bR #[H y.name,K ag y.cols.length ah]);go_fit(Ii _ ag _ ah _);rintro r1 w3 ⟨rfl,ac⟩;have S2:=Mj S1 ac z1;have z2:=aC z1 ac.size))
    go_wp2;go_ret;exact⟨Ah (by rw[E.out,HP.out,am.out];rfl),ad.trans ((Ac (Ac (aB _ _).drew ab) ac).mono ad.size)⟩
   ·have am:Hid (B6 (Ef (l.map TabD.name)) k (l.length-1-k)=B6 (Ef (l.map TabD.name)) (k+1) (l.length-1-(k+1))):=by show _=_;rw[ai.out,hq];rfl
    clear ai;go_wp2_with fail
    go_region_held3(fun w'=>w'.cell? ⟨b,aa+k*2,J⟩=A (H x.name)∧w'.cell? ⟨b,aa+k*2+1,J⟩=A (K ae x.cols.length af)∧w'.cell? ⟨b,aa+(k+1) *2,J⟩=A (H y.name)∧w'.cell? ⟨b,aa+(k+1) *2+1,J⟩=A (K ag y.cols.length ah)) (first|simp_all|exact S0)
     (first|(go_at_call_of 105 (bR #[H x.name,K ae x.cols.length af]);go_fit(Ii _ ae _ af _);rintro r0 w2 ⟨rfl,ab⟩;have S1:=Mj (W:=wr.drew) S0 ab hb;have z1:=aC hb ab.size)|(go_at_call_of 105 (bR #[H y.name,K ag y.cols.length ah]);go_fit(Ii _ ag _ ah _);rintro r1 w3 ⟨rfl,ac⟩;have S2:=Mj S1 ac z1;have z2:=aC z1 ac.size))
    go_wp2;go_roundw
    case rel=>exact⟨_,by omega,by rfl,ad.trans ((Ac (Ac (aB _ _).drew ab) ac).mono ad.size),HP.out.trans am.out⟩
    case measure=>simp[cJ];omega
  ·have HE:Hid (B6 (Ef (l.map TabD.name)) k (l.length-1-k)=aT):=by show _=_;rw[show l.length-1-k=0 from by omega];rfl
   have k1:¬k+1<(l.length:Int):=by omega
   go_wp2;go_ret;exact⟨Ah (by rw[E.out,HP.out,HE.out];rfl),ad⟩
theorem Mk {W W'}{b off k}{a0 a1 a2 a3 a4 a5}(h:W.cell? ⟨b,off+k*3,J⟩=A a0∧W.cell? ⟨b,off+k*3+1,J⟩=A a1∧W.cell? ⟨b,off+k*3+2,J⟩=A a2∧W.cell? ⟨b,off+(k+1) *3,J⟩=A a3∧W.cell? ⟨b,off+(k+1) *3+1,J⟩=A a4∧W.cell? ⟨b,off+(k+1) *3+2,J⟩=A a5)(hb:Below W.heap.size W W')(hl:b<W.heap.size):W'.cell? ⟨b,off+k*3,J⟩=A a0∧W'.cell? ⟨b,off+k*3+1,J⟩=A a1∧W'.cell? ⟨b,off+k*3+2,J⟩=A a2∧W'.cell? ⟨b,off+(k+1) *3,J⟩=A a3∧W'.cell? ⟨b,off+(k+1) *3+1,J⟩=A a4∧W'.cell? ⟨b,off+(k+1) *3+2,J⟩=A a5:=by
 have kc:=fun o=>hb.cell (p:=⟨b,o,J⟩) hl
 grind
theorem Ayv (l:List IdxD)(sv:aW)(C:Nat)(w:bT)(hl:IsL Eb (fun k=>k<C) w sv l)(hC:C≤w.heap.size):
  Z M 157 #[sv,.func (.func 107) #[] #[]] w fun e w'=>e=z (bC (Id (l.map IdxD.name)))∧Below w.heap.size w w':=by
 obtain⟨ao,c,rfl⟩:=hl.shape;have ak:=(D5 hl).2;unfold aN at ak;have E:Hid (Id (l.map IdxD.name)= !B6 (Ef (l.map IdxD.name)) 0 (l.length-1)):=by show _=_;rw[Id,fM]
 generalize Id (l.map IdxD.name)=r at E;go_enter Tryz.func157,Tryz.ntmps157;go_wp2
 go_loopw[5] (fun i wr=>∃k:Nat,k≤l.length-1∧i=O U ((k:Int)+1)∧Below w.heap.size w wr∧Hid (B6 (Ef (l.map IdxD.name)) 0 (l.length-1)=B6 (Ef (l.map IdxD.name)) k (l.length-1-k))) (fun i _=>l.length-(cJ i).toNat)
 case atStart=>exact⟨0,bF _,rfl,aB _ _,rfl⟩
 case round=>
  obtain⟨k,hk,rfl,ad,HP⟩:=hrel
  by_cases al:k+1<l.length
  ·obtain⟨x,hx⟩:∃x,l[k]?=A x:=⟨_,aA (by omega)⟩;obtain⟨y,hy⟩:∃y,l[k+1]?=A y:=⟨_,aA al⟩;have ah:=hl.keep (Ae (ad.mono hC));obtain⟨b,aa,ap,rfl,_,hb,am,ae⟩:=At ah hx;obtain⟨b',aq,ar,aj,_,_,an,af⟩:=At ah hy;simp only[dL,fE,and_true]at aj;obtain⟨rfl,rfl⟩:=aj;obtain rfl:=am;obtain rfl:=an;have d0:=ae 0 _ rfl;have d1:=ae 1 _ rfl;have d2:=ae 2 _ rfl;have e0:=af 0 _ rfl;have e1:=af 1 _ rfl;have e2:=af 2 _ rfl;simp only[Eb,aV]at d0 d1 d2 e0 e1 e2;have ag:Hid (B6 (Ef (l.map IdxD.name)) k (l.length-1-k)=(!bA x.name.toList y.name.toList||B6 (Ef (l.map IdxD.name)) (k+1) (l.length-1-(k+1)))):=by
    show _=_;rw[Ahm _ k _ (by omega),Ef,cC,cC,hx,hy];rfl
   have k0:(0:Int)≤k+1:=by omega
   have k1:k+1<(l.length:Int):=by omega
   have k2:eO (k+1-1)=k:=by unfold eO;omega
   have k3:(0:Int)≤k:=by omega
   have k4:k<(l.length:Int):=by omega
   have k5:((k:Int)+1).toNat=k+1:=by omega
   have k6:IntKind.i64.wrap k=k:=by rw[bD];omega
   have S0:=(show wr.cell? _=A _∧wr.cell? _=A _∧wr.cell? _=A _∧wr.cell? _=A _∧wr.cell? _=A _∧wr.cell? _=A _ from⟨d0,d1,d2,e0,e1,e2⟩);clear ae af hx hy ah;cases hq:bA x.name.toList y.name.toList
   ·have ai:Hid (B6 (Ef (l.map IdxD.name)) k (l.length-1-k)=N):=by show _=_;rw[ag.out,hq];rfl
    clear ag;go_wp2_with fail
    go_region_held3(fun w'=>w'.cell? ⟨b,aa+k*3,J⟩=A (H x.name)∧w'.cell? ⟨b,aa+k*3+1,J⟩=A (H x.table)∧w'.cell? ⟨b,aa+k*3+2,J⟩=A (H x.col)∧w'.cell? ⟨b,aa+(k+1) *3,J⟩=A (H y.name)∧w'.cell? ⟨b,aa+(k+1) *3+1,J⟩=A (H y.table)∧w'.cell? ⟨b,aa+(k+1) *3+2,J⟩=A (H y.col)) (first|assumption|exact S0)
     (first|(go_at_call_of 107 (bR #[H x.name,H x.table,H x.col]);go_fit(Ij _ _ _ _);rintro r0 w2 ⟨rfl,ab⟩;have S1:=Mk (W:=wr.drew) S0 ab hb;have z1:=aC hb ab.size)|(go_at_call_of 107 (bR #[H y.name,H y.table,H y.col]);go_fit(Ij _ _ _ _);rintro r1 w3 ⟨rfl,ac⟩;have S2:=Mk S1 ac z1;have z2:=aC z1 ac.size))
    go_wp2;go_ret;exact⟨Ah (by rw[E.out,HP.out,ai.out];rfl),ad.trans ((Ac (Ac (aB _ _).drew ab) ac).mono ad.size)⟩
   ·have ai:Hid (B6 (Ef (l.map IdxD.name)) k (l.length-1-k)=B6 (Ef (l.map IdxD.name)) (k+1) (l.length-1-(k+1))):=by show _=_;rw[ag.out,hq];rfl
    clear ag;go_wp2_with fail
    go_region_held3(fun w'=>w'.cell? ⟨b,aa+k*3,J⟩=A (H x.name)∧w'.cell? ⟨b,aa+k*3+1,J⟩=A (H x.table)∧w'.cell? ⟨b,aa+k*3+2,J⟩=A (H x.col)∧w'.cell? ⟨b,aa+(k+1) *3,J⟩=A (H y.name)∧w'.cell? ⟨b,aa+(k+1) *3+1,J⟩=A (H y.table)∧w'.cell? ⟨b,aa+(k+1) *3+2,J⟩=A (H y.col)) (first|assumption|exact S0)
     (first|(go_at_call_of 107 (bR #[H x.name,H x.table,H x.col]);go_fit(Ij _ _ _ _);rintro r0 w2 ⟨rfl,ab⟩;have S1:=Mk (W:=wr.drew) S0 ab hb;have z1:=aC hb ab.size)|(go_at_call_of 107 (bR #[H y.name,H y.table,H y.col]);go_fit(Ij _ _ _ _);rintro r1 w3 ⟨rfl,ac⟩;have S2:=Mk S1 ac z1;have z2:=aC z1 ac.size))
    go_wp2;go_roundw
    case rel=>exact⟨_,by omega,by rfl,ad.trans ((Ac (Ac (aB _ _).drew ab) ac).mono ad.size),HP.out.trans ai.out⟩
    case measure=>simp[cJ];omega
  ·have HE:Hid (B6 (Ef (l.map IdxD.name)) k (l.length-1-k)=aT):=by show _=_;rw[show l.length-1-k=0 from by omega];rfl
   have k1:¬k+1<(l.length:Int):=by omega
   go_wp2;go_ret;exact⟨Ah (by rw[E.out,HP.out,HE.out];rfl),ad⟩
theorem Ave (l)(ao)(n c)(f0)(af:Wd)(cf:Nat→Int)(m0)(w)(ad:∀W,Below w.heap.size w W→IsL Ni (fun _=>True) W (K ao n c) l)
  (hm:m0≤l.length) (ag:∀t,t<m0→cf t<0) (ah:∀t,m0≤t→t<l.length→¬cf t<0) (hl:l.length≤1000000)
  (ai:∀i cs W,l[i]?=A cs→Below w.heap.size w W→Z M 171 #[aY cs.toArray,H af,f0] W fun e W'=>e=z (O U (cf i))∧Below W.heap.size W W'):
  Z M 173 #[K ao n c,H af,.func (.func 171) #[] #[f0]] w fun e w'=>∃b,e=z (fQ #[O U m0,bC b])∧Below w.heap.size w w':=by
 obtain⟨hn,au⟩:=D5 (ad w (aB _ _));subst hn;have aj:Hid _:=ag;have ak:Hid _:=ah;clear ag ah;go_enter Tryz.func173,Tryz.ntmps173;go_wp2
 go_loopg[9,10] l.length (fun kx s9 al wr=>∃lo hi:Nat,s9=O U lo∧al=O U hi∧lo≤m0∧m0≤hi∧hi≤l.length∧hi-lo≤kx∧Below w.heap.size w wr)
 case atStart=>exact⟨0,l.length,rfl,rfl,bF _,hm,aJ _,by omega,aB _ _⟩
 case round=>
  obtain⟨lo,hi,rfl,rfl,am,an,ap,hg,aa⟩:=hrel
  by_cases av:lo<hi
  ·have k0:(0:Int)≤((lo:Int)+(hi:Int))/2:=by omega
   have k1:((lo:Int)+(hi:Int))/2<(l.length:Int):=by omega
   have k2:(((lo:Int)+(hi:Int))/2).toNat=(lo+hi)/2:=by omega
   obtain⟨x,hx⟩:∃x,l[(lo+hi)/2]?=A x:=⟨_,aA (by omega)⟩;obtain⟨b,aq,cs,ae,_,hb,hR,ab⟩:=At (ad wr aa) hx;subst ae;have HC:=ai _ x wr hx aa;obtain⟨rfl,s0,a1,n1,c1,rfl⟩:=hR;have d0:=ab 0 _ rfl;have d1:=ab 1 _ rfl;simp only[Ni,aV]at d0 d1;clear ab hx;have H1:=aj.out ((lo+hi)/2);have H2:=ak.out ((lo+hi)/2);generalize cf _=q at HC H1 H2
   by_cases hq:q<0
   ·have aw:(lo+hi)/2<m0:=fJ fun h=>by omega
    clear H1 H2;go_wp2_with(go_fit HC;rintro e W' ⟨rfl,ac⟩)
    go_roundg (hi-((lo+hi)/2+1))
    case measure=>omega
    case rel=>exact⟨(lo+hi)/2+1,hi,by rw[show((lo:Int)+(hi:Int))/2+1=(((lo+hi)/2+1:Nat):Int) by omega],rfl,by omega,an,ap,by omega,Ac aa ac⟩
   ·have ar:m0≤(lo+hi)/2:=fK fun h=>hq (H1 h)
    clear H1 H2;go_wp2_with(go_fit HC;rintro e W' ⟨rfl,ac⟩)
    go_roundg ((lo+hi)/2-lo)
    case measure=>omega
    case rel=>exact⟨lo,(lo+hi)/2,rfl,by rw[show((lo:Int)+(hi:Int))/2=(((lo+hi)/2:Nat):Int) by omega],am,ar,by omega,by omega,Ac aa ac⟩
  ·obtain rfl:m0=lo:=by omega
   obtain rfl:m0=hi:=by omega
   by_cases hn:m0<l.length
   ·have k0:(0:Int)≤(m0:Int):=by omega
    have k1:(m0:Int)<(l.length:Int):=by omega
    obtain⟨x,hx⟩:∃x,l[m0]?=A x:=⟨_,aA (by omega)⟩;obtain⟨b,aq,cs,ae,_,hb,hR,ab⟩:=At (ad wr aa) hx;subst ae;have HC:=ai _ x wr hx aa;obtain⟨rfl,s0,a1,n1,c1,rfl⟩:=hR;have d0:=ab 0 _ rfl;have d1:=ab 1 _ rfl;simp only[Ni,aV]at d0 d1;clear ab hx;generalize cf m0=q at HC;go_wp2_with(go_fit HC;rintro e W' ⟨rfl,ac⟩);go_ret2;exact⟨_,rfl,Ac aa ac⟩
   ·have k1:¬m0<(l.length:Int):=by omega
    go_wp2;go_ret2
    first|exact⟨_,rfl,aa⟩|exact⟨.inl rfl,aa⟩
theorem Aor (s0 aa:Wd)(a1)(n1 c1)(pb)(w)(hp:w.cell? ⟨pb,0,J⟩=A (.func (.func 105) #[] #[]))(ac:pb<w.heap.size):
  Z M 171 #[aY [H s0,K a1 n1 c1].toArray,H aa,dO (A ⟨pb,0,J⟩)] w fun e w'=>e=z (O U (F4 s0 aa))∧Below w.heap.size w w':=by
 have ab:=Aq w (S [H s0,K a1 n1 c1].toArray 82);have ae:=(ab.cell ac).trans hp;have HC:=fun W=>Qr s0 aa W
 generalize F4 s0 aa=r at HC;go_enter Tryz.func171,Tryz.ntmps171;go_wp2_with(first|(go_fit(Ii s0 a1 n1 c1 _);rintro e W1 ⟨rfl,ad⟩)|(go_fit(HC _);rintro e W2 ⟨rfl,rfl⟩));go_ret;exact⟨rfl,Ac ab ad⟩
theorem Avf (l)(ao)(n c)(f0)(af:Wd)(cf:Nat→Int)(m0)(w)(ad:∀W,Below w.heap.size w W→IsL Nj (fun _=>True) W (K ao n c) l)
  (hm:m0≤l.length) (ag:∀t,t<m0→cf t<0) (ah:∀t,m0≤t→t<l.length→¬cf t<0) (hl:l.length≤1000000)
  (ai:∀i cs W,l[i]?=A cs→Below w.heap.size w W→Z M 175 #[aY cs.toArray,H af,f0] W fun e W'=>e=z (O U (cf i))∧Below W.heap.size W W'):
  Z M 176 #[K ao n c,H af,.func (.func 175) #[] #[f0]] w fun e w'=>∃b,e=z (fQ #[O U m0,bC b])∧Below w.heap.size w w':=by
 obtain⟨hn,au⟩:=D5 (ad w (aB _ _));subst hn;have aj:Hid _:=ag;have ak:Hid _:=ah;clear ag ah;go_enter Tryz.func176,Tryz.ntmps176;go_wp2
 go_loopg[9,10] l.length (fun kx s9 al wr=>∃lo hi:Nat,s9=O U lo∧al=O U hi∧lo≤m0∧m0≤hi∧hi≤l.length∧hi-lo≤kx∧Below w.heap.size w wr)
 case atStart=>exact⟨0,l.length,rfl,rfl,bF _,hm,aJ _,by omega,aB _ _⟩
 case round=>
  obtain⟨lo,hi,rfl,rfl,am,an,ap,hg,aa⟩:=hrel
  by_cases av:lo<hi
  ·have k0:(0:Int)≤((lo:Int)+(hi:Int))/2:=by omega
   have k1:((lo:Int)+(hi:Int))/2<(l.length:Int):=by omega
   have k2:(((lo:Int)+(hi:Int))/2).toNat=(lo+hi)/2:=by omega
   obtain⟨x,hx⟩:∃x,l[(lo+hi)/2]?=A x:=⟨_,aA (by omega)⟩;obtain⟨b,aq,cs,ae,_,hb,hR,ab⟩:=At (ad wr aa) hx;subst ae;have HC:=ai _ x wr hx aa;obtain⟨rfl,s0,s1,s2,rfl⟩:=hR;have d0:=ab 0 _ rfl;have d1:=ab 1 _ rfl;have d2:=ab 2 _ rfl;simp only[Nj,aV]at d0 d1 d2;clear ab hx;have H1:=aj.out ((lo+hi)/2);have H2:=ak.out ((lo+hi)/2);generalize cf _=q at HC H1 H2
   by_cases hq:q<0
   ·have aw:(lo+hi)/2<m0:=fJ fun h=>by omega
    clear H1 H2;go_wp2_with(go_fit HC;rintro e W' ⟨rfl,ac⟩)
    go_roundg (hi-((lo+hi)/2+1))
    case measure=>omega
    case rel=>exact⟨(lo+hi)/2+1,hi,by rw[show((lo:Int)+(hi:Int))/2+1=(((lo+hi)/2+1:Nat):Int) by omega],rfl,by omega,an,ap,by omega,Ac aa ac⟩
   ·have ar:m0≤(lo+hi)/2:=fK fun h=>hq (H1 h)
    clear H1 H2;go_wp2_with(go_fit HC;rintro e W' ⟨rfl,ac⟩)
    go_roundg ((lo+hi)/2-lo)
    case measure=>omega
    case rel=>exact⟨lo,(lo+hi)/2,rfl,by rw[show((lo:Int)+(hi:Int))/2=(((lo+hi)/2:Nat):Int) by omega],am,ar,by omega,by omega,Ac aa ac⟩
  ·obtain rfl:m0=lo:=by omega
   obtain rfl:m0=hi:=by omega
   by_cases hn:m0<l.length
   ·have k0:(0:Int)≤(m0:Int):=by omega
    have k1:(m0:Int)<(l.length:Int):=by omega
    obtain⟨x,hx⟩:∃x,l[m0]?=A x:=⟨_,aA (by omega)⟩;obtain⟨b,aq,cs,ae,_,hb,hR,ab⟩:=At (ad wr aa) hx;subst ae;have HC:=ai _ x wr hx aa;obtain⟨rfl,s0,s1,s2,rfl⟩:=hR;have d0:=ab 0 _ rfl;have d1:=ab 1 _ rfl;have d2:=ab 2 _ rfl;simp only[Nj,aV]at d0 d1 d2;clear ab hx;generalize cf m0=q at HC;go_wp2_with(go_fit HC;rintro e W' ⟨rfl,ac⟩);go_ret2;exact⟨_,rfl,Ac aa ac⟩
   ·have k1:¬m0<(l.length:Int):=by omega
    go_wp2;go_ret2
    first|exact⟨_,rfl,aa⟩|exact⟨.inl rfl,aa⟩
theorem Aos (s0 aa:Wd)(s1 s2:Wd)(pb)(w)(hp:w.cell? ⟨pb,0,J⟩=A (.func (.func 107) #[] #[]))(ac:pb<w.heap.size):
  Z M 175 #[aY [H s0,H s1,H s2].toArray,H aa,dO (A ⟨pb,0,J⟩)] w fun e w'=>e=z (O U (F4 s0 aa))∧Below w.heap.size w w':=by
 have ab:=Aq w (S [H s0,H s1,H s2].toArray 86);have ae:=(ab.cell ac).trans hp;have HC:=fun W=>Qr s0 aa W
 generalize F4 s0 aa=r at HC;go_enter Tryz.func175,Tryz.ntmps175;go_wp2_with(first|(go_fit(Ij s0 s1 s2 _);rintro e W1 ⟨rfl,ad⟩)|(go_fit(HC _);rintro e W2 ⟨rfl,rfl⟩));go_ret;exact⟨rfl,Ac ab ad⟩
theorem Aln {α}(X aa ab cx:List α)(hX:X.take (aa.length+ab.length)=aa++ab)(hl:aa.length+cx.length+ab.length≤X.length):
  (bP (bP X (aa.length+cx.length) ab) aa.length cx).take (aa.length+(cx.length+ab.length))=aa++(cx++ab):=by
 have e1:=by
  have:=congrArg (List.take aa.length) hX;rw[bV,aU (by omega),bW]at this;exact this
 have hL:=aS _ _ _ hl;have e2:=by
  have:=congrArg (List.take aa.length) (Tv X (aa.length+cx.length) ab (by omega));rw[bV,aU (by omega),bV,aU (by omega),e1]at this;exact this
 have e3:((bP X (aa.length+cx.length) ab).drop (aa.length+cx.length)).take ab.length=ab:=by
  have:=F7 X (aa.length+cx.length) ab (by omega);rw[←bB (aa.length+cx.length) (bP X (aa.length+cx.length) ab),Tv X _ _ (by omega)]at this;generalize(bP X (aa.length+cx.length) ab).drop (aa.length+cx.length)=D at this⊢;have h3:=congrArg (List.drop (aa.length+cx.length)) this;rw[fN (by simp;omega),dB]at h3;rw[bL (l:=X.take _) (by grind),fN (by simp;omega)]at h3;rw[show aa.length+cx.length+ab.length-(X.take (aa.length+cx.length)).length=ab.length by simp;omega]at h3;exact h3
 rw[bP,e2,dB,bL (by omega),show aa.length+(cx.length+ab.length)-aa.length=cx.length+ab.length by omega,dB,bL (by omega),show cx.length+ab.length-cx.length=ab.length by omega,e3]
theorem Alo {α}(X aa ab cx:List α)(hX:X.take aa.length=aa)(hl:aa.length+cx.length+ab.length≤X.length):
  (bP (bP X aa.length cx) (aa.length+cx.length) ab).take (aa.length+(cx.length+ab.length))=aa++(cx++ab):=by
 have hL:(bP X aa.length cx).length=X.length:=aS _ _ _ (by omega);rw[←Nat.add_assoc,F7 _ _ _ (by omega),F7 _ _ _ (by omega),hX];simp
theorem A3z (cs1 cs2 cx)(n1 n2:Nat)(v:aW)(B vb:Nat)(w:bT)(ho:w.ownsRow B 82 2 v (n1+n2) (cs1++cs2))(h1:cs1.length=n1*2)(h2:cs2.length=n2*2)(hx:cx.length=2)
  (one:∀u∈cs1++cs2,u.oneCell'=N) (ae:∀u∈cx,u.oneCell'=N) (hn:n1+n2≤1000000) (hv:w.heap[vb]?=A (S cx.toArray 82)) (ca:v.ownBlock≠A vb) (hB:B≤w.heap.size):
  Z M 174 #[v,O U n1,K (A ⟨vb,0,J⟩) 1 1] w fun e w'=>∃v',e=z v'∧w'.ownsRow B 82 2 v' (n1+n2+1) (cs1++(cx++cs2))∧Below B w w':=by
 obtain⟨i0,ai,aj,ak,af⟩:=cN Ab1;have av:=aK hv;have aw:∀j u,cx[j]?=A u→w.cell? ((⟨vb,0,J⟩:Addr).add j)=A u:=fun j u hj=>by
  rw[aQ,bH];exact Aa hv (by grind)
 rcases eR n2 with rfl|h0
 ·obtain rfl:=aP (by omega);simp only[fO,aV]at ho hn⊢;have HV:Hid _:=aw;have ax:∀ao cap,v=K ao n1 cap→(ao=J→n1=0∧cap=0)→(∀a,ao=A a→∃g,a=⟨g,0,J⟩)→Z M 174 #[v,O U n1,K (A ⟨vb,0,J⟩) 1 1] w fun e w'=>∃v',e=z v'∧w'.ownsRow B 82 2 v' (n1+1) (cs1++cx)∧Below B w w':=by
   intro ao cap cc cd ce;subst cc;have HO:Hid _:=ho;have fin:∀v' w',w'.ownsRow B 82 2 v' (n1+1) (cs1++cx)→w.grownBy w' (Value.slice ao n1 cap).ownBlock→Below B w w':=fun v' w' _ hg=>(aB _ _).grown hg hB fun k hk=>(ho.lt k hk).1
   clear ho aw;cases ao with
   |none=>
    obtain⟨rfl,rfl⟩:=cd rfl;go_enter cX,cR;go_wp2_with(at_builtin;refine aX _ rfl _ _ 59 rfl B 82 i0 _ 2 40 aM ai aj ak af rfl (by simp) _ _ _ rfl HO.out _ 1 1 cx rfl hx HV.out ae (by decide) (by simp) hB ?_);intro v' w1 aa al _ _;go_wp2;go_ret;exact⟨v',rfl,aa,fin _ _ aa al⟩
   |some a=>
    obtain⟨g,rfl⟩:=ce a rfl
    by_cases cu:cap=n1
    all_goals
     go_enter cX,cR;go_wp2_with(at_builtin;refine aX _ rfl _ _ 59 rfl B 82 i0 _ 2 40 aM ai aj ak af rfl (by decide) _ _ _ rfl HO.out ⟨vb,0,J⟩ 1 1 cx rfl hx HV.out ae (by simp only[aN];omega) (by omega) hB ?_);intro v' w1 aa al _ _;go_wp2;go_ret;exact⟨v',rfl,aa,fin _ _ aa al⟩
  rcases G2 ho with⟨rfl,rfl⟩|⟨g,cap,X,rfl,_,_,_,_,_,_⟩
  ·exact ax J 0 rfl (fun _=>⟨rfl,rfl⟩) (fun a h=>by cases h)
  ·exact ax _ cap rfl (fun h=>by cases h) (fun a h=>by cases h;exact⟨_,rfl⟩)
 ·rcases G2 ho with⟨rfl,hz⟩|⟨g,cap,X,rfl,hBg,hX,hncap,hcapm,hXl,hXt⟩
  ·omega
  have ay:=aK hX;have az:vb≠g:=by rintro rfl;exact ca rfl
  have cv:X.length=cap*2:=hXl;have ba:∀u∈cs2,u.oneCell'=N:=fun u hu=>one u (by simp[hu])
  have ag:∀j u,cs2[j]?=A u→X[n1*2+j]?=A u:=fun j u hj=>by
   have cf:=(aI.1 hj).1;have:(cs1++cs2)[n1*2+j]?=A u:=by rw[←h1,bE (by omega),dT];exact hj
   rw[←hXt,bJ (by omega)]at this;exact this
  simp only[aN]at hcapm;have q1:¬((n1:Int)=((n1+n2:Nat):Int)):=by omega
  have q2:¬(cap=n1):=by omega
  have q3:(n1:Int)≤((n1+n2:Nat):Int):=by omega
  by_cases cg:n1+n2+1≤cap
  ·have bb:∀o lb cb,(callFunc 237 #[K (A ⟨vb,0,J⟩) 1 1,K (A ⟨g,o,J⟩) lb cb]).run M w=.ok (.value (bC aT)) w:=fun o lb cb=>by
    rw[run_callFunc_extern Tryz.func237 (by kernel_rfl) (by kernel_rfl) (by kernel_rfl) (e:=cD #[59,59] #[4]) (by kernel_rfl),
     dV w 59 4 82 aM 2 Tryz.sizeOf82 ⟨vb,0,J⟩ ⟨g,o,J⟩ 1 1 lb cb az 82 82 2 X.length (by simp[cT,hv,hx]) (by simp[cT,hX]) (by omega) (by simp[bI,hv]) (by simp[bI,hv])]
    rfl
   have r2:¬(cap=n1+1):=by omega
   have r3:¬((cap:Int)<((n1+n2:Nat):Int)+1):=by omega
   have r4:(n1:Int)+1≤((n1+n2:Nat):Int)+1:=by omega
   have r5:(n1:Int)≤((n1+n2:Nat):Int)+1:=by omega
   have ch:IntKind.i64.wrap ((n1:Int)+1)=(n1:Int)+1:=by rw[bD];omega
   have bc:(0:Int)≤(n1:Int)+1:=by omega
   have cj:((n1:Int)+1).toNat=n1+1:=by omega
   have am:Hid _:=ag;have ck:Hid _:=bb;have bd:cs2.length=cG (n1+n2+1-n1) (n1+n2+1-(n1+1)) *2:=by simp only[aZ];split<;>omega
   have be:cs2.length=cG (n1+n2+1-n1) (n1+n2-n1) *2:=by simp only[aZ];split<;>omega
   have ab:cx.length=cG 1 (n1+n2+1-n1) *2:=by simp only[aZ];split<;>omega
   have bf:(n1+1) *2+cs2.length≤X.length:=by omega
   have bg:Hid (n1*2+cx.length≤X.length):=(by omega:_≤_);have HM:Hid _:=And.intro bd be;have cl:Hid _:=ab;have an:Hid _:=Aln X cs1 cs2 cx (by rw[h1,h2,←Nat.add_mul];exact hXt) (by omega);have ap:Hid _:=aS X ((n1+1) *2) cs2 bf;clear bd be ab;generalize bh:n1+n2=n at*;have cm:Hid _:=bh;clear hXt ag ho bb bh;go_enter cX,cR;go_wp2_with(simp only[ck.out])
   go_region_law (refine Ps (by rfl) _ _ 59 59 (by rfl) 82 2 aM Sb g ((n1+1) *2) (n-n1) (cap-(n1+1)) ⟨g,n1*2,J⟩ (n+1-n1) (cap-n1) (by simp[cI,cP]) (by simp[cI,cP]) X 82 (by exact hX) cs2 HM.out.2 (fun j u hj=>by rw[aQ];exact Aa (w:=w) hX (by have:=am.out j u hj;simpa using this)) bf ba ?_;intro w2 bi bj)
   have aq:Hid (∀j u,cx[j]?=A u→w2.cell? ((⟨vb,0,J⟩:Addr).add j)=A u):=fun j u hj=>by rw[aQ,bH];exact Aa ((bj.block vb av (fun e=>az (by cases e;rfl))).trans hv) (by simpa using hj)
   have cn:Hid _:=bi;clear bi;obtain⟨w3,cy,ac,ah⟩:=Pr (P:=M) (w:=w2) 59 59 82 2 aM Sb g (n1*2) (n+1-n1) (cap-n1) ⟨vb,0,J⟩ 1 1 _ 82 cn.out cx cl.out aq.out (by rw[ap.out];exact bg.out) ae;have bk:Hid _:=ac;clear ac;go_wp2;go_ret;refine⟨_,rfl,?_,K8 (Cl (Cm _ ((aB _ w).drew)) (Cl bj ah)) hBg hB⟩;have e1:=an.out;rw[h1,hx,h2]at e1;rw[show n1*2+2=(n1+1) *2 by omega]at e1;refine Jm hBg bk.out cg (by simp only[aN];exact hcapm) ?_ ?_
   ·rw[aS _ _ _ (by rw[ap.out];exact bg.out),ap.out];exact hXl
   ·rw[←e1,show n1*2+(2+n2*2)=(n+1) *2 by have:=cm.out;omega]
  ·obtain rfl:cap=n1+n2:=by omega
   have bl:((n1+n2:Nat):Int)+1-(n1:Int)=((n2+1:Nat):Int):=by omega
   have hG:cM w (n1+(n2+1)) (n1+n2) 82≤aN:=grownCap_le_maxLen w (n1+(n2+1)) (n1+n2) _ (by unfold aN;omega);have co:=grownCap_ge w (n1+(n2+1)) (n1+n2) 82;have bm:(dW i0.size n1 (K (A ⟨g,0,J⟩) n1 (n1+n2))).run M w.drew=.ok cs1.toArray w.drew:=by
    rw[ak];exact run_firstCells_some w.drew 2 n1 ⟨g,0,J⟩ n1 (n1+n2) cs1 h1 (fun j u hj=>by
     rw[aQ,bH];have cf:=(aI.1 hj).1;refine Aa hX ?_;grind)
   have ar:∀ty,(eM #[59,3] ty #[K (A ⟨g,0,J⟩) n1 (n1+n2),O U (((n1+n2:Nat):Int)+1-(n1:Int))]).run M w=.ok (K (A ⟨w.heap.size,0,J⟩) (n1+(n2+1)) (cM w (n1+(n2+1)) (n1+n2) 82)) (w.drew.alloc (S (cs1.toArray++aD ((aY #[H ⟨#[]⟩,K J 0 0]):aW).cells (n2+1)++aD ((aY #[H ⟨#[]⟩,K J 0 0]):aW).cells (cM w (n1+(n2+1)) (n1+n2) 82-(n1+(n2+1)))) 82)):=fun ty=>by
    rw[bl];exact dM w 59 3 ty 82 i0 _ _ _ aM bN ai aj _ n1 _ cs1 bm _ (by omega) (by omega) (by omega) (by omega) (by simp only[af];exact aG (bG 40 (show n2+1≤1000001 by omega)) (by decide)) (by simp only[af];exact growslice_fits (by omega) (aG (bG 40 (show n1+(n2+1)≤1000001 by omega)) (by decide)))
   generalize cz:cM w (n1+(n2+1)) (n1+n2) 82=G at*;obtain⟨Y,hY⟩:∃Y:List aW,Y.toArray=cs1.toArray++aD ((aY #[H ⟨#[]⟩,K J 0 0]):aW).cells (n2+1)++aD ((aY #[H ⟨#[]⟩,K J 0 0]):aW).cells (G-(n1+(n2+1))):=⟨_,dX⟩;rw[←hY]at ar;have bn:Y.length=G*2:=by
    have:=congrArg Array.size hY;rw[cA,bY,bY]at this;simp only[aD,fP,eV,cA,Value.cells]at this;rw[this,h1];simp
    try omega
   have bo:Y.take cs1.length=cs1:=by
    have:=congrArg Array.toList hY;simp only[eF]at this;rw[this,eS,bW]
   generalize au:(w.drew.alloc (S Y.toArray 82))=W1 at ar;have bc:W1.heap[w.heap.size]?=A (S Y.toArray 82):=by rw[←au];exact Ab w.drew _
   have ad:Below w.heap.size w W1:=by rw[←au];exact((aB _ w).drew).alloc (aJ _) _
   have aq:∀j u,cx[j]?=A u→W1.cell? ((⟨vb,0,J⟩:Addr).add j)=A u:=fun j u hj=>by rw[aQ,bH];exact Aa ((ad.block vb av).trans hv) (by simpa using hj)
   have ab:cx.length=cG 1 (n1+(n2+1)-n1) *2:=by simp only[aZ];split<;>omega
   obtain⟨w3,da,ac,ah⟩:=Pr (P:=M) (w:=W1) 59 59 82 2 aM Sb w.heap.size (n1*2) (n1+(n2+1)-n1) (G-n1) ⟨vb,0,J⟩ 1 1 _ 82 bc cx ab aq (by omega) ae;have bp:(bP Y (n1*2) cx).length=Y.length:=aS _ _ _ (by omega);have bq:cs2.length=cG (n1+n2-n1) (n1+(n2+1)-(n1+1)) *2:=by simp only[aZ];split<;>omega
   have an:Hid _:=Alo Y cs1 cs2 cx bo (by omega);have ch:IntKind.i64.wrap (n1+1)=n1+1:=by rw[bD];omega
   have db:(0:Int)≤n1+1:=by omega
   have cj:((n1:Int)+1).toNat=n1+1:=by omega
   have s1:((n1+n2:Nat):Int)<((n1+n2:Nat):Int)+1:=by omega
   have s2:¬(G=n1):=by omega
   have s3:¬(G=n1+1):=by omega
   have s4:n1≤((n1+(n2+1):Nat):Int):=by omega
   have s5:n1+1≤((n1+(n2+1):Nat):Int):=by omega
   have bt:(n1+1) *2+cs2.length≤(bP Y (n1*2) cx).length:=by omega
   have am:Hid _:=ag;have cp:Hid _:=bq;have bu:Hid _:=bt;have bk:Hid _:=ac;have cq:Hid (n1+n2+1≤G):=(by omega:_≤_);have dc:Hid _:=bp.trans bn;clear ab bq bt ag ac hXt bo bm ho au hY bp bn co;generalize bv:n1+(n2+1)=N1 at*;generalize bw:n1+n2=n at*;have bx:Hid _:=bw;have cr:Hid _:=bv;clear bw bv bl;go_enter cX,cR;go_wp2_with(at_builtin;refine eD _ rfl _ _ _ _ rfl _ _ rfl rfl _ _ (ar _) ?_)
   go_region_law (refine Ps (by rfl) _ _ 59 59 (by rfl) 82 2 aM Sb w.heap.size _ _ (G-(n1+1)) ⟨g,n1*2,J⟩ _ (n-n1) (by simp[cI,cP]) (by simp[cI,cP]) _ 82 (by assumption) cs2 cp.out (fun j u hj=>by rw[aQ];exact Aa (((ah.block g (aC ay ad.size) (fun e=>by grind)).trans (ad.block g ay)).trans hX) (by have:=am.out j u hj;grind)) bu.out ba ?_;intro w4 bz cs)
   have ct:Hid _:=bz;clear bz;go_wp2;go_ret;refine⟨_,rfl,?_,(ad.trans (K8 (Cl ah (Cl (Cm _ ((aB _ w3).drew)) cs)) (aJ _) ad.size)).mono hB⟩;have e1:=an.out;rw[h1,hx,h2]at e1;rw[show n1*2+2=(n1+1) *2 by omega]at e1;have hN:N1=n+1:=by have a1:=bx.out;have a2:=cr.out;omega
   subst hN;refine Jm hB ct.out cq.out hG ?_ ?_
   ·rw[aS _ _ _ bu.out];assumption
   ·rw[←e1,show n1*2+(2+n2*2)=(n+1) *2 by have:=bx.out;omega]
theorem A30 (cs1 cs2 cx)(n1 n2:Nat)(v:aW)(B vb:Nat)(w:bT)(ho:w.ownsRow B 86 3 v (n1+n2) (cs1++cs2))(h1:cs1.length=n1*3)(h2:cs2.length=n2*3)(hx:cx.length=3)
  (one:∀u∈cs1++cs2,u.oneCell'=N) (ae:∀u∈cx,u.oneCell'=N) (hn:n1+n2≤1000000) (hv:w.heap[vb]?=A (S cx.toArray 86)) (ca:v.ownBlock≠A vb) (hB:B≤w.heap.size):
  Z M 177 #[v,O U n1,K (A ⟨vb,0,J⟩) 1 1] w fun e w'=>∃v',e=z v'∧w'.ownsRow B 86 3 v' (n1+n2+1) (cs1++(cx++cs2))∧Below B w w':=by
 obtain⟨i0,ah,ai,aj,ak⟩:=cN Ab2;have av:=aK hv;have aw:∀j u,cx[j]?=A u→w.cell? ((⟨vb,0,J⟩:Addr).add j)=A u:=fun j u hj=>by
  rw[aQ,bH];exact Aa hv (by grind)
 rcases eR n2 with rfl|h0
 ·obtain rfl:=aP (by omega);simp only[fO,aV]at ho hn⊢;have HV:Hid _:=aw;have ax:∀ao cap,v=K ao n1 cap→(ao=J→n1=0∧cap=0)→(∀a,ao=A a→∃g,a=⟨g,0,J⟩)→Z M 177 #[v,O U n1,K (A ⟨vb,0,J⟩) 1 1] w fun e w'=>∃v',e=z v'∧w'.ownsRow B 86 3 v' (n1+1) (cs1++cx)∧Below B w w':=by
   intro ao cap cc cd ce;subst cc;have HO:Hid _:=ho;have fin:∀v' w',w'.ownsRow B 86 3 v' (n1+1) (cs1++cx)→w.grownBy w' (Value.slice ao n1 cap).ownBlock→Below B w w':=fun v' w' _ hg=>(aB _ _).grown hg hB fun k hk=>(ho.lt k hk).1
   clear ho aw;cases ao with
   |none=>
    obtain⟨rfl,rfl⟩:=cd rfl;go_enter cW,cQ;go_wp2_with(at_builtin;refine aX _ rfl _ _ 60 rfl B 86 i0 _ 3 48 aL ah ai aj ak rfl (by simp) _ _ _ rfl HO.out _ 1 1 cx rfl hx HV.out ae (by decide) (by simp) hB ?_);intro v' w1 aa al _ _;go_wp2;go_ret;exact⟨v',rfl,aa,fin _ _ aa al⟩
   |some a=>
    obtain⟨g,rfl⟩:=ce a rfl
    by_cases cu:cap=n1
    all_goals
     go_enter cW,cQ;go_wp2_with(at_builtin;refine aX _ rfl _ _ 60 rfl B 86 i0 _ 3 48 aL ah ai aj ak rfl (by decide) _ _ _ rfl HO.out ⟨vb,0,J⟩ 1 1 cx rfl hx HV.out ae (by simp only[aN];omega) (by omega) hB ?_);intro v' w1 aa al _ _;go_wp2;go_ret;exact⟨v',rfl,aa,fin _ _ aa al⟩
  rcases G2 ho with⟨rfl,rfl⟩|⟨g,cap,X,rfl,_,_,_,_,_,_⟩
  ·exact ax J 0 rfl (fun _=>⟨rfl,rfl⟩) (fun a h=>by cases h)
  ·exact ax _ cap rfl (fun h=>by cases h) (fun a h=>by cases h;exact⟨_,rfl⟩)
 ·rcases G2 ho with⟨rfl,hz⟩|⟨g,cap,X,rfl,hBg,hX,hncap,hcapm,hXl,hXt⟩
  ·omega
  have ay:=aK hX;have az:vb≠g:=by rintro rfl;exact ca rfl
  have cv:X.length=cap*3:=hXl;have ba:∀u∈cs2,u.oneCell'=N:=fun u hu=>one u (by simp[hu])
  have af:∀j u,cs2[j]?=A u→X[n1*3+j]?=A u:=fun j u hj=>by
   have cf:=(aI.1 hj).1;have:(cs1++cs2)[n1*3+j]?=A u:=by rw[←h1,bE (by omega),dT];exact hj
   rw[←hXt,bJ (by omega)]at this;exact this
  simp only[aN]at hcapm;have q1:¬((n1:Int)=((n1+n2:Nat):Int)):=by omega
  have q2:¬(cap=n1):=by omega
  have q3:(n1:Int)≤((n1+n2:Nat):Int):=by omega
  by_cases cg:n1+n2+1≤cap
  ·have bb:∀o lb cb,(callFunc 239 #[K (A ⟨vb,0,J⟩) 1 1,K (A ⟨g,o,J⟩) lb cb]).run M w=.ok (.value (bC aT)) w:=fun o lb cb=>by
    rw[run_callFunc_extern Tryz.func239 (by kernel_rfl) (by kernel_rfl) (by kernel_rfl) (e:=cD #[60,60] #[4]) (by kernel_rfl),
     dV w 60 4 86 aL 3 Tryz.sizeOf86 ⟨vb,0,J⟩ ⟨g,o,J⟩ 1 1 lb cb az 86 86 3 X.length (by simp[cT,hv,hx]) (by simp[cT,hX]) (by omega) (by simp[bI,hv]) (by simp[bI,hv])]
    rfl
   have r2:¬(cap=n1+1):=by omega
   have r3:¬((cap:Int)<((n1+n2:Nat):Int)+1):=by omega
   have r4:(n1:Int)+1≤((n1+n2:Nat):Int)+1:=by omega
   have r5:(n1:Int)≤((n1+n2:Nat):Int)+1:=by omega
   have ch:IntKind.i64.wrap ((n1:Int)+1)=(n1:Int)+1:=by rw[bD];omega
   have bc:(0:Int)≤(n1:Int)+1:=by omega
   have cj:((n1:Int)+1).toNat=n1+1:=by omega
   have am:Hid _:=af;have ck:Hid _:=bb;have bd:cs2.length=cG (n1+n2+1-n1) (n1+n2+1-(n1+1)) *3:=by simp only[aZ];split<;>omega
   have be:cs2.length=cG (n1+n2+1-n1) (n1+n2-n1) *3:=by simp only[aZ];split<;>omega
   have ab:cx.length=cG 1 (n1+n2+1-n1) *3:=by simp only[aZ];split<;>omega
   have bf:(n1+1) *3+cs2.length≤X.length:=by omega
   have bg:Hid (n1*3+cx.length≤X.length):=(by omega:_≤_);have HM:Hid _:=And.intro bd be;have cl:Hid _:=ab;have an:Hid _:=Aln X cs1 cs2 cx (by rw[h1,h2,←Nat.add_mul];exact hXt) (by omega);have ap:Hid _:=aS X ((n1+1) *3) cs2 bf;clear bd be ab;generalize bh:n1+n2=n at*;have cm:Hid _:=bh;clear hXt af ho bb bh;go_enter cW,cQ;go_wp2_with(simp only[ck.out])
   go_region_law (refine Ps (by rfl) _ _ 60 60 (by rfl) 86 3 aL Sc g ((n1+1) *3) (n-n1) (cap-(n1+1)) ⟨g,n1*3,J⟩ (n+1-n1) (cap-n1) (by simp[cI,cP]) (by simp[cI,cP]) X 86 (by exact hX) cs2 HM.out.2 (fun j u hj=>by rw[aQ];exact Aa (w:=w) hX (by have:=am.out j u hj;simpa using this)) bf ba ?_;intro w2 bi bj)
   have aq:Hid (∀j u,cx[j]?=A u→w2.cell? ((⟨vb,0,J⟩:Addr).add j)=A u):=fun j u hj=>by rw[aQ,bH];exact Aa ((bj.block vb av (fun e=>az (by cases e;rfl))).trans hv) (by simpa using hj)
   have cn:Hid _:=bi;clear bi;obtain⟨w3,cy,ac,ag⟩:=Pr (P:=M) (w:=w2) 60 60 86 3 aL Sc g (n1*3) (n+1-n1) (cap-n1) ⟨vb,0,J⟩ 1 1 _ 86 cn.out cx cl.out aq.out (by rw[ap.out];exact bg.out) ae;have bk:Hid _:=ac;clear ac;go_wp2;go_ret;refine⟨_,rfl,?_,K8 (Cl (Cm _ ((aB _ w).drew)) (Cl bj ag)) hBg hB⟩;have e1:=an.out;rw[h1,hx,h2]at e1;rw[show n1*3+3=(n1+1) *3 by omega]at e1;refine Jm hBg bk.out cg (by simp only[aN];exact hcapm) ?_ ?_
   ·rw[aS _ _ _ (by rw[ap.out];exact bg.out),ap.out];exact hXl
   ·rw[←e1,show n1*3+(3+n2*3)=(n+1) *3 by have:=cm.out;omega]
  ·obtain rfl:cap=n1+n2:=by omega
   have bl:((n1+n2:Nat):Int)+1-(n1:Int)=((n2+1:Nat):Int):=by omega
   have hG:cM w (n1+(n2+1)) (n1+n2) 86≤aN:=grownCap_le_maxLen w (n1+(n2+1)) (n1+n2) _ (by unfold aN;omega);have co:=grownCap_ge w (n1+(n2+1)) (n1+n2) 86;have bm:(dW i0.size n1 (K (A ⟨g,0,J⟩) n1 (n1+n2))).run M w.drew=.ok cs1.toArray w.drew:=by
    rw[aj];exact run_firstCells_some w.drew 3 n1 ⟨g,0,J⟩ n1 (n1+n2) cs1 h1 (fun j u hj=>by
     rw[aQ,bH];have cf:=(aI.1 hj).1;refine Aa hX ?_;grind)
   have ar:∀ty,(eM #[60,3] ty #[K (A ⟨g,0,J⟩) n1 (n1+n2),O U (((n1+n2:Nat):Int)+1-(n1:Int))]).run M w=.ok (K (A ⟨w.heap.size,0,J⟩) (n1+(n2+1)) (cM w (n1+(n2+1)) (n1+n2) 86)) (w.drew.alloc (S (cs1.toArray++aD ((aY #[H ⟨#[]⟩,H ⟨#[]⟩,H ⟨#[]⟩]):aW).cells (n2+1)++aD ((aY #[H ⟨#[]⟩,H ⟨#[]⟩,H ⟨#[]⟩]):aW).cells (cM w (n1+(n2+1)) (n1+n2) 86-(n1+(n2+1)))) 86)):=fun ty=>by
    rw[bl];exact dM w 60 3 ty 86 i0 _ _ _ aL bN ah ai _ n1 _ cs1 bm _ (by omega) (by omega) (by omega) (by omega) (by grind) (by simp only[ak];exact growslice_fits (by omega) (aG (bG 48 (show n1+(n2+1)≤1000001 by omega)) (by decide)))
   generalize cz:cM w (n1+(n2+1)) (n1+n2) 86=G at*;obtain⟨Y,hY⟩:∃Y:List aW,Y.toArray=cs1.toArray++aD ((aY #[H ⟨#[]⟩,H ⟨#[]⟩,H ⟨#[]⟩]):aW).cells (n2+1)++aD ((aY #[H ⟨#[]⟩,H ⟨#[]⟩,H ⟨#[]⟩]):aW).cells (G-(n1+(n2+1))):=⟨_,dX⟩;rw[←hY]at ar;have bn:Y.length=G*3:=by
    have:=congrArg Array.size hY;rw[cA,bY,bY]at this;simp only[aD,fP,eV,cA,Value.cells]at this;rw[this,h1];simp
    try omega
   have bo:Y.take cs1.length=cs1:=by
    have:=congrArg Array.toList hY;simp only[eF]at this;rw[this,eS,bW]
   generalize au:(w.drew.alloc (S Y.toArray 86))=W1 at ar;have bc:W1.heap[w.heap.size]?=A (S Y.toArray 86):=by rw[←au];exact Ab w.drew _
   have ad:Below w.heap.size w W1:=by rw[←au];exact((aB _ w).drew).alloc (aJ _) _
   have aq:∀j u,cx[j]?=A u→W1.cell? ((⟨vb,0,J⟩:Addr).add j)=A u:=fun j u hj=>by rw[aQ,bH];exact Aa ((ad.block vb av).trans hv) (by simpa using hj)
   have ab:cx.length=cG 1 (n1+(n2+1)-n1) *3:=by simp only[aZ];split<;>omega
   obtain⟨w3,da,ac,ag⟩:=Pr (P:=M) (w:=W1) 60 60 86 3 aL Sc w.heap.size (n1*3) (n1+(n2+1)-n1) (G-n1) ⟨vb,0,J⟩ 1 1 _ 86 bc cx ab aq (by omega) ae;have bp:(bP Y (n1*3) cx).length=Y.length:=aS _ _ _ (by omega);have bq:cs2.length=cG (n1+n2-n1) (n1+(n2+1)-(n1+1)) *3:=by simp only[aZ];split<;>omega
   have an:Hid _:=Alo Y cs1 cs2 cx bo (by omega);have ch:IntKind.i64.wrap (n1+1)=n1+1:=by rw[bD];omega
   have db:(0:Int)≤n1+1:=by omega
   have cj:((n1:Int)+1).toNat=n1+1:=by omega
   have s1:((n1+n2:Nat):Int)<((n1+n2:Nat):Int)+1:=by omega
   have s2:¬(G=n1):=by omega
   have s3:¬(G=n1+1):=by omega
   have s4:n1≤((n1+(n2+1):Nat):Int):=by omega
   have s5:n1+1≤((n1+(n2+1):Nat):Int):=by omega
   have bt:(n1+1) *3+cs2.length≤(bP Y (n1*3) cx).length:=by omega
   have am:Hid _:=af;have cp:Hid _:=bq;have bu:Hid _:=bt;have bk:Hid _:=ac;have cq:Hid (n1+n2+1≤G):=(by omega:_≤_);have dc:Hid _:=bp.trans bn;clear ab bq bt af ac hXt bo bm ho au hY bp bn co;generalize bv:n1+(n2+1)=N1 at*;generalize bw:n1+n2=n at*;have bx:Hid _:=bw;have cr:Hid _:=bv;clear bw bv bl;go_enter cW,cQ;go_wp2_with(at_builtin;refine eD _ rfl _ _ _ _ rfl _ _ rfl rfl _ _ (ar _) ?_)
   go_region_law (refine Ps (by rfl) _ _ 60 60 (by rfl) 86 3 aL Sc w.heap.size _ _ (G-(n1+1)) ⟨g,n1*3,J⟩ _ (n-n1) (by simp[cI,cP]) (by simp[cI,cP]) _ 86 (by assumption) cs2 cp.out (fun j u hj=>by rw[aQ];exact Aa (((ag.block g (aC ay ad.size) (fun e=>by grind)).trans (ad.block g ay)).trans hX) (by have:=am.out j u hj;grind)) bu.out ba ?_;intro w4 bz cs)
   have ct:Hid _:=bz;clear bz;go_wp2;go_ret;refine⟨_,rfl,?_,(ad.trans (K8 (Cl ag (Cl (Cm _ ((aB _ w3).drew)) cs)) (aJ _) ad.size)).mono hB⟩;have e1:=an.out;rw[h1,hx,h2]at e1;rw[show n1*3+3=(n1+1) *3 by omega]at e1;have hN:N1=n+1:=by have a1:=bx.out;have a2:=cr.out;omega
   subst hN;refine Jm hB ct.out cq.out hG ?_ ?_
   ·rw[aS _ _ _ bu.out];assumption
   ·rw[←e1,show n1*3+(3+n2*3)=(n+1) *3 by have:=bx.out;omega]
theorem Nk {w:bT}{B base}{e}{k n}{v}{xs}(h:w.ownsRow B e k v n xs)(hb:base≤B):w.ownsRow base e k v n xs:=by
 refine⟨h.1,?_⟩;rcases h.2 with h|⟨g,cap,cur,h1,h2,h3⟩
 ·grind
 ·exact .inr ⟨g,cap,cur,h1,aG hb h2,h3⟩
theorem Asm (CS1 CS2)(nm:List aW→Wd)(sv)(s0:Wd)(a1)(n1 c1)(w)(h:IsL Ni (fun _=>True) w sv (CS1++CS2))(af:∀c∈CS1++CS2,Lo c)(ap:∀c∈CS1++CS2,∀s r,c=H s::r→nm c=s)
  (h1:∀c∈CS1,bA (nm c).toList s0.toList=N) (h2:∀c∈CS2,bA (nm c).toList s0.toList=aT) (hl:(CS1++CS2).length≤1000000):
  Z M 104 #[sv,aY [H s0,K a1 n1 c1].toArray,.func (.func 105) #[] #[]] w fun e w'=>∃v,e=z v∧w'.ownsRow w.heap.size 82 2 v (CS1.length+CS2.length+1) (CS1.flatten++([H s0,K a1 n1 c1]++CS2.flatten))∧Below w.heap.size w w':=by
 obtain⟨ao,c,rfl⟩:=h.shape;obtain⟨ai,B4,B5,-⟩:=al2 w (S [H s0,K a1 n1 c1].toArray 82) (S #[.func (.func 105) #[] #[]] 156);generalize hW:(w.alloc _).alloc _=W at ai B4 B5;have aj:(CS1++CS2).flatten=CS1.flatten++CS2.flatten:=bQ;have ak:=fun c hc=>Ahi (af c hc)
 have bb:CS1.flatten.length=CS1.length*2:=Gv fun c hc=>ak c (by grind)
 have bc:CS2.flatten.length=CS2.length*2:=Gv fun c hc=>ak c (by grind)
 have al:∀u∈CS1.flatten++CS2.flatten,u.oneCell'=N:=fun u hu=>by
  rw[←aj]at hu;obtain⟨c,hc,hu⟩:=fB.1 hu;exact Ahj (af c hc) u hu
 have aq:∀V,Below _ w V→Bq _ 2 V _ _ _:=fun V hV=>by
  obtain⟨cs,hr,ha⟩:=h.keep (Ai hV);obtain⟨CS,rfl,he,hR⟩:=Uq ha;have bd:=by
   apply fD he;intro i q1 q2;exact(hR i _ _ (aA q2) (aA q1)).1
  rw[bd,aj]at hr;exact hr
 have HS:=fun V (hV:Below _ w V) hc (ar:w.heap.size+1<V.heap.size)=>Ave _ ao _ c _ s0 (fun i=>F4 _ s0) CS1.length V (fun V' ag=>h.keep (Ai (hV.trans (ag.mono hV.size)))) (by simp)
  (fun t ht=>by
   have hm:(CS1++CS2).getD t []∈CS1:=by rw[aR,dK ht,aA ht];exact cH ht
   show F4 _ _<0;unfold F4;rw[if_pos (h1 _ hm)];decide)
  (fun t ht be=>by
   have au:t-CS1.length<CS2.length:=by rw[bX]at be;omega
   have hm:(CS1++CS2).getD t []∈CS2:=by rw[aR,bE ht,aA au];exact cH au
   show¬F4 _ _<0;unfold F4;rw[if_neg (by rw[h2 _ hm];decide)];split<;>decide) hl
  (fun i cs V' hi ag=>by
   obtain⟨r0,a1,n1,c1,rfl⟩:=af cs (aE hi);refine(Aor r0 s0 a1 n1 c1 (w.heap.size+1) V' ((ag.cell (p:=⟨w.heap.size+1,0,J⟩) ar).trans hc) (aC ar ag.size)).mono ?_;rintro e bl ⟨rfl,hb⟩;refine⟨?_,hb⟩;simp only[aR,hi,eL];rw[ap _ (aE hi) r0 _ rfl])
 have ah:=fun V hV=>Sd _ _ _ _ V (aq V hV) al (by omega)
 have bf:(CS1++CS2).length=CS1.length+CS2.length:=bX;have av:=fun v (B vb:Nat) V ho hv bg hB=>A3z _ _ [H s0,K a1 n1 c1] _ _ v B vb V ho bb bc rfl al (by simp[bK]) (by omega) hv bg hB
 rw[bf]at HS ah⊢;have HW:Hid _:=hW;have aw:=aK B5;clear hW aq h aj al af ap h1 h2 ak;have cB:=Aa B5 (j:=0) (u:=.func _ #[] #[]) rfl;have d0:=Aa B4 (j:=0) (u:=H s0) rfl;have d1:=Aa B4 (j:=1) (u:=K a1 n1 c1) rfl;go_enter Tryz.func104,Tryz.ntmps104;go_upto_region 1 with fail;rw[HW.out];go_wp2_with(first
  |(go_fit(Ii s0 a1 n1 c1 _);rintro e W1 ⟨rfl,ab⟩;have ax:=HS W1 (Ac ai ab) ((ab.cell aw).trans cB) (aC aw ab.size))
  |(go_fit ax;rintro e V1 ⟨bm,rfl,ay⟩))
 have aa:=Ac ai (Ac ab ay);have BV:=(ay.block _ (aC (aK B4) ab.size)).trans ((ab.block _ (aK B4)).trans B4);have KS:Hid (∀V,Below _ V1 V→V.cell? ⟨_,0,J⟩=A (H s0)∧V.cell? ⟨_,1,J⟩=A (K a1 n1 c1)):=fun V hV=>by
  have B:=(hV.block _ (aK BV)).trans BV;exact⟨Aa B rfl,Aa B rfl⟩
 have y0:=KS.out _ (aB _ _).drew;have y4:=KS.out (V1.drew.alloc (S [H s0,K a1 n1 c1].toArray 82)) ((aB _ V1).drew.alloc (aJ _) _);have y5:=KS.out (V1.alloc (S [H s0,K a1 n1 c1].toArray 82)).drew ((aB _ V1).alloc (aJ _) _).drew;have hA:=aa.drew;have bh:Below _ w (V1.alloc (S [H s0,K a1 n1 c1].toArray 82)).drew:=(aa.alloc aa.size _).drew;have az:=ah _ hA;have ba:=ah _ bh;have bi:V1.drew.heap.size=V1.heap.size:=rfl;have bj:(V1.alloc (S [H s0,K a1 n1 c1].toArray 82)).drew.heap.size=V1.heap.size+1:=cY _ _;rw[bi]at az;rw[bj]at ba;have bk:(V1.alloc _).drew.heap[V1.heap.size]?=A (S [H s0,K a1 n1 c1].toArray 82):=Ab V1 _;clear ah HS ax
 go_region_held3(fun V=>V.cell? ⟨w.heap.size,0,J⟩=A (H s0)∧V.cell? ⟨w.heap.size,1,J⟩=A (K a1 n1 c1))
  (with_reducible omega)
  (first
   |(go_at_call 27;refine az.mono ?_;rintro e w2 ⟨v,rfl,ac,ad⟩;have hz:=(aB _ _).drew.trans ad;have y1:=KS.out _ hz;have y2:=KS.out _ (hz.alloc hz.size (S [H s0,K a1 n1 c1].toArray 82));have HI:=av v _ _ _ (Ak ac (Aq _ _)) (Ab _ _) (fun hh=>by have:=(ac.lt _ hh).2;omega) (aG hz.size (by simp)))
   |(go_at_call 27;refine ba.mono ?_;rintro e w2 ⟨v,rfl,ac,ad⟩;have hz:=((aB _ _).alloc (aJ _) _).drew.trans (ad.mono (dI _));have y1:=KS.out _ hz;have HI:=av v _ _ w2 ac ((ad.block _ (fI _)).trans bk) (fun hh=>by have:=(ac.lt _ hh).1;omega) (by have:=ad.size;omega))
   |(go_at_call 174;refine HI.mono ?_;rintro e w3 ⟨v3,rfl,am,an⟩;have ae:=(hz.alloc hz.size _).trans (an.mono (aJ _));have y3:=KS.out _ ae)
   |(go_at_call 174;refine HI.mono ?_;rintro e w3 ⟨v3,rfl,am,an⟩;have ae:=hz.trans (an.mono (dI _));have y3:=KS.out _ ae))
 ·go_wp2;go_ret;exact⟨_,rfl,Nk am aa.size,aa.trans (ae.mono aa.size)⟩
 ·go_wp2;go_ret;exact⟨_,rfl,Nk am (eZ aa.size),aa.trans (ae.mono aa.size)⟩
theorem Asn (CS1 CS2)(nm:List aW→Wd)(sv)(s0:Wd)(s1 s2:Wd)(w)(h:IsL Nj (fun _=>True) w sv (CS1++CS2))(af:∀c∈CS1++CS2,Mf c)(ap:∀c∈CS1++CS2,∀s r,c=H s::r→nm c=s)
  (h1:∀c∈CS1,bA (nm c).toList s0.toList=N) (h2:∀c∈CS2,bA (nm c).toList s0.toList=aT) (hl:(CS1++CS2).length≤1000000):
  Z M 106 #[sv,aY [H s0,H s1,H s2].toArray,.func (.func 107) #[] #[]] w fun e w'=>∃v,e=z v∧w'.ownsRow w.heap.size 86 3 v (CS1.length+CS2.length+1) (CS1.flatten++([H s0,H s1,H s2]++CS2.flatten))∧Below w.heap.size w w':=by
 obtain⟨ao,c,rfl⟩:=h.shape;obtain⟨ai,B4,B5,-⟩:=al2 w (S [H s0,H s1,H s2].toArray 86) (S #[.func (.func 107) #[] #[]] 158);generalize hW:(w.alloc _).alloc _=W at ai B4 B5;have aj:(CS1++CS2).flatten=CS1.flatten++CS2.flatten:=bQ;have ak:=fun c hc=>Ahk (af c hc)
 have bb:CS1.flatten.length=CS1.length*3:=Gv fun c hc=>ak c (by grind)
 have bc:CS2.flatten.length=CS2.length*3:=Gv fun c hc=>ak c (by grind)
 have al:∀u∈CS1.flatten++CS2.flatten,u.oneCell'=N:=fun u hu=>by
  rw[←aj]at hu;obtain⟨c,hc,hu⟩:=fB.1 hu;exact Ahl (af c hc) u hu
 have aq:∀V,Below _ w V→Bq _ 3 V _ _ _:=fun V hV=>by
  obtain⟨cs,hr,ha⟩:=h.keep (Ai hV);obtain⟨CS,rfl,he,hR⟩:=Uq ha;have bd:=by
   apply fD he;intro i q1 q2;exact(hR i _ _ (aA q2) (aA q1)).1
  rw[bd,aj]at hr;exact hr
 have HS:=fun V (hV:Below _ w V) hc (ar:w.heap.size+1<V.heap.size)=>Avf _ ao _ c _ s0 (fun i=>F4 _ s0) CS1.length V (fun V' ag=>h.keep (Ai (hV.trans (ag.mono hV.size)))) (by simp)
  (fun t ht=>by
   have hm:(CS1++CS2).getD t []∈CS1:=by rw[aR,dK ht,aA ht];exact cH ht
   show F4 _ _<0;unfold F4;rw[if_pos (h1 _ hm)];decide)
  (fun t ht be=>by
   have au:t-CS1.length<CS2.length:=by rw[bX]at be;omega
   have hm:(CS1++CS2).getD t []∈CS2:=by rw[aR,bE ht,aA au];exact cH au
   show¬F4 _ _<0;unfold F4;rw[if_neg (by rw[h2 _ hm];decide)];split<;>decide) hl
  (fun i cs V' hi ag=>by
   obtain⟨r0,s1,s2,rfl⟩:=af cs (aE hi);refine(Aos r0 s0 s1 s2 (w.heap.size+1) V' ((ag.cell (p:=⟨w.heap.size+1,0,J⟩) ar).trans hc) (aC ar ag.size)).mono ?_;rintro e bl ⟨rfl,hb⟩;refine⟨?_,hb⟩;simp only[aR,hi,eL];rw[ap _ (aE hi) r0 _ rfl])
 have ah:=fun V hV=>Se _ _ _ _ V (aq V hV) al (by omega)
 have bf:(CS1++CS2).length=CS1.length+CS2.length:=bX;have av:=fun v (B vb:Nat) V ho hv bg hB=>A30 _ _ [H s0,H s1,H s2] _ _ v B vb V ho bb bc rfl al (by simp[bK]) (by omega) hv bg hB
 rw[bf]at HS ah⊢;have HW:Hid _:=hW;have aw:=aK B5;clear hW aq h aj al af ap h1 h2 ak;have cB:=Aa B5 (j:=0) (u:=.func _ #[] #[]) rfl;have d0:=Aa B4 (j:=0) (u:=H s0) rfl;have d1:=Aa B4 (j:=1) (u:=H s1) rfl;have d2:=Aa B4 (j:=2) (u:=H s2) rfl;go_enter Tryz.func106,Tryz.ntmps106;go_upto_region 1 with fail;rw[HW.out];go_wp2_with(first
  |(go_fit(Ij s0 s1 s2 _);rintro e W1 ⟨rfl,ab⟩;have ax:=HS W1 (Ac ai ab) ((ab.cell aw).trans cB) (aC aw ab.size))
  |(go_fit ax;rintro e V1 ⟨bm,rfl,ay⟩))
 have aa:=Ac ai (Ac ab ay);have BV:=(ay.block _ (aC (aK B4) ab.size)).trans ((ab.block _ (aK B4)).trans B4);have KS:Hid (∀V,Below _ V1 V→V.cell? ⟨_,0,J⟩=A (H s0)∧V.cell? ⟨_,1,J⟩=A (H s1)∧V.cell? ⟨_,2,J⟩=A (H s2)):=fun V hV=>by
  have B:=(hV.block _ (aK BV)).trans BV;exact⟨Aa B rfl,Aa B rfl,Aa B rfl⟩
 have y0:=KS.out _ (aB _ _).drew;have y4:=KS.out (V1.drew.alloc (S [H s0,H s1,H s2].toArray 86)) ((aB _ V1).drew.alloc (aJ _) _);have y5:=KS.out (V1.alloc (S [H s0,H s1,H s2].toArray 86)).drew ((aB _ V1).alloc (aJ _) _).drew;have hA:=aa.drew;have bh:Below _ w (V1.alloc (S [H s0,H s1,H s2].toArray 86)).drew:=(aa.alloc aa.size _).drew;have az:=ah _ hA;have ba:=ah _ bh;have bi:V1.drew.heap.size=V1.heap.size:=rfl;have bj:(V1.alloc (S [H s0,H s1,H s2].toArray 86)).drew.heap.size=V1.heap.size+1:=cY _ _;rw[bi]at az;rw[bj]at ba;have bk:(V1.alloc _).drew.heap[V1.heap.size]?=A (S [H s0,H s1,H s2].toArray 86):=Ab V1 _;clear ah HS ax
 go_region_held3(fun V=>V.cell? ⟨w.heap.size,0,J⟩=A (H s0)∧V.cell? ⟨w.heap.size,1,J⟩=A (H s1)∧V.cell? ⟨w.heap.size,2,J⟩=A (H s2))
  (with_reducible omega)
  (first
   |(go_at_call 29;refine az.mono ?_;rintro e w2 ⟨v,rfl,ac,ad⟩;have hz:=(aB _ _).drew.trans ad;have y1:=KS.out _ hz;have y2:=KS.out _ (hz.alloc hz.size (S [H s0,H s1,H s2].toArray 86));have HI:=av v _ _ _ (Ak ac (Aq _ _)) (Ab _ _) (fun hh=>by have:=(ac.lt _ hh).2;omega) (aG hz.size (by simp)))
   |(go_at_call 29;refine ba.mono ?_;rintro e w2 ⟨v,rfl,ac,ad⟩;have hz:=((aB _ _).alloc (aJ _) _).drew.trans (ad.mono (dI _));have y1:=KS.out _ hz;have HI:=av v _ _ w2 ac ((ad.block _ (fI _)).trans bk) (fun hh=>by have:=(ac.lt _ hh).1;omega) (by have:=ad.size;omega))
   |(go_at_call 177;refine HI.mono ?_;rintro e w3 ⟨v3,rfl,am,an⟩;have ae:=(hz.alloc hz.size _).trans (an.mono (aJ _));have y3:=KS.out _ ae)
   |(go_at_call 177;refine HI.mono ?_;rintro e w3 ⟨v3,rfl,am,an⟩;have ae:=hz.trans (an.mono (dI _));have y3:=KS.out _ ae))
 ·go_wp2;go_ret;exact⟨_,rfl,Nk am aa.size,aa.trans (ae.mono aa.size)⟩
 ·go_wp2;go_ret;exact⟨_,rfl,Nk am (eZ aa.size),aa.trans (ae.mono aa.size)⟩
def Yj:List ColD→Bool
 |x::_=>x.must
 |[]=>aT
def Kr (t:TabD):Bool:=nm t.name&&decide (1≤t.cols.length)&&decide (t.cols.length≤4)&&Yj t.cols&&Vj t.cols
def Yk (t:TabD):Prop:=t.name.size≤aN∧Zy t.cols
theorem Xj (t:TabD)(sv:aW)(C:Nat)(w:bT)(hl:IsL Cp (fun k=>k<C) w sv t.cols)(hC:C≤w.heap.size)(hf:Yk t):
  Z M 151 #[aY #[H t.name,sv]] w fun e w'=>e=z (bC (Kr t))∧Below w.heap.size w w':=by
 obtain⟨name,cols⟩:=t;simp only at hl⊢;obtain⟨ao,c,rfl⟩:=hl.shape;have hN:=fun w=>K7 name w hf.1
 have aa:=Aq w (S #[H name,K ao cols.length c] 82);have hG:=fun(h:cols.length≤16777215)=>Akv cols (K ao cols.length c) C (w.alloc (S #[H name,K ao cols.length c] 82)) (hl.keep (Ae (aa.mono hC))) (aG hC aa.size) hf.2 h
 have E:Hid (Kr ⟨name,cols⟩=(nm name&&decide (1≤cols.length)&&decide (cols.length≤4)&&Yj cols&&Vj cols)):=rfl;generalize Kr ⟨name,cols⟩=r at E;generalize nm name=b at hN E;generalize Vj cols=g at hG E;have ad:=(D5 hl).2;cases b
 ·clear hl hG hf;go_enter cL,cF;go_wp2_with(go_fit(hN _);rintro e w1 ⟨rfl,rfl⟩);go_ret;exact⟨Ah (by rw[E.out];rfl),aa⟩
 by_cases h1:1≤cols.length
 rotate_left
 ·have q1:¬(1:Int)≤(cols.length:Int):=by omega
  have E2:Hid (r=aT):=by show _=_;rw[E.out];simp[h1]
  clear hl hG hf E;go_enter cL,cF;go_wp2_with(go_fit(hN _);rintro e w1 ⟨rfl,rfl⟩);go_ret;exact⟨Ah (by rw[E2.out]),aa⟩
 by_cases h4:cols.length≤4
 rotate_left
 ·have q1:(1:Int)≤cols.length:=by omega
  have q2:¬(cols.length:Int)≤4:=by omega
  have E2:Hid (r=aT):=by show _=_;rw[E.out];simp[h4]
  clear hl hG hf E;go_enter cL,cF;go_wp2_with(go_fit(hN _);rintro e w1 ⟨rfl,rfl⟩);go_ret;exact⟨Ah (by rw[E2.out]),aa⟩
 obtain⟨x,hx⟩:∃x,cols[0]?=A x:=⟨_,aA (by omega)⟩;obtain⟨b,ae,cs,rfl,_,hb,hR,ab⟩:=At (hl.keep (Ae (aa.mono hC))) hx;obtain rfl:=hR;have d2:=ab 2 _ rfl;simp only[Nat.zero_mul,aV]at d2;have hm:Yj cols=x.must:=by
  match cols,hx with
  |y::r,hx=>simp at hx;subst hx;rfl
 have q1:(1:Int)≤cols.length:=by omega
 have q2:(cols.length:Int)≤4:=by omega
 have q3:(0:Int)<cols.length:=by omega
 have HG:=hG (by omega);have E2:Hid (r=(x.must&&g)):=by show _=_;rw[E.out,hm];simp[h1,h4]
 clear hl hG hf E hm hx ab;generalize x.must=m at d2 E2;cases m
 ·go_enter cL,cF;go_wp2_with(go_fit(hN _);rintro e w1 ⟨rfl,rfl⟩);go_ret;exact⟨Ah (by rw[E2.out];rfl),aa⟩
 ·go_enter cL,cF;go_wp2_with(first|(go_fit(hN _);rintro e w1 ⟨rfl,rfl⟩)|(go_fit HG;rintro e w2 ⟨rfl,ac⟩));go_ret;exact⟨Ah (by rw[E2.out];simp),Ac aa ac⟩
theorem Ad3 (t)(sv)(C)(w)(hl:IsL Cp (fun k=>k<C) w sv t.cols)(hC:C≤w.heap.size)(hf:Yk t):
  Z M 150 #[aY #[H t.name,sv]] w fun e w'=>e=z (bC (!Kr t))∧Below w.heap.size w w':=by
 obtain⟨ao,c,rfl⟩:=hl.shape;have aa:=Aq w (S #[H t.name,K ao t.cols.length c] 82);have HG:=Xj t _ C _ (hl.keep (Ae (aa.mono hC))) (aG hC aa.size) hf;generalize Kr t=r at HG;clear hl hf;go_enter Tryz.func150,Tryz.ntmps150;go_wp2_with(go_fit HG;rintro e w2 ⟨rfl,ab⟩);go_ret;exact⟨rfl,Ac aa ab⟩
def Q3 (T:List TabD):Bool:=!B6 (atI T fun t=>!Kr t) 0 T.length&&Id (T.map TabD.name)
def Aqt (T:List TabD):Prop:=∀t∈T,Yk t
theorem Af4 (T)(sv)(C)(w)(hl:IsL Ck (fun k=>k<C) w sv T)(hC:C≤w.heap.size)(hf:Aqt T):
  Z M 90 #[sv] w fun e w'=>e=z (bC (Q3 T))∧Below w.heap.size w w':=by
 obtain⟨ao,c,rfl⟩:=hl.shape;have HC:=A46.1.has Tryz.func150 #[] (fun v=>#[v]) T _ ao _ c (atI T _) _ (fun W=>Below _ w W) w (fun i W h=>h) (fun i W h=>hl.keep (Ae (h.mono hC)))
  (by
   rintro i x cs W hx h1 ⟨sv,rfl,ab⟩;refine(Ad3 x sv C W ab (aG hC h1.size) (hf x (aE hx))).mono ?_;rintro e W' ⟨rfl,hb⟩;exact⟨by rw[Hv hx],h1.trans (hb.mono h1.size),fun _=>h1.trans (hb.mono h1.size)⟩)
  (aB _ _)
 have HR:=fun w' (h:Below _ w w')=>Ayu T _ C w' (hl.keep (Ae (h.mono hC))) (aG hC h.size)
 have E:Hid (Q3 T=(!B6 _ 0 _&&Id _)):=rfl;generalize Q3 T=r at E;generalize B6 _ 0 _=q at E HC;generalize Id _=r2 at E HR;clear hl hf;cases q
 ·go_enter Tryz.func90,Tryz.ntmps90;go_wp2_with(first|(go_fit HC;rintro e w1 ⟨rfl,aa⟩)|(go_fit(HR _ aa);rintro e w2 ⟨rfl,ac⟩));go_ret;exact⟨Ah (by rw[E.out];rfl),Ac aa ac⟩
 ·go_enter Tryz.func90,Tryz.ntmps90;go_wp2_with(first|(go_fit HC;rintro e w1 ⟨rfl,aa⟩));go_ret;exact⟨Ah (by rw[E.out];rfl),aa⟩
theorem Hw {T}{t}{s}(h:Bv T s=A t)(tv iv)(aa:Hk iv)(C)(w)(hl:IsL Ck (fun k=>k<C) w tv T)(hC:C≤w.heap.size):
  Z M 112 #[aY #[tv,iv],H s] w fun e w'=>∃ao n c,e=z (fQ #[aY #[H t.name,K ao n c],bC N])∧IsL Cp (fun k=>k<C) w' (K ao n c) t.cols∧Below w.heap.size w w':=by
 refine(Xe T tv iv aa s C w hl hC).mono ?_;rintro e w' ⟨ab,ao,n,c,there,rfl,hm,hb⟩;grind
theorem Jo {T}{s}(h:Bv T s=J)(tv iv)(aa:Hk iv)(C)(w)(hl:IsL Ck (fun k=>k<C) w tv T)(hC:C≤w.heap.size):
  Z M 112 #[aY #[tv,iv],H s] w fun e w'=>e=z (fQ #[aY #[H noW,K J 0 0],bC aT])∧Below w.heap.size w w':=by
 refine(Xe T tv iv aa s C w hl hC).mono ?_;rintro e w' ⟨ab,ao,n,c,there,rfl,hm,hb⟩;grind
def Ks (T:List TabD)(tb cl:Wd):Bool:=match Bv T tb with
 |some t=>decide (0≤D7 t.cols cl)
 |none=>aT
theorem Ad4 (T)(tv iv)(ac:Hk iv)(tb cl:Wd)(C)(w)(hl:IsL Ck (fun k=>k<C) w tv T)(hC:C≤w.heap.size):
  Z M 155 #[aY #[tv,iv],H tb,H cl] w fun e w'=>e=z (bC (Ks T tb cl))∧Below w.heap.size w w':=by
 obtain⟨ao,c,rfl⟩:=hl.shape;have aa:=Aq w (S #[K ao T.length c,iv] 62);have ad:=hl.keep (Ae (aa.mono hC));have ae:=aG hC aa.size;cases h:Bv T tb with
 |none=>
  have HF:=Jo h _ iv ac C _ ad ae;have E:Hid (Ks T tb cl=aT):=by show _=_;simp[Ks,h]
  generalize Ks T tb cl=r at E;obtain⟨io,il,ic,rfl⟩:=ac;clear hl ad h;go_enter Tryz.func155,Tryz.ntmps155;go_wp2_with(go_fit HF;rintro e w1 ⟨rfl,ab⟩);go_ret;exact⟨Ah (by rw[E.out]),(Ac aa ab).alloc (aG aa.size ab.size) _⟩
 |some t=>
  have HF:=Hw h _ iv ac C _ ad ae;have E:Hid (Ks T tb cl=decide (0≤D7 t.cols cl)):=by show _=_;simp[Ks,h]
  generalize Ks T tb cl=r at E;have ag:=fun w' sv h hh=>L8 t.cols t.name sv cl C w' h hh
  generalize D7 _ cl=q at E ag;obtain⟨io,il,ic,rfl⟩:=ac;clear hl ad h;go_enter Tryz.func155,Tryz.ntmps155;go_wp2_with(first|(go_fit HF;rintro e w1 ⟨so,sn,sc,rfl,hL,ab⟩;have af:=Aq w1 (S #[H t.name,K so sn sc] 82);have ah:=aG ae ab.size)|(go_fit(ag _ _ (hL.keep (Ae (af.mono ah))) (aG ah af.size));rintro e w2 ⟨rfl,ai⟩));go_ret;exact⟨Ah (by rw[E.out]),Ac (Ac aa ab) (Ac af ai)⟩
def Kc (T:List TabD)(x:IdxD):Bool:=!nm x.name|| !Ks T x.table x.col
theorem Ab3 (T)(x)(tv iv)(ab:Hk iv)(pb C)(w)(hl:IsL Ck (fun k=>k<C) w tv T)(hC:C≤w.heap.size)(hs:x.name.size≤aN)(p0:w.cell? ⟨pb,0,J⟩=A tv)(p1:w.cell? ⟨pb,1,J⟩=A iv)(ac:pb<w.heap.size):
  Z M 154 #[aY #[H x.name,H x.table,H x.col],dO (A ⟨pb,0,J⟩)] w fun e w'=>e=z (bC (Kc T x))∧Below w.heap.size w w':=by
 obtain⟨name,tb,cl⟩:=x;obtain⟨ao,c,rfl⟩:=hl.shape;simp only at hs⊢;have aa:=Aq w (S #[H name,H tb,H cl] 86);have hN:=fun w=>K7 name w hs
 have HH:=Ad4 T _ iv ab tb cl C _ (hl.keep (Ae (aa.mono hC))) (aG hC aa.size);have E:Hid (Kc T ⟨name,tb,cl⟩=(!nm name|| !Ks T tb cl)):=rfl;generalize Kc T _=r at E;generalize nm name=b at hN E;generalize Ks T tb cl=h at HH E;obtain⟨io,il,ic,rfl⟩:=ab;have ae:=(aa.cell ac).trans p0;have af:=(aa.cell ac).trans p1;clear hl hs;cases b
 ·go_enter dS,Tryz.ntmps154;go_wp2_with(go_fit(hN _);rintro e w1 ⟨rfl,rfl⟩);go_ret;exact⟨Ah (by rw[E.out];rfl),aa⟩
 ·go_enter dS,Tryz.ntmps154;go_wp2_with(first|(go_fit(hN _);rintro e w1 ⟨rfl,rfl⟩)|(go_fit HH;rintro e w2 ⟨rfl,ad⟩));go_ret;exact⟨Ah (by rw[E.out];rfl),Ac aa ad⟩
def Tf (T:List TabD)(I:List IdxD):Bool:=!B6 (atI I (Kc T)) 0 I.length&&Id (I.map IdxD.name)
def Aqu (I:List IdxD):Prop:=∀x∈I,x.name.size≤aN∧x.table.size≤aN∧x.col.size≤aN
theorem Ad5 (T)(I)(tv iv)(C)(w)(hl:IsL Ck (fun k=>k<C) w tv T)(hi:IsL Eb (fun k=>k<C) w iv I)(hC:C≤w.heap.size)(hf:Aqu I):
  Z M 91 #[aY #[tv,iv]] w fun e w'=>e=z (bC (Tf T I))∧Below w.heap.size w w':=by
 obtain⟨ag,tc,rfl⟩:=hl.shape;obtain⟨ao,c,rfl⟩:=hi.shape;obtain⟨aa,ad,-⟩:=al1 w (S #[K ag T.length tc,K ao I.length c] 62);have HC:=A46.2.2.1.has dS #[_] (fun v=>#[v,_]) I _ ao _ c (atI I _)
  _ (fun W=>Below (w.heap.size+1) _ W)
  _ (fun i W h=>h) (fun i W h=>hi.keep (Ae ((aa.mono hC).trans (h.mono (by omega)))))
  (by
   rintro i x cs W hx h1 rfl;have ae:=h1.size;rw[cY]at ae;have af:=aa.trans (h1.mono (by omega));have hB:=(h1.block _ (by omega)).trans ad;refine(Ab3 T x _ _ (Ca _ _ _) _ C W (hl.keep (Ae (af.mono hC))) (aG hC af.size) (hf x (aE hx)).1 (Aa hB rfl) (Aa hB rfl) (by omega)).mono ?_;rintro e W' ⟨rfl,hb⟩;have hT:=h1.trans (hb.mono ae);exact⟨by rw[Hv hx],hT,fun _=>hT⟩)
  (aB _ _)
 have HR:=fun w' (h:Below _ w w')=>Ayv I _ C w' (hi.keep (Ae (h.mono hC))) (aG hC h.size)
 have E:Hid (Tf T I=(!B6 _ 0 _&&Id _)):=rfl;generalize Tf T I=r at E;generalize B6 _ 0 _=q at E HC;generalize Id _=r2 at E HR;clear hl hi hf;cases q
 ·go_enter Tryz.func91,Tryz.ntmps91;go_wp2_with(first|(go_fit HC;rintro e w1 ⟨rfl,ab⟩;have ac:=aa.trans (ab.mono (by omega));have g1:=(ab.cell (p:=⟨w.heap.size,1,J⟩) (show w.heap.size<w.heap.size+1 by omega)).trans (Aa ad rfl))|(go_fit(HR _ ac);rintro e w2 ⟨rfl,ah⟩));go_ret;exact⟨Ah (by rw[E.out];rfl),Ac ac ah⟩
 ·go_enter Tryz.func91,Tryz.ntmps91;go_wp2_with(first|(go_fit HC;rintro e w1 ⟨rfl,ab⟩;have ac:=aa.trans (ab.mono (by omega))));go_ret;exact⟨Ah (by rw[E.out];rfl),ac⟩
structure CatD where
 tables:List TabD
 indexes:List IdxD
def Dv (c:CatD):Bool:=decide (c.tables.length≤3)&&decide (c.indexes.length≤4)&&Q3 c.tables&&Tf c.tables c.indexes
def Hq (F:Nat→Prop)(w:bT)(c:CatD)(v:aW):Prop:=∃tv iv,v=aY #[tv,iv]∧IsL Ck F w tv c.tables∧IsL Eb F w iv c.indexes
def K9 (c:CatD):Prop:=Aqt c.tables∧Aqu c.indexes
theorem Hq.keep {F}{w w'}{c}{v}(h:Hq F w c v)(hk:Keeps F w w'):Hq F w' c v:=by
 obtain⟨tv,iv,h1,h2,h3⟩:=h;exact⟨tv,iv,h1,h2.keep hk,h3.keep hk⟩
theorem Alp (ct)(v)(C)(w)(h:Hq (fun k=>k<C) w ct v)(hC:C≤w.heap.size)(hf:K9 ct):
  Z M 54 #[v] w fun e w'=>e=z (bC (Dv ct))∧Below w.heap.size w w':=by
 obtain⟨T,I⟩:=ct;obtain⟨tv,iv,rfl,hl,hi⟩:=h;simp only at hl hi;obtain⟨ac,tc,rfl⟩:=hl.shape;obtain⟨ao,c,rfl⟩:=hi.shape;have aa:=Aq w (S #[K ac T.length tc,K ao I.length c] 62);have HT:=Af4 T _ C _ (hl.keep (Ae (aa.mono hC))) (aG hC aa.size) hf.1;have HI:=fun w' (h:Below _ w w')=>Ad5 T I _ _ C w' (hl.keep (Ae (h.mono hC))) (hi.keep (Ae (h.mono hC))) (aG hC h.size) hf.2
 have E:Hid (Dv ⟨T,I⟩=(decide (T.length≤3)&&decide (I.length≤4)&&Q3 T&&Tf T I)):=rfl;generalize Dv _=r at E;generalize Q3 T=g at HT E;generalize Tf T I=g2 at HI E;have ad:=(D5 hl).2;have ae:=(D5 hi).2;unfold aN at ad ae;clear hl hi hf
 by_cases h3:T.length≤3
 rotate_left
 ·have q1:¬(T.length:Int)≤3:=by omega
  have E2:Hid (r=aT):=by show _=_;rw[E.out];simp[h3]
  clear HT HI E;go_enter dD,cV;go_wp2_with fail;go_ret;exact⟨Ah (by rw[E2.out]),aa⟩
 have q1:(T.length:Int)≤3:=by omega
 by_cases h4:I.length≤4
 rotate_left
 ·have q2:¬(I.length:Int)≤4:=by omega
  have E2:Hid (r=aT):=by show _=_;rw[E.out];simp[h4]
  clear HT HI E;go_enter dD,cV;go_wp2_with fail;go_ret;exact⟨Ah (by rw[E2.out]),aa⟩
 have q2:(I.length:Int)≤4:=by omega
 have E2:Hid (r=(g&&g2)):=by show _=_;rw[E.out];simp[h3,h4]
 clear E;cases g
 ·go_enter dD,cV;go_wp2_with(go_fit HT;rintro e w1 ⟨rfl,ab⟩);go_ret;exact⟨Ah (by rw[E2.out];rfl),Ac aa ab⟩
 ·go_enter dD,cV;go_wp2_with(first|(go_fit HT;rintro e w1 ⟨rfl,ab⟩;obtain⟨ag,ah⟩:=E9 ab)|(go_fit(HI _ (Ac aa ab));rintro e w2 ⟨rfl,af⟩));go_ret;exact⟨Ah (by rw[E2.out];rfl),Ac (Ac aa ab) af⟩
theorem Nl {α}(l)(q:α→Bool):B6 (atI l q) 0 l.length=l.any q:=by
 rw[Zt];rcases Oc l q with⟨h1,h2⟩|⟨k,x,h1,h2,h3,_⟩
 ·grind
 grind
def Gk (op:Int):Int:=if op=1∨op=2 then 0 else if op=9∨op=10 then 1 else if 3≤op∧op≤8 then 2 else-1
def Q4 (op:Int)(x:V)(s name:Wd):Bool:=if op=1 then good x else if op=2 then nm name&&(decide (s.size=0)||nm s)else N
def geB:Nat→E→Bool
 |0,_=>aT
 |d+1,.mk op x s name _ l=>decide ((l.length:Int)=Gk op)&&Q4 op x s name&&l.all (geB d)
mutual
def Df:E→Prop
 |.mk _ x s name _ l=>x.s.size≤aN∧s.size≤aN∧name.size≤aN∧Ec l
def Ec:List E→Prop
 |[]=>True
 |e::l=>Df e∧Ec l
end
theorem La:∀{l:List E}{e:E},Ec l→e∈l→Df e
 |[],_,_,h=>by grind
 |x::l,e,h,he=>by
  rw[Ec]at h;rcases cS.1 he with rfl|he
  ·grind
  ·exact La h.2 he
theorem Af5 (op)(w):Z M 158 #[O U op] w fun e w'=>e=z (O U (Gk op))∧w'=w:=by
 by_cases g1:op=1<;>by_cases g2:op=2<;>by_cases h9:op=9<;>by_cases aa:op=10<;>by_cases h3:op=3<;>by_cases h4:op=4<;>by_cases h5:op=5<;>by_cases h6:op=6<;>by_cases h7:op=7<;>by_cases h8:op=8
 all_goals(try omega)
 all_goals
  have E:Hid (Gk op=if op=1∨op=2 then 0 else if op=9∨op=10 then 1 else if 3≤op∧op≤8 then 2 else-1):=rfl;go_enter Tryz.func158,Tryz.ntmps158;go_wp2;go_ret;refine⟨Av ?_,rfl⟩;rw[E.out];omega
theorem Alq (op)(x)(s name)(n)(ao)(k c)(w)(hx:x.s.size≤aN)(hs:s.size≤aN)(hn:name.size≤aN):
  Z M 159 #[aY (Af op x s name n (K ao k c))] w fun e w'=>e=z (bC (Q4 op x s name))∧Below w.heap.size w w':=by
 have hG:=fun w=>Mn x w hx
 have hN:=fun w=>K7 name w hn
 have hS:=fun w=>K7 s w hs
 have aa:=Aq w (S (Af op x s name n (K ao k c)) 48);have E:Hid (Q4 op x s name=if op=1 then good x else if op=2 then nm name&&(decide _||nm s)else N):=rfl;generalize Q4 op x s name=r at E;generalize good x=g at hG E;obtain⟨xk,xn,xs⟩:=x;simp only[V.val]at hG
 by_cases h1:op=1
 ·subst h1;clear hN hS;go_enter cK,cE;go_wp2_with(go_fit(hG _);rintro e w1 ⟨rfl,rfl⟩);go_ret;exact⟨Ah (by rw[E.out];rfl),aa.alloc aa.size _⟩
 by_cases h2:op=2
 ·subst h2;have E2:Hid (r=(nm name&&(s.toList.isEmpty||nm s))):=by show _=_;rw[E.out,K5];rfl
  clear hG E;generalize nm name=b at hN E2;generalize nm s=b2 at hS E2;cases b
  ·go_enter cK,cE;go_wp2_with(go_at_call 145;first|(go_fit(hN _);rintro e w1 ⟨rfl,rfl⟩));go_ret;exact⟨Ah (by rw[E2.out];rfl),aa⟩
  ·cases he:s.toList.isEmpty
   ·go_enter cK,cE;go_wp2_with(first|(go_at_call_of 145 (dN name);go_fit(hN _);rintro e w1 ⟨rfl,rfl⟩)|(go_at_call_of 145 (dN s);go_fit(hS _);rintro e w2 ⟨rfl,rfl⟩));go_ret;exact⟨Ah (by rw[E2.out,he];simp),aa⟩
   ·go_enter cK,cE;go_wp2_with(first|(go_at_call_of 145 (dN name);go_fit(hN _);rintro e w1 ⟨rfl,rfl⟩));go_ret;exact⟨Ah (by rw[E2.out,he];simp),aa⟩
 have E2:Hid (r=N):=by show _=_;rw[E.out,if_neg h1,if_neg h2]
 clear hG hN hS E;go_enter cK,cE;go_wp2_with fail;go_ret;exact⟨Ah (by rw[E2.out]),aa⟩
def Sf (d:Nat):Prop:=∀(e:E) (v:aW) (C:Nat) (w:bT),IsE (fun k=>k<C) w e v→C≤w.heap.size→Df e→
  Z M 93 #[v,O U (d:Int)] w fun r w'=>r=z (bC (geB d e))∧Below w.heap.size w w'
theorem Ajf:Sf 0:=by
 intro e v C w he hC hf;obtain⟨op,⟨xk,xn,xs⟩,s,name,n,ao,k,c,rfl⟩:=he.shape;show Z _ 93 #[_,O _ 0] w _;clear he hf;go_enter dC,cU;go_wp2_with fail;go_quiet(fail);go_wp2;go_ret;exact⟨Ah (by rfl),below_drewN (Dd w (S (Af op ⟨xk,xn,xs⟩ s name n (K ao k c)) 48) (S #[O U 0] 3)) _⟩
theorem Ajg (d)(hd:d+1≤40)(ih:Sf d)(e)(v)(pb C)(w)(he:IsE (fun k=>k<C) w e v)(hC:C≤w.heap.size)(hf:Df e)(hp:w.cell? ⟨pb,0,J⟩=A (O U ((d:Int)+1)))(ab:pb<w.heap.size):
  Z M 160 #[v,dO (A ⟨pb,0,J⟩)] w fun r w'=>r=z (bC (!geB d e))∧Below w.heap.size w w':=by
 obtain⟨op,⟨xk,xn,xs⟩,s,name,n,ao,k,c,rfl⟩:=he.shape;have aa:=Aq w (S (Af op ⟨xk,xn,xs⟩ s name n (K ao k c)) 48);have HG:=ih e _ C _ (IsE.keep (Ae (aa.mono hC)) e _ he) (aG hC aa.size) hf;generalize geB d e=r at HG;have ad:=(aa.cell ab).trans hp;have q2:min ((d:Int)+1) 40=d+1:=by omega
 have q3:eO (d+1-1)=d:=by unfold eO;omega
 clear he hf;go_enter Tryz.func160,Tryz.ntmps160;go_wp2_with(go_fit HG;rintro e w1 ⟨rfl,ac⟩);go_ret;exact⟨rfl,Ac aa ac⟩
theorem Aqv {W W'}{g}{a0 a1 a2 a3 a4 a5 a6 a7 a8}(h:W.cell? ⟨g,0,J⟩=A a0∧W.cell? ⟨g,1,J⟩=A a1∧W.cell? ⟨g,2,J⟩=A a2∧W.cell? ⟨g,3,J⟩=A a3∧W.cell? ⟨g,4,J⟩=A a4∧W.cell? ⟨g,5,J⟩=A a5∧W.cell? ⟨g,6,J⟩=A a6∧W.cell? ⟨g,7,J⟩=A a7∧W.cell? ⟨g+1,0,J⟩=A a8)(hb:Below W.heap.size W W')(hg:g+2≤W.heap.size):W'.cell? ⟨g,0,J⟩=A a0∧W'.cell? ⟨g,1,J⟩=A a1∧W'.cell? ⟨g,2,J⟩=A a2∧W'.cell? ⟨g,3,J⟩=A a3∧W'.cell? ⟨g,4,J⟩=A a4∧W'.cell? ⟨g,5,J⟩=A a5∧W'.cell? ⟨g,6,J⟩=A a6∧W'.cell? ⟨g,7,J⟩=A a7∧W'.cell? ⟨g+1,0,J⟩=A a8:=by
 have kc:∀b o,b<W.heap.size→W'.cell? _=W.cell? _:=fun b o hh=>hb.cell (p:=⟨b,o,J⟩) hh
 grind
theorem Ayw (w:bT)(op xk xn)(xs s name:Wd)(n)(ao)(k c)(d)(W)(hW:(w.alloc (S (Af op ⟨xk,xn,xs⟩ s name n (K ao k c)) 48)).alloc (S #[O U d] 3)=W):
  (W.cell? ⟨w.heap.size,0,J⟩=A (O U op)∧W.cell? ⟨w.heap.size,1,J⟩=A (O U xk)∧W.cell? ⟨w.heap.size,2,J⟩=A (O U xn)∧W.cell? ⟨w.heap.size,3,J⟩=A (H xs)∧W.cell? ⟨w.heap.size,4,J⟩=A (H s)∧W.cell? ⟨w.heap.size,5,J⟩=A (H name)∧W.cell? ⟨w.heap.size,6,J⟩=A (O U n)∧W.cell? ⟨w.heap.size,7,J⟩=A (K ao k c)∧W.cell? ⟨w.heap.size+1,0,J⟩=A (O U d))∧w.heap.size+2≤W.heap.size:=by
 have b0:W.heap[w.heap.size]?=A (S (Af op ⟨xk,xn,xs⟩ s name n (K ao k c)) 48):=by rw[←hW];exact Ad (Ab _ _) _
 have b1:W.heap[w.heap.size+1]?=A (S #[O U d] 3):=by rw[←hW];exact Cc _ _ _
 exact⟨⟨Aa b0 rfl,Aa b0 rfl,Aa b0 rfl,Aa b0 rfl,Aa b0 rfl,Aa b0 rfl,Aa b0 rfl,Aa b0 rfl,Aa b1 rfl⟩,aK b1⟩
theorem Ajh (d)(hd:d+1≤40)(ih:Sf d):Sf (d+1):=by
 intro e v C w he hC hf;cases e with
 |mk op x s name n l=>
  obtain⟨sv,rfl,ab⟩:=he.open;obtain⟨ao,c,rfl⟩:=ab.shape;obtain⟨xk,xn,xs⟩:=x;rw[Df]at hf;obtain⟨af,aj,ak,al⟩:=hf;simp only at af;have aa:=Dd w (S (Af op ⟨xk,xn,xs⟩ s name n (K ao l.length c)) 48) (S #[O U (d+1)] 3);have HL:=fun w=>Alq op ⟨xk,xn,xs⟩ s name n ao l.length c w af aj ak
  have HA:=fun w=>Af5 op w
  have E:Hid (geB (d+1) (.mk op _ s name n l)=(decide _&&Q4 op ⟨xk,xn,xs⟩ s name&&l.all _)):=rfl;generalize geB _ _=r at E;generalize Q4 op _ s name=lf at HL E;generalize Gk op=ar at HA E;rw[show((d+1:Nat):Int)=d+1 from by omega];have q0:¬(d:Int)+1<1:=by omega
  clear he
  by_cases ad:l.length=ar
  rotate_left
  ·have q1:(l.length !=ar)=N:=by simpa using ad
   have E2:Hid (r=aT):=by show _=_;rw[E.out];simp[ad]
   clear E ab HL;go_enter dC,cU;go_wp2_with fail;go_quiet(first|(go_at_call 158;refine Calls.quiet_of_same (HA _)));go_wp2;go_ret;exact⟨Ah (by rw[E2.out]),below_drewN aa _⟩
  have E2:Hid (r=(lf&&l.all (geB d))):=by show _=_;rw[E.out];simp[ad]
  have q1:(l.length !=ar)=aT:=by simpa using ad
  obtain⟨S0,z0⟩:=Ayw w op xk xn xs s name n ao l.length c (d+1) _ rfl;clear E;cases lf
  ·clear ab;go_enter dC,cU;go_wp2_with fail;generalize am:(w.alloc _).alloc _=W0 at aa S0 z0⊢
   go_region_held3(fun w'=>w'.cell? ⟨w.heap.size,0,J⟩=A (O U op)∧w'.cell? ⟨w.heap.size,1,J⟩=A (O U xk)∧w'.cell? ⟨w.heap.size,2,J⟩=A (O U xn)∧w'.cell? ⟨w.heap.size,3,J⟩=A (H xs)∧w'.cell? ⟨w.heap.size,4,J⟩=A (H s)∧w'.cell? ⟨w.heap.size,5,J⟩=A (H name)∧w'.cell? ⟨w.heap.size,6,J⟩=A (O U n)∧w'.cell? ⟨w.heap.size,7,J⟩=A (K ao l.length c)∧w'.cell? ⟨w.heap.size+1,0,J⟩=A (O U ((d:Int)+1))) (first|assumption|exact S0)
    (first|(go_fit(HA _);rintro e w' ⟨rfl,rfl⟩)|(go_fit(HL _);rintro e w2 ⟨rfl,ac⟩;have S1:=Aqv (W:=W0.drew) S0 ac z0))
   go_wp2;go_ret;exact⟨Ah (by rw[E2.out];rfl),aa.drew.trans (ac.mono aa.size)⟩
  ·have HC:=fun W1 ae=>
    A46.2.2.2.1.has Tryz.func160 #[_] (fun v=>#[v,_]) l _ ao _ c (atI l _)
     _ (fun W=>Below (w.heap.size+2) _ W)
     W1 (fun i W h=>h) (fun i W h=>(Akr.2 ab).keep (Ae ((aa.mono hC).trans (h.mono (by omega)))))
     (by
      rintro i x cs W hx h1 hR;have ag:=h1.size;rw[show((w.alloc _).alloc _).heap.size=w.heap.size+2 from by simp]at ag;have ae:=aa.trans (h1.mono (by omega));refine(Ajg d hd ih x _ _ C W hR.2 (aG hC ae.size) (La al (aE hx)) ((h1.cell (show w.heap.size+1<w.heap.size+2 by omega)).trans (Aa (Cc _ _ _) rfl)) (by omega)).mono ?_;rintro e W' ⟨rfl,hb⟩;have hT:=h1.trans (hb.mono ag);exact⟨by rw[Hv hx],hT,fun _=>hT⟩)
     ae
   have ah:Hid (l.all (geB d)= !B6 (atI l fun a=>!geB d a) 0 l.length):=by
    show _=_;rw[Nl,List.all_eq_not_any_not]
   have ai:(w.alloc (S (Af op ⟨xk,xn,xs⟩ s name n (K ao l.length c)) 48) |>.alloc (S #[O U (d+1)] 3)).heap.size=w.heap.size+2:=by simp
   generalize B6 _ 0 _=q at HC ah;clear ab;go_enter dC,cU;go_wp2_with fail;generalize am:(w.alloc _).alloc _=W0 at aa S0 z0 HC ai⊢
   go_region_held3(fun w'=>w'.cell? ⟨w.heap.size,0,J⟩=A (O U op)∧w'.cell? ⟨w.heap.size,1,J⟩=A (O U xk)∧w'.cell? ⟨w.heap.size,2,J⟩=A (O U xn)∧w'.cell? ⟨w.heap.size,3,J⟩=A (H xs)∧w'.cell? ⟨w.heap.size,4,J⟩=A (H s)∧w'.cell? ⟨w.heap.size,5,J⟩=A (H name)∧w'.cell? ⟨w.heap.size,6,J⟩=A (O U n)∧w'.cell? ⟨w.heap.size,7,J⟩=A (K ao l.length c)∧w'.cell? ⟨w.heap.size+1,0,J⟩=A (O U ((d:Int)+1))) (first|assumption|exact S0)
    (first|(go_fit(HA _);rintro e w' ⟨rfl,rfl⟩)|(go_fit(HL _);rintro e w2 ⟨rfl,ac⟩;have S1:=Aqv (W:=W0.drew) S0 ac z0))
   have an:Below (w.heap.size+2) W0 w2:=(aB _ _).drew.trans (ac.mono (by rw[←ai];exact aJ _));obtain⟨_,_,_,_,_,_,_,g7,_⟩:=S1;go_wp2_with(go_fit(HC _ an);rintro e w3 ⟨rfl,ap⟩);go_ret;exact⟨Ah (by rw[E2.out,ah.out];rfl),aa.trans (ap.mono (by omega))⟩
theorem Oq:∀d:Nat,d≤40→Sf d
 |0,_=>Ajf
 |d+1,h=>Ajh d h (Oq d (by omega))
end
end Go.Proofs.YtocegbpmmiabmaaGreatDoor

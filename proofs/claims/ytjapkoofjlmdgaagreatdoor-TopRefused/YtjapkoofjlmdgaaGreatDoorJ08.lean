/-
  17 texts of this proof in one,in build order:YScope,YMay,YCm,YChange,YSelect,YBk,YKind,WMath,QShelf,QSort,QOnce,QRows,QRows2,QRows3,QSpan,QSpan2,QWhere.
-/
import Derived.Deep.MidRow
import Derived.Deep.RegionHeld3
import Derived.Shelf.Lays
import Derived.Shelf.Sort.Plain
import Derived.Shelf.Slices.CompactS
import Derived.Shelf.Small.Wraps
import Derived.Test.YtjapkoofjlmdgaaGreatDoorProg
import Derived.Shelf.Slices.In.SortNone
import Derived.Deep.Cut
import Derived.Laws.StructEq
import Derived.Test.YtjapkoofjlmdgaaGreatDoorJ01
import Derived.Test.YtjapkoofjlmdgaaGreatDoorJ02
import Derived.Test.YtjapkoofjlmdgaaGreatDoorJ03
import Derived.Test.YtjapkoofjlmdgaaGreatDoorJ04
import Derived.Test.YtjapkoofjlmdgaaGreatDoorJ06
import Derived.Test.YtjapkoofjlmdgaaGreatDoorJ07
set_option linter.unusedSimpArgs false
set_option linter.unusedVariables false
set_option maxRecDepth 100000
set_option maxHeartbeats 0
open Go.Value renaming agg→O,agg→dG,bool→dM,int→aL,pointer→cQ,slice→G,string→D,tuple→bH
open Nat renaming le_refl→aS,le_trans→aA,lt_of_lt_of_le→cG,zero_add→dW,zero_le→cV
open Go.Obj renaming cells→H
open Except renaming error→I,ok→U
open Go.Proofs.Tryz renaming func161→dT,func252→dS,func312→bS,func313→dR,func92→eC,func93→cP,isAgg3→eB,isAgg4→eA,isAgg9→dZ,ntmps161→dJ,ntmps252→dI,ntmps312→bN,ntmps313→dH,ntmps92→dQ,ntmps93→cH,prog→aB,results252→cU,results314→eW,results49→cA,results95→bZ,results96→bY,sizeOf3→dP,sizeOf4→dO,sizeOf9→dN,underlying0→eQ,underlying230→aI,underlying3→cM,underlying4→cL,underlying41→aU,underlying54→bM,underlying69→eL,underlying71→aG,underlying9→cK,zeroValue0→eV,zeroValue3→cT,zeroValue4→cS,zeroValue54→eP,zeroValue9→cR
open Array renaming toArray_toList→aV,toList_inj→aC
open Go renaming Calls→aT,Value→bB,World→aY,bodyPost_ret→bE,info_parts→dU,lt_of_block→aD,maxLen→bA,wpAnyH_take→eU,wpList_append_own_at→bJ,wpList_load_row→aM,wpList_store_row→bX
open Go.Ending renaming returned→aE
open Go.RowKit renaming Below→N,Below→dK
open Option renaming none→M,some→J,toList_some→eD
open Except.error renaming inj→aF
open List renaming any_eq_false→cJ,any_eq_true→eS,cons_append→eR,filterMap_append→dX,filter_sublist→cE,find?_some→eX,forall_mem_cons→bG,getElem?_eq_getElem→aR,getElem?_eq_some_iff→dE,length_append→bK,length_cons→cN,length_filterMap_le→dL,length_filter_le→bV,length_map→bI,map_append→cX,mem_cons→bF,mem_filter→aH,mem_map→aP,mem_map_of_mem→eF,mem_mergeSort→eK,mem_of_find?_eq_some→aX,mem_of_getElem?→cB,mem_range→dA,nil_append→cW,not_mem_nil→bR,pairwise_cons→aZ,pairwise_map→eN,setIfInBounds_toArray→aW,set_cons_succ→eJ,set_cons_zero→eI,size_toArray→eM,take_add_one→cI,take_length→bQ
open Go.Lib renaming compact→aJ,compactUpTo→cY,trimPrefix→dF
open Go.RowKit.Below renaming block→dY,heap_setCell→eG,refl→aK
open Go.IntKind renaming i64→aN
open Bool renaming and_eq_true→bD,false→aQ,false_eq_true→cF,not_eq_true'→bC,true→aO
open List.Pairwise renaming sublist→bL
open Prod renaming fst→bO
open Go.Op renaming bytesLess→bU
open List.Sublist renaming map→cC
open Go.Proofs renaming encStr→dV,intOf→cD
open Go.Value.agg renaming inj→cO
open Go.World renaming cell?_setCell_other→cZ,frozen?→dD,ownsRow_nil→eH
open Go.Shelf renaming Ren→dB
open Go.Act renaming put→dC
open Except.ok renaming injEq→eE
open Go.Sort renaming ahead→eT,putRow→eO
open Go.Builtin renaming max_→eZ,min_→eY
namespace Go.Proofs.YtjapkoofjlmdgaaGreatDoor
section
open Go.RowKit Go.Maps
def Eo {α β:Type}(f:List α→α→Except Int β):List α→List α→Except Int (List β)
 |_,[]=>U []
 |seen,p::l=>match f seen p with
  |I m=>I m
  |U q=>match Eo f (seen++[p]) l with
   |I m=>I m
   |U qs=>U (q::qs)
theorem Vt {α β}(f:List α→α→Except Int β):∀(seen l:List α) (p:α),Eo f seen (l++[p])=match Eo f seen l with
  |I m=>I m
  |U qs=>match f (seen++l) p with
   |I m=>I m
   |U q=>U (qs++[q])
 |seen,[],p=>by
  simp only[cW,Eo,List.append_nil]
 |seen,x::l,p=>by
  simp only[eR,Eo,Vt f (seen++[x]) l p];rw[show seen++[x]++l=seen++x::l by simp];cases f seen x with
  |error m=>rfl
  |ok r=>
   grind
theorem Yk {α β}(f:List α→α→Except Int β):∀(seen l m:List α) (k:Int),Eo f seen l=I k→Eo f seen (l++m)=I k
 |seen,[],m,k,h=>by simp[Eo]at h
 |seen,x::l,m,k,h=>by
  simp only[eR,Eo]at h⊢;cases hx:f seen x with
  |error j=>grind
  |ok r=>
   rw[hx]at h;simp only at h⊢;cases hl:Eo f _ l with
   |error j=>
    rw[hl]at h;rw[Yk f _ l m j hl];omega
   |ok rs=>grind
def It (T:List TabD)(seen:List Wd)(s:Wd):Except Int TabD:=
 match Bu T s with
 |none=>I 3
 |some t=>if Nw seen s then I 4 else U t
def G2 (T:List TabD)(l:List Wd):Except Int (List TabD):=if l.length<1∨2<l.length then I 1 else Eo (It T) [] l
theorem Ayg:(Tryz.prog.info? 74).map (fun i=>(i.zero,i.size,i.bytes))=J (J (O #[D ⟨#[]⟩,G M 0 0]),2,40):=by kernel_rfl
theorem Kc.kept {α}{K}{ty}{C base b}{z}{A:List α}{w w'}(h:Kc K ty C base z A w)(hg:w.grownBy w' (J b))(h1:C≤b)(h2:b<base):Kc K ty C base z A w':=by
 obtain⟨cs,h3,h4⟩:=h;have hz:=h3.lt;refine⟨cs,h3.kept hg (by grind),h4.keep ⟨hg.size,fun k hk hl=>hg.block k hl (fun e=>by
   have:=Option.some.inj e;rcases hk with h|h
   ·omega
   omega)⟩⟩
theorem Aoa (T:List TabD)(tv iv:bB)(be:Hj iv)(l:List Wd)(fv:bB)(C:Nat)(w:aY)(ht:IsL Ci (fun k=>k<C) w tv T)(hl:IsL Ou (fun k=>k<C) w fv l)(hC:C≤w.heap.size)(hs:∀s∈l,s.size≤bA):
  aT aB 161 #[O #[tv,iv],fv] w fun r w'=>(∃u,r=aE u∧Nl Ci (G2 T l) (Fx C w.heap.size) w' u)∧N w.heap.size w w':=by
 obtain⟨af,tc,rfl⟩:=ht.shape;obtain⟨fo,fc,rfl⟩:=hl.shape;obtain⟨io,iN,ic,rfl⟩:=be;obtain⟨i0,hi,bf,bg,bh⟩:=dU Ayg;have ab:=Aq w (H #[G af T.length tc,G io iN ic] 41)
 by_cases ak:l.length<1∨2<l.length
 ·have HE:Hid (G2 T l=I 1):=if_pos ak;clear ht hl hs
  by_cases h1:l.length<1
  ·have q1:(l.length:Int)<1:=by omega
   go_enter dT,dJ;go_wp2_with fail;go_ret2;refine⟨⟨_,rfl,?_⟩,ab⟩;rw[HE.out];rfl
  ·have q1:¬(l.length:Int)<1:=by omega
   have q2:(2:Int)<(l.length:Int):=by omega
   go_enter dT,dJ;go_wp2_with fail;go_ret2;refine⟨⟨_,rfl,?_⟩,ab⟩;rw[HE.out];rfl
 ·have ap:Hid (G2 T l=Eo (It T) [] l):=if_neg ak;have q1:¬(l.length:Int)<1:=by omega
  have q2:¬(2:Int)<(l.length:Int):=by omega
  have bu:l.length≤2:=by omega
  obtain⟨aq,ar,-,-⟩:=al2 w (H #[G af T.length tc,G io iN ic] 41) (.map #[] 0);have au:Cnt ((w.alloc (H #[G af T.length tc,G io iN ic] 41)).alloc (.map #[] 0)) (w.heap.size+1) []:=by
   have:=Abm (w.alloc (H #[G af T.length tc,G io iN ic] 41));rwa[show(w.alloc (H #[G af T.length tc,G io iN ic] 41)).heap.size=w.heap.size+1 by simp]at this
  have bi:=@run_makeMap aB;clear ak;go_enter dT,dJ;go_wp2_with fail;clear bi
  go_loopw[7,23] (fun zv i wr=>∃(j:Nat) (rs:List TabD),j≤l.length∧i=aL aN j∧Hid (Eo (It T) [] (l.take j)=U rs)∧Hid (rs.length=j)∧wr.heap[w.heap.size]?=J (H #[G af T.length tc,G io iN ic] 41)∧Cnt wr (w.heap.size+1) (l.take j)∧Kc Ci 74 C (w.heap.size+2) zv rs wr∧N w.heap.size w wr∧w.heap.size+2≤wr.heap.size) (fun _ i _=>l.length-(cD i).toNat)
  case atStart=>exact⟨0,[],cV _,rfl,by show _=_;rw[List.take_zero,Eo],rfl,ar,au,Ad0 _ _ _ _ _,aq,by simp⟩
  case round=>
   obtain⟨j,rs,hj,rfl,HQ,HL,hT,av,hA,aa,bj⟩:=hrel;clear ar au aq;have q3:=HL.out;subst q3
   by_cases bk:rs.length<l.length
   ·obtain⟨a,ha⟩:∃a,l[rs.length]?=J a:=⟨_,aR bk⟩;have HT:Hid (l.take (rs.length+1)=l.take rs.length++[a]):=by show _=_;rw[cI,ha];rfl
    have HX:∀m,It T (l.take rs.length) a=I m→G2 T l=I m:=fun m hm=>by
     have hs:Eo (It T) [] (l.take (rs.length+1))=I m:=by rw[HT.out,Vt,HQ.out];simp only[cW,hm]
     have:=Yk _ [] _ (l.drop (rs.length+1)) m hs;rw[List.take_append_drop]at this;rw[ap.out,this]
    have HY:∀q,It T (l.take rs.length) a=U q→Eo (It T) [] (l.take (rs.length+1))=U (rs++[q]):=fun q hq=>by
     rw[HT.out,Vt,HQ.out];simp only[cW,hq]
    have HZ:Hid (It T (l.take rs.length) a=match Bu T a with
     |none=>I 3
     |some t=>if Nw (l.take rs.length) a then I 4 else U t):=rfl
    obtain⟨b,bv,cs,rfl,bw,hb,hR,aw⟩:=Av (hl.keep (Ae (aa.mono hC))) ha;obtain rfl:=hR;have d0:=aw 0 _ rfl;simp only[Ou,Nat.mul_one,Nat.add_zero]at d0;have j0:(0:Int)≤(rs.length:Int):=by omega
    have j1:(rs.length:Int)<(l.length:Int):=by omega
    have t0:=Aa hT (j:=0) rfl;have t1:=Aa hT (j:=1) rfl;have HA:=fun(W:aY) (h:Cnt W (w.heap.size+1) (l.take rs.length))=>Xp (w.heap.size+1) (l.take rs.length) a W h (hs a (cB ha)) (by simp;omega)
    have ax:=ht.keep (Ae (aa.mono hC));clear aw ha hs hl;rcases ag:Bu T a with _|t
    ·have HE:Hid _:=HX 3 (by rw[HZ.out,ag]);have HF:=Jn ag _ _ ⟨io,iN,ic,rfl⟩ C wr ax (aA hC aa.size);clear HA HX HY HZ HQ HL HT ag;go_wp2_with(first|(go_fit HF;rintro e w1 ⟨rfl,ab⟩));go_ret2;refine⟨⟨_,rfl,?_⟩,(aa.trans (ab.mono aa.size)).alloc (aA aa.size ab.size) _⟩;rw[HE.out];rfl
    ·have HF:=Hv ag (G af T.length tc) (G io iN ic) ⟨io,iN,ic,rfl⟩ C wr ax (aA hC aa.size);rw[ag]at HZ;simp only at HZ;cases aj:Nw (l.take rs.length) a
     ·rw[aj]at HA HZ;simp only[cF,if_false]at HZ;have HS:Hid (Eo (It T) [] (l.take (rs.length+1))=U (rs++[t])):=HY t HZ.out;have bx:Hid ((rs++[t]).length=rs.length+1):=by show _=_;rw[bK];rfl
      have bl:Hid (l.take rs.length++[a]=l.take (rs.length+1)):=HT.out.symm;have bz:rs.length≤2:=by omega
      obtain⟨zo,zc,al⟩:=hA.shape;clear HX HY HZ HQ HL HT ag aj;subst al;go_wp2_with(first|(go_fit HF;rintro e w1 ⟨ac,n2,c2,rfl,ay,ab⟩;have ad:N wr.heap.size wr (w1.alloc (H #[D t.name,G ac n2 c2] 74)):=ab.alloc ab.size _;have am:=av.below ad;have hP:=Ab w1 (H #[D t.name,G ac n2 c2] 74))|(go_fit(HA _ am);rintro e w2 ⟨rfl,az,ae⟩;have ba:=Gq ae hP (by have:=ab.size;simp;omega);have p0:=Aa ba (j:=0) rfl;have p1:=Aa ba (j:=1) rfl;obtain⟨ca,bb,bm⟩:=(hA.below ad).kept ae (by omega) (by omega);have ah:=Aq w2 (H [D t.name,G ac n2 c2].toArray 74);have bn:w.heap.size+2≤w2.heap.size:=aA bj (aA ad.size ae.size);have an:w.heap.size+2≤(w2.alloc (H [D t.name,G ac n2 c2].toArray 74)).heap.size:=aA bn ah.size)|(at_builtin;go_must(refine bJ _ rfl _ _ 209 rfl (w.heap.size+2) 74 i0 _ 2 40 Tryz.underlying209 hi bf bg bh rfl (by decide) _ _ _ rfl (Aj bb ah) ⟨w2.heap.size,0,M⟩ 1 1 [.string t.name,.slice ac n2 c2] rfl rfl (B8 w2 [.string t.name,.slice ac n2 c2] 74) ?h1 (by simp only[bA];omega) (by omega) an ?h2)))
      case h1=>simp only[bG];repeat(first|exact fun _ h=>absurd h bR|refine⟨rfl,?_⟩)
      case h2=>
       intro z2 w4 bo ai _ bp;have bq:z2.ownBlock=(Value.slice zo rs.length zc).ownBlock∨z2.ownBlock=J (w2.alloc (H [D t.name,G ac n2 c2].toArray 74)).heap.size:=by simpa using bp
       have hz:=fun k hk=>(bb.lt k hk).1
       have cb:=Aas (K:=Ci) (ty:=74) (a:=t) (c:=[D t.name,G ac n2 c2]) (by omega) hz bo (bm.keep (Ak ah)) ⟨_,rfl,(((ay.keep (Ae ((Aq w1 _).mono (aA hC (aA aa.size ab.size))))).keep ⟨ae.size,fun k hk hl=>ae.block k hl (fun e=>by grind)⟩).keep (Ak ah)).mono (fun k _ h=>.inl h)⟩ ai bq;have bc:=Below.grow (aa.trans (ad.mono aa.size)) ae (aA aa.size ad.size) (by omega);have cc:=(bc.trans (ah.mono bc.size)).grown ai (aA (by omega) an) fun k hk=>aA (by omega) (hz k hk)
       have bd:∀k,k<w.heap.size+2→J k≠(Value.slice zo _ zc).ownBlock:=fun k hk e=>by have:=hz k e.symm;omega
       have cd:=Gq ai ((ah.block _ (by omega)).trans (Gq ae ((ad.block _ (aD hT)).trans hT) (by simp))) (bd _ (by omega));have ce:Cnt w4 (w.heap.size+1) (l.take (rs.length+1)):=by rw[←bl.out];exact(az.below ah).kept ai (bd _ (by omega))
       have cf:=aA an ai.size;go_wp2_with fail;go_roundw
       case rel=>grind
       case measure=>simp[cD];omega
     ·rw[aj]at HA HZ;have HE:Hid _:=HX 4 (by assumption);clear HX HY HZ HQ HL HT ag aj;go_wp2_with(first|(go_fit HF;rintro e w1 ⟨ac,n2,c2,rfl,ay,ab⟩;have ad:N _ wr (w1.alloc (H #[D t.name,G ac n2 c2] 74)):=ab.alloc ab.size _;have am:=av.below ad)|(go_fit(HA _ am);rintro e w2 ⟨rfl,az,ae⟩));go_ret2;refine⟨⟨_,rfl,?_⟩,Below.grow (aa.trans (ad.mono aa.size)) ae (aA aa.size ad.size) (by omega)⟩;rw[HE.out];rfl
   ·have bt:rs.length=l.length:=by omega
    have HE:Hid (G2 T l=U rs):=by
     show _=_;have:=HQ.out;rw[bt,bQ]at this;rw[ap.out,this]
    obtain⟨zo,zc,al⟩:=hA.shape;subst al;clear HL HQ;go_wp2_with fail;go_ret2;refine⟨⟨_,rfl,?_⟩,aa⟩;rw[HE.out];exact⟨_,_,_,rfl,hA.isL.mono (F':=Fx C w.heap.size) (fun k _ h=>h.imp id (fun h=>aA (by omega) h))⟩
def Kl (ct:CatD)(name:Wd)(cols:List ColD):Int:=if Kp ⟨name,cols⟩=aQ then 1 else if(Bu ct.tables name).isSome then 4 else if 3≤ct.tables.length then 8 else 0
def Vu (s:Wd)(x:IdxD):Bool:=decide (x.name=s)
def Qz (ct:CatD)(name table col:Wd):Int:=if nm name=aQ then 1 else if Kq ct.tables table col=aQ then 3 else if Bz (atI ct.indexes (Vu name)) 0 ct.indexes.length then 4 else if 4≤ct.indexes.length then 8 else 0
def Ol (ct:CatD)(name:Wd):Int:=if(Bu ct.tables name).isSome then 0 else 3
theorem Aob (ct)(cv)(C)(w)(hc:Hp (fun k=>k<C) w ct cv)(hC:C≤w.heap.size)
  (kind) (name table col) (colsv rowsv setsv frmv outv) (op xk xn) (xs s nmv) (n8) (sl order) (down) (n):
  aT aB 94 #[cv,O (sA kind name table col colsv rowsv setsv frmv outv op xk xn xs s nmv n8 sl order down n)] w fun r w'=>r=aE (aL aN (Ol ct name))∧N w.heap.size w w':=by
 obtain⟨tv,iv,rfl,ad,ae⟩:=hc;have aa:=Da w (H #[tv,iv] 41) (H (sA kind name table col colsv rowsv setsv frmv outv op xk xn xs s nmv n8 sl order down n) 71);have af:=Gf ae;rcases ab:Bu ct.tables name with _|t
 ·have HE:Hid (Ol ct name=3):=by show _=_;unfold Ol;rw[ab];rfl
  have HF:=Jn ab tv iv af C _ (ad.keep (Ae (aa.mono hC))) (aA hC aa.size);clear ad ae ab;go_enter Tryz.func94,Tryz.ntmps94;go_wp2_with(first|(go_fit HF;rintro e w1 ⟨rfl,ac⟩));go_ret;exact⟨Au HE.out.symm,(Ac aa ac).alloc (Ac aa ac).size _⟩
 ·have HE:Hid (Ol ct name=0):=by show _=_;unfold Ol;rw[ab];rfl
  have HF:=Hv ab tv iv af C _ (ad.keep (Ae (aa.mono hC))) (aA hC aa.size);clear ad ae ab;go_enter Tryz.func94,Tryz.ntmps94;go_wp2_with(first|(go_fit HF;rintro e w1 ⟨ag,n2,c2,rfl,ah,ac⟩));go_ret;exact⟨Au HE.out.symm,(Ac aa ac).alloc (Ac aa ac).size _⟩
theorem Ai4 (ct)(cv)(C)(w)(hc:Hp (fun k=>k<C) w ct cv)(hC:C≤w.heap.size)(cols)
  (kind) (name table col) (colsv rowsv setsv frmv outv) (op xk xn) (xs s nmv) (n8) (sl order) (down) (n) (aj:IsL Cp (fun k=>k<C) w colsv cols) (hf:Yb ⟨name,cols⟩):
  aT aB 92 #[cv,O (sA kind name table col colsv rowsv setsv frmv outv op xk xn xs s nmv n8 sl order down n)] w fun r w'=>r=aE (aL aN (Kl ct name cols))∧N w.heap.size w w':=by
 obtain⟨tv,iv,rfl,ai,am⟩:=hc;obtain⟨ah,tc,rfl⟩:=ai.shape;obtain⟨co,cc,rfl⟩:=aj.shape;obtain⟨ac,ak,ae,-⟩:=al2 w (H #[G ah ct.tables.length tc,iv] 41) (H (sA kind name table col (G co cols.length cc) rowsv setsv frmv outv op xk xn xs s nmv n8 sl order down n) 71);have al:=Gf am;have HG:=fun W (h:N _ w W)=>Xb _ _ C W (aj.keep (Ae (h.mono hC))) (aA hC h.size) hf
 have HX:∃(b:Bool),(Bu ct.tables name).isSome=b∧aT aB 105 #[O #[G ah ct.tables.length tc,iv],D name] ((w.alloc (H #[G ah ct.tables.length tc,iv] 41)).alloc (H (sA kind name table col (G co cols.length cc) rowsv setsv frmv outv op xk xn xs s nmv n8 sl order down n) 71)) fun e w'=>∃(tn:Wd) (ao:Option Addr) (k c:Nat),e=aE (bH #[O #[D tn,G ao k c],dM b])∧N ((w.alloc (H #[G ah ct.tables.length tc,iv] 41)).alloc (H (sA kind name table col (G co cols.length cc) rowsv setsv frmv outv op xk xn xs s nmv n8 sl order down n) 71)).heap.size ((w.alloc (H #[G ah ct.tables.length tc,iv] 41)).alloc (H (sA kind name table col (G co cols.length cc) rowsv setsv frmv outv op xk xn xs s nmv n8 sl order down n) 71)) w':=by
  rcases an:Bu ct.tables name with _|t
  ·refine⟨aQ,rfl,(Jn an _ iv al C _ (ai.keep (Ae (ac.mono hC))) (aA hC ac.size)).mono ?_⟩;rintro e w1 ⟨rfl,aa⟩;grind
  ·refine⟨aO,rfl,(Hv an _ iv al C _ (ai.keep (Ae (ac.mono hC))) (aA hC ac.size)).mono ?_⟩;rintro e w1 ⟨ab,n2,c2,rfl,au,aa⟩;grind
 obtain⟨b,hb,HF⟩:=HX;have HE:Hid (Kl ct name cols=if Kp ⟨name,cols⟩=aQ then 1 else if b then 4 else if 3≤ct.tables.length then 8 else 0):=by show _=_;unfold Kl;rw[hb]
 generalize Kl ct name cols=R at HE;generalize Kp _=g at HE HG;generalize ct.tables.length=tl at*;clear ai am aj hb al;have ap:=aD ak;have af:=aD ae;have aq:(3≤tl∧(3:Int)≤tl)∨(¬3≤tl∧¬(3:Int)≤tl):=by omega
 cases g
 ·go_enter eC,dQ;go_wp2_with(first|(go_fit HF;rintro e w1 ⟨tn,ab,n2,c2,rfl,aa⟩;have ad:N _ w (w1.alloc (H #[D tn,G ab n2 c2] 74)):=(Ac ac aa).alloc (Ac ac aa).size _;have z1:=Aa (Ad ((aa.block _ af).trans ae) (H #[D tn,G ab n2 c2] 74)) (j:=1) rfl;have z4:=Aa (Ad ((aa.block _ af).trans ae) (H #[D tn,G ab n2 c2] 74)) (j:=4) rfl)|(go_fit(HG _ ad);rintro e w2 ⟨rfl,ag⟩));go_ret;exact⟨Au (by rw[HE.out];rfl),Ac ad ag⟩
 ·cases b
  ·rcases aq with⟨l1,l2⟩|⟨l1,l2⟩
   all_goals
    go_enter eC,dQ;go_wp2_with(first|(go_fit HF;rintro e w1 ⟨tn,ab,n2,c2,rfl,aa⟩;have ad:N _ w (w1.alloc (H #[D tn,G ab n2 c2] 74)):=(Ac ac aa).alloc (Ac ac aa).size _;have z1:=Aa (Ad ((aa.block _ af).trans ae) (H #[D tn,G ab n2 c2] 74)) (j:=1) rfl;have z4:=Aa (Ad ((aa.block _ af).trans ae) (H #[D tn,G ab n2 c2] 74)) (j:=4) rfl;have ar:=aD (Ad ((aa.block _ ap).trans ak) (H #[D tn,G ab n2 c2] 74)))|(go_fit(HG _ ad);rintro e w2 ⟨rfl,ag⟩;have x0:=(ag.cell ar).trans (Aa (Ad ((aa.block _ ap).trans ak) (H #[D tn,G ab n2 c2] 74)) (j:=0) rfl)));go_ret;exact⟨Au (by rw[HE.out];grind),Ac ad ag⟩
  ·go_enter eC,dQ;go_wp2_with(first|(go_fit HF;rintro e w1 ⟨tn,ab,n2,c2,rfl,aa⟩;have ad:N _ w (w1.alloc (H #[D tn,G ab n2 c2] 74)):=(Ac ac aa).alloc (Ac ac aa).size _;have z1:=Aa (Ad ((aa.block _ af).trans ae) (H #[D tn,G ab n2 c2] 74)) (j:=1) rfl;have z4:=Aa (Ad ((aa.block _ af).trans ae) (H #[D tn,G ab n2 c2] 74)) (j:=4) rfl)|(go_fit(HG _ ad);rintro e w2 ⟨rfl,ag⟩));go_ret;exact⟨Au (by rw[HE.out];rfl),Ac ad ag⟩
theorem Ali (x)(pb)(name:Wd)(w)(hp:w.cell? ⟨pb,1,M⟩=J (D name))(ab:pb<w.heap.size):
  aT aB 157 #[O #[D x.name,D x.table,D x.col],cQ (J ⟨pb,0,M⟩)] w fun e w'=>e=aE (dM (Vu name x))∧N w.heap.size w w':=by
 have aa:=Aq w (H #[D x.name,D x.table,D x.col] 78);have h1:=(aa.cell ab).trans hp;have E:Hid (Vu name x=(x.name.toList==name.toList)):=by show _=_;rw[Vu,Jj]
 generalize Vu name x=r at E;go_enter Tryz.func157,Tryz.ntmps157;go_wp2;go_ret;exact⟨Ah E.out.symm,aa⟩
theorem Aoc (ct)(cv)(C)(w)(hc:Hp (fun k=>k<C) w ct cv)(hC:C≤w.heap.size)
  (kind) (name table col) (colsv rowsv setsv frmv outv) (op xk xn) (xs s nmv) (n8) (sl order) (down) (n) (hs:name.size≤bA):
  aT aB 93 #[cv,O (sA kind name table col colsv rowsv setsv frmv outv op xk xn xs s nmv n8 sl order down n)] w fun r w'=>r=aE (aL aN (Qz ct name table col))∧N w.heap.size w w':=by
 obtain⟨tv,iv,rfl,ad,ae⟩:=hc;obtain⟨io,ic,rfl⟩:=ae.shape;obtain⟨ai,tc,rfl⟩:=ad.shape;obtain⟨ab,af,aj,-⟩:=al2 w (H #[G ai ct.tables.length tc,G io ct.indexes.length ic] 41) (H (sA kind name table col colsv rowsv setsv frmv outv op xk xn xs s nmv n8 sl order down n) 71);have HN:=fun W=>K5 name W hs
 have HH:=Adv _ _ (G io ct.indexes.length ic) ⟨_,_,_,rfl⟩ table col C _ (ad.keep (Ae (ab.mono hC))) (aA hC ab.size);have ag:=aD af;have ah:=aD aj;have HC:=fun W (hW:N _ ((w.alloc (H #[G ai ct.tables.length tc,G io ct.indexes.length ic] 41)).alloc (H (sA kind name table col colsv rowsv setsv frmv outv op xk xn xs s nmv n8 sl order down n) 71)) W)=>A33.2.2.1.has Tryz.func157 #[_] (fun v=>#[v,_]) ct.indexes (fun k=>k<C) io _ ic (atI ct.indexes (Vu name))
  (fun _ W'=>N W.heap.size W W') (fun W'=>N W.heap.size W W') W (fun _ _ h=>h) (fun _ W' h=>(ae.keep (Ae (ab.mono hC))).keep (Ae ((hW.trans (h.mono hW.size)).mono (aA hC ab.size))))
  (by
   rintro i x cs W' hx h rfl;refine(Ali x (w.heap.size+1) name W' ((h.cell (p:=⟨w.heap.size+1,1,M⟩) (cG ah hW.size)).trans ((hW.cell (p:=⟨w.heap.size+1,1,M⟩) ah).trans (Aa aj (j:=1) rfl))) (cG ah (aA hW.size h.size))).mono ?_;rintro e W2 ⟨rfl,hb⟩;exact⟨by simp[atI,hx],Ac h hb,fun _=>Ac h hb⟩)
  (aK _ _)
 have HE:Hid (Qz ct name table col=if nm name=aQ then 1 else if Kq _ table col=aQ then 3 else if Bz _ 0 _ then 4 else if 4≤ct.indexes.length then 8 else 0):=rfl;generalize Qz ct name table col=R at HE;generalize nm name=gn at HE HN;generalize Kq _ table col=gh at HE HH;generalize Bz _ 0 _=gc at HE HC;generalize ct.indexes.length=il at*;clear ad ae;have ak:(4≤il∧(4:Int)≤il)∨(¬4≤il∧¬(4:Int)≤il):=by omega
 cases gn
 ·go_enter cP,cH;go_wp2_with(first|(go_fit(HN _);rintro e w1 ⟨rfl,rfl⟩));go_ret;exact⟨Au (by rw[HE.out];rfl),ab⟩
 ·cases gh
  ·go_enter cP,cH;go_wp2_with(first|(go_fit(HN _);rintro e w1 ⟨rfl,rfl⟩)|(go_fit HH;rintro e w2 ⟨rfl,aa⟩));go_ret;exact⟨Au (by rw[HE.out];rfl),Ac ab aa⟩
  ·cases gc
   ·rcases ak with⟨l1,l2⟩|⟨l1,l2⟩
    all_goals
     go_enter cP,cH;go_wp2_with(first|(go_fit(HN _);rintro e w1 ⟨rfl,rfl⟩)|(go_fit HH;rintro e w2 ⟨rfl,aa⟩;have y1:=(aa.cell ag).trans (Aa af (j:=1) rfl);have al:=cG ag aa.size)|(go_fit(HC _ aa);rintro e w4 ⟨rfl,ac⟩;have y2:=(ac.cell al).trans y1));go_ret;exact⟨Au (by rw[HE.out];grind),Ac (Ac ab aa) ac⟩
   ·go_enter cP,cH;go_wp2_with(first|(go_fit(HN _);rintro e w1 ⟨rfl,rfl⟩)|(go_fit HH;rintro e w2 ⟨rfl,aa⟩;have y1:=(aa.cell ag).trans (Aa af (j:=1) rfl))|(go_fit(HC _ aa);rintro e w4 ⟨rfl,ac⟩));go_ret;exact⟨Au (by rw[HE.out];rfl),Ac (Ac ab aa) ac⟩
def Jp (R:Except Int Stm)(F:Nat→Prop)(w':aY)(v:bB):Prop:=
 ∃arr:Array bB,arr.size=20∧arr.all (·.oneCell')=aO∧match R with
 |I m=>v=bH #[O arr,aL aN m]
 |U st=>v=bH #[O arr,aL aN 0]∧I6.R F w' st arr.toList
structure SeSt (w:aY) (W:aY) (arr:Array bB):Prop where
 stm:W.heap[w.heap.size+1]?=J (H arr 71)
 room:W.heap[w.heap.size+1+1]?=J (H Bq 71)
 bel:N w.heap.size w W
 big:w.heap.size+3≤W.heap.size
theorem SeSt.below {w W W'}{arr}(h:SeSt w W arr)(hb:N W.heap.size W W'):SeSt w W' arr:=
 ⟨(hb.block _ (by have:=h.big;omega)).trans h.stm,(hb.block _ (by have:=h.big;omega)).trans h.room,h.bel.trans (hb.mono h.bel.size),aA h.big hb.size⟩
theorem SeSt.set {w W}{arr}(h:SeSt w W arr)(i)(v):SeSt w (W.setCell ⟨w.heap.size+1,i,M⟩ v) (arr.setIfInBounds i v):=
 ⟨upd h.stm i v,(eG _ _ _ _ (by simp)).trans h.room,h.bel.setCell (show w.heap.size≤w.heap.size+1 by omega) _,by simpa using h.big⟩
theorem SeSt.wher {w W}{kind}{name table col}{cols rows sets frm out}{op xk xn}{xs s nmv}{n8}{sl order}{down}{n}(h:SeSt w W (sA kind name table col cols rows sets frm out op xk xn xs s nmv n8 sl order down n))(op' xk' xn')(aa s' ab:Wd)(n8')(sl'):
  SeSt w (W.setCells (w.heap.size+1) 9 (Af op' ⟨xk',xn',aa⟩ s' ab n8' sl').toList) (sA kind name table col cols rows sets frm out op' xk' xn' aa s' ab n8' sl' order down n):=by
 have g:=(((((((h.set 9 (aL aN op')).set 10 (aL aN xk')).set 11 (aL aN xn')).set 12 (D aa)).set 13 (D s')).set 14 (D ab)).set 15 (aL aN n8')).set 16 sl';simp only[aW,eJ,eI]at g;exact g
theorem Nm {aa:Array bB}(h:aa.size=20):(Tryz.prog.info? 71).map (·.size)=J aa.size:=by rw[h];exact D5
structure BkSt (ct:CatD) (st:Stm) (C:Nat) (w W:aY) (cv arr:Array bB):Prop where
 cat:W.heap[w.heap.size]?=J (H cv 41)
 se:SeSt w W arr
 ic:Hp (fun k=>k<C) W ct (O cv)
 is:I6.R (fun k=>k<C) W st arr.toList
 le:C≤w.heap.size
 two:cv.size=2
 n20:arr.size=20
 one:arr.all (·.oneCell')=aO
theorem Auq:(Tryz.prog.info? 41).map (·.size)=J 2:=by kernel_rfl
section
variable {ct:CatD}{st:Stm}{C:Nat}{w W W':aY}{cv arr:Array bB}
theorem BkSt.below (h:BkSt ct st C w W cv arr)(hb:N W.heap.size W W'):BkSt ct st C w W' cv arr:=
 ⟨(hb.block _ (aD h.cat)).trans h.cat,h.se.below hb,h.ic.keep (Ae (hb.mono (aA h.le h.se.bel.size))),I6.keep (Ae (hb.mono (aA h.le h.se.bel.size))) h.is,h.le,h.two,h.n20,h.one⟩
theorem BkSt.leW (h:BkSt ct st C w W cv arr):C≤W.heap.size:=aA h.le h.se.bel.size
theorem BkSt.ci (h:BkSt ct st C w W cv arr):(Tryz.prog.info? 41).map (·.size)=J cv.size:=by rw[h.two];exact Auq
theorem BkSt.si (h:BkSt ct st C w W cv arr):(Tryz.prog.info? 71).map (·.size)=J arr.size:=by rw[h.n20];exact D5
theorem Vv {v:bB}{cs:List bB}(hc:Hp (fun k=>k<C) w ct v)(hR:I6.R (fun k=>k<C) w st cs)(hC:C≤w.heap.size):
  ∃cv aa,v=O cv∧cs=aa.toList∧BkSt ct st C w (((w.alloc (H cv 41)).alloc (H aa 71)).alloc (H Bq 71)) cv aa:=by
 obtain⟨tv,iv,rfl,h1,h2⟩:=hc;have hb:=(Hx w (H #[tv,iv] 41) (H cs.toArray 71) (H Bq 71));exact⟨_,_,rfl,by simp,Ad (Ad (Ab _ _) _) _,⟨Ad (Ca w _ _) _,Fe w _ _ _,hb,by simp⟩,⟨tv,iv,rfl,h1.keep (Ae (hb.mono hC)),h2.keep (Ae (hb.mono hC))⟩,by simpa using I6.keep (Ae (hb.mono hC)) hR,hC,rfl,by rw[eM];exact I6.len hR,by
  obtain⟨o1,c1,o2,c2,o3,c3,o4,c4,o5,c5,op,xk,xn,xs,s,ab,n8,o6,k6,c6,o7,c7,rfl,_⟩:=Ba hR;exact Pv (B7 _ _ _) (B7 _ _ _) (B7 _ _ _) (B7 _ _ _) (B7 _ _ _) (B7 _ _ _) (B7 _ _ _)⟩
end
theorem A3w:Bq.all (·.oneCell')=aO:=Pv (B7 _ _ _) (B7 _ _ _) (B7 _ _ _) (B7 _ _ _) (B7 _ _ _) (B7 _ _ _) (B7 _ _ _)
theorem Nl.told {α}{K}{R:Except Int (List α)}{F}{w}{v}(h:Nl K R F w v):∃ao c,v=bH #[G ao (Lb R).length c,aL aN (Lc R)]∧IsL K F w (G ao (Lb R).length c) (Lb R):=by
 cases R with
 |error m=>exact⟨M,0,h,IsL.nil _ _ _⟩
 |ok l=>
  obtain⟨ao,k,c,rfl,hl⟩:=h;have e:=(Ew hl).1;subst e;exact⟨ao,c,rfl,hl⟩
theorem Zu.told {R}{F}{w}{v}(h:Zu R F w v):∃a:Array bB,v=bH #[O a,aL aN (Lc R)]∧a.size=8∧a.all (·.oneCell')=aO∧IsE F w (Ald R) (O a):=by
 cases R with
 |error m=>exact⟨_,h,rfl,C5 _ _ _ _ _ _ _ _,J4 fun _=>rfl⟩
 |ok e=>
  obtain⟨op,x,s,nm,n,ao,k,c,rfl,hE⟩:=h;exact⟨_,rfl,rfl,C5 _ _ _ _ _ _ _ _,hE⟩
theorem P4 {α}{R:Except Int (List α)}(hm:∀m,R=I m→m≠0):(Lc R=0∧R=U (Lb R))∨((Lc R !=0)=aO∧R=I (Lc R)):=by
 cases R with
 |ok l=>exact .inl ⟨rfl,rfl⟩
 |error m=>exact .inr ⟨by simpa[Lc]using hm m rfl,rfl⟩
structure CmSt (C:Nat) (w W:aY) (arr:Array bB) (st:Stm):Prop where
 se:SeSt w W arr
 is:I6.R (Fx C (w.heap.size+3)) W st arr.toList
 le:C≤w.heap.size
section
variable {C:Nat}{w W W':aY}{arr:Array bB}{st:Stm}
theorem CmSt.below (h:CmSt C w W arr st)(hb:N W.heap.size W W'):CmSt C w W' arr st:=⟨h.se.below hb,I6.keep (Ak hb) h.is,h.le⟩
theorem CmSt.n20 (h:CmSt C w W arr st):arr.size=20:=by have:=I6.len h.is;assumption
theorem CmSt.si (h:CmSt C w W arr st):(Tryz.prog.info? 71).map (·.size)=J arr.size:=Nm h.n20
theorem CmSt.one (h:CmSt C w W arr st):arr.all (·.oneCell')=aO:=by
 obtain⟨o1,c1,o2,c2,o3,c3,o4,c4,o5,c5,op,xk,xn,xs,s,aa,n8,o6,k6,c6,o7,c7,e,_⟩:=Ba h.is;obtain rfl:=aC.1 e;exact Pv (B7 _ _ _) (B7 _ _ _) (B7 _ _ _) (B7 _ _ _) (B7 _ _ _) (B7 _ _ _) (B7 _ _ _)
theorem CmSt.keep (h:CmSt C w W arr st)(i:Nat)(v:bB):Keeps (Fx C (w.heap.size+3)) W (W.setCell ⟨w.heap.size+1,i,M⟩ v):=
 (Keeps.refl _ _).set (fun hf=>by have:=h.le;rcases hf with hf|hf<;>omega) _ _
theorem CmSt.free (h:CmSt C w W arr st)(i:Nat):W.frozen? ⟨w.heap.size+1,i,M⟩=aQ:=by simp[dD,h.se.stm]
theorem CmSt.get_rows (h:CmSt C w W arr st):∃ao c,W.cell? ⟨w.heap.size+1,5,M⟩=J (G ao st.rows.length c)∧IsL H6 (fun k=>k<W.heap.size) W (G ao st.rows.length c) st.rows:=by
 obtain⟨o1,c1,o2,c2,o3,c3,o4,c4,o5,c5,op,xk,xn,xs,s,aa,n8,o6,k6,c6,o7,c7,e,i1,i2,i3,i4,i5,i6,i7⟩:=Ba h.is;obtain rfl:=aC.1 e;exact⟨_,_,Aa h.se.stm rfl,i2.mono fun _ hk _=>hk⟩
theorem CmSt.set_rows (h:CmSt C w W arr st){l:List (List E)}{ao:Option Addr}{c:Nat}(hl:IsL H6 (Fx C (w.heap.size+3)) W (G ao l.length c) l):∃a,CmSt C w (W.setCell ⟨w.heap.size+1,5,M⟩ (G ao l.length c)) a {st with rows:=l}∧a.extract 9 17=arr.extract 9 17:=by
 obtain⟨o1,c1,o2,c2,o3,c3,o4,c4,o5,c5,op,xk,xn,xs,s,aa,n8,o6,k6,c6,o7,c7,e,i1,i2,i3,i4,i5,i6,i7⟩:=Ba h.is;obtain rfl:=aC.1 e;have i2:=hl;exact⟨_,⟨h.se.set 5 _,I6.keep (h.keep 5 _) (Nv i1 i2 i3 i4 i5 i6 i7),h.le⟩,rfl⟩
theorem CmSt.get_sets (h:CmSt C w W arr st):∃ao c,W.cell? ⟨w.heap.size+1,6,M⟩=J (G ao st.sets.length c)∧IsL E8 (fun k=>k<W.heap.size) W (G ao st.sets.length c) st.sets:=by
 obtain⟨o1,c1,o2,c2,o3,c3,o4,c4,o5,c5,op,xk,xn,xs,s,aa,n8,o6,k6,c6,o7,c7,e,i1,i2,i3,i4,i5,i6,i7⟩:=Ba h.is;obtain rfl:=aC.1 e;exact⟨_,_,Aa h.se.stm rfl,i3.mono fun _ hk _=>hk⟩
theorem CmSt.set_sets (h:CmSt C w W arr st){l:List ((Wd×E))}{ao:Option Addr}{c:Nat}(hl:IsL E8 (Fx C (w.heap.size+3)) W (G ao l.length c) l):∃a,CmSt C w (W.setCell ⟨w.heap.size+1,6,M⟩ (G ao l.length c)) a {st with sets:=l}∧a.extract 9 17=arr.extract 9 17:=by
 obtain⟨o1,c1,o2,c2,o3,c3,o4,c4,o5,c5,op,xk,xn,xs,s,aa,n8,o6,k6,c6,o7,c7,e,i1,i2,i3,i4,i5,i6,i7⟩:=Ba h.is;obtain rfl:=aC.1 e;have i3:=hl;exact⟨_,⟨h.se.set 6 _,I6.keep (h.keep 6 _) (Nv i1 i2 i3 i4 i5 i6 i7),h.le⟩,rfl⟩
theorem CmSt.get_out (h:CmSt C w W arr st):∃ao c,W.cell? ⟨w.heap.size+1,8,M⟩=J (G ao st.out.length c)∧IsL Az (fun k=>k<W.heap.size) W (G ao st.out.length c) st.out:=by
 obtain⟨o1,c1,o2,c2,o3,c3,o4,c4,o5,c5,op,xk,xn,xs,s,aa,n8,o6,k6,c6,o7,c7,e,i1,i2,i3,i4,i5,i6,i7⟩:=Ba h.is;obtain rfl:=aC.1 e;exact⟨_,_,Aa h.se.stm rfl,i5.mono fun _ hk _=>hk⟩
theorem CmSt.set_out (h:CmSt C w W arr st){l:List (E)}{ao:Option Addr}{c:Nat}(hl:IsL Az (Fx C (w.heap.size+3)) W (G ao l.length c) l):∃a,CmSt C w (W.setCell ⟨w.heap.size+1,8,M⟩ (G ao l.length c)) a {st with out:=l}∧a.extract 9 17=arr.extract 9 17:=by
 obtain⟨o1,c1,o2,c2,o3,c3,o4,c4,o5,c5,op,xk,xn,xs,s,aa,n8,o6,k6,c6,o7,c7,e,i1,i2,i3,i4,i5,i6,i7⟩:=Ba h.is;obtain rfl:=aC.1 e;have i5:=hl;exact⟨_,⟨h.se.set 8 _,I6.keep (h.keep 8 _) (Nv i1 i2 i3 i4 i5 i6 i7),h.le⟩,rfl⟩
theorem CmSt.get_order (h:CmSt C w W arr st):∃ao c,W.cell? ⟨w.heap.size+1,17,M⟩=J (G ao st.order.length c)∧IsL Az (fun k=>k<W.heap.size) W (G ao st.order.length c) st.order:=by
 obtain⟨o1,c1,o2,c2,o3,c3,o4,c4,o5,c5,op,xk,xn,xs,s,aa,n8,o6,k6,c6,o7,c7,e,i1,i2,i3,i4,i5,i6,i7⟩:=Ba h.is;obtain rfl:=aC.1 e;exact⟨_,_,Aa h.se.stm rfl,i7.mono fun _ hk _=>hk⟩
theorem CmSt.set_order (h:CmSt C w W arr st){l:List (E)}{ao:Option Addr}{c:Nat}(hl:IsL Az (Fx C (w.heap.size+3)) W (G ao l.length c) l):∃a,CmSt C w (W.setCell ⟨w.heap.size+1,17,M⟩ (G ao l.length c)) a {st with order:=l}∧a.extract 9 17=arr.extract 9 17:=by
 obtain⟨o1,c1,o2,c2,o3,c3,o4,c4,o5,c5,op,xk,xn,xs,s,aa,n8,o6,k6,c6,o7,c7,e,i1,i2,i3,i4,i5,i6,i7⟩:=Ba h.is;obtain rfl:=aC.1 e;have i7:=hl;exact⟨_,⟨h.se.set 17 _,I6.keep (h.keep 17 _) (Nv i1 i2 i3 i4 i5 i6 i7),h.le⟩,rfl⟩
theorem CmSt.get_wher (h:CmSt C w W arr st):∃cw:List bB,cw.length=8∧W.rangeAt (w.heap.size+1) 9 cw∧arr.extract 9 17=cw.toArray:=by
 obtain⟨o1,c1,o2,c2,o3,c3,o4,c4,o5,c5,op,xk,xn,xs,s,aa,n8,o6,k6,c6,o7,c7,e,i1,i2,i3,i4,i5,i6,i7⟩:=Ba h.is;obtain rfl:=aC.1 e;refine⟨(Af op ⟨xk,xn,xs⟩ s aa n8 (G o6 k6 c6)).toList,rfl,fun j v hj=>?_,rfl⟩;refine Aa h.se.stm ?_
 match j,hj with
 |0,hj|1,hj|2,hj|3,hj|4,hj|5,hj|6,hj|7,hj=>exact hj
theorem CmSt.set_wher (h:CmSt C w W arr st){x:E}{a:Array bB}(hx:IsE (Fx C (w.heap.size+3)) W x (O a)):W.there (w.heap.size+1) 9 a.size∧∃a',CmSt C w (W.setCells (w.heap.size+1) 9 a.toList) a' {st with wher:=x}:=by
 obtain⟨o1,c1,o2,c2,o3,c3,o4,c4,o5,c5,op,xk,xn,xs,s,ag,n8,o6,k6,c6,o7,c7,e,i1,i2,i3,i4,i5,i6,i7⟩:=Ba h.is;obtain rfl:=aC.1 e;obtain⟨aa,⟨ab,ac,ad⟩,s',ae,n',af,k',c',he,_⟩:=Rm hx;obtain rfl:=cO he;have hk:Keeps (Fx C (w.heap.size+3)) W (W.setCells (w.heap.size+1) 9 (Af aa ⟨ab,ac,ad⟩ s' ae n' (G af k' c')).toList):=
  ⟨by rw[Gb];simp,fun k hf _=>Dx (fun e=>by have:=h.le;rw[e]at hf;rcases hf with hf|hf<;>omega) _ _ _⟩
 refine⟨fun j hj=>?_,_,h.se.wher _ _ _ _ _ _ _ _,I6.keep hk (Nv i1 i2 i3 i4 i5 hx i7),h.le⟩;have ah:j<8:=hj;exact⟨by rw[Aa h.se.stm (j:=9+j) (Array.getElem?_eq_getElem (show 9+j<20 by omega))];rfl,h.free _⟩
theorem CmSt.bad {R:Except Int Stm}{F:Nat→Prop}{z:Int}(h:CmSt C w W arr st)(hR:R=I z):Jp R F W' (bH #[O arr,aL aN z]):=⟨arr,h.n20,h.one,by rw[hR]⟩
theorem CmSt.good {R:Except Int Stm}(h:CmSt C w W arr st)(hR:R=U st):Jp R (Fx C w.heap.size) (W.setRow (w.heap.size+1+1) arr) (bH #[O arr,aL aN 0]):=by
 refine⟨arr,h.n20,h.one,?_⟩;rw[hR];exact⟨rfl,I6.mono (fun _ _ h=>h.imp id fun h=>aA (by omega) h) (I6.keep ((Keeps.refl _ _).row (fun hf=>by have:=h.le;rcases hf with hf|hf<;>omega) _) h.is)⟩
theorem CmSt.ld (h:CmSt C w W arr st){aa:Array Oper}{rest:List Oper}{o:Oper}{a:Act}{Q:Exit→Act→aY→Prop}(ab:o.guard=M){x:Operand}(ho:o.op=.load 71 x)(hx:a.eval x=cQ (J ⟨w.heap.size+1,0,M⟩))(k:wpList aB aa Q rest (a.put o.dst (O arr)) W):wpList aB aa Q (o::rest) a W:=
 aM ab _ x ho _ hx _ _ _ _ h.se.stm aG rfl h.si k
theorem CmSt.sto (h:CmSt C w W arr st){aa:Array Oper}{rest:List Oper}{o:Oper}{a:Act}{Q:Exit→Act→aY→Prop}(ab:o.guard=M){x y:Operand}(ho:o.op=.store 71 x y)(hx:a.eval x=cQ (J ⟨w.heap.size+1+1,0,M⟩))(hy:a.eval y=O arr)(k:wpList aB aa Q rest (a.put o.dst undef) (W.setRow (w.heap.size+1+1) arr)):wpList aB aa Q (o::rest) a W:=
 bX ab _ x y ho _ _ hx hy _ _ h.se.room h.si h.n20.symm h.one k
theorem CmSt.fin (h:CmSt C w W arr st){R:Except Int Stm}{z:Int}(hA:Jp R (Fx C w.heap.size) (W.setRow (w.heap.size+1+1) arr) (bH #[O arr,aL aN z])){fn:Func}{p q:Tmp}(hr:fn.results=#[.cell p 71,.tmp q]){a:Act}(hp:a.tmps.getD p undef=cQ (J ⟨w.heap.size+1+1,0,M⟩))(hq:a.tmps.getD q undef=aL aN z)(hd:a.defers=[]):
  bodyPost aB fn (fun r w'=>(∃u,r=aE u∧Jp R (Fx C w.heap.size) w' u)∧N w.heap.size w w') .ret a (W.setRow (w.heap.size+1+1) arr):=
 bE (Dn hr _ _ _ 71 arr _ _ _ hp hq (Ao h.se.room) aG rfl h.si) hd ⟨⟨_,rfl,hA⟩,Below.row h.se.bel (by omega) _⟩
end
def Gk (ct:CatD)(st:Stm):Except Int Stm:=
 match Bu ct.tables st.table with
 |none=>I 3
 |some t=>match Is t.cols st.rows with
  |I m=>I m
  |U rows=>match Cr t [] st.sets with
   |I m=>I m
   |U sets=>match whR [t] st.wher with
    |I m=>I m
    |U wh=>U {st with rows:=rows,sets:=sets,wher:=wh}
theorem Yl {t}:∀{seen:List Wd}{l:List (Wd×E)}{m:Int},Cr t seen l=I m→m=3∨m=4∨m=5
 |seen,[],m,h=>by simp[Cr]at h
 |seen,x::l,m,h=>by
  simp only[Cr]at h;cases hx:Sd t seen x with
  |error j=>
   rw[hx]at h;obtain rfl:=aF h;exact Ayb hx
  |ok r=>
   rw[hx]at h;simp only at h;cases hl:Cr t _ l with
   |error j=>
    rw[hl]at h;obtain rfl:=aF h;exact Yl hl
   |ok rs=>grind
structure TbAt (b:Nat) (W:aY) (t:TabD) (cv:bB) (q:Nat):Prop where
 tab:W.heap[q]?=J (H #[D t.name,cv] 74)
 lo:b+3≤q
theorem TbAt.below {b}{W W'}{t}{cv}{q}(h:TbAt b W t cv q)(hb:N W.heap.size W W'):TbAt b W' t cv q:=⟨(hb.block _ (aD h.tab)).trans h.tab,h.lo⟩
theorem TbAt.set {b}{W}{t}{cv}{q}(h:TbAt b W t cv q)(i)(v):TbAt b (W.setCell ⟨b+1,i,M⟩ v) t cv q:=⟨(eG _ _ _ _ (by have:=h.lo;grind)).trans h.tab,h.lo⟩
theorem Af0 (ct)(v)(st)(cs)(C)(w)(hc:Hp (fun k=>k<C) w ct v)(hR:I6.R (fun k=>k<C) w st cs)(hC:C≤w.heap.size)
  (am:∀r∈st.rows,∀a∈r,geB 40 a=aO) (an:∀p∈st.sets,geB 40 p.2=aO) (ap:st.wher.opn≠0→geB 40 st.wher=aO)
  (av:st.rows.length≤16777216) (aq:∀r∈st.rows,r.length≤16777216) (ar:st.sets.length≤16777216) (hs:∀p∈st.sets,p.1.size≤bA) (ak:∀t∈ct.tables,t.cols.length≤1000000):
  aT aB 95 #[v,O cs.toArray] w fun r w'=>(∃u,r=aE u∧Jp (Gk ct st) (Fx C w.heap.size) w' u)∧N w.heap.size w w':=by
 obtain⟨cv,al,rfl,rfl,B0⟩:=Vv hc hR hC;rw[aV];obtain⟨tv,iv,e0,ai,aj⟩:=B0.ic;obtain rfl:=cO e0;obtain⟨o1,c1,o2,c2,o3,c3,o4,c4,o5,c5,op,xk,xn,xs,s,bc,n8,o6,k6,c6,o7,c7,e,_,j2,j3,_,_,i6,_⟩:=Ba hR;have a2:(((w.alloc (H #[tv,iv] 41)).alloc (H al 71)).alloc (H Bq 71)).cell? ⟨w.heap.size+1,2,M⟩=J (D st.table):=by
  have:=B0.se.stm;rw[aC.1 e]at this⊢;exact Aa this rfl
 have hX:IsE (fun k=>k<C) w st.wher (O (al.extract 9 17)):=by rw[aC.1 e];exact i6
 clear e e0;have M0:CmSt C w _ al st:=⟨B0.se,I6.mono (fun _ _ h=>.inl h) B0.is,hC⟩;rcases ac:Bu ct.tables st.table with _|t
 ·have HE:Hid (Gk ct st=I 3):=by show _=_;rw[Gk,ac]
  have HF:=Jn ac tv iv (Gf aj) C _ ai B0.leW;go_enter Tryz.func95,Tryz.ntmps95;clear ai aj ac am an ap av aq ar hs hX ak hc hR i6 j2 j3;go_wp2_with(first|(refine aM rfl 41 _ rfl w.heap.size ?_ 41 _ (0,0) _ B0.cat aU ?_ ?_ ?_;exact rfl;exact rfl;exact B0.ci)|(go_fit HF;rintro e w1 ⟨rfl,ag⟩;have M1:=(M0.below ag).below (Aq w1 (.cells #[.string noW,.slice M 0 0] 74)))|(refine M1.ld rfl rfl ?_ ?_;exact rfl)|(refine M1.sto rfl rfl ?_ ?_ ?_;exact rfl;exact rfl));exact M1.fin (M1.bad HE.out) bZ rfl rfl rfl
 have HF:=Hv ac tv iv (Gf aj) C _ ai B0.leW;have aw:=ak t (aX ac);have HE:Hid (Gk ct st=match Is t.cols st.rows with
   |I m=>I m
   |U rows=>match Cr t [] st.sets with
    |I m=>I m
    |U sets=>match whR [t] st.wher with
     |I m=>I m
     |U wh=>U {st with rows:=rows,sets:=sets,wher:=wh}):=by show _=_;unfold Gk;rw[ac]
 go_enter Tryz.func95,Tryz.ntmps95;go_upto_region 5 with(first|(refine aM rfl 41 _ rfl w.heap.size ?_ 41 _ (0,0) _ B0.cat aU ?_ ?_ ?_;exact rfl;exact rfl;exact B0.ci)|(go_fit HF;rintro e w1 ⟨ad,n2,ae,rfl,aa,ag⟩));have M1:=(M0.below ag).below (Aq w1 (H #[D t.name,G ad n2 ae] 74));have T1:TbAt w.heap.size (w1.alloc (H #[D t.name,G ad n2 ae] 74)) t (G ad n2 ae) w1.heap.size:=⟨Ab _ _,by have:=ag.size;simp at this;omega⟩;have aa:=aa.keep (Ak (Aq w1 (H #[D t.name,G ad n2 ae] 74)));clear HF ag ai aj ac ak hc hR i6 j2 j3 M0 B0 a2;generalize w1.heap.size=q at*;generalize w1.alloc (H #[D t.name,G ad n2 ae] 74)=W1 at*;obtain⟨ao,c,a5,hO⟩:=M1.get_rows;have p0:=Aa T1.tab (j:=0) rfl;have p1:=Aa T1.tab (j:=1) rfl;have HO:=Alf t.name t.cols _ 40 st.rows _ W1.heap.size W1 hO (aa.mono fun _ hk _=>hk) (aS _) am (by omega) fun r hr=>aA (aq r hr) (by decide)
 clear hO;go_upto_region 6 with(go_fit HO;rintro e w2 ⟨⟨u,rfl,hu⟩,ab⟩;obtain⟨af,oc,rfl,ah⟩:=hu.told;have M2:=M1.below ab;obtain⟨_,_,q5,_⟩:=M2.get_rows;have f5:=M2.free 5);have T2:=(T1.below ab).set 5 (G af (Lb (Is t.cols st.rows)).length oc);have aa:=(aa.keep (Ak ab)).keep ((Keeps.refl _ _).set (by intro h;have:w.heap.size+1<C:=h;omega) 5 (G af (Lb (Is t.cols st.rows)).length oc));obtain⟨a2,M2,x2⟩:=M2.set_rows (ah.mono fun k _ (hk:_≤k)=>.inr (aA M1.se.big hk));have hz:=P4 (fun m h=>by rcases Ahd h with rfl|rfl<;>decide:∀m,Is t.cols st.rows=I m→m≠0);generalize w2.setCell ⟨w.heap.size+1,5,M⟩ (G af (Lb (Is t.cols st.rows)).length oc)=W2 at*;generalize Lc (Is t.cols st.rows)=z at*;generalize Lb (Is t.cols st.rows)=l2 at*;clear ab ah hu q5 f5 a5 HO p0 p1 M1 T1;rcases hz with⟨rfl,hr⟩|⟨hz,hr⟩;rotate_left
 ·have HE:Hid (Gk ct st=I z):=by show _=_;rw[HE.out,hr]
  go_wp2_with(first|(refine M2.ld rfl rfl ?_ ?_;exact rfl)|(refine M2.sto rfl rfl ?_ ?_ ?_;exact rfl;exact rfl));exact M2.fin (M2.bad HE.out) bZ rfl rfl rfl
 have HE:Hid (Gk ct st=match Cr t [] st.sets with
    |I m=>I m
    |U sets=>match whR [t] st.wher with
     |I m=>I m
     |U wh=>U {st with rows:=l2,sets:=sets,wher:=wh}):=by show _=_;rw[HE.out,hr]
 clear hr;obtain⟨ao,c,a6,hO⟩:=M2.get_sets;have p0:=Aa T2.tab (j:=0) rfl;have p1:=Aa T2.tab (j:=1) rfl;have HO:=Alg t.name t.cols _ 40 st.sets _ W2.heap.size W2 hO (aa.mono fun _ hk _=>hk) (aS _) an ar hs aw;clear hO;go_upto_region 9 with(go_fit HO;rintro e w2 ⟨⟨u,rfl,hu⟩,ab⟩;obtain⟨af,oc,rfl,ah⟩:=hu.told;have M3:=M2.below ab;obtain⟨_,_,q6,_⟩:=M3.get_sets;have f6:=M3.free 6);have T3:=(T2.below ab).set 6 (G af (Lb (Cr t [] st.sets)).length oc);have aa:=(aa.keep (Ak ab)).keep ((Keeps.refl _ _).set (by intro h;have:w.heap.size+1<C:=h;omega) 6 (G af (Lb (Cr t [] st.sets)).length oc));obtain⟨a3,M3,x3⟩:=M3.set_sets (ah.mono fun k _ (hk:_≤k)=>.inr (aA M2.se.big hk));have hz:=P4 (fun m h=>by rcases Yl h with rfl|rfl|rfl<;>decide:∀m,Cr t [] st.sets=I m→m≠0);generalize w2.setCell _ _=W3 at*;generalize Lc _=z at*;generalize Lb _=l3 at*;clear ab ah hu q6 f6 a6 HO p0 p1 M2 T2;rcases hz with⟨rfl,hr⟩|⟨hz,hr⟩;rotate_left
 ·have HE:Hid (Gk ct st=I z):=by show _=_;rw[HE.out,hr]
  go_wp2_with(first|(refine M3.ld rfl rfl ?_ ?_;exact rfl)|(refine M3.sto rfl rfl ?_ ?_ ?_;exact rfl;exact rfl));exact M3.fin (M3.bad HE.out) bZ rfl rfl rfl
 have HE:Hid (Gk ct st=match whR [t] st.wher with
     |I m=>I m
     |U wh=>U {st with rows:=l2,sets:=l3,wher:=wh}):=by show _=_;rw[HE.out,hr]
 clear hr;have hT:=Aq W3 (H #[D t.name,G ad n2 ae] 74);have M4:=M3.below hT;obtain⟨cw,au,ra,hO⟩:=M4.get_wher;rw[←x2,←x3,hO]at hX;have hX:=IsE.keep (Ae (M4.se.bel.mono hC)) _ _ hX;have HO:=Xd [⟨_,_⟩] (show 1≤1000 by simp) (by grind) 40 _ _ _ C _ _ hX (Ap2 (Ab W3 _) ((aa.keep (Ak hT)).mono fun _ hk _=>hk)) (aA hC M4.se.bel.size) (aS _) ap;have hi:(Tryz.prog.info? 69).map (·.size)=J cw.length:=by rw[au];exact Ay
 have p0:=Aa T3.tab (j:=0) rfl;have p1:=Aa T3.tab (j:=1) rfl;clear hO au hX x2 x3 aa T3 M3;go_wp2_with(first|(refine wpList_load_mid rfl 69 _ rfl _ 9 ?_ cw _ ra eL rfl ?_ ?_;exact rfl;exact hi)|(go_fit HO;rintro e w4 ⟨⟨u,rfl,hu⟩,ax⟩;obtain⟨a,rfl,ay,az,hE⟩:=hu.told;have ba:(Tryz.prog.info? 69).map (·.size)=J a.size:=(by rw[ay];rfl);have h4:=(M4.below ax).set_wher (IsE.mono (fun k _ hk=>hk.imp id fun h=>aA M4.se.big h) _ _ hE);have bb:=h4.1;obtain⟨a5,M5⟩:=h4.2)|(refine wpList_store_mid rfl 69 _ _ rfl (w.heap.size+1) 9 a ?_ ?_ ?_ ?_ ?_ ?_;exact rfl;exact rfl;exact bb;exact ba;exact az)|(refine M5.ld rfl rfl ?_ ?_;exact rfl)|(refine M5.sto rfl rfl ?_ ?_ ?_;exact rfl;exact rfl));refine M5.fin (z:=Lc (whR [t] _)) ?_ bZ rfl rfl rfl;have M5:CmSt C w _ a5 {st with rows:=l2,sets:=l3,wher:=Ald (whR [t] _)}:=M5;generalize whR [t] _=R at M5 HE⊢;cases R with
 |error m=>exact M5.bad HE.out
 |ok e=>exact M5.good HE.out
def Fc (ct:CatD)(st:Stm):Except Int Stm:=
 match G2 ct.tables st.frm with
 |I m=>I m
 |U S=>match Lx S st.out with
  |I m=>I m
  |U out=>match I8 S st.order with
   |I m=>I m
   |U order=>match whR S st.wher with
    |I m=>I m
    |U wh=>U {st with out:=out,order:=order,wher:=wh}
theorem Aur {T}{s}{t}(h:Bu T s=J t):t∈T:=aX h
theorem Alj {α β}{f}{P:β→Prop}(hf:∀seen a b,f seen a=U b→P b):∀{seen l:List α}{rs:List β},Eo f seen l=U rs→rs.length=l.length∧∀b∈rs,P b
 |seen,[],rs,h=>by
  simp only[Eo,eE]at h;grind
 |seen,x::l,rs,h=>by
  simp only[Eo]at h;cases hx:f seen x with
  |error j=>grind
  |ok r=>
   rw[hx]at h;simp only at h;cases hl:Eo f (seen++[x]) l with
   |error j=>grind
   |ok rs'=>
    rw[hl]at h;simp only[eE]at h;subst h;obtain⟨h1,h2⟩:=Alj hf hl;grind
theorem Ahe {α β}{f:List α→α→Except Int β}{P:Int→Prop}(hf:∀seen a m,f seen a=I m→P m):∀{seen l:List α}{m:Int},Eo f seen l=I m→P m
 |seen,[],m,h=>by simp[Eo]at h
 |seen,x::l,m,h=>by
  simp only[Eo]at h;cases hx:f seen x with
  |error j=>
   rw[hx]at h;obtain rfl:=aF h;exact hf _ _ _ hx
  |ok r=>
   rw[hx]at h;simp only at h;cases hl:Eo f _ l with
   |error j=>
    rw[hl]at h;obtain rfl:=aF h;exact Ahe hf hl
   |ok rs=>rw[hl]at h;cases h
theorem Ayh {T}{seen}{s}{t}(h:It T seen s=U t):t∈T:=by
 unfold It at h;cases ht:Bu T s with
 |none=>grind
 |some t'=>
  rw[ht]at h;simp only at h;split at h
  ·grind
  ·obtain rfl:=Except.ok.inj h;exact Aur ht
theorem Aus {T}{seen}{s}{m}(h:It T seen s=I m):m=3∨m=4:=by
 unfold It at h;grind
theorem Aut {T}{l}{S}(h:G2 T l=U S):S.length≤2∧∀t∈S,t∈T:=by
 unfold G2 at h;split at h
 ·grind
 ·obtain⟨h1,h2⟩:=Alj (P:=fun t=>t∈T) (fun _ _ _ hb=>Ayh hb) h;grind
theorem Ad3 {T}{l}{m}(h:G2 T l=I m):m=1∨m=3∨m=4:=by
 unfold G2 at h;split at h
 ·grind
 ·exact .inr (Ahe (fun _ _ _ hb=>Aus hb) h)
theorem Ab0 {S}{l}{m}(h:I8 S l=I m):m=3∨m=5:=by
 unfold I8 at h;cases hb:Bd S l with
 |error k=>
  rw[hb]at h;obtain rfl:=aF h;exact Vo S l _ hb
 |ok r=>grind
theorem Alk {S}{l}{m}(h:Lx S l=I m):m=3∨m=5:=by
 unfold Lx at h;split at h
 ·grind
 ·exact Ab0 h
theorem Af1 (ct)(v)(st)(cs)(C)(w)(hc:Hp (fun k=>k<C) w ct v)(hR:I6.R (fun k=>k<C) w st cs)(hC:C≤w.heap.size)
  (an:∀a∈st.out,geB 40 a=aO) (ap:∀a∈st.order,geB 40 a=aO) (aq:st.wher.opn≠0→geB 40 st.wher=aO)
  (bc:st.out.length≤16777216) (bd:st.order.length≤16777216) (hs:∀s∈st.frm,s.size≤bA) (ah:∀t∈ct.tables,t.cols.length≤1000000):
  aT aB 96 #[v,O cs.toArray] w fun r w'=>(∃u,r=aE u∧Jp (Fc ct st) (Fx C w.heap.size) w' u)∧N w.heap.size w w':=by
 obtain⟨cv,ac,rfl,rfl,B0⟩:=Vv hc hR hC;rw[aV];obtain⟨tv,iv,e0,ai,aj⟩:=B0.ic;obtain rfl:=cO e0;obtain⟨o1,c1,o2,c2,o3,c3,o4,c4,o5,c5,op,xk,xn,xs,s,be,n8,o6,k6,c6,o7,c7,e,_,_,_,i4,_,i6,_⟩:=Ba hR;have a7:(((w.alloc (H #[tv,iv] 41)).alloc (H ac 71)).alloc (H Bq 71)).cell? ⟨w.heap.size+1,7,M⟩=J (G o4 st.frm.length c4):=by
  have:=B0.se.stm;rw[aC.1 e]at this⊢;exact Aa this rfl
 have hX:IsE (fun k=>k<C) w st.wher (O (ac.extract 9 17)):=by rw[aC.1 e];exact i6
 clear e e0;have HS:=(Aoa ct.tables tv iv (Gf aj) st.frm _ C _ ai (i4.keep (Ae (B0.se.bel.mono hC))) B0.leW hs);have M0:CmSt C w _ ac st:=⟨B0.se,I6.mono (fun _ _ h=>.inl h) B0.is,hC⟩;have HE:Hid (Fc ct st=Fc ct st):=rfl;go_enter Tryz.func96,Tryz.ntmps96;go_upto_region 2 with(first|(refine aM rfl 41 _ rfl w.heap.size ?_ 41 _ (0,0) _ B0.cat aU ?_ ?_ ?_;exact rfl;exact rfl;exact B0.ci)|(go_fit HS;rintro e w1 ⟨⟨u,rfl,hu⟩,ak⟩;obtain⟨bf,sc,rfl,hS⟩:=hu.told));have M1:=M0.below ak;have hz:=P4 (fun m h=>by rcases Ad3 h with rfl|rfl|rfl<;>decide:∀m,G2 ct.tables st.frm=I m→m≠0);have hS:=hS.mono (F':=Fx C (w.heap.size+3)) fun _ _ h=>h.imp id fun h=>aA (by simp) h
 clear HS M0 B0 ak hu ai aj hc hR a7 i4;generalize Lc (G2 ct.tables st.frm)=z at*;generalize Lb (G2 ct.tables st.frm)=S at*;rcases hz with⟨rfl,hr⟩|⟨hz,hr⟩;rotate_left
 ·have HE:Hid (Fc ct st=I z):=by show _=_;rw[Fc,hr]
  go_wp2_with(first|(refine M1.ld rfl rfl ?_ ?_;exact rfl)|(refine M1.sto rfl rfl ?_ ?_ ?_;exact rfl;exact rfl));exact M1.fin (M1.bad HE.out) bY rfl rfl rfl
 obtain⟨ar,al⟩:=Aut hr;have ad:S.length≤1000:=by omega
 have ae:∀t∈S,t.cols.length≤1000000:=fun t ht=>ah t (al t ht)
 have HE:Hid (Fc ct st=match Lx S st.out with
   |I m=>I m
   |U out=>match I8 S st.order with
    |I m=>I m
    |U order=>match whR S st.wher with
     |I m=>I m
     |U wh=>U {st with out:=out,order:=order,wher:=wh}):=by show _=_;unfold Fc;rw[hr]
 clear hr ar al ah;obtain⟨ao,c,a8,hO⟩:=M1.get_out;have HO:=An9 S ad ae 40 st.out _ _ w1.heap.size w1 hO (hS.mono fun _ hk _=>hk) (aS _) an (by omega);clear hO;go_upto_region 5 with(go_fit HO;rintro e w2 ⟨⟨u,rfl,hu⟩,af⟩;obtain⟨ab,oc,rfl,aa⟩:=hu.told;have M2:=M1.below af;obtain⟨_,_,q8,_⟩:=M2.get_out;have f8:=M2.free 8);have hS:=(hS.keep (Ak af)).keep (M2.keep 8 (G ab (Lb (Lx S st.out)).length oc));obtain⟨a2,M2,x2⟩:=M2.set_out (aa.mono fun k _ (hk:_≤k)=>.inr (aA M1.se.big hk));have hz:=P4 (fun m h=>by rcases Alk h with rfl|rfl<;>decide:∀m,Lx S st.out=I m→m≠0);generalize w2.setCell ⟨w.heap.size+1,8,M⟩ (G ab (Lb (Lx S st.out)).length oc)=W2 at*;generalize Lc (Lx S st.out)=z at*;generalize Lb (Lx S st.out)=out2 at*;clear af aa hu q8 f8;rcases hz with⟨rfl,hr⟩|⟨hz,hr⟩;rotate_left
 ·have HE:Hid (Fc ct st=I z):=by show _=_;rw[HE.out,hr]
  go_wp2_with(first|(refine M2.ld rfl rfl ?_ ?_;exact rfl)|(refine M2.sto rfl rfl ?_ ?_ ?_;exact rfl;exact rfl));exact M2.fin (M2.bad HE.out) bY rfl rfl rfl
 have HE:Hid (Fc ct st=match I8 S st.order with
   |I m=>I m
   |U order=>match whR S st.wher with
    |I m=>I m
    |U wh=>U {st with out:=out2,order:=order,wher:=wh}):=by show _=_;rw[HE.out,hr]
 clear hr HO M1 a8;obtain⟨ao,c,au,hO⟩:=M2.get_order;have HO:=Aar S ad ae 40 st.order _ _ W2.heap.size W2 hO (hS.mono fun _ hk _=>hk) (aS _) ap (by omega);clear hO;go_upto_region 8 with(go_fit HO;rintro e w3 ⟨⟨u,rfl,hu⟩,ag⟩;obtain⟨ab,oc,rfl,aa⟩:=hu.told;have M3:=M2.below ag;obtain⟨_,_,av,_⟩:=M3.get_order;have aw:=M3.free 17);have hS:=(hS.keep (Ak ag)).keep (M3.keep 17 (G ab (Lb (I8 S st.order)).length oc));obtain⟨a3,M3,x3⟩:=M3.set_order (aa.mono fun k _ (hk:_≤k)=>.inr (aA M2.se.big hk));have hz:=P4 (fun m h=>by rcases Ab0 h with rfl|rfl<;>decide:∀m,I8 S st.order=I m→m≠0);generalize w3.setCell _ _=W3 at*;generalize Lc _=z at*;generalize Lb _=ord2 at*;clear ag aa hu av aw;rcases hz with⟨rfl,hr⟩|⟨hz,hr⟩;rotate_left
 ·have HE:Hid (Fc ct st=I z):=by show _=_;rw[HE.out,hr]
  go_wp2_with(first|(refine M3.ld rfl rfl ?_ ?_;exact rfl)|(refine M3.sto rfl rfl ?_ ?_ ?_;exact rfl;exact rfl));exact M3.fin (M3.bad HE.out) bY rfl rfl rfl
 have HE:Hid (Fc ct st=match whR S st.wher with
   |I m=>I m
   |U wh=>U {st with out:=out2,order:=ord2,wher:=wh}):=by show _=_;rw[HE.out,hr]
 clear hr HO M2 au;obtain⟨cw,am,ra,hO⟩:=M3.get_wher;rw[←x2,←x3,hO]at hX;have hX:=IsE.keep (Ae (M3.se.bel.mono hC)) _ _ hX;have HO:=Xd S ad ae 40 _ _ _ C _ W3 hX (hS.mono fun _ hk _=>hk) (aA hC M3.se.bel.size) (aS _) aq;have hi:(Tryz.prog.info? 69).map (·.size)=J cw.length:=by rw[am];exact Ay
 clear hO am hX x2 x3;go_wp2_with(first|(refine wpList_load_mid rfl 69 _ rfl _ 9 ?_ cw _ ra eL rfl ?_ ?_;exact rfl;exact hi)|(go_fit HO;rintro e w4 ⟨⟨u,rfl,hu⟩,ax⟩;obtain⟨a,rfl,ay,az,hE⟩:=hu.told;have ba:(Tryz.prog.info? 69).map (·.size)=J a.size:=(by rw[ay];rfl);have h4:=(M3.below ax).set_wher (IsE.mono (fun k _ hk=>hk.imp id fun h=>aA M3.se.big h) _ _ hE);have bb:=h4.1;obtain⟨a4,M4⟩:=h4.2)|(refine wpList_store_mid rfl 69 _ _ rfl (w.heap.size+1) 9 a ?_ ?_ ?_ ?_ ?_ ?_;exact rfl;exact rfl;exact bb;exact ba;exact az)|(refine M4.ld rfl rfl ?_ ?_;exact rfl)|(refine M4.sto rfl rfl ?_ ?_ ?_;exact rfl;exact rfl));refine M4.fin ?_ bY rfl rfl rfl;generalize whR S _=R at M4 HE⊢;cases R with
 |error m=>exact M4.bad HE.out
 |ok e=>exact M4.good HE.out
def O9 (m:Int)(st:Stm):Except Int Stm:=if m=0 then U st else I m
section
variable {ct:CatD}{st:Stm}{C:Nat}{w W W':aY}{cv arr:Array bB}
theorem BkSt.kind (h:BkSt ct st C w W cv arr):W.cell? ⟨w.heap.size+1,0,M⟩=J (aL aN st.kind):=by
 obtain⟨o1,c1,o2,c2,o3,c3,o4,c4,o5,c5,op,xk,xn,xs,s,aa,n8,o6,k6,c6,o7,c7,e,_⟩:=Ba h.is;obtain rfl:=aC.1 e;exact Aa h.se.stm rfl
theorem Art (h:BkSt ct st C w W cv arr)(hf:Yb ⟨st.name,st.cols⟩):aT aB 92 #[O cv,O arr] W fun r w'=>r=aE (aL aN (Kl ct st.name st.cols))∧N W.heap.size W w':=by
 obtain⟨o1,c1,o2,c2,o3,c3,o4,c4,o5,c5,op,xk,xn,xs,s,aa,n8,o6,k6,c6,o7,c7,e,i1,_⟩:=Ba h.is;obtain rfl:=aC.1 e;exact Ai4 ct _ C W h.ic h.leW _ _ _ _ _ _ _ _ _ _ _ _ _ _ _ _ _ _ _ _ _ i1 hf
theorem Ayi (h:BkSt ct st C w W cv arr)(hs:st.name.size≤bA):aT aB 93 #[O cv,O arr] W fun r w'=>r=aE (aL aN (Qz ct st.name st.table st.col))∧N W.heap.size W w':=by
 obtain⟨o1,c1,o2,c2,o3,c3,o4,c4,o5,c5,op,xk,xn,xs,s,aa,n8,o6,k6,c6,o7,c7,e,_⟩:=Ba h.is;obtain rfl:=aC.1 e;exact Aoc ct _ C W h.ic h.leW _ _ _ _ _ _ _ _ _ _ _ _ _ _ _ _ _ _ _ _ hs
theorem Ayj (h:BkSt ct st C w W cv arr):aT aB 94 #[O cv,O arr] W fun r w'=>r=aE (aL aN (Ol ct st.name))∧N W.heap.size W w':=by
 obtain⟨o1,c1,o2,c2,o3,c3,o4,c4,o5,c5,op,xk,xn,xs,s,aa,n8,o6,k6,c6,o7,c7,e,_⟩:=Ba h.is;obtain rfl:=aC.1 e;exact Aob ct _ C W h.ic h.leW _ _ _ _ _ _ _ _ _ _ _ _ _ _ _ _ _ _ _ _
theorem Jp.keep {R}{F F'}{w w'}{u}(h:Jp R F w u)(hk:Keeps F w w')(hm:∀k,F k→F' k):Jp R F' w' u:=by
 obtain⟨a,h1,h2,h3⟩:=h;refine⟨a,h1,h2,?_⟩;cases R with
 |error m=>exact h3
 |ok s=>exact⟨h3.1,I6.mono (fun k _ h=>hm k h) (I6.keep hk h3.2)⟩
theorem Jp.open {R}{F}{w}{u}(h:Jp R F w u):∃aa m,u=bH #[O aa,aL aN m]∧aa.size=20∧aa.all (·.oneCell')=aO:=by
 obtain⟨a,h1,h2,h3⟩:=h;grind
theorem BkSt.handed {W1:aY}{R:Except Int Stm}{a:Array bB}{m:Int}(h:BkSt ct st C w W cv arr)(h1:Jp R (Fx C W.heap.size) W1 (bH #[O a,aL aN m])):Jp R (Fx C w.heap.size) (W1.setRow (w.heap.size+1+1) a) (bH #[O a,aL aN m]):=by
 have:=h.se.big;have:=h.le;exact h1.keep ((Keeps.refl _ _).row (fun h=>by rcases h with h|h<;>omega) _) fun k h=>h.imp id fun h=>by omega
theorem BkSt.ans (h:BkSt ct st C w W cv arr)(m:Int):Jp (O9 m st) (Fx C w.heap.size) (W.setRow (w.heap.size+1+1) arr) (bH #[O arr,aL aN m]):=by
 refine⟨arr,h.n20,h.one,?_⟩
 by_cases h0:m=0
 ·rw[O9,if_pos h0,h0];exact⟨rfl,I6.mono (F':=Fx C w.heap.size) (fun _ _ h=>.inl h) (I6.keep ((Keeps.refl (fun k=>k<C) W).row (show¬w.heap.size+1+1<C by have:=h.le;omega) arr) h.is)⟩
 ·rw[O9,if_neg h0]
end
def Ep (ct:CatD)(st:Stm):Except Int Stm:=
 if st.kind=1 then O9 (Kl ct st.name st.cols) st
 else if st.kind=2 then O9 (Qz ct st.name st.table st.col) st
 else if st.kind=3 then O9 (Ol ct st.name) st
 else if st.kind=4∨st.kind=5∨st.kind=6 then Gk ct st
 else if st.kind=7 then Fc ct st
 else I 1
def Cn (ct:CatD)(st:Stm):Except Int Stm:=if Ds ct=aQ∨Kb st=aQ then I 1 else Ep ct st
theorem Iu {P}{ops}{S}{op}{a}(aa:op.guard=M)(ty)(x)(ho:op.op=.load ty x)(g)(hx:a.eval x=cQ (J ⟨g,0,M⟩))(cs)(t)(d)(hS:∀w,S w→w.heap[g]?=J (H cs t (0,0)))
  (hu:P.underlying ty=J d) (hd:(match d with|.struct _|.array _ _=>aO|_=>aQ)=aO) (hi:(P.info? ty).map (·.size)=J cs.size):YieldsIf P ops S op (.agg cs) a:=
 .inl ⟨by simp[Region.wanted,aa],fun w ab=>by
  unfold execOp;simp only[ho,hx,Instr.loadAt,Instr.sureAddr,Sem.run_bind,Sem.run_pure,Result.andThen_ok,run_loadVar_row w g t ty cs (0,0) d (hS w ab) hu hd hi]⟩
structure FitB (st:Stm):Prop where
 fs:FitS st
 nm:st.name.size≤bA
 cols:Zp st.cols
 rows:st.rows.length≤16777216
 row:∀r∈st.rows,r.length≤16777216
 sets:st.sets.length≤16777216
 set:∀p∈st.sets,p.1.size≤bA
 out:st.out.length≤16777216
 order:st.order.length≤16777216
 frm:∀s∈st.frm,s.size≤bA
theorem Aod {st}(h:Kb st=aO):(∀r∈st.rows,∀a∈r,geB 40 a=aO)∧(∀p∈st.sets,geB 40 p.2=aO)∧(∀a∈st.out,geB 40 a=aO)∧(∀a∈st.order,geB 40 a=aO)∧(st.wher.opn≠0→geB 40 st.wher=aO):=by
 simp only[Kb,Jd,K9,bD,bC,cJ,Bool.or_eq_true,decide_eq_true_eq]at h;obtain⟨⟨⟨⟨h1,h2⟩,h3⟩,h4⟩,h5⟩:=h;refine⟨fun r hr a ha=>?_,fun p hp=>?_,fun a ha=>?_,fun a ha=>?_,fun h0=>?_⟩
 ·have:=h1 r hr;simp only[eS,not_exists,not_and]at this;simpa[K9]using this a ha
 ·grind
 ·grind
 ·grind
 grind
theorem Ayk {ct}(h:Ds ct=aO):∀t∈ct.tables,t.cols.length≤1000000:=by
 simp only[Ds,bD,Qw,bC,decide_eq_true_eq]at h;obtain⟨⟨_,h2,_⟩,_⟩:=h;rw[Nj]at h2;intro t ht;have:=(cJ.1 h2) t ht;simp only[bC,Bool.not_eq_false,Kp,bD,decide_eq_true_eq]at this;omega
theorem Aoe {ct}{st}{m}(h:Gk ct st=I m):m=3∨m=4∨m=5:=by
 unfold Gk at h;cases h1:Bu ct.tables st.table with
 |none=>grind
 |some t=>
  rw[h1]at h;simp only at h;cases h2:Is _ _ with
  |error k=>rw[h2]at h;obtain rfl:=aF h;rcases Ahd h2 with h|h<;>simp[h]
  |ok r=>
   rw[h2]at h;simp only at h;cases h3:Cr t [] _ with
   |error k=>rw[h3]at h;obtain rfl:=aF h;exact Yl h3
   |ok q=>
    rw[h3]at h;simp only at h;cases h4:whR [t] _ with
    |error k=>
     rw[h4]at h;obtain rfl:=aF h;unfold whR at h4;split at h4
     ·grind
     ·rcases Rl h4 with h|h<;>simp[h]
    |ok e=>grind
theorem Aof {ct}{st}{m}(h:Fc ct st=I m):m=1∨m=3∨m=4∨m=5:=by
 unfold Fc at h;cases h1:G2 _ _ with
 |error k=>rw[h1]at h;obtain rfl:=aF h;rcases Ad3 h1 with h|h|h<;>simp[h]
 |ok S=>
  rw[h1]at h;simp only at h;cases h2:Lx S _ with
  |error k=>rw[h2]at h;obtain rfl:=aF h;rcases Alk h2 with h|h<;>simp[h]
  |ok r=>
   rw[h2]at h;simp only at h;cases h3:I8 S _ with
   |error k=>rw[h3]at h;obtain rfl:=aF h;rcases Ab0 h3 with h|h<;>simp[h]
   |ok q=>
    rw[h3]at h;simp only at h;cases h4:whR S _ with
    |error k=>
     rw[h4]at h;obtain rfl:=aF h;unfold whR at h4;split at h4
     ·grind
     ·rcases Rl h4 with h|h<;>simp[h]
    |ok e=>grind
theorem Ab1 {k m}{st}(h:O9 k st=I m):m=k∧k≠0:=by
 unfold O9 at h;grind
theorem Ahf {ct}{st}{m}(h:Ep ct st=I m):m=1∨m=3∨m=4∨m=5∨m=8:=by
 unfold Ep at h;split at h
 ·obtain⟨rfl,h0⟩:=Ab1 h;unfold Kl at h0⊢;omega
 ·split at h
  ·obtain⟨rfl,h0⟩:=Ab1 h;unfold Qz at h0⊢;omega
  ·split at h
   ·obtain⟨rfl,h0⟩:=Ab1 h;unfold Ol at h0⊢;omega
   ·split at h
    ·rcases Aoe h with h|h|h<;>simp[h]
    ·split at h
     ·rcases Aof h with h|h|h|h<;>simp[h]
     grind
theorem Alm (ct)(v)(st)(cs)(C)(w)(hc:Hp (fun k=>k<C) w ct v)(hR:I6.R (fun k=>k<C) w st cs)(hC:C≤w.heap.size)(hf:FitB st)(ak:Kb st=aO)(ag:∀t∈ct.tables,t.cols.length≤1000000):
  aT aB 49 #[v,O cs.toArray] w fun r w'=>(∃u,r=aE u∧Jp (Ep ct st) (Fx C w.heap.size) w' u)∧N w.heap.size w w':=by
 obtain⟨cv,aa,rfl,rfl,B⟩:=Vv hc hR hC;obtain⟨g1,g2,g3,g4,g5⟩:=Aod ak;rw[aV];have ah:Hid _:=B.n20.symm;have k0:=B.kind;have HF:Hid _:=hf;have HB:∃W0,W0=((w.alloc _).alloc _).alloc _∧BkSt ct st C w W0 cv aa:=⟨_,rfl,B⟩;obtain⟨W0,ai,B0⟩:=HB;have ab:Hid _:=ai;clear ai B hc hR hf;go_enter Tryz.func49,Tryz.ntmps49
 by_cases e0:st.kind=1∨st.kind=2∨st.kind=3
 ·rcases e0 with e|e|e
  focus
   have HE:Hid (Ep ct st=O9 (Kl ct st.name st.cols) st):=by show _=_;rw[Ep,if_pos e]
   rw[e]at k0;go_upto_region 3 with fail
  rotate_left
  focus
   have HE:Hid (Ep ct st=O9 (Qz ct st.name st.table st.col) st):=by show _=_;rw[Ep,if_neg (by omega),if_pos e]
   rw[e]at k0;go_upto_region 5 with fail
  rotate_left
  focus
   have HE:Hid (Ep ct st=O9 (Ol ct st.name) st):=by show _=_;rw[Ep,if_neg (by omega),if_neg (by omega),if_pos e]
   rw[e]at k0;go_upto_region 7 with fail
  all_goals
   rw[←ab.out];refine wp_region_held_drew (S:=N (w.heap.size+1+1) W0) (by rfl) ?_ (fun hHeld=>?_)
   ·exact(aK _ _).drew
   refine eU (i:=0) (v:=O aa) rfl (by kernel_rfl) (by kernel_rfl) (by kernel_rfl) (fun _ _ _ h=>h) (Iu rfl 71 _ rfl (w.heap.size+1) rfl aa 71 _ (fun _ h=>(dY h _ (by omega)).trans B0.se.stm) aG rfl B0.si) (by assumption) ?_
   try simp only[dC,aW]
   refine eU (i:=1) (v:=O cv) rfl (by kernel_rfl) (by kernel_rfl) (by kernel_rfl) (fun _ _ _ h=>h) (Iu rfl 41 _ rfl w.heap.size rfl cv 41 _ (fun _ h=>(dY h _ (by omega)).trans B0.cat) aU rfl B0.ci) (by assumption) ?_
   try simp only[dC]
   refine eU (i:=2) (v:=O aa) rfl (by kernel_rfl) (by kernel_rfl) (by kernel_rfl) (fun _ _ _ h=>h) (Iu rfl 71 _ rfl (w.heap.size+1) rfl aa 71 _ (fun _ h=>(dY h _ (by omega)).trans B0.se.stm) aG rfl B0.si) (by assumption) ?_
   try simp only[dC]
   refine Bh 3 (fun K hK=>?_);go_simp
   (first|go_fit(Art (B0.below (aK _ _).drew) ⟨HF.out.nm,HF.out.cols⟩)|go_fit(Ayi (B0.below (aK _ _).drew) HF.out.nm)|go_fit(Ayj (B0.below (aK _ _).drew)))
   rintro e w1 ⟨rfl,ac⟩;have B1:=(B0.below (aK _ _).drew).below ac;go_wp2_with fail;refine hK.out _ _ ?_ (fun hHeld=>?_)
   ·exact(aK _ _).drew.trans (ac.mono (by have:=B0.se.big;show _≤W0.heap.size;omega))
   clear hK K
   try simp only[dC,aW,eI,eJ]
   refine Bh 4 (fun K hK=>?_);refine Hw rfl 71 _ _ rfl (w.heap.size+1+1) aa ?_ ?_ 71 Bq ?_ ?_ ?_ ?_ ?_;exact rfl;exact rfl;exact B1.se.room;exact B1.si;exact ah.out;exact B1.one;refine hK.out _ _ ?_ (fun hHeld=>?_)
   ·exact Below.row ((aK _ _).drew.trans (ac.mono (by have:=B0.se.big;show _≤W0.heap.size;omega))) (aS _) _
   clear hK K
   try simp only[dC]
   refine tkd 5 5 ?_
   try simp only[dC,aW]
   refine wpAnyH_done (by kernel_rfl) ?_ _;go_wp2_with fail;refine bE (Dn cA _ _ _ 71 aa _ _ _ rfl rfl (Ao B1.se.room) aG rfl B1.si) rfl ⟨⟨_,rfl,?_⟩,Below.row B1.se.bel (by omega) _⟩;rw[HE.out];exact B1.ans _
 rw[not_or,not_or]at e0;obtain⟨e1,e2,e3⟩:=e0;have q1:(st.kind==1)=aQ:=by simpa using e1
 have q2:(st.kind==2)=aQ:=by simpa using e2
 have q3:(st.kind==3)=aQ:=by simpa using e3
 by_cases e4:st.kind=4∨st.kind=5∨st.kind=6
 ·have HE:Hid (Ep ct st=Gk ct st):=by show _=_;rw[Ep,if_neg e1,if_neg e2,if_neg e3,if_pos e4]
  have HH:=Af0 ct _ st _ C W0 B0.ic B0.is B0.leW g1 g2 g5 HF.out.rows HF.out.row HF.out.sets HF.out.set ag;rw[aV]at HH;have BC:=B0.cat;have BS:=B0.se.stm;rw[ab.out]at BC BS;rcases e4 with e4|e4|e4
  all_goals
   rw[e4]at k0;go_wp2_with(first|(refine aM rfl 41 _ rfl _ ?_ 41 _ _ _ BC aU ?_ ?_ ?_;exact rfl;exact rfl;exact B0.ci)|(refine aM rfl 71 _ rfl _ ?_ 71 _ _ _ BS aG ?_ ?_ ?_;exact rfl;exact rfl;exact B0.si)|(go_at_call 95;rw[←ab.out];go_fit HH;rintro e w1 ⟨⟨u,rfl,hu⟩,ac⟩;obtain⟨a,m,rfl,ad,ae⟩:=hu.open;have B1:=B0.below ac;have af:Hid _:=ad.symm)|(refine bX rfl 71 _ _ rfl (w.heap.size+1+1) a ?_ ?_ 71 Bq ?_ ?_ ?_ ?_ ?_;exact rfl;exact rfl;exact B1.se.room;exact Nm ad;exact af.out;exact ae));refine bE (Dn cA _ _ _ 71 a _ _ _ rfl rfl (Ao B1.se.room) aG rfl (Nm ad)) rfl ⟨⟨_,rfl,?_⟩,Below.row B1.se.bel (by omega) _⟩;rw[HE.out];exact B0.handed hu
 have q4:(st.kind==4)=aQ:=by simp;omega
 have q5:(st.kind==5)=aQ:=by simp;omega
 have q6:(st.kind==6)=aQ:=by simp;omega
 by_cases e7:st.kind=7
 ·have HE:Hid (Ep ct st=Fc ct st):=by show _=_;rw[Ep,if_neg e1,if_neg e2,if_neg e3,if_neg e4,if_pos e7]
  rw[e7]at k0;have HH:=Af1 ct _ st _ C W0 B0.ic B0.is B0.leW g3 g4 g5 HF.out.out HF.out.order HF.out.frm ag;rw[aV]at HH;have BC:=B0.cat;have BS:=B0.se.stm;rw[ab.out]at BC BS;go_wp2_with(first|(refine aM rfl 41 _ rfl _ ?_ 41 _ _ _ BC aU ?_ ?_ ?_;exact rfl;exact rfl;exact B0.ci)|(refine aM rfl 71 _ rfl _ ?_ 71 _ _ _ BS aG ?_ ?_ ?_;exact rfl;exact rfl;exact B0.si)|(go_at_call 96;rw[←ab.out];go_fit HH;rintro e w1 ⟨⟨u,rfl,hu⟩,ac⟩;obtain⟨a,m,rfl,ad,ae⟩:=hu.open;have B1:=B0.below ac;have af:Hid _:=ad.symm)|(refine bX rfl 71 _ _ rfl (w.heap.size+1+1) a ?_ ?_ 71 Bq ?_ ?_ ?_ ?_ ?_;exact rfl;exact rfl;exact B1.se.room;exact Nm ad;exact af.out;exact ae));refine bE (Dn cA _ _ _ 71 a _ _ _ rfl rfl (Ao B1.se.room) aG rfl (Nm ad)) rfl ⟨⟨_,rfl,?_⟩,Below.row B1.se.bel (by omega) _⟩;rw[HE.out];exact B0.handed hu
 have q7:(st.kind==7)=aQ:=by simpa using e7
 have HE:Hid (Ep ct st=I 1):=by show _=_;rw[Ep,if_neg e1,if_neg e2,if_neg e3,if_neg e4,if_neg e7]
 have BS:=B0.se.stm;have BR:=B0.se.room;rw[ab.out]at BS BR;have aj:=B0.si;clear e1 e2 e3 e4 e7;go_wp2_with(first|(refine aM rfl 71 _ rfl _ ?_ 71 _ _ _ BS aG ?_ ?_ ?_;exact rfl;exact rfl;exact aj)|(refine bX rfl 71 _ _ rfl (w.heap.size+1+1) aa ?_ ?_ 71 Bq ?_ ?_ ?_ ?_ ?_;exact rfl;exact rfl;exact BR;exact aj;exact ah.out;exact B0.one));rw[←ab.out];refine bE (Dn cA _ _ _ 71 aa _ _ _ rfl rfl (Ao B0.se.room) aG rfl B0.si) rfl ⟨⟨_,rfl,?_⟩,Below.row B0.se.bel (by omega) _⟩;rw[HE.out];exact⟨aa,B0.n20,B0.one,rfl⟩
theorem Aln {α}(l)(q:α→Bool):Bz (atI l q) 0 l.length=l.any q:=by
 rw[Zk];rcases N4 l q with⟨h1,h2⟩|⟨k,x,h1,h2,h3,h4⟩
 ·grind
 grind
theorem Ad4 (p):∀(n i:Nat),Bz p (i+1) n=Bz (fun j=>p (j+1)) i n
 |0,i=>rfl
 |n+1,i=>by rw[Bz,Bz,Ad4 p n _]
theorem Aru (a b)(l):Ic (a::b::l)=(klt a b&&Ic (b::l)):=by
 have e:Eb (a::b::l) 0= !klt a b:=rfl;have e2:(fun j=>Eb (a::b::l) (j+1))=Eb (b::l):=by funext j;simp[Eb]
 simp only[Ic,cN,Nat.add_sub_cancel];rw[Bz,Ad4,e,e2];simp
theorem Ahg:∀(l:List Wd),Ic l=aO↔Cb l
 |[]=>⟨fun _=>List.Pairwise.nil,fun _=>rfl⟩
 |[a]=>⟨fun _=>List.pairwise_singleton _ _,fun _=>rfl⟩
 |a::b::l=>by
  rw[Aru,bD,Ahg _];constructor
  ·rintro⟨h1,h2⟩;refine aZ.2 ⟨fun x hx=>?_,h2⟩;rcases bF.1 hx with rfl|hx
   ·omega
   ·exact Co h1 ((aZ.1 h2).1 x hx)
  simp_all
theorem Cv (c):Ds c=aO↔c.tables.length≤3∧c.indexes.length≤4∧(∀t∈c.tables,Kp t=aO)∧Cb (c.tables.map TabD.name)∧(∀x∈c.indexes,Ka c.tables x=aQ)∧Cb (c.indexes.map IdxD.name):=by
 simp only[Ds,Qw,Ta,bD,decide_eq_true_eq,Aln,bC,cJ,Ahg];grind
theorem Zv {α:Type}{nm:α→Wd}:∀{l:List α},Cb (l.map nm)→∀{x y:α},x∈l→y∈l→nm x=nm y→x=y
 |[],_,_,_,hx,_,_=>by grind
 |a::l,h,x,y,hx,hy,e=>by
  have h1:=(aZ.1 h).1;have h2:Cb _:=(aZ.1 h).2;rcases bF.1 hx with rfl|hx'
  ·rcases bF.1 hy with rfl|hy'
   ·rfl
   ·exact absurd e (Fz (h1 _ (eF hy')))
  ·rcases bF.1 hy with rfl|hy'
   ·exact absurd e.symm (Fz (h1 _ (eF hx')))
   ·exact Zv h2 hx' hy' e
theorem Nn {T}(hr:Cb (T.map TabD.name)){s}{u}:Bu T s=J u↔u∈T∧u.name=s:=by
 constructor
 ·intro h;exact⟨aX h,by have:=eX h;grind⟩
 ·rintro⟨h1,rfl⟩;cases h:Bu T _ with
  |none=>have:=List.find?_eq_none.1 h u h1;grind
  |some v=>
   have hn:=eX h;simp only[decide_eq_true_eq]at hn;rw[Zv hr (aX h) h1 hn]
theorem A3x {T}{s}:Bu T s=M↔∀t∈T,t.name≠s:=by
 unfold Bu;simp
theorem A4a {α}{nm}{l}{x y:α}:y∈Ec nm l x↔y=x∨y∈l:=by
 simp only[Ec,List.mem_append,bF,aH,bC];grind
theorem Ma {α}{nm}{l}{x:α}:(Ec nm l x).length=l.length+1:=by
 simp only[Ec,bK,cN];have h:∀m:List α,(m.filter fun y=>klt (nm y) (nm x)).length+(m.filter fun y=>!klt (nm y) (nm x)).length=m.length:=by
  intro m
  induction m with
  |nil=>rfl
  |cons a m ih=>
   grind
 grind
theorem Ym {α}{nm:α→Wd}{l}{x}(hr:Cb (l.map nm))(hn:∀y∈l,nm y≠nm x):Cb ((Ec nm l x).map nm):=by
 have aa:∀p,Cb ((l.filter p).map nm):=fun p=>bL (cC _ cE) hr
 rw[Ec,cX,List.map_cons];refine Gt.2 ⟨aa _,aZ.2 ⟨fun b hb=>?_,aa _⟩,fun a ha b hb=>?_⟩
 ·obtain⟨y,hy,rfl⟩:=aP.1 hb;obtain⟨ac,ab⟩:=aH.1 hy;rcases Jh (by grind:klt (nm y) (nm x)=aQ)with e|e
  ·grind
  omega
 ·obtain⟨y,hy,rfl⟩:=aP.1 ha;obtain⟨ac,ab⟩:=aH.1 hy;rcases bF.1 hb with rfl|hb
  ·omega
  ·obtain⟨z,hz,rfl⟩:=aP.1 hb;obtain⟨ad,ae⟩:=aH.1 hz;exact Rq ab (by grind)
theorem Aau {T T'}{x}(h:Ka T x=aQ)(hk:∀u,Bu T x.table=J u→Bu T' x.table=J u):Ka T' x=aQ:=by
 unfold Ka at h⊢;simp only[Bool.or_eq_false_iff,Bool.not_eq_false']at h⊢;refine⟨h.1,?_⟩;have h2:=h.2;unfold Kq at h2⊢;grind
theorem Fa {ct}{st b}(h:Cn ct st=U b):Ds ct=aO∧Kb st=aO∧Ep ct st=U b:=by
 unfold Cn at h;grind
theorem Ii {m}{st b}(h:O9 m st=U b):m=0∧b=st:=by
 unfold O9 at h;grind
theorem G3 {ct}{st b}(h:Cn ct st=U b):b.kind=st.kind∧b.name=st.name∧b.table=st.table∧b.col=st.col∧b.cols=st.cols∧1≤st.kind∧st.kind≤7:=by
 obtain⟨_,_,h⟩:=Fa h;unfold Ep at h;split at h
 ·obtain⟨_,rfl⟩:=Ii h;grind
 split at h
 ·obtain⟨_,rfl⟩:=Ii h;grind
 split at h
 ·obtain⟨_,rfl⟩:=Ii h;grind
 split at h
 ·have hk:1≤st.kind∧st.kind≤7:=by omega
  unfold Gk at h;grind
 split at h
 ·have hk:1≤st.kind∧st.kind≤7:=by omega
  unfold Fc at h;grind
 grind
theorem Yn {ct}{st b}(h:Cn ct st=U b):Ds (A7 ct b)=aO∧(st.kind=1→(Bu (A7 ct b).tables st.name).isSome=aO)∧(st.kind=3→Bu (A7 ct b).tables st.name=M)∧
  (st.kind=1→¬ct.tables.length=(A7 ct b).tables.length)∧(st.kind=2→ct.tables.length=(A7 ct b).tables.length∧¬ct.indexes.length=(A7 ct b).indexes.length)∧(st.kind=3→¬ct.tables.length=(A7 ct b).tables.length)∧
  (3<st.kind→ct.tables.length=(A7 ct b).tables.length∧ct.indexes.length=(A7 ct b).indexes.length):=by
 obtain⟨hk,ac,ad,ae,af,h1,h7⟩:=G3 h;obtain⟨hg,_,hb⟩:=Fa h;obtain⟨g1,g2,g3,g4,g5,g6⟩:=(Cv ct).1 hg;unfold A7;rw[hk,ac,ad,ae,af];unfold Ep at hb
 by_cases k1:st.kind=1
 ·rw[if_pos k1]at hb;rw[if_pos k1];obtain⟨hc,_⟩:=Ii hb;unfold Kl at hc;split at hc
  ·omega
  rename_i c1;split at hc
  ·omega
  rename_i c2;split at hc
  ·omega
  rename_i c3;have ab:∀y∈ct.tables,y.name≠st.name:=A3x.1 (by simp_all);have aa:Cb ((Ec _ ct.tables ⟨st.name,st.cols⟩).map _):=Ym g4 ab;have ah:Kp ⟨st.name,st.cols⟩=aO:=by cases hq:Kp ⟨st.name,st.cols⟩<;>simp_all
  refine⟨(Cv _).2 ⟨by simp only[Ma];omega,g2,?_,aa,?_,g6⟩,fun _=>?_,fun h3=>by omega,fun _=>by simp only[Ma];omega,fun h=>by omega,fun h=>by omega,fun h=>by omega⟩
  ·intro t ht;rcases A4a.1 ht with rfl|ht
   ·omega
   grind
  ·intro x hx;refine Aau (g5 x hx) fun u hu=>?_
   obtain⟨q1,q2⟩:=(Nn g4).1 hu;exact(Nn aa).2 ⟨A4a.2 (.inr q1),q2⟩
  ·rw[(Nn aa).2 ⟨A4a.2 (.inl rfl),rfl⟩];rfl
 rw[if_neg k1]at hb;rw[if_neg k1]
 by_cases k2:st.kind=2
 ·rw[if_pos k2]at hb;rw[if_pos k2];obtain⟨hc,_⟩:=Ii hb;unfold Qz at hc;split at hc
  ·omega
  rename_i c1;split at hc
  ·omega
  rename_i c2;split at hc
  ·omega
  rename_i c3;split at hc
  ·omega
  rename_i c4;rw[Aln]at c3;have ab:∀y∈ct.indexes,y.name≠st.name:=fun y hy e=>c3 (eS.2 ⟨y,hy,by simp[Vu,e]⟩)
  have aa:Cb ((Ec _ ct.indexes ⟨st.name,st.table,st.col⟩).map _):=Ym g6 ab;refine⟨(Cv _).2 ⟨g1,by simp only[Ma];omega,g3,g4,?_,aa⟩,fun h3=>by omega,fun h3=>by omega,fun h=>by omega,fun _=>⟨rfl,by simp only[Ma];omega⟩,fun h=>by omega,fun h=>by omega⟩;intro x hx;rcases A4a.1 hx with rfl|hx
  ·unfold Ka;grind
  grind
 rw[if_neg k2]at hb;rw[if_neg k2]
 by_cases k3:st.kind=3
 ·rw[if_pos k3]at hb;rw[if_pos k3];obtain⟨hc,_⟩:=Ii hb;unfold Ol at hc;split at hc;rotate_left
  ·omega
  rename_i c1;obtain⟨u,hu⟩:=Option.isSome_iff_exists.1 c1;obtain⟨u1,u2⟩:=(Nn g4).1 hu;have aa:Cb ((ct.tables.filter fun t=>!decide (t.name=st.name)).map _):=bL (cC _ cE) g4;refine⟨(Cv _).2 ⟨aA (bV _ _) g1,aA (bV _ _) g2,fun t ht=>g3 t (aH.1 ht).1,aa,?_,bL (cC _ cE) g6⟩,fun h3=>by omega,fun _=>?_,fun h=>by omega,fun h=>by omega,fun _ hh=>?_,fun h=>by omega⟩
  ·intro x hx;obtain⟨ag,ai⟩:=aH.1 hx;refine Aau (g5 x ag) fun v hv=>?_
   obtain⟨q1,q2⟩:=(Nn g4).1 hv;exact(Nn aa).2 ⟨aH.2 ⟨q1,by grind⟩,q2⟩
  ·exact A3x.2 fun t ht=>by grind
  ·have aj:=List.length_filter_eq_length_iff.1 hh.symm u u1;grind
 grind
end
end Go.Proofs.YtjapkoofjlmdgaaGreatDoor
namespace Go.Proofs
open Go.Shelf
def Tryz.laysSort_ren:dB:=⟨fun|190=>237|125=>202|258=>301|128=>264|129=>265|302=>337|303=>338|304=>339|305=>340|306=>341|307=>342|308=>298|309=>343|310=>344|333=>366|329=>318|330=>319|334=>367|335=>368|336=>229|344=>371|n=>n,fun|31=>54|9=>9|3=>3|46=>257|0=>0|51=>311|53=>313|4=>4|183=>305|182=>304|131=>216|5=>5|218=>348|222=>352|228=>375|229=>376|n=>n,fun|n=>n⟩
theorem Tryz.laysSort:Go.Proofs.Lays.n190 aB Tryz.laysSort_ren:={
 mixed:=by kernel_rfl
 f125:=sF Tryz.func202
 f128:=sF Tryz.func264
 f129:=sF Tryz.func265
 f190:=sF Tryz.func237
 f258:=sF Tryz.func301
 f302:=sF Tryz.func337
 f303:=sF Tryz.func338
 f304:=sF Tryz.func339
 f305:=sF Tryz.func340
 f306:=sF Tryz.func341
 f307:=sF Tryz.func342
 f308:=sF Tryz.func298
 f309:=sF Tryz.func343
 f310:=sF Tryz.func344
 f329:=sF Tryz.func318
 f330:=sF Tryz.func319
 f333:=sF Tryz.func366
 f334:=sF Tryz.func367
 f335:=sF Tryz.func368
 f336:=sF Tryz.func229
 f344:=sF Tryz.func371
 t0:=eQ
 a0:=Tryz.isAgg0
 z0:=Tryz.sizeOf0
 v0:=eV
 t3:=cM
 a3:=eB
 z3:=dP
 v3:=cT
 t4:=cL
 a4:=eA
 z4:=dO
 v4:=cS
 t5:=Tryz.underlying5
 a5:=Tryz.isAgg5
 z5:=Tryz.sizeOf5
 v5:=Tryz.zeroValue5
 t9:=cK
 a9:=dZ
 z9:=dN
 v9:=cR
 t31:=bM
 a31:=Tryz.isAgg54
 z31:=Tryz.sizeOf54
 v31:=eP
 t46:=Tryz.underlying257
 a46:=Tryz.isAgg257
 z46:=Tryz.sizeOf257
 v46:=Tryz.zeroValue257
 t51:=Tryz.underlying311
 a51:=Tryz.isAgg311
 z51:=Tryz.sizeOf311
 v51:=Tryz.zeroValue311
 t53:=Tryz.underlying313
 a53:=Tryz.isAgg313
 z53:=Tryz.sizeOf313
 v53:=Tryz.zeroValue313
 t131:=Tryz.underlying216
 a131:=Tryz.isAgg216
 z131:=Tryz.sizeOf216
 v131:=Tryz.zeroValue216
 t182:=Tryz.underlying304
 a182:=Tryz.isAgg304
 z182:=Tryz.sizeOf304
 v182:=Tryz.zeroValue304
 t183:=Tryz.underlying305
 a183:=Tryz.isAgg305
 z183:=Tryz.sizeOf305
 v183:=Tryz.zeroValue305
 t218:=Tryz.underlying348
 a218:=Tryz.isAgg348
 z218:=Tryz.sizeOf348
 v218:=Tryz.zeroValue348
 t222:=Tryz.underlying352
 a222:=Tryz.isAgg352
 z222:=Tryz.sizeOf352
 v222:=Tryz.zeroValue352
 t228:=Tryz.underlying375
 a228:=Tryz.isAgg375
 z228:=Tryz.sizeOf375
 v228:=Tryz.zeroValue375
 t229:=Tryz.underlying376
 a229:=Tryz.isAgg376
 z229:=Tryz.sizeOf376
 v229:=Tryz.zeroValue376}
def Tryz.laysCompact_ren:dB:=⟨fun|194=>238|n=>n,fun|31=>54|9=>9|3=>3|4=>4|0=>0|n=>n,fun|n=>n⟩
theorem Tryz.laysCompact:Go.Proofs.Lays.n194 aB Tryz.laysCompact_ren:={
 mixed:=by kernel_rfl
 f194:=sF Tryz.func238
 t0:=eQ
 a0:=Tryz.isAgg0
 z0:=Tryz.sizeOf0
 v0:=eV
 t3:=cM
 a3:=eB
 z3:=dP
 v3:=cT
 t4:=cL
 a4:=eA
 z4:=dO
 v4:=cS
 t9:=cK
 a9:=dZ
 z9:=dN
 v9:=cR
 t31:=bM
 a31:=Tryz.isAgg54
 z31:=Tryz.sizeOf54
 v31:=eP}
def Tryz.laysCut_ren:dB:=⟨fun|103=>236|210=>300|206=>336|n=>n,fun|9=>9|4=>4|24=>247|3=>3|n=>n,fun|n=>n⟩
theorem Tryz.laysCut:Go.Proofs.Lays.n103 aB Tryz.laysCut_ren:={
 mixed:=by kernel_rfl
 f103:=sF Tryz.func236
 f206:=sF Tryz.func336
 f210:=sF Tryz.func300
 t3:=cM
 a3:=eB
 z3:=dP
 v3:=cT
 t4:=cL
 a4:=eA
 z4:=dO
 v4:=cS
 t9:=cK
 a9:=dZ
 z9:=dN
 v9:=cR
 t24:=Tryz.underlying247
 a24:=Tryz.isAgg247
 z24:=Tryz.sizeOf247
 v24:=Tryz.zeroValue247}
end Go.Proofs
namespace Go.Proofs.YtjapkoofjlmdgaaGreatDoor
section
open Go.RowKit
open Go.Sort (Holds holds_grow holds_putRow holds_ahead grow grow_empty heap_grow_old heap_ahead)
def Q0 (L:List ByteArray):List (List UInt8):=(L.map fun s=>s.data.toList).mergeSort fun x y=>decide (x≤y)
def J5 (L:List ByteArray):List ByteArray:=(aJ (Q0 L)).map str
theorem Arv {w}{g}{L:List ByteArray}(hc:∀(j:Nat) (u:bB),(L.map Value.string)[j]?=J u→w.cell? ⟨g,0+j,M⟩=J u)(hf:∀j,w.frozen? ⟨g,0+j,M⟩=aQ):Holds dV w g 0 (L.map fun s=>s.data.toList).toArray:=by
 intro j hj;simp_all
theorem Ahh {B}{w}{g}(hB:B≤g)(hw:B≤w.heap.size)(n)(d)(os):dK B w (grow (eO dV (eT w n) g 0 d) os):=by
 refine⟨rfl,rfl,rfl,by simp,fun k hk=>?_⟩;rw[heap_grow_old _ _ (by simp;omega)];simp only[eO,Go.Sort.mapBlock,heap_ahead,Array.getElem?_modify];grind
theorem Ayl (L)(g cap B)(w)(hH:Holds dV w g 0 (L.map fun s=>s.data.toList).toArray)(hg:g<w.heap.size)(hB:B≤g)(hl:L.length≤1000000):
  aT aB 237 #[G (J ⟨g,0,M⟩) L.length cap] w fun e w'=>e=aE (bH #[])∧Holds dV w' g 0 (Q0 L).toArray∧g<w'.heap.size∧dK B w w':=by
 have h:=Any.slices_Sort_string Tryz.laysSort g 0 cap _ w hH hg (by grind);rw[bI]at h;refine h.mono ?_;rintro e w' ⟨rfl,n,os,rfl⟩;refine⟨rfl,holds_grow _ _ _ _ _ _ (by simp_all) (holds_putRow _ _ _ _ _ _ (holds_ahead _ _ _ _ _ _ hH) (by simp)),by simp;omega,Ahh hB (by omega) _ _ _⟩
theorem Aog (zs:List (List UInt8))(g cap B:Nat)(w:aY)(hH:Holds dV w g 0 zs.toArray)(hg:g<w.heap.size)(hB:B≤g)(hl:zs.length≤1000000)(ab:zs.length≤cap)(ac:cap≤bA):
  aT aB 238 #[G (J ⟨g,0,M⟩) zs.length cap] w fun e w'=>∃v,e=aE v∧An w' v ((aJ zs).map str)∧dK B w w':=by
 refine(Any.slices_Compact_string Tryz.laysCompact g 0 cap zs w hH (by omega) ab).mono ?_;rintro e w' ⟨rfl,q,rfl⟩;have ad:(aJ zs).length≤zs.length:=by
  unfold aJ cY;rw[bI];exact aA (bV _ _) (by simp)
 refine⟨_,rfl,⟨by simp,?_⟩,?_⟩
 ·rcases Nat.eq_zero_or_pos (aJ zs).length with h0|h0
  ·exact .inl ⟨by grind,_,cap,by rw[h0],fun h=>by grind⟩
  ·refine .inr ⟨by simpa using h0,g,0,cap,by simp,by simpa using hg,by simp;omega,ac,?_⟩;intro j u hj;have aa:j<(aJ zs).length:=by have:=(dE.1 hj).1;simpa using this
   obtain⟨c1,_⟩:=(holds_putRow dV (eT w q) g 0 zs.toArray (aJ zs++List.replicate (zs.length-(aJ zs).length) []).toArray (holds_ahead _ _ _ _ _ _ hH) (by simp;omega)) j (by simp;omega);rw[c1];rw[List.map_map,List.getElem?_map,aR aa]at hj;simp only[Option.map_some,Function.comp,Option.some.injEq]at hj;rw[←hj,getElem!_pos _ j (by simp;omega)];simp only[List.getElem_toArray];rw[List.getElem_append_left aa];rfl
 ·have:=Ahh (w:=w) hB (by omega) q (aJ zs++List.replicate (zs.length-(aJ zs).length) []).toArray #[];simp_all
end
section
open Go.RowKit
section
variable {α:Type} [Inhabited α] [DecidableEq α]
theorem Aoh (zs:List α):∀j,j<zs.length→zs.toArray[j]! ∈aJ zs:=by
 intro j
 induction j with
 |zero=>
  intro h;exact aP.2 ⟨0,aH.2 ⟨dA.2 h,Lib.keeps_lt_one _ 0 (by omega)⟩,rfl⟩
 |succ j ih=>
  intro h
  by_cases he:zs.toArray[j+1]! =zs.toArray[j+1-1]!
  ·grind
  ·exact aP.2 ⟨_,aH.2 ⟨dA.2 h,Lib.keeps_pos he⟩,rfl⟩
theorem Aav (zs:List α)(y:α):y∈aJ zs↔y∈zs:=by
 constructor
 ·intro h;obtain⟨j,hj,rfl⟩:=aP.1 h;grind
 ·intro h;obtain⟨j,hj,rfl⟩:=List.getElem_of_mem h;have:=Aoh zs j hj;grind
theorem Ai5 (zs:List α)(le:α→α→Prop)(anti:∀a b,le a b→le b a→a=b)(hs:zs.Pairwise le)(hr:∀a,le a a):(aJ zs).Nodup:=by
 have aa:∀i j,i≤j→j<zs.length→le zs.toArray[i]! zs.toArray[j]! :=by
  intro i j ab hj;rw[getElem!_pos _ i (by grind),getElem!_pos _ j (by omega)];rcases Nat.eq_or_lt_of_le ab with rfl|h
  ·exact hr _
  ·exact List.pairwise_iff_getElem.1 hs i j _ hj h
 unfold aJ cY;rw[List.Nodup,eN];refine List.Pairwise.imp_of_mem ?_ (List.Pairwise.filter _ (List.pairwise_lt_range (n:=zs.length)));intro i j hi hj ab he;have ac:=dA.1 (aH.1 hj).1;have hk:=(aH.1 hj).2;have h1:=aa i (j-1) (by omega) (by omega);rw[he]at h1;rw[Lib.keeps_neg (by omega) (anti _ _ h1 (aa (j-1) j (by omega) ac))]at hk;grind
end
theorem Ahi (L)(y):y∈J5 L↔y∈L:=by
 unfold J5;rw[aP];constructor
 ·rintro⟨a,ha,rfl⟩;rw[Aav,Q0,eK,aP]at ha;obtain⟨s,hs,rfl⟩:=ha;exact hs
 ·intro h;refine⟨y.data.toList,?_,rfl⟩;rw[Aav,Q0,eK,aP];grind
theorem A02 {a b}(h:str a=str b):a=b:=by
 have:=congrArg (fun s=>s.data.toList) h;assumption
theorem Aoi (L):(J5 L).Nodup:=by
 unfold J5;rw[List.Nodup,eN];have hs:(Q0 L).Pairwise (fun a b=>a≤b):=by
  have:=List.pairwise_mergeSort (le:=fun x y:List UInt8=>decide (x≤y)) (fun a b c h1 h2=>by grind) (fun a b=>by grind) (L.map fun s=>s.data.toList);exact this.imp fun h=>by grind
 exact(Ai5 _ _ (fun a b=>List.le_antisymm) hs (fun a=>List.le_refl a)).imp fun h e=>h (A02 e)
def Hq (T:List Pg)(K:List Wd):List Wd:=K.filterMap (Hy (flat T))
theorem Auu {T}{K:List Wd}{k}{x:Wd}(h:K[k]?=J x):Hq T (K.take (k+1))=Hq T (K.take k)++(Hy (flat T) x).toList:=by
 rw[cI,h];simp only[Hq,dX,eD];rfl
theorem Aaw (T)(K):(Hq T K).length≤K.length:=dL _ _
theorem Ad5 (T:List Pg)(pv kv:bB)(K:List Wd)(w:aY)(hp:Bi w pv T)(hg:As T)(hT:T.length≤100000)(hK:An w kv K)(hl:K.length≤1000000):
  aT aB 176 #[pv,kv] w fun e w'=>∃tv,e=aE tv∧An w' tv (Hq T K)∧N w.heap.size w w':=by
 obtain⟨az,rfl,ag⟩:=hp;obtain⟨po,pc,rfl⟩:=Ct ag;obtain⟨ko,kc,rfl⟩:=Eu.shape hK;obtain⟨i0,al,am,an,ap⟩:=dU Ke;obtain⟨ac,bT,-⟩:=al1 w (H #[G po T.length pc] 44);generalize hW:w.alloc (H #[G po T.length pc] 44)=W1 at ac bT;have HP:Hid (A8 W1 (G po T.length pc) T):=ag.below ac;have aq:Hid _:=hK.below ac;have HW:Hid _:=hW;clear hW ag hK;go_enter Tryz.func176,Tryz.ntmps176;go_upto_region 1 with fail;rw[HW.out];go_wp2
 go_loopw[5,12] (fun zv i wr=>∃k:Nat,k≤K.length∧i=aL aN k∧wr.ownsRow W1.heap.size 9 1 zv (Hq T (K.take k)).length ((Hq T (K.take k)).map D)∧N W1.heap.size W1 wr) (fun _ i _=>K.length-(cD i).toNat)
 case atStart=>exact⟨0,cV _,rfl,eH _ _ _ _,aK _ _⟩
 case round=>
  obtain⟨k,hk,rfl,ad,aa⟩:=hrel
  by_cases ar:k<K.length
  ·obtain⟨x,hx⟩:∃x,K[k]?=J x:=⟨_,aR ar⟩;obtain⟨b,ba,cap,au,hb,_,_,aj⟩:=An.at aq.out (by omega);cases au;have d0:=(aa.cell hb).trans (aj k x hx);have HG:=Aj0 T _ x wr ⟨_,rfl,A8.below HP.out aa⟩ hg (by omega);have af:Hid (Hq T _=Hq T _++(Hy _ x).toList):=Auu hx;have v0:(0:Int)≤k:=by omega
   have v1:k<(K.length:Int):=by omega
   have ah:=aa.size;have t0:=Aa ((aa.block _ (aD bT)).trans bT) (j:=0) rfl;have bb:(Hq T (K.take k)).length≤1000000:=aA (Aaw _ _) (by grind);clear hx aj;cases ab:Hy _ x with
   |none=>
    have E2:Hid (Hq T (K.take (k+1))=Hq T (K.take k)):=by show _=_;rw[af.out,ab];simp
    rw[ab]at HG;simp only[Aco,Option.getD_none,Option.isSome_none]at HG;clear ab af;go_wp2_with(go_fit HG;rintro e w2 ⟨rfl,ae⟩);go_roundw
    case rel=>exact⟨k+1,by omega,by go_num,by rw[E2.out];exact Aj ad ae,aa.trans (ae.mono ah)⟩
    case measure=>simp[cD];omega
   |some y=>
    have E2:Hid (Hq T (K.take (k+1))=Hq T (K.take k)++[y]):=by show _=_;rw[af.out,ab];rfl
    rw[ab]at HG;simp only[Aco,Option.getD_some,Option.isSome_some]at HG;clear ab af;go_wp2_with(first
     |(go_fit HG;rintro e w2 ⟨rfl,ae⟩;have ai:N wr.heap.size wr (w2.alloc (H [D y].toArray 9)):=ae.alloc ae.size _;have ak:W1.heap.size≤(w2.alloc (H [D y].toArray 9)).heap.size:=aA ah ai.size)
     |(at_builtin;go_must(refine bJ _ rfl _ _ 54 rfl W1.heap.size 9 i0 (D ⟨#[]⟩) 1 16 bM al am an ap rfl (by decide) _ _ _ rfl (Aj ad ai) ⟨w2.heap.size,0,M⟩ 1 1 [.string y] rfl rfl (B8 w2 [.string y] 9) ?h1 (by simp only[bA];omega) (by omega) ak ?h2)))
    case h1=>simp only[bG];repeat(first|exact fun _ h=>absurd h bR|refine⟨rfl,?_⟩)
    case h2=>
     intro z2 w4 av aw _ _;have ax:N W1.heap.size W1 w4:=(aa.trans (ai.mono ah)).grown aw ak fun k hk=>(ad.lt k hk).1
     go_wp2_with fail;go_roundw
     case rel=>exact⟨k+1,by omega,by go_num,by rw[E2.out,bK,cX];exact av,ax⟩
     case measure=>simp[cD];omega
  ·have ay:k=K.length:=by omega
   subst ay;have v1:¬(K.length<(K.length:Int)):=by omega
   rw[bQ]at ad;go_wp2;go_ret;exact⟨_,rfl,Eu.of_own ad,ac.trans (aa.mono ac.size)⟩
def Vw (ix key:Wd):Wd:=⟨(dF key.data.toList (Hk ix).data.toList).toArray⟩
def Vx (t ix key:Wd):Option Wd:=
 if Lib.hasPrefix key.data.toList (Hk ix).data.toList=aO then
  match vals (Vw ix key).data.toList with
  |some L=>if L.length=2 then J (H7 t (L.getD 1 zero))else M
  |none=>M
 else M
def rk1 (t ix:Wd)(K:List Wd):List Wd:=K.filterMap (Vx t ix)
theorem Aym {t ix}{K:List Wd}{k}{x}(h:K[k]?=J x):rk1 t ix (K.take (k+1))=rk1 t ix (K.take k)++(Vx t ix x).toList:=by
 rw[cI,h];simp only[rk1,dX,eD];rfl
theorem Q3 (t ix)(K):(rk1 t ix K).length≤K.length:=dL _ _
theorem Arw (ix key):(Vw ix key).size≤key.size:=by
 show(dF _ _).toArray.size≤key.data.size;rw[eM,dF];grind
theorem Auv {v}(h:good v=aO):v.s.size≤8:=by
 unfold good at h;grind
theorem Auw:Q0 []=[]:=by simp[Q0]
theorem Om (L:List Wd):(Q0 L).length=L.length:=by unfold Q0;simp
theorem Aux {w}{B g cap}{L:List ByteArray}(h:w.ownsRow B 9 1 (.slice (J ⟨g,0,M⟩) L.length cap) L.length (L.map .string)):Go.Sort.Holds dV w g 0 (L.map fun s=>s.data.toList).toArray:=
 Arv (fun j u hj=>by
  have aa:j<L.length*1:=by have:=(dE.1 hj).1;simpa using this
  rw[dW,h.cellAt j aa];omega) (fun j=>by rw[dW];exact h.frozenAt j)
theorem Aoj (s)(w)(hs:s.size*32≤140737488355328):
  aT aB 178 #[D s] w fun e w'=>∃ao n c m,e=aE (bH #[G ao n c,aL aN m])∧N w.heap.size w w':=by
 refine(N7 s w hs).mono ?_;rintro e w' ⟨h,hb⟩;unfold Hn at h;split at h
 ·obtain⟨lv,rfl,hl⟩:=h;obtain⟨ao,c,rfl⟩:=Eu.shape (Eu.of_own hl);grind
 grind
theorem A03 {w:aY}{B}{lv}{a b}(h:w.ownsRow B 59 3 lv 2 (Ax [a,b])):∃g c,lv=G (J ⟨g,0,M⟩) 2 c∧w.cell? ⟨g,3,M⟩=J (aL aN b.k)∧w.cell? ⟨g,4,M⟩=J (aL aN b.n)∧w.cell? ⟨g,5,M⟩=J (D b.s):=by
 rcases h.2 with⟨_,h0⟩|⟨g,cap,cur,rfl,_⟩
 ·omega
 ·exact⟨g,cap,rfl,h.cellAt 3 (by omega),h.cellAt 4 (by omega),h.cellAt 5 (by omega)⟩
theorem Aok (t ix:Wd)(kv:bB)(K:List Wd)(w:aY)(hK:An w kv K)(hl:K.length≤1000000)(ht:t.size≤1000000)(aw:ix.size≤1000000)(aq:∀x∈K,x.size≤1000000):
  aT aB 177 #[D t,D ix,kv] w fun e w'=>∃tv,e=aE tv∧An w' tv (J5 (rk1 t ix K))∧N w.heap.size w w':=by
 obtain⟨ko,kc,rfl⟩:=Eu.shape hK;obtain⟨i0,ax,ay,az,ba⟩:=dU Ke;have bb:Hid _:=hK;have bc:Hid _:=aq;clear hK aq;go_enter Tryz.func177,Tryz.ntmps177;go_wp2
 go_loopw[7,16] (fun zv i wr=>∃k:Nat,k≤K.length∧i=aL aN k∧wr.ownsRow w.heap.size 9 1 zv (rk1 t ix (K.take k)).length ((rk1 t ix (K.take k)).map D)∧N w.heap.size w wr) (fun _ i _=>K.length-(cD i).toNat)
 case atStart=>exact⟨0,cV _,rfl,eH _ _ _ _,aK _ _⟩
 case round=>
  obtain⟨k,hk,rfl,ac,ae⟩:=hrel
  by_cases bd:k<K.length
  ·obtain⟨x,hx⟩:∃x,K[k]?=J x:=⟨_,aR bd⟩;obtain⟨b,bp,cap,be,hb,_,_,ar⟩:=An.at bb.out (by omega);cases be;have d0:=(ae.cell hb).trans (ar k x hx);have aa:Hid (rk1 t ix _=rk1 t ix _++(Vx t ix x).toList):=Aym hx;have bq:=bc.out x (cB hx);have al:(Vw ix x).size*32≤140737488355328:=by have:=Arw ix x;omega
   have v0:(0:Int)≤k:=by omega
   have v1:k<(K.length:Int):=by omega
   have ai:=ae.size;have bf:=ac.lt;have am:(rk1 t ix (K.take k)).length≤1000000:=aA (Q3 _ _ _) (by grind);have aj:=fun W=>Oy ix W aw
   have HC:∀W,aT _ 236 _ W fun e w'=>e=aE (bH #[D (Vw ix x),dM _])∧w'=W:=fun W=>Any.strings_CutPrefix Tryz.laysCut x _ W
   have HV:=fun W=>N7 _ W al
   have ak:=fun W=>Aoj _ W al
   have ah:Hid (∀L,vals (Vw ix x).data.toList=J L→∀v∈L,good v=aO):=fun L h=>(Atp _ _ L (aS _) h).1
   unfold Hn at HV;unfold Vx at aa;clear hx ar al;generalize Hk ix=ib at aa aj HC;generalize Vw ix x=y at aa HC HV ak ah;cases hp:Lib.hasPrefix x.data.toList ib.data.toList with
   |false=>
    have E2:Hid (rk1 t ix (K.take (k+1))=rk1 t ix (K.take k)):=by show _=_;rw[aa.out,hp];simp
    rw[hp]at HC;clear hp aa HV ah;go_wp2_with(first
     |(go_fit(aj _);rintro e w1 ⟨rfl,af⟩;rw[af])
     |(go_fit(HC _);rintro e w2 ⟨rfl,ag⟩;rw[ag])
     |(go_fit(ak _);rintro e w3 ⟨vo,vn,vc,vm,rfl,ab⟩))
    go_roundw
    case rel=>exact⟨k+1,by omega,by rfl,by rw[E2.out];exact Aj ac ab,ae.trans (ab.mono ai)⟩
    case measure=>simp[cD];omega
   |true=>
    rw[hp]at HC;cases ad:vals y.data.toList with
    |none=>
     have E2:Hid (rk1 t ix (K.take (k+1))=rk1 t ix (K.take k)):=by show _=_;rw[aa.out,hp,ad];simp
     rw[ad]at HV;simp only at HV;clear hp aa ad ah ak;go_wp2_with(first
      |(go_fit(aj _);rintro e w1 ⟨rfl,af⟩;rw[af])
      |(go_fit(HC _);rintro e w2 ⟨rfl,ag⟩;rw[ag])
      |(go_fit(HV _);rintro e w3 ⟨rfl,ab⟩))
     go_roundw
     case rel=>exact⟨k+1,by omega,by rfl,by rw[E2.out];exact Aj ac ab,ae.trans (ab.mono ai)⟩
     case measure=>simp[cD];omega
    |some L=>
     rw[ad]at HV;simp only at HV
     by_cases hL:L.length=2
     ·match L,hL with
      |[v0',id],_=>
       have E2:Hid (rk1 t ix (K.take (k+1))=rk1 t ix (K.take k)++[H7 t id]):=by show _=_;rw[aa.out,hp,ad];simp
       have bg:=Auv (ah.out _ ad id (by simp));have HK:=fun W=>Qq t id W ht (by simp only[bA];omega)
       clear hp aa ad ah ak bg;generalize H7 t id=key at E2 HK;obtain⟨uk,un,us⟩:=id;simp only[V.val]at HK;simp only[cN,List.length_nil,dW,Nat.reduceAdd]at HV;go_wp2_with(first
        |(go_fit(aj _);rintro e w1 ⟨rfl,af⟩;rw[af])
        |(go_fit(HC _);rintro e w2 ⟨rfl,ag⟩;rw[ag])
        |(go_fit(HV _);rintro e w3 ⟨⟨lv,rfl,an⟩,ab⟩;obtain⟨g3,c3,rfl,e0,e1,e2⟩:=A03 an)
        |(go_fit(HK _);rintro e w4 ⟨rfl,au⟩;have ap:N _ wr (w4.alloc (H [D key].toArray 9)):=(Ac ab au).alloc (Ac ab au).size _;have av:=aA ai ap.size)
        |(at_builtin;go_must(refine bJ _ rfl _ _ 54 rfl _ 9 i0 _ 1 16 bM ax ay az ba rfl (by simp) _ _ _ rfl (Aj ac ap) _ 1 1 _ rfl rfl (B8 w4 [.string key] 9) ?h1 (by simp only[bA];omega) (by omega) av ?h2)))
       case h1=>simp only[bG];repeat(first|exact fun _ h=>absurd h bR|refine⟨rfl,?_⟩)
       case h2=>
        intro z2 w5 bh bi _ _;go_wp2_with fail;go_roundw
        case rel=>exact⟨k+1,by omega,by rfl,by rw[E2.out,bK,cX];exact bh,(ae.trans (ap.mono ai)).grown bi av fun k hk=>(bf k hk).1⟩
        case measure=>simp[cD];omega
     ·have E2:Hid (rk1 t ix (K.take (k+1))=rk1 t ix (K.take k)):=by show _=_;rw[aa.out,hp,ad];simp[hL]
      have l1:¬((L.length:Int)=2):=by omega
      clear hp aa ad ah ak hL;go_wp2_with(first
       |(go_fit(aj _);rintro e w1 ⟨rfl,af⟩;rw[af])
       |(go_fit(HC _);rintro e w2 ⟨rfl,ag⟩;rw[ag])
       |(go_fit(HV _);rintro e w3 ⟨⟨lv,rfl,an⟩,ab⟩;obtain⟨bt,bu,rfl⟩:=Eu.shape (Eu.of_own an)))
      go_roundw
      case rel=>exact⟨k+1,by omega,by rfl,by rw[E2.out];exact Aj ac ab,ae.trans (ab.mono ai)⟩
      case measure=>simp[cD];omega
  ·have bj:k=K.length:=by omega
   subst bj;have v1:¬(K.length<(K.length:Int)):=by omega
   rw[bQ]at ac;have am:(rk1 t ix K).length≤1000000:=aA (Q3 _ _ _) hl;generalize hR:rk1 t ix K=R at ac am;have HR:Hid _:=hR;clear hR;rcases ac.2 with⟨rfl,h0⟩|⟨g,cap,cur,rfl,hg,hh,hn,hm,_⟩
   ·obtain rfl:=List.eq_nil_of_length_eq_zero h0;have HS:=fun W=>Any.slices_Sort_string_none Tryz.laysSort M 0 W
    have HD:=fun W=>Any.slices_Compact_string_empty Tryz.laysCompact M 0 W
    go_wp2_with(first
     |(refine(HS _).mono ?_;rintro e w5 ⟨rfl,bk⟩;rw[bk])
     |(refine(HD _).mono ?_;rintro e w6 ⟨rfl,bl⟩;rw[bl]))
    go_ret;refine⟨_,rfl,?_,ae⟩;rw[HR.out,J5,Auw];exact Eu.nil _ _
   ·have HS:=Ayl R g cap _ wr (Aux ac) (aD hh) hg am;have HD:=fun W h1 h2=>Aog _ g cap _ W h1 h2 hg (by rw[Om];omega) (by rw[Om];omega) hm
    simp only[Om]at HD;go_wp2_with(first
     |(refine HS.mono ?_;rintro e w5 ⟨rfl,h5,g5,bm⟩)
     |(refine(HD _ h5 g5).mono ?_;rintro e w6 ⟨vz,rfl,bn,bo⟩))
    go_ret;exact⟨_,rfl,by rw[HR.out];exact bn,ae.trans (bm.trans bo)⟩
def Ajp (n:Nat)(T:List Pg)(t ix lo hi:Wd):List (List V):=Cx n (Hq T (J5 (rk1 t ix ((rng T lo hi).map bO))))
theorem Yo (L:List Wd):(J5 L).length≤L.length:=by
 unfold J5;rw[bI];refine aA ?_ (Nat.le_of_eq (Om L));unfold aJ cY;grind
theorem Af2 {T}{lo hi:Wd}{x:Wd×Wd}(h:x∈rng T lo hi):x∈flat T:=(aH.1 h).1
theorem Vy {F:List (Wd×Wd)}{k y:Wd}(h:Hy F k=J y):(k,y)∈F:=by
 unfold Hy at h;cases hf:F.find? fun x=>decide (x.1=k)with
 |none=>grind
 |some p=>
  grind
theorem Aol (aa ix:Wd)(T)(pv)(so)(n sc:Nat)(lo hi:Wd)(w:aY)(hp:Bi w pv T)(hg:As T)(hT:T.length≤100000)(bc:ix≠⟨#[]⟩)(bq:ix.size≤1000000)(bt:aa.size≤1000000)(hx:∀x∈flat T,x.1.size≤1000000∧x.2.size≤1000000):
  aT aB 106 #[pv,O #[D aa,G so n sc],J0 ix lo hi] w fun e w'=>Nd w w' e (Ajp n T aa ix lo hi):=by
 obtain⟨cm,rfl,am⟩:=hp;obtain⟨po,pc,rfl⟩:=Ct am;obtain⟨i0,bu,bv,bw,bx⟩:=dU Py;obtain⟨an,-,-,bW,-⟩:=al3 w (H #[G po T.length pc] 44) (H #[D aa,G so n sc] 74) (H #[D ix,D lo,D hi] 159);have bT:=Ad (Ca w (H #[G po T.length pc] 44) (H #[D aa,G so n sc] 74)) (H #[D ix,D lo,D hi] 159);have HR:=Agt aO T ⟨fun _=>hg,fun _=>rfl⟩ (O #[G po T.length pc]) lo hi _ ⟨_,rfl,am.below an⟩ (by omega);rw[show U6 aO T lo hi=rng T lo hi from rfl]at HR;have bd:(rng T lo hi).length≤400000:=by
  have h1:=Aac aO T ⟨fun _=>hg,fun _=>rfl⟩ (lo:=lo) (hi:=hi);rw[show U6 aO T lo hi=rng T lo hi from rfl]at h1;omega
 have ax:((rng T lo hi).map bO).length≤1000000:=by rw[bI];omega
 have be:Hid (∀x∈(rng T lo hi).map bO,x.size≤1000000):=fun x hh=>by obtain⟨y,hy,rfl⟩:=aP.1 hh;exact(hx y (Af2 hy)).1
 have ay:(Hq T (J5 (rk1 aa ix ((rng T lo hi).map bO)))).length≤400000:=aA (Aaw _ _) (aA (Yo _) (aA (Q3 _ _ _) (by rw[bI];exact bd)));have ap:(J5 (rk1 aa ix ((rng T lo hi).map bO))).length≤1000000:=aA (Yo _) (aA (Q3 _ _ _) ax);have HX:Hid (∀x∈Hq T (J5 (rk1 aa ix ((rng T lo hi).map bO))),x.size≤1000000):=fun x hh=>by
  obtain⟨y,hy,h2⟩:=List.mem_filterMap.1 hh;exact(hx _ (Vy h2)).2
 clear hx bd;unfold Mz at HR;have ER:Hid (Ajp n T aa ix lo hi=Cx n (Hq T (J5 (rk1 aa ix ((rng T lo hi).map bO))))):=rfl;rw[ER.out];clear ER;generalize(rng T lo hi).map bO=Y at HR ay HX ax be ap⊢;generalize(rng T lo hi).map Prod.snd=X0 at HR;have HB:=fun kv W h1 h2=>Ad5 T (O #[G po T.length pc]) kv (J5 (rk1 aa ix Y)) W h1 hg hT h2 ap
 have bf:=fun kv W h1=>Aok aa ix kv Y W h1 ax bt bq be.out
 have bz:Hid (A8 w (G po T.length pc) T):=am;generalize J5 (rk1 aa ix Y)=Z at HB bf ay HX ap⊢;generalize ca:Hq T Z=X at HB ay HX⊢;clear ca ap;generalize hW:((w.alloc (H #[G po T.length pc] 44)).alloc (H #[D aa,G so n sc] 74)).alloc (H #[D ix,D lo,D hi] 159)=W3 at an HR bT bW;have bP:W3.heap[w.heap.size]?=J (H #[G po T.length pc] 44):=by rw[←hW];exact Ad (Ad (Ab w _) _) _
 have HW:Hid _:=hW;clear hW;have c0:=Aa bP (j:=0) rfl;have c1:=Aa bW (j:=0) rfl;have c2:=Aa bW (j:=1) rfl;have c3:=Aa bW (j:=2) rfl;have cn:(ByteArray.toList ix).isEmpty=aQ:=by
  rw[Ky];refine decide_eq_false fun h=>bc ?_
  cases ix with|mk d=>exact congrArg ByteArray.mk (Array.eq_empty_of_size_eq_zero h)
 clear bc;unfold J0;go_enter Tryz.func106,Tryz.ntmps106;go_upto_region 1 with fail;rw[HW.out];go_wp2_with(go_fit HR;rintro e w0 ⟨kv,vv,rfl,bg,bh,ag⟩;obtain⟨co,cp,rfl⟩:=Eu.shape bh;obtain⟨cq,cr,rfl⟩:=Eu.shape bg;have ct:=Aa ((ag.block _ (aD bW)).trans bW) (j:=0) rfl);have aq:N w.heap.size w w0:=an.trans (ag.mono an.size);have ar:=(ag.block _ (aD bT)).trans bT;have bi:=(ag.block _ (aD bP)).trans bP;have bj:=(ag.block _ (aD bW)).trans bW;have KS:Hid (∀W,N w0.heap.size w0 W→W.cell? ⟨w.heap.size,0,M⟩=J (G po T.length pc)∧W.cell? ⟨w.heap.size+1,0,M⟩=J (D aa)∧W.cell? ⟨w.heap.size+2,0,M⟩=J (D ix)):=fun W hb=>
  ⟨Aa ((hb.block _ (aD bi)).trans bi) (j:=0) rfl,Aa ((hb.block _ (aD ar)).trans ar) (j:=0) rfl,Aa ((hb.block _ (aD bj)).trans bj) (j:=0) rfl⟩
 clear bh HR am
 go_region_held3(fun W=>W.cell? ⟨w.heap.size,0,M⟩=J (G po T.length pc)∧W.cell? ⟨w.heap.size+1,0,M⟩=J (D aa)∧W.cell? ⟨w.heap.size+2,0,M⟩=J (D ix))
  (with_reducible first|exact s2|exact s1|exact KS.out w0.drew (aK _ _).drew)
  (first
   |(go_fit(bf _ _ (Eu.below bg (aK _ _).drew));rintro e wk ⟨zv,rfl,cb,cc⟩;have az:N w0.heap.size w0 wk:=Ac (aK _ _).drew cc;have s1:=KS.out wk az)
   |(go_fit(HB _ _ ⟨_,rfl,A8.below bz.out (aq.trans (az.mono aq.size))⟩ cb);rintro e w1 ⟨cu,rfl,bk,cd⟩;obtain⟨vo,vc,rfl⟩:=Eu.shape bk;have ba:N w0.heap.size w0 w1:=Ac az cd;have s2:=KS.out w1 ba))
 go_wp2;have bl:=(ba.block _ (aD ar)).trans ar;have bb:N w.heap.size w w1:=aq.trans (ba.mono aq.size)
 go_loopw[9,36] (fun zv i wr=>∃k:Nat,k≤X.length∧i=aL aN k∧Dq w1.heap.size zv (Cx n (X.take k)) wr∧N w1.heap.size w1 wr) (fun _ i _=>X.length-(cD i).toNat)
 case atStart=>exact⟨0,cV _,rfl,Cd _ _,aK _ _⟩
 case round=>
  obtain⟨k,hk,rfl,⟨cs,ae,ah⟩,ad⟩:=hrel
  by_cases ce:k<X.length
  ·obtain⟨x,hx⟩:∃x,X[k]?=J x:=⟨_,aR ce⟩;obtain⟨b,cv,cap,cf,hb,_,_,bm⟩:=bk.at (by omega);cases cf;have d0:=(ad.cell hb).trans (bm k x hx);have HV:=fun W=>N7 x W (by have:=HX.out x (cB hx);omega)
   have au:Hid (Cx n _=Cx n _++(Il n x).toList):=Aai hx;have v0:(0:Int)≤k:=by omega
   have v1:k<(X.length:Int):=by omega
   have ai:=ad.size;have bn:=ae.lt;have ac:=(ad.block _ (aD bl)).trans bl;have cx:(Cx n (X.take k)).length≤400000:=aA (Xa _ _) (by grind);clear hx bm;unfold Hn at HV;cases aj:vals x.data.toList with
   |none=>
    have E2:Hid (Cx n (X.take (k+1))=Cx n (X.take k)):=by show _=_;rw[au.out,Il,aj];simp
    rw[aj]at HV;simp only at HV;go_wp2_with(go_fit(HV _);rintro e w2 ⟨rfl,ab⟩);go_roundw
    case rel=>exact⟨k+1,by omega,by rfl,by rw[E2.out];exact Dq.below ⟨cs,ae,ah⟩ ab,ad.trans (ab.mono ai)⟩
    case measure=>simp[cD];omega
   |some L=>
    rw[aj]at HV;simp only at HV;have HF:=fun ao c W=>Oa aa so n sc ao L.length c W
    by_cases hf:0<L.length∧L.length=n
    ·have E2:Hid (Cx n (X.take (k+1))=Cx n (X.take k)++[L]):=by show _=_;rw[au.out,Il,aj];simp only;rw[if_pos hf];rfl
     rw[show(decide _&&decide _)=aO by grind]at HF;clear hf au;go_wp2_with(first
      |(go_fit(HV _);rintro e w2 ⟨⟨lv,rfl,av⟩,ab⟩;obtain⟨ak,al,rfl⟩:=Eu.shape (Eu.of_own av);have t2:=Aa ((ab.block _ (aD ac)).trans ac) (j:=0) rfl;have t3:=Aa ((ab.block _ (aD ac)).trans ac) (j:=1) rfl)
      |(go_fit(HF _ _ _);rintro e w3 ⟨rfl,af⟩;have aw:N _ wr (w3.alloc (H [G ak L.length al].toArray 57)):=(Ac ab af).alloc (Ac ab af).size _;have bo:=aA ai aw.size)
      |(at_builtin;go_must(refine bJ _ rfl _ _ 30 rfl _ 57 i0 _ 1 24 Tryz.underlying30 bu bv bw bx rfl (by simp) _ _ _ rfl (Aj ae aw) _ 1 1 _ rfl rfl (B8 w3 [.slice ak L.length al] 57) ?h1 (by simp only[bA];omega) (by omega) bo ?h2)))
     case h1=>simp only[bG];repeat(first|exact fun _ h=>absurd h bR|refine⟨rfl,?_⟩)
     case h2=>
      intro z2 w4 cg bp _ ch;have cj:z2.ownBlock=u9.ownBlock∨z2.ownBlock=J (w3.alloc (H [G ak L.length al].toArray 57)).heap.size:=by rw[World.size_alloc];exact ch
      have ck:IsL Lw (FO _ u9) (w3.alloc (H [G ak L.length al].toArray 57)) _ L:=
       (Nc av fun k hk=>⟨aA ai hk,fun e=>by have:=(bn k e.symm).2;omega⟩).keep (Ak ((Ac af (Aq _ _))))
      have cy:=L7 cg (ah.keep (Ak aw)) ck bp cj;go_wp2_with fail;go_roundw
      case rel=>exact⟨k+1,by omega,by rfl,by rw[E2.out];omega,(ad.trans (aw.mono ai)).grown bp bo fun k hk=>(bn k hk).1⟩
      case measure=>simp[cD];omega
    ·have E2:Hid (Cx n (X.take (k+1))=Cx n (X.take k)):=by show _=_;rw[au.out,Il,aj];simp only;rw[if_neg hf];simp
     rw[show(decide _&&decide _)=aQ by grind]at HF;go_wp2_with(first|(go_fit(HV _);rintro e w2 ⟨⟨lv,rfl,av⟩,ab⟩;obtain⟨ak,al,rfl⟩:=Eu.shape (Eu.of_own av);have t2:=Aa ((ab.block _ (aD ac)).trans ac) (j:=0) rfl;have t3:=Aa ((ab.block _ (aD ac)).trans ac) (j:=1) rfl)|(go_fit(HF _ _ _);rintro e w3 ⟨rfl,af⟩));go_roundw
     case rel=>exact⟨k+1,by omega,by rfl,by rw[E2.out];exact Dq.below (Dq.below ⟨cs,ae,ah⟩ ab) af,(ad.trans (ab.mono ai)).trans (af.mono (by have:=ab.size;omega))⟩
     case measure=>simp[cD];omega
  ·have cl:k=X.length:=by omega
   subst cl;have v1:¬(X.length<(X.length:Int)):=by omega
   rw[bQ]at ae ah;go_wp2;go_ret;exact⟨_,rfl,Dq.base ⟨cs,ae,ah⟩ bb.size,bb.trans (ad.mono bb.size)⟩
structure Sp where
 lo:Wd
 hi:Wd
def Sp.val (s:Sp):bB:=O #[D s.lo,D s.hi]
def ffW:Wd:=⟨#[255]⟩
def Ld (s:Wd):Sp:=⟨s,s++ffW⟩
def kb (v:V):Wd:=str (Bb [v]).1
def skS (v:V):Sp:=Ld ((kb v).extract 0 1)
def Vz (v:V)(yes:Bool):Sp:=if yes then Ld (kb v)else skS v
def Uw (v:V)(yes:Bool):Sp:=if yes then⟨(skS v).lo,kb v⟩else⟨kb v,(skS v).hi⟩
def Rn (v:V)(yes:Bool):Sp:=if yes then⟨kb v++ffW,(skS v).hi⟩else⟨(skS v).lo,kb v++ffW⟩
def Sp.empty (s:Sp):Bool:=!klt s.lo s.hi
def Ly (a b:Wd):Wd:=if klt a b then b else a
def Lz (a b:Wd):Wd:=if klt b a then b else a
def Sp.both (s o:Sp):Sp:=⟨Ly s.lo o.lo,Lz s.hi o.hi⟩
def Sp.either (s o:Sp):Sp:=if s.empty then o else if o.empty then s else⟨Lz s.lo o.lo,Ly s.hi o.hi⟩
def noS:Sp:=⟨noW,noW⟩
theorem Ga {fn}{p:Tmp}{w0 w}{g}{a}{c0 c1}{t ty}{fs}(x y)(hr:fn.results=#[.cell p ty])(hp:a.tmps.getD p undef=cQ (J ⟨g,0,M⟩))(hd:a.defers=[])
  (hg:w.heap[g]?=J (H #[c0,c1] t)) (hb:N w0.heap.size w0 w) (aa:w0.heap.size≤g)
  (hu:Tryz.prog.underlying ty=J (.struct fs)) (hi:(Tryz.prog.info? ty).map (·.size)=J 2):
  bodyPost aB fn (fun e w'=>e=aE (O #[x,y])∧N w0.heap.size w0 w') .ret a ((w.setCell ⟨g,0,M⟩ x).setCell ⟨g,1,M⟩ y):=
 bE (results_cell_row hr a.tmps _ g t #[x,y] (0,0) _ hp (by rw[upd (upd hg 0 x) 1 y];rfl) hu rfl hi) hd ⟨rfl,(hb.setCell aa _).setCell aa _⟩
theorem A5 {w w'}{g}{t}{c0 c1}(hg:w.heap[g]?=J (H #[c0,c1] t))(hb:N w.heap.size w w'):w'.heap[g]?=J (H #[c0,c1] t)∧w'.cell? ⟨g,0,M⟩=J c0∧w'.cell? ⟨g,1,M⟩=J c1∧w'.frozen? ⟨g,0,M⟩=aQ∧w'.frozen? ⟨g,1,M⟩=aQ:=by
 have h:=(hb.block g (aD hg)).trans hg;exact⟨h,Aa h rfl,Aa h rfl,by simp[dD,h],by simp[dD,h]⟩
theorem Alo {v}(h:good v=aO):1≤(kb v).size∧(kb v).size≤10:=by
 unfold kb;rw[Jx,(Rf h)];refine⟨?_,Ajr v h⟩;unfold keyOf;grind
theorem Ad6 (v):(kb v).size≤10:=Kg [v]
theorem Q4 (v)(vb)(w)(hs:v.s.size≤bA)(hv:w.heap[vb]?=J (H #[aL aN v.k,aL aN v.n,D v.s] 59)):
  aT aB 111 #[G (J ⟨vb,0,M⟩) 1 1] w fun e w'=>e=aE (D (kb v))∧N w.heap.size w w':=
 Qp [v] (G (J ⟨vb,0,M⟩) 1 1) w (.inr ⟨_,_,_,rfl,aD hv,fun i x hi=>by
  match i,hi with
  |0,hi=>simp at hi;subst hi;exact⟨Aa hv rfl,Aa hv rfl,Aa hv rfl⟩⟩) (by simp) (by grind)
theorem Tc {W:aY}{g n}(hn:n≠g)(a b)(o):((W.setCell ⟨g,0,M⟩ a).setCell ⟨g,1,M⟩ b).cell? ⟨n,o,M⟩=W.cell? ⟨n,o,M⟩:=by
 rw[cZ _ _ _ _ (by simp),cZ _ _ _ _ (by simp)]
theorem Ahj {W:aY}{g n}{c0 c1 c2}(h:W.cell? ⟨n,0,M⟩=J c0∧W.cell? ⟨n,1,M⟩=J c1∧W.cell? ⟨n,2,M⟩=J c2)(hn:n≠g)(a b):
  ((W.setCell ⟨g,0,M⟩ a).setCell ⟨g,1,M⟩ b).cell? ⟨n,0,M⟩=J c0∧((W.setCell ⟨g,0,M⟩ a).setCell ⟨g,1,M⟩ b).cell? ⟨n,1,M⟩=J c1∧((W.setCell ⟨g,0,M⟩ a).setCell ⟨g,1,M⟩ b).cell? ⟨n,2,M⟩=J c2:=
 ⟨(Tc hn a b 0).trans h.1,(Tc hn a b 1).trans h.2.1,(Tc hn a b 2).trans h.2.2⟩
theorem A4b (a b:Wd)(W):(Instr.field 230 (O #[D a,D b]) 0).run aB W=U (D a) W:=by kernel_rfl
theorem A23 (a b:Wd)(W):(Instr.field 230 (O #[D a,D b]) 1).run aB W=U (D b) W:=by kernel_rfl
theorem Yp (v:V)(w:aY)(hg:good v=aO)(hs:v.s.size≤bA):aT aB 354 #[v.val] w fun e w'=>e=aE (skS v).val∧N w.heap.size w w':=by
 have hz:=Alo hg;have HK:=fun(W:aY) (vb:Nat) h=>Q4 v vb W hs h
 obtain⟨vk,vn,vs⟩:=v;simp only at HK;have E:Hid ((skS ⟨vk,vn,vs⟩).val=O #[D ((kb ⟨vk,vn,vs⟩).extract 0 1),D ((kb ⟨vk,vn,vs⟩).extract 0 1++ffW)]):=rfl;rw[E.out];generalize kb ⟨vk,vn,vs⟩=k at HK hz;have hp:(k.extract 0 1).size≤1000000:=by simp[ByteArray.size_extract];omega
 have HB:=fun W=>Js (k.extract 0 1) W hp
 have z1:(1:Int)≤(k.size:Int):=by omega
 clear hs hg E hp;simp only[V.val];generalize hq:k.extract 0 1=q at HB;unfold ffW;go_enter Tryz.func354,Tryz.ntmps354;go_wp2_with(first
  |(go_fit(HK _ _ (Fe _ _ _ _));rintro e w1 ⟨rfl,aa⟩)
  |(go_fit(HB _);rintro e w2 ⟨rfl,ab⟩;obtain⟨r0,r1,r2,r3,r4⟩:=A5 (Ca w (H #[aL aN vk,aL aN vn,D vs] 59) (H #[D noW,D noW] 230)) (Ac (Aq _ _) (Ac aa ab))))
 exact Ga _ _ Tryz.results354 rfl rfl r0 (Ac (Hx w _ _ _) (Ac aa ab)) (by omega) aI (by kernel_rfl)
theorem Alp (v:V)(yes:Bool)(w:aY)(hg:good v=aO)(hs:v.s.size≤bA):aT aB 314 #[v.val,dM yes] w fun e w'=>e=aE (Vz v yes).val∧N w.heap.size w w':=by
 have hz:=Alo hg;have HK:=fun(W:aY) (vb:Nat) h=>Q4 v vb W hs h
 have HS:=fun W=>Yp v W hg hs
 have HB:=fun W=>Js (kb v) W (by omega)
 have E:Hid ((Vz v aO).val=O #[D (kb v),D (kb v++ffW)]∧(Vz v aQ).val=O #[D (skS v).lo,D (skS v).hi]):=⟨rfl,rfl⟩;obtain⟨vk,vn,vs⟩:=v;simp only at HK;simp only[V.val]at HS⊢;have ES:Hid ((skS ⟨vk,vn,vs⟩).val=O #[D (skS ⟨vk,vn,vs⟩).lo,D (skS ⟨vk,vn,vs⟩).hi]):=rfl;rw[ES.out]at HS;clear hs hg hz ES;unfold ffW at E;obtain⟨ac,-,blk,-⟩:=al2 w (H #[aL aN vk,aL aN vn,D vs] 59) (H #[D noW,D noW] 230);generalize(skS ⟨vk,vn,vs⟩).lo=slo at HS E;generalize(skS ⟨vk,vn,vs⟩).hi=shi at HS E;generalize kb ⟨vk,vn,vs⟩=k at HK HB E;cases yes
 ·rw[E.out.2];go_enter Tryz.func314,Tryz.ntmps314;go_wp2_with(go_fit(HS _);rintro e w1 ⟨rfl,aa⟩;obtain⟨r0,r1,r2,r3,r4⟩:=A5 blk aa);exact Ga _ _ eW rfl rfl r0 (Ac ac aa) (by omega) aI (by kernel_rfl)
 ·rw[E.out.1];go_enter Tryz.func314,Tryz.ntmps314;go_wp2_with(first
   |(go_fit(HK _ _ (Fe _ _ _ _));rintro e w1 ⟨rfl,aa⟩)
   |(go_fit(HB _);rintro e w2 ⟨rfl,ab⟩;obtain⟨r0,r1,r2,r3,r4⟩:=A5 blk (Ac (Aq _ _) (Ac aa ab))))
  exact Ga _ _ eW rfl rfl r0 (Ac (Hx w _ _ _) (Ac aa ab)) (by omega) aI (by rfl)
theorem Auy (v)(yes)(w)(hg:good v=aO)(hs:v.s.size≤bA):(aT aB 315 #[v.val,dM yes] w fun e w'=>e=aE (Uw v yes).val∧N w.heap.size w w')∧aT aB 316 #[v.val,dM yes] w fun e w'=>e=aE (Rn v yes).val∧N w.heap.size w w':=by
 have hz:=Alo hg;have HK:=fun W vb h=>Q4 v vb W hs h
 have HS:=fun W=>Yp v W hg hs
 have HB:=fun W=>Js (kb v) W (by omega)
 have E:Hid (((Uw v aO).val=O #[D (skS v).lo,D (kb v)]∧(Uw v aQ).val=O #[D (kb v),D (skS v).hi])∧(Rn v aO).val=O #[D (kb v++ffW),D (skS v).hi]∧(Rn v aQ).val=O #[D (skS v).lo,D (kb v++ffW)]):=⟨⟨rfl,rfl⟩,rfl,rfl⟩;obtain⟨vk,vn,vs⟩:=v;simp only at HK;simp only[V.val]at HS⊢;have ES:Hid ((skS _).val=O #[D _,D (skS ⟨vk,vn,vs⟩).hi]):=rfl;rw[ES.out]at HS;clear hs hg hz ES;unfold ffW at E;obtain⟨aa,ab,blk,-⟩:=al2 w (H #[aL aN vk,aL aN vn,D vs] 59) (H #[D noW,D noW] 230);generalize(skS _).lo=slo at HS E;generalize(skS _).hi=shi at HS E;generalize kb _=k at HK HB E;generalize hW:(w.alloc _).alloc _=V at blk ab aa;have HW:Hid _:=hW;clear hW;have KS:Hid (∀W,N _ V W→W.cell? ⟨_,0,M⟩=J (aL _ vk)∧W.cell? ⟨_,1,M⟩=J (aL _ vn)∧W.cell? ⟨_,2,M⟩=J (D vs)):=fun W hW=>by
  have b:=(hW.block _ (aD ab)).trans ab;exact⟨Aa b rfl,Aa b rfl,Aa b rfl⟩
 have z0:N V.heap.size V _:=(aK _ V).drew;have zA:N V.heap.size V (V.drew.alloc (H #[aL aN vk,aL aN vn,D vs] 59)):=z0.alloc (aS _) _;have zD:N V.heap.size V (V.alloc (H #[aL aN vk,aL aN vn,D vs] 59)).drew:=((aK _ V).alloc (aS _) _).drew;have ac:w.heap.size≠w.heap.size+1:=by omega
 have F0:=A4b;have F1:=A23;constructor<;>cases yes
 focus
  rw[E.out.1.2];go_enter Tryz.func315,Tryz.ntmps315;go_upto_region 3 with fail
 rotate_left
 focus
  rw[E.out.1.1];go_enter Tryz.func315,Tryz.ntmps315;go_upto_region 2 with fail
 rotate_left
 focus
  rw[E.out.2.2];go_enter Tryz.func316,Tryz.ntmps316;go_upto_region 3 with fail
 rotate_left
 focus
  rw[E.out.2.1];go_enter Tryz.func316,Tryz.ntmps316;go_upto_region 2 with fail
 all_goals
  rw[HW.out]
  go_region_held3(fun W=>W.cell? ⟨w.heap.size,0,M⟩=J (aL aN vk)∧W.cell? ⟨w.heap.size,1,M⟩=J (aL aN vn)∧W.cell? ⟨w.heap.size,2,M⟩=J (D vs))
   (with_reducible first|exact(KS.out _ z0)|exact yA|exact(KS.out _ zD)|exact yS|exact ae|exact yK|exact yB|exact Ahj yS ac _ _|exact Ahj yB ac _ _)
   (first
    |(go_at_call 354;refine(HS _).mono ?_;rintro e wS ⟨rfl,ad⟩;have zS:N V.heap.size V wS:=Ac (by with_reducible first|exact z0|exact zA|exact zD|exact zK|exact zB) ad;have zL:N V.heap.size V wS:=zS;obtain⟨r0,r1,r2,r3,r4⟩:=A5 blk zS;have yS:=KS.out _ zS;have ae:=KS.out _ (zS.alloc zS.size (H #[aL aN vk,aL aN vn,D vs] 59)))
    |(go_at_call 111;refine(HK _ _ (by first|exact Ab _ _|exact(ad.block _ (aD (Ab V (H #[aL aN vk,aL aN vn,D vs] 59)))).trans (Ab V (H #[aL aN vk,aL aN vn,D vs] 59)))).mono ?_;rintro e wK ⟨rfl,af⟩;have zK:N V.heap.size V wK:=Ac (by with_reducible first|exact zA|exact zD|exact zS|exact zS.alloc zS.size _) af;have yK:=KS.out _ zK)
    |(go_at_call 179;refine(HB _).mono ?_;rintro e wB ⟨rfl,ag⟩;have zB:N V.heap.size V wB:=Ac (by with_reducible first|exact zK|exact zS) ag;have zL:N V.heap.size V wB:=zB;obtain⟨r0,r1,r2,r3,r4⟩:=A5 blk zB;have yB:=KS.out _ zB))
  all_goals
   go_wp2
   first
    |exact Ga _ _ Tryz.results315 rfl rfl r0 (Ac aa zL) (by omega) aI (by rfl)
    |exact Ga _ _ Tryz.results316 rfl rfl r0 (Ac aa zL) (by omega) aI (by rfl)
theorem Ap3 (a b:Wd)(ats)(ty)(w):(eZ ats ty #[D a,D b]).run aB w=U (D (Ly a b)) w:=by
 simp only[eZ,Builtin.max2,List.foldlM,Op.stringOp,Ly,klt]
 by_cases h:bU a.toList b.toList=aO
 ·simp[asBool,h]
 ·simp[asBool,h]
theorem Ap4 (a b:Wd)(ats)(ty)(w):(eY ats ty #[D a,D b]).run aB w=U (D (Lz a b)) w:=by
 simp only[eY,Builtin.min2,List.foldlM,Op.stringOp];have aa:(bU a.toList b.toList||a.toList==b.toList)= !klt b a:=by
  cases h:klt b a with
  |true=>
   have h1:bU _ _=aQ:=Kv h;have h2:(a.toList==b.toList)=aQ:=by
    rw[Jj];exact decide_eq_false fun e=>Fz h e.symm
   grind
  |false=>
   rcases Jh h with e|e
   ·grind
   ·have:bU _ _=aO:=e;grind
 rw[aa];unfold Lz
 by_cases h:klt b a=aO
 ·simp[asBool,h]
 ·simp[asBool,h]
theorem Ts (s:Sp)(w):aT aB 255 #[s.val] w fun e w'=>e=aE (dM s.empty)∧N w.heap.size w w':=by
 obtain⟨lo,hi⟩:=s;have E:Hid ((Sp.mk lo hi).empty= !bU lo.toList hi.toList):=rfl;generalize(Sp.mk lo hi).empty=r at E;simp only[Sp.val];go_enter Tryz.func255,Tryz.ntmps255;go_wp2;go_ret;exact⟨Ah (by rw[E.out]),Aq _ _⟩
theorem Arx (s o:Sp)(w):aT aB 251 #[s.val,o.val] w fun e w'=>e=aE (s.both o).val∧N w.heap.size w w':=by
 obtain⟨lo,hi⟩:=s;obtain⟨aa,ab⟩:=o;have E:Hid (((Sp.mk lo hi).both (Sp.mk aa ab)).val=O #[D (Ly lo aa),D (Lz hi ab)]):=rfl;rw[E.out];simp only[Sp.val];have h1:=fun ac ty w=>Ap3 lo aa ac ty w
 have h2:=fun ac ty w=>Ap4 hi ab ac ty w
 generalize Ly lo aa=a at h1;generalize Lz hi ab=b at h2;go_enter Tryz.func251,Tryz.ntmps251;go_wp2;exact bE (results_cell_row Tryz.results251 _ _ _ 230 _ _ _ rfl (Fe w _ _ _) aI rfl (by kernel_rfl)) rfl ⟨rfl,Hx w _ _ _⟩
theorem Alq (s o:Sp)(w):aT aB 252 #[s.val,o.val] w fun e w'=>e=aE (s.either o).val∧N w.heap.size w w':=by
 have H1:=fun W=>Ts s W
 have H2:=fun W=>Ts o W
 have E:Hid ((s.either o).val=if s.empty then o.val else if o.empty then s.val else O #[D (Lz s.lo o.lo),D (Ly s.hi o.hi)]):=by
  show _=_;unfold Sp.either;split
  ·rfl
  ·split<;>rfl
 rw[E.out];clear E;generalize s.empty=e1 at H1;generalize o.empty=e2 at H2;obtain⟨lo,hi⟩:=s;obtain⟨ac,ad⟩:=o;simp only[Sp.val]at H1 H2⊢;have h1:=fun ae ty w=>Ap4 lo ac ae ty w
 have h2:=fun ae ty w=>Ap3 hi ad ae ty w
 generalize Lz lo ac=a at h1;generalize Ly hi ad=b at h2;obtain⟨af,-,-,blk,-⟩:=al3 w (H #[D lo,D hi] 230) (H #[D ac,D ad] 230) (H #[D noW,D noW] 230);have ah:=Ad (Ad (Ab w (H #[D lo,D hi] 230)) (H #[D ac,D ad] 230)) (H #[D noW,D noW] 230);have ag:=Ad (Ca w (H #[D lo,D hi] 230) (H #[D ac,D ad] 230)) (H #[D noW,D noW] 230);cases e1
 ·cases e2
  ·simp only[cF,if_false];go_enter dS,dI;go_wp2_with(first
    |(go_at_call_of 255 (dG #[D lo,D hi]);go_must(go_fit(H1 _);rintro e w1 ⟨rfl,aa⟩;obtain⟨p0,p1,p2,p3,p4⟩:=A5 ah aa;obtain⟨q0,q1,q2,q3,q4⟩:=A5 ag aa;obtain⟨r0,r1,r2,r3,r4⟩:=A5 blk aa))
    |(go_at_call_of 255 (dG #[D ac,D ad]);go_must(go_fit(H2 _);rintro e w2 ⟨rfl,ab⟩;obtain⟨p0,p1,p2,p3,p4⟩:=A5 p0 ab;obtain⟨q0,q1,q2,q3,q4⟩:=A5 q0 ab;obtain⟨r0,r1,r2,r3,r4⟩:=A5 r0 ab)))
   exact Ga _ _ cU rfl rfl r0 (Ac af (Ac aa ab)) (by omega) aI (by rfl)
  ·simp only[cF,if_false,if_true];go_enter dS,dI;go_wp2_with(first
    |(go_at_call_of 255 (dG #[D lo,D hi]);go_must(go_fit(H1 _);rintro e w1 ⟨rfl,aa⟩;obtain⟨p0,p1,p2,p3,p4⟩:=A5 ah aa;obtain⟨q0,q1,q2,q3,q4⟩:=A5 ag aa;obtain⟨r0,r1,r2,r3,r4⟩:=A5 blk aa))
    |(go_at_call_of 255 (dG #[D ac,D ad]);go_must(go_fit(H2 _);rintro e w2 ⟨rfl,ab⟩;obtain⟨p0,p1,p2,p3,p4⟩:=A5 p0 ab;obtain⟨q0,q1,q2,q3,q4⟩:=A5 q0 ab;obtain⟨r0,r1,r2,r3,r4⟩:=A5 r0 ab)))
   exact Ga _ _ cU rfl rfl r0 (Ac af (Ac aa ab)) (by omega) aI (by rfl)
 ·simp only[if_true];go_enter dS,dI;go_wp2_with(first
    |(go_fit(H1 _);rintro e w1 ⟨rfl,aa⟩;obtain⟨q0,q1,q2,q3,q4⟩:=A5 ag aa;obtain⟨r0,r1,r2,r3,r4⟩:=A5 blk aa))
  exact Ga _ _ cU rfl rfl r0 (Ac af aa) (by omega) aI (by rfl)
def Ary (o:Option (List V)):Nat:=match o with
 |some l=>l.length
 |none=>0
def Sp.rank (s:Sp):Int:=if s.empty then 0 else if Ary (vals s.lo.data.toList)=1∧s.hi=s.lo++ffW then 1 else if s.lo=noW∧s.hi=ffW then 3 else 2
def E.opI:E→Int
 |.mk op _ _ _ _ _=>op
def E.vV:E→V
 |.mk _ v _ _ _ _=>v
def E.nI:E→Int
 |.mk _ _ _ _ n _=>n
def isC (at' col op n:Int):Bool:=decide (op=2)&&decide (0≤at')&&decide (at'≤n)&&decide (n-at'=col)
def Mp (op k:Int):Bool:=decide (op=1)&&decide (k=0)
theorem Yq (at' col op)(x)(s name)(n)(ao)(k c)(w)(hn:op=2→n≤9223372036854775807):
  aT aB 312 #[O #[aL aN at',aL aN col],O (Af op x s name n (G ao k c))] w fun e w'=>e=aE (dM (isC at' col op n))∧N w.heap.size w w':=by
 obtain⟨xk,xn,xs⟩:=x;have E:Hid (isC at' col op n=(decide _&&decide _&&decide _&&decide _)):=rfl;generalize isC at' col op n=r at E
 by_cases h1:op=2
 ·subst h1;have aa:=hn rfl;clear hn
  by_cases h2:0≤at'
  ·by_cases h3:at'≤n
   ·have hw:IntKind.i64.wrap (n-at')=n-at':=by rw[IntKind.wrap_i64];omega
    by_cases h4:n-at'=col
    ·go_enter bS,bN;go_wp2;go_ret;exact⟨Ah (by rw[E.out];grind),Da _ _ _⟩
    ·go_enter bS,bN;go_wp2;go_ret;exact⟨Ah (by rw[E.out];grind),Da _ _ _⟩
   ·go_enter bS,bN;go_wp2;go_ret;exact⟨Ah (by rw[E.out];grind),Da _ _ _⟩
  ·go_enter bS,bN;go_wp2;go_ret;exact⟨Ah (by rw[E.out];grind),Da _ _ _⟩
 ·go_enter bS,bN;go_wp2;go_ret;exact⟨Ah (by rw[E.out];grind),Da _ _ _⟩
theorem Xe (op)(x)(s name)(n)(ao)(k c)(w):
  aT aB 313 #[O (Af op x s name n (G ao k c))] w fun e w'=>e=aE (dM (Mp op x.k))∧N w.heap.size w w':=by
 obtain⟨xk,xn,xs⟩:=x;have E:Hid (Mp op xk=(decide _&&decide _)):=rfl;simp only;generalize Mp op xk=r at E
 by_cases h1:op=1
 ·subst h1
  by_cases h2:xk=0
  ·subst h2;go_enter dR,dH;go_wp2;go_ret;exact⟨Ah (by rw[E.out];rfl),Aq _ _⟩
  ·go_enter dR,dH;go_wp2;go_ret;exact⟨Ah (by rw[E.out];rfl),Aq _ _⟩
 ·go_enter dR,dH;go_wp2;go_ret;exact⟨Ah (by rw[E.out];grind),Aq _ _⟩
end
end Go.Proofs.YtjapkoofjlmdgaaGreatDoor

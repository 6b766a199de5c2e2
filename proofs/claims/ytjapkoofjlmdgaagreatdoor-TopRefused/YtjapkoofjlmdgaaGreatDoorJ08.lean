/-
  17 texts of this proof in one,in build order:YScope,YMay,YCm,YChange,YSelect,YBk,YKind,WMath,QShelf,QSort,QOnce,QRows,QRows2,QRows3,QSpan,QSpan2,QWhere.
-/
import Derived.Deep.MidRow
import Derived.Deep.RegionHeld3
import Derived.Shelf.Lays
import Derived.Shelf.Sort.Plain
import Derived.Shelf.Slices.CompactS
import Derived.Shelf.Small.Wraps
import Derived.Test.YtjapkoofjlmdgaaGreatDoorProg
import Derived.Shelf.Slices.In.SortNone
import Derived.Deep.Cut
import Derived.Laws.StructEq
import Derived.Test.YtjapkoofjlmdgaaGreatDoorJ01
import Derived.Test.YtjapkoofjlmdgaaGreatDoorJ02
import Derived.Test.YtjapkoofjlmdgaaGreatDoorJ03
import Derived.Test.YtjapkoofjlmdgaaGreatDoorJ04
import Derived.Test.YtjapkoofjlmdgaaGreatDoorJ06
import Derived.Test.YtjapkoofjlmdgaaGreatDoorJ07
set_option linter.unusedSimpArgs false
set_option linter.unusedVariables false
set_option maxRecDepth 100000
set_option maxHeartbeats 0
open Go.Value renaming agg→N,agg→dE,bool→dK,int→U,pointer→cO,slice→G,string→D,tuple→bF
open Nat renaming le_refl→aQ,le_trans→O,lt_of_lt_of_le→cE,zero_add→dU,zero_le→cT
open Go.Obj renaming cells→H
open Except renaming error→I
open Go.Proofs.Tryz renaming func161→dR,func252→dQ,func312→bQ,func313→dP,func92→eA,func93→cN,isAgg3→dZ,isAgg4→dY,isAgg9→dX,ntmps161→dH,ntmps252→dG,ntmps312→bL,ntmps313→dF,ntmps92→dO,ntmps93→cF,prog→aA,results252→cS,results314→eU,results49→bY,results95→bX,results96→bV,sizeOf3→dN,sizeOf4→dM,sizeOf9→dL,underlying0→eO,underlying230→aH,underlying3→cK,underlying4→cJ,underlying41→aS,underlying54→bK,underlying69→eJ,underlying71→aF,underlying9→cI,zeroValue0→eT,zeroValue3→cR,zeroValue4→cQ,zeroValue54→eN,zeroValue9→cP
open Array renaming toArray_toList→aT,toList_inj→aB
open Go renaming Calls→aR,Value→aZ,World→aW,bodyPost_ret→bC,info_parts→dS,lt_of_block→aC,maxLen→aY,wpAnyH_take→eS,wpList_append_own_at→bH,wpList_load_row→aK,wpList_store_row→bU
open Go.Ending renaming returned→aD
open Option renaming none→M,some→J,toList_some→eB
open Except.error renaming inj→aE
open List renaming any_eq_false→cH,any_eq_true→eQ,cons_append→eP,filterMap_append→dV,filter_sublist→cC,find?_some→eV,forall_mem_cons→bE,getElem?_eq_getElem→aP,getElem?_eq_some_iff→dC,length_append→bI,length_cons→cL,length_filterMap_le→dJ,length_filter_le→bS,length_map→bG,map_append→cV,mem_cons→bD,mem_filter→aG,mem_map→aN,mem_map_of_mem→eD,mem_mergeSort→eI,mem_of_find?_eq_some→aV,mem_of_getElem?→bZ,mem_range→cY,nil_append→cU,not_mem_nil→bO,pairwise_cons→aX,pairwise_map→eL,setIfInBounds_toArray→aU,set_cons_succ→eH,set_cons_zero→eG,size_toArray→eK,take_add_one→cG,take_length→bN
open Go.Lib renaming compact→aI,compactUpTo→cW,trimPrefix→dD
open Go.RowKit.Below renaming block→dW,heap_setCell→eE,refl→aJ
open Go.IntKind renaming i64→aL
open Bool renaming and_eq_true→bB,false→aO,false_eq_true→cD,not_eq_true'→bA,true→aM
open List.Pairwise renaming sublist→bJ
open Prod renaming fst→bM
open Go.Op renaming bytesLess→bR
open List.Sublist renaming map→cA
open Go.Proofs renaming encStr→dT,intOf→cB
open Go.Value.agg renaming inj→cM
open Go.World renaming cell?_setCell_other→cX,frozen?→dB,ownsRow_nil→eF
open Go.Shelf renaming Ren→cZ
open Go.Act renaming put→dA
open Go.RowKit renaming Below→dI
open Except.ok renaming injEq→eC
open Go.Sort renaming ahead→eR,putRow→eM
open Go.Builtin renaming max_→eX,min_→eW
namespace Go.Proofs.YtjapkoofjlmdgaaGreatDoor
section
open Go.RowKit Go.Maps
def Eo {α β:Type}(f:List α→α→Except Int β):List α→List α→Except Int (List β)
 |_,[]=>.ok []
 |seen,p::l=>match f seen p with
  |I m=>I m
  |.ok q=>match Eo f (seen++[p]) l with
   |I m=>I m
   |.ok qs=>.ok (q::qs)
theorem Vt {α β}(f:List α→α→Except Int β):∀(seen l:List α) (p:α),Eo f seen (l++[p])=match Eo f seen l with
  |I m=>I m
  |.ok qs=>match f (seen++l) p with
   |I m=>I m
   |.ok q=>.ok (qs++[q])
 |seen,[],p=>by
  simp only[cU,Eo,List.append_nil]
 |seen,x::l,p=>by
  simp only[eP,Eo,Vt f (seen++[x]) l p];rw[show seen++[x]++l=seen++x::l by simp];cases f seen x with
  |error m=>rfl
  |ok r=>
   grind
theorem Yk {α β}(f:List α→α→Except Int β):∀(seen l m:List α) (k:Int),Eo f seen l=I k→Eo f seen (l++m)=I k
 |seen,[],m,k,h=>by simp[Eo]at h
 |seen,x::l,m,k,h=>by
  simp only[eP,Eo]at h⊢;cases hx:f seen x with
  |error j=>grind
  |ok r=>
   rw[hx]at h;simp only at h⊢;cases hl:Eo f _ l with
   |error j=>
    rw[hl]at h;rw[Yk f _ l m j hl];omega
   |ok rs=>grind
def It (T:List TabD)(seen:List Wd)(s:Wd):Except Int TabD:=
 match Bu T s with
 |none=>I 3
 |some t=>if Nw seen s then I 4 else .ok t
def G2 (T:List TabD)(l:List Wd):Except Int (List TabD):=if l.length<1∨2<l.length then I 1 else Eo (It T) [] l
theorem Ayg:(Tryz.prog.info? 74).map (fun i=>(i.zero,i.size,i.bytes))=J (J (N #[D ⟨#[]⟩,G M 0 0]),2,40):=by kernel_rfl
theorem Kc.kept {α}{K}{ty}{C base b}{z}{A:List α}{w w'}(h:Kc K ty C base z A w)(hg:w.grownBy w' (J b))(h1:C≤b)(h2:b<base):Kc K ty C base z A w':=by
 obtain⟨cs,h3,h4⟩:=h;have hz:=h3.lt;refine⟨cs,h3.kept hg (by grind),h4.keep ⟨hg.size,fun k hk hl=>hg.block k hl (fun e=>by
   have:=Option.some.inj e;rcases hk with h|h
   ·omega
   omega)⟩⟩
theorem Aoa (T:List TabD)(tv iv:aZ)(be:Hj iv)(l:List Wd)(fv:aZ)(C:Nat)(w:aW)(ht:IsL Ci (fun k=>k<C) w tv T)(hl:IsL Ou (fun k=>k<C) w fv l)(hC:C≤w.heap.size)(hs:∀s∈l,s.size≤aY):
  aR aA 161 #[N #[tv,iv],fv] w fun r w'=>(∃u,r=aD u∧Nl Ci (G2 T l) (Fx C w.heap.size) w' u)∧Below w.heap.size w w':=by
 obtain⟨af,tc,rfl⟩:=ht.shape;obtain⟨fo,fc,rfl⟩:=hl.shape;obtain⟨io,iN,ic,rfl⟩:=be;obtain⟨i0,hi,bf,bg,bh⟩:=dS Ayg;have ab:=Aq w (H #[G af T.length tc,G io iN ic] 41)
 by_cases ak:l.length<1∨2<l.length
 ·have HE:Hid (G2 T l=I 1):=if_pos ak;clear ht hl hs
  by_cases h1:l.length<1
  ·have q1:(l.length:Int)<1:=by omega
   go_enter dR,dH;go_wp2_with fail;go_ret2;refine⟨⟨_,rfl,?_⟩,ab⟩;rw[HE.out];rfl
  ·have q1:¬(l.length:Int)<1:=by omega
   have q2:(2:Int)<(l.length:Int):=by omega
   go_enter dR,dH;go_wp2_with fail;go_ret2;refine⟨⟨_,rfl,?_⟩,ab⟩;rw[HE.out];rfl
 ·have ap:Hid (G2 T l=Eo (It T) [] l):=if_neg ak;have q1:¬(l.length:Int)<1:=by omega
  have q2:¬(2:Int)<(l.length:Int):=by omega
  have bu:l.length≤2:=by omega
  obtain⟨aq,ar,-,-⟩:=al2 w (H #[G af T.length tc,G io iN ic] 41) (.map #[] 0);have au:Cnt ((w.alloc (H #[G af T.length tc,G io iN ic] 41)).alloc (.map #[] 0)) (w.heap.size+1) []:=by
   have:=Abm (w.alloc (H #[G af T.length tc,G io iN ic] 41));rwa[show(w.alloc (H #[G af T.length tc,G io iN ic] 41)).heap.size=w.heap.size+1 by simp]at this
  have bi:=@run_makeMap aA;clear ak;go_enter dR,dH;go_wp2_with fail;clear bi
  go_loopw[7,23] (fun zv i wr=>∃(j:Nat) (rs:List TabD),j≤l.length∧i=U aL j∧Hid (Eo (It T) [] (l.take j)=.ok rs)∧Hid (rs.length=j)∧wr.heap[w.heap.size]?=J (H #[G af T.length tc,G io iN ic] 41)∧Cnt wr (w.heap.size+1) (l.take j)∧Kc Ci 74 C (w.heap.size+2) zv rs wr∧Below w.heap.size w wr∧w.heap.size+2≤wr.heap.size) (fun _ i _=>l.length-(cB i).toNat)
  case atStart=>exact⟨0,[],cT _,rfl,by show _=_;rw[List.take_zero,Eo],rfl,ar,au,Ad0 _ _ _ _ _,aq,by simp⟩
  case round=>
   obtain⟨j,rs,hj,rfl,HQ,HL,hT,av,hA,aa,bj⟩:=hrel;clear ar au aq;have q3:=HL.out;subst q3
   by_cases bk:rs.length<l.length
   ·obtain⟨a,ha⟩:∃a,l[rs.length]?=J a:=⟨_,aP bk⟩;have HT:Hid (l.take (rs.length+1)=l.take rs.length++[a]):=by show _=_;rw[cG,ha];rfl
    have HX:∀m,It T (l.take rs.length) a=I m→G2 T l=I m:=fun m hm=>by
     have hs:Eo (It T) [] (l.take (rs.length+1))=I m:=by rw[HT.out,Vt,HQ.out];simp only[cU,hm]
     have:=Yk _ [] _ (l.drop (rs.length+1)) m hs;rw[List.take_append_drop]at this;rw[ap.out,this]
    have HY:∀q,It T (l.take rs.length) a=.ok q→Eo (It T) [] (l.take (rs.length+1))=.ok (rs++[q]):=fun q hq=>by
     rw[HT.out,Vt,HQ.out];simp only[cU,hq]
    have HZ:Hid (It T (l.take rs.length) a=match Bu T a with
     |none=>I 3
     |some t=>if Nw (l.take rs.length) a then I 4 else .ok t):=rfl
    obtain⟨b,bv,cs,rfl,bw,hb,hR,aw⟩:=Av (hl.keep (Ae (aa.mono hC))) ha;obtain rfl:=hR;have d0:=aw 0 _ rfl;simp only[Ou,Nat.mul_one,Nat.add_zero]at d0;have j0:(0:Int)≤(rs.length:Int):=by omega
    have j1:(rs.length:Int)<(l.length:Int):=by omega
    have t0:=Aa hT (j:=0) rfl;have t1:=Aa hT (j:=1) rfl;have HA:=fun(W:aW) (h:Cnt W (w.heap.size+1) (l.take rs.length))=>Xp (w.heap.size+1) (l.take rs.length) a W h (hs a (bZ ha)) (by simp;omega)
    have ax:=ht.keep (Ae (aa.mono hC));clear aw ha hs hl;rcases ag:Bu T a with _|t
    ·have HE:Hid _:=HX 3 (by rw[HZ.out,ag]);have HF:=Jn ag _ _ ⟨io,iN,ic,rfl⟩ C wr ax (O hC aa.size);clear HA HX HY HZ HQ HL HT ag;go_wp2_with(first|(go_fit HF;rintro e w1 ⟨rfl,ab⟩));go_ret2;refine⟨⟨_,rfl,?_⟩,(aa.trans (ab.mono aa.size)).alloc (O aa.size ab.size) _⟩;rw[HE.out];rfl
    ·have HF:=Hv ag (G af T.length tc) (G io iN ic) ⟨io,iN,ic,rfl⟩ C wr ax (O hC aa.size);rw[ag]at HZ;simp only at HZ;cases aj:Nw (l.take rs.length) a
     ·rw[aj]at HA HZ;simp only[cD,if_false]at HZ;have HS:Hid (Eo (It T) [] (l.take (rs.length+1))=.ok (rs++[t])):=HY t HZ.out;have bx:Hid ((rs++[t]).length=rs.length+1):=by show _=_;rw[bI];rfl
      have bl:Hid (l.take rs.length++[a]=l.take (rs.length+1)):=HT.out.symm;have bz:rs.length≤2:=by omega
      obtain⟨zo,zc,al⟩:=hA.shape;clear HX HY HZ HQ HL HT ag aj;subst al;go_wp2_with(first|(go_fit HF;rintro e w1 ⟨ac,n2,c2,rfl,ay,ab⟩;have ad:Below wr.heap.size wr (w1.alloc (H #[D t.name,G ac n2 c2] 74)):=ab.alloc ab.size _;have am:=av.below ad;have hP:=Ab w1 (H #[D t.name,G ac n2 c2] 74))|(go_fit(HA _ am);rintro e w2 ⟨rfl,az,ae⟩;have ba:=Gq ae hP (by have:=ab.size;simp;omega);have p0:=Aa ba (j:=0) rfl;have p1:=Aa ba (j:=1) rfl;obtain⟨ca,bb,bm⟩:=(hA.below ad).kept ae (by omega) (by omega);have ah:=Aq w2 (H [D t.name,G ac n2 c2].toArray 74);have bn:w.heap.size+2≤w2.heap.size:=O bj (O ad.size ae.size);have an:w.heap.size+2≤(w2.alloc (H [D t.name,G ac n2 c2].toArray 74)).heap.size:=O bn ah.size)|(at_builtin;go_must(refine bH _ rfl _ _ 209 rfl (w.heap.size+2) 74 i0 _ 2 40 Tryz.underlying209 hi bf bg bh rfl (by decide) _ _ _ rfl (Aj bb ah) ⟨w2.heap.size,0,M⟩ 1 1 [.string t.name,.slice ac n2 c2] rfl rfl (B8 w2 [.string t.name,.slice ac n2 c2] 74) ?h1 (by simp only[aY];omega) (by omega) an ?h2)))
      case h1=>simp only[bE];repeat(first|exact fun _ h=>absurd h bO|refine⟨rfl,?_⟩)
      case h2=>
       intro z2 w4 bo ai _ bp;have bq:z2.ownBlock=(Value.slice zo rs.length zc).ownBlock∨z2.ownBlock=J (w2.alloc (H [D t.name,G ac n2 c2].toArray 74)).heap.size:=by simpa using bp
       have hz:=fun k hk=>(bb.lt k hk).1
       have cb:=Aas (K:=Ci) (ty:=74) (a:=t) (c:=[D t.name,G ac n2 c2]) (by omega) hz bo (bm.keep (Ak ah)) ⟨_,rfl,(((ay.keep (Ae ((Aq w1 _).mono (O hC (O aa.size ab.size))))).keep ⟨ae.size,fun k hk hl=>ae.block k hl (fun e=>by grind)⟩).keep (Ak ah)).mono (fun k _ h=>.inl h)⟩ ai bq;have bc:=Below.grow (aa.trans (ad.mono aa.size)) ae (O aa.size ad.size) (by omega);have cc:=(bc.trans (ah.mono bc.size)).grown ai (O (by omega) an) fun k hk=>O (by omega) (hz k hk)
       have bd:∀k,k<w.heap.size+2→J k≠(Value.slice zo _ zc).ownBlock:=fun k hk e=>by have:=hz k e.symm;omega
       have cd:=Gq ai ((ah.block _ (by omega)).trans (Gq ae ((ad.block _ (aC hT)).trans hT) (by simp))) (bd _ (by omega));have ce:Cnt w4 (w.heap.size+1) (l.take (rs.length+1)):=by rw[←bl.out];exact(az.below ah).kept ai (bd _ (by omega))
       have cf:=O an ai.size;go_wp2_with fail;go_roundw
       case rel=>grind
       case measure=>simp[cB];omega
     ·rw[aj]at HA HZ;have HE:Hid _:=HX 4 (by assumption);clear HX HY HZ HQ HL HT ag aj;go_wp2_with(first|(go_fit HF;rintro e w1 ⟨ac,n2,c2,rfl,ay,ab⟩;have ad:Below _ wr (w1.alloc (H #[D t.name,G ac n2 c2] 74)):=ab.alloc ab.size _;have am:=av.below ad)|(go_fit(HA _ am);rintro e w2 ⟨rfl,az,ae⟩));go_ret2;refine⟨⟨_,rfl,?_⟩,Below.grow (aa.trans (ad.mono aa.size)) ae (O aa.size ad.size) (by omega)⟩;rw[HE.out];rfl
   ·have bt:rs.length=l.length:=by omega
    have HE:Hid (G2 T l=.ok rs):=by
     show _=_;have:=HQ.out;rw[bt,bN]at this;rw[ap.out,this]
    obtain⟨zo,zc,al⟩:=hA.shape;subst al;clear HL HQ;go_wp2_with fail;go_ret2;refine⟨⟨_,rfl,?_⟩,aa⟩;rw[HE.out];exact⟨_,_,_,rfl,hA.isL.mono (F':=Fx C w.heap.size) (fun k _ h=>h.imp id (fun h=>O (by omega) h))⟩
def Kl (ct:CatD)(name:Wd)(cols:List ColD):Int:=if Kp ⟨name,cols⟩=aO then 1 else if(Bu ct.tables name).isSome then 4 else if 3≤ct.tables.length then 8 else 0
def Vu (s:Wd)(x:IdxD):Bool:=decide (x.name=s)
def Qz (ct:CatD)(name table col:Wd):Int:=if nm name=aO then 1 else if Kq ct.tables table col=aO then 3 else if Bz (atI ct.indexes (Vu name)) 0 ct.indexes.length then 4 else if 4≤ct.indexes.length then 8 else 0
def Ol (ct:CatD)(name:Wd):Int:=if(Bu ct.tables name).isSome then 0 else 3
theorem Aob (ct)(cv)(C)(w)(hc:Hp (fun k=>k<C) w ct cv)(hC:C≤w.heap.size)
  (kind) (name table col) (colsv rowsv setsv frmv outv) (op xk xn) (xs s nmv) (n8) (sl order) (down) (n):
  aR aA 94 #[cv,N (sA kind name table col colsv rowsv setsv frmv outv op xk xn xs s nmv n8 sl order down n)] w fun r w'=>r=aD (U aL (Ol ct name))∧Below w.heap.size w w':=by
 obtain⟨tv,iv,rfl,ad,ae⟩:=hc;have aa:=Da w (H #[tv,iv] 41) (H (sA kind name table col colsv rowsv setsv frmv outv op xk xn xs s nmv n8 sl order down n) 71);have af:=Gf ae;rcases ab:Bu ct.tables name with _|t
 ·have HE:Hid (Ol ct name=3):=by show _=_;unfold Ol;rw[ab];rfl
  have HF:=Jn ab tv iv af C _ (ad.keep (Ae (aa.mono hC))) (O hC aa.size);clear ad ae ab;go_enter Tryz.func94,Tryz.ntmps94;go_wp2_with(first|(go_fit HF;rintro e w1 ⟨rfl,ac⟩));go_ret;exact⟨Au HE.out.symm,(Ac aa ac).alloc (Ac aa ac).size _⟩
 ·have HE:Hid (Ol ct name=0):=by show _=_;unfold Ol;rw[ab];rfl
  have HF:=Hv ab tv iv af C _ (ad.keep (Ae (aa.mono hC))) (O hC aa.size);clear ad ae ab;go_enter Tryz.func94,Tryz.ntmps94;go_wp2_with(first|(go_fit HF;rintro e w1 ⟨ag,n2,c2,rfl,ah,ac⟩));go_ret;exact⟨Au HE.out.symm,(Ac aa ac).alloc (Ac aa ac).size _⟩
theorem Ai4 (ct)(cv)(C)(w)(hc:Hp (fun k=>k<C) w ct cv)(hC:C≤w.heap.size)(cols)
  (kind) (name table col) (colsv rowsv setsv frmv outv) (op xk xn) (xs s nmv) (n8) (sl order) (down) (n) (aj:IsL Cp (fun k=>k<C) w colsv cols) (hf:Yb ⟨name,cols⟩):
  aR aA 92 #[cv,N (sA kind name table col colsv rowsv setsv frmv outv op xk xn xs s nmv n8 sl order down n)] w fun r w'=>r=aD (U aL (Kl ct name cols))∧Below w.heap.size w w':=by
 obtain⟨tv,iv,rfl,ai,am⟩:=hc;obtain⟨ah,tc,rfl⟩:=ai.shape;obtain⟨co,cc,rfl⟩:=aj.shape;obtain⟨ac,ak,ae,-⟩:=al2 w (H #[G ah ct.tables.length tc,iv] 41) (H (sA kind name table col (G co cols.length cc) rowsv setsv frmv outv op xk xn xs s nmv n8 sl order down n) 71);have al:=Gf am;have HG:=fun W (h:Below _ w W)=>Xb _ _ C W (aj.keep (Ae (h.mono hC))) (O hC h.size) hf
 have HX:∃(b:Bool),(Bu ct.tables name).isSome=b∧aR aA 105 #[N #[G ah ct.tables.length tc,iv],D name] ((w.alloc (H #[G ah ct.tables.length tc,iv] 41)).alloc (H (sA kind name table col (G co cols.length cc) rowsv setsv frmv outv op xk xn xs s nmv n8 sl order down n) 71)) fun e w'=>∃(tn:Wd) (ao:Option Addr) (k c:Nat),e=aD (bF #[N #[D tn,G ao k c],dK b])∧Below ((w.alloc (H #[G ah ct.tables.length tc,iv] 41)).alloc (H (sA kind name table col (G co cols.length cc) rowsv setsv frmv outv op xk xn xs s nmv n8 sl order down n) 71)).heap.size ((w.alloc (H #[G ah ct.tables.length tc,iv] 41)).alloc (H (sA kind name table col (G co cols.length cc) rowsv setsv frmv outv op xk xn xs s nmv n8 sl order down n) 71)) w':=by
  rcases an:Bu ct.tables name with _|t
  ·refine⟨aO,rfl,(Jn an _ iv al C _ (ai.keep (Ae (ac.mono hC))) (O hC ac.size)).mono ?_⟩;rintro e w1 ⟨rfl,aa⟩;grind
  ·refine⟨aM,rfl,(Hv an _ iv al C _ (ai.keep (Ae (ac.mono hC))) (O hC ac.size)).mono ?_⟩;rintro e w1 ⟨ab,n2,c2,rfl,au,aa⟩;grind
 obtain⟨b,hb,HF⟩:=HX;have HE:Hid (Kl ct name cols=if Kp ⟨name,cols⟩=aO then 1 else if b then 4 else if 3≤ct.tables.length then 8 else 0):=by show _=_;unfold Kl;rw[hb]
 generalize Kl ct name cols=R at HE;generalize Kp _=g at HE HG;generalize ct.tables.length=tl at*;clear ai am aj hb al;have ap:=aC ak;have af:=aC ae;have aq:(3≤tl∧(3:Int)≤tl)∨(¬3≤tl∧¬(3:Int)≤tl):=by omega
 cases g
 ·go_enter eA,dO;go_wp2_with(first|(go_fit HF;rintro e w1 ⟨tn,ab,n2,c2,rfl,aa⟩;have ad:Below _ w (w1.alloc (H #[D tn,G ab n2 c2] 74)):=(Ac ac aa).alloc (Ac ac aa).size _;have z1:=Aa (Ad ((aa.block _ af).trans ae) (H #[D tn,G ab n2 c2] 74)) (j:=1) rfl;have z4:=Aa (Ad ((aa.block _ af).trans ae) (H #[D tn,G ab n2 c2] 74)) (j:=4) rfl)|(go_fit(HG _ ad);rintro e w2 ⟨rfl,ag⟩));go_ret;exact⟨Au (by rw[HE.out];rfl),Ac ad ag⟩
 ·cases b
  ·rcases aq with⟨l1,l2⟩|⟨l1,l2⟩
   all_goals
    go_enter eA,dO;go_wp2_with(first|(go_fit HF;rintro e w1 ⟨tn,ab,n2,c2,rfl,aa⟩;have ad:Below _ w (w1.alloc (H #[D tn,G ab n2 c2] 74)):=(Ac ac aa).alloc (Ac ac aa).size _;have z1:=Aa (Ad ((aa.block _ af).trans ae) (H #[D tn,G ab n2 c2] 74)) (j:=1) rfl;have z4:=Aa (Ad ((aa.block _ af).trans ae) (H #[D tn,G ab n2 c2] 74)) (j:=4) rfl;have ar:=aC (Ad ((aa.block _ ap).trans ak) (H #[D tn,G ab n2 c2] 74)))|(go_fit(HG _ ad);rintro e w2 ⟨rfl,ag⟩;have x0:=(ag.cell ar).trans (Aa (Ad ((aa.block _ ap).trans ak) (H #[D tn,G ab n2 c2] 74)) (j:=0) rfl)));go_ret;exact⟨Au (by rw[HE.out];grind),Ac ad ag⟩
  ·go_enter eA,dO;go_wp2_with(first|(go_fit HF;rintro e w1 ⟨tn,ab,n2,c2,rfl,aa⟩;have ad:Below _ w (w1.alloc (H #[D tn,G ab n2 c2] 74)):=(Ac ac aa).alloc (Ac ac aa).size _;have z1:=Aa (Ad ((aa.block _ af).trans ae) (H #[D tn,G ab n2 c2] 74)) (j:=1) rfl;have z4:=Aa (Ad ((aa.block _ af).trans ae) (H #[D tn,G ab n2 c2] 74)) (j:=4) rfl)|(go_fit(HG _ ad);rintro e w2 ⟨rfl,ag⟩));go_ret;exact⟨Au (by rw[HE.out];rfl),Ac ad ag⟩
theorem Ali (x)(pb)(name:Wd)(w)(hp:w.cell? ⟨pb,1,M⟩=J (D name))(ab:pb<w.heap.size):
  aR aA 157 #[N #[D x.name,D x.table,D x.col],cO (J ⟨pb,0,M⟩)] w fun e w'=>e=aD (dK (Vu name x))∧Below w.heap.size w w':=by
 have aa:=Aq w (H #[D x.name,D x.table,D x.col] 78);have h1:=(aa.cell ab).trans hp;have E:Hid (Vu name x=(x.name.toList==name.toList)):=by show _=_;rw[Vu,Jj]
 generalize Vu name x=r at E;go_enter Tryz.func157,Tryz.ntmps157;go_wp2;go_ret;exact⟨Ah E.out.symm,aa⟩
theorem Aoc (ct)(cv)(C)(w)(hc:Hp (fun k=>k<C) w ct cv)(hC:C≤w.heap.size)
  (kind) (name table col) (colsv rowsv setsv frmv outv) (op xk xn) (xs s nmv) (n8) (sl order) (down) (n) (hs:name.size≤aY):
  aR aA 93 #[cv,N (sA kind name table col colsv rowsv setsv frmv outv op xk xn xs s nmv n8 sl order down n)] w fun r w'=>r=aD (U aL (Qz ct name table col))∧Below w.heap.size w w':=by
 obtain⟨tv,iv,rfl,ad,ae⟩:=hc;obtain⟨io,ic,rfl⟩:=ae.shape;obtain⟨ai,tc,rfl⟩:=ad.shape;obtain⟨ab,af,aj,-⟩:=al2 w (H #[G ai ct.tables.length tc,G io ct.indexes.length ic] 41) (H (sA kind name table col colsv rowsv setsv frmv outv op xk xn xs s nmv n8 sl order down n) 71);have HN:=fun W=>K5 name W hs
 have HH:=Adv _ _ (G io ct.indexes.length ic) ⟨_,_,_,rfl⟩ table col C _ (ad.keep (Ae (ab.mono hC))) (O hC ab.size);have ag:=aC af;have ah:=aC aj;have HC:=fun W (hW:Below _ ((w.alloc (H #[G ai ct.tables.length tc,G io ct.indexes.length ic] 41)).alloc (H (sA kind name table col colsv rowsv setsv frmv outv op xk xn xs s nmv n8 sl order down n) 71)) W)=>A33.2.2.1.has Tryz.func157 #[_] (fun v=>#[v,_]) ct.indexes (fun k=>k<C) io _ ic (atI ct.indexes (Vu name))
  (fun _ W'=>Below W.heap.size W W') (fun W'=>Below W.heap.size W W') W (fun _ _ h=>h) (fun _ W' h=>(ae.keep (Ae (ab.mono hC))).keep (Ae ((hW.trans (h.mono hW.size)).mono (O hC ab.size))))
  (by
   rintro i x cs W' hx h rfl;refine(Ali x (w.heap.size+1) name W' ((h.cell (p:=⟨w.heap.size+1,1,M⟩) (cE ah hW.size)).trans ((hW.cell (p:=⟨w.heap.size+1,1,M⟩) ah).trans (Aa aj (j:=1) rfl))) (cE ah (O hW.size h.size))).mono ?_;rintro e W2 ⟨rfl,hb⟩;exact⟨by simp[atI,hx],Ac h hb,fun _=>Ac h hb⟩)
  (aJ _ _)
 have HE:Hid (Qz ct name table col=if nm name=aO then 1 else if Kq _ table col=aO then 3 else if Bz _ 0 _ then 4 else if 4≤ct.indexes.length then 8 else 0):=rfl;generalize Qz ct name table col=R at HE;generalize nm name=gn at HE HN;generalize Kq _ table col=gh at HE HH;generalize Bz _ 0 _=gc at HE HC;generalize ct.indexes.length=il at*;clear ad ae;have ak:(4≤il∧(4:Int)≤il)∨(¬4≤il∧¬(4:Int)≤il):=by omega
 cases gn
 ·go_enter cN,cF;go_wp2_with(first|(go_fit(HN _);rintro e w1 ⟨rfl,rfl⟩));go_ret;exact⟨Au (by rw[HE.out];rfl),ab⟩
 ·cases gh
  ·go_enter cN,cF;go_wp2_with(first|(go_fit(HN _);rintro e w1 ⟨rfl,rfl⟩)|(go_fit HH;rintro e w2 ⟨rfl,aa⟩));go_ret;exact⟨Au (by rw[HE.out];rfl),Ac ab aa⟩
  ·cases gc
   ·rcases ak with⟨l1,l2⟩|⟨l1,l2⟩
    all_goals
     go_enter cN,cF;go_wp2_with(first|(go_fit(HN _);rintro e w1 ⟨rfl,rfl⟩)|(go_fit HH;rintro e w2 ⟨rfl,aa⟩;have y1:=(aa.cell ag).trans (Aa af (j:=1) rfl);have al:=cE ag aa.size)|(go_fit(HC _ aa);rintro e w4 ⟨rfl,ac⟩;have y2:=(ac.cell al).trans y1));go_ret;exact⟨Au (by rw[HE.out];grind),Ac (Ac ab aa) ac⟩
   ·go_enter cN,cF;go_wp2_with(first|(go_fit(HN _);rintro e w1 ⟨rfl,rfl⟩)|(go_fit HH;rintro e w2 ⟨rfl,aa⟩;have y1:=(aa.cell ag).trans (Aa af (j:=1) rfl))|(go_fit(HC _ aa);rintro e w4 ⟨rfl,ac⟩));go_ret;exact⟨Au (by rw[HE.out];rfl),Ac (Ac ab aa) ac⟩
def Jp (R:Except Int Stm)(F:Nat→Prop)(w':aW)(v:aZ):Prop:=
 ∃arr:Array aZ,arr.size=20∧arr.all (·.oneCell')=aM∧match R with
 |I m=>v=bF #[N arr,U aL m]
 |.ok st=>v=bF #[N arr,U aL 0]∧I6.R F w' st arr.toList
structure SeSt (w:aW) (W:aW) (arr:Array aZ):Prop where
 stm:W.heap[w.heap.size+1]?=J (H arr 71)
 room:W.heap[w.heap.size+1+1]?=J (H Bq 71)
 bel:Below w.heap.size w W
 big:w.heap.size+3≤W.heap.size
theorem SeSt.below {w W W'}{arr}(h:SeSt w W arr)(hb:Below W.heap.size W W'):SeSt w W' arr:=
 ⟨(hb.block _ (by have:=h.big;omega)).trans h.stm,(hb.block _ (by have:=h.big;omega)).trans h.room,h.bel.trans (hb.mono h.bel.size),O h.big hb.size⟩
theorem SeSt.set {w W}{arr}(h:SeSt w W arr)(i)(v):SeSt w (W.setCell ⟨w.heap.size+1,i,M⟩ v) (arr.setIfInBounds i v):=
 ⟨upd h.stm i v,(eE _ _ _ _ (by simp)).trans h.room,h.bel.setCell (show w.heap.size≤w.heap.size+1 by omega) _,by simpa using h.big⟩
theorem SeSt.wher {w W}{kind}{name table col}{cols rows sets frm out}{op xk xn}{xs s nmv}{n8}{sl order}{down}{n}(h:SeSt w W (sA kind name table col cols rows sets frm out op xk xn xs s nmv n8 sl order down n))(op' xk' xn')(aa s' ab:Wd)(n8')(sl'):
  SeSt w (W.setCells (w.heap.size+1) 9 (Af op' ⟨xk',xn',aa⟩ s' ab n8' sl').toList) (sA kind name table col cols rows sets frm out op' xk' xn' aa s' ab n8' sl' order down n):=by
 have g:=(((((((h.set 9 (U aL op')).set 10 (U aL xk')).set 11 (U aL xn')).set 12 (D aa)).set 13 (D s')).set 14 (D ab)).set 15 (U aL n8')).set 16 sl';simp only[aU,eH,eG]at g;exact g
theorem Nm {aa:Array aZ}(h:aa.size=20):(Tryz.prog.info? 71).map (·.size)=J aa.size:=by rw[h];exact D5
structure BkSt (ct:CatD) (st:Stm) (C:Nat) (w W:aW) (cv arr:Array aZ):Prop where
 cat:W.heap[w.heap.size]?=J (H cv 41)
 se:SeSt w W arr
 ic:Hp (fun k=>k<C) W ct (N cv)
 is:I6.R (fun k=>k<C) W st arr.toList
 le:C≤w.heap.size
 two:cv.size=2
 n20:arr.size=20
 one:arr.all (·.oneCell')=aM
theorem Auq:(Tryz.prog.info? 41).map (·.size)=J 2:=by kernel_rfl
section
variable {ct:CatD}{st:Stm}{C:Nat}{w W W':aW}{cv arr:Array aZ}
theorem BkSt.below (h:BkSt ct st C w W cv arr)(hb:Below W.heap.size W W'):BkSt ct st C w W' cv arr:=
 ⟨(hb.block _ (aC h.cat)).trans h.cat,h.se.below hb,h.ic.keep (Ae (hb.mono (O h.le h.se.bel.size))),I6.keep (Ae (hb.mono (O h.le h.se.bel.size))) h.is,h.le,h.two,h.n20,h.one⟩
theorem BkSt.leW (h:BkSt ct st C w W cv arr):C≤W.heap.size:=O h.le h.se.bel.size
theorem BkSt.ci (h:BkSt ct st C w W cv arr):(Tryz.prog.info? 41).map (·.size)=J cv.size:=by rw[h.two];exact Auq
theorem BkSt.si (h:BkSt ct st C w W cv arr):(Tryz.prog.info? 71).map (·.size)=J arr.size:=by rw[h.n20];exact D5
theorem Vv {v:aZ}{cs:List aZ}(hc:Hp (fun k=>k<C) w ct v)(hR:I6.R (fun k=>k<C) w st cs)(hC:C≤w.heap.size):
  ∃cv aa,v=N cv∧cs=aa.toList∧BkSt ct st C w (((w.alloc (H cv 41)).alloc (H aa 71)).alloc (H Bq 71)) cv aa:=by
 obtain⟨tv,iv,rfl,h1,h2⟩:=hc;have hb:=(Hx w (H #[tv,iv] 41) (H cs.toArray 71) (H Bq 71));exact⟨_,_,rfl,by simp,Ad (Ad (Ab _ _) _) _,⟨Ad (Ca w _ _) _,Fe w _ _ _,hb,by simp⟩,⟨tv,iv,rfl,h1.keep (Ae (hb.mono hC)),h2.keep (Ae (hb.mono hC))⟩,by simpa using I6.keep (Ae (hb.mono hC)) hR,hC,rfl,by rw[eK];exact I6.len hR,by
  obtain⟨o1,c1,o2,c2,o3,c3,o4,c4,o5,c5,op,xk,xn,xs,s,ab,n8,o6,k6,c6,o7,c7,rfl,_⟩:=Ba hR;exact Pv (B7 _ _ _) (B7 _ _ _) (B7 _ _ _) (B7 _ _ _) (B7 _ _ _) (B7 _ _ _) (B7 _ _ _)⟩
end
theorem A3w:Bq.all (·.oneCell')=aM:=Pv (B7 _ _ _) (B7 _ _ _) (B7 _ _ _) (B7 _ _ _) (B7 _ _ _) (B7 _ _ _) (B7 _ _ _)
theorem Nl.told {α}{K}{R:Except Int (List α)}{F}{w}{v}(h:Nl K R F w v):∃ao c,v=bF #[G ao (Lb R).length c,U aL (Lc R)]∧IsL K F w (G ao (Lb R).length c) (Lb R):=by
 cases R with
 |error m=>exact⟨M,0,h,IsL.nil _ _ _⟩
 |ok l=>
  obtain⟨ao,k,c,rfl,hl⟩:=h;have e:=(Ew hl).1;subst e;exact⟨ao,c,rfl,hl⟩
theorem Zu.told {R}{F}{w}{v}(h:Zu R F w v):∃a:Array aZ,v=bF #[N a,U aL (Lc R)]∧a.size=8∧a.all (·.oneCell')=aM∧IsE F w (Ald R) (N a):=by
 cases R with
 |error m=>exact⟨_,h,rfl,C5 _ _ _ _ _ _ _ _,J4 fun _=>rfl⟩
 |ok e=>
  obtain⟨op,x,s,nm,n,ao,k,c,rfl,hE⟩:=h;exact⟨_,rfl,rfl,C5 _ _ _ _ _ _ _ _,hE⟩
theorem P4 {α}{R:Except Int (List α)}(hm:∀m,R=I m→m≠0):(Lc R=0∧R=.ok (Lb R))∨((Lc R !=0)=aM∧R=I (Lc R)):=by
 cases R with
 |ok l=>exact .inl ⟨rfl,rfl⟩
 |error m=>exact .inr ⟨by simpa[Lc]using hm m rfl,rfl⟩
structure CmSt (C:Nat) (w W:aW) (arr:Array aZ) (st:Stm):Prop where
 se:SeSt w W arr
 is:I6.R (Fx C (w.heap.size+3)) W st arr.toList
 le:C≤w.heap.size
section
variable {C:Nat}{w W W':aW}{arr:Array aZ}{st:Stm}
theorem CmSt.below (h:CmSt C w W arr st)(hb:Below W.heap.size W W'):CmSt C w W' arr st:=⟨h.se.below hb,I6.keep (Ak hb) h.is,h.le⟩
theorem CmSt.n20 (h:CmSt C w W arr st):arr.size=20:=by have:=I6.len h.is;assumption
theorem CmSt.si (h:CmSt C w W arr st):(Tryz.prog.info? 71).map (·.size)=J arr.size:=Nm h.n20
theorem CmSt.one (h:CmSt C w W arr st):arr.all (·.oneCell')=aM:=by
 obtain⟨o1,c1,o2,c2,o3,c3,o4,c4,o5,c5,op,xk,xn,xs,s,aa,n8,o6,k6,c6,o7,c7,e,_⟩:=Ba h.is;obtain rfl:=aB.1 e;exact Pv (B7 _ _ _) (B7 _ _ _) (B7 _ _ _) (B7 _ _ _) (B7 _ _ _) (B7 _ _ _) (B7 _ _ _)
theorem CmSt.keep (h:CmSt C w W arr st)(i:Nat)(v:aZ):Keeps (Fx C (w.heap.size+3)) W (W.setCell ⟨w.heap.size+1,i,M⟩ v):=
 (Keeps.refl _ _).set (fun hf=>by have:=h.le;rcases hf with hf|hf<;>omega) _ _
theorem CmSt.free (h:CmSt C w W arr st)(i:Nat):W.frozen? ⟨w.heap.size+1,i,M⟩=aO:=by simp[dB,h.se.stm]
theorem CmSt.get_rows (h:CmSt C w W arr st):∃ao c,W.cell? ⟨w.heap.size+1,5,M⟩=J (G ao st.rows.length c)∧IsL H6 (fun k=>k<W.heap.size) W (G ao st.rows.length c) st.rows:=by
 obtain⟨o1,c1,o2,c2,o3,c3,o4,c4,o5,c5,op,xk,xn,xs,s,aa,n8,o6,k6,c6,o7,c7,e,i1,i2,i3,i4,i5,i6,i7⟩:=Ba h.is;obtain rfl:=aB.1 e;exact⟨_,_,Aa h.se.stm rfl,i2.mono fun _ hk _=>hk⟩
theorem CmSt.set_rows (h:CmSt C w W arr st){l:List (List E)}{ao:Option Addr}{c:Nat}(hl:IsL H6 (Fx C (w.heap.size+3)) W (G ao l.length c) l):∃a,CmSt C w (W.setCell ⟨w.heap.size+1,5,M⟩ (G ao l.length c)) a {st with rows:=l}∧a.extract 9 17=arr.extract 9 17:=by
 obtain⟨o1,c1,o2,c2,o3,c3,o4,c4,o5,c5,op,xk,xn,xs,s,aa,n8,o6,k6,c6,o7,c7,e,i1,i2,i3,i4,i5,i6,i7⟩:=Ba h.is;obtain rfl:=aB.1 e;have i2:=hl;exact⟨_,⟨h.se.set 5 _,I6.keep (h.keep 5 _) (Nv i1 i2 i3 i4 i5 i6 i7),h.le⟩,rfl⟩
theorem CmSt.get_sets (h:CmSt C w W arr st):∃ao c,W.cell? ⟨w.heap.size+1,6,M⟩=J (G ao st.sets.length c)∧IsL E8 (fun k=>k<W.heap.size) W (G ao st.sets.length c) st.sets:=by
 obtain⟨o1,c1,o2,c2,o3,c3,o4,c4,o5,c5,op,xk,xn,xs,s,aa,n8,o6,k6,c6,o7,c7,e,i1,i2,i3,i4,i5,i6,i7⟩:=Ba h.is;obtain rfl:=aB.1 e;exact⟨_,_,Aa h.se.stm rfl,i3.mono fun _ hk _=>hk⟩
theorem CmSt.set_sets (h:CmSt C w W arr st){l:List ((Wd×E))}{ao:Option Addr}{c:Nat}(hl:IsL E8 (Fx C (w.heap.size+3)) W (G ao l.length c) l):∃a,CmSt C w (W.setCell ⟨w.heap.size+1,6,M⟩ (G ao l.length c)) a {st with sets:=l}∧a.extract 9 17=arr.extract 9 17:=by
 obtain⟨o1,c1,o2,c2,o3,c3,o4,c4,o5,c5,op,xk,xn,xs,s,aa,n8,o6,k6,c6,o7,c7,e,i1,i2,i3,i4,i5,i6,i7⟩:=Ba h.is;obtain rfl:=aB.1 e;have i3:=hl;exact⟨_,⟨h.se.set 6 _,I6.keep (h.keep 6 _) (Nv i1 i2 i3 i4 i5 i6 i7),h.le⟩,rfl⟩
theorem CmSt.get_out (h:CmSt C w W arr st):∃ao c,W.cell? ⟨w.heap.size+1,8,M⟩=J (G ao st.out.length c)∧IsL Az (fun k=>k<W.heap.size) W (G ao st.out.length c) st.out:=by
 obtain⟨o1,c1,o2,c2,o3,c3,o4,c4,o5,c5,op,xk,xn,xs,s,aa,n8,o6,k6,c6,o7,c7,e,i1,i2,i3,i4,i5,i6,i7⟩:=Ba h.is;obtain rfl:=aB.1 e;exact⟨_,_,Aa h.se.stm rfl,i5.mono fun _ hk _=>hk⟩
theorem CmSt.set_out (h:CmSt C w W arr st){l:List (E)}{ao:Option Addr}{c:Nat}(hl:IsL Az (Fx C (w.heap.size+3)) W (G ao l.length c) l):∃a,CmSt C w (W.setCell ⟨w.heap.size+1,8,M⟩ (G ao l.length c)) a {st with out:=l}∧a.extract 9 17=arr.extract 9 17:=by
 obtain⟨o1,c1,o2,c2,o3,c3,o4,c4,o5,c5,op,xk,xn,xs,s,aa,n8,o6,k6,c6,o7,c7,e,i1,i2,i3,i4,i5,i6,i7⟩:=Ba h.is;obtain rfl:=aB.1 e;have i5:=hl;exact⟨_,⟨h.se.set 8 _,I6.keep (h.keep 8 _) (Nv i1 i2 i3 i4 i5 i6 i7),h.le⟩,rfl⟩
theorem CmSt.get_order (h:CmSt C w W arr st):∃ao c,W.cell? ⟨w.heap.size+1,17,M⟩=J (G ao st.order.length c)∧IsL Az (fun k=>k<W.heap.size) W (G ao st.order.length c) st.order:=by
 obtain⟨o1,c1,o2,c2,o3,c3,o4,c4,o5,c5,op,xk,xn,xs,s,aa,n8,o6,k6,c6,o7,c7,e,i1,i2,i3,i4,i5,i6,i7⟩:=Ba h.is;obtain rfl:=aB.1 e;exact⟨_,_,Aa h.se.stm rfl,i7.mono fun _ hk _=>hk⟩
theorem CmSt.set_order (h:CmSt C w W arr st){l:List (E)}{ao:Option Addr}{c:Nat}(hl:IsL Az (Fx C (w.heap.size+3)) W (G ao l.length c) l):∃a,CmSt C w (W.setCell ⟨w.heap.size+1,17,M⟩ (G ao l.length c)) a {st with order:=l}∧a.extract 9 17=arr.extract 9 17:=by
 obtain⟨o1,c1,o2,c2,o3,c3,o4,c4,o5,c5,op,xk,xn,xs,s,aa,n8,o6,k6,c6,o7,c7,e,i1,i2,i3,i4,i5,i6,i7⟩:=Ba h.is;obtain rfl:=aB.1 e;have i7:=hl;exact⟨_,⟨h.se.set 17 _,I6.keep (h.keep 17 _) (Nv i1 i2 i3 i4 i5 i6 i7),h.le⟩,rfl⟩
theorem CmSt.get_wher (h:CmSt C w W arr st):∃cw:List aZ,cw.length=8∧W.rangeAt (w.heap.size+1) 9 cw∧arr.extract 9 17=cw.toArray:=by
 obtain⟨o1,c1,o2,c2,o3,c3,o4,c4,o5,c5,op,xk,xn,xs,s,aa,n8,o6,k6,c6,o7,c7,e,i1,i2,i3,i4,i5,i6,i7⟩:=Ba h.is;obtain rfl:=aB.1 e;refine⟨(Af op ⟨xk,xn,xs⟩ s aa n8 (G o6 k6 c6)).toList,rfl,fun j v hj=>?_,rfl⟩;refine Aa h.se.stm ?_
 match j,hj with
 |0,hj|1,hj|2,hj|3,hj|4,hj|5,hj|6,hj|7,hj=>exact hj
theorem CmSt.set_wher (h:CmSt C w W arr st){x:E}{a:Array aZ}(hx:IsE (Fx C (w.heap.size+3)) W x (N a)):W.there (w.heap.size+1) 9 a.size∧∃a',CmSt C w (W.setCells (w.heap.size+1) 9 a.toList) a' {st with wher:=x}:=by
 obtain⟨o1,c1,o2,c2,o3,c3,o4,c4,o5,c5,op,xk,xn,xs,s,ag,n8,o6,k6,c6,o7,c7,e,i1,i2,i3,i4,i5,i6,i7⟩:=Ba h.is;obtain rfl:=aB.1 e;obtain⟨aa,⟨ab,ac,ad⟩,s',ae,n',af,k',c',he,_⟩:=Rm hx;obtain rfl:=cM he;have hk:Keeps (Fx C (w.heap.size+3)) W (W.setCells (w.heap.size+1) 9 (Af aa ⟨ab,ac,ad⟩ s' ae n' (G af k' c')).toList):=
  ⟨by rw[Gb];simp,fun k hf _=>Dx (fun e=>by have:=h.le;rw[e]at hf;rcases hf with hf|hf<;>omega) _ _ _⟩
 refine⟨fun j hj=>?_,_,h.se.wher _ _ _ _ _ _ _ _,I6.keep hk (Nv i1 i2 i3 i4 i5 hx i7),h.le⟩;have ah:j<8:=hj;exact⟨by rw[Aa h.se.stm (j:=9+j) (Array.getElem?_eq_getElem (show 9+j<20 by omega))];rfl,h.free _⟩
theorem CmSt.bad {R:Except Int Stm}{F:Nat→Prop}{z:Int}(h:CmSt C w W arr st)(hR:R=I z):Jp R F W' (bF #[N arr,U aL z]):=⟨arr,h.n20,h.one,by rw[hR]⟩
theorem CmSt.good {R:Except Int Stm}(h:CmSt C w W arr st)(hR:R=.ok st):Jp R (Fx C w.heap.size) (W.setRow (w.heap.size+1+1) arr) (bF #[N arr,U aL 0]):=by
 refine⟨arr,h.n20,h.one,?_⟩;rw[hR];exact⟨rfl,I6.mono (fun _ _ h=>h.imp id fun h=>O (by omega) h) (I6.keep ((Keeps.refl _ _).row (fun hf=>by have:=h.le;rcases hf with hf|hf<;>omega) _) h.is)⟩
theorem CmSt.ld (h:CmSt C w W arr st){aa:Array Oper}{rest:List Oper}{o:Oper}{a:Act}{Q:Exit→Act→aW→Prop}(ab:o.guard=M){x:Operand}(ho:o.op=.load 71 x)(hx:a.eval x=cO (J ⟨w.heap.size+1,0,M⟩))(k:wpList aA aa Q rest (a.put o.dst (N arr)) W):wpList aA aa Q (o::rest) a W:=
 aK ab _ x ho _ hx _ _ _ _ h.se.stm aF rfl h.si k
theorem CmSt.sto (h:CmSt C w W arr st){aa:Array Oper}{rest:List Oper}{o:Oper}{a:Act}{Q:Exit→Act→aW→Prop}(ab:o.guard=M){x y:Operand}(ho:o.op=.store 71 x y)(hx:a.eval x=cO (J ⟨w.heap.size+1+1,0,M⟩))(hy:a.eval y=N arr)(k:wpList aA aa Q rest (a.put o.dst undef) (W.setRow (w.heap.size+1+1) arr)):wpList aA aa Q (o::rest) a W:=
 bU ab _ x y ho _ _ hx hy _ _ h.se.room h.si h.n20.symm h.one k
theorem CmSt.fin (h:CmSt C w W arr st){R:Except Int Stm}{z:Int}(hA:Jp R (Fx C w.heap.size) (W.setRow (w.heap.size+1+1) arr) (bF #[N arr,U aL z])){fn:Func}{p q:Tmp}(hr:fn.results=#[.cell p 71,.tmp q]){a:Act}(hp:a.tmps.getD p undef=cO (J ⟨w.heap.size+1+1,0,M⟩))(hq:a.tmps.getD q undef=U aL z)(hd:a.defers=[]):
  bodyPost aA fn (fun r w'=>(∃u,r=aD u∧Jp R (Fx C w.heap.size) w' u)∧Below w.heap.size w w') .ret a (W.setRow (w.heap.size+1+1) arr):=
 bC (Dn hr _ _ _ 71 arr _ _ _ hp hq (Ao h.se.room) aF rfl h.si) hd ⟨⟨_,rfl,hA⟩,Below.row h.se.bel (by omega) _⟩
end
def Gk (ct:CatD)(st:Stm):Except Int Stm:=
 match Bu ct.tables st.table with
 |none=>I 3
 |some t=>match Is t.cols st.rows with
  |I m=>I m
  |.ok rows=>match Cr t [] st.sets with
   |I m=>I m
   |.ok sets=>match whR [t] st.wher with
    |I m=>I m
    |.ok wh=>.ok {st with rows:=rows,sets:=sets,wher:=wh}
theorem Yl {t}:∀{seen:List Wd}{l:List (Wd×E)}{m:Int},Cr t seen l=I m→m=3∨m=4∨m=5
 |seen,[],m,h=>by simp[Cr]at h
 |seen,x::l,m,h=>by
  simp only[Cr]at h;cases hx:Sd t seen x with
  |error j=>
   rw[hx]at h;obtain rfl:=aE h;exact Ayb hx
  |ok r=>
   rw[hx]at h;simp only at h;cases hl:Cr t _ l with
   |error j=>
    rw[hl]at h;obtain rfl:=aE h;exact Yl hl
   |ok rs=>grind
structure TbAt (b:Nat) (W:aW) (t:TabD) (cv:aZ) (q:Nat):Prop where
 tab:W.heap[q]?=J (H #[D t.name,cv] 74)
 lo:b+3≤q
theorem TbAt.below {b}{W W'}{t}{cv}{q}(h:TbAt b W t cv q)(hb:Below W.heap.size W W'):TbAt b W' t cv q:=⟨(hb.block _ (aC h.tab)).trans h.tab,h.lo⟩
theorem TbAt.set {b}{W}{t}{cv}{q}(h:TbAt b W t cv q)(i)(v):TbAt b (W.setCell ⟨b+1,i,M⟩ v) t cv q:=⟨(eE _ _ _ _ (by have:=h.lo;grind)).trans h.tab,h.lo⟩
theorem Af0 (ct)(v)(st)(cs)(C)(w)(hc:Hp (fun k=>k<C) w ct v)(hR:I6.R (fun k=>k<C) w st cs)(hC:C≤w.heap.size)
  (am:∀r∈st.rows,∀a∈r,geB 40 a=aM) (an:∀p∈st.sets,geB 40 p.2=aM) (ap:st.wher.opn≠0→geB 40 st.wher=aM)
  (av:st.rows.length≤16777216) (aq:∀r∈st.rows,r.length≤16777216) (ar:st.sets.length≤16777216) (hs:∀p∈st.sets,p.1.size≤aY) (ak:∀t∈ct.tables,t.cols.length≤1000000):
  aR aA 95 #[v,N cs.toArray] w fun r w'=>(∃u,r=aD u∧Jp (Gk ct st) (Fx C w.heap.size) w' u)∧Below w.heap.size w w':=by
 obtain⟨cv,al,rfl,rfl,B0⟩:=Vv hc hR hC;rw[aT];obtain⟨tv,iv,e0,ai,aj⟩:=B0.ic;obtain rfl:=cM e0;obtain⟨o1,c1,o2,c2,o3,c3,o4,c4,o5,c5,op,xk,xn,xs,s,bc,n8,o6,k6,c6,o7,c7,e,_,j2,j3,_,_,i6,_⟩:=Ba hR;have a2:(((w.alloc (H #[tv,iv] 41)).alloc (H al 71)).alloc (H Bq 71)).cell? ⟨w.heap.size+1,2,M⟩=J (D st.table):=by
  have:=B0.se.stm;rw[aB.1 e]at this⊢;exact Aa this rfl
 have hX:IsE (fun k=>k<C) w st.wher (N (al.extract 9 17)):=by rw[aB.1 e];exact i6
 clear e e0;have M0:CmSt C w _ al st:=⟨B0.se,I6.mono (fun _ _ h=>.inl h) B0.is,hC⟩;rcases ac:Bu ct.tables st.table with _|t
 ·have HE:Hid (Gk ct st=I 3):=by show _=_;rw[Gk,ac]
  have HF:=Jn ac tv iv (Gf aj) C _ ai B0.leW;go_enter Tryz.func95,Tryz.ntmps95;clear ai aj ac am an ap av aq ar hs hX ak hc hR i6 j2 j3;go_wp2_with(first|(refine aK rfl 41 _ rfl w.heap.size ?_ 41 _ (0,0) _ B0.cat aS ?_ ?_ ?_;exact rfl;exact rfl;exact B0.ci)|(go_fit HF;rintro e w1 ⟨rfl,ag⟩;have M1:=(M0.below ag).below (Aq w1 (.cells #[.string noW,.slice M 0 0] 74)))|(refine M1.ld rfl rfl ?_ ?_;exact rfl)|(refine M1.sto rfl rfl ?_ ?_ ?_;exact rfl;exact rfl));exact M1.fin (M1.bad HE.out) bX rfl rfl rfl
 have HF:=Hv ac tv iv (Gf aj) C _ ai B0.leW;have aw:=ak t (aV ac);have HE:Hid (Gk ct st=match Is t.cols st.rows with
   |I m=>I m
   |.ok rows=>match Cr t [] st.sets with
    |I m=>I m
    |.ok sets=>match whR [t] st.wher with
     |I m=>I m
     |.ok wh=>.ok {st with rows:=rows,sets:=sets,wher:=wh}):=by show _=_;unfold Gk;rw[ac]
 go_enter Tryz.func95,Tryz.ntmps95;go_upto_region 5 with(first|(refine aK rfl 41 _ rfl w.heap.size ?_ 41 _ (0,0) _ B0.cat aS ?_ ?_ ?_;exact rfl;exact rfl;exact B0.ci)|(go_fit HF;rintro e w1 ⟨ad,n2,ae,rfl,aa,ag⟩));have M1:=(M0.below ag).below (Aq w1 (H #[D t.name,G ad n2 ae] 74));have T1:TbAt w.heap.size (w1.alloc (H #[D t.name,G ad n2 ae] 74)) t (G ad n2 ae) w1.heap.size:=⟨Ab _ _,by have:=ag.size;simp at this;omega⟩;have aa:=aa.keep (Ak (Aq w1 (H #[D t.name,G ad n2 ae] 74)));clear HF ag ai aj ac ak hc hR i6 j2 j3 M0 B0 a2;generalize w1.heap.size=q at*;generalize w1.alloc (H #[D t.name,G ad n2 ae] 74)=W1 at*;obtain⟨ao,c,a5,hO⟩:=M1.get_rows;have p0:=Aa T1.tab (j:=0) rfl;have p1:=Aa T1.tab (j:=1) rfl;have HO:=Alf t.name t.cols _ 40 st.rows _ W1.heap.size W1 hO (aa.mono fun _ hk _=>hk) (aQ _) am (by omega) fun r hr=>O (aq r hr) (by decide)
 clear hO;go_upto_region 6 with(go_fit HO;rintro e w2 ⟨⟨u,rfl,hu⟩,ab⟩;obtain⟨af,oc,rfl,ah⟩:=hu.told;have M2:=M1.below ab;obtain⟨_,_,q5,_⟩:=M2.get_rows;have f5:=M2.free 5);have T2:=(T1.below ab).set 5 (G af (Lb (Is t.cols st.rows)).length oc);have aa:=(aa.keep (Ak ab)).keep ((Keeps.refl _ _).set (by intro h;have:w.heap.size+1<C:=h;omega) 5 (G af (Lb (Is t.cols st.rows)).length oc));obtain⟨a2,M2,x2⟩:=M2.set_rows (ah.mono fun k _ (hk:_≤k)=>.inr (O M1.se.big hk));have hz:=P4 (fun m h=>by rcases Ahd h with rfl|rfl<;>decide:∀m,Is t.cols st.rows=I m→m≠0);generalize w2.setCell ⟨w.heap.size+1,5,M⟩ (G af (Lb (Is t.cols st.rows)).length oc)=W2 at*;generalize Lc (Is t.cols st.rows)=z at*;generalize Lb (Is t.cols st.rows)=l2 at*;clear ab ah hu q5 f5 a5 HO p0 p1 M1 T1;rcases hz with⟨rfl,hr⟩|⟨hz,hr⟩;rotate_left
 ·have HE:Hid (Gk ct st=I z):=by show _=_;rw[HE.out,hr]
  go_wp2_with(first|(refine M2.ld rfl rfl ?_ ?_;exact rfl)|(refine M2.sto rfl rfl ?_ ?_ ?_;exact rfl;exact rfl));exact M2.fin (M2.bad HE.out) bX rfl rfl rfl
 have HE:Hid (Gk ct st=match Cr t [] st.sets with
    |I m=>I m
    |.ok sets=>match whR [t] st.wher with
     |I m=>I m
     |.ok wh=>.ok {st with rows:=l2,sets:=sets,wher:=wh}):=by show _=_;rw[HE.out,hr]
 clear hr;obtain⟨ao,c,a6,hO⟩:=M2.get_sets;have p0:=Aa T2.tab (j:=0) rfl;have p1:=Aa T2.tab (j:=1) rfl;have HO:=Alg t.name t.cols _ 40 st.sets _ W2.heap.size W2 hO (aa.mono fun _ hk _=>hk) (aQ _) an ar hs aw;clear hO;go_upto_region 9 with(go_fit HO;rintro e w2 ⟨⟨u,rfl,hu⟩,ab⟩;obtain⟨af,oc,rfl,ah⟩:=hu.told;have M3:=M2.below ab;obtain⟨_,_,q6,_⟩:=M3.get_sets;have f6:=M3.free 6);have T3:=(T2.below ab).set 6 (G af (Lb (Cr t [] st.sets)).length oc);have aa:=(aa.keep (Ak ab)).keep ((Keeps.refl _ _).set (by intro h;have:w.heap.size+1<C:=h;omega) 6 (G af (Lb (Cr t [] st.sets)).length oc));obtain⟨a3,M3,x3⟩:=M3.set_sets (ah.mono fun k _ (hk:_≤k)=>.inr (O M2.se.big hk));have hz:=P4 (fun m h=>by rcases Yl h with rfl|rfl|rfl<;>decide:∀m,Cr t [] st.sets=I m→m≠0);generalize w2.setCell _ _=W3 at*;generalize Lc _=z at*;generalize Lb _=l3 at*;clear ab ah hu q6 f6 a6 HO p0 p1 M2 T2;rcases hz with⟨rfl,hr⟩|⟨hz,hr⟩;rotate_left
 ·have HE:Hid (Gk ct st=I z):=by show _=_;rw[HE.out,hr]
  go_wp2_with(first|(refine M3.ld rfl rfl ?_ ?_;exact rfl)|(refine M3.sto rfl rfl ?_ ?_ ?_;exact rfl;exact rfl));exact M3.fin (M3.bad HE.out) bX rfl rfl rfl
 have HE:Hid (Gk ct st=match whR [t] st.wher with
     |I m=>I m
     |.ok wh=>.ok {st with rows:=l2,sets:=l3,wher:=wh}):=by show _=_;rw[HE.out,hr]
 clear hr;have hT:=Aq W3 (H #[D t.name,G ad n2 ae] 74);have M4:=M3.below hT;obtain⟨cw,au,ra,hO⟩:=M4.get_wher;rw[←x2,←x3,hO]at hX;have hX:=IsE.keep (Ae (M4.se.bel.mono hC)) _ _ hX;have HO:=Xd [⟨_,_⟩] (show 1≤1000 by simp) (by grind) 40 _ _ _ C _ _ hX (Ap2 (Ab W3 _) ((aa.keep (Ak hT)).mono fun _ hk _=>hk)) (O hC M4.se.bel.size) (aQ _) ap;have hi:(Tryz.prog.info? 69).map (·.size)=J cw.length:=by rw[au];exact Ay
 have p0:=Aa T3.tab (j:=0) rfl;have p1:=Aa T3.tab (j:=1) rfl;clear hO au hX x2 x3 aa T3 M3;go_wp2_with(first|(refine wpList_load_mid rfl 69 _ rfl _ 9 ?_ cw _ ra eJ rfl ?_ ?_;exact rfl;exact hi)|(go_fit HO;rintro e w4 ⟨⟨u,rfl,hu⟩,ax⟩;obtain⟨a,rfl,ay,az,hE⟩:=hu.told;have ba:(Tryz.prog.info? 69).map (·.size)=J a.size:=(by rw[ay];rfl);have h4:=(M4.below ax).set_wher (IsE.mono (fun k _ hk=>hk.imp id fun h=>O M4.se.big h) _ _ hE);have bb:=h4.1;obtain⟨a5,M5⟩:=h4.2)|(refine wpList_store_mid rfl 69 _ _ rfl (w.heap.size+1) 9 a ?_ ?_ ?_ ?_ ?_ ?_;exact rfl;exact rfl;exact bb;exact ba;exact az)|(refine M5.ld rfl rfl ?_ ?_;exact rfl)|(refine M5.sto rfl rfl ?_ ?_ ?_;exact rfl;exact rfl));refine M5.fin (z:=Lc (whR [t] _)) ?_ bX rfl rfl rfl;have M5:CmSt C w _ a5 {st with rows:=l2,sets:=l3,wher:=Ald (whR [t] _)}:=M5;generalize whR [t] _=R at M5 HE⊢;cases R with
 |error m=>exact M5.bad HE.out
 |ok e=>exact M5.good HE.out
def Fc (ct:CatD)(st:Stm):Except Int Stm:=
 match G2 ct.tables st.frm with
 |I m=>I m
 |.ok S=>match Lx S st.out with
  |I m=>I m
  |.ok out=>match I8 S st.order with
   |I m=>I m
   |.ok order=>match whR S st.wher with
    |I m=>I m
    |.ok wh=>.ok {st with out:=out,order:=order,wher:=wh}
theorem Aur {T}{s}{t}(h:Bu T s=J t):t∈T:=aV h
theorem Alj {α β}{f}{P:β→Prop}(hf:∀seen a b,f seen a=.ok b→P b):∀{seen l:List α}{rs:List β},Eo f seen l=.ok rs→rs.length=l.length∧∀b∈rs,P b
 |seen,[],rs,h=>by
  simp only[Eo,eC]at h;grind
 |seen,x::l,rs,h=>by
  simp only[Eo]at h;cases hx:f seen x with
  |error j=>grind
  |ok r=>
   rw[hx]at h;simp only at h;cases hl:Eo f (seen++[x]) l with
   |error j=>grind
   |ok rs'=>
    rw[hl]at h;simp only[eC]at h;subst h;obtain⟨h1,h2⟩:=Alj hf hl;grind
theorem Ahe {α β}{f:List α→α→Except Int β}{P:Int→Prop}(hf:∀seen a m,f seen a=I m→P m):∀{seen l:List α}{m:Int},Eo f seen l=I m→P m
 |seen,[],m,h=>by simp[Eo]at h
 |seen,x::l,m,h=>by
  simp only[Eo]at h;cases hx:f seen x with
  |error j=>
   rw[hx]at h;obtain rfl:=aE h;exact hf _ _ _ hx
  |ok r=>
   rw[hx]at h;simp only at h;cases hl:Eo f _ l with
   |error j=>
    rw[hl]at h;obtain rfl:=aE h;exact Ahe hf hl
   |ok rs=>rw[hl]at h;cases h
theorem Ayh {T}{seen}{s}{t}(h:It T seen s=.ok t):t∈T:=by
 unfold It at h;cases ht:Bu T s with
 |none=>grind
 |some t'=>
  rw[ht]at h;simp only at h;split at h
  ·grind
  ·obtain rfl:=Except.ok.inj h;exact Aur ht
theorem Aus {T}{seen}{s}{m}(h:It T seen s=I m):m=3∨m=4:=by
 unfold It at h;grind
theorem Aut {T}{l}{S}(h:G2 T l=.ok S):S.length≤2∧∀t∈S,t∈T:=by
 unfold G2 at h;split at h
 ·grind
 ·obtain⟨h1,h2⟩:=Alj (P:=fun t=>t∈T) (fun _ _ _ hb=>Ayh hb) h;grind
theorem Ad3 {T}{l}{m}(h:G2 T l=I m):m=1∨m=3∨m=4:=by
 unfold G2 at h;split at h
 ·grind
 ·exact .inr (Ahe (fun _ _ _ hb=>Aus hb) h)
theorem Ab0 {S}{l}{m}(h:I8 S l=I m):m=3∨m=5:=by
 unfold I8 at h;cases hb:Bd S l with
 |error k=>
  rw[hb]at h;obtain rfl:=aE h;exact Vo S l _ hb
 |ok r=>grind
theorem Alk {S}{l}{m}(h:Lx S l=I m):m=3∨m=5:=by
 unfold Lx at h;split at h
 ·grind
 ·exact Ab0 h
theorem Af1 (ct)(v)(st)(cs)(C)(w)(hc:Hp (fun k=>k<C) w ct v)(hR:I6.R (fun k=>k<C) w st cs)(hC:C≤w.heap.size)
  (an:∀a∈st.out,geB 40 a=aM) (ap:∀a∈st.order,geB 40 a=aM) (aq:st.wher.opn≠0→geB 40 st.wher=aM)
  (bc:st.out.length≤16777216) (bd:st.order.length≤16777216) (hs:∀s∈st.frm,s.size≤aY) (ah:∀t∈ct.tables,t.cols.length≤1000000):
  aR aA 96 #[v,N cs.toArray] w fun r w'=>(∃u,r=aD u∧Jp (Fc ct st) (Fx C w.heap.size) w' u)∧Below w.heap.size w w':=by
 obtain⟨cv,ac,rfl,rfl,B0⟩:=Vv hc hR hC;rw[aT];obtain⟨tv,iv,e0,ai,aj⟩:=B0.ic;obtain rfl:=cM e0;obtain⟨o1,c1,o2,c2,o3,c3,o4,c4,o5,c5,op,xk,xn,xs,s,be,n8,o6,k6,c6,o7,c7,e,_,_,_,i4,_,i6,_⟩:=Ba hR;have a7:(((w.alloc (H #[tv,iv] 41)).alloc (H ac 71)).alloc (H Bq 71)).cell? ⟨w.heap.size+1,7,M⟩=J (G o4 st.frm.length c4):=by
  have:=B0.se.stm;rw[aB.1 e]at this⊢;exact Aa this rfl
 have hX:IsE (fun k=>k<C) w st.wher (N (ac.extract 9 17)):=by rw[aB.1 e];exact i6
 clear e e0;have HS:=(Aoa ct.tables tv iv (Gf aj) st.frm _ C _ ai (i4.keep (Ae (B0.se.bel.mono hC))) B0.leW hs);have M0:CmSt C w _ ac st:=⟨B0.se,I6.mono (fun _ _ h=>.inl h) B0.is,hC⟩;have HE:Hid (Fc ct st=Fc ct st):=rfl;go_enter Tryz.func96,Tryz.ntmps96;go_upto_region 2 with(first|(refine aK rfl 41 _ rfl w.heap.size ?_ 41 _ (0,0) _ B0.cat aS ?_ ?_ ?_;exact rfl;exact rfl;exact B0.ci)|(go_fit HS;rintro e w1 ⟨⟨u,rfl,hu⟩,ak⟩;obtain⟨bf,sc,rfl,hS⟩:=hu.told));have M1:=M0.below ak;have hz:=P4 (fun m h=>by rcases Ad3 h with rfl|rfl|rfl<;>decide:∀m,G2 ct.tables st.frm=I m→m≠0);have hS:=hS.mono (F':=Fx C (w.heap.size+3)) fun _ _ h=>h.imp id fun h=>O (by simp) h
 clear HS M0 B0 ak hu ai aj hc hR a7 i4;generalize Lc (G2 ct.tables st.frm)=z at*;generalize Lb (G2 ct.tables st.frm)=S at*;rcases hz with⟨rfl,hr⟩|⟨hz,hr⟩;rotate_left
 ·have HE:Hid (Fc ct st=I z):=by show _=_;rw[Fc,hr]
  go_wp2_with(first|(refine M1.ld rfl rfl ?_ ?_;exact rfl)|(refine M1.sto rfl rfl ?_ ?_ ?_;exact rfl;exact rfl));exact M1.fin (M1.bad HE.out) bV rfl rfl rfl
 obtain⟨ar,al⟩:=Aut hr;have ad:S.length≤1000:=by omega
 have ae:∀t∈S,t.cols.length≤1000000:=fun t ht=>ah t (al t ht)
 have HE:Hid (Fc ct st=match Lx S st.out with
   |I m=>I m
   |.ok out=>match I8 S st.order with
    |I m=>I m
    |.ok order=>match whR S st.wher with
     |I m=>I m
     |.ok wh=>.ok {st with out:=out,order:=order,wher:=wh}):=by show _=_;unfold Fc;rw[hr]
 clear hr ar al ah;obtain⟨ao,c,a8,hO⟩:=M1.get_out;have HO:=An9 S ad ae 40 st.out _ _ w1.heap.size w1 hO (hS.mono fun _ hk _=>hk) (aQ _) an (by omega);clear hO;go_upto_region 5 with(go_fit HO;rintro e w2 ⟨⟨u,rfl,hu⟩,af⟩;obtain⟨ab,oc,rfl,aa⟩:=hu.told;have M2:=M1.below af;obtain⟨_,_,q8,_⟩:=M2.get_out;have f8:=M2.free 8);have hS:=(hS.keep (Ak af)).keep (M2.keep 8 (G ab (Lb (Lx S st.out)).length oc));obtain⟨a2,M2,x2⟩:=M2.set_out (aa.mono fun k _ (hk:_≤k)=>.inr (O M1.se.big hk));have hz:=P4 (fun m h=>by rcases Alk h with rfl|rfl<;>decide:∀m,Lx S st.out=I m→m≠0);generalize w2.setCell ⟨w.heap.size+1,8,M⟩ (G ab (Lb (Lx S st.out)).length oc)=W2 at*;generalize Lc (Lx S st.out)=z at*;generalize Lb (Lx S st.out)=out2 at*;clear af aa hu q8 f8;rcases hz with⟨rfl,hr⟩|⟨hz,hr⟩;rotate_left
 ·have HE:Hid (Fc ct st=I z):=by show _=_;rw[HE.out,hr]
  go_wp2_with(first|(refine M2.ld rfl rfl ?_ ?_;exact rfl)|(refine M2.sto rfl rfl ?_ ?_ ?_;exact rfl;exact rfl));exact M2.fin (M2.bad HE.out) bV rfl rfl rfl
 have HE:Hid (Fc ct st=match I8 S st.order with
   |I m=>I m
   |.ok order=>match whR S st.wher with
    |I m=>I m
    |.ok wh=>.ok {st with out:=out2,order:=order,wher:=wh}):=by show _=_;rw[HE.out,hr]
 clear hr HO M1 a8;obtain⟨ao,c,au,hO⟩:=M2.get_order;have HO:=Aar S ad ae 40 st.order _ _ W2.heap.size W2 hO (hS.mono fun _ hk _=>hk) (aQ _) ap (by omega);clear hO;go_upto_region 8 with(go_fit HO;rintro e w3 ⟨⟨u,rfl,hu⟩,ag⟩;obtain⟨ab,oc,rfl,aa⟩:=hu.told;have M3:=M2.below ag;obtain⟨_,_,av,_⟩:=M3.get_order;have aw:=M3.free 17);have hS:=(hS.keep (Ak ag)).keep (M3.keep 17 (G ab (Lb (I8 S st.order)).length oc));obtain⟨a3,M3,x3⟩:=M3.set_order (aa.mono fun k _ (hk:_≤k)=>.inr (O M2.se.big hk));have hz:=P4 (fun m h=>by rcases Ab0 h with rfl|rfl<;>decide:∀m,I8 S st.order=I m→m≠0);generalize w3.setCell _ _=W3 at*;generalize Lc _=z at*;generalize Lb _=ord2 at*;clear ag aa hu av aw;rcases hz with⟨rfl,hr⟩|⟨hz,hr⟩;rotate_left
 ·have HE:Hid (Fc ct st=I z):=by show _=_;rw[HE.out,hr]
  go_wp2_with(first|(refine M3.ld rfl rfl ?_ ?_;exact rfl)|(refine M3.sto rfl rfl ?_ ?_ ?_;exact rfl;exact rfl));exact M3.fin (M3.bad HE.out) bV rfl rfl rfl
 have HE:Hid (Fc ct st=match whR S st.wher with
   |I m=>I m
   |.ok wh=>.ok {st with out:=out2,order:=ord2,wher:=wh}):=by show _=_;rw[HE.out,hr]
 clear hr HO M2 au;obtain⟨cw,am,ra,hO⟩:=M3.get_wher;rw[←x2,←x3,hO]at hX;have hX:=IsE.keep (Ae (M3.se.bel.mono hC)) _ _ hX;have HO:=Xd S ad ae 40 _ _ _ C _ W3 hX (hS.mono fun _ hk _=>hk) (O hC M3.se.bel.size) (aQ _) aq;have hi:(Tryz.prog.info? 69).map (·.size)=J cw.length:=by rw[am];exact Ay
 clear hO am hX x2 x3;go_wp2_with(first|(refine wpList_load_mid rfl 69 _ rfl _ 9 ?_ cw _ ra eJ rfl ?_ ?_;exact rfl;exact hi)|(go_fit HO;rintro e w4 ⟨⟨u,rfl,hu⟩,ax⟩;obtain⟨a,rfl,ay,az,hE⟩:=hu.told;have ba:(Tryz.prog.info? 69).map (·.size)=J a.size:=(by rw[ay];rfl);have h4:=(M3.below ax).set_wher (IsE.mono (fun k _ hk=>hk.imp id fun h=>O M3.se.big h) _ _ hE);have bb:=h4.1;obtain⟨a4,M4⟩:=h4.2)|(refine wpList_store_mid rfl 69 _ _ rfl (w.heap.size+1) 9 a ?_ ?_ ?_ ?_ ?_ ?_;exact rfl;exact rfl;exact bb;exact ba;exact az)|(refine M4.ld rfl rfl ?_ ?_;exact rfl)|(refine M4.sto rfl rfl ?_ ?_ ?_;exact rfl;exact rfl));refine M4.fin ?_ bV rfl rfl rfl;generalize whR S _=R at M4 HE⊢;cases R with
 |error m=>exact M4.bad HE.out
 |ok e=>exact M4.good HE.out
def O9 (m:Int)(st:Stm):Except Int Stm:=if m=0 then .ok st else I m
section
variable {ct:CatD}{st:Stm}{C:Nat}{w W W':aW}{cv arr:Array aZ}
theorem BkSt.kind (h:BkSt ct st C w W cv arr):W.cell? ⟨w.heap.size+1,0,M⟩=J (U aL st.kind):=by
 obtain⟨o1,c1,o2,c2,o3,c3,o4,c4,o5,c5,op,xk,xn,xs,s,aa,n8,o6,k6,c6,o7,c7,e,_⟩:=Ba h.is;obtain rfl:=aB.1 e;exact Aa h.se.stm rfl
theorem Art (h:BkSt ct st C w W cv arr)(hf:Yb ⟨st.name,st.cols⟩):aR aA 92 #[N cv,N arr] W fun r w'=>r=aD (U aL (Kl ct st.name st.cols))∧Below W.heap.size W w':=by
 obtain⟨o1,c1,o2,c2,o3,c3,o4,c4,o5,c5,op,xk,xn,xs,s,aa,n8,o6,k6,c6,o7,c7,e,i1,_⟩:=Ba h.is;obtain rfl:=aB.1 e;exact Ai4 ct _ C W h.ic h.leW _ _ _ _ _ _ _ _ _ _ _ _ _ _ _ _ _ _ _ _ _ i1 hf
theorem Ayi (h:BkSt ct st C w W cv arr)(hs:st.name.size≤aY):aR aA 93 #[N cv,N arr] W fun r w'=>r=aD (U aL (Qz ct st.name st.table st.col))∧Below W.heap.size W w':=by
 obtain⟨o1,c1,o2,c2,o3,c3,o4,c4,o5,c5,op,xk,xn,xs,s,aa,n8,o6,k6,c6,o7,c7,e,_⟩:=Ba h.is;obtain rfl:=aB.1 e;exact Aoc ct _ C W h.ic h.leW _ _ _ _ _ _ _ _ _ _ _ _ _ _ _ _ _ _ _ _ hs
theorem Ayj (h:BkSt ct st C w W cv arr):aR aA 94 #[N cv,N arr] W fun r w'=>r=aD (U aL (Ol ct st.name))∧Below W.heap.size W w':=by
 obtain⟨o1,c1,o2,c2,o3,c3,o4,c4,o5,c5,op,xk,xn,xs,s,aa,n8,o6,k6,c6,o7,c7,e,_⟩:=Ba h.is;obtain rfl:=aB.1 e;exact Aob ct _ C W h.ic h.leW _ _ _ _ _ _ _ _ _ _ _ _ _ _ _ _ _ _ _ _
theorem Jp.keep {R}{F F'}{w w'}{u}(h:Jp R F w u)(hk:Keeps F w w')(hm:∀k,F k→F' k):Jp R F' w' u:=by
 obtain⟨a,h1,h2,h3⟩:=h;refine⟨a,h1,h2,?_⟩;cases R with
 |error m=>exact h3
 |ok s=>exact⟨h3.1,I6.mono (fun k _ h=>hm k h) (I6.keep hk h3.2)⟩
theorem Jp.open {R}{F}{w}{u}(h:Jp R F w u):∃aa m,u=bF #[N aa,U aL m]∧aa.size=20∧aa.all (·.oneCell')=aM:=by
 obtain⟨a,h1,h2,h3⟩:=h;grind
theorem BkSt.handed {W1:aW}{R:Except Int Stm}{a:Array aZ}{m:Int}(h:BkSt ct st C w W cv arr)(h1:Jp R (Fx C W.heap.size) W1 (bF #[N a,U aL m])):Jp R (Fx C w.heap.size) (W1.setRow (w.heap.size+1+1) a) (bF #[N a,U aL m]):=by
 have:=h.se.big;have:=h.le;exact h1.keep ((Keeps.refl _ _).row (fun h=>by rcases h with h|h<;>omega) _) fun k h=>h.imp id fun h=>by omega
theorem BkSt.ans (h:BkSt ct st C w W cv arr)(m:Int):Jp (O9 m st) (Fx C w.heap.size) (W.setRow (w.heap.size+1+1) arr) (bF #[N arr,U aL m]):=by
 refine⟨arr,h.n20,h.one,?_⟩
 by_cases h0:m=0
 ·rw[O9,if_pos h0,h0];exact⟨rfl,I6.mono (F':=Fx C w.heap.size) (fun _ _ h=>.inl h) (I6.keep ((Keeps.refl (fun k=>k<C) W).row (show¬w.heap.size+1+1<C by have:=h.le;omega) arr) h.is)⟩
 ·rw[O9,if_neg h0]
end
def Ep (ct:CatD)(st:Stm):Except Int Stm:=
 if st.kind=1 then O9 (Kl ct st.name st.cols) st
 else if st.kind=2 then O9 (Qz ct st.name st.table st.col) st
 else if st.kind=3 then O9 (Ol ct st.name) st
 else if st.kind=4∨st.kind=5∨st.kind=6 then Gk ct st
 else if st.kind=7 then Fc ct st
 else I 1
def Cn (ct:CatD)(st:Stm):Except Int Stm:=if Ds ct=aO∨Kb st=aO then I 1 else Ep ct st
theorem Iu {P}{ops}{S}{op}{a}(aa:op.guard=M)(ty)(x)(ho:op.op=.load ty x)(g)(hx:a.eval x=cO (J ⟨g,0,M⟩))(cs)(t)(d)(hS:∀w,S w→w.heap[g]?=J (H cs t (0,0)))
  (hu:P.underlying ty=J d) (hd:(match d with|.struct _|.array _ _=>aM|_=>aO)=aM) (hi:(P.info? ty).map (·.size)=J cs.size):YieldsIf P ops S op (.agg cs) a:=
 .inl ⟨by simp[Region.wanted,aa],fun w ab=>by
  unfold execOp;simp only[ho,hx,Instr.loadAt,Instr.sureAddr,Sem.run_bind,Sem.run_pure,Result.andThen_ok,run_loadVar_row w g t ty cs (0,0) d (hS w ab) hu hd hi]⟩
structure FitB (st:Stm):Prop where
 fs:FitS st
 nm:st.name.size≤aY
 cols:Zp st.cols
 rows:st.rows.length≤16777216
 row:∀r∈st.rows,r.length≤16777216
 sets:st.sets.length≤16777216
 set:∀p∈st.sets,p.1.size≤aY
 out:st.out.length≤16777216
 order:st.order.length≤16777216
 frm:∀s∈st.frm,s.size≤aY
theorem Aod {st}(h:Kb st=aM):(∀r∈st.rows,∀a∈r,geB 40 a=aM)∧(∀p∈st.sets,geB 40 p.2=aM)∧(∀a∈st.out,geB 40 a=aM)∧(∀a∈st.order,geB 40 a=aM)∧(st.wher.opn≠0→geB 40 st.wher=aM):=by
 simp only[Kb,Jd,K9,bB,bA,cH,Bool.or_eq_true,decide_eq_true_eq]at h;obtain⟨⟨⟨⟨h1,h2⟩,h3⟩,h4⟩,h5⟩:=h;refine⟨fun r hr a ha=>?_,fun p hp=>?_,fun a ha=>?_,fun a ha=>?_,fun h0=>?_⟩
 ·have:=h1 r hr;simp only[eQ,not_exists,not_and]at this;simpa[K9]using this a ha
 ·grind
 ·grind
 ·grind
 grind
theorem Ayk {ct}(h:Ds ct=aM):∀t∈ct.tables,t.cols.length≤1000000:=by
 simp only[Ds,bB,Qw,bA,decide_eq_true_eq]at h;obtain⟨⟨_,h2,_⟩,_⟩:=h;rw[Nj]at h2;intro t ht;have:=(cH.1 h2) t ht;simp only[bA,Bool.not_eq_false,Kp,bB,decide_eq_true_eq]at this;omega
theorem Aoe {ct}{st}{m}(h:Gk ct st=I m):m=3∨m=4∨m=5:=by
 unfold Gk at h;cases h1:Bu ct.tables st.table with
 |none=>grind
 |some t=>
  rw[h1]at h;simp only at h;cases h2:Is _ _ with
  |error k=>rw[h2]at h;obtain rfl:=aE h;rcases Ahd h2 with h|h<;>simp[h]
  |ok r=>
   rw[h2]at h;simp only at h;cases h3:Cr t [] _ with
   |error k=>rw[h3]at h;obtain rfl:=aE h;exact Yl h3
   |ok q=>
    rw[h3]at h;simp only at h;cases h4:whR [t] _ with
    |error k=>
     rw[h4]at h;obtain rfl:=aE h;unfold whR at h4;split at h4
     ·grind
     ·rcases Rl h4 with h|h<;>simp[h]
    |ok e=>grind
theorem Aof {ct}{st}{m}(h:Fc ct st=I m):m=1∨m=3∨m=4∨m=5:=by
 unfold Fc at h;cases h1:G2 _ _ with
 |error k=>rw[h1]at h;obtain rfl:=aE h;rcases Ad3 h1 with h|h|h<;>simp[h]
 |ok S=>
  rw[h1]at h;simp only at h;cases h2:Lx S _ with
  |error k=>rw[h2]at h;obtain rfl:=aE h;rcases Alk h2 with h|h<;>simp[h]
  |ok r=>
   rw[h2]at h;simp only at h;cases h3:I8 S _ with
   |error k=>rw[h3]at h;obtain rfl:=aE h;rcases Ab0 h3 with h|h<;>simp[h]
   |ok q=>
    rw[h3]at h;simp only at h;cases h4:whR S _ with
    |error k=>
     rw[h4]at h;obtain rfl:=aE h;unfold whR at h4;split at h4
     ·grind
     ·rcases Rl h4 with h|h<;>simp[h]
    |ok e=>grind
theorem Ab1 {k m}{st}(h:O9 k st=I m):m=k∧k≠0:=by
 unfold O9 at h;grind
theorem Ahf {ct}{st}{m}(h:Ep ct st=I m):m=1∨m=3∨m=4∨m=5∨m=8:=by
 unfold Ep at h;split at h
 ·obtain⟨rfl,h0⟩:=Ab1 h;unfold Kl at h0⊢;omega
 ·split at h
  ·obtain⟨rfl,h0⟩:=Ab1 h;unfold Qz at h0⊢;omega
  ·split at h
   ·obtain⟨rfl,h0⟩:=Ab1 h;unfold Ol at h0⊢;omega
   ·split at h
    ·rcases Aoe h with h|h|h<;>simp[h]
    ·split at h
     ·rcases Aof h with h|h|h|h<;>simp[h]
     grind
theorem Alm (ct)(v)(st)(cs)(C)(w)(hc:Hp (fun k=>k<C) w ct v)(hR:I6.R (fun k=>k<C) w st cs)(hC:C≤w.heap.size)(hf:FitB st)(ak:Kb st=aM)(ag:∀t∈ct.tables,t.cols.length≤1000000):
  aR aA 49 #[v,N cs.toArray] w fun r w'=>(∃u,r=aD u∧Jp (Ep ct st) (Fx C w.heap.size) w' u)∧Below w.heap.size w w':=by
 obtain⟨cv,aa,rfl,rfl,B⟩:=Vv hc hR hC;obtain⟨g1,g2,g3,g4,g5⟩:=Aod ak;rw[aT];have ah:Hid _:=B.n20.symm;have k0:=B.kind;have HF:Hid _:=hf;have HB:∃W0,W0=((w.alloc _).alloc _).alloc _∧BkSt ct st C w W0 cv aa:=⟨_,rfl,B⟩;obtain⟨W0,ai,B0⟩:=HB;have ab:Hid _:=ai;clear ai B hc hR hf;go_enter Tryz.func49,Tryz.ntmps49
 by_cases e0:st.kind=1∨st.kind=2∨st.kind=3
 ·rcases e0 with e|e|e
  focus
   have HE:Hid (Ep ct st=O9 (Kl ct st.name st.cols) st):=by show _=_;rw[Ep,if_pos e]
   rw[e]at k0;go_upto_region 3 with fail
  rotate_left
  focus
   have HE:Hid (Ep ct st=O9 (Qz ct st.name st.table st.col) st):=by show _=_;rw[Ep,if_neg (by omega),if_pos e]
   rw[e]at k0;go_upto_region 5 with fail
  rotate_left
  focus
   have HE:Hid (Ep ct st=O9 (Ol ct st.name) st):=by show _=_;rw[Ep,if_neg (by omega),if_neg (by omega),if_pos e]
   rw[e]at k0;go_upto_region 7 with fail
  all_goals
   rw[←ab.out];refine wp_region_held_drew (S:=Below (w.heap.size+1+1) W0) (by rfl) ?_ (fun hHeld=>?_)
   ·exact(aJ _ _).drew
   refine eS (i:=0) (v:=N aa) rfl (by kernel_rfl) (by kernel_rfl) (by kernel_rfl) (fun _ _ _ h=>h) (Iu rfl 71 _ rfl (w.heap.size+1) rfl aa 71 _ (fun _ h=>(dW h _ (by omega)).trans B0.se.stm) aF rfl B0.si) (by assumption) ?_
   try simp only[dA,aU]
   refine eS (i:=1) (v:=N cv) rfl (by kernel_rfl) (by kernel_rfl) (by kernel_rfl) (fun _ _ _ h=>h) (Iu rfl 41 _ rfl w.heap.size rfl cv 41 _ (fun _ h=>(dW h _ (by omega)).trans B0.cat) aS rfl B0.ci) (by assumption) ?_
   try simp only[dA]
   refine eS (i:=2) (v:=N aa) rfl (by kernel_rfl) (by kernel_rfl) (by kernel_rfl) (fun _ _ _ h=>h) (Iu rfl 71 _ rfl (w.heap.size+1) rfl aa 71 _ (fun _ h=>(dW h _ (by omega)).trans B0.se.stm) aF rfl B0.si) (by assumption) ?_
   try simp only[dA]
   refine Bh 3 (fun K hK=>?_);go_simp
   (first|go_fit(Art (B0.below (aJ _ _).drew) ⟨HF.out.nm,HF.out.cols⟩)|go_fit(Ayi (B0.below (aJ _ _).drew) HF.out.nm)|go_fit(Ayj (B0.below (aJ _ _).drew)))
   rintro e w1 ⟨rfl,ac⟩;have B1:=(B0.below (aJ _ _).drew).below ac;go_wp2_with fail;refine hK.out _ _ ?_ (fun hHeld=>?_)
   ·exact(aJ _ _).drew.trans (ac.mono (by have:=B0.se.big;show _≤W0.heap.size;omega))
   clear hK K
   try simp only[dA,aU,eG,eH]
   refine Bh 4 (fun K hK=>?_);refine Hw rfl 71 _ _ rfl (w.heap.size+1+1) aa ?_ ?_ 71 Bq ?_ ?_ ?_ ?_ ?_;exact rfl;exact rfl;exact B1.se.room;exact B1.si;exact ah.out;exact B1.one;refine hK.out _ _ ?_ (fun hHeld=>?_)
   ·exact Below.row ((aJ _ _).drew.trans (ac.mono (by have:=B0.se.big;show _≤W0.heap.size;omega))) (aQ _) _
   clear hK K
   try simp only[dA]
   refine tkd 5 5 ?_
   try simp only[dA,aU]
   refine wpAnyH_done (by kernel_rfl) ?_ _;go_wp2_with fail;refine bC (Dn bY _ _ _ 71 aa _ _ _ rfl rfl (Ao B1.se.room) aF rfl B1.si) rfl ⟨⟨_,rfl,?_⟩,Below.row B1.se.bel (by omega) _⟩;rw[HE.out];exact B1.ans _
 rw[not_or,not_or]at e0;obtain⟨e1,e2,e3⟩:=e0;have q1:(st.kind==1)=aO:=by simpa using e1
 have q2:(st.kind==2)=aO:=by simpa using e2
 have q3:(st.kind==3)=aO:=by simpa using e3
 by_cases e4:st.kind=4∨st.kind=5∨st.kind=6
 ·have HE:Hid (Ep ct st=Gk ct st):=by show _=_;rw[Ep,if_neg e1,if_neg e2,if_neg e3,if_pos e4]
  have HH:=Af0 ct _ st _ C W0 B0.ic B0.is B0.leW g1 g2 g5 HF.out.rows HF.out.row HF.out.sets HF.out.set ag;rw[aT]at HH;have BC:=B0.cat;have BS:=B0.se.stm;rw[ab.out]at BC BS;rcases e4 with e4|e4|e4
  all_goals
   rw[e4]at k0;go_wp2_with(first|(refine aK rfl 41 _ rfl _ ?_ 41 _ _ _ BC aS ?_ ?_ ?_;exact rfl;exact rfl;exact B0.ci)|(refine aK rfl 71 _ rfl _ ?_ 71 _ _ _ BS aF ?_ ?_ ?_;exact rfl;exact rfl;exact B0.si)|(go_at_call 95;rw[←ab.out];go_fit HH;rintro e w1 ⟨⟨u,rfl,hu⟩,ac⟩;obtain⟨a,m,rfl,ad,ae⟩:=hu.open;have B1:=B0.below ac;have af:Hid _:=ad.symm)|(refine bU rfl 71 _ _ rfl (w.heap.size+1+1) a ?_ ?_ 71 Bq ?_ ?_ ?_ ?_ ?_;exact rfl;exact rfl;exact B1.se.room;exact Nm ad;exact af.out;exact ae));refine bC (Dn bY _ _ _ 71 a _ _ _ rfl rfl (Ao B1.se.room) aF rfl (Nm ad)) rfl ⟨⟨_,rfl,?_⟩,Below.row B1.se.bel (by omega) _⟩;rw[HE.out];exact B0.handed hu
 have q4:(st.kind==4)=aO:=by simp;omega
 have q5:(st.kind==5)=aO:=by simp;omega
 have q6:(st.kind==6)=aO:=by simp;omega
 by_cases e7:st.kind=7
 ·have HE:Hid (Ep ct st=Fc ct st):=by show _=_;rw[Ep,if_neg e1,if_neg e2,if_neg e3,if_neg e4,if_pos e7]
  rw[e7]at k0;have HH:=Af1 ct _ st _ C W0 B0.ic B0.is B0.leW g3 g4 g5 HF.out.out HF.out.order HF.out.frm ag;rw[aT]at HH;have BC:=B0.cat;have BS:=B0.se.stm;rw[ab.out]at BC BS;go_wp2_with(first|(refine aK rfl 41 _ rfl _ ?_ 41 _ _ _ BC aS ?_ ?_ ?_;exact rfl;exact rfl;exact B0.ci)|(refine aK rfl 71 _ rfl _ ?_ 71 _ _ _ BS aF ?_ ?_ ?_;exact rfl;exact rfl;exact B0.si)|(go_at_call 96;rw[←ab.out];go_fit HH;rintro e w1 ⟨⟨u,rfl,hu⟩,ac⟩;obtain⟨a,m,rfl,ad,ae⟩:=hu.open;have B1:=B0.below ac;have af:Hid _:=ad.symm)|(refine bU rfl 71 _ _ rfl (w.heap.size+1+1) a ?_ ?_ 71 Bq ?_ ?_ ?_ ?_ ?_;exact rfl;exact rfl;exact B1.se.room;exact Nm ad;exact af.out;exact ae));refine bC (Dn bY _ _ _ 71 a _ _ _ rfl rfl (Ao B1.se.room) aF rfl (Nm ad)) rfl ⟨⟨_,rfl,?_⟩,Below.row B1.se.bel (by omega) _⟩;rw[HE.out];exact B0.handed hu
 have q7:(st.kind==7)=aO:=by simpa using e7
 have HE:Hid (Ep ct st=I 1):=by show _=_;rw[Ep,if_neg e1,if_neg e2,if_neg e3,if_neg e4,if_neg e7]
 have BS:=B0.se.stm;have BR:=B0.se.room;rw[ab.out]at BS BR;have aj:=B0.si;clear e1 e2 e3 e4 e7;go_wp2_with(first|(refine aK rfl 71 _ rfl _ ?_ 71 _ _ _ BS aF ?_ ?_ ?_;exact rfl;exact rfl;exact aj)|(refine bU rfl 71 _ _ rfl (w.heap.size+1+1) aa ?_ ?_ 71 Bq ?_ ?_ ?_ ?_ ?_;exact rfl;exact rfl;exact BR;exact aj;exact ah.out;exact B0.one));rw[←ab.out];refine bC (Dn bY _ _ _ 71 aa _ _ _ rfl rfl (Ao B0.se.room) aF rfl B0.si) rfl ⟨⟨_,rfl,?_⟩,Below.row B0.se.bel (by omega) _⟩;rw[HE.out];exact⟨aa,B0.n20,B0.one,rfl⟩
theorem Aln {α}(l)(q:α→Bool):Bz (atI l q) 0 l.length=l.any q:=by
 rw[Zk];rcases N4 l q with⟨h1,h2⟩|⟨k,x,h1,h2,h3,h4⟩
 ·grind
 grind
theorem Ad4 (p):∀(n i:Nat),Bz p (i+1) n=Bz (fun j=>p (j+1)) i n
 |0,i=>rfl
 |n+1,i=>by rw[Bz,Bz,Ad4 p n _]
theorem Aru (a b)(l):Ic (a::b::l)=(klt a b&&Ic (b::l)):=by
 have e:Eb (a::b::l) 0= !klt a b:=rfl;have e2:(fun j=>Eb (a::b::l) (j+1))=Eb (b::l):=by funext j;simp[Eb]
 simp only[Ic,cL,Nat.add_sub_cancel];rw[Bz,Ad4,e,e2];simp
theorem Ahg:∀(l:List Wd),Ic l=aM↔Cb l
 |[]=>⟨fun _=>List.Pairwise.nil,fun _=>rfl⟩
 |[a]=>⟨fun _=>List.pairwise_singleton _ _,fun _=>rfl⟩
 |a::b::l=>by
  rw[Aru,bB,Ahg _];constructor
  ·rintro⟨h1,h2⟩;refine aX.2 ⟨fun x hx=>?_,h2⟩;rcases bD.1 hx with rfl|hx
   ·omega
   ·exact Co h1 ((aX.1 h2).1 x hx)
  simp_all
theorem Cv (c):Ds c=aM↔c.tables.length≤3∧c.indexes.length≤4∧(∀t∈c.tables,Kp t=aM)∧Cb (c.tables.map TabD.name)∧(∀x∈c.indexes,Ka c.tables x=aO)∧Cb (c.indexes.map IdxD.name):=by
 simp only[Ds,Qw,Ta,bB,decide_eq_true_eq,Aln,bA,cH,Ahg];grind
theorem Zv {α:Type}{nm:α→Wd}:∀{l:List α},Cb (l.map nm)→∀{x y:α},x∈l→y∈l→nm x=nm y→x=y
 |[],_,_,_,hx,_,_=>by grind
 |a::l,h,x,y,hx,hy,e=>by
  have h1:=(aX.1 h).1;have h2:Cb _:=(aX.1 h).2;rcases bD.1 hx with rfl|hx'
  ·rcases bD.1 hy with rfl|hy'
   ·rfl
   ·exact absurd e (Fz (h1 _ (eD hy')))
  ·rcases bD.1 hy with rfl|hy'
   ·exact absurd e.symm (Fz (h1 _ (eD hx')))
   ·exact Zv h2 hx' hy' e
theorem Nn {T}(hr:Cb (T.map TabD.name)){s}{u}:Bu T s=J u↔u∈T∧u.name=s:=by
 constructor
 ·intro h;exact⟨aV h,by have:=eV h;grind⟩
 ·rintro⟨h1,rfl⟩;cases h:Bu T _ with
  |none=>have:=List.find?_eq_none.1 h u h1;grind
  |some v=>
   have hn:=eV h;simp only[decide_eq_true_eq]at hn;rw[Zv hr (aV h) h1 hn]
theorem A3x {T}{s}:Bu T s=M↔∀t∈T,t.name≠s:=by
 unfold Bu;simp
theorem A4a {α}{nm}{l}{x y:α}:y∈Ec nm l x↔y=x∨y∈l:=by
 simp only[Ec,List.mem_append,bD,aG,bA];grind
theorem Ma {α}{nm}{l}{x:α}:(Ec nm l x).length=l.length+1:=by
 simp only[Ec,bI,cL];have h:∀m:List α,(m.filter fun y=>klt (nm y) (nm x)).length+(m.filter fun y=>!klt (nm y) (nm x)).length=m.length:=by
  intro m
  induction m with
  |nil=>rfl
  |cons a m ih=>
   grind
 grind
theorem Ym {α}{nm:α→Wd}{l}{x}(hr:Cb (l.map nm))(hn:∀y∈l,nm y≠nm x):Cb ((Ec nm l x).map nm):=by
 have aa:∀p,Cb ((l.filter p).map nm):=fun p=>bJ (cA _ cC) hr
 rw[Ec,cV,List.map_cons];refine Gt.2 ⟨aa _,aX.2 ⟨fun b hb=>?_,aa _⟩,fun a ha b hb=>?_⟩
 ·obtain⟨y,hy,rfl⟩:=aN.1 hb;obtain⟨ac,ab⟩:=aG.1 hy;rcases Jh (by grind:klt (nm y) (nm x)=aO)with e|e
  ·grind
  omega
 ·obtain⟨y,hy,rfl⟩:=aN.1 ha;obtain⟨ac,ab⟩:=aG.1 hy;rcases bD.1 hb with rfl|hb
  ·omega
  ·obtain⟨z,hz,rfl⟩:=aN.1 hb;obtain⟨ad,ae⟩:=aG.1 hz;exact Rq ab (by grind)
theorem Aau {T T'}{x}(h:Ka T x=aO)(hk:∀u,Bu T x.table=J u→Bu T' x.table=J u):Ka T' x=aO:=by
 unfold Ka at h⊢;simp only[Bool.or_eq_false_iff,Bool.not_eq_false']at h⊢;refine⟨h.1,?_⟩;have h2:=h.2;unfold Kq at h2⊢;grind
theorem Fa {ct}{st b}(h:Cn ct st=.ok b):Ds ct=aM∧Kb st=aM∧Ep ct st=.ok b:=by
 unfold Cn at h;grind
theorem Ii {m}{st b}(h:O9 m st=.ok b):m=0∧b=st:=by
 unfold O9 at h;grind
theorem G3 {ct}{st b}(h:Cn ct st=.ok b):b.kind=st.kind∧b.name=st.name∧b.table=st.table∧b.col=st.col∧b.cols=st.cols∧1≤st.kind∧st.kind≤7:=by
 obtain⟨_,_,h⟩:=Fa h;unfold Ep at h;split at h
 ·obtain⟨_,rfl⟩:=Ii h;grind
 split at h
 ·obtain⟨_,rfl⟩:=Ii h;grind
 split at h
 ·obtain⟨_,rfl⟩:=Ii h;grind
 split at h
 ·have hk:1≤st.kind∧st.kind≤7:=by omega
  unfold Gk at h;grind
 split at h
 ·have hk:1≤st.kind∧st.kind≤7:=by omega
  unfold Fc at h;grind
 grind
theorem Yn {ct}{st b}(h:Cn ct st=.ok b):Ds (A7 ct b)=aM∧(st.kind=1→(Bu (A7 ct b).tables st.name).isSome=aM)∧(st.kind=3→Bu (A7 ct b).tables st.name=M)∧
  (st.kind=1→¬ct.tables.length=(A7 ct b).tables.length)∧(st.kind=2→ct.tables.length=(A7 ct b).tables.length∧¬ct.indexes.length=(A7 ct b).indexes.length)∧(st.kind=3→¬ct.tables.length=(A7 ct b).tables.length)∧
  (3<st.kind→ct.tables.length=(A7 ct b).tables.length∧ct.indexes.length=(A7 ct b).indexes.length):=by
 obtain⟨hk,ac,ad,ae,af,h1,h7⟩:=G3 h;obtain⟨hg,_,hb⟩:=Fa h;obtain⟨g1,g2,g3,g4,g5,g6⟩:=(Cv ct).1 hg;unfold A7;rw[hk,ac,ad,ae,af];unfold Ep at hb
 by_cases k1:st.kind=1
 ·rw[if_pos k1]at hb;rw[if_pos k1];obtain⟨hc,_⟩:=Ii hb;unfold Kl at hc;split at hc
  ·omega
  rename_i c1;split at hc
  ·omega
  rename_i c2;split at hc
  ·omega
  rename_i c3;have ab:∀y∈ct.tables,y.name≠st.name:=A3x.1 (by simp_all);have aa:Cb ((Ec _ ct.tables ⟨st.name,st.cols⟩).map _):=Ym g4 ab;have ah:Kp ⟨st.name,st.cols⟩=aM:=by cases hq:Kp ⟨st.name,st.cols⟩<;>simp_all
  refine⟨(Cv _).2 ⟨by simp only[Ma];omega,g2,?_,aa,?_,g6⟩,fun _=>?_,fun h3=>by omega,fun _=>by simp only[Ma];omega,fun h=>by omega,fun h=>by omega,fun h=>by omega⟩
  ·intro t ht;rcases A4a.1 ht with rfl|ht
   ·omega
   grind
  ·intro x hx;refine Aau (g5 x hx) fun u hu=>?_
   obtain⟨q1,q2⟩:=(Nn g4).1 hu;exact(Nn aa).2 ⟨A4a.2 (.inr q1),q2⟩
  ·rw[(Nn aa).2 ⟨A4a.2 (.inl rfl),rfl⟩];rfl
 rw[if_neg k1]at hb;rw[if_neg k1]
 by_cases k2:st.kind=2
 ·rw[if_pos k2]at hb;rw[if_pos k2];obtain⟨hc,_⟩:=Ii hb;unfold Qz at hc;split at hc
  ·omega
  rename_i c1;split at hc
  ·omega
  rename_i c2;split at hc
  ·omega
  rename_i c3;split at hc
  ·omega
  rename_i c4;rw[Aln]at c3;have ab:∀y∈ct.indexes,y.name≠st.name:=fun y hy e=>c3 (eQ.2 ⟨y,hy,by simp[Vu,e]⟩)
  have aa:Cb ((Ec _ ct.indexes ⟨st.name,st.table,st.col⟩).map _):=Ym g6 ab;refine⟨(Cv _).2 ⟨g1,by simp only[Ma];omega,g3,g4,?_,aa⟩,fun h3=>by omega,fun h3=>by omega,fun h=>by omega,fun _=>⟨rfl,by simp only[Ma];omega⟩,fun h=>by omega,fun h=>by omega⟩;intro x hx;rcases A4a.1 hx with rfl|hx
  ·unfold Ka;grind
  grind
 rw[if_neg k2]at hb;rw[if_neg k2]
 by_cases k3:st.kind=3
 ·rw[if_pos k3]at hb;rw[if_pos k3];obtain⟨hc,_⟩:=Ii hb;unfold Ol at hc;split at hc;rotate_left
  ·omega
  rename_i c1;obtain⟨u,hu⟩:=Option.isSome_iff_exists.1 c1;obtain⟨u1,u2⟩:=(Nn g4).1 hu;have aa:Cb ((ct.tables.filter fun t=>!decide (t.name=st.name)).map _):=bJ (cA _ cC) g4;refine⟨(Cv _).2 ⟨O (bS _ _) g1,O (bS _ _) g2,fun t ht=>g3 t (aG.1 ht).1,aa,?_,bJ (cA _ cC) g6⟩,fun h3=>by omega,fun _=>?_,fun h=>by omega,fun h=>by omega,fun _ hh=>?_,fun h=>by omega⟩
  ·intro x hx;obtain⟨ag,ai⟩:=aG.1 hx;refine Aau (g5 x ag) fun v hv=>?_
   obtain⟨q1,q2⟩:=(Nn g4).1 hv;exact(Nn aa).2 ⟨aG.2 ⟨q1,by grind⟩,q2⟩
  ·exact A3x.2 fun t ht=>by grind
  ·have aj:=List.length_filter_eq_length_iff.1 hh.symm u u1;grind
 grind
end
end Go.Proofs.YtjapkoofjlmdgaaGreatDoor
namespace Go.Proofs
open Go.Shelf
def Tryz.laysSort_ren:cZ:=⟨fun|190=>237|125=>202|258=>301|128=>264|129=>265|302=>337|303=>338|304=>339|305=>340|306=>341|307=>342|308=>298|309=>343|310=>344|333=>366|329=>318|330=>319|334=>367|335=>368|336=>229|344=>371|n=>n,fun|31=>54|9=>9|3=>3|46=>257|0=>0|51=>311|53=>313|4=>4|183=>305|182=>304|131=>216|5=>5|218=>348|222=>352|228=>375|229=>376|n=>n,fun|n=>n⟩
theorem Tryz.laysSort:Go.Proofs.Lays.n190 aA Tryz.laysSort_ren:={
 mixed:=by kernel_rfl
 f125:=sF Tryz.func202
 f128:=sF Tryz.func264
 f129:=sF Tryz.func265
 f190:=sF Tryz.func237
 f258:=sF Tryz.func301
 f302:=sF Tryz.func337
 f303:=sF Tryz.func338
 f304:=sF Tryz.func339
 f305:=sF Tryz.func340
 f306:=sF Tryz.func341
 f307:=sF Tryz.func342
 f308:=sF Tryz.func298
 f309:=sF Tryz.func343
 f310:=sF Tryz.func344
 f329:=sF Tryz.func318
 f330:=sF Tryz.func319
 f333:=sF Tryz.func366
 f334:=sF Tryz.func367
 f335:=sF Tryz.func368
 f336:=sF Tryz.func229
 f344:=sF Tryz.func371
 t0:=eO
 a0:=Tryz.isAgg0
 z0:=Tryz.sizeOf0
 v0:=eT
 t3:=cK
 a3:=dZ
 z3:=dN
 v3:=cR
 t4:=cJ
 a4:=dY
 z4:=dM
 v4:=cQ
 t5:=Tryz.underlying5
 a5:=Tryz.isAgg5
 z5:=Tryz.sizeOf5
 v5:=Tryz.zeroValue5
 t9:=cI
 a9:=dX
 z9:=dL
 v9:=cP
 t31:=bK
 a31:=Tryz.isAgg54
 z31:=Tryz.sizeOf54
 v31:=eN
 t46:=Tryz.underlying257
 a46:=Tryz.isAgg257
 z46:=Tryz.sizeOf257
 v46:=Tryz.zeroValue257
 t51:=Tryz.underlying311
 a51:=Tryz.isAgg311
 z51:=Tryz.sizeOf311
 v51:=Tryz.zeroValue311
 t53:=Tryz.underlying313
 a53:=Tryz.isAgg313
 z53:=Tryz.sizeOf313
 v53:=Tryz.zeroValue313
 t131:=Tryz.underlying216
 a131:=Tryz.isAgg216
 z131:=Tryz.sizeOf216
 v131:=Tryz.zeroValue216
 t182:=Tryz.underlying304
 a182:=Tryz.isAgg304
 z182:=Tryz.sizeOf304
 v182:=Tryz.zeroValue304
 t183:=Tryz.underlying305
 a183:=Tryz.isAgg305
 z183:=Tryz.sizeOf305
 v183:=Tryz.zeroValue305
 t218:=Tryz.underlying348
 a218:=Tryz.isAgg348
 z218:=Tryz.sizeOf348
 v218:=Tryz.zeroValue348
 t222:=Tryz.underlying352
 a222:=Tryz.isAgg352
 z222:=Tryz.sizeOf352
 v222:=Tryz.zeroValue352
 t228:=Tryz.underlying375
 a228:=Tryz.isAgg375
 z228:=Tryz.sizeOf375
 v228:=Tryz.zeroValue375
 t229:=Tryz.underlying376
 a229:=Tryz.isAgg376
 z229:=Tryz.sizeOf376
 v229:=Tryz.zeroValue376}
def Tryz.laysCompact_ren:cZ:=⟨fun|194=>238|n=>n,fun|31=>54|9=>9|3=>3|4=>4|0=>0|n=>n,fun|n=>n⟩
theorem Tryz.laysCompact:Go.Proofs.Lays.n194 aA Tryz.laysCompact_ren:={
 mixed:=by kernel_rfl
 f194:=sF Tryz.func238
 t0:=eO
 a0:=Tryz.isAgg0
 z0:=Tryz.sizeOf0
 v0:=eT
 t3:=cK
 a3:=dZ
 z3:=dN
 v3:=cR
 t4:=cJ
 a4:=dY
 z4:=dM
 v4:=cQ
 t9:=cI
 a9:=dX
 z9:=dL
 v9:=cP
 t31:=bK
 a31:=Tryz.isAgg54
 z31:=Tryz.sizeOf54
 v31:=eN}
def Tryz.laysCut_ren:cZ:=⟨fun|103=>236|210=>300|206=>336|n=>n,fun|9=>9|4=>4|24=>247|3=>3|n=>n,fun|n=>n⟩
theorem Tryz.laysCut:Go.Proofs.Lays.n103 aA Tryz.laysCut_ren:={
 mixed:=by kernel_rfl
 f103:=sF Tryz.func236
 f206:=sF Tryz.func336
 f210:=sF Tryz.func300
 t3:=cK
 a3:=dZ
 z3:=dN
 v3:=cR
 t4:=cJ
 a4:=dY
 z4:=dM
 v4:=cQ
 t9:=cI
 a9:=dX
 z9:=dL
 v9:=cP
 t24:=Tryz.underlying247
 a24:=Tryz.isAgg247
 z24:=Tryz.sizeOf247
 v24:=Tryz.zeroValue247}
end Go.Proofs
namespace Go.Proofs.YtjapkoofjlmdgaaGreatDoor
section
open Go.RowKit
open Go.Sort (Holds holds_grow holds_putRow holds_ahead grow grow_empty heap_grow_old heap_ahead)
def Q0 (L:List ByteArray):List (List UInt8):=(L.map fun s=>s.data.toList).mergeSort fun x y=>decide (x≤y)
def J5 (L:List ByteArray):List ByteArray:=(aI (Q0 L)).map str
theorem Arv {w}{g}{L:List ByteArray}(hc:∀(j:Nat) (u:aZ),(L.map Value.string)[j]?=J u→w.cell? ⟨g,0+j,M⟩=J u)(hf:∀j,w.frozen? ⟨g,0+j,M⟩=aO):Holds dT w g 0 (L.map fun s=>s.data.toList).toArray:=by
 intro j hj;simp_all
theorem Ahh {B}{w}{g}(hB:B≤g)(hw:B≤w.heap.size)(n)(d)(os):dI B w (grow (eM dT (eR w n) g 0 d) os):=by
 refine⟨rfl,rfl,rfl,by simp,fun k hk=>?_⟩;rw[heap_grow_old _ _ (by simp;omega)];simp only[eM,Go.Sort.mapBlock,heap_ahead,Array.getElem?_modify];grind
theorem Ayl (L)(g cap B)(w)(hH:Holds dT w g 0 (L.map fun s=>s.data.toList).toArray)(hg:g<w.heap.size)(hB:B≤g)(hl:L.length≤1000000):
  aR aA 237 #[G (J ⟨g,0,M⟩) L.length cap] w fun e w'=>e=aD (bF #[])∧Holds dT w' g 0 (Q0 L).toArray∧g<w'.heap.size∧dI B w w':=by
 have h:=Any.slices_Sort_string Tryz.laysSort g 0 cap _ w hH hg (by grind);rw[bG]at h;refine h.mono ?_;rintro e w' ⟨rfl,n,os,rfl⟩;refine⟨rfl,holds_grow _ _ _ _ _ _ (by simp_all) (holds_putRow _ _ _ _ _ _ (holds_ahead _ _ _ _ _ _ hH) (by simp)),by simp;omega,Ahh hB (by omega) _ _ _⟩
theorem Aog (zs:List (List UInt8))(g cap B:Nat)(w:aW)(hH:Holds dT w g 0 zs.toArray)(hg:g<w.heap.size)(hB:B≤g)(hl:zs.length≤1000000)(ab:zs.length≤cap)(ac:cap≤aY):
  aR aA 238 #[G (J ⟨g,0,M⟩) zs.length cap] w fun e w'=>∃v,e=aD v∧An w' v ((aI zs).map str)∧dI B w w':=by
 refine(Any.slices_Compact_string Tryz.laysCompact g 0 cap zs w hH (by omega) ab).mono ?_;rintro e w' ⟨rfl,q,rfl⟩;have ad:(aI zs).length≤zs.length:=by
  unfold aI cW;rw[bG];exact O (bS _ _) (by simp)
 refine⟨_,rfl,⟨by simp,?_⟩,?_⟩
 ·rcases Nat.eq_zero_or_pos (aI zs).length with h0|h0
  ·exact .inl ⟨by grind,_,cap,by rw[h0],fun h=>by grind⟩
  ·refine .inr ⟨by simpa using h0,g,0,cap,by simp,by simpa using hg,by simp;omega,ac,?_⟩;intro j u hj;have aa:j<(aI zs).length:=by have:=(dC.1 hj).1;simpa using this
   obtain⟨c1,_⟩:=(holds_putRow dT (eR w q) g 0 zs.toArray (aI zs++List.replicate (zs.length-(aI zs).length) []).toArray (holds_ahead _ _ _ _ _ _ hH) (by simp;omega)) j (by simp;omega);rw[c1];rw[List.map_map,List.getElem?_map,aP aa]at hj;simp only[Option.map_some,Function.comp,Option.some.injEq]at hj;rw[←hj,getElem!_pos _ j (by simp;omega)];simp only[List.getElem_toArray];rw[List.getElem_append_left aa];rfl
 ·have:=Ahh (w:=w) hB (by omega) q (aI zs++List.replicate (zs.length-(aI zs).length) []).toArray #[];simp_all
end
section
open Go.RowKit
section
variable {α:Type} [Inhabited α] [DecidableEq α]
theorem Aoh (zs:List α):∀j,j<zs.length→zs.toArray[j]! ∈aI zs:=by
 intro j
 induction j with
 |zero=>
  intro h;exact aN.2 ⟨0,aG.2 ⟨cY.2 h,Lib.keeps_lt_one _ 0 (by omega)⟩,rfl⟩
 |succ j ih=>
  intro h
  by_cases he:zs.toArray[j+1]! =zs.toArray[j+1-1]!
  ·grind
  ·exact aN.2 ⟨_,aG.2 ⟨cY.2 h,Lib.keeps_pos he⟩,rfl⟩
theorem Aav (zs:List α)(y:α):y∈aI zs↔y∈zs:=by
 constructor
 ·intro h;obtain⟨j,hj,rfl⟩:=aN.1 h;grind
 ·intro h;obtain⟨j,hj,rfl⟩:=List.getElem_of_mem h;have:=Aoh zs j hj;grind
theorem Ai5 (zs:List α)(le:α→α→Prop)(anti:∀a b,le a b→le b a→a=b)(hs:zs.Pairwise le)(hr:∀a,le a a):(aI zs).Nodup:=by
 have aa:∀i j,i≤j→j<zs.length→le zs.toArray[i]! zs.toArray[j]! :=by
  intro i j ab hj;rw[getElem!_pos _ i (by grind),getElem!_pos _ j (by omega)];rcases Nat.eq_or_lt_of_le ab with rfl|h
  ·exact hr _
  ·exact List.pairwise_iff_getElem.1 hs i j _ hj h
 unfold aI cW;rw[List.Nodup,eL];refine List.Pairwise.imp_of_mem ?_ (List.Pairwise.filter _ (List.pairwise_lt_range (n:=zs.length)));intro i j hi hj ab he;have ac:=cY.1 (aG.1 hj).1;have hk:=(aG.1 hj).2;have h1:=aa i (j-1) (by omega) (by omega);rw[he]at h1;rw[Lib.keeps_neg (by omega) (anti _ _ h1 (aa (j-1) j (by omega) ac))]at hk;grind
end
theorem Ahi (L)(y):y∈J5 L↔y∈L:=by
 unfold J5;rw[aN];constructor
 ·rintro⟨a,ha,rfl⟩;rw[Aav,Q0,eI,aN]at ha;obtain⟨s,hs,rfl⟩:=ha;exact hs
 ·intro h;refine⟨y.data.toList,?_,rfl⟩;rw[Aav,Q0,eI,aN];grind
theorem A02 {a b}(h:str a=str b):a=b:=by
 have:=congrArg (fun s=>s.data.toList) h;assumption
theorem Aoi (L):(J5 L).Nodup:=by
 unfold J5;rw[List.Nodup,eL];have hs:(Q0 L).Pairwise (fun a b=>a≤b):=by
  have:=List.pairwise_mergeSort (le:=fun x y:List UInt8=>decide (x≤y)) (fun a b c h1 h2=>by grind) (fun a b=>by grind) (L.map fun s=>s.data.toList);exact this.imp fun h=>by grind
 exact(Ai5 _ _ (fun a b=>List.le_antisymm) hs (fun a=>List.le_refl a)).imp fun h e=>h (A02 e)
def Hq (T:List Pg)(K:List Wd):List Wd:=K.filterMap (Hy (flat T))
theorem Auu {T}{K:List Wd}{k}{x:Wd}(h:K[k]?=J x):Hq T (K.take (k+1))=Hq T (K.take k)++(Hy (flat T) x).toList:=by
 rw[cG,h];simp only[Hq,dV,eB];rfl
theorem Aaw (T)(K):(Hq T K).length≤K.length:=dJ _ _
theorem Ad5 (T:List Pg)(pv kv:aZ)(K:List Wd)(w:aW)(hp:Bi w pv T)(hg:As T)(hT:T.length≤100000)(hK:An w kv K)(hl:K.length≤1000000):
  aR aA 176 #[pv,kv] w fun e w'=>∃tv,e=aD tv∧An w' tv (Hq T K)∧Below w.heap.size w w':=by
 obtain⟨az,rfl,ag⟩:=hp;obtain⟨po,pc,rfl⟩:=Ct ag;obtain⟨ko,kc,rfl⟩:=Eu.shape hK;obtain⟨i0,al,am,an,ap⟩:=dS Ke;obtain⟨ac,bT,-⟩:=al1 w (H #[G po T.length pc] 44);generalize hW:w.alloc (H #[G po T.length pc] 44)=W1 at ac bT;have HP:Hid (A8 W1 (G po T.length pc) T):=ag.below ac;have aq:Hid _:=hK.below ac;have HW:Hid _:=hW;clear hW ag hK;go_enter Tryz.func176,Tryz.ntmps176;go_upto_region 1 with fail;rw[HW.out];go_wp2
 go_loopw[5,12] (fun zv i wr=>∃k:Nat,k≤K.length∧i=U aL k∧wr.ownsRow W1.heap.size 9 1 zv (Hq T (K.take k)).length ((Hq T (K.take k)).map D)∧Below W1.heap.size W1 wr) (fun _ i _=>K.length-(cB i).toNat)
 case atStart=>exact⟨0,cT _,rfl,eF _ _ _ _,aJ _ _⟩
 case round=>
  obtain⟨k,hk,rfl,ad,aa⟩:=hrel
  by_cases ar:k<K.length
  ·obtain⟨x,hx⟩:∃x,K[k]?=J x:=⟨_,aP ar⟩;obtain⟨b,ba,cap,au,hb,_,_,aj⟩:=An.at aq.out (by omega);cases au;have d0:=(aa.cell hb).trans (aj k x hx);have HG:=Aj0 T _ x wr ⟨_,rfl,A8.below HP.out aa⟩ hg (by omega);have af:Hid (Hq T _=Hq T _++(Hy _ x).toList):=Auu hx;have v0:(0:Int)≤k:=by omega
   have v1:k<(K.length:Int):=by omega
   have ah:=aa.size;have t0:=Aa ((aa.block _ (aC bT)).trans bT) (j:=0) rfl;have bb:(Hq T (K.take k)).length≤1000000:=O (Aaw _ _) (by grind);clear hx aj;cases ab:Hy _ x with
   |none=>
    have E2:Hid (Hq T (K.take (k+1))=Hq T (K.take k)):=by show _=_;rw[af.out,ab];simp
    rw[ab]at HG;simp only[Aco,Option.getD_none,Option.isSome_none]at HG;clear ab af;go_wp2_with(go_fit HG;rintro e w2 ⟨rfl,ae⟩);go_roundw
    case rel=>exact⟨k+1,by omega,by go_num,by rw[E2.out];exact Aj ad ae,aa.trans (ae.mono ah)⟩
    case measure=>simp[cB];omega
   |some y=>
    have E2:Hid (Hq T (K.take (k+1))=Hq T (K.take k)++[y]):=by show _=_;rw[af.out,ab];rfl
    rw[ab]at HG;simp only[Aco,Option.getD_some,Option.isSome_some]at HG;clear ab af;go_wp2_with(first
     |(go_fit HG;rintro e w2 ⟨rfl,ae⟩;have ai:Below wr.heap.size wr (w2.alloc (H [D y].toArray 9)):=ae.alloc ae.size _;have ak:W1.heap.size≤(w2.alloc (H [D y].toArray 9)).heap.size:=O ah ai.size)
     |(at_builtin;go_must(refine bH _ rfl _ _ 54 rfl W1.heap.size 9 i0 (D ⟨#[]⟩) 1 16 bK al am an ap rfl (by decide) _ _ _ rfl (Aj ad ai) ⟨w2.heap.size,0,M⟩ 1 1 [.string y] rfl rfl (B8 w2 [.string y] 9) ?h1 (by simp only[aY];omega) (by omega) ak ?h2)))
    case h1=>simp only[bE];repeat(first|exact fun _ h=>absurd h bO|refine⟨rfl,?_⟩)
    case h2=>
     intro z2 w4 av aw _ _;have ax:Below W1.heap.size W1 w4:=(aa.trans (ai.mono ah)).grown aw ak fun k hk=>(ad.lt k hk).1
     go_wp2_with fail;go_roundw
     case rel=>exact⟨k+1,by omega,by go_num,by rw[E2.out,bI,cV];exact av,ax⟩
     case measure=>simp[cB];omega
  ·have ay:k=K.length:=by omega
   subst ay;have v1:¬(K.length<(K.length:Int)):=by omega
   rw[bN]at ad;go_wp2;go_ret;exact⟨_,rfl,Eu.of_own ad,ac.trans (aa.mono ac.size)⟩
def Vw (ix key:Wd):Wd:=⟨(dD key.data.toList (Hk ix).data.toList).toArray⟩
def Vx (t ix key:Wd):Option Wd:=
 if Lib.hasPrefix key.data.toList (Hk ix).data.toList=aM then
  match vals (Vw ix key).data.toList with
  |some L=>if L.length=2 then J (H7 t (L.getD 1 zero))else M
  |none=>M
 else M
def rk1 (t ix:Wd)(K:List Wd):List Wd:=K.filterMap (Vx t ix)
theorem Aym {t ix}{K:List Wd}{k}{x}(h:K[k]?=J x):rk1 t ix (K.take (k+1))=rk1 t ix (K.take k)++(Vx t ix x).toList:=by
 rw[cG,h];simp only[rk1,dV,eB];rfl
theorem Q3 (t ix)(K):(rk1 t ix K).length≤K.length:=dJ _ _
theorem Arw (ix key):(Vw ix key).size≤key.size:=by
 show(dD _ _).toArray.size≤key.data.size;rw[eK,dD];grind
theorem Auv {v}(h:good v=aM):v.s.size≤8:=by
 unfold good at h;grind
theorem Auw:Q0 []=[]:=by simp[Q0]
theorem Om (L:List Wd):(Q0 L).length=L.length:=by unfold Q0;simp
theorem Aux {w}{B g cap}{L:List ByteArray}(h:w.ownsRow B 9 1 (.slice (J ⟨g,0,M⟩) L.length cap) L.length (L.map .string)):Go.Sort.Holds dT w g 0 (L.map fun s=>s.data.toList).toArray:=
 Arv (fun j u hj=>by
  have aa:j<L.length*1:=by have:=(dC.1 hj).1;simpa using this
  rw[dU,h.cellAt j aa];omega) (fun j=>by rw[dU];exact h.frozenAt j)
theorem Aoj (s)(w)(hs:s.size*32≤140737488355328):
  aR aA 178 #[D s] w fun e w'=>∃ao n c m,e=aD (bF #[G ao n c,U aL m])∧Below w.heap.size w w':=by
 refine(N7 s w hs).mono ?_;rintro e w' ⟨h,hb⟩;unfold Hn at h;split at h
 ·obtain⟨lv,rfl,hl⟩:=h;obtain⟨ao,c,rfl⟩:=Eu.shape (Eu.of_own hl);grind
 grind
theorem A03 {w:aW}{B}{lv}{a b}(h:w.ownsRow B 59 3 lv 2 (Ax [a,b])):∃g c,lv=G (J ⟨g,0,M⟩) 2 c∧w.cell? ⟨g,3,M⟩=J (U aL b.k)∧w.cell? ⟨g,4,M⟩=J (U aL b.n)∧w.cell? ⟨g,5,M⟩=J (D b.s):=by
 rcases h.2 with⟨_,h0⟩|⟨g,cap,cur,rfl,_⟩
 ·omega
 ·exact⟨g,cap,rfl,h.cellAt 3 (by omega),h.cellAt 4 (by omega),h.cellAt 5 (by omega)⟩
theorem Aok (t ix:Wd)(kv:aZ)(K:List Wd)(w:aW)(hK:An w kv K)(hl:K.length≤1000000)(ht:t.size≤1000000)(aw:ix.size≤1000000)(aq:∀x∈K,x.size≤1000000):
  aR aA 177 #[D t,D ix,kv] w fun e w'=>∃tv,e=aD tv∧An w' tv (J5 (rk1 t ix K))∧Below w.heap.size w w':=by
 obtain⟨ko,kc,rfl⟩:=Eu.shape hK;obtain⟨i0,ax,ay,az,ba⟩:=dS Ke;have bb:Hid _:=hK;have bc:Hid _:=aq;clear hK aq;go_enter Tryz.func177,Tryz.ntmps177;go_wp2
 go_loopw[7,16] (fun zv i wr=>∃k:Nat,k≤K.length∧i=U aL k∧wr.ownsRow w.heap.size 9 1 zv (rk1 t ix (K.take k)).length ((rk1 t ix (K.take k)).map D)∧Below w.heap.size w wr) (fun _ i _=>K.length-(cB i).toNat)
 case atStart=>exact⟨0,cT _,rfl,eF _ _ _ _,aJ _ _⟩
 case round=>
  obtain⟨k,hk,rfl,ac,ae⟩:=hrel
  by_cases bd:k<K.length
  ·obtain⟨x,hx⟩:∃x,K[k]?=J x:=⟨_,aP bd⟩;obtain⟨b,bp,cap,be,hb,_,_,ar⟩:=An.at bb.out (by omega);cases be;have d0:=(ae.cell hb).trans (ar k x hx);have aa:Hid (rk1 t ix _=rk1 t ix _++(Vx t ix x).toList):=Aym hx;have bq:=bc.out x (bZ hx);have al:(Vw ix x).size*32≤140737488355328:=by have:=Arw ix x;omega
   have v0:(0:Int)≤k:=by omega
   have v1:k<(K.length:Int):=by omega
   have ai:=ae.size;have bf:=ac.lt;have am:(rk1 t ix (K.take k)).length≤1000000:=O (Q3 _ _ _) (by grind);have aj:=fun W=>Oy ix W aw
   have HC:∀W,aR _ 236 _ W fun e w'=>e=aD (bF #[D (Vw ix x),dK _])∧w'=W:=fun W=>Any.strings_CutPrefix Tryz.laysCut x _ W
   have HV:=fun W=>N7 _ W al
   have ak:=fun W=>Aoj _ W al
   have ah:Hid (∀L,vals (Vw ix x).data.toList=J L→∀v∈L,good v=aM):=fun L h=>(Atp _ _ L (aQ _) h).1
   unfold Hn at HV;unfold Vx at aa;clear hx ar al;generalize Hk ix=ib at aa aj HC;generalize Vw ix x=y at aa HC HV ak ah;cases hp:Lib.hasPrefix x.data.toList ib.data.toList with
   |false=>
    have E2:Hid (rk1 t ix (K.take (k+1))=rk1 t ix (K.take k)):=by show _=_;rw[aa.out,hp];simp
    rw[hp]at HC;clear hp aa HV ah;go_wp2_with(first
     |(go_fit(aj _);rintro e w1 ⟨rfl,af⟩;rw[af])
     |(go_fit(HC _);rintro e w2 ⟨rfl,ag⟩;rw[ag])
     |(go_fit(ak _);rintro e w3 ⟨vo,vn,vc,vm,rfl,ab⟩))
    go_roundw
    case rel=>exact⟨k+1,by omega,by rfl,by rw[E2.out];exact Aj ac ab,ae.trans (ab.mono ai)⟩
    case measure=>simp[cB];omega
   |true=>
    rw[hp]at HC;cases ad:vals y.data.toList with
    |none=>
     have E2:Hid (rk1 t ix (K.take (k+1))=rk1 t ix (K.take k)):=by show _=_;rw[aa.out,hp,ad];simp
     rw[ad]at HV;simp only at HV;clear hp aa ad ah ak;go_wp2_with(first
      |(go_fit(aj _);rintro e w1 ⟨rfl,af⟩;rw[af])
      |(go_fit(HC _);rintro e w2 ⟨rfl,ag⟩;rw[ag])
      |(go_fit(HV _);rintro e w3 ⟨rfl,ab⟩))
     go_roundw
     case rel=>exact⟨k+1,by omega,by rfl,by rw[E2.out];exact Aj ac ab,ae.trans (ab.mono ai)⟩
     case measure=>simp[cB];omega
    |some L=>
     rw[ad]at HV;simp only at HV
     by_cases hL:L.length=2
     ·match L,hL with
      |[v0',id],_=>
       have E2:Hid (rk1 t ix (K.take (k+1))=rk1 t ix (K.take k)++[H7 t id]):=by show _=_;rw[aa.out,hp,ad];simp
       have bg:=Auv (ah.out _ ad id (by simp));have HK:=fun W=>Qq t id W ht (by simp only[aY];omega)
       clear hp aa ad ah ak bg;generalize H7 t id=key at E2 HK;obtain⟨uk,un,us⟩:=id;simp only[V.val]at HK;simp only[cL,List.length_nil,dU,Nat.reduceAdd]at HV;go_wp2_with(first
        |(go_fit(aj _);rintro e w1 ⟨rfl,af⟩;rw[af])
        |(go_fit(HC _);rintro e w2 ⟨rfl,ag⟩;rw[ag])
        |(go_fit(HV _);rintro e w3 ⟨⟨lv,rfl,an⟩,ab⟩;obtain⟨g3,c3,rfl,e0,e1,e2⟩:=A03 an)
        |(go_fit(HK _);rintro e w4 ⟨rfl,au⟩;have ap:Below _ wr (w4.alloc (H [D key].toArray 9)):=(Ac ab au).alloc (Ac ab au).size _;have av:=O ai ap.size)
        |(at_builtin;go_must(refine bH _ rfl _ _ 54 rfl _ 9 i0 _ 1 16 bK ax ay az ba rfl (by simp) _ _ _ rfl (Aj ac ap) _ 1 1 _ rfl rfl (B8 w4 [.string key] 9) ?h1 (by simp only[aY];omega) (by omega) av ?h2)))
       case h1=>simp only[bE];repeat(first|exact fun _ h=>absurd h bO|refine⟨rfl,?_⟩)
       case h2=>
        intro z2 w5 bh bi _ _;go_wp2_with fail;go_roundw
        case rel=>exact⟨k+1,by omega,by rfl,by rw[E2.out,bI,cV];exact bh,(ae.trans (ap.mono ai)).grown bi av fun k hk=>(bf k hk).1⟩
        case measure=>simp[cB];omega
     ·have E2:Hid (rk1 t ix (K.take (k+1))=rk1 t ix (K.take k)):=by show _=_;rw[aa.out,hp,ad];simp[hL]
      have l1:¬((L.length:Int)=2):=by omega
      clear hp aa ad ah ak hL;go_wp2_with(first
       |(go_fit(aj _);rintro e w1 ⟨rfl,af⟩;rw[af])
       |(go_fit(HC _);rintro e w2 ⟨rfl,ag⟩;rw[ag])
       |(go_fit(HV _);rintro e w3 ⟨⟨lv,rfl,an⟩,ab⟩;obtain⟨bt,bu,rfl⟩:=Eu.shape (Eu.of_own an)))
      go_roundw
      case rel=>exact⟨k+1,by omega,by rfl,by rw[E2.out];exact Aj ac ab,ae.trans (ab.mono ai)⟩
      case measure=>simp[cB];omega
  ·have bj:k=K.length:=by omega
   subst bj;have v1:¬(K.length<(K.length:Int)):=by omega
   rw[bN]at ac;have am:(rk1 t ix K).length≤1000000:=O (Q3 _ _ _) hl;generalize hR:rk1 t ix K=R at ac am;have HR:Hid _:=hR;clear hR;rcases ac.2 with⟨rfl,h0⟩|⟨g,cap,cur,rfl,hg,hh,hn,hm,_⟩
   ·obtain rfl:=List.eq_nil_of_length_eq_zero h0;have HS:=fun W=>Any.slices_Sort_string_none Tryz.laysSort M 0 W
    have HD:=fun W=>Any.slices_Compact_string_empty Tryz.laysCompact M 0 W
    go_wp2_with(first
     |(refine(HS _).mono ?_;rintro e w5 ⟨rfl,bk⟩;rw[bk])
     |(refine(HD _).mono ?_;rintro e w6 ⟨rfl,bl⟩;rw[bl]))
    go_ret;refine⟨_,rfl,?_,ae⟩;rw[HR.out,J5,Auw];exact Eu.nil _ _
   ·have HS:=Ayl R g cap _ wr (Aux ac) (aC hh) hg am;have HD:=fun W h1 h2=>Aog _ g cap _ W h1 h2 hg (by rw[Om];omega) (by rw[Om];omega) hm
    simp only[Om]at HD;go_wp2_with(first
     |(refine HS.mono ?_;rintro e w5 ⟨rfl,h5,g5,bm⟩)
     |(refine(HD _ h5 g5).mono ?_;rintro e w6 ⟨vz,rfl,bn,bo⟩))
    go_ret;exact⟨_,rfl,by rw[HR.out];exact bn,ae.trans (bm.trans bo)⟩
def Ajp (n:Nat)(T:List Pg)(t ix lo hi:Wd):List (List V):=Cx n (Hq T (J5 (rk1 t ix ((rng T lo hi).map bM))))
theorem Yo (L:List Wd):(J5 L).length≤L.length:=by
 unfold J5;rw[bG];refine O ?_ (Nat.le_of_eq (Om L));unfold aI cW;grind
theorem Af2 {T}{lo hi:Wd}{x:Wd×Wd}(h:x∈rng T lo hi):x∈flat T:=(aG.1 h).1
theorem Vy {F:List (Wd×Wd)}{k y:Wd}(h:Hy F k=J y):(k,y)∈F:=by
 unfold Hy at h;cases hf:F.find? fun x=>decide (x.1=k)with
 |none=>grind
 |some p=>
  grind
theorem Aol (aa ix:Wd)(T)(pv)(so)(n sc:Nat)(lo hi:Wd)(w:aW)(hp:Bi w pv T)(hg:As T)(hT:T.length≤100000)(bc:ix≠⟨#[]⟩)(bq:ix.size≤1000000)(bt:aa.size≤1000000)(hx:∀x∈flat T,x.1.size≤1000000∧x.2.size≤1000000):
  aR aA 106 #[pv,N #[D aa,G so n sc],J0 ix lo hi] w fun e w'=>Nd w w' e (Ajp n T aa ix lo hi):=by
 obtain⟨cm,rfl,am⟩:=hp;obtain⟨po,pc,rfl⟩:=Ct am;obtain⟨i0,bu,bv,bw,bx⟩:=dS Py;obtain⟨an,-,-,bW,-⟩:=al3 w (H #[G po T.length pc] 44) (H #[D aa,G so n sc] 74) (H #[D ix,D lo,D hi] 159);have bT:=Ad (Ca w (H #[G po T.length pc] 44) (H #[D aa,G so n sc] 74)) (H #[D ix,D lo,D hi] 159);have HR:=Agt aM T ⟨fun _=>hg,fun _=>rfl⟩ (N #[G po T.length pc]) lo hi _ ⟨_,rfl,am.below an⟩ (by omega);rw[show U6 aM T lo hi=rng T lo hi from rfl]at HR;have bd:(rng T lo hi).length≤400000:=by
  have h1:=Aac aM T ⟨fun _=>hg,fun _=>rfl⟩ (lo:=lo) (hi:=hi);rw[show U6 aM T lo hi=rng T lo hi from rfl]at h1;omega
 have ax:((rng T lo hi).map bM).length≤1000000:=by rw[bG];omega
 have be:Hid (∀x∈(rng T lo hi).map bM,x.size≤1000000):=fun x hh=>by obtain⟨y,hy,rfl⟩:=aN.1 hh;exact(hx y (Af2 hy)).1
 have ay:(Hq T (J5 (rk1 aa ix ((rng T lo hi).map bM)))).length≤400000:=O (Aaw _ _) (O (Yo _) (O (Q3 _ _ _) (by rw[bG];exact bd)));have ap:(J5 (rk1 aa ix ((rng T lo hi).map bM))).length≤1000000:=O (Yo _) (O (Q3 _ _ _) ax);have HX:Hid (∀x∈Hq T (J5 (rk1 aa ix ((rng T lo hi).map bM))),x.size≤1000000):=fun x hh=>by
  obtain⟨y,hy,h2⟩:=List.mem_filterMap.1 hh;exact(hx _ (Vy h2)).2
 clear hx bd;unfold Mz at HR;have ER:Hid (Ajp n T aa ix lo hi=Cx n (Hq T (J5 (rk1 aa ix ((rng T lo hi).map bM))))):=rfl;rw[ER.out];clear ER;generalize(rng T lo hi).map bM=Y at HR ay HX ax be ap⊢;generalize(rng T lo hi).map Prod.snd=X0 at HR;have HB:=fun kv W h1 h2=>Ad5 T (N #[G po T.length pc]) kv (J5 (rk1 aa ix Y)) W h1 hg hT h2 ap
 have bf:=fun kv W h1=>Aok aa ix kv Y W h1 ax bt bq be.out
 have bz:Hid (A8 w (G po T.length pc) T):=am;generalize J5 (rk1 aa ix Y)=Z at HB bf ay HX ap⊢;generalize ca:Hq T Z=X at HB ay HX⊢;clear ca ap;generalize hW:((w.alloc (H #[G po T.length pc] 44)).alloc (H #[D aa,G so n sc] 74)).alloc (H #[D ix,D lo,D hi] 159)=W3 at an HR bT bW;have bP:W3.heap[w.heap.size]?=J (H #[G po T.length pc] 44):=by rw[←hW];exact Ad (Ad (Ab w _) _) _
 have HW:Hid _:=hW;clear hW;have c0:=Aa bP (j:=0) rfl;have c1:=Aa bW (j:=0) rfl;have c2:=Aa bW (j:=1) rfl;have c3:=Aa bW (j:=2) rfl;have cn:(ByteArray.toList ix).isEmpty=aO:=by
  rw[Ky];refine decide_eq_false fun h=>bc ?_
  cases ix with|mk d=>exact congrArg ByteArray.mk (Array.eq_empty_of_size_eq_zero h)
 clear bc;unfold J0;go_enter Tryz.func106,Tryz.ntmps106;go_upto_region 1 with fail;rw[HW.out];go_wp2_with(go_fit HR;rintro e w0 ⟨kv,vv,rfl,bg,bh,ag⟩;obtain⟨co,cp,rfl⟩:=Eu.shape bh;obtain⟨cq,cr,rfl⟩:=Eu.shape bg;have ct:=Aa ((ag.block _ (aC bW)).trans bW) (j:=0) rfl);have aq:Below w.heap.size w w0:=an.trans (ag.mono an.size);have ar:=(ag.block _ (aC bT)).trans bT;have bi:=(ag.block _ (aC bP)).trans bP;have bj:=(ag.block _ (aC bW)).trans bW;have KS:Hid (∀W,Below w0.heap.size w0 W→W.cell? ⟨w.heap.size,0,M⟩=J (G po T.length pc)∧W.cell? ⟨w.heap.size+1,0,M⟩=J (D aa)∧W.cell? ⟨w.heap.size+2,0,M⟩=J (D ix)):=fun W hb=>
  ⟨Aa ((hb.block _ (aC bi)).trans bi) (j:=0) rfl,Aa ((hb.block _ (aC ar)).trans ar) (j:=0) rfl,Aa ((hb.block _ (aC bj)).trans bj) (j:=0) rfl⟩
 clear bh HR am
 go_region_held3(fun W=>W.cell? ⟨w.heap.size,0,M⟩=J (G po T.length pc)∧W.cell? ⟨w.heap.size+1,0,M⟩=J (D aa)∧W.cell? ⟨w.heap.size+2,0,M⟩=J (D ix))
  (with_reducible first|exact s2|exact s1|exact KS.out w0.drew (aJ _ _).drew)
  (first
   |(go_fit(bf _ _ (Eu.below bg (aJ _ _).drew));rintro e wk ⟨zv,rfl,cb,cc⟩;have az:Below w0.heap.size w0 wk:=Ac (aJ _ _).drew cc;have s1:=KS.out wk az)
   |(go_fit(HB _ _ ⟨_,rfl,A8.below bz.out (aq.trans (az.mono aq.size))⟩ cb);rintro e w1 ⟨cu,rfl,bk,cd⟩;obtain⟨vo,vc,rfl⟩:=Eu.shape bk;have ba:Below w0.heap.size w0 w1:=Ac az cd;have s2:=KS.out w1 ba))
 go_wp2;have bl:=(ba.block _ (aC ar)).trans ar;have bb:Below w.heap.size w w1:=aq.trans (ba.mono aq.size)
 go_loopw[9,36] (fun zv i wr=>∃k:Nat,k≤X.length∧i=U aL k∧Dq w1.heap.size zv (Cx n (X.take k)) wr∧Below w1.heap.size w1 wr) (fun _ i _=>X.length-(cB i).toNat)
 case atStart=>exact⟨0,cT _,rfl,Cd _ _,aJ _ _⟩
 case round=>
  obtain⟨k,hk,rfl,⟨cs,ae,ah⟩,ad⟩:=hrel
  by_cases ce:k<X.length
  ·obtain⟨x,hx⟩:∃x,X[k]?=J x:=⟨_,aP ce⟩;obtain⟨b,cv,cap,cf,hb,_,_,bm⟩:=bk.at (by omega);cases cf;have d0:=(ad.cell hb).trans (bm k x hx);have HV:=fun W=>N7 x W (by have:=HX.out x (bZ hx);omega)
   have au:Hid (Cx n _=Cx n _++(Il n x).toList):=Aai hx;have v0:(0:Int)≤k:=by omega
   have v1:k<(X.length:Int):=by omega
   have ai:=ad.size;have bn:=ae.lt;have ac:=(ad.block _ (aC bl)).trans bl;have cx:(Cx n (X.take k)).length≤400000:=O (Xa _ _) (by grind);clear hx bm;unfold Hn at HV;cases aj:vals x.data.toList with
   |none=>
    have E2:Hid (Cx n (X.take (k+1))=Cx n (X.take k)):=by show _=_;rw[au.out,Il,aj];simp
    rw[aj]at HV;simp only at HV;go_wp2_with(go_fit(HV _);rintro e w2 ⟨rfl,ab⟩);go_roundw
    case rel=>exact⟨k+1,by omega,by rfl,by rw[E2.out];exact Dq.below ⟨cs,ae,ah⟩ ab,ad.trans (ab.mono ai)⟩
    case measure=>simp[cB];omega
   |some L=>
    rw[aj]at HV;simp only at HV;have HF:=fun ao c W=>Oa aa so n sc ao L.length c W
    by_cases hf:0<L.length∧L.length=n
    ·have E2:Hid (Cx n (X.take (k+1))=Cx n (X.take k)++[L]):=by show _=_;rw[au.out,Il,aj];simp only;rw[if_pos hf];rfl
     rw[show(decide _&&decide _)=aM by grind]at HF;clear hf au;go_wp2_with(first
      |(go_fit(HV _);rintro e w2 ⟨⟨lv,rfl,av⟩,ab⟩;obtain⟨ak,al,rfl⟩:=Eu.shape (Eu.of_own av);have t2:=Aa ((ab.block _ (aC ac)).trans ac) (j:=0) rfl;have t3:=Aa ((ab.block _ (aC ac)).trans ac) (j:=1) rfl)
      |(go_fit(HF _ _ _);rintro e w3 ⟨rfl,af⟩;have aw:Below _ wr (w3.alloc (H [G ak L.length al].toArray 57)):=(Ac ab af).alloc (Ac ab af).size _;have bo:=O ai aw.size)
      |(at_builtin;go_must(refine bH _ rfl _ _ 30 rfl _ 57 i0 _ 1 24 Tryz.underlying30 bu bv bw bx rfl (by simp) _ _ _ rfl (Aj ae aw) _ 1 1 _ rfl rfl (B8 w3 [.slice ak L.length al] 57) ?h1 (by simp only[aY];omega) (by omega) bo ?h2)))
     case h1=>simp only[bE];repeat(first|exact fun _ h=>absurd h bO|refine⟨rfl,?_⟩)
     case h2=>
      intro z2 w4 cg bp _ ch;have cj:z2.ownBlock=u9.ownBlock∨z2.ownBlock=J (w3.alloc (H [G ak L.length al].toArray 57)).heap.size:=by rw[World.size_alloc];exact ch
      have ck:IsL Lw (FO _ u9) (w3.alloc (H [G ak L.length al].toArray 57)) _ L:=
       (Nc av fun k hk=>⟨O ai hk,fun e=>by have:=(bn k e.symm).2;omega⟩).keep (Ak ((Ac af (Aq _ _))))
      have cy:=L7 cg (ah.keep (Ak aw)) ck bp cj;go_wp2_with fail;go_roundw
      case rel=>exact⟨k+1,by omega,by rfl,by rw[E2.out];omega,(ad.trans (aw.mono ai)).grown bp bo fun k hk=>(bn k hk).1⟩
      case measure=>simp[cB];omega
    ·have E2:Hid (Cx n (X.take (k+1))=Cx n (X.take k)):=by show _=_;rw[au.out,Il,aj];simp only;rw[if_neg hf];simp
     rw[show(decide _&&decide _)=aO by grind]at HF;go_wp2_with(first|(go_fit(HV _);rintro e w2 ⟨⟨lv,rfl,av⟩,ab⟩;obtain⟨ak,al,rfl⟩:=Eu.shape (Eu.of_own av);have t2:=Aa ((ab.block _ (aC ac)).trans ac) (j:=0) rfl;have t3:=Aa ((ab.block _ (aC ac)).trans ac) (j:=1) rfl)|(go_fit(HF _ _ _);rintro e w3 ⟨rfl,af⟩));go_roundw
     case rel=>exact⟨k+1,by omega,by rfl,by rw[E2.out];exact Dq.below (Dq.below ⟨cs,ae,ah⟩ ab) af,(ad.trans (ab.mono ai)).trans (af.mono (by have:=ab.size;omega))⟩
     case measure=>simp[cB];omega
  ·have cl:k=X.length:=by omega
   subst cl;have v1:¬(X.length<(X.length:Int)):=by omega
   rw[bN]at ae ah;go_wp2;go_ret;exact⟨_,rfl,Dq.base ⟨cs,ae,ah⟩ bb.size,bb.trans (ad.mono bb.size)⟩
structure Sp where
 lo:Wd
 hi:Wd
def Sp.val (s:Sp):aZ:=N #[D s.lo,D s.hi]
def ffW:Wd:=⟨#[255]⟩
def Ld (s:Wd):Sp:=⟨s,s++ffW⟩
def kb (v:V):Wd:=str (Bb [v]).1
def skS (v:V):Sp:=Ld ((kb v).extract 0 1)
def Vz (v:V)(yes:Bool):Sp:=if yes then Ld (kb v)else skS v
def Uw (v:V)(yes:Bool):Sp:=if yes then⟨(skS v).lo,kb v⟩else⟨kb v,(skS v).hi⟩
def Rn (v:V)(yes:Bool):Sp:=if yes then⟨kb v++ffW,(skS v).hi⟩else⟨(skS v).lo,kb v++ffW⟩
def Sp.empty (s:Sp):Bool:=!klt s.lo s.hi
def Ly (a b:Wd):Wd:=if klt a b then b else a
def Lz (a b:Wd):Wd:=if klt b a then b else a
def Sp.both (s o:Sp):Sp:=⟨Ly s.lo o.lo,Lz s.hi o.hi⟩
def Sp.either (s o:Sp):Sp:=if s.empty then o else if o.empty then s else⟨Lz s.lo o.lo,Ly s.hi o.hi⟩
def noS:Sp:=⟨noW,noW⟩
theorem Ga {fn}{p:Tmp}{w0 w}{g}{a}{c0 c1}{t ty}{fs}(x y)(hr:fn.results=#[.cell p ty])(hp:a.tmps.getD p undef=cO (J ⟨g,0,M⟩))(hd:a.defers=[])
  (hg:w.heap[g]?=J (H #[c0,c1] t)) (hb:Below w0.heap.size w0 w) (aa:w0.heap.size≤g)
  (hu:Tryz.prog.underlying ty=J (.struct fs)) (hi:(Tryz.prog.info? ty).map (·.size)=J 2):
  bodyPost aA fn (fun e w'=>e=aD (N #[x,y])∧Below w0.heap.size w0 w') .ret a ((w.setCell ⟨g,0,M⟩ x).setCell ⟨g,1,M⟩ y):=
 bC (results_cell_row hr a.tmps _ g t #[x,y] (0,0) _ hp (by rw[upd (upd hg 0 x) 1 y];rfl) hu rfl hi) hd ⟨rfl,(hb.setCell aa _).setCell aa _⟩
theorem A5 {w w'}{g}{t}{c0 c1}(hg:w.heap[g]?=J (H #[c0,c1] t))(hb:Below w.heap.size w w'):w'.heap[g]?=J (H #[c0,c1] t)∧w'.cell? ⟨g,0,M⟩=J c0∧w'.cell? ⟨g,1,M⟩=J c1∧w'.frozen? ⟨g,0,M⟩=aO∧w'.frozen? ⟨g,1,M⟩=aO:=by
 have h:=(hb.block g (aC hg)).trans hg;exact⟨h,Aa h rfl,Aa h rfl,by simp[dB,h],by simp[dB,h]⟩
theorem Alo {v}(h:good v=aM):1≤(kb v).size∧(kb v).size≤10:=by
 unfold kb;rw[Jx,(Rf h)];refine⟨?_,Ajr v h⟩;unfold keyOf;grind
theorem Ad6 (v):(kb v).size≤10:=Kg [v]
theorem Q4 (v)(vb)(w)(hs:v.s.size≤aY)(hv:w.heap[vb]?=J (H #[U aL v.k,U aL v.n,D v.s] 59)):
  aR aA 111 #[G (J ⟨vb,0,M⟩) 1 1] w fun e w'=>e=aD (D (kb v))∧Below w.heap.size w w':=
 Qp [v] (G (J ⟨vb,0,M⟩) 1 1) w (.inr ⟨_,_,_,rfl,aC hv,fun i x hi=>by
  match i,hi with
  |0,hi=>simp at hi;subst hi;exact⟨Aa hv rfl,Aa hv rfl,Aa hv rfl⟩⟩) (by simp) (by grind)
theorem Tc {W:aW}{g n}(hn:n≠g)(a b)(o):((W.setCell ⟨g,0,M⟩ a).setCell ⟨g,1,M⟩ b).cell? ⟨n,o,M⟩=W.cell? ⟨n,o,M⟩:=by
 rw[cX _ _ _ _ (by simp),cX _ _ _ _ (by simp)]
theorem Ahj {W:aW}{g n}{c0 c1 c2}(h:W.cell? ⟨n,0,M⟩=J c0∧W.cell? ⟨n,1,M⟩=J c1∧W.cell? ⟨n,2,M⟩=J c2)(hn:n≠g)(a b):
  ((W.setCell ⟨g,0,M⟩ a).setCell ⟨g,1,M⟩ b).cell? ⟨n,0,M⟩=J c0∧((W.setCell ⟨g,0,M⟩ a).setCell ⟨g,1,M⟩ b).cell? ⟨n,1,M⟩=J c1∧((W.setCell ⟨g,0,M⟩ a).setCell ⟨g,1,M⟩ b).cell? ⟨n,2,M⟩=J c2:=
 ⟨(Tc hn a b 0).trans h.1,(Tc hn a b 1).trans h.2.1,(Tc hn a b 2).trans h.2.2⟩
theorem A4b (a b:Wd)(W):(Instr.field 230 (N #[D a,D b]) 0).run aA W=.ok (D a) W:=by kernel_rfl
theorem A23 (a b:Wd)(W):(Instr.field 230 (N #[D a,D b]) 1).run aA W=.ok (D b) W:=by kernel_rfl
theorem Yp (v:V)(w:aW)(hg:good v=aM)(hs:v.s.size≤aY):aR aA 354 #[v.val] w fun e w'=>e=aD (skS v).val∧Below w.heap.size w w':=by
 have hz:=Alo hg;have HK:=fun(W:aW) (vb:Nat) h=>Q4 v vb W hs h
 obtain⟨vk,vn,vs⟩:=v;simp only at HK;have E:Hid ((skS ⟨vk,vn,vs⟩).val=N #[D ((kb ⟨vk,vn,vs⟩).extract 0 1),D ((kb ⟨vk,vn,vs⟩).extract 0 1++ffW)]):=rfl;rw[E.out];generalize kb ⟨vk,vn,vs⟩=k at HK hz;have hp:(k.extract 0 1).size≤1000000:=by simp[ByteArray.size_extract];omega
 have HB:=fun W=>Js (k.extract 0 1) W hp
 have z1:(1:Int)≤(k.size:Int):=by omega
 clear hs hg E hp;simp only[V.val];generalize hq:k.extract 0 1=q at HB;unfold ffW;go_enter Tryz.func354,Tryz.ntmps354;go_wp2_with(first
  |(go_fit(HK _ _ (Fe _ _ _ _));rintro e w1 ⟨rfl,aa⟩)
  |(go_fit(HB _);rintro e w2 ⟨rfl,ab⟩;obtain⟨r0,r1,r2,r3,r4⟩:=A5 (Ca w (H #[U aL vk,U aL vn,D vs] 59) (H #[D noW,D noW] 230)) (Ac (Aq _ _) (Ac aa ab))))
 exact Ga _ _ Tryz.results354 rfl rfl r0 (Ac (Hx w _ _ _) (Ac aa ab)) (by omega) aH (by kernel_rfl)
theorem Alp (v:V)(yes:Bool)(w:aW)(hg:good v=aM)(hs:v.s.size≤aY):aR aA 314 #[v.val,dK yes] w fun e w'=>e=aD (Vz v yes).val∧Below w.heap.size w w':=by
 have hz:=Alo hg;have HK:=fun(W:aW) (vb:Nat) h=>Q4 v vb W hs h
 have HS:=fun W=>Yp v W hg hs
 have HB:=fun W=>Js (kb v) W (by omega)
 have E:Hid ((Vz v aM).val=N #[D (kb v),D (kb v++ffW)]∧(Vz v aO).val=N #[D (skS v).lo,D (skS v).hi]):=⟨rfl,rfl⟩;obtain⟨vk,vn,vs⟩:=v;simp only at HK;simp only[V.val]at HS⊢;have ES:Hid ((skS ⟨vk,vn,vs⟩).val=N #[D (skS ⟨vk,vn,vs⟩).lo,D (skS ⟨vk,vn,vs⟩).hi]):=rfl;rw[ES.out]at HS;clear hs hg hz ES;unfold ffW at E;obtain⟨ac,-,blk,-⟩:=al2 w (H #[U aL vk,U aL vn,D vs] 59) (H #[D noW,D noW] 230);generalize(skS ⟨vk,vn,vs⟩).lo=slo at HS E;generalize(skS ⟨vk,vn,vs⟩).hi=shi at HS E;generalize kb ⟨vk,vn,vs⟩=k at HK HB E;cases yes
 ·rw[E.out.2];go_enter Tryz.func314,Tryz.ntmps314;go_wp2_with(go_fit(HS _);rintro e w1 ⟨rfl,aa⟩;obtain⟨r0,r1,r2,r3,r4⟩:=A5 blk aa);exact Ga _ _ eU rfl rfl r0 (Ac ac aa) (by omega) aH (by kernel_rfl)
 ·rw[E.out.1];go_enter Tryz.func314,Tryz.ntmps314;go_wp2_with(first
   |(go_fit(HK _ _ (Fe _ _ _ _));rintro e w1 ⟨rfl,aa⟩)
   |(go_fit(HB _);rintro e w2 ⟨rfl,ab⟩;obtain⟨r0,r1,r2,r3,r4⟩:=A5 blk (Ac (Aq _ _) (Ac aa ab))))
  exact Ga _ _ eU rfl rfl r0 (Ac (Hx w _ _ _) (Ac aa ab)) (by omega) aH (by rfl)
theorem Auy (v)(yes)(w)(hg:good v=aM)(hs:v.s.size≤aY):(aR aA 315 #[v.val,dK yes] w fun e w'=>e=aD (Uw v yes).val∧Below w.heap.size w w')∧aR aA 316 #[v.val,dK yes] w fun e w'=>e=aD (Rn v yes).val∧Below w.heap.size w w':=by
 have hz:=Alo hg;have HK:=fun W vb h=>Q4 v vb W hs h
 have HS:=fun W=>Yp v W hg hs
 have HB:=fun W=>Js (kb v) W (by omega)
 have E:Hid (((Uw v aM).val=N #[D (skS v).lo,D (kb v)]∧(Uw v aO).val=N #[D (kb v),D (skS v).hi])∧(Rn v aM).val=N #[D (kb v++ffW),D (skS v).hi]∧(Rn v aO).val=N #[D (skS v).lo,D (kb v++ffW)]):=⟨⟨rfl,rfl⟩,rfl,rfl⟩;obtain⟨vk,vn,vs⟩:=v;simp only at HK;simp only[V.val]at HS⊢;have ES:Hid ((skS _).val=N #[D _,D (skS ⟨vk,vn,vs⟩).hi]):=rfl;rw[ES.out]at HS;clear hs hg hz ES;unfold ffW at E;obtain⟨aa,ab,blk,-⟩:=al2 w (H #[U aL vk,U aL vn,D vs] 59) (H #[D noW,D noW] 230);generalize(skS _).lo=slo at HS E;generalize(skS _).hi=shi at HS E;generalize kb _=k at HK HB E;generalize hW:(w.alloc _).alloc _=V at blk ab aa;have HW:Hid _:=hW;clear hW;have KS:Hid (∀W,Below _ V W→W.cell? ⟨_,0,M⟩=J (U _ vk)∧W.cell? ⟨_,1,M⟩=J (U _ vn)∧W.cell? ⟨_,2,M⟩=J (D vs)):=fun W hW=>by
  have b:=(hW.block _ (aC ab)).trans ab;exact⟨Aa b rfl,Aa b rfl,Aa b rfl⟩
 have z0:Below V.heap.size V _:=(aJ _ V).drew;have zA:Below V.heap.size V (V.drew.alloc (H #[U aL vk,U aL vn,D vs] 59)):=z0.alloc (aQ _) _;have zD:Below V.heap.size V (V.alloc (H #[U aL vk,U aL vn,D vs] 59)).drew:=((aJ _ V).alloc (aQ _) _).drew;have ac:w.heap.size≠w.heap.size+1:=by omega
 have F0:=A4b;have F1:=A23;constructor<;>cases yes
 focus
  rw[E.out.1.2];go_enter Tryz.func315,Tryz.ntmps315;go_upto_region 3 with fail
 rotate_left
 focus
  rw[E.out.1.1];go_enter Tryz.func315,Tryz.ntmps315;go_upto_region 2 with fail
 rotate_left
 focus
  rw[E.out.2.2];go_enter Tryz.func316,Tryz.ntmps316;go_upto_region 3 with fail
 rotate_left
 focus
  rw[E.out.2.1];go_enter Tryz.func316,Tryz.ntmps316;go_upto_region 2 with fail
 all_goals
  rw[HW.out]
  go_region_held3(fun W=>W.cell? ⟨w.heap.size,0,M⟩=J (U aL vk)∧W.cell? ⟨w.heap.size,1,M⟩=J (U aL vn)∧W.cell? ⟨w.heap.size,2,M⟩=J (D vs))
   (with_reducible first|exact(KS.out _ z0)|exact yA|exact(KS.out _ zD)|exact yS|exact ae|exact yK|exact yB|exact Ahj yS ac _ _|exact Ahj yB ac _ _)
   (first
    |(go_at_call 354;refine(HS _).mono ?_;rintro e wS ⟨rfl,ad⟩;have zS:Below V.heap.size V wS:=Ac (by with_reducible first|exact z0|exact zA|exact zD|exact zK|exact zB) ad;have zL:Below V.heap.size V wS:=zS;obtain⟨r0,r1,r2,r3,r4⟩:=A5 blk zS;have yS:=KS.out _ zS;have ae:=KS.out _ (zS.alloc zS.size (H #[U aL vk,U aL vn,D vs] 59)))
    |(go_at_call 111;refine(HK _ _ (by first|exact Ab _ _|exact(ad.block _ (aC (Ab V (H #[U aL vk,U aL vn,D vs] 59)))).trans (Ab V (H #[U aL vk,U aL vn,D vs] 59)))).mono ?_;rintro e wK ⟨rfl,af⟩;have zK:Below V.heap.size V wK:=Ac (by with_reducible first|exact zA|exact zD|exact zS|exact zS.alloc zS.size _) af;have yK:=KS.out _ zK)
    |(go_at_call 179;refine(HB _).mono ?_;rintro e wB ⟨rfl,ag⟩;have zB:Below V.heap.size V wB:=Ac (by with_reducible first|exact zK|exact zS) ag;have zL:Below V.heap.size V wB:=zB;obtain⟨r0,r1,r2,r3,r4⟩:=A5 blk zB;have yB:=KS.out _ zB))
  all_goals
   go_wp2
   first
    |exact Ga _ _ Tryz.results315 rfl rfl r0 (Ac aa zL) (by omega) aH (by rfl)
    |exact Ga _ _ Tryz.results316 rfl rfl r0 (Ac aa zL) (by omega) aH (by rfl)
theorem Ap3 (a b:Wd)(ats)(ty)(w):(eX ats ty #[D a,D b]).run aA w=.ok (D (Ly a b)) w:=by
 simp only[eX,Builtin.max2,List.foldlM,Op.stringOp,Ly,klt]
 by_cases h:bR a.toList b.toList=aM
 ·simp[asBool,h]
 ·simp[asBool,h]
theorem Ap4 (a b:Wd)(ats)(ty)(w):(eW ats ty #[D a,D b]).run aA w=.ok (D (Lz a b)) w:=by
 simp only[eW,Builtin.min2,List.foldlM,Op.stringOp];have aa:(bR a.toList b.toList||a.toList==b.toList)= !klt b a:=by
  cases h:klt b a with
  |true=>
   have h1:bR _ _=aO:=Kv h;have h2:(a.toList==b.toList)=aO:=by
    rw[Jj];exact decide_eq_false fun e=>Fz h e.symm
   grind
  |false=>
   rcases Jh h with e|e
   ·grind
   ·have:bR _ _=aM:=e;grind
 rw[aa];unfold Lz
 by_cases h:klt b a=aM
 ·simp[asBool,h]
 ·simp[asBool,h]
theorem Ts (s:Sp)(w):aR aA 255 #[s.val] w fun e w'=>e=aD (dK s.empty)∧Below w.heap.size w w':=by
 obtain⟨lo,hi⟩:=s;have E:Hid ((Sp.mk lo hi).empty= !bR lo.toList hi.toList):=rfl;generalize(Sp.mk lo hi).empty=r at E;simp only[Sp.val];go_enter Tryz.func255,Tryz.ntmps255;go_wp2;go_ret;exact⟨Ah (by rw[E.out]),Aq _ _⟩
theorem Arx (s o:Sp)(w):aR aA 251 #[s.val,o.val] w fun e w'=>e=aD (s.both o).val∧Below w.heap.size w w':=by
 obtain⟨lo,hi⟩:=s;obtain⟨aa,ab⟩:=o;have E:Hid (((Sp.mk lo hi).both (Sp.mk aa ab)).val=N #[D (Ly lo aa),D (Lz hi ab)]):=rfl;rw[E.out];simp only[Sp.val];have h1:=fun ac ty w=>Ap3 lo aa ac ty w
 have h2:=fun ac ty w=>Ap4 hi ab ac ty w
 generalize Ly lo aa=a at h1;generalize Lz hi ab=b at h2;go_enter Tryz.func251,Tryz.ntmps251;go_wp2;exact bC (results_cell_row Tryz.results251 _ _ _ 230 _ _ _ rfl (Fe w _ _ _) aH rfl (by kernel_rfl)) rfl ⟨rfl,Hx w _ _ _⟩
theorem Alq (s o:Sp)(w):aR aA 252 #[s.val,o.val] w fun e w'=>e=aD (s.either o).val∧Below w.heap.size w w':=by
 have H1:=fun W=>Ts s W
 have H2:=fun W=>Ts o W
 have E:Hid ((s.either o).val=if s.empty then o.val else if o.empty then s.val else N #[D (Lz s.lo o.lo),D (Ly s.hi o.hi)]):=by
  show _=_;unfold Sp.either;split
  ·rfl
  ·split<;>rfl
 rw[E.out];clear E;generalize s.empty=e1 at H1;generalize o.empty=e2 at H2;obtain⟨lo,hi⟩:=s;obtain⟨ac,ad⟩:=o;simp only[Sp.val]at H1 H2⊢;have h1:=fun ae ty w=>Ap4 lo ac ae ty w
 have h2:=fun ae ty w=>Ap3 hi ad ae ty w
 generalize Lz lo ac=a at h1;generalize Ly hi ad=b at h2;obtain⟨af,-,-,blk,-⟩:=al3 w (H #[D lo,D hi] 230) (H #[D ac,D ad] 230) (H #[D noW,D noW] 230);have ah:=Ad (Ad (Ab w (H #[D lo,D hi] 230)) (H #[D ac,D ad] 230)) (H #[D noW,D noW] 230);have ag:=Ad (Ca w (H #[D lo,D hi] 230) (H #[D ac,D ad] 230)) (H #[D noW,D noW] 230);cases e1
 ·cases e2
  ·simp only[cD,if_false];go_enter dQ,dG;go_wp2_with(first
    |(go_at_call_of 255 (dE #[D lo,D hi]);go_must(go_fit(H1 _);rintro e w1 ⟨rfl,aa⟩;obtain⟨p0,p1,p2,p3,p4⟩:=A5 ah aa;obtain⟨q0,q1,q2,q3,q4⟩:=A5 ag aa;obtain⟨r0,r1,r2,r3,r4⟩:=A5 blk aa))
    |(go_at_call_of 255 (dE #[D ac,D ad]);go_must(go_fit(H2 _);rintro e w2 ⟨rfl,ab⟩;obtain⟨p0,p1,p2,p3,p4⟩:=A5 p0 ab;obtain⟨q0,q1,q2,q3,q4⟩:=A5 q0 ab;obtain⟨r0,r1,r2,r3,r4⟩:=A5 r0 ab)))
   exact Ga _ _ cS rfl rfl r0 (Ac af (Ac aa ab)) (by omega) aH (by rfl)
  ·simp only[cD,if_false,if_true];go_enter dQ,dG;go_wp2_with(first
    |(go_at_call_of 255 (dE #[D lo,D hi]);go_must(go_fit(H1 _);rintro e w1 ⟨rfl,aa⟩;obtain⟨p0,p1,p2,p3,p4⟩:=A5 ah aa;obtain⟨q0,q1,q2,q3,q4⟩:=A5 ag aa;obtain⟨r0,r1,r2,r3,r4⟩:=A5 blk aa))
    |(go_at_call_of 255 (dE #[D ac,D ad]);go_must(go_fit(H2 _);rintro e w2 ⟨rfl,ab⟩;obtain⟨p0,p1,p2,p3,p4⟩:=A5 p0 ab;obtain⟨q0,q1,q2,q3,q4⟩:=A5 q0 ab;obtain⟨r0,r1,r2,r3,r4⟩:=A5 r0 ab)))
   exact Ga _ _ cS rfl rfl r0 (Ac af (Ac aa ab)) (by omega) aH (by rfl)
 ·simp only[if_true];go_enter dQ,dG;go_wp2_with(first
    |(go_fit(H1 _);rintro e w1 ⟨rfl,aa⟩;obtain⟨q0,q1,q2,q3,q4⟩:=A5 ag aa;obtain⟨r0,r1,r2,r3,r4⟩:=A5 blk aa))
  exact Ga _ _ cS rfl rfl r0 (Ac af aa) (by omega) aH (by rfl)
def Ary (o:Option (List V)):Nat:=match o with
 |some l=>l.length
 |none=>0
def Sp.rank (s:Sp):Int:=if s.empty then 0 else if Ary (vals s.lo.data.toList)=1∧s.hi=s.lo++ffW then 1 else if s.lo=noW∧s.hi=ffW then 3 else 2
def E.opI:E→Int
 |.mk op _ _ _ _ _=>op
def E.vV:E→V
 |.mk _ v _ _ _ _=>v
def E.nI:E→Int
 |.mk _ _ _ _ n _=>n
def isC (at' col op n:Int):Bool:=decide (op=2)&&decide (0≤at')&&decide (at'≤n)&&decide (n-at'=col)
def Mp (op k:Int):Bool:=decide (op=1)&&decide (k=0)
theorem Yq (at' col op)(x)(s name)(n)(ao)(k c)(w)(hn:op=2→n≤9223372036854775807):
  aR aA 312 #[N #[U aL at',U aL col],N (Af op x s name n (G ao k c))] w fun e w'=>e=aD (dK (isC at' col op n))∧Below w.heap.size w w':=by
 obtain⟨xk,xn,xs⟩:=x;have E:Hid (isC at' col op n=(decide _&&decide _&&decide _&&decide _)):=rfl;generalize isC at' col op n=r at E
 by_cases h1:op=2
 ·subst h1;have aa:=hn rfl;clear hn
  by_cases h2:0≤at'
  ·by_cases h3:at'≤n
   ·have hw:IntKind.i64.wrap (n-at')=n-at':=by rw[IntKind.wrap_i64];omega
    by_cases h4:n-at'=col
    ·go_enter bQ,bL;go_wp2;go_ret;exact⟨Ah (by rw[E.out];grind),Da _ _ _⟩
    ·go_enter bQ,bL;go_wp2;go_ret;exact⟨Ah (by rw[E.out];grind),Da _ _ _⟩
   ·go_enter bQ,bL;go_wp2;go_ret;exact⟨Ah (by rw[E.out];grind),Da _ _ _⟩
  ·go_enter bQ,bL;go_wp2;go_ret;exact⟨Ah (by rw[E.out];grind),Da _ _ _⟩
 ·go_enter bQ,bL;go_wp2;go_ret;exact⟨Ah (by rw[E.out];grind),Da _ _ _⟩
theorem Xe (op)(x)(s name)(n)(ao)(k c)(w):
  aR aA 313 #[N (Af op x s name n (G ao k c))] w fun e w'=>e=aD (dK (Mp op x.k))∧Below w.heap.size w w':=by
 obtain⟨xk,xn,xs⟩:=x;have E:Hid (Mp op xk=(decide _&&decide _)):=rfl;simp only;generalize Mp op xk=r at E
 by_cases h1:op=1
 ·subst h1
  by_cases h2:xk=0
  ·subst h2;go_enter dP,dF;go_wp2;go_ret;exact⟨Ah (by rw[E.out];rfl),Aq _ _⟩
  ·go_enter dP,dF;go_wp2;go_ret;exact⟨Ah (by rw[E.out];rfl),Aq _ _⟩
 ·go_enter dP,dF;go_wp2;go_ret;exact⟨Ah (by rw[E.out];grind),Aq _ _⟩
end
end Go.Proofs.YtjapkoofjlmdgaaGreatDoor

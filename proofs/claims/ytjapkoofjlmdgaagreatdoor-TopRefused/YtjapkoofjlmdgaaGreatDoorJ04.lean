/-
  10 texts of this proof in one,in build order:TDropAt,TDropAny,PTree,PRows,GSort,GCmp,WRow,GDel,SGram,SRead.
-/
import Derived.Lib.QuietBelow
import Derived.Laws.CopyRow
import Derived.Laws.CopyOwn
import Derived.Laws.IdiomCopy
import Derived.Deep.MidRow
import Derived.Deep.RegionLaw
import Derived.Lib.AppendZerosOnto
import Derived.Lib.Overlaps
import Derived.Lib.SliceRun
import Derived.Laws.Externs
import Derived.Test.YtjapkoofjlmdgaaGreatDoorJ01
import Derived.Test.YtjapkoofjlmdgaaGreatDoorJ02
import Derived.Test.YtjapkoofjlmdgaaGreatDoorJ03
set_option linter.unusedSimpArgs false
set_option linter.unusedVariables false
set_option maxRecDepth 100000
set_option maxHeartbeats 0
open Go.Value renaming agg→cC,bool→dI,int→bC,oneCell'→dG,ownBlock→aR,slice→I,string→aJ
open Option renaming none→D,some→C,toList_some→cP
open List renaming drop_eq_getElem_cons→aT,drop_length→bX,eq_nil_of_length_eq_zero→aG,ext_getElem?→dA,flatten_append→cU,getElem?_append_right→cF,getElem?_eq_getElem→aA,getElem?_eq_some_iff→aF,getElem?_take_of_lt→aU,head?_eq_getElem?→cM,headD_eq_head?_getD→cL,length_append→cY,length_cons→bV,length_take→aS,mem_append→dH,mem_append_left→cR,mem_cons→cK,mem_map→bS,mem_of_getElem?→aI,mem_of_mem_take→cQ,not_mem_nil→dD,take_add_one→bF,take_append_drop→aY,take_length→bU
open Go.Obj renaming cells→J
open Go renaming Calls→bE,TypeId→bL,Value→M,World→O,length_splice→cS,lt_of_block→aB,maxLen→cI,run_storeCells_cells→dE,run_underlying→cN,splice→aZ,zeroValue→cH
open Nat renaming add_zero→bD,eq_zero_or_pos→bQ,le_refl→aK,le_trans→aN,lt_of_lt_of_le→aC,min→cE,min_eq_left→aQ,mul_le_mul_right→cT,mul_one→bM,zero_le→bG
open Go.Builtin renaming clear_→cA,copy_→cB,zeroCells→aD
open Go.Proofs.Tryz renaming prog→aE,underlying30→cZ
open Go.Ending renaming returned→aH
open Bool renaming and_eq_true→bY,false→U,true→N
open Go.Proofs renaming intOf→bK,ltOf→aO,sortWorld→aL
open Go.World renaming frozen?→aM,setCells→dF
open Go.RowKit renaming Below→aP,Below→bO
open Go.RowKit.Below renaming heap_setCell→aV,refl→bB,refl→bI
open Prod renaming ext→aW,fst→bA,snd→cO
open Array renaming getElem?_modify→aX,length_toList→bN,toList_map→dB
open Go.IntKind renaming i64→bH,wrap_i64→cW
open And renaming intro→bJ
open Go.Sort renaming mapBlock→bR,putRow→bZ
open Go.Region renaming wanted→cD
open List.Pairwise renaming nil→cG
open Go.Proofs.AnyF renaming slices_SortFunc_none→cJ
open List.Perm renaming refl→cV
open ByteArray renaming size→cX
open Prod.mk renaming injEq→dC
namespace Go.Proofs.YtjapkoofjlmdgaaGreatDoor
section
open Go.RowKit
theorem Are (A B:List Pg)(p:Pg)(K1 K3 V1 V3:List ByteArray)(y k:ByteArray)(tv:M)(w:O)(h:Bi w tv (A++p::B))(hg:As (A++p::B))(hK:p.K=K1++k::K3)(hV:p.V=V1++y::V3)(hl:V1.length=K1.length)
  (fi:Ua (A++p::B) k A.length K1.length N) (hn:((A++p::B).length+1) *48≤140737488355328):
  bE aE 191 #[tv,aJ k] w fun e w'=>Ake w w' e (A++(if(K1++K3).length=0 then[]else[⟨K1++K3,V1++V3⟩])++B):=by
 have gc:=fun W (hW:aP w.heap.size w W)=>I3 (A++p::B) tv W (h.below hW) hg
 have fc:=fun W (hW:aP w.heap.size w W)=>fi tv W (h.below hW)
 have bx:=h;obtain⟨sv,rfl,hs⟩:=h;have bz:(A++p::B)[A.length]?=C p:=by simp
 obtain⟨b,av,cap,rfl,ca,dy,dz,hT⟩:=hs.at (by simp<;>omega);obtain⟨kv,vv,c0,c1,hk,hv⟩:=hT _ p bz;have aw:=hg.1 p (by simp);have cp:=fun W hW=>Lj p kv vv W (hk.below hW) (hv.below hW) (by grind) (by have:=aw.2.1;omega) aw.2.2
 obtain⟨ka,kc,rfl⟩:=hk.shape;obtain⟨va,vc,rfl⟩:=hv.shape;have ea:A.length<(A++p::B).length:=by simp
 have cb:(A++p::B).length=A.length+1+B.length:=by simp;omega
 generalize ax:(w.alloc (J #[I (C ⟨b,av,D⟩) (A++p::B).length cap] 44)).alloc (J #[I D 0 0] 44)=W0;have bc:aP w.heap.size w W0:=by rw[←ax];exact((bI _ w).alloc (aK _) _).alloc (by simp) _
 have fq:W0.heap.size=w.heap.size+1+1:=by rw[←ax];simp
 have b0:W0.heap[w.heap.size]?=C (J #[I (C ⟨b,av,D⟩) (A++p::B).length cap] 44):=by rw[←ax];exact Ad (Ab w _) _
 have r0:W0.heap[w.heap.size+1]?=C (J #[I D 0 0] 44):=by rw[←ax];exact Al (A6 _ _) _
 have cd:=Aa b0 (j:=0) rfl;have hA:w.heap.size<W0.heap.size:=by omega
 have ce:w.heap.size+1<W0.heap.size:=by omega
 have g0:=gc _ bc;have rp:=fun P W pv hW hp (hP:P.length≤1)=>Kx A [p] B P _ pv (A.length+1) W (bx.below hW) hp (by simp) (by simp) (by omega)
 have cf:∀q∈A,q.ok:=fun q hq=>hg.1 q (by grind)
 have cg:∀q∈B,q.ok:=fun q hq=>hg.1 q (by grind)
 have ch:=aw.2.2;have HV:=hid hV;have HK:=hid hK;have HL:=hid hl;have ay:=hid (bJ cf cg);clear hV hK hT hs gc fi hg bx hk hv bz dy cf cg;generalize cj:A.length=a at*;generalize ck:(A++p::B).length=n at*;rw[←hl]at fc;generalize cl:V1.length=pl at*;generalize bd:p.K.length=m at*;generalize cm:p.V.length=mv at*;unfold cI at dz;have fr:m≤4:=by have:=aw.2.1;omega
 have cn:m=K1.length+1+K3.length:=by rw[←bd,HK.out];simp;omega
 have eb:pl<m:=by omega
 have i0:(0:Int)≤a:=by omega
 have i1:a<(n:Int):=by omega
 have i4:(0:Int)≤pl:=by omega
 have i5:(pl:Int)≤4:=by omega
 have i6:IntKind.i64.wrap (a+1)=((a+1:Nat):Int):=by rw[cW];omega
 have i7:IntKind.i64.wrap (a-1)=a-1:=by rw[cW];omega
 obtain⟨TT,be⟩:∃TT,A++(if(K1++K3).length=0 then[]else[⟨K1++K3,V1++V3⟩])++B=TT:=⟨_,rfl⟩;rw[be];have co:=hid be;have ec:=hid cl;have ed:=hid ch;have HN:=hid hn;have ft:=hid (bJ cn eb);have HB:=hid cb;have az:=hid (bJ cj (bJ ck (bJ hl (bJ bd cm))));clear cb cj ck bd cm hn ea ch cl hl cn be;go_enter Tryz.func191,Tryz.ntmps191;go_upto_region 7 with(first
  |(go_at_call 182;go_must(refine g0.mono ?_;rintro e w1 ⟨rfl,ah⟩;have cq:=(ah.cell hA).trans cd;have bf:=bc.trans (ah.mono bc.size);have bg:=aC hA ah.size;have cr:=aC ce ah.size;have cs:=(ah.block _ hA).trans b0;have r1:=(ah.block _ ce).trans r0))
  |(go_at_call 183;go_must(refine(fc _ bf).mono ?_;rintro e w2 ⟨rfl,ai⟩;have ct:=(ai.cell bg).trans cq;have am:=bf.trans (ai.mono bf.size);have ee:=(am.cell ca).trans c0;have ef:=(am.cell ca).trans c1;have bh:=aC bg ai.size;have bi:=aC cr ai.size;have cu:=(ai.block _ bg).trans cs;have r2:=(ai.block _ cr).trans r1))
  |(go_at_call 184;go_must(refine(cp _ am).mono ?_;rintro e w3 ⟨g1,d1,g2,d2,rfl,ba,bj,fu,aj⟩;have eg:=(aj.cell bh).trans ct;have cv:=am.trans (aj.mono am.size);have eh:=aC bh aj.size;have ei:=aC bi aj.size;have cx:=(aj.block _ bh).trans cu;have r3:=(aj.block _ bi).trans r2)))
 have fw:=aC bi ba.1;have fx:=ba.lt;have fy:=bj.lt;obtain⟨X1,bk⟩:∃X1,w3.alloc (J #[I (C ⟨g1,0,D⟩) m d1,I (C ⟨g2,0,D⟩) mv d2] 83)=X1:=⟨_,rfl⟩;have an:aP w3.heap.size w3 X1:=by rw[←bk];exact(bI _ _).alloc (aK _) _
 have fz:X1.heap.size=w3.heap.size+1:=by rw[←bk];simp
 have xq:X1.heap[w3.heap.size]?=C (J #[I (C ⟨g1,0,D⟩) m d1,I (C ⟨g2,0,D⟩) mv d2] 83):=by rw[←bk];exact Ab w3 _
 have oK:Cs X1 w2.heap.size g1 d1 (K1++k::K3):=by have:=ba.below an;rwa[HK.out]at this
 have oV:Cs X1 w2.heap.size g2 d2 (V1++y::V3):=by have:=bj.below an;rwa[HV.out]at this
 have bb:(K1++k::K3).length=m:=by rw[←HK.out];exact az.out.2.2.2.1
 have cy:(V1++y::V3).length=mv:=by rw[←HV.out];exact az.out.2.2.2.2
 have bl:=Acr K1 K3 k _ _ X1 oK.2;rw[bb,←az.out.2.2.1]at bl;obtain⟨m',bm⟩:∃m',(K1++K3).length=m':=⟨_,rfl⟩;have cz:m=m'+1:=by rw[←bb,←bm];simp<;>omega
 have ak:=hid bm;have da:=hid (show(V1++V3).length=m' by have:=ed.out;grind);have ga:=hid bb;have ej:=hid cy;have ek:=hid cz;clear bb cy bm cz;have db:=(an.block _ eh).trans cx;have rx:=(an.block _ ei).trans r3;have el:X1.cell? ⟨_,0,D⟩=C (I _ m d1):=Aa xq rfl;clear eg;go_upto_region 8 with(go_fit bl;rintro e w4 ⟨v1,rfl,bn,ad,dc⟩;obtain⟨aa,ab,e1⟩:=bn.shape;rw[ak.out]at e1;subst e1;have q4:=(ad.block _ (by omega) (by simp[aR];omega)).trans xq;have en:=Aa q4 (j:=0) rfl;have eo:w4.frozen? ⟨w3.heap.size,0,D⟩=U:=(by simp[aM,q4]));have dd:=(ad.block _ (by omega) (by simp[aR];omega)).trans db;have r4:=(ad.block _ (by omega) (by simp[aR];omega)).trans rx;have de:=oV.grown (r:=g1) ad (by omega);have ep:(Value.slice aa m' ab).ownBlock=C g1:=dc;obtain⟨Y,hY⟩:∃Y,w4.setCell ⟨w3.heap.size,0,D⟩ (I aa m' ab)=Y:=⟨_,rfl⟩;have yq:Y.heap[w3.heap.size]?=C (J #[I aa m' ab,I (C ⟨g2,0,D⟩) mv d2] 83):=by rw[←hY];exact Jt q4 0 _
 have yb:Y.heap[w.heap.size]?=C (J #[I (C ⟨b,av,D⟩) n cap] 44):=by rw[←hY,aV _ _ _ _ (by grind)];exact dd
 have yr:Y.heap[w.heap.size+1]?=C (J #[I D 0 0] 44):=by rw[←hY,aV _ _ _ _ (by grind)];exact r4
 have gb:Y.heap.size=w4.heap.size:=by rw[←hY];simp[World.setCell]
 have df:Cs Y w2.heap.size g2 d2 (V1++y::V3):=by rw[←hY];exact de.setOther (by omega) _
 have dg:An Y (I aa m' ab) (K1++K3):=by rw[←hY];exact Df bn (by grind) _
 have gd:=ad.size;have dh:aP w.heap.size w Y:=by
  have di:aP w.heap.size w X1:=cv.trans (an.mono cv.size);have et:aP w.heap.size w w4:=di.grown ad di.size (fun j hj=>by grind);rw[←hY];exact et.setCell (by grind) _
 have bo:=Acr V1 V3 y _ _ Y df.2;rw[ej.out,ec.out]at bo;have eu:Y.cell? ⟨_,1,D⟩=C (I _ mv d2):=Aa yq rfl;clear en eo el;go_upto_region 9 with(go_fit bo;rintro e w5 ⟨v2,rfl,bp,ae,dj⟩;obtain⟨af,ag,e2⟩:=bp.shape;rw[da.out]at e2;subst e2;have q5:=(ae.block _ (by omega) (by simp[aR];omega)).trans yq;have ew:=Aa q5 (j:=1) rfl;have ex:w5.frozen? ⟨w3.heap.size,1,D⟩=U:=(by simp[aM,q5]));have ge:=ae.size;have ey:(Value.slice af m' ag).ownBlock=C g2:=dj;have dk:=dg.grown ae (.inr (by grind));have b5:=(ae.block _ (by omega) (by grind)).trans yb;have r5:=(ae.block _ (by omega) (by grind)).trans yr;have ez:=dh.grown ae dh.size (fun j hj=>by grind);obtain⟨Z,hZ⟩:∃Z,w5.setCell ⟨w3.heap.size,1,D⟩ (I af m' ag)=Z:=⟨_,rfl⟩;have zq:Z.heap[w3.heap.size]?=C (J #[I aa m' ab,I af m' ag] 83):=by rw[←hZ];exact Jt q5 1 _
 have zb:Z.heap[w.heap.size]?=C (J #[I (C ⟨b,av,D⟩) n cap] 44):=by rw[←hZ,aV _ _ _ _ (by grind)];exact b5
 have zr:Z.heap[w.heap.size+1]?=C (J #[I D 0 0] 44):=by rw[←hZ,aV _ _ _ _ (by grind)];exact r5
 have ap:aP w.heap.size w Z:=by rw[←hZ];exact ez.setCell (by grind) _
 have dl:An Z (I aa m' ab) (K1++K3):=by rw[←hZ];exact Df dk (by grind) _
 have dm:An Z (I af m' ag) (V1++V3):=by rw[←hZ];exact Df bp (by grind) _
 have bq:=aB zr;have z0:Z.cell? ⟨_,0,D⟩=C (I _ n cap):=Aa zb rfl;have z1:Z.cell? ⟨_,0,D⟩=C (I aa m' ab):=Aa zq rfl;have z2:Z.cell? ⟨_,1,D⟩=C (I af m' ag):=Aa zq rfl;clear ew ex fc cp g0 bl bo eu ee ef dc dj ep ey ad ae q4 q5 yq yb yr b5 r5 xq cs cu cx dd db r0 r1 r2 r3 r4 rx b0 cd cq ct bn bp dk dg oK oV de df ba bj;rw[hZ]
 by_cases h0:m'=0
 ·subst h0;have aq:=rp [] Z _ ap (A8.nil Z) (by simp);generalize ac:A++[]++B=R at aq;have bt:=hid (show TT=R by rw[←co.out,if_pos ak.out,ac]);have fa:=hid ac;clear rp hZ ac;go_wp2_with(go_at_call 185;go_must(refine aq.mono ?_;rintro e w6 ⟨ar,rfl,⟨fb,rfl,hP⟩,al⟩;obtain⟨ao,cc,rfl⟩:=hP.shape;have r6:=(al.block _ bq).trans zr;have q6:w6.cell? ⟨_,0,D⟩=C (I D 0 0):=Aa r6 rfl;have f6:w6.frozen? ⟨w.heap.size+1,0,D⟩=U:=(by simp[aM,r6])));refine bodyPost_ret (v:=cC #[I ao R.length cc]) (by simp[results,go_sem, *]) rfl ?_;have hz:=ap.trans (al.mono ap.size);rw[bt.out];refine⟨_,R,rfl,⟨_,rfl,Gy hP r6 _⟩,hz.setCell (by simp) _,?_,rfl,aK _⟩;rw[←fa.out];intro q hq;simp only[List.append_nil,dH]at hq;rcases hq with hq|hq
  ·exact ay.out.1 q hq
  ·exact ay.out.2 q hq
 ·have j0:¬((m':Int)=0):=by omega
  obtain⟨W5,bu⟩:∃W5,Z.alloc (J #[I aa m' ab,I af m' ag] 83)=W5:=⟨_,rfl⟩;have au:aP Z.heap.size Z W5:=by rw[←bu];exact Am (bI _ _) _
  have fd:W5.heap[Z.heap.size]?=C (J #[I aa m' ab,I af m' ag] 83):=by rw[←bu];exact Ab Z _
  have bv:=ap.trans (au.mono ap.size);have aq:=rp [⟨_,_⟩] W5 (I _ 1 1) bv (Pu fd (dl.below au) (dm.below au) (by simp) (by decide)) (by simp);generalize ac:A++[⟨_,_⟩]++B=R at aq;have bt:=hid (show TT=R by rw[←co.out,if_neg (by rw[ak.out];omega),ac]);have dn:∀q∈R,q.ok:=by
   rw[←ac];intro q hq;simp only[dH,cK,dD,or_false]at hq;rcases hq with(hq|rfl)|hq
   ·exact ay.out.1 q hq
   ·refine⟨?_,?_,?_⟩
    ·simp only[ak.out];omega
    ·simp only[ak.out];have:=ek.out;omega
    ·simp only[ak.out,da.out]
   ·exact ay.out.2 q hq
  have fe:R.length*48≤140737488355328:=by
   rw[←ac];have h1:=HN.out;have h2:=HB.out;have h3:=az.out.1;simp only[cY,bV,List.length_nil];omega
  have ff:(a:Int)≤4611686018427387904:=by have h1:=HN.out;omega
  have fg:=fun ar W hW=>Ac1 R ar _ W hW dn (by omega) ff fe
  have fh:=fun T2 ar W hW fj (gf:T2.length≤R.length)=>Ac1 T2 ar (a-1) W hW fj (by omega) (by omega) (by omega)
  have fk:=(au.block _ bq).trans zr;have dp:=aC bq au.size;clear rp hZ ac dl dm dn;subst bu;go_wp2_with(first
   |(go_at_call 185;go_must(refine aq.mono ?_;rintro e w6 ⟨ar,rfl,⟨fb,rfl,hP⟩,al⟩;obtain⟨ao,cc,rfl⟩:=hP.shape;have r6:=(al.block _ dp).trans fk;have l6:=aC dp al.size))
   |(go_at_call_of 247 (Value.agg #[I ao R.length cc]);go_must(refine(fg _ _ ⟨_,rfl,hP⟩).mono ?_;rintro e w7 ⟨gg,T2,rfl,⟨gh,rfl,dq⟩,bw,fl,ds,dt⟩;obtain⟨gi,gj,rfl⟩:=dq.shape;have r7:=(bw.block _ l6).trans r6;have l7:=aC l6 bw.size))
   |(go_at_call 247;go_must(refine(fh T2 _ _ ⟨_,rfl,dq⟩ fl dt).mono ?_;rintro e w8 ⟨gk,T3,rfl,⟨gl,rfl,du⟩,dv,fm,dw,fn⟩;obtain⟨fo,fp,rfl⟩:=du.shape;have r8:=(dv.block _ l7).trans r7;have q8:w8.cell? ⟨_,0,D⟩=C (I D 0 0):=Aa r8 rfl;have f8:w8.frozen? ⟨w.heap.size+1,0,D⟩=U:=(by simp[aM,r8]);have dx:=hid (bJ ds dw);clear ds dw)))
  refine bodyPost_ret (v:=cC #[I fo T3.length fp]) (by simp[results,go_sem, *]) rfl ?_;have hz:=Ac (Ac (bv.trans (al.mono bv.size)) bw) dv;rw[bt.out];exact⟨_,T3,rfl,⟨_,rfl,Gy du r8 _⟩,hz.setCell (by simp) _,fm,dx.out.2.trans dx.out.1,aN fn dt⟩
def Axt (w w':O)(e:Ending)(T:List Pg)(k:ByteArray):Prop:=
 ∃tv' T',e=aH tv'∧Bi w' tv' T'∧aP w.heap.size w w'∧As T'∧flat T'=Jy (flat T) k∧T'.length≤T.length
theorem Atx {T}{k}{pg pl}(hg:As T)(f:Aqw T k pg pl U):Jy (flat T) k=flat T:=by
 obtain⟨F1,o,F2,c,ho⟩:=f.cut hg;cases o with
 |some v=>grind
 |none=>rw[c.drop,c.eq];simp
theorem Akf (T)(tv)(k)(w)(h:Bi w tv T)(hg:As T)(hn:(T.length+1) *48≤140737488355328):
  bE aE 191 #[tv,aJ k] w fun e w'=>Axt w w' e T k:=by
 obtain⟨pg,pl,th,hF,fi⟩:=U4 T k hg (by omega);cases th with
 |false=>
  refine(Ank T tv k pg pl w h hg fi).mono ?_;rintro e w' ⟨aa,he,ht,hb⟩;exact⟨aa,T,he,ht,hb,hg,(Atx hg hF).symm,aK _⟩
 |true=>
  rcases hF with⟨_,_,hc,_⟩|⟨A,p,B,K1,y,K3,rfl,hp,rfl,rfl,hA,hK,hy,hth⟩
  ·cases hc
  ·have ac:=of_decide_eq_true hth.symm;subst ac;obtain⟨V1,v0,V3,hV,ad,ai,c⟩:=Pk hg hp hA hK;refine(Are A B p K1 K3 V1 V3 v0 y tv w h hg hp hV ad fi hn).mono ?_;rintro e w' ⟨aa,T',he,ht,hb,ok,fl,le⟩;have ab:flat T'=Jy (flat (A++p::B)) y:=by
    rw[fl,c.drop];split
    ·rename_i h0;have ae:K1=[]:=aG (by grind);have af:K3=[]:=aG (by grind);subst ae;subst af;have ag:V1=[]:=aG (by omega);have ah:V3=[]:=aG (by omega);subst ag;subst ah;simp[Bg]
    ·rw[Bg,Bg,E6,Rr];grind
   refine⟨aa,T',he,ht,hb,Xj ok ?_,ab,?_⟩
   ·rw[ab,c.drop];exact c.rise_drop hg.rise
   grind
theorem S5 {w:O}{sv:M}{L:List ByteArray}(h:An w sv L){g:Nat}{t:bL}{ao:Option Addr}{n c:Nat}(hb:w.heap[g]?=C (J #[I ao n c] t))(v:M):An (w.setCell ⟨g,0,D⟩ v) sv L:=by
 rcases bQ L.length with h0|h0
 ·refine⟨h.1,?_⟩;rcases h.2 with h2|⟨h1,_⟩
  ·exact .inl h2
  ·omega
 ·obtain⟨b,aa,cap,rfl,_,_,_,hc⟩:=h.at h0;refine Ub h v fun e=>?_
  obtain rfl:=by simpa[aR]using e
  obtain⟨x,hx⟩:∃x,L[0]?=C x:=⟨_,aA h0⟩;have:=hc 0 x hx;simp only[World.cell?,hb,bD]at this;grind
theorem Pgs.set2 {w}{g}{t}{ao}{n c}(hb:w.heap[g]?=C (J #[I ao n c] t))(v):∀{rs:List (M×M)}{T:List Pg},Pgs w rs T→Pgs (w.setCell ⟨g,0,D⟩ v) rs T
 |[],[],_=>trivial
 |_::_,_::_,h=>⟨S5 h.1 hb v,S5 h.2.1 hb v,Pgs.set2 hb v h.2.2⟩
theorem Qs {w:O}{sv:M}{T:List Pg}(h:A8 w sv T){g:Nat}{t:bL}{ao:Option Addr}{n c:Nat}(hb:w.heap[g]?=C (J #[I ao n c] t))(v:M):A8 (w.setCell ⟨g,0,D⟩ v) sv T:=by
 obtain⟨rows,h1,h2⟩:=h;refine⟨rows,?_,Pgs.set2 hb v h2⟩;rcases bQ T.length with h0|h0
 ·refine⟨h1.1,?_⟩;rcases h1.2 with h3|⟨h3,_⟩
  ·exact .inl h3
  ·omega
 ·have aa:=h1;rcases h1.2 with⟨h3,_⟩|⟨_,b,off,cap,rfl,_,_,_,hc⟩
  ·omega
  ·refine Ub aa v fun e=>?_
   obtain rfl:b=g:=by simpa[aR]using e
   have hl:=aa.1;obtain⟨x,hx⟩:∃x,(A3 rows)[1]?=C x:=⟨_,aA (by omega)⟩;have:=hc 1 x hx;simp only[World.cell?,hb]at this;grind
structure TrSt (w:O) (cv tb:Array M) (F:PL) (n:Nat) (ao:Option Addr) (k c:Nat) (T:List Pg) (wx:O):Prop where
 blk:wx.heap[w.heap.size]?=C (J #[I ao k c] 44)
 pgs:A8 wx (I ao k c) T
 good:As T
 flat:flat T=F
 len:T.length≤n
 cat:wx.heap[w.heap.size+1]?=C (J cv 41)
 tab:wx.heap[w.heap.size+2]?=C (J tb 74)
 res:wx.heap[w.heap.size+3]?=C (J #[I D 0 0] 44)
 bel:aP w.heap.size w wx
theorem TrSt.below {w}{cv tb}{F}{n}{ao}{k c}{T}{W V}(h:TrSt w cv tb F n ao k c T W)(hb:aP W.heap.size W V):TrSt w cv tb F n ao k c T V:=
 ⟨(hb.block _ (aB h.blk)).trans h.blk,h.pgs.below hb,h.good,h.flat,h.len,(hb.block _ (aB h.cat)).trans h.cat,(hb.block _ (aB h.tab)).trans h.tab,(hb.block _ (aB h.res)).trans h.res,h.bel.trans (hb.mono h.bel.size)⟩
theorem Ob {w:O}{b g}(h:b≠g)(j)(x):(w.setCell ⟨g,j,D⟩ x).heap[b]?=w.heap[b]?:=aV w ⟨g,j,D⟩ x b h
theorem TrSt.store {w}{cv tb}{F F':PL}{n n'}{ao ao'}{k c k' c'}{T T'}{W V}(h:TrSt w cv tb F n ao k c T W)(hb:aP W.heap.size W V)(hp:A8 V (I ao' k' c') T')(hg:As T')(hf:Go.Proofs.YtjapkoofjlmdgaaGreatDoor.flat T'=F')(hl:T'.length≤n'):
  TrSt w cv tb F' n' ao' k' c' T' (V.setCell ⟨w.heap.size,0,D⟩ (I ao' k' c')):=by
 have hV:=h.below hb;exact⟨by have:=Dh hV.blk 0 (I ao' k' c');grind,Qs hp hV.blk _,hg,hf,hl,(Ob (by omega) _ _).trans hV.cat,(Ob (by omega) _ _).trans hV.tab,(Ob (by omega) _ _).trans hV.res,hV.bel.setCell (aK _) _⟩
theorem Ac2 {w}{ao}{k c}{T}(a b d e)(hp:A8 w (I ao k c) T)(hg:As T):
  TrSt w #[a,b] #[d,e] (flat T) T.length ao k c T ((((w.alloc (J #[I ao k c] 44)).alloc (J #[a,b] 41)).alloc (J #[d,e] 74)).alloc (J #[I D 0 0] 44)):=by
 have b4:=(Hx w (J #[I ao k c] 44) (J #[a,b] 41) (J #[d,e] 74)).alloc (o:=J #[I D 0 0] 44) (by simp;omega);refine⟨Ad (Ad (Ad (Ab w _) _) _) _,hp.below b4,hg,rfl,aK _,Ad (Ad (Ca _ _ _) _) _,Ad (Fe _ _ _ _) _,?_,b4⟩;have:=Ab (((w.alloc (J #[I ao k c] 44)).alloc (J #[a,b] 41)).alloc (J #[d,e] 74)) (J #[I D 0 0] 44);simp_all
def Apu (w w':O)(e:Ending)(F:PL)(n:Nat):Prop:=∃pv T,e=aH pv∧Bi w' pv T∧As T∧flat T=F∧T.length≤n∧aP w.heap.size w w'
theorem Arf {F}{K:List Wd}{k}{x:Wd}(h:K[k]?=C x):Ln F (K.take (k+1))=I0 (Ln F (K.take k)) x noW:=by
 rw[bF,h];simp[Ln]
theorem Anl {F}{K:List Wd}{k}{x:Wd}(h:K[k]?=C x):J9 F (K.take (k+1))=Jy (J9 F (K.take k)) x:=by
 rw[bF,h];simp[J9]
theorem Ct {w}{sv}{T}(h:A8 w sv T):∃ao c,sv=I ao T.length c:=by
 obtain⟨rows,h1,_⟩:=h;exact h1.shape
theorem Ag1 {W:O}{a b o}{x0 x1 x2 x3}(h0:W.cell? ⟨a,0,D⟩=C x0)(h1:W.cell? ⟨b,o,D⟩=C x1)(h2:W.cell? ⟨b,o+1,D⟩=C x2)(h3:W.cell? ⟨b,o+2,D⟩=C x3):
  W.cell? ⟨a,0,D⟩=C x0∧W.cell? ⟨b,o,D⟩=C x1∧W.cell? ⟨b,o+1,D⟩=C x2∧W.cell? ⟨b,o+2,D⟩=C x3:=⟨h0,h1,h2,h3⟩
theorem W7 {W:O}{a b o g}{x x0 x1 x2 x3}(h:W.cell? ⟨a,0,D⟩=C x0∧W.cell? ⟨b,o,D⟩=C x1∧W.cell? ⟨b,o+1,D⟩=C x2∧W.cell? ⟨b,o+2,D⟩=C x3)(ha:a≠g)(hb:b≠g):
  (W.setCell ⟨g,0,D⟩ x).cell? ⟨a,0,D⟩=C x0∧(W.setCell ⟨g,0,D⟩ x).cell? ⟨b,o,D⟩=C x1∧(W.setCell ⟨g,0,D⟩ x).cell? ⟨b,o+1,D⟩=C x2∧(W.setCell ⟨g,0,D⟩ x).cell? ⟨b,o+2,D⟩=C x3:=
 ⟨(A1 ha _ _ _).trans h.1,(A1 hb _ _ _).trans h.2.1,(A1 hb _ _ _).trans h.2.2.1,(A1 hb _ _ _).trans h.2.2.2⟩
theorem Py:(Tryz.prog.info? 57).map (fun i=>(i.zero,i.size,i.bytes))=C (C (I D 0 0),1,24):=by kernel_rfl
def Dq (base:Nat)(z:M)(A:List (List V))(w:O):Prop:=∃cs,w.ownsRow base 57 1 z A.length cs∧All Ek (FO base z) w A cs
theorem Cd (base)(w):Dq base (I D 0 0) [] w:=⟨[],World.ownsRow_nil _ _ _ _,rfl⟩
theorem L7 {base}{z z' sv}{A}{cs}{L}{W w3}(aa:w3.ownsRow base 57 1 z' (A.length+1) (cs++[sv]))(ab:All Ek (FO base z) W A cs)(hL:IsL Lw (FO base z) W sv L)(gr:W.grownBy w3 z.ownBlock)(ac:z'.ownBlock=z.ownBlock∨z'.ownBlock=C W.heap.size):
  Dq base z' (A++[L]) w3:=by
 have h1:All Ek (fun k=>FO base z k∧k<W.heap.size) W _ _:=All.append (ab.mono fun k hk h=>⟨h,hk⟩) (All.one ⟨sv,rfl,hL.mono fun k hk h=>⟨h,hk⟩⟩);refine⟨_,by rw[cY];exact aa,(h1.keep ((Aaf gr).mono fun k h=>h.1)).mono fun k _ h=>Ud ac k h.2 h.1⟩
theorem Dq.isL {base}{z}{A}{w}(h:Dq base z A w){F}(hF:∀k,base≤k→F k):IsL Ek F w z A:=by
 obtain⟨cs,h1,h2⟩:=h;exact⟨cs,Bp.of_own h1 hF,h2.mono fun k _ h=>hF k h.1⟩
theorem Dq.below {base}{z}{A}{w w'}(h:Dq base z A w)(hb:aP w.heap.size w w'):Dq base z A w':=by
 obtain⟨cs,h1,h2⟩:=h;exact⟨cs,Aj h1 hb,h2.keep (Ak hb)⟩
def Cx (n:Nat)(X:List Wd):List (List V):=X.filterMap (Il n)
theorem Aai {n}{X:List Wd}{k}{x}(h:X[k]?=C x):Cx n (X.take (k+1))=Cx n (X.take k)++(Il n x).toList:=by
 rw[bF,h];simp only[Cx,List.filterMap_append,cP];rfl
theorem Xa (n)(X):(Cx n X).length≤X.length:=List.length_filterMap_le _ _
theorem Dq.base {B B'}{z}{A}{w}(h:Dq B z A w)(hB:B'≤B):Dq B' z A w:=by
 obtain⟨cs,h1,h2⟩:=h;refine⟨cs,⟨h1.1,?_⟩,h2.mono fun k _ hk=>⟨aN hB hk.1,hk.2⟩⟩;rcases h1.2 with h3|⟨g,cap,cur,hv,hg,hh⟩
 ·grind
 ·exact .inr ⟨g,cap,cur,hv,aN hB hg,hh⟩
def Nd (w w':O)(e:Ending)(A:List (List V)):Prop:=∃rv,e=aH rv∧Dq w.heap.size rv A w'∧aP w.heap.size w w'
def Afn (w w':O)(e:Ending)(A:List (List V)):Prop:=∃rv,e=aH rv∧IsL Ek (fun k=>w.heap.size≤k) w' rv A∧aP w.heap.size w w'
theorem Aaj (af:Wd)(T:List Pg)(pv:M)(so:Option Addr)(n sc:Nat)(lo hi:Wd)(w:O)(hp:Bi w pv T)(hg:As T)(hT:T.length≤100000)(hx:∀x∈rng T lo hi,x.2.size≤1000000):
  bE aE 106 #[pv,cC #[aJ af,I so n sc],J0 noW lo hi] w fun e w'=>Nd w w' e (F3 n (rng T lo hi)):=by
 obtain⟨bp,rfl,aq⟩:=hp;obtain⟨po,pc,rfl⟩:=Ct aq;obtain⟨i0,bc,bd,be,bf⟩:=info_parts Py;obtain⟨al,-,-,bW,-⟩:=al3 w (J #[I po T.length pc] 44) (J #[aJ af,I so n sc] 74) (J #[aJ noW,aJ lo,aJ hi] 159);have bT:=Ad (Ca w (J #[I po T.length pc] 44) (J #[aJ af,I so n sc] 74)) (J #[aJ noW,aJ lo,aJ hi] 159);have HR:=Agt N T ⟨fun _=>hg,fun _=>rfl⟩ (cC #[I po T.length pc]) lo hi _ ⟨_,rfl,aq.below al⟩ (by omega);rw[show U6 N T lo hi=rng T lo hi from rfl]at HR;have av:(rng T lo hi).length≤400000:=by
  have h1:=Aac N T ⟨fun _=>hg,fun _=>rfl⟩ (lo:=lo) (hi:=hi);rw[show U6 N T lo hi=rng T lo hi from rfl]at h1;omega
 have ER:Hid (F3 n (rng T lo hi)=Cx n ((rng T lo hi).map cO)):=rfl;rw[ER.out];clear ER;have bg:((rng T lo hi).map cO).length≤400000:=by rw[List.length_map];exact av
 have HX:Hid (∀x∈(rng T lo hi).map cO,x.size≤1000000):=fun x hh=>by obtain⟨y,hy,rfl⟩:=bS.1 hh;exact hx y hy
 clear hx av;unfold Mz at HR;generalize(rng T lo hi).map bA=Y at HR;generalize(rng T lo hi).map cO=X at HR bg HX⊢;generalize hW:((w.alloc (J #[I po T.length pc] 44)).alloc (J #[aJ af,I so n sc] 74)).alloc (J #[aJ noW,aJ lo,aJ hi] 159)=W3 at al HR bT bW;have bP:W3.heap[w.heap.size]?=C (J #[I po T.length pc] 44):=by rw[←hW];exact Ad (Ad (Ab w _) _) _
 have HW:Hid _:=hW;clear hW;have c0:=Aa bP (j:=0) rfl;have c2:=Aa bW (j:=1) rfl;have c3:=Aa bW (j:=2) rfl;unfold J0;go_enter Tryz.func106,Tryz.ntmps106;go_upto_region 1 with fail;rw[HW.out];go_wp2_with(go_fit HR;rintro e w1 ⟨kv,vv,rfl,bh,aw,ar⟩;obtain⟨vo,vc,rfl⟩:=Eu.shape aw;have bq:=Aa ((ar.block _ (aB bW)).trans bW) (j:=0) rfl);have ax:=(ar.block _ (aB bT)).trans bT;have au:aP w.heap.size w w1:=al.trans (ar.mono al.size);clear bh HR aq
 go_loopw[9,36] (fun zv i wr=>∃k:Nat,k≤X.length∧i=bC bH k∧Dq w1.heap.size zv (Cx n (X.take k)) wr∧aP w1.heap.size w1 wr) (fun _ i _=>X.length-(bK i).toNat)
 case atStart=>exact⟨0,bG _,rfl,Cd _ _,bI _ _⟩
 case round=>
  obtain⟨k,hk,rfl,⟨cs,ad,ag⟩,ac⟩:=hrel
  by_cases bi:k<X.length
  ·obtain⟨x,hx⟩:∃x,X[k]?=C x:=⟨_,aA bi⟩;obtain⟨b,bt,cap,bj,hb,_,_,ay⟩:=aw.at (by omega);cases bj;have d0:=(ac.cell hb).trans (ay k x hx);have HV:=fun W=>N7 x W (by have:=HX.out x (aI hx);omega)
   have am:Hid (Cx n _=Cx n _++(Il n x).toList):=Aai hx;have v0:(0:Int)≤k:=by omega
   have v1:k<(X.length:Int):=by omega
   have ah:=ac.size;have az:=ad.lt;have ab:=(ac.block _ (aB ax)).trans ax;have bu:(Cx n (X.take k)).length≤400000:=aN (Xa _ _) (by grind);clear hx ay;unfold Hn at HV;cases ai:vals x.data.toList with
   |none=>
    have E2:Hid (Cx n (X.take (k+1))=Cx n (X.take k)):=by show _=_;rw[am.out,Il,ai];simp
    rw[ai]at HV;simp only at HV;go_wp2_with(go_fit(HV _);rintro e w2 ⟨rfl,aa⟩);go_roundw
    case rel=>exact⟨k+1,by omega,by rfl,by rw[E2.out];exact Dq.below ⟨cs,ad,ag⟩ aa,ac.trans (aa.mono ah)⟩
    case measure=>simp[bK];omega
   |some L=>
    rw[ai]at HV;simp only at HV;have HF:=fun ao c W=>Oa af so n sc ao L.length c W
    by_cases hf:0<L.length∧L.length=n
    ·have E2:Hid (Cx n (X.take (k+1))=Cx n (X.take k)++[L]):=by show _=_;rw[am.out,Il,ai];simp only;rw[if_pos hf];rfl
     rw[show(decide _&&decide _)=N by grind]at HF;clear hf am;go_wp2_with(first
      |(go_fit(HV _);rintro e w2 ⟨⟨lv,rfl,an⟩,aa⟩;obtain⟨aj,ak,rfl⟩:=Eu.shape (Eu.of_own an);have t2:=Aa ((aa.block _ (aB ab)).trans ab) (j:=0) rfl;have t3:=Aa ((aa.block _ (aB ab)).trans ab) (j:=1) rfl)
      |(go_fit(HF _ _ _);rintro e w3 ⟨rfl,ae⟩;have ap:aP _ wr (w3.alloc (J [I aj L.length ak].toArray 57)):=(Ac aa ae).alloc (Ac aa ae).size _;have ba:=aN ah ap.size)
      |(at_builtin;go_must(refine wpList_append_own_at _ rfl _ _ 30 rfl _ 57 i0 _ 1 24 cZ bc bd be bf rfl (by simp) _ _ _ rfl (Aj ad ap) _ 1 1 _ rfl rfl (B8 w3 [.slice aj L.length ak] 57) ?h1 (by simp only[cI];omega) (by omega) ba ?h2)))
     case h1=>simp only[List.forall_mem_cons];repeat(first|exact fun _ h=>absurd h dD|refine⟨rfl,?_⟩)
     case h2=>
      intro z2 w4 bk bb _ bl;have bm:z2.ownBlock=u9.ownBlock∨z2.ownBlock=C (w3.alloc (J [I aj L.length ak].toArray 57)).heap.size:=by rw[World.size_alloc];exact bl
      have bn:IsL Lw (FO _ u9) (w3.alloc (J [I aj L.length ak].toArray 57)) _ L:=
       (Nc an fun k hk=>⟨aN ah hk,fun e=>by have:=(az k e.symm).2;omega⟩).keep (Ak ((Ac ae (Aq _ _))))
      have bv:=L7 bk (ag.keep (Ak ap)) bn bb bm;go_wp2_with fail;go_roundw
      case rel=>exact⟨k+1,by omega,by rfl,by rw[E2.out];omega,(ac.trans (ap.mono ah)).grown bb ba fun k hk=>(az k hk).1⟩
      case measure=>simp[bK];omega
    ·have E2:Hid (Cx n (X.take (k+1))=Cx n (X.take k)):=by show _=_;rw[am.out,Il,ai];simp only;rw[if_neg hf];simp
     rw[show(decide _&&decide _)=U by grind]at HF;go_wp2_with(first|(go_fit(HV _);rintro e w2 ⟨⟨lv,rfl,an⟩,aa⟩;obtain⟨aj,ak,rfl⟩:=Eu.shape (Eu.of_own an);have t2:=Aa ((aa.block _ (aB ab)).trans ab) (j:=0) rfl;have t3:=Aa ((aa.block _ (aB ab)).trans ab) (j:=1) rfl)|(go_fit(HF _ _ _);rintro e w3 ⟨rfl,ae⟩));go_roundw
     case rel=>exact⟨k+1,by omega,by rfl,by rw[E2.out];exact Dq.below (Dq.below ⟨cs,ad,ag⟩ aa) ae,(ac.trans (aa.mono ah)).trans (ae.mono (by have:=aa.size;omega))⟩
     case measure=>simp[bK];omega
  ·have bo:k=X.length:=by omega
   subst bo;have v1:¬(X.length<(X.length:Int)):=by omega
   rw[bU]at ad ag;go_wp2;go_ret;exact⟨_,rfl,Dq.base ⟨cs,ad,ag⟩ au.size,au.trans (ac.mono au.size)⟩
theorem Nd.ans {w w'}{e}{A}(h:Nd w w' e A):Afn w w' e A:=by
 obtain⟨rv,h1,h2,h3⟩:=h;exact⟨rv,h1,h2.isL fun k hk=>hk,h3⟩
theorem Anm (aa:Wd)(T)(pv)(so)(n sc)(lo hi:Wd)(w)(hp:Bi w pv T)(hg:As T)(hT:T.length≤100000)(hx:∀x∈rng T lo hi,x.2.size≤1000000):
  bE aE 106 #[pv,cC #[aJ aa,I so n sc],J0 noW lo hi] w fun e w'=>Afn w w' e (F3 n (rng T lo hi)):=
 (Aaj aa T pv so n sc lo hi w hp hg hT hx).mono fun _ _ h=>h.ans
end
section
open Go.RowKit
open Go.Sort (Holds holds_grow holds_putRow holds_ahead grow grow_empty heap_grow_old heap_ahead SWO PermIn SortedIn putCells)
structure Gro (w w':O):Prop where
 bel:bO w.heap.size w w'
 dr:w.drawn≤w'.drawn
theorem Gro.refl (w):Gro w w:=⟨bB _ _,aK _⟩
theorem Gro.trans {u v w}(h:Gro u v)(k:Gro v w):Gro u w:=⟨h.bel.trans (k.bel.mono h.bel.size),aN h.dr k.dr⟩
theorem Gro.drew {w w'}(h:Gro w w'):Gro w w'.drew:=⟨h.bel.drew,aN h.dr (by simp)⟩
theorem Gro.alloc {w w'}(h:Gro w w')(o):Gro w (w'.alloc o):=⟨h.bel.alloc h.bel.size _,h.dr⟩
theorem Gro.grow {w w'}(h:Gro w w'):∃q os,w'=Go.Sort.grow (w.drewN q) os:=by
 obtain⟨p,hp⟩:=regrown_of_below h.bel;have hd:w'.drawn=p.d:=by rw[hp];rfl
 refine⟨w'.drawn-w.drawn,p.os,?_⟩;have aa:=h.dr;have e:redrawn w p.d=w.drewN (w'.drawn-w.drawn):=by
  unfold redrawn World.drewN;rw[show w.drawn+(w'.drawn-w.drawn)=p.d from by omega]
 grind
theorem Ac3 (a b)(w):bE aE 122 #[a.val,b.val] w fun e w'=>e=aH (bC bH (Bs a b))∧Gro w w':=by
 obtain⟨k1,n1,s1⟩:=a;obtain⟨k2,n2,s2⟩:=b;show bE _ 122 #[cC #[bC _ k1,bC _ n1,aJ s1],cC #[bC _ k2,bC _ n2,aJ s2]] w _;go_enter Tryz.func122,Tryz.ntmps122;go_wp2
 go_region_held3(fun w'=>w'.cell? ⟨w.heap.size,0,D⟩=C (bC bH k1)∧w'.cell? ⟨w.heap.size,1,D⟩=C (bC bH n1)∧w'.cell? ⟨w.heap.size,2,D⟩=C (aJ s1)∧w'.cell? ⟨w.heap.size+1,0,D⟩=C (bC bH k2)∧w'.cell? ⟨w.heap.size+1,1,D⟩=C (bC bH n2)∧w'.cell? ⟨w.heap.size+1,2,D⟩=C (aJ s2)) (go_keep)
  (first|(go_at_call 203;refine(Acl _ _ _).mono ?_;rintro e w' ⟨rfl,rfl⟩)|(go_at_call 165;refine(Qj _ _ _).mono ?_;rintro e w' ⟨rfl,rfl⟩)|(go_at_call 127;refine(Ajw (Hd k1 k2) (Hd n1 n2) (Fy s1 s2) _ _ _ ?_ ?_ ?_).mono ?_;(simp[go_sem]);(simp[go_sem]);(simp[go_sem]);rintro e w' ⟨rfl,rfl⟩))
 go_wp2;go_ret;refine⟨rfl,?_⟩
 repeat first|exact Gro.refl _|apply Gro.drew|apply Gro.alloc
theorem Aty {G W}{b c o1 o2}{x1 x2 x3 x4 x5 x6}
  (h:G.cell? ⟨b,o1,D⟩=C x1∧G.cell? ⟨b,o1+1,D⟩=C x2∧G.cell? ⟨b,o1+2,D⟩=C x3∧G.cell? ⟨c,o2,D⟩=C x4∧G.cell? ⟨c,o2+1,D⟩=C x5∧G.cell? ⟨c,o2+2,D⟩=C x6) (hb:bO G.heap.size G W) (h1:b<G.heap.size) (h2:c<G.heap.size):
  W.cell? ⟨b,o1,D⟩=C x1∧W.cell? ⟨b,o1+1,D⟩=C x2∧W.cell? ⟨b,o1+2,D⟩=C x3∧W.cell? ⟨c,o2,D⟩=C x4∧W.cell? ⟨c,o2+1,D⟩=C x5∧W.cell? ⟨c,o2+2,D⟩=C x6:=by
 have k:=(E5 hb).1;grind
theorem Akg (x y)(xv yv)(w)(hx:Cq w xv x)(hy:Cq w yv y)(h1:0<x.length)(h2:0<y.length):
  bE aE 121 #[xv,yv] w fun e w'=>e=aH (bC bH (Bs (x.headD zero) (y.headD zero)))∧Gro w w':=by
 obtain⟨u,hu⟩:∃u,x[0]?=C u:=⟨_,aA h1⟩;obtain⟨v,hv⟩:∃v,y[0]?=C v:=⟨_,aA h2⟩;have e1:x.headD zero=u:=by rw[cL,cM,hu];rfl
 have e2:y.headD zero=v:=by rw[cL,cM,hv];rfl
 rw[e1,e2];rcases hx with⟨_,rfl⟩|⟨b,o1,c1,rfl,hb,hX⟩
 ·simp at h1
 rcases hy with⟨_,rfl⟩|⟨c,o2,c2,rfl,hc,hY⟩
 ·simp at h2
 obtain⟨f0,f1,f2⟩:=hX 0 u hu;obtain⟨g0,g1,g2⟩:=hY 0 v hv;simp only[Nat.zero_mul,bD]at f0 f1 f2 g0 g1 g2;have HC:=fun W=>Ac3 u v W
 generalize Bs u v=m at HC;obtain⟨uk,un,us⟩:=u;obtain⟨vk,vn,vs⟩:=v;simp only[V.val]at HC;simp only at f0 f1 f2 g0 g1 g2;have p1:(0:Int)<x.length:=by omega
 have p2:(0:Int)<y.length:=by omega
 have KS:Hid _:=fun W h=>Aty (W:=W) ⟨f0,f1,f2,g0,g1,g2⟩ h hb hc
 have s0:=KS.out _ (bB _ _).drew;clear hX hY hu hv e1 e2 f0 f1 f2 g0 g1 g2;generalize x.length=nx at*;generalize y.length=ny at*;go_enter Tryz.func121,Tryz.ntmps121;go_wp2_with fail
 go_region_held3(fun W=>W.cell? ⟨b,o1,D⟩=C (bC bH uk)∧W.cell? ⟨b,o1+1,D⟩=C (bC bH un)∧W.cell? ⟨b,o1+2,D⟩=C (aJ us)∧W.cell? ⟨c,o2,D⟩=C (bC bH vk)∧W.cell? ⟨c,o2+1,D⟩=C (bC bH vn)∧W.cell? ⟨c,o2+2,D⟩=C (aJ vs)) (with_reducible omega)
  (first|(go_fit(HC _);rintro e w2 ⟨rfl,aa⟩;have ab:=(Gro.refl w).drew.trans aa;have s1:=KS.out w2 ab.bel))
 go_wp2_with fail;go_ret;simp_all
theorem Ui (a b):Bs a b<0↔a.k<b.k∨(a.k=b.k∧(a.n<b.n∨(a.n=b.n∧klt a.s b.s=N))):=by
 unfold Bs or3;have hS:Fy a.s b.s<0↔klt a.s b.s=N:=by
  unfold Fy klt;split
  ·grind
  ·grind
 have hI:∀x y,(Hd x y=0↔x=y)∧(Hd x y<0↔x<y):=fun x y=>by
  unfold Hd;omega
 grind
theorem Aak (a):¬Bs a a<0:=by
 rw[Ui,Gs];simp
theorem Ac4 {a b c}(h1:Bs a b<0)(h2:Bs b c<0):Bs a c<0:=by
 rw[Ui]at*;rcases h1 with h1|⟨e1,h1|⟨f1,h1⟩⟩<;>rcases h2 with h2|⟨e2,h2|⟨f2,h2⟩⟩
 ·omega
 ·omega
 ·omega
 ·omega
 ·omega
 ·omega
 ·omega
 ·omega
 ·exact .inr ⟨by omega,.inr ⟨by omega,Co h1 h2⟩⟩
theorem Aal {a b c}(h1:¬Bs a b<0)(h2:¬Bs b c<0):¬Bs a c<0:=by
 rw[Ui]at*;rintro(h|⟨e,h|⟨f,h⟩⟩)
 ·omega
 ·omega
 ·by_cases aa:a.k<b.k
  ·omega
  ·by_cases ab:b.k<c.k
   ·omega
   ·by_cases hn:a.n<b.n
    ·omega
    ·by_cases ac:b.n<c.n
     ·omega
     ·have k1:klt a.s b.s=U:=by
       cases hk:klt a.s b.s with
       |false=>rfl
       |true=>grind
      have:=Xi k1 h;grind
abbrev Ajl (B:Nat)(z:M)(w:O):Type:={p:M×List V//IsL Lw (FO B z) w p.1 p.2∧0<p.2.length}
def Ajl.enc {B:Nat}{z:M}{w:O}(x:Ajl B z w):M:=x.1.1
def Ajl.cmp {B:Nat}{z:M}{w:O}(x y:Ajl B z w):Int:=Bs (x.1.2.headD zero) (y.1.2.headD zero)
theorem Ag2 {B}{z}{w}:∀{A:List (List V)}{cs:List M},All Ek (FO B z) w A cs→(∀r∈A,0<r.length)→∃L:List (Ajl B z w),L.map Ajl.enc=cs∧L.map (fun x=>x.1.2)=A
 |[],cs,h,_=>⟨[],by have:cs=[]:=h;grind,rfl⟩
 |r::A,cs,h,hn=>by
  obtain⟨c,rest,rfl,⟨sv,rfl,h1⟩,h2⟩:=h;obtain⟨L,h3,h4⟩:=Ag2 h2 fun q hq=>hn q (by simp[hq])
  exact⟨⟨(sv,r),h1,hn r (by simp)⟩::L,by simp[h3,Ajl.enc],by grind⟩
theorem Ac5 {B}{z}{w}:∀(L:List (Ajl B z w)),All Ek (FO B z) w (L.map fun x=>x.1.2) (L.map Ajl.enc)
 |[]=>rfl
 |x::L=>⟨[x.enc],L.map Ajl.enc,rfl,⟨x.enc,rfl,x.2.1⟩,Ac5 L⟩
theorem Atz {B}{z}{w}:Go.Proofs.OneCell (Ajl.enc (B:=B) (z:=z) (w:=w)):=fun x=>by
 obtain⟨ao,c,h⟩:=x.2.1.shape;unfold Ajl.enc;rw[h];rfl
theorem At0 {B}{z}{w}:SWO (aO (Ajl.cmp (B:=B) (z:=z) (w:=w))) where
 irrefl x:=by unfold aO Ajl.cmp;exact decide_eq_false (Aak _)
 trans x y z h1 h2:=by
  unfold aO Ajl.cmp at*;exact decide_eq_true (Ac4 (of_decide_eq_true h1) (of_decide_eq_true h2))
 ntrans x y z h1 h2:=by
  unfold aO Ajl.cmp at*;exact decide_eq_false (Aal (of_decide_eq_false h1) (of_decide_eq_false h2))
theorem Qt {α}[Inhabited α]{B}{w}{g cap n}(enc)(m)(d:Array α)(os):Keeps (FO B (I (C ⟨g,0,D⟩) n cap)) w (aL enc w g 0 m d os):=by
 unfold aL;refine⟨by simp,fun k hk hl=>?_⟩;have aa:g≠k:=fun e=>hk.2 (by simp[aR,e])
 rw[heap_grow_old _ _ (by simp_all)];simp[bZ,bR,aX,aa]
theorem Ac6 {α}[Inhabited α]{B}{w}{g}(hB:B≤g)(hw:B≤w.heap.size)(enc)(m)(d:Array α)(os):bO B w (aL enc w g 0 m d os):=by
 unfold aL;refine⟨rfl,rfl,rfl,by simp,fun k hk=>?_⟩;rw[heap_grow_old _ _ (by simp;omega)];have aa:g≠k:=by omega
 simp[bZ,bR,aX,aa]
theorem Akh {α}[Inhabited α](enc)(cur)(ts:List α)(h:ts.length≤cur.size):(putCells enc 0 ts.toArray cur).toList.take ts.length=ts.map enc:=by
 apply dA;intro j
 by_cases hj:j<ts.length
 ·rw[aU hj,Array.getElem?_toList];simp[putCells,hj,show j<cur.size by omega]
 grind
theorem Ag3 {α}[Inhabited α]{w}{g}{cur}{t}(h:w.heap[g]?=C (J cur t (0,0)))(enc)(m)(d:Array α)(os):(aL enc w g 0 m d os).heap[g]?=C (J (putCells enc 0 d cur) t (0,0)):=by
 unfold aL;rw[heap_grow_old _ _ (by simpa using aB h)];simp[bZ,bR,aX,h,Go.Sort.onCells]
theorem Me {α:Type}{d:Array α}{n}(h:d.size=n):d.extract 0 n=d:=by grind
theorem Aki (A)(z)(B)(w)(h:Dq B z A w)(hB:B≤w.heap.size)(ag:∀r∈A,0<r.length)(hl:A.length≤1000000):
  bE aE 120 #[z,.func (.func 121) #[] #[]] w fun e w'=>e=aH (.tuple #[])∧∃A',A'.Perm A∧(A'.Pairwise fun a b=>¬Bs (b.headD zero) (a.headD zero)<0)∧Dq B z A' w'∧bO B w w':=by
 obtain⟨cs,ac,aa⟩:=h;have ad:=ac;rcases ac.2 with⟨rfl,h0⟩|⟨g,cap,cur,rfl,hBg,hh,hnc,hcm,hcs,htake⟩
 ·have hA:=aG h0;subst hA;refine(cJ Tryz.sortRows0 D 0 _ w).mono ?_;rintro e w' ⟨rfl,rfl⟩;exact⟨rfl,[],cV _,cG,⟨cs,ad,aa⟩,bB _ _⟩
 ·rcases A with _|⟨r0,A0⟩
  ·refine(cJ Tryz.sortRows0 _ cap _ w).mono ?_;rintro e w' ⟨rfl,rfl⟩;exact⟨rfl,[],cV _,cG,⟨cs,ad,aa⟩,bB _ _⟩
  generalize ah:r0::A0=A at*;obtain⟨L,ai,aj⟩:=Ag2 aa ag;have ae:=by have:=congrArg List.length aj;simpa using this
  have aq:0<L.length:=by rw[ae,←ah];simp
  have ar:Inhabited _:=⟨L[0]⟩;have hH:Holds (Ajl.enc) w g 0 L.toArray:=by
   intro j hj;have ab:j<L.length:=by simpa using hj
   refine⟨?_,by simp[aM,hh]⟩;have hc:cs[j]?=C (Ajl.enc L[j]):=by rw[←ai,List.getElem?_map,aA ab];rfl
   rw[getElem!_pos _ j hj,Nat.zero_add];refine Aa hh ?_;rw[←htake,aU (by omega)]at hc;simpa using hc
  have eg:∀args w,(callFunc 121 args).run _ w=.ok _ w:=enters_of Tryz.func121 (by rfl) rfl;have ak:Go.Proofs.CmpLays1 aE 121 #[] (Ajl.enc) (Ajl.cmp (B:=B) (z:=I (C ⟨g,0,D⟩) A.length cap) (w:=w)) g 0 L.toArray.size w:=by
   intro m os dk _ x y;have hk:=Qt (B:=B) (w:=w) (g:=g) (cap:=cap) (n:=A.length) (Ajl.enc (B:=B) (z:=I (C ⟨g,0,D⟩) A.length cap) (w:=w)) m dk os;refine(Akg x.1.2 y.1.2 x.1.1 y.1.1 _ (F4 (x.2.1.keep hk)) (F4 (y.2.1.keep hk)) x.2.2 y.2.2).mono ?_;rintro e w' ⟨rfl,hg⟩;exact⟨rfl,hg.grow⟩
  have hS:=Any.slices_SortFunc Tryz.sortRows _ Atz _ At0 121 #[] g 0 cap _ w eg ak hH (aB hh) (by grind);have es:L.toArray.size=A.length:=by simp[ae]
  rw[es]at hS;refine hS.mono ?_;rintro e w' ⟨rfl,d',n',os,hp,hs,rfl⟩;obtain⟨al,_,af⟩:=hp;have am:d'.size=A.length:=by rw[al];exact es
  have au:=by
   have e1:d'.extract 0 A.length=d':=Me am;have e2:L.toArray.extract 0 A.length=L.toArray:=Me es;rw[e1,e2]at af;simpa using af
  refine⟨rfl,d'.toList.map (fun x=>x.1.2),?_,?_,?_,Ac6 hBg hB _ _ _ _⟩
  ·grind
  ·rw[List.pairwise_map,List.pairwise_iff_getElem];intro i j hi hj an;have ap:=by simpa using hi
   have ab:=by simpa using hj
   have:=hs i j (bG _) an (by omega);rw[getElem!_pos d' i ap,getElem!_pos d' j ab]at this;have h2:=of_decide_eq_false this;assumption
  ·refine⟨d'.toList.map Ajl.enc,⟨by simp,.inr ⟨g,cap,_,by grind,hBg,Ag3 hh _ _ _ _,by grind,hcm,by simp[putCells,hcs],?_⟩⟩,?_⟩
   ·have:=Akh (Ajl.enc) cur d'.toList (by grind);simp_all
   ·exact All.keep (Qt _ n' d' os) (Ac5 _)
end
section
open Go.RowKit
open Go.Sort (SWO)
structure Cmp {α:Type}(c:α→α→Int):Prop where
 anti:∀x y,c x y<0↔0<c y x
 trans:∀x y z,c x y≤0→c y z≤0→c x z≤0
theorem Cmp.swo {α}{c:α→α→Int}(h:Cmp c):SWO (aO c) where
 irrefl x:=by unfold aO;refine decide_eq_false fun hl=>?_;have:=(h.anti x x).1 hl;omega
 trans x y z h1 h2:=by
  unfold aO at*;have a:=of_decide_eq_true h1;have b:=of_decide_eq_true h2;refine decide_eq_true ?_;have h3:=h.trans x y z (by omega) (by omega);rcases Int.lt_or_eq_of_le h3 with h4|h4
  ·omega
  ·have h5:c z x≤0:=by
    have:=h.anti x z;have:=h.anti z x;omega
   have h6:=h.trans z x y h5 (by omega);have:=(h.anti y z).1 b;omega
 ntrans x y z h1 h2:=by
  unfold aO at*;have a:=of_decide_eq_false h1;have b:=of_decide_eq_false h2;refine decide_eq_false fun h3=>?_
  have e1:=h.anti x y;have e2:=h.anti y z;have e3:=h.anti x z;have h4:=h.trans z y x (by omega) (by omega);omega
theorem Cmp.pull {α β}{c}(h:Cmp c)(f:β→α):Cmp (fun x y=>c (f x) (f y)):=⟨fun x y=>h.anti _ _,fun x y z=>h.trans _ _ _⟩
theorem Cmp.neg {α}{c:α→α→Int}(h:Cmp c):Cmp (fun x y=> -1*c x y):=by
 refine⟨fun x y=>?_,fun x y z h1 h2=>?_⟩
 ·have:=h.anti y x;omega
 ·have a:=h.anti x y;have b:=h.anti y z;have d:=h.anti x z;have a':=h.anti y x;have b':=h.anti z y;have d':=h.anti z x;have:=h.trans z y x (by omega) (by omega);omega
theorem Cmp.one {α}{c:α→α→Int}(h:Cmp c):Cmp (fun x y=>1*c x y):=by grind
def Akj {α:Type}(c d:α→α→Int)(x y:α):Int:=if c x y=0 then d x y else c x y
theorem Cmp.lex {α}{c d:α→α→Int}(h:Cmp c)(k:Cmp d):Cmp (Akj c d):=by
 refine⟨fun x y=>?_,fun x y z h1 h2=>?_⟩
 ·have a:=h.anti x y;have b:=h.anti y x;have e:=k.anti x y;unfold Akj;omega
 ·unfold Akj at*;have ax:=h.anti x y;have ay:=h.anti y z;have az:=h.anti x z;have bx:=h.anti y x;have aa:=h.anti z y;have bz:=h.anti z x;have hx:c x y≤0:=by split at h1<;>omega
  have hy:c y z≤0:=by split at h2<;>omega
  have hz:=h.trans x y z hx hy
  by_cases h0:c x z=0
  ·rw[if_pos h0];have e1:c x y=0:=by
    have:=h.trans y z x hy (by omega);omega
   have e2:c y z=0:=by
    have:=h.trans z x y (by omega) hx;omega
   rw[if_pos e1]at h1;rw[if_pos e2]at h2;exact k.trans x y z h1 h2
  omega
theorem Qu (a b):(a<b∧Hd a b= -1)∨(a=b∧Hd a b=0)∨(b<a∧Hd a b=1):=by
 unfold Hd;omega
theorem Ac7 (a b):(klt a b=N∧Fy a b= -1)∨(a=b∧Fy a b=0)∨(klt b a=N∧Fy a b=1):=by
 unfold Fy;have e:Op.bytesLess _ _=klt a b:=rfl;rw[e];cases h:klt a b with
 |true=>simp
 |false=>
  rcases Jh h with h2|h2
  ·grind
  ·refine .inr (.inr ⟨h2,?_⟩);have:(a.toList==b.toList)=U:=by
    rw[beq_eq_false_iff_ne];intro he;rw[Lib.toList_data,Lib.toList_data]at he;have:a=b:=by
     obtain⟨a⟩:=a;obtain⟨b⟩:=b;exact congrArg ByteArray.mk (Array.toList_inj.1 he)
    rw[this,Gs]at h2;cases h2
   grind
theorem Ac8 (a b):Bs a b= -1∨Bs a b=0∨Bs a b=1:=by
 unfold Bs or3;have h1:=Qu a.k b.k;have h2:=Qu a.n b.n;have h3:=Ac7 a.s b.s;omega
theorem A37:Cmp Bs:=by
 have aa:∀a b,0<Bs b a↔(b.k>a.k∨(b.k=a.k∧(b.n>a.n∨(b.n=a.n∧klt a.s b.s=N)))):=fun a b=>by
  unfold Bs or3;have h1:=Qu b.k a.k;have h2:=Qu b.n a.n;split
  ·split
   ·rcases(Ac7 b.s a.s)with⟨h,h'⟩|⟨h,h'⟩|⟨h,h'⟩
    ·have:=Kv h;grind
    ·rw[h',h,Gs];grind
    grind
   omega
  omega
 have anti:∀a b,Bs a b<0↔0<Bs b a:=fun a b=>by
  rw[Ui,aa];grind
 refine⟨anti,fun a b c h1 h2=>?_⟩;have e1:=anti b a;have e2:=anti c b;have e3:=anti c a;have:=Aal (a:=c) (b:=b) (c:=a) (by omega) (by omega);omega
def Ex:List V→List V→Int
 |[],[]=>0
 |[],_::_=> -1
 |_::_,[]=>1
 |a::l,b::m=>if Bs a b=0 then Ex l m else Bs a b
theorem Ac9:∀A B:List V,Ex A B= -1∨Ex A B=0∨Ex A B=1
 |[],[]=>.inr (.inl rfl)
 |[],_::_=>.inl rfl
 |_::_,[]=>.inr (.inr rfl)
 |a::l,b::m=>by
  unfold Ex;split
  ·exact Ac9 l m
  ·exact Ac8 a b
theorem A38:Cmp Ex:=by
 have anti:∀x y,Ex x y<0↔0<Ex y x:=by
  intro x
  induction x with
  |nil=>intro y;cases y<;>simp[Ex]
  |cons a l ih=>
   intro y;cases y with
   |nil=>rfl
   |cons b m=>
    have h1:=A37.anti a b;have h2:=A37.anti b a;unfold Ex;grind
 refine⟨anti,fun x=>?_⟩
 induction x with
 |nil=>
  intro y z _ _;cases z<;>simp[Ex]
 |cons a l ih=>
  intro y z h1 h2;cases y with
  |nil=>simp[Ex]at h1
  |cons b m=>
   cases z with
   |nil=>assumption
   |cons c o=>
    unfold Ex at h1 h2⊢;have ax:=A37.anti a b;have bx:=A37.anti b a;have ay:=A37.anti b c;have aa:=A37.anti c b;have az:=A37.anti a c;have bz:=A37.anti c a;have hx:Bs a b≤0:=by split at h1<;>omega
    have hy:Bs b c≤0:=by split at h2<;>omega
    have hz:=A37.trans a b c hx hy
    by_cases h0:Bs a c=0
    ·rw[if_pos h0];have e1:Bs a b=0:=by
      have:=A37.trans b c a hy (by omega);omega
     have e2:Bs b c=0:=by
      have:=A37.trans c a b (by omega) hx;omega
     grind
    omega
theorem At1 {A B:List V}{k}{a b}(ha:A[k]?=C a)(hb:B[k]?=C b):Ex (A.drop k) (B.drop k)=if Bs a b=0 then Ex (A.drop (k+1)) (B.drop (k+1))else Bs a b:=by
 obtain⟨h1,rfl⟩:=aF.1 ha;obtain⟨h2,rfl⟩:=aF.1 hb;rw[aT h1,aT h2,Ex]
theorem Ada (A B:List V)(av bv:M)(w:O)(ha:Cq w av A)(hb:Cq w bv B)(al:A.length≤1000000)(am:B.length≤1000000):
  bE aE 207 #[av,bv,.func (.func 122) #[] #[]] w fun e w'=>e=aH (bC bH (Ex A B))∧Gro w w':=by
 obtain⟨ao,ac,ah⟩:=ha.shape;subst ah;obtain⟨bo,bc,ai⟩:=hb.shape;subst ai;have HA:Hid _:=ha;have HB:Hid _:=hb;have af:Hid (Ex A B=Ex (A.drop 0) (B.drop 0)):=by show _=_;simp
 generalize aj:Ex A B=res at af;clear ha hb aj;go_enter Tryz.func207,Tryz.ntmps207;go_wp2
 go_loopw[13] (fun i wr=>∃k:Nat,k≤A.length∧k≤B.length∧i=bC bH k∧Hid (res=Ex (A.drop k) (B.drop k))∧Gro w wr) (fun i _=>A.length-(bK i).toNat)
 case atStart=>exact⟨0,bG _,bG _,rfl,af.out,Gro.refl _⟩
 case round=>
  obtain⟨k,hk,an,rfl,HE,hg⟩:=hrel
  by_cases ab:k<A.length
  ·obtain⟨u,hu⟩:∃u,A[k]?=C u:=⟨_,aA ab⟩;rcases Cq.below HA.out hg.bel with⟨_,h0⟩|⟨b1,o1,c1,hv1,hb1,hR1⟩
   ·rw[h0]at ab;simp at ab
   cases hv1;obtain⟨f0,f1,f2⟩:=hR1 k u hu;have v0:(0:Int)≤(k:Int):=by omega
   have v1:(k:Int)<(A.length:Int):=by omega
   by_cases ae:k<B.length
   ·obtain⟨x,hx⟩:∃x,B[k]?=C x:=⟨_,aA ae⟩;have ag:=Aq wr (J #[bC bH u.k,bC bH u.n,aJ u.s] 59);rcases Cq.below (Cq.below HB.out hg.bel) ag with⟨_,h0⟩|⟨b2,o2,c2,hv2,hb2,hR2⟩
    ·rw[h0]at ae;simp at ae
    cases hv2;obtain⟨g0,g1,g2⟩:=hR2 k x hx;have HD:Hid _:=At1 hu hx;have HC:=fun W=>Ac3 u x W
    have hm:=Ac8 u x;generalize Bs u x=m at HC HD hm;obtain⟨uk,un,us⟩:=u;obtain⟨xk,xn,xs⟩:=x;simp only[V.val]at HC;simp only at f0 f1 f2 g0 g1 g2 ag;have v2:k<(B.length:Int):=by omega
    have v3:¬(B.length≤(k:Int)):=by omega
    have HJ:Hid (k+1≤A.length∧k+1≤B.length):=⟨ab,ae⟩;clear hu hx hR1 hR2;rcases hm with rfl|rfl|rfl
    ·go_wp2_with(go_fit(HC _);rintro e w2 ⟨rfl,ad⟩);go_ret;exact⟨Au (by rw[HE.out,HD.out];rfl),(hg.trans (((Gro.refl _).alloc _).alloc _)).trans ad⟩
    ·go_wp2_with(go_fit(HC _);rintro e w2 ⟨rfl,ad⟩);go_roundw
     case rel=>exact⟨_,HJ.out.1,HJ.out.2,by rfl,by show _=_;rw[HE.out,HD.out];rfl,(hg.trans (((Gro.refl _).alloc _).alloc _)).trans ad⟩
     case measure=>have:=HJ.out.1;simp[bK];omega
    ·go_wp2_with(go_fit(HC _);rintro e w2 ⟨rfl,ad⟩);go_ret;exact⟨Au (by rw[HE.out,HD.out];rfl),(hg.trans (((Gro.refl _).alloc _).alloc _)).trans ad⟩
   ·have aa:k=B.length:=by omega
    have v3:(B.length≤(k:Int)):=by omega
    have HR:Hid (res=1):=by
     show _=_;rw[HE.out,aa,bX,←aa,aT ab];rfl
    obtain⟨uk,un,us⟩:=u;simp only at f0 f1 f2;clear hu hR1 aa;go_wp2;go_ret;exact⟨Au (by rw[HR.out]),hg.alloc _⟩
  ·have aa:k=A.length:=by omega
   have v1:¬(k<(A.length:Int)):=by omega
   by_cases ak:A.length<B.length
   ·have v2:(A.length<(B.length:Int)):=by omega
    have HR:Hid (res= -1):=by
     show _=_;rw[HE.out,aa,bX,aT ak];rfl
    clear aa;go_wp2;go_ret;exact⟨Au (by rw[HR.out]),hg⟩
   ·have v2:¬(A.length<(B.length:Int)):=by omega
    have HR:Hid (res=0):=by
     show _=_;rw[HE.out,aa,bX,List.drop_of_length_le (by omega)];rfl
    clear aa;go_wp2;go_ret;exact⟨Au (by rw[HR.out]),hg⟩
theorem Uj (A B)(av bv)(w)(ha:Cq w av A)(hb:Cq w bv B)(aa:A.length≤1000000)(ab:B.length≤1000000):
  bE aE 128 #[av,bv] w fun e w'=>e=aH (bC bH (Ex A B))∧Gro w w':=by
 have H:=Ada A B av bv w ha hb aa ab;generalize Ex A B=r at H;obtain⟨ao,ac,ad⟩:=ha.shape;subst ad;obtain⟨bo,bc,ae⟩:=hb.shape;subst ae;clear ha hb;go_enter Tryz.func128,Tryz.ntmps128;go_wp2_with(go_fit H;rintro e w2 ⟨rfl,af⟩);go_ret;simp_all
end
section
open Go.RowKit
theorem Arg {α}(X:List α)(o):aZ X o []=X:=by simp[aZ]
theorem Ann {α}(X)(o)(v)(cs:List α)(h:o<X.length):aZ (X.set o v) (o+1) cs=aZ X o (v::cs):=by
 have h1:(X.set o v).take (o+1)=X.take o++[v]:=by
  apply dA;intro i
  by_cases hi:i<o
  ·grind
  ·grind
 have h2:(X.set o v).drop _=X.drop (o+1+cs.length):=List.drop_set_of_lt (by omega);simp only[aZ,bV];grind
theorem Fo {g}{t}:∀(cs:List M) (o:Nat) (X:List M) (w:O),w.heap[g]?=C (J X.toArray t)→o+cs.length≤X.length→
  (w.setCells g o cs).heap[g]?=C (J (aZ X o cs).toArray t)
 |[],o,X,w,h,_=>by rw[dF,Arg];omega
 |v::cs,o,X,w,h,hl=>by
  rw[dF];have hb:(w.setCell ⟨g,o,D⟩ v).heap[g]?=C (J (X.set o v).toArray t):=by
   rw[upd h o v];simp
  have:=Fo cs (o+1) _ _ hb (by grind);rw[this,Ann X o v cs (by grind)]
theorem Gg {w:O}(g o)(vs):w.grownBy (w.setCells g o vs) (C g):=by
 induction vs generalizing w o with
 |nil=>exact⟨rfl,rfl,rfl,aK _,fun _ _ _=>rfl⟩
 |cons v vs ih=>
  have h1:w.grownBy (w.setCell ⟨g,o,D⟩ v) (C g):=⟨rfl,rfl,rfl,by simp,fun k _ aa=>by
   simp only[World.setCell,aX];grind⟩
  have h2:=ih (w:=w.setCell ⟨g,o,D⟩ v) (o:=o+1);exact⟨h2.os.trans h1.os,h2.tape.trans h1.tape,h2.output.trans h1.output,aN h1.size h2.size,fun i hi aa=>(h2.block i (aC hi h1.size) aa).trans (h1.block i hi aa)⟩
theorem Cj {a b c:O}{r}(h:a.grownBy b r)(k:b.grownBy c r):a.grownBy c r:=
 ⟨k.os.trans h.os,k.tape.trans h.tape,k.output.trans h.output,aN h.size k.size,fun i hi aa=>(k.block i (aC hi h.size) aa).trans (h.block i hi aa)⟩
theorem A0x (w:O)(r):w.grownBy w r:=⟨rfl,rfl,rfl,aK _,fun _ _ _=>rfl⟩
theorem Ck {w w'}(r)(h:aP w.heap.size w w'):w.grownBy w' r:=⟨h.os,h.tape,h.output,h.size,fun k hk _=>h.block k hk⟩
theorem K6 {B}{w w'}{g}(hg:w.grownBy w' (C g))(hB:B≤g)(hw:B≤w.heap.size):aP B w w':=
 ⟨hg.os,hg.tape,hg.output,hg.size,fun k hk=>hg.block k (by omega) (fun e=>by grind)⟩
theorem Tp {α}(X)(o)(cs:List α)(h:o≤X.length):(aZ X o cs).take o=X.take o:=by
 simp only[aZ];grind
theorem F5 {α}(X)(o)(cs:List α)(h:o≤X.length):(aZ X o cs).take (o+cs.length)=X.take o++cs:=by
 simp only[aZ];grind
theorem Jc {α}(X)(o)(cs:List α)(j)(h:o≤X.length)(hj:o+cs.length≤j):(aZ X o cs)[j]?=X[j]?:=by
 simp only[aZ];rw[←List.append_assoc,cF (by grind),List.getElem?_drop];grind
section
variable {P:Program}
theorem Adb (w:O)(dT sT ty ab:bL)(g o ac af:Nat)(a:Addr)(aa ad:Nat)(X:List M)(t:bL)(cs:List M)(k:Nat)
  (hu:P.underlying dT=C (.slice ab)) (hs:(P.info? ab).map (·.size)=C k)
  (hg:w.heap[g]?=C (J X.toArray t)) (hn:cs.length=cE aa ac*k)
  (ag:∀j v,cs[j]?=C v→w.cell? (a.add j)=C v) (ah:o+cs.length≤X.length) (h1:∀v∈cs,v.oneCell'=N):
  (cB #[dT,sT] ty #[I (C ⟨g,o,D⟩) ac af,I (C a) aa ad]).run P w=.ok (goInt (cE aa ac)) (w.setCells g o cs):=by
 have ae:=dE (P:=P) g o cs 0 w (fun j hj=>by
   rw[Aa hg (u:=X[o+0+j]'(by omega)) (by simp)];rfl) (fun j hj=>by simp[aM,hg]) h1
 cases hq:P.info? ab with
 |none=>grind
 |some i=>
  have hi:=by simpa[hq]using hs
  simp only[bD]at ae;simp[cB,cN hu,Builtin.lenOf,sizeOf,typeInfo,hq,hi,run_firstCells_some (P:=P) (w:=w) k _ a aa ad cs hn ag,ae]
theorem Pm {w:O}(dT sT ac:bL)(k:Nat)(hu:P.underlying dT=C (.slice ac))(hs:(P.info? ac).map (·.size)=C k)(g o aa ad:Nat)(a:Addr)(ab ae:Nat)(X:List M)(t:bL)
  (hg:w.heap[g]?=C (J X.toArray t)) (cs:List M) (hn:cs.length=cE ab aa*k)
  (ag:∀j v,cs[j]?=C v→w.cell? (a.add j)=C v) (af:o+cs.length≤X.length) (h1:∀v∈cs,v.oneCell'=N):
  ∃w':O,(∀ty,(cB #[dT,sT] ty #[I (C ⟨g,o,D⟩) aa ad,I (C a) ab ae]).run P w=.ok (goInt (cE ab aa)) w')∧w'.heap[g]?=C (J (aZ X o cs).toArray t)∧w.grownBy w' (C g):=
 ⟨_,fun ty=>Adb w dT sT ty ac g o aa ad a ab ae X t cs k hu hs hg hn ag af h1,Fo cs o X w hg af,Gg g o cs⟩
theorem Pn {w:O}{af:Array Oper}{o:Oper}{a:Act}{K:Act→O→Prop}{Q:Exit→Act→O→Prop}{E:Prop}(aj:o.guard=D)(d s:Operand)(dT sT:bL)
  (ho:o.op=.call {callee:=.builtin .copy,args:=#[d,s],argTypes:=#[dT,sT]}) (ae:bL) (k:Nat) (hu:P.underlying dT=C (.slice ae)) (ak:(P.info? ae).map (·.size)=C k)
  (g aa ab ag:Nat) (ad:Addr) (ac ah:Nat) (hd:a.eval d=I (C ⟨g,aa,D⟩) ab ag) (hs:a.eval s=I (C ad) ac ah)
  (X:List M) (t:bL) (hg:w.heap[g]?=C (J X.toArray t)) (cs:List M) (hn:cs.length=cE ac ab*k)
  (al:∀j v,cs[j]?=C v→w.cell? (ad.add j)=C v) (ai:aa+cs.length≤X.length) (h1:∀v∈cs,v.oneCell'=N)
  (h:∀w',w'.heap[g]?=C (J (aZ X aa cs).toArray t)→w.grownBy w' (C g)→K (a.put o.dst (goInt (cE ac ab))) w'):
  if cD o (yielded af a.tmps)=N then Oper.wp P o a w K Q else E:=by
 have hw:cD o (yielded af a.tmps)=N:=by simp[cD,aj]
 rw[if_pos hw];unfold Oper.wp execOp;simp only[ho,resolve,invoke,builtin,Sem.run_bind,Sem.run_pure,Result.andThen_ok,List.map_toArray,List.map_cons,List.map_nil,hd,hs,(Adb w dT sT o.type ae g aa ab ag ad ac ah X t cs k hu ak hg hn al ai h1)];exact h _ (Fo cs aa X w hg ai) (Gg g aa cs)
theorem Axu (z:M)(n):(aD z.cells n).toList.length=n*z.cells.size:=by simp[aD]
theorem Po {w:O}(dT ab:bL)(k:Nat)(z:M)(hu:P.underlying dT=C (.slice ab))(hz:∀w,(cH ab).run P w=.ok z w)(hk:z.cells.size=k)(ad:∀n,∀v∈(aD z.cells n).toList,v.oneCell'=N)
  (g aa n c:Nat) (X:List M) (t:bL) (hg:w.heap[g]?=C (J X.toArray t)) (ae:aa+n*k≤X.length):
  ∃(w':O) (Y:List M),(∀ty,(cA #[dT] ty #[I (C ⟨g,aa,D⟩) n c]).run P w=.ok (.tuple #[]) w')∧w'.heap[g]?=C (J Y.toArray t)∧Y.length=X.length∧Y.take aa=X.take aa∧w.grownBy w' (C g):=by
 rcases bQ n with rfl|h0
 ·exact⟨w,X,fun ty=>by simp[cA,cN hu],hg,rfl,rfl,A0x _ _⟩
 ·have af:(aD z.cells n).toList.length=n*k:=by rw[Axu,hk]
  have ac:=dE (P:=P) g aa (aD z.cells n).toList 0 w (fun j hj=>by
   rw[Aa hg (u:=X[aa+0+j]'(by omega)) (by simp)];rfl) (fun j hj=>by simp[aM,hg]) (ad n)
  simp only[bD]at ac;obtain⟨m,rfl⟩:∃m,n=m+1:=⟨n-1,by omega⟩;exact⟨w.setCells g aa (aD z.cells (m+1)).toList,_,fun ty=>by simp[cA,cN hu,hz,ac],Fo _ aa X w hg (by omega),cS _ _ _ (by omega),Tp _ _ _ (by omega),Gg g aa _⟩
end
theorem G1 {w:O}{B}{e}{k n}{v}{xs}(h:w.ownsRow B e k v n xs):(v=I D 0 0∧n=0)∨
  ∃(g cap:Nat) (X:List M),v=I (C ⟨g,0,D⟩) n cap∧B≤g∧w.heap[g]?=C (J X.toArray e)∧n≤cap∧cap≤cI∧X.length=cap*k∧X.take (n*k)=xs:=by
 rcases h.2 with h|⟨g,cap,cur,h1,h2,h3,h4,h5,h6,h7⟩
 ·grind
 ·exact .inr ⟨g,cap,_,h1,h2,by omega,h4,h5,by omega,h7⟩
theorem Jl {w:O}{B}{e}{k n g cap}{X xs:List M}(h2:B≤g)(h3:w.heap[g]?=C (J X.toArray e))(h4:n≤cap)(h5:cap≤cI)(h6:X.length=cap*k)(h7:X.take (n*k)=xs):
  w.ownsRow B e k (I (C ⟨g,0,D⟩) n cap) n xs:=by
 refine⟨by rw[←h7,aS,h6];simp_all,.inr ⟨g,cap,_,rfl,h2,h3,h4,h5,by omega,by omega⟩⟩
theorem Uk {α}{K}{F}{w}:∀{l:List α}{cs:List M},All K F w l cs→∃CS:List (List M),cs=CS.flatten∧CS.length=l.length∧∀(i:Nat) (x:α) (c:List M),l[i]?=C x→CS[i]?=C c→K.R F w x c
 |[],cs,h=>⟨[],h,rfl,fun i x c hx=>by simp⟩
 |a::l,cs,h=>by
  obtain⟨c,rest,rfl,h2,h3⟩:=h;obtain⟨CS,rfl,h5,h6⟩:=Uk h3;refine⟨c::CS,rfl,by grind,fun i x d hx hd=>?_⟩;grind
theorem Lo {α}{K}{F}{w}:∀{l:List α}{CS:List (List M)},CS.length=l.length→(∀(i:Nat) (x:α) (c:List M),l[i]?=C x→CS[i]?=C c→K.R F w x c)→All K F w l CS.flatten
 |[],CS,h,_=>by have:=aG h;subst this;rfl
 |a::l,[],h,_=>by grind
 |a::l,c::CS,h,hr=>⟨c,CS.flatten,rfl,hr 0 a c rfl rfl,Lo (by grind) fun i x d hx hd=>hr (i+1) x d (by grind) (by grind)⟩
def Bv {α:Type}(p:Nat→Bool):Nat→List α→List α
 |_,[]=>[]
 |i,a::l=>if p i then Bv p (i+1) l else a::Bv p (i+1) l
theorem X3 {α}(p):∀(l m:List α) (i:Nat),Bv p i (l++m)=Bv p i l++Bv p (i+l.length) m
 |[],m,i=>by rfl
 |a::l,m,i=>by
  rw[List.cons_append,Bv,Bv,X3 p l m _,bV,show i+1+l.length=i+(l.length+1) by omega];grind
theorem In {α}(p)(l:List α)(j)(x)(h:l[j]?=C x):Bv p 0 (l.take (j+1))=Bv p 0 (l.take j)++(if p j then[]else[x]):=by
 rw[bF,h,X3];simp only[cP,aS,Nat.zero_add,aQ (Nat.le_of_lt ((aF.1 h).1)),Bv]
theorem Io {α}(p):∀(l:List α) (i:Nat),(∀j,i≤j→j<i+l.length→p j=U)→Bv p i l=l
 |[],i,_=>rfl
 |a::l,i,h=>by
  rw[Bv,if_neg (by grind),Io p l _ fun j h1 h2=>h j (by omega) (by grind)]
theorem Oc (p):∀(n i:Nat),Bk p i n= -1→∀j,i≤j→j<i+n→p j=U
 |0,i,_,j,h1,h2=>by omega
 |n+1,i,h,j,h1,h2=>by
  rw[Bk]at h;split at h
  ·omega
  ·rename_i hp
   by_cases hj:j=i
   ·grind
   ·exact Oc p n _ h j (by omega) (by omega)
theorem Od (p):∀(n i:Nat),Bk p i n= -1∨∃m:Nat,Bk p i n=(m:Int)∧i≤m∧m<i+n∧p m=N∧∀j,i≤j→j<m→p j=U
 |0,i=>.inl rfl
 |n+1,i=>by
  rw[Bk];split
  ·grind
  ·rename_i hp;rcases Od p n (i+1)with h|⟨m,h1,h2,h3,h4,h5⟩
   ·omega
   grind
theorem Gu {CS:List (List M)}{k}(h:∀c∈CS,c.length=k):CS.flatten.length=CS.length*k:=by
 induction CS with
 |nil=>simp
 |cons c CS ih=>
  grind
theorem Ki {k}:∀{CS:List (List M)},(∀c∈CS,c.length=k)→∀{i:Nat}{c:List M},CS[i]?=C c→∀r u,c[r]?=C u→CS.flatten[i*k+r]?=C u
 |[],_,i,c,hc=>by grind
 |d::CS,h,0,c,hc=>fun r u hr=>by grind
 |d::CS,h,i+1,c,hc=>fun r u hr=>by
  rw[List.flatten_cons,cF (by grind),h d (by simp),show(i+1) *k+r-k=i*k+r from by grind];exact Ki (fun x hx=>h x (by grind)) (by grind) r u hr
def Afo:Elem (List M) where
 size:=1
 R _ _ c cs:=cs=c∧Acx c
 len h:=by obtain⟨rfl,a1,n1,c1,rfl⟩:=h;rfl
 keep _ h:=h
 mono _ h:=h
theorem At2 {c}(h:Acx c):c.length=1:=by obtain⟨a1,n1,c1,rfl⟩:=h;rfl
theorem Axv:(Tryz.prog.info? 57).map (fun i=>(i.zero,i.size,i.bytes))=C (C (I D 0 0),1,24):=by kernel_rfl
theorem Adc {w}{B}{v}{CS}(h:w.ownsRow B 57 1 v CS.length CS.flatten)(hs:∀c∈CS,Acx c):IsL Afo (fun _=>True) w v CS:=
 ⟨CS.flatten,Bp.of_own h fun _ _=>trivial,Lo rfl fun i x c h1 h2=>by rw[h1]at h2;cases h2;exact⟨rfl,hs _ (aI h1)⟩⟩
def Afp:Elem (List M) where
 size:=3
 R _ _ c cs:=cs=c∧Acy c
 len h:=by obtain⟨rfl,a1,n1,c1,a2,n2,c2,a3,n3,c3,rfl⟩:=h;rfl
 keep _ h:=h
 mono _ h:=h
theorem At3 {c}(h:Acy c):c.length=3:=by obtain⟨a1,n1,c1,a2,n2,c2,a3,n3,c3,rfl⟩:=h;rfl
theorem Akk:(Tryz.prog.info? 115).map (fun i=>(i.zero,i.size,i.bytes))=C (C (cC #[I D 0 0,I D 0 0,I D 0 0]),3,72):=by kernel_rfl
theorem Axw:(Tryz.prog.info? 115).map (·.size)=C 3:=by kernel_rfl
theorem Add {w}{B}{v}{CS}(h:w.ownsRow B 115 3 v CS.length CS.flatten)(hs:∀c∈CS,Acy c):IsL Afp (fun _=>True) w v CS:=
 ⟨CS.flatten,Bp.of_own h fun _ _=>trivial,Lo rfl fun i x c h1 h2=>by rw[h1]at h2;cases h2;exact⟨rfl,hs _ (aI h1)⟩⟩
theorem Ano (n):∀u∈(aD ((I D 0 0):M).cells n).toList,u.oneCell'=N:=by
 intro u hu;simp only[aD,dB,bS]at hu;obtain⟨i,_,rfl⟩:=hu;have aa:i%1<1:=Nat.mod_lt _ (by simp);have ab:∀j,j<1→(((I D 0 0):M).cells[j]!).oneCell'=N:=by
  intro j hj;obtain rfl:j=0:=by omega
  all_goals rfl
 exact ab _ aa
theorem Anp (n):∀u∈(aD ((cC #[I D 0 0,I D 0 0,I D 0 0]):M).cells n).toList,u.oneCell'=N:=by
 intro u hu;simp only[aD,dB,bS]at hu;obtain⟨i,_,rfl⟩:=hu;have aa:i%3<3:=Nat.mod_lt _ (by simp);have ab:∀j,j<3→(((cC #[I D 0 0,I D 0 0,I D 0 0]):M).cells[j]!).oneCell'=N:=by
  intro j hj;rcases(by omega:j=0∨j=1∨j=2)with rfl|rfl|rfl
  all_goals rfl
 exact ab _ aa
theorem Anq (l)(ao)(n c:Nat)(f0:M)(p:Nat→Bool)(St:Nat→O→Prop)(En:O→Prop)(w:O)(ag:∀i W,St i W→En W)(ad:∀i W,St i W→IsL Afo (fun _=>True) W (I ao n c) l)
  (ah:∀i cs W,l[i]?=C cs→St i W→bE aE 118 #[cs.headD (dI U),f0] W fun e W'=>e=aH (dI (p i))∧En W'∧(p i=U→St (i+1) W')) (h0:St 0 w):
  bE aE 199 #[I ao n c,.func (.func 118) #[] #[f0]] w fun e W'=>e=aH (bC bH (Bk p 0 l.length))∧En W':=by
 obtain⟨hn,ai⟩:=Ew (ad 0 w h0);subst hn;unfold cI at ai;go_enter Tryz.func199,Tryz.ntmps199;go_wp2
 go_loopw[8] (fun i wr=>∃k:Nat,k≤l.length∧i=bC bH k∧St k wr∧Hid (Bk p 0 l.length=Bk p k (l.length-k))) (fun i _=>l.length-(bK i).toNat)
 case atStart=>exact⟨0,bG _,rfl,h0,rfl⟩
 case round=>
  obtain⟨k,hk,rfl,aa,HP⟩:=hrel
  by_cases ae:k<l.length
  ·obtain⟨x,hx⟩:∃x,l[k]?=C x:=⟨_,aA ae⟩;obtain⟨b,ak,cs,rfl,_,hb,hR,af⟩:=Av (ad k wr aa) hx;have HC:=ah k x wr hx aa;obtain⟨rfl,aj⟩:=hR;obtain⟨a1,n1,c1,rfl⟩:=aj;have d0:=af 0 _ rfl;simp only[Afo,bD,bM]at d0;have k0:(0:Int)≤k:=by omega
   have k1:k<(l.length:Int):=by omega
   have ab:Hid _:=L5 p k _ ae;clear af hx;generalize hq:p k=q at HC ab;clear hq;cases q
   ·go_wp2_with(go_fit HC;rintro e W' ⟨rfl,_,ac⟩);go_roundw
    case rel=>exact⟨_,by omega,by rfl,ac (by simp),by rw[HP.out,ab.out];rfl⟩
    case measure=>simp[bK];omega
   ·go_wp2_with(go_fit HC;rintro e W' ⟨rfl,ac,_⟩);go_ret;exact⟨Au (by rw[HP.out,ab.out];rfl),ac⟩
  ·have HE:Hid (Bk p k (l.length-k)= -1):=by show _=_;rw[show l.length-k=0 from by omega,Bk]
   go_wp2;go_ret;exact⟨Au (by rw[HP.out,HE.out]),ag k _ aa⟩
theorem Akl (CS)(v)(f0)(p)(B)(w)(ad:w.ownsRow B 57 1 v CS.length CS.flatten)(hs:∀c∈CS,Acx c)(hB:B≤w.heap.size)
  (ak:∀i cs W,CS[i]?=C cs→w.grownBy W v.ownBlock→bE aE 118 #[cs.headD (dI U),f0] W fun e W'=>e=aH (dI (p i))∧aP W.heap.size W W'):
  bE aE 117 #[v,.func (.func 118) #[] #[f0]] w fun e w'=>∃v',e=aH v'∧w'.ownsRow B 57 1 v' (Bv p 0 CS).length (Bv p 0 CS).flatten∧v'.ownBlock=v.ownBlock∧w.grownBy w' v.ownBlock∧aP B w w':=by
 have ae:∀c∈CS,c.length=1:=fun c hc=>At2 (hs c hc)
 obtain⟨ao,cap,rfl⟩:=(Adc ad hs).shape;have HI:=Anq CS ao CS.length cap f0 p (fun _ W=>aP w.heap.size w W) (fun W=>aP w.heap.size w W) w (fun _ _ h=>h) (fun _ W h=>Adc (Aj ad h) hs)
  (fun i cs W hi hW=>(ak i cs W hi (Ck _ hW)).mono fun e W' ⟨he,hb⟩=>⟨he,Ac hW hb,fun _=>Ac hW hb⟩) (bI _ _)
 rcases Od p CS.length 0 with hf|⟨i0,hf,_,hi0,hp0,hpre⟩
 ·have av:Hid (Bv p 0 CS=CS):=Io p CS 0 (Oc p _ _ hf);rw[hf]at HI;go_enter Tryz.func117,Tryz.ntmps117;go_wp2_with(go_fit HI;rintro e w1 ⟨rfl,aa⟩);go_ret;rw[av.out];exact⟨_,rfl,Aj ad aa,rfl,Ck _ aa,aa.mono hB⟩
 ·rw[hf]at HI;rcases G1 ad with⟨_,h0⟩|⟨g,cap',X0,hv,hBg,hX0,hncap,hcapm,hXl,hXt⟩
  ·omega
  cases hv;have al:Hid (Bv p 0 (CS.take (i0+1))=CS.take i0):=by
   show _=_;have hx:CS[i0]?=C (CS[i0]'(by omega)):=aA (by omega);rw[In p CS i0 _ hx,hp0,Io p (CS.take i0) 0 fun j h1 h2=>hpre j h1 (by simp at h2;omega)];simp
  have bj:CS.length≤9223372036854775807:=by
   simp only[cI]at hcapm;omega
  clear hf hp0 hpre;have aw:=aB hX0;go_enter Tryz.func117,Tryz.ntmps117;go_wp2_with(go_fit HI;rintro e w1 ⟨rfl,aa⟩);have ab:=(aa.block g aw).trans hX0
  go_loopw[5,6] (fun iv jv wr=>∃i j:Nat,∃X:List M,i<j∧j≤CS.length∧iv=bC bH i∧jv=bC bH j∧wr.heap[g]?=C (J X.toArray 57)∧X.length=cap*1∧Hid (X.take (i*1)=(Bv p 0 (CS.take j)).flatten)∧Hid (i=(Bv p 0 (CS.take j)).length)∧(∀m c,j≤m→CS[m]?=C c→∀r u,c[r]?=C u→X[m*1+r]?=C u)∧w.grownBy wr (C g)) (fun _ j _=>CS.length-(bK j).toNat)
  case atStart=>
   refine⟨i0,i0+1,X0,by omega,by omega,rfl,by rfl,ab,hXl,?_,?_,?_,Ck _ aa⟩
   ·show _=_;rw[al.out];have e1:X0.take (i0*1)=(X0.take (CS.length*1)).take (i0*1):=by rw[List.take_take,aQ (by omega)]
    rw[e1,hXt,←aY i0 CS,cU,aY];have ax:(CS.take i0).flatten.length=i0*1:=by rw[Gu fun c hc=>ae c (cQ hc),aS,aQ (by omega)]
    rw[←ax,List.take_left]
   ·show _=_;rw[al.out,aS,aQ (by omega)]
   ·intro m c hm hc r u hr;have h1:=Ki ae hc r u hr;have bk:=(aF.1 hc).1;have ay:=(aF.1 hr).1;rw[ae c (aI hc)]at ay;rw[←hXt,aU (by omega)]at h1;exact h1
  case round=>
   obtain⟨i,j,X,bl,hj,rfl,rfl,hX,af,HT,HL,ag,am⟩:=hrel
   by_cases az:j<CS.length
   ·obtain⟨x,hx⟩:∃x,CS[j]?=C x:=⟨_,aA az⟩;have HC:=fun W hW=>ak j x W hx hW
    have an:=In p CS j x hx;obtain⟨a1,n1,c1,rfl⟩:=hs x (aI hx);have d0:wr.cell? ⟨g,j,D⟩=C (I a1 n1 c1):=Aa hX (by have:=ag j _ (aK _) hx 0 _ rfl;rw[bM]at this;simpa using this);have j0:(0:Int)≤(j:Int):=by omega
    have j1:(j:Int)<(CS.length:Int):=by omega
    have ah:=am;have ai:=HC _ ah;have ab:=hX;obtain⟨xi,ap⟩:∃u,X[i]?=C u:=⟨_,aA (by omega)⟩;have ba:Hid _:=ap;clear ap;have HX:Hid _:=hx;have HR:Hid _:=ag;have HS:Hid _:=an;have bm:=aB hX;clear hx ag HC an;generalize hq:p j=q at ai HS;cases q
    ·have bn:(#[I a1 n1 c1]:Array M).all (·.oneCell')=N:=by simp[dG]
     go_wp2_with(first
      |(go_fit ai;rintro e W' ⟨rfl,ac⟩;have aj:=(ac.block g (aB ab)).trans ab;have y0:=(Aa aj (by simpa using ba.out));have z0:W'.frozen? ⟨g,i,D⟩=U:=(by simp[aM,aj]);have bb:(0:Int)≤i:=(by omega);have bc:i<(CS.length:Int):=(by omega))
      |fail)
     go_roundw
     case rel=>
      (first|refine⟨_,_,_,_,_,_,_,_,_,_,_,_,_,_,_,_,_,_,_,_,_,?_,rfl⟩|refine⟨_,_,_,_,_,_,_,_,_,_,_,_,_,_,_,_,_,_,_,_,_,_,?_,rfl⟩|refine⟨_,_,_,_,_,_,_,_,_,_,_,_,_,_,_,_,_,_,_,_,?_,rfl⟩|refine⟨_,_,_,_,_,_,_,_,_,_,_,_,_,_,_,_,_,_,_,_,_,_,_,?_,rfl⟩|refine⟨_,_,_,_,_,_,_,_,_,_,_,_,_,_,_,_,_,_,_,?_,rfl⟩)
      refine⟨i+1,j+1,aZ X (i*1) [I a1 n1 c1],by omega,by omega,by rfl,by rfl,?_,?_,?_,?_,?_,?_⟩
      ·exact by have:=Fo [I a1 n1 c1] (i*1) X _ aj (by grind);rw[bM]at this⊢;exact this
      ·rw[cS _ _ _ (by grind)];omega
      ·show _=_;rw[HS.out];have e1:(i+1) *1=i*1+([I a1 n1 c1]:List M).length:=by simp
       rw[e1,F5 _ _ _ (by omega),HT.out];simp
      ·show _=_;rw[HS.out];have:=HL.out;grind
      ·intro m c hm hc r u hr;rw[Jc _ _ _ _ (by omega) (by grind)];exact HR.out m c (by omega) hc r u hr
      ·exact Cj (Cj ah (Ck _ ac)) (Gg g i [I a1 n1 c1])
     case measure=>simp[bK];omega
    ·go_wp2_with(go_fit ai;rintro e W' ⟨rfl,ac⟩);go_roundw
     case rel=>
      (first|refine⟨_,_,_,_,_,_,_,_,_,_,_,_,_,_,_,_,_,_,_,_,_,?_,rfl⟩|refine⟨_,_,_,_,_,_,_,_,_,_,_,_,_,_,_,_,_,_,_,_,_,_,?_,rfl⟩|refine⟨_,_,_,_,_,_,_,_,_,_,_,_,_,_,_,_,_,_,_,_,?_,rfl⟩|refine⟨_,_,_,_,_,_,_,_,_,_,_,_,_,_,_,_,_,_,_,_,_,_,_,?_,rfl⟩|refine⟨_,_,_,_,_,_,_,_,_,_,_,_,_,_,_,_,_,_,_,?_,rfl⟩)
      refine⟨i,j+1,X,by omega,by omega,by first|rfl|go_num,by go_num,(ac.block g (aB ab)).trans ab,af,?_,?_,fun m c hm hc r u hr=>HR.out m c (by omega) hc r u hr,Cj ah (Ck _ ac)⟩
      ·show _=_;rw[HS.out,HT.out];simp
      ·show _=_;rw[HS.out];simpa using HL.out
     case measure=>simp[bK];omega
   ·have bd:j=CS.length:=by omega
    subst bd;rw[bU]at HT HL;have v1:¬((CS.length:Int)<(CS.length:Int)):=by omega
    have bb:(0:Int)≤(i:Int):=by omega
    have bc:(i:Int)≤(CS.length:Int):=by omega
    have bo:¬(cap=i):=by omega
    have bp:(i:Int)≤(cap:Int):=by omega
    have hz:∀w,(cH 57).run aE w=.ok (I D 0 0) w:=fun w=>by
     obtain⟨i9,be,bf,_,_⟩:=info_parts Axv;simp[cH,typeInfo,be,bf]
    have aq:∀n,∀u∈(aD ((I D 0 0):M).cells n).toList,u.oneCell'=N:=fun n u hu=>Ano n u hu
    obtain⟨w2,Y,bq,hY,bg,ar,bh⟩:=Po (P:=aE) (w:=wr) 30 57 1 (I D 0 0) cZ hz rfl aq g (i) (CS.length-i) (cap-i) X 57 hX (by rw[af,Nat.sub_mul];have:CS.length*1≤cap*1:=cT _ hncap;omega);have HY:Hid _:=hY;have bi:Hid _:=ar;clear hY ar hz aq;go_wp2;go_ret;have au:=Cj am bh;refine⟨_,rfl,?_,rfl,au,K6 au hBg hB⟩;rw[←HL.out];exact Jl hBg HY.out (by omega) hcapm (bg.trans af) (by rw[bM];have:=HT.out;rw[bM]at this;exact bi.out.trans this)
theorem Akm (l)(ao)(n c:Nat)(f0:M)(p:Nat→Bool)(St:Nat→O→Prop)(En:O→Prop)(w:O)(ag:∀i W,St i W→En W)(ae:∀i W,St i W→IsL Afp (fun _=>True) W (I ao n c) l)
  (ah:∀i cs W,l[i]?=C cs→St i W→bE aE 131 #[cC cs.toArray,f0] W fun e W'=>e=aH (dI (p i))∧En W'∧(p i=U→St (i+1) W')) (h0:St 0 w):
  bE aE 209 #[I ao n c,.func (.func 131) #[] #[f0]] w fun e W'=>e=aH (bC bH (Bk p 0 l.length))∧En W':=by
 obtain⟨hn,ai⟩:=Ew (ae 0 w h0);subst hn;unfold cI at ai;go_enter Tryz.func209,Tryz.ntmps209;go_wp2
 go_loopw[8] (fun i wr=>∃k:Nat,k≤l.length∧i=bC bH k∧St k wr∧Hid (Bk p 0 l.length=Bk p k (l.length-k))) (fun i _=>l.length-(bK i).toNat)
 case atStart=>exact⟨0,bG _,rfl,h0,rfl⟩
 case round=>
  obtain⟨k,hk,rfl,ab,HP⟩:=hrel
  by_cases af:k<l.length
  ·obtain⟨x,hx⟩:∃x,l[k]?=C x:=⟨_,aA af⟩;obtain⟨b,ak,cs,rfl,_,hb,hR,aa⟩:=Av (ae k wr ab) hx;have HC:=ah k x wr hx ab;obtain⟨rfl,aj⟩:=hR;obtain⟨a1,n1,c1,a2,n2,c2,a3,n3,c3,rfl⟩:=aj;have d0:=aa 0 _ rfl;have d1:=aa 1 _ rfl;have d2:=aa 2 _ rfl;simp only[Afp,bD]at d0 d1 d2;have k0:(0:Int)≤k:=by omega
   have k1:k<(l.length:Int):=by omega
   have ac:Hid _:=L5 p k _ af;clear aa hx;generalize hq:p k=q at HC ac;clear hq;cases q
   ·go_wp2_with(go_fit HC;rintro e W' ⟨rfl,_,ad⟩);go_roundw
    case rel=>exact⟨_,by omega,by rfl,ad (by simp),by rw[HP.out,ac.out];rfl⟩
    case measure=>simp[bK];omega
   ·go_wp2_with(go_fit HC;rintro e W' ⟨rfl,ad,_⟩);go_ret;exact⟨Au (by rw[HP.out,ac.out];rfl),ad⟩
  ·have HE:Hid (Bk p k (l.length-k)= -1):=by show _=_;rw[show l.length-k=0 from by omega,Bk]
   go_wp2;go_ret;exact⟨Au (by rw[HP.out,HE.out]),ag k _ ab⟩
theorem Aiu (CS)(v)(f0)(p)(B)(w)(ad:w.ownsRow B 115 3 v CS.length CS.flatten)(hs:∀c∈CS,Acy c)(hB:B≤w.heap.size)
  (ak:∀i cs W,CS[i]?=C cs→w.grownBy W v.ownBlock→bE aE 131 #[cC cs.toArray,f0] W fun e W'=>e=aH (dI (p i))∧aP W.heap.size W W'):
  bE aE 130 #[v,.func (.func 131) #[] #[f0]] w fun e w'=>∃v',e=aH v'∧w'.ownsRow B 115 3 v' (Bv p 0 CS).length (Bv p 0 CS).flatten∧v'.ownBlock=v.ownBlock∧w.grownBy w' v.ownBlock∧aP B w w':=by
 have ae:∀c∈CS,c.length=3:=fun c hc=>At3 (hs c hc)
 obtain⟨ao,cap,rfl⟩:=(Add ad hs).shape;have HI:=Akm CS ao CS.length cap f0 p (fun _ W=>aP w.heap.size w W) (fun W=>aP w.heap.size w W) w (fun _ _ h=>h) (fun _ W h=>Add (Aj ad h) hs)
  (fun i cs W hi hW=>(ak i cs W hi (Ck _ hW)).mono fun e W' ⟨he,hb⟩=>⟨he,Ac hW hb,fun _=>Ac hW hb⟩) (bI _ _)
 rcases Od p CS.length 0 with hf|⟨i0,hf,_,hi0,hp0,hpre⟩
 ·have au:Hid (Bv p 0 CS=CS):=Io p CS 0 (Oc p _ _ hf);rw[hf]at HI;go_enter Tryz.func130,Tryz.ntmps130;go_wp2_with(go_fit HI;rintro e w1 ⟨rfl,aa⟩);go_ret;rw[au.out];exact⟨_,rfl,Aj ad aa,rfl,Ck _ aa,aa.mono hB⟩
 ·rw[hf]at HI;rcases G1 ad with⟨_,h0⟩|⟨g,cap',X0,hv,hBg,hX0,hncap,hcapm,hXl,hXt⟩
  ·omega
  cases hv;have al:Hid (Bv p 0 (CS.take (i0+1))=CS.take i0):=by
   show _=_;have hx:CS[i0]?=C (CS[i0]'(by omega)):=aA (by omega);rw[In p CS i0 _ hx,hp0,Io p (CS.take i0) 0 fun j h1 h2=>hpre j h1 (by simp at h2;omega)];simp
  have bi:CS.length≤9223372036854775807:=by
   simp only[cI]at hcapm;omega
  clear hf hp0 hpre;go_enter Tryz.func130,Tryz.ntmps130;go_wp2_with(go_fit HI;rintro e w1 ⟨rfl,aa⟩);have ab:=(aa.block g (aB hX0)).trans hX0
  go_loopw[5,6] (fun iv jv wr=>∃i j:Nat,∃X:List M,i<j∧j≤CS.length∧iv=bC bH i∧jv=bC bH j∧wr.heap[g]?=C (J X.toArray 115)∧X.length=cap*3∧Hid (X.take (i*3)=(Bv p 0 (CS.take j)).flatten)∧Hid (i=(Bv p 0 (CS.take j)).length)∧(∀m c,j≤m→CS[m]?=C c→∀r u,c[r]?=C u→X[m*3+r]?=C u)∧w.grownBy wr (C g)) (fun _ j _=>CS.length-(bK j).toNat)
  case atStart=>
   refine⟨i0,i0+1,X0,by omega,by omega,rfl,by rfl,ab,hXl,?_,?_,?_,Ck _ aa⟩
   ·show _=_;rw[al.out];have e1:X0.take (i0*3)=(X0.take (CS.length*3)).take (i0*3):=by rw[List.take_take,aQ (by omega)]
    rw[e1,hXt,←aY i0 CS,cU,aY];have av:(CS.take i0).flatten.length=i0*3:=by rw[Gu fun c hc=>ae c (cQ hc),aS,aQ (by omega)]
    rw[←av,List.take_left]
   ·show _=_;rw[al.out,aS,aQ (by omega)]
   ·intro m c hm hc r u hr;have h1:=Ki ae hc r u hr;have bj:=(aF.1 hc).1;have aw:=(aF.1 hr).1;rw[ae c (aI hc)]at aw;rw[←hXt,aU (by omega)]at h1;exact h1
  case round=>
   obtain⟨i,j,X,bk,hj,rfl,rfl,hX,af,HT,HL,ag,am⟩:=hrel
   by_cases ax:j<CS.length
   ·obtain⟨x,hx⟩:∃x,CS[j]?=C x:=⟨_,aA ax⟩;have HC:=fun W hW=>ak j x W hx hW
    have an:=In p CS j x hx;obtain⟨a1,n1,c1,a2,n2,c2,a3,n3,c3,rfl⟩:=hs x (aI hx);have d0:wr.cell? ⟨g,j*3,D⟩=C (I a1 n1 c1):=Aa hX (by have:=ag j _ (aK _) hx 0 _ rfl;grind);have d1:wr.cell? ⟨g,j*3+1,D⟩=C (I a2 n2 c2):=Aa hX (by simp_all);have d2:wr.cell? ⟨g,j*3+2,D⟩=C (I a3 n3 c3):=Aa hX (by simp_all);have j0:(0:Int)≤j:=by omega
    have j1:j<(CS.length:Int):=by omega
    have ah:w.grownBy (wr.alloc (J [I a1 n1 c1,I a2 n2 c2,I a3 n3 c3].toArray 115)) _:=Cj am (Ck _ (Aq _ _));have ai:=HC _ ah;have ab:=Ad hX (J [I a1 n1 c1,I a2 n2 c2,I a3 n3 c3].toArray 115);have HR:Hid _:=ag;have HS:Hid _:=an;clear hx ag HC an;generalize hq:p j=q at ai HS;cases q
    ·have ay:(#[I a1 n1 c1,I a2 n2 c2,I a3 n3 c3]:Array M).all (·.oneCell')=N:=by simp[dG]
     go_wp2_with(first
      |(go_fit ai;rintro e W' ⟨rfl,ac⟩;have aj:=(ac.block g (aB ab)).trans ab;have t0:=(ac.block _ (by simp)).trans (Ab wr _);have x0:=Aa t0 (j:=0) rfl;have x1:=Aa t0 (j:=1) rfl;have x2:=Aa t0 (j:=2) rfl;have az:W'.there g (i*3) 3:=(fun r hr=>⟨by rw[Aa aj (u:=X[i*3+r]'(by omega)) (by simp)];rfl,by simp[aM,aj]⟩);have ba:(0:Int)≤i:=(by omega);have bb:i<(CS.length:Int):=(by omega))
      |(refine wpList_store_mid rfl 115 _ _ rfl g (i*3) #[I a1 n1 c1,I a2 n2 c2,I a3 n3 c3] ?_ ?_ ?_ ?_ ?_ ?_;exact rfl;exact rfl;exact az;exact Axw;exact ay))
     go_roundw
     case rel=>
      refine⟨_,_,_,_,_,_,_,_,_,_,_,_,_,_,_,_,_,_,_,_,_,_,_,?_,rfl⟩;refine⟨i+1,j+1,aZ X (i*3) [I a1 n1 c1,I a2 n2 c2,I a3 n3 c3],by omega,by omega,by rfl,by rfl,?_,?_,?_,?_,?_,?_⟩
      ·exact Fo _ _ X _ aj (by grind)
      ·rw[cS _ _ _ (by grind)];omega
      ·show _=_;rw[HS.out];have e1:(i+1) *3=i*3+([I a1 n1 c1,I a2 n2 c2,I a3 n3 c3]:List M).length:=by simp;omega
       rw[e1,F5 _ _ _ (by omega),HT.out];simp
      ·show _=_;rw[HS.out];have:=HL.out;grind
      ·intro m c hm hc r u hr;rw[Jc _ _ _ _ (by omega) (by grind)];exact HR.out m c (by omega) hc r u hr
      ·exact Cj (Cj ah (Ck _ ac)) (Gg g _ _)
     case measure=>simp[bK];omega
    ·go_wp2_with(go_fit ai;rintro e W' ⟨rfl,ac⟩);go_roundw
     case rel=>
      refine⟨_,_,_,_,_,_,_,_,_,_,_,_,_,_,_,_,_,_,_,_,_,_,_,?_,rfl⟩;refine⟨i,j+1,X,by omega,by omega,by first|rfl|go_num,by go_num,(ac.block g (aB ab)).trans ab,af,?_,?_,fun m c hm hc r u hr=>HR.out m c (by omega) hc r u hr,Cj ah (Ck _ ac)⟩
      ·show _=_;rw[HS.out,HT.out];simp
      ·show _=_;rw[HS.out];simpa using HL.out
     case measure=>simp[bK];omega
   ·have bc:j=CS.length:=by omega
    subst bc;rw[bU]at HT HL;have v1:¬((CS.length:Int)<(CS.length:Int)):=by omega
    have ba:(0:Int)≤(i:Int):=by omega
    have bb:(i:Int)≤(CS.length:Int):=by omega
    have bl:¬(cap=i):=by omega
    have bm:(i:Int)≤(cap:Int):=by omega
    have hz:∀w,(cH 115).run aE w=.ok (cC #[I D 0 0,I D 0 0,I D 0 0]) w:=fun w=>by
     obtain⟨i9,bd,be,_,_⟩:=info_parts Akk;simp[cH,typeInfo,bd,be]
    have ap:∀n,∀u∈(aD ((cC #[I D 0 0,I D 0 0,I D 0 0]):M).cells n).toList,u.oneCell'=N:=fun n u hu=>Anp n u hu
    obtain⟨w2,Y,bn,hY,bf,aq,bg⟩:=Po (P:=aE) (w:=wr) 111 115 3 (cC #[I D 0 0,I D 0 0,I D 0 0]) Tryz.underlying111 hz rfl ap g (i*3) (CS.length-i) (cap-i) X 115 hX (by rw[af,Nat.sub_mul];have:CS.length*3≤cap*3:=cT _ hncap;omega);have HY:Hid _:=hY;have bh:Hid _:=aq;clear hY aq hz ap;go_wp2;go_ret;have ar:=Cj am bg;refine⟨_,rfl,?_,rfl,ar,K6 ar hBg hB⟩;rw[←HL.out];exact Jl hBg HY.out (by omega) hcapm (bf.trans af) (bh.out.trans HT.out)
end
section
def fst (f:UInt8→Bool)(w:Wd):Bool:=match w.data.toList with|[]=>U|c::_=>f c
def Ip (l:List UInt8):Nat:=l.foldl (fun n c=>10*n+(c.toNat-48)) 0
def Kn (w:Wd):Option Int:=
 if decide (1≤w.size)&&w.data.toList.all Bn&&(decide (w.size=1)|| !fst (fun c=>c==48) w)&&decide (Ip w.data.toList≤1000000)then C (Ip w.data.toList:Int)else D
def Rv (w:Wd):V:=⟨2,0,⟨((w.data.toList.drop 1).take (w.size-2)).toArray⟩⟩
def Dr (c:UInt8):Bool:=c==39
theorem S6 {w k}(h:nm w=N)(hk:nm k=U):w≠k:=by grind
theorem Ade {w k}{n}(h:Kn w=C n)(hk:Kn k=D):w≠k:=by grind
theorem Adf {f}{w k}(h:fst f w=N)(hk:fst f k=U):w≠k:=by grind
theorem X4 {w}{n}(h:Kn w=C n):fst Bn w=N:=by
 unfold Kn at h;split at h
 ·rename_i c;simp only[bY,decide_eq_true_eq]at c;obtain⟨⟨⟨c1,c2⟩,_⟩,_⟩:=c;unfold fst
  match hw:w.data.toList with
  |[]=>simp[cX,←bN,hw]at c1
  |c::l=>grind
 grind
theorem Pz {w}(h:nm w=N):fst Cc w=N:=by
 simp only[nm,bY,decide_eq_true_eq]at h;obtain⟨⟨⟨c1,_⟩,c2⟩,_⟩:=h;unfold fst
 match hw:w.data.toList with
 |[]=>simp[cX,←bN,hw]at c1
 |c::l=>grind
theorem Ul {f g}{w}(h:fst f w=N)(hg:∀c,f c=N→g c=U):fst g w=U:=by
 unfold fst at h⊢;split at h
 ·rfl
 grind
theorem Rg {f}{w}(h:fst f w=N):0<w.size:=by
 unfold fst at h;split at h
 ·grind
 ·rename_i c l hw;have:w.data.toList.length=l.length+1:=by rw[hw];rfl
  rw[show w.size=w.data.toList.length from(bN).symm];omega
theorem Rw (c)(h:Cc c=N):Bn c=U:=by
 simp only[Cc,Bn,bY,Bool.and_eq_false_iff,decide_eq_true_eq,decide_eq_false_iff_not]at h⊢;omega
theorem Aam (c)(h:Dr c=N):Bn c=U:=by
 simp only[Dr,beq_iff_eq]at h;subst h;rfl
theorem Rx (c)(h:Cc c=N):Dr c=U:=by
 cases hq:Dr c
 ·rfl
 ·simp only[Dr,beq_iff_eq]at hq;subst hq;revert h;decide
abbrev St:=Option (List Wd)
def adv (l:List Wd):St:=match l with|[]=>C []|w::l=>if w.size=0 then D else C (w::l)
def Ag (k:Wd)(s:St):Bool×St:=match s with|some (w::l)=>if w=k then(N,adv l)else(U,C (w::l))|s=>(U,s)
def Ce (k:Wd)(s:St):St:=if(Ag k s).1 then(Ag k s).2 else D
def Um (ks:List Wd)(s:St):St:=ks.foldl (fun s k=>Ce k s) s
def Bm (s:St):Wd×St:=match s with|some (w::l)=>if nm w then(w,adv l)else(noW,D)|_=>(noW,D)
def Cy (s:St):Int×St:=match s with|some (w::l)=>(match Kn w with|some n=>(n,adv l)|none=>(0,D))|_=>(0,D)
def Gh (f:UInt8→Bool)(s:St):Bool:=match s with|some (w::_)=>fst f w|_=>U
def Bf (s:St):Nat:=match s with|some l=>l.length|none=>0
def J1 {α:Type}(one:St→α×St):Nat→List α→St→List α×St
 |0,acc,s=>(acc,s)
 |f+1,acc,s=>if(Ag Ei s).1 then J1 one f (acc++[(one (Ag Ei s).2).1]) (one (Ag Ei s).2).2 else(acc,(Ag Ei s).2)
def Ia {α:Type}(one:St→α×St)(s:St):List α×St:=J1 one (Bf (one s).2) [(one s).1] (one s).2
def Ht {α:Type}(one:St→α×St)(s:St):List α×St:=((Ia one (Ce Dj s)).1,Ce C9 (Ia one (Ce Dj s)).2)
def Ap (ops:List (Wd×Int))(s:St):Int×St:=match ops with|[]=>(0,s)|o::ops=>if(Ag o.1 s).1 then(o.2,(Ag o.1 s).2)else Ap ops s
def Dk (part:St→E×St)(ops:List (Wd×Int)):Nat→E→St→E×St
 |0,e,s=>(e,s)
 |f+1,e,s=>if(Ap ops s).1=0 then(e,(Ap ops s).2)else Dk part ops f (Hi (Ap ops s).1 [e,(part (Ap ops s).2).1]) (part (Ap ops s).2).2
def Iq (part:St→E×St)(ops:List (Wd×Int))(s:St):E×St:=Dk part ops (Bf (part s).2) (part s).1 (part s).2
def Oe (s:St):V×St:=match s with|some (w::l)=>if good (Rv w)then(Rv w,adv l)else(zero,D)|_=>(zero,D)
def Vi (s:St):E×St:=if(Ag Kz (Bm s).2).1 then(Tk (Bm s).1 (Bm (Ag Kz (Bm s).2).2).1,(Bm (Ag Kz (Bm s).2).2).2)else(Tk noW (Bm s).1,(Ag Kz (Bm s).2).2)
def Of (_:St):E×St:=(E.nil,D)
def G8 (sub:St→E×St)(s:St):E×St:=
 if(Ag Dj s).1 then((sub (Ag Dj s).2).1,Ce C9 (sub (Ag Dj s).2).2)
 else if(Ag Ft s).1 then(Lv zero,(Ag Ft s).2)
 else if(Ag Gd s).1 then(Lv ⟨1,-(Cy (Ag Gd s).2).1,noW⟩,(Cy (Ag Gd s).2).2)
 else if Gh Bn s then(Lv ⟨1,(Cy s).1,noW⟩,(Cy s).2)
 else if Gh Dr s then(Lv (Oe s).1,(Oe s).2)
 else Vi s
abbrev Adg:List (Wd×Int):=[(A0e,3),(Gd,4)]
abbrev Ff:List (Wd×Int):=[(kEq,5),(kLt,6)]
abbrev Adh:List (Wd×Int):=[(Axm,7)]
abbrev Ajm:List (Wd×Int):=[(kOr,8)]
def Fm (sub:St→E×St)(s:St):E×St:=Iq (G8 sub) Adg s
def Ir (sub subT:St→E×St)(s:St):E×St:=
 if(Ag Nx s).1 then(Hi 9 [(subT (Ag Nx s).2).1],(subT (Ag Nx s).2).2)
 else if(Ag kIs (Fm sub s).2).1 then(Hi 10 [(Fm sub s).1],Ce Ft (Ag kIs (Fm sub s).2).2)
 else if(Ap Ff (Fm sub s).2).1=0 then((Fm sub s).1,(Ap Ff (Fm sub s).2).2)
 else(Hi (Ap Ff (Fm sub s).2).1 [(Fm sub s).1,(Fm sub (Ap Ff (Fm sub s).2).2).1],(Fm sub (Ap Ff (Fm sub s).2).2).2)
def Arh (sub subT:St→E×St)(s:St):E×St:=Iq (Ir sub subT) Adh s
def Akn (sub subT:St→E×St)(s:St):E×St:=Iq (Arh sub subT) Ajm s
def Jm:Nat→(St→E×St)×(St→E×St)
 |0=>(Akn Of Of,Ir Of Of)
 |d+1=>(Akn (Jm d).1 (Jm d).2,Ir (Jm d).1 (Jm d).2)
def Ku:Nat→St→E×St|0=>Of|d+1=>(Jm d).1
def Mf:Nat→St→E×St|0=>Of|d+1=>(Jm d).2
theorem At4 (d):Jm d=(Akn (Ku d) (Mf d),Ir (Ku d) (Mf d)):=by cases d<;>rfl
def Mg (s:St):E×St:=(Jm 5).1 s
abbrev Gr:=List Wd→E→Prop
inductive Atom (sub:Gr):Gr
 |null:Atom sub [Ft] (Lv zero)
 |num {w n}:Kn w=C n→Atom sub [w] (Lv ⟨1,n,noW⟩)
 |neg {w n}:Kn w=C n→Atom sub [Gd,w] (Lv ⟨1,-n,noW⟩)
 |text {w}:fst Dr w=N→good (Rv w)=N→Atom sub [w] (Lv (Rv w))
 |ref {w}:nm w=N→Atom sub [w] (Tk noW w)
 |dot {a b}:nm a=N→nm b=N→Atom sub [a,Kz,b] (Tk a b)
 |br {l e}:sub l e→Atom sub (Dj::(l++[C9])) e
inductive Chain (P:Gr) (ops:List (Wd×Int)):Gr
 |one {l e}:P l e→Chain P ops l e
 |more {l a o k m b}:Chain P ops l a→(o,k)∈ops→P m b→Chain P ops (l++o::m) (Hi k [a,b])
inductive Test (S subT:Gr):Gr
 |neg {l e}:subT l e→Test S subT (Nx::l) (Hi 9 [e])
 |sum {l e}:S l e→Test S subT l e
 |is {l e}:S l e→Test S subT (l++[kIs,Ft]) (Hi 10 [e])
 |cmp {l a o k m b}:S l a→(o,k)∈Ff→S m b→Test S subT (l++o::m) (Hi k [a,b])
abbrev Ako (sub:Gr):Gr:=Chain (Atom sub) Adg
abbrev S7 (sub subT:Gr):Gr:=Test (Ako sub) subT
abbrev A3q (sub subT:Gr):Gr:=Chain (S7 sub subT) Adh
abbrev Ajn (sub subT:Gr):Gr:=Chain (A3q sub subT) Ajm
def Ko:Nat→Gr×Gr
 |0=>(Ajn (fun _ _=>False) (fun _ _=>False),S7 (fun _ _=>False) (fun _ _=>False))
 |d+1=>(Ajn (Ko d).1 (Ko d).2,S7 (Ko d).1 (Ko d).2)
def Adi:Nat→Gr|0=>fun _ _=>False|d+1=>(Ko d).1
def Adj:Nat→Gr|0=>fun _ _=>False|d+1=>(Ko d).2
theorem A0y (d):Ko d=(Ajn (Adi d) (Adj d),S7 (Adi d) (Adj d)):=by cases d<;>rfl
abbrev S8:Gr:=(Ko 5).1
def Cg {α:Type}(p:St→α×St)(G:List Wd→α→Prop):Prop:=∀s a r,p s=(a,C r)→∃l,s=C (l++r)∧G l a
def Qb (l:List Wd):Prop:=adv l=C l
def Vj (F:List Wd)(r:List Wd):Prop:=∀x,r.head? =C x→∀k∈F,x≠k
def E4 {α:Type}(p:St→α×St)(G:List Wd→α→Prop)(F:List Wd):Prop:=∀l a r,G l a→Qb r→Vj F r→p (C (l++r))=(a,C r)∧Qb (l++r)∧l≠[]
theorem Mn {w}{l}(h:0<w.size):adv (w::l)=C (w::l):=if_neg (by omega)
theorem A0z {w}{l}(h:w.size=0):adv (w::l)=D:=if_pos h
theorem Fp {w}{l}(h:0<w.size):Qb (w::l):=Mn h
theorem X5 {l r}(h:adv l=C r):l=r∧Qb r:=by
 cases l with
 |nil=>simp[adv]at h;subst h;exact⟨rfl,rfl⟩
 |cons w l=>
  by_cases hw:w.size=0
  ·rw[A0z hw]at h;grind
  ·rw[Mn (by omega)]at h;cases h;exact⟨rfl,Fp (by omega)⟩
theorem J2 {k}{l}:Ag k (C (k::l))=(N,adv l):=by simp[Ag]
theorem Zr {k}{r}(h:∀x,r.head? =C x→x≠k):Ag k (C r)=(U,C r):=by
 cases r with
 |nil=>rfl
 |cons w l=>simp[Ag,h w rfl]
theorem At5 {k}:Ag k D=(U,D):=rfl
theorem Dt {k}{s}{r}(h:(Ag k s).1=N)(h2:(Ag k s).2=C r):s=C (k::r)∧Qb r:=by
 unfold Ag at h h2;split at h
 ·rename_i w l;split at h
  ·rename_i e;subst e;simp at h2;obtain⟨rfl,hf⟩:=X5 h2;grind
  grind
 grind
theorem Bo {k}{s}(h:(Ag k s).1=U):(Ag k s).2=s:=by
 unfold Ag at h⊢;grind
theorem Akp {k}{l}:Ce k (C (k::l))=adv l:=by simp[Ce,J2]
theorem Dl {k}{s}{r}(h:Ce k s=C r):s=C (k::r)∧Qb r:=by
 unfold Ce at h;split at h
 ·rename_i e;exact Dt e h
 grind
theorem E9 {s}{a}{r}(h:Bm s=(a,C r)):s=C (a::r)∧nm a=N∧Qb r:=by
 unfold Bm at h;split at h
 ·split at h
  ·rename_i hn;simp at h;obtain⟨rfl,h⟩:=h;obtain⟨rfl,hf⟩:=X5 h;grind
  grind
 grind
theorem Vk {a}{r}(h:nm a=N):Bm (C (a::r))=(a,adv r):=by simp[Bm,h]
theorem Tq {s}{n}{r}(h:Cy s=(n,C r)):∃w,s=C (w::r)∧Kn w=C n∧Qb r:=by
 unfold Cy at h;split at h
 ·rename_i w l;split at h
  ·rename_i m hn;simp at h;obtain⟨rfl,h⟩:=h;obtain⟨rfl,hf⟩:=X5 h;grind
  grind
 grind
theorem Vl {w}{n}{r}(h:Kn w=C n):Cy (C (w::r))=(n,adv r):=by simp[Cy,h]
theorem Qv {F}{w}{l}(h:∀k∈F,w≠k):Vj F (w::l):=by intro x hx;grind
theorem Vj.sub {F F'}{r}(h:Vj F r)(hs:∀k∈F',k∈F):Vj F' r:=fun x hx k hk=>h x hx k (hs k hk)
theorem X6 {ops}{s}{r}:∀{k:Int},k≠0→Ap ops s=(k,C r)→∃o,(o,k)∈ops∧s=C (o::r)∧Qb r:=by
 induction ops with
 |nil=>intro k hk h;simp[Ap]at h;omega
 |cons o ops ih=>
  intro k hk h;unfold Ap at h;split at h
  ·rename_i hs;simp at h;obtain⟨rfl,hf⟩:=Dt hs h.2;grind
  grind
theorem Ry {ops}{s}(hz:∀o∈ops,o.2≠0)(h:(Ap ops s).1=0):(Ap ops s).2=s:=by
 induction ops with
 |nil=>rfl
 |cons o ops ih=>
  unfold Ap at h⊢;grind
theorem Akq (ops):Ap ops D=(0,D):=by
 induction ops with
 |nil=>rfl
 |cons o ops ih=>assumption
theorem Adk {ops}{r}(h:Vj (ops.map bA) r):Ap ops (C r)=(0,C r):=by
 induction ops with
 |nil=>rfl
 |cons o ops ih=>
  unfold Ap;rw[Zr fun x hx=>h x hx o.1 (by simp)];exact ih (h.sub fun k hk=>by grind)
theorem Aan {ops}{o}{k}{l}(hu:(ops.map bA).Nodup)(h:(o,k)∈ops):Ap ops (C (o::l))=(k,adv l):=by
 induction ops with
 |nil=>grind
 |cons p ops ih=>
  rw[List.map_cons,List.nodup_cons]at hu;rcases cK.1 h with e|h
  ·subst e;simp[Ap,J2]
  ·have aa:o≠p.1:=by
    rintro rfl;exact hu.1 (bS.2 ⟨(p.1,k),h,rfl⟩)
   unfold Ap;rw[Zr (fun x hx=>by grind)];grind
theorem Un (part)(ops)(f)(e):Dk part ops f e D=(e,D):=by
 cases f with
 |zero=>rfl
 |succ f=>simp[Dk,Akq]
theorem Adl {part}{P:Gr}{ops}(hp:Cg part P)(hz:∀o∈ops,o.2≠0):
  ∀f e s a r,Dk part ops f e s=(a,C r)→∀l0,Chain P ops l0 e→∃l,s=C (l++r)∧Chain P ops (l0++l) a:=by
 intro f
 induction f with
 |zero=>intro e s a r h l0 hc;simp[Dk]at h;simp_all
 |succ f ih=>
  intro e s a r h l0 hc;unfold Dk at h;split at h
  ·rename_i h0;rw[Ry hz h0]at h;simp_all
  ·rename_i h0;obtain⟨k,s1,hs⟩:∃k s1,Ap ops s=(k,s1):=⟨_,_,rfl⟩;rw[hs]at h h0;simp only at h h0;obtain⟨b,s2,hb⟩:∃b s2,part s1=(b,s2):=⟨_,_,rfl⟩;rw[hb]at h;simp only at h;cases s2 with
   |none=>rw[Un]at h;grind
   |some r2=>
    obtain⟨m,rfl,hm⟩:=hp _ _ _ hb;obtain⟨o,ho,rfl,_⟩:=X6 h0 hs;obtain⟨l,hl,aa⟩:=ih _ _ _ _ h _ (Chain.more hc ho hm);grind
theorem Pp {part}{P:Gr}{ops}(hp:Cg part P)(hz:∀o∈ops,o.2≠0):Cg (Iq part ops) (Chain P ops):=by
 intro s a r h;unfold Iq at h;obtain⟨b,s2,hb⟩:∃b s2,part s=(b,s2):=⟨_,_,rfl⟩;rw[hb]at h;simp only at h;cases s2 with
 |none=>rw[Un]at h;grind
 |some r2=>
  obtain⟨m,rfl,hm⟩:=hp _ _ _ hb;obtain⟨l,hl,aa⟩:=Adl hp hz _ _ _ _ _ h _ (Chain.one hm);grind
theorem At6 {part}{P:Gr}{ops}{F}(hp:E4 part P F)(hu:(ops.map bA).Nodup)(hz:∀o∈ops,o.2≠0)(ho:∀o∈ops,0<o.1.size∧∀k∈F,o.1≠k){l}{e}(h:Chain P ops l e):
  ∀r,Qb r→Vj F r→(∃f,r.length≤f∧Iq part ops (C (l++r))=Dk part ops f e (C r))∧Qb (l++r)∧l≠[]:=by
 induction h with
 |one h=>
  intro r hr hn;obtain⟨h1,h2,h3⟩:=hp _ _ r h hr hn;exact⟨⟨_,aK _,by rw[Iq,h1];rfl⟩,h2,h3⟩
 |more hc hok hm ih=>
  intro r hr hn;rename_i l a o k m b;obtain⟨h1,h2,h3⟩:=hp _ _ r hm hr hn;obtain⟨hs,hF⟩:=ho _ hok;obtain⟨⟨f,hf,h4⟩,h5,h6⟩:=ih (o::(m++r)) (Fp hs) (Qv hF);cases f with
  |zero=>grind
  |succ f=>
   refine⟨⟨f,by grind,?_⟩,by grind,by simp⟩;rw[show(l++o::m)++r=l++(o::(m++r))from by simp,h4,Dk,Aan hu hok];simp only;rw[if_neg (hz _ hok),show adv _=C _ from h2,h1]
theorem O0 {part}{P:Gr}{ops}{F}(hp:E4 part P F)(hu:(ops.map bA).Nodup)(hz:∀o∈ops,o.2≠0)(ho:∀o∈ops,0<o.1.size∧∀k∈F,o.1≠k):E4 (Iq part ops) (Chain P ops) (F++ops.map bA):=by
 intro l e r h hr hn;obtain⟨⟨f,hf,h1⟩,h2,h3⟩:=At6 hp hu hz ho h r hr (hn.sub fun k hk=>by simp[hk]);refine⟨?_,h2,h3⟩;rw[h1];cases f with
 |zero=>rfl
 |succ f=>simp[Dk,Adk (hn.sub (F':=ops.map bA) fun k hk=>List.mem_append_right _ hk)]
abbrev Axx:List Wd:=[Kz]++Adg.map bA
abbrev Zs:List Wd:=Axx++[kIs,kEq,kLt]
abbrev A3r:List Wd:=Zs++Adh.map bA
abbrev Ari:List Wd:=A3r++Ajm.map bA
theorem Adm {sub}{G:Gr}(hs:Cg sub G):Cg (G8 sub) (Atom G):=by
 intro s a r h;unfold G8 at h;split at h
 ·rename_i h0;simp at h;obtain⟨h1,_⟩:=Dl h.2;obtain⟨l,h3,h4⟩:=hs _ _ _ (aW h.1 h1);obtain⟨rfl,_⟩:=Dt h0 h3;exact⟨_,by simp,.br h4⟩
 ·split at h
  ·rename_i h0;simp at h;obtain⟨rfl,h1⟩:=h;obtain⟨rfl,_⟩:=Dt h0 h1;exact⟨_,rfl,.null⟩
  ·split at h
   ·rename_i h0;simp at h;obtain⟨w,h1,h2,_⟩:=Tq (n:=(Cy _).1) (aW rfl h.2);obtain⟨rfl,_⟩:=Dt h0 h1;exact⟨_,rfl,by rw[←h.1];exact .neg h2⟩
   ·split at h
    ·simp at h;obtain⟨w,rfl,h2,_⟩:=Tq (n:=(Cy s).1) (aW rfl h.2);exact⟨[w],rfl,by rw[←h.1];exact .num h2⟩
    ·split at h
     ·rename_i h0;simp only[dC]at h;unfold Oe at h;split at h
      ·rename_i w l _;split at h
       ·rename_i hg;simp at h;obtain⟨rfl,h⟩:=h;obtain⟨rfl,_⟩:=X5 h;exact⟨[_],rfl,.text h0 hg⟩
       grind
      grind
     ·unfold Vi at h;split at h
      ·rename_i h0;simp at h;obtain⟨h1,h2,_⟩:=E9 (a:=(Bm _).1) (aW rfl h.2);obtain⟨h3,_⟩:=Dt h0 h1;obtain⟨h4,h5,_⟩:=E9 (a:=(Bm s).1) (aW rfl h3);exact⟨_,h4,by rw[←h.1];exact .dot h5 h2⟩
      ·rename_i h0;simp only[dC]at h;rw[Bo (by grind)]at h;obtain⟨h4,h5,_⟩:=E9 (a:=(Bm s).1) (aW rfl h.2);exact⟨_,h4,by rw[←h.1];exact .ref h5⟩
theorem Fb {k w}{l}(h:w≠k):Ag k (C (w::l))=(U,C (w::l)):=by simp[Ag,h]
theorem Vj.ne {F r}(h:Vj F r){k}(hk:k∈F):∀x,r.head? =C x→x≠k:=fun x hx=>h x hx k hk
theorem Apv {w}{n}(h:Kn w=C n):0<w.size:=Rg (X4 h)
theorem Adn {w}(h:nm w=N):0<w.size:=Rg (Pz h)
theorem Aiv {sub:St→E×St}{G:Gr}{F:List Wd}(hs:E4 sub G F)(hF:∀k∈F,C9≠k):E4 (G8 sub) (Atom G) [Kz]:=by
 intro l e r h hr hn;cases h with
 |null=>exact⟨by simp[G8,Fb (k:=Dj) (w:=Ft) (by simp),J2,show adv r=C r from hr],Fp (by decide),by simp⟩
 |num hw=>
  rename_i w n;have hb:Gh Bn (C (w::r))=N:=X4 hw;exact⟨by simp[G8,Fb (k:=Dj) (Ade hw (by rfl)),Fb (k:=Ft) (Ade hw (by rfl)),Fb (k:=Gd) (Ade hw (by rfl)),hb,Vl hw,show adv r=C r from hr],Fp (Apv hw),by simp⟩
 |neg hw=>
  rename_i w n;exact⟨by simp[G8,Fb (k:=Dj) (w:=Gd) (by simp),Fb (k:=Ft) (w:=Gd) (by simp),J2,Mn (Apv hw),Vl hw,show adv r=C r from hr],Fp (by decide),by simp⟩
 |text hw hg=>
  rename_i w;have hb:Gh Dr (C (w::r))=N:=hw;have aa:Gh Bn (C (w::r))=U:=Ul hw Aam;exact⟨by simp[G8,Fb (k:=Dj) (Adf hw (by rfl)),Fb (k:=Ft) (Adf hw (by rfl)),Fb (k:=Gd) (Adf hw (by rfl)),hb,aa,Oe,hg,show adv r=C r from hr],Fp (Rg hw),by simp⟩
 |ref hw=>
  rename_i w;have hb:Gh Dr (C (w::r))=U:=Ul (Pz hw) Rx;have aa:Gh Bn (C (w::r))=U:=Ul (Pz hw) Rw;exact⟨by simp[G8,Fb (k:=Dj) (S6 hw (by rfl)),Fb (k:=Ft) (S6 hw (by rfl)),Fb (k:=Gd) (S6 hw (by rfl)),hb,aa,Vi,Vk hw,show adv r=C r from hr,Zr (hn.ne (k:=Kz) (by simp))],Fp (Adn hw),by simp⟩
 |dot hw hv=>
  rename_i w v;have hb:Gh Dr (C (w::Kz::v::r))=U:=Ul (Pz hw) Rx;have aa:Gh Bn (C (w::Kz::v::r))=U:=Ul (Pz hw) Rw;exact⟨by simp[G8,Fb (k:=Dj) (S6 hw (by rfl)),Fb (k:=Ft) (S6 hw (by rfl)),Fb (k:=Gd) (S6 hw (by rfl)),hb,aa,Vi,Vk hw,Vk hv,show adv r=C r from hr,Mn (w:=Kz) (l:=v::r) (by decide),J2,Mn (Adn hv)],Fp (Adn hw),by simp⟩
 |br hx=>
  rename_i l;obtain⟨h1,h2,_⟩:=hs l e (C9::r) hx (Fp (by decide)) (Qv hF);refine⟨?_,Fp (by decide),by simp⟩;rw[show Dj::(l++[C9])++r=Dj::(l++C9::r)from by simp];simp[G8,J2,show adv (l++C9::r)=C (l++C9::r)from h2,h1,Akp,show adv r=C r from hr]
theorem At7 {sub}{G:Gr}(hs:Cg sub G):Cg (Fm sub) (Ako G):=Pp (Adm hs) (by simp)
theorem Akr {sub}{G:Gr}{F}(hs:E4 sub G F)(hF:∀k∈F,C9≠k):E4 (Fm sub) (Ako G) Axx:=
 O0 (Aiv hs hF) (by simp) (by simp) (by decide)
theorem Ado {sub subT}{G T:Gr}(hs:Cg sub G)(ht:Cg subT T):Cg (Ir sub subT) (S7 G T):=by
 intro s a r h;have aa:=At7 hs;unfold Ir at h;split at h
 ·rename_i h0;simp at h;obtain⟨l,h3,h4⟩:=ht _ _ _ (aW rfl h.2);obtain⟨rfl,_⟩:=Dt h0 h3;exact⟨Nx::l,by simp,by rw[←h.1];exact .neg h4⟩
 ·split at h
  ·rename_i h0;simp at h;obtain⟨h1,_⟩:=Dl h.2;obtain⟨h2,_⟩:=Dt h0 h1;obtain⟨l,rfl,h4⟩:=aa _ _ _ (aW rfl h2);exact⟨l++[kIs,Ft],by simp,by rw[←h.1];exact .is h4⟩
  ·split at h
   ·rename_i h0;rw[Ry (by simp) h0]at h;obtain⟨l,rfl,h4⟩:=aa _ _ _ h;exact⟨l,rfl,.sum h4⟩
   ·rename_i h0;simp at h;obtain⟨m,h3,h4⟩:=aa _ _ _ (aW rfl h.2);obtain⟨o,h5,h6,_⟩:=X6 h0 (aW rfl h3);obtain⟨l,rfl,h7⟩:=aa _ _ _ (aW rfl h6);exact⟨l++o::m,by simp,by rw[←h.1];exact .cmp h7 h5 h4⟩
theorem Arj {G}{l}{e}(h:Atom G l e):∃w m,l=w::m∧w≠Nx:=by
 cases h with
 |null=>simp
 |num h=>exact⟨_,_,rfl,Ade h (by rfl)⟩
 |neg h=>simp
 |text h _=>exact⟨_,_,rfl,Adf h (by rfl)⟩
 |ref h=>exact⟨_,_,rfl,S6 h (by rfl)⟩
 |dot h _=>exact⟨_,_,rfl,S6 h (by rfl)⟩
 |br h=>simp
theorem At8 {G}{l}{e}(h:Ako G l e):∃w m,l=w::m∧w≠Nx:=by
 induction h with
 |one h=>exact Arj h
 |more _ _ _ ih=>grind
theorem Aiw {sub ad:St→E×St}{G T:Gr}{F:List Wd}(hs:E4 sub G F)(hF:∀k∈F,C9≠k)(ht:E4 ad T Zs):E4 (Ir sub ad) (S7 G T) Zs:=by
 intro l e r h hr hn;have aa:=Akr hs hF;have ac:∀{l e}(x:List Wd),Ako G l e→Ag Nx (C (l++x))=(U,C (l++x)):=by
  intro l e x h;obtain⟨w,m,rfl,hw⟩:=At8 h;exact Fb hw
 cases h with
 |neg h=>
  rename_i l e;obtain⟨h1,h2,_⟩:=ht l e r h hr hn;exact⟨by simp[Ir,J2,show adv (l++r)=C (l++r)from h2,h1],Fp (by decide),by simp⟩
 |sum h=>
  obtain⟨h1,h2,h3⟩:=aa l e r h hr (hn.sub fun k hk=>cR _ hk);refine⟨?_,h2,h3⟩;have e1:Ap Ff _=(0,C r):=Adk (hn.sub fun k hk=>by grind);simp only[Ir,ac r h,h1,Zr (hn.ne (k:=kIs) (by simp)),e1];simp
 |is h=>
  rename_i l e;obtain⟨h1,h2,h3⟩:=aa l e (kIs::Ft::r) h (Fp (by decide)) (Qv (by decide));have e0:(l++[kIs,Ft])++r=l++kIs::Ft::r:=by simp
  rw[e0];refine⟨?_,h2,by simp⟩;simp only[Ir,ac _ h,h1,J2,Mn (w:=Ft) (l:=r) (by decide),Akp,show adv r=C r from hr];simp
 |cmp h ho hm=>
  rename_i l a o k m b;obtain⟨h4,h5,_⟩:=aa m b r hm hr (hn.sub fun k hk=>cR _ hk);have ab:0<o.size∧o≠kIs∧(∀k∈Axx,o≠k)∧k≠0:=by
   rcases cK.1 ho with e|ho
   ·cases e;decide
   ·cases List.mem_singleton.1 ho;decide
  obtain⟨h1,h2,h3⟩:=aa l a (o::(m++r)) h (Fp ab.1) (Qv ab.2.2.1);have e0:(l++o::m)++r=l++o::(m++r):=by simp
  rw[e0];refine⟨?_,h2,by simp⟩;have e1:Ap Ff (C (o::(m++r)))=(k,C (m++r)):=by rw[Aan (by simp) ho,show adv (m++r)=C (m++r)from h5]
  simp only[Ir,ac _ h,h1,Fb (k:=kIs) ab.2.1,e1,h4,if_neg ab.2.2.2];simp
theorem X7 (d):Cg (Jm d).1 (Ko d).1∧Cg (Jm d).2 (Ko d).2∧E4 (Jm d).1 (Ko d).1 Ari∧E4 (Jm d).2 (Ko d).2 Zs:=by
 have aa:∀d,(Cg (Ku d) (Adi d)∧Cg (Mf d) (Adj d)∧E4 (Ku d) (Adi d) Ari∧E4 (Mf d) (Adj d) Zs)→Cg (Jm d).1 (Ko d).1∧Cg (Jm d).2 (Ko d).2∧E4 (Jm d).1 (Ko d).1 Ari∧E4 (Jm d).2 (Ko d).2 Zs:=by
  intro d ⟨h1,h2,h3,h4⟩;rw[At4,A0y];have t1:=Ado h1 h2;have t2:=Aiw h3 (by simp) h4;refine⟨Pp (Pp t1 (by simp)) (by simp),t1,?_,t2⟩;exact O0 (O0 t2 (by simp) (by simp) (by decide)) (by simp) (by simp) (by decide)
 induction d with
 |zero=>exact aa 0 ⟨fun s a r h=>by simp[Ku,Of]at h,fun s a r h=>by simp[Mf,Of]at h,fun l a r h=>h.elim,fun l a r h=>h.elim⟩
 |succ d ih=>exact aa _ ih
end
end Go.Proofs.YtjapkoofjlmdgaaGreatDoor

/-
  19 texts of this proof in one,in build order:GOrd,GGrow,GConcat,GEach,GMath3,QChoose2,Same,QSame,YType,YBindS,YTypes,QFacts,GTab,QCount,PAll2,GThose,GJoin,GOrdd,GSearch1.
-/
import Derived.Shelf.SlGeneric
import Derived.Ground.Names8Prog
import Derived.Shelf.Spec.SlicesGrow
import Derived.Test.YtjapkoofjlmdgaaGreatDoorProg
import Derived.WalkKit
import Derived.WalkSpells
import Derived.WalkLawsBesides
import Derived.Deep.QuietTactic
import Derived.BigQuiet
import Derived.Laws.StructEq
import Derived.Test.YtjapkoofjlmdgaaGreatDoorJ01
import Derived.Test.YtjapkoofjlmdgaaGreatDoorJ02
import Derived.Test.YtjapkoofjlmdgaaGreatDoorJ03
import Derived.Test.YtjapkoofjlmdgaaGreatDoorJ04
import Derived.Test.YtjapkoofjlmdgaaGreatDoorJ06
import Derived.Test.YtjapkoofjlmdgaaGreatDoorJ07
import Derived.Test.YtjapkoofjlmdgaaGreatDoorJ08
import Derived.Test.YtjapkoofjlmdgaaGreatDoorJ09
import Derived.Test.YtjapkoofjlmdgaaGreatDoorJ10
set_option linter.unusedSimpArgs false
set_option linter.unusedVariables false
set_option maxRecDepth 100000
set_option maxHeartbeats 0
open Go.Value renaming agg→bD,int→N,ownBlock→dF,pointer→bA,slice→G,slice→cJ,string→D
open Go renaming Calls→bU,Value→aZ,World→cA,bodyPost_ret→cF,lt_of_block→Y,maxLen→bI,rounds_succ→dE,wpAnyH_done→dD,wpList_store_row→aV
open List renaming append_assoc→aY,append_nil→bG,eq_nil_of_length_eq_zero→aO,filter_sublist→bJ,flatMap_append→cX,getD_eq_getElem?_getD→cL,getElem?_append_left→cO,getElem?_append_right→cK,getElem?_eq_getElem→aA,getElem?_eq_some_iff→aE,getElem?_map→bP,getElem?_take_of_lt→cQ,getElem_of_mem→cW,length_append→aP,length_map→aI,length_take→aU,map_cons→bR,mem_cons_of_mem→cE,mem_cons_self→bK,mem_filter→aW,mem_map→cI,mem_of_getElem?→aN,mem_singleton→cH,pairwise_map→dB,pairwise_singleton→cR,take_add_one→bO,take_length→bZ,take_of_length_le→cS
open Nat renaming add_zero→aS,le_refl→aH,le_trans→aB,lt_of_lt_of_le→aX,mul_one→cV,zero_le→aL
open Option renaming none→J,some→H
open Go.Obj renaming cells→Z
open Go.RowKit.Below renaming refl→aC,refl→cN
open Go.World renaming frozen?→aD,ownsRow_nil→cZ
open Go.IntKind renaming i64→U
open Go.Proofs.Tryz renaming prog→aG,results28→cD,underlying111→cG,underlying41→aT,underlying57→bN,underlying71→aF
open Except.ok renaming inj→aJ,injEq→cU
open And renaming intro→aK
open Go.Ending renaming returned→aM
open Go.Sort renaming flatK→aQ
open Bool renaming and_eq_true→bB,false→bC,not_eq_false'→dA,not_eq_true'→bQ,or_eq_true→bH,true→aR
open Go.Proofs renaming intOf→bL,sortWorld→cB
open Option.some renaming inj→bM
open Prod renaming fst→bV
open Array renaming getElem?_modify→cT,toArray_toList→cC
open List.Pairwise renaming nil→cM
open Go.Proofs.AnyF renaming slices_SortFunc_none→cP
open List.Perm renaming refl→cY
open Int renaming lt_trichotomy→dC
namespace Go.Proofs.YtjapkoofjlmdgaaGreatDoor
section
open Go.RowKit
open Go.Sort (SWO PermIn SortedIn HoldsK heap_grow_old)
structure Fnd where
 row:List V
 ids:List V
 ord:List V
def Qf:Elem Fnd where
 size:=3
 R F w f c:=∃a b d,c=[a,b,d]∧IsL Lw F w a f.row∧IsL Lw F w b f.ids∧IsL Lw F w d f.ord
 len h:=by grind
 keep hk h:=by obtain⟨a,b,d,h1,h2,h3,h4⟩:=h;exact⟨a,b,d,h1,h2.keep hk,h3.keep hk,h4.keep hk⟩
 mono hk h:=by obtain⟨a,b,d,h1,h2,h3,h4⟩:=h;exact⟨a,b,d,h1,h2.mono hk,h3.mono hk,h4.mono hk⟩
def Dg (base:Nat)(z:aZ)(A:List Fnd)(w:cA):Prop:=∃cs,w.ownsRow base 115 3 z A.length cs∧All Qf (FO base z) w A cs
def Ks (tn:Int):Fnd→Fnd→Int:=Akj (fun x y=>tn*Ex x.ord y.ord) (fun x y=>Ex x.ids y.ids)
theorem Ab9 {tn}(h:tn=1∨tn= -1):Cmp (Ks tn):=by
 rcases h with rfl|rfl
 ·exact Cmp.lex (Cmp.one (A38.pull _)) (A38.pull _)
 ·exact Cmp.lex (Cmp.neg (A38.pull _)) (A38.pull _)
theorem A3g (x y)(b c)(w)(h0:w.cell? ⟨b,0,J⟩=H (N U x))(h1:w.cell? ⟨b,1,J⟩=H (N U y)):
  bU aG 127 #[G (H ⟨b,0,J⟩) 2 c] w fun e w'=>e=aM (N U (if x=0 then y else x))∧w'=w:=by
 by_cases hx:x=0<;>by_cases hy:y=0
 all_goals
  go_enter Tryz.func127,Tryz.ntmps127;go_wp2;refine wp_loop_rounds 3 ?_;rw[dE];go_wp2
  all_goals(try(rw[dE];go_wp2))
  all_goals(try(rw[dE];go_wp2))
  all_goals go_ret
  simp
theorem Ar8 (x y)(x1 x2 x3 y1 y2 y3)(tn)(p)(w)(be:Hj x1)(bf:Hj y1)(aj:Cq w x2 x.ids)(ak:Cq w x3 x.ord)(al:Cq w y2 y.ids)(am:Cq w y3 y.ord)(hl:x.ids.length≤1000000∧x.ord.length≤1000000∧y.ids.length≤1000000∧y.ord.length≤1000000)(hp:w.cell? ⟨p,0,J⟩=H (N U tn))(ar:tn=1∨tn= -1):
  bU aG 126 #[bD #[x1,x2,x3],bD #[y1,y2,y3],bA (H ⟨p,0,J⟩)] w fun e w'=>e=aM (N U (Ks tn x y))∧Gro w w':=by
 obtain⟨au,av,aw,rfl⟩:=be;obtain⟨ax,ay,az,rfl⟩:=bf;obtain⟨ab,ac,bg⟩:=aj.shape;subst bg;obtain⟨ad,ae,bh⟩:=ak.shape;subst bh;obtain⟨af,ag,bi⟩:=al.shape;subst bi;obtain⟨ah,ai,bj⟩:=am.shape;subst bj;have bk:p<w.heap.size:=block_lt_of_cell hp;have aa:Gro w ((w.alloc (Z #[G au av aw,G ab x.ids.length ac,G ad x.ord.length ae] 115)).alloc (Z #[G ax ay az,G af y.ids.length ag,G ah y.ord.length ai] 115)):=((Gro.refl _).alloc _).alloc _;obtain⟨-,bX,bY,-⟩:=al2 w (Z #[G au av aw,G ab x.ids.length ac,G ad x.ord.length ae] 115) (Z #[G ax ay az,G af y.ids.length ag,G ah y.ord.length ai] 115);generalize hW:(w.alloc _).alloc _=W1 at aa bX bY;have HW:Hid _:=hW;have ba:=fun W (h:Gro W1 W)=>Uj _ _ _ _ W ((ak.below aa.bel).below h.bel) ((am.below aa.bel).below h.bel) hl.2.1 hl.2.2.2
 have bb:=fun W (h:Gro W1 W)=>Uj _ _ _ _ W ((aj.below aa.bel).below h.bel) ((al.below aa.bel).below h.bel) hl.1 hl.2.2.1
 have KS:Hid _:=fun W (h:Gro W1 W)=>aK (show W.cell? _=H _ from((aa.trans h).bel.cell bk).trans hp) (aK (show W.cell? _=H (G ab _ ac)from Aa ((h.bel.block _ (Y bX)).trans bX) (j:=1) rfl) (aK (show W.cell? _=H (G ad _ ae)from Aa ((h.bel.block _ (Y bX)).trans bX) (j:=2) rfl) (aK (show W.cell? _=H (G af _ ag)from Aa ((h.bel.block _ (Y bY)).trans bY) (j:=1) rfl) (show W.cell? _=H (G ah _ ai)from Aa ((h.bel.block _ (Y bY)).trans bY) (j:=2) rfl))))
 have s0:=KS.out _ (Gro.refl _).drew;have EO:Hid (Ks tn x y=if tn*Ex _ _=0 then Ex _ _ else tn*Ex _ _):=rfl;have hc:=Ac9 x.ord y.ord;generalize Ks tn x y=res at EO;generalize Ex _ _=m1 at ba EO hc;generalize Ex _ _=m2 at bb EO;clear hW aj ak al am hp hl;have bc:IntKind.i64.wrap (tn*m1)=tn*m1:=by rcases ar with rfl|rfl<;>rcases hc with rfl|rfl|rfl<;>decide
 obtain⟨pr,an⟩:∃q,q=tn*m1:=⟨_,rfl⟩;have bo:IntKind.i64.wrap (tn*m1)=pr:=by rw[an];exact bc
 have bd:Hid (res=if pr=0 then m2 else pr):=by show _=_;rw[an];exact EO.out
 have bl:=fun b c W h0 h1=>(A3g pr m2 b c W h0 h1).mono (R':=fun e w'=>e=aM (N _ res)∧w'=W) (fun e w' ⟨h1,h2⟩=>⟨by rw[h1,bd.out],h2⟩)
 clear EO an bc ar hc bd;go_enter Tryz.func126,Tryz.ntmps126;go_upto_region 1 with fail;rw[HW.out]
 go_region_held3(fun W=>W.cell? ⟨p,0,J⟩=H (N U tn)∧W.cell? ⟨w.heap.size,1,J⟩=H (G ab x.ids.length ac)∧W.cell? ⟨w.heap.size,2,J⟩=H (G ad x.ord.length ae)∧W.cell? ⟨w.heap.size+1,1,J⟩=H (G af y.ids.length ag)∧W.cell? ⟨w.heap.size+1,2,J⟩=H (G ah y.ord.length ai)) (with_reducible omega)
  (first
   |(go_fit(ba _ (Gro.refl _).drew);rintro e w2 ⟨rfl,bm⟩;have ap:=(Gro.refl _).drew.trans bm;have s1:=KS.out w2 ap)
   |(go_fit(bb _ ap);rintro e w3 ⟨rfl,bn⟩;have aq:=ap.trans bn;have s2:=KS.out w3 aq;have s3:=KS.out _ (aq.alloc (Z #[N U pr,N U m2] 3)))
   |(go_at_call 127;refine(bl _ _ _ ?_ ?_).mono ?_;(simp[go_sem]);(simp[go_sem]);rintro e w4 ⟨rfl,rfl⟩))
 go_wp2_with fail;go_ret;exact⟨rfl,aa.trans (aq.alloc _)⟩
abbrev Aeh (B:Nat)(z:aZ)(w:cA):Type:={p:List aZ×Fnd//Qf.R (FO B z) w p.2 p.1∧p.2.ids.length≤1000000∧p.2.ord.length≤1000000}
def Aeh.enc {B:Nat}{z:aZ}{w:cA}(x:Aeh B z w):List aZ:=x.1.1
def Aeh.cmp {B:Nat}{z:aZ}{w:cA}(tn:Int)(x y:Aeh B z w):Int:=Ks tn x.1.2 y.1.2
theorem Aht {B}{z}{w}:∀{A:List Fnd}{cs:List aZ},All Qf (FO B z) w A cs→(∀f∈A,f.ids.length≤1000000∧f.ord.length≤1000000)→∃L:List (Aeh B z w),(L.map Aeh.enc).flatten=cs∧L.map (fun x=>x.1.2)=A
 |[],cs,h,_=>⟨[],by have:cs=[]:=h;grind,rfl⟩
 |r::A,cs,h,hn=>by
  obtain⟨c,rest,rfl,h1,h2⟩:=h;obtain⟨L,h3,h4⟩:=Aht h2 fun q hq=>hn q (by simp[hq])
  exact⟨⟨(c,r),h1,hn r (by simp)⟩::L,by simp[h3,Aeh.enc],by grind⟩
theorem Aei {B}{z}{w}:∀(L:List (Aeh B z w)),All Qf (FO B z) w (L.map fun x=>x.1.2) (L.map Aeh.enc).flatten
 |[]=>rfl
 |x::L=>⟨x.enc,(L.map Aeh.enc).flatten,rfl,x.2.1,Aei L⟩
theorem Yx {B}{z}{w}(x:Aeh B z w):x.enc.length=3:=Qf.len x.2.1
theorem Aej {α}[Inhabited α](enc)(hk:∀x,(enc x).length=3)(d:List α):(aQ enc 3 d.toArray).toList=(d.map enc).flatten:=by
 have aa:∀c∈d.map enc,c.length=3:=fun c hc=>by grind
 have ab:(d.map enc).flatten.length=d.length*3:=by rw[Gu aa,aI]
 apply List.ext_getElem
 ·simp_all
 ·intro t h1 h2;have ht:=by rw[ab]at h2;exact h2
  have hq:t/3<d.length:=by omega
  have e:t=t/3*3+t%3:=by omega
  have hc:(d.map enc)[t/3]?=H (enc d[t/3]):=by rw[bP,aA hq];rfl
  have hr:(enc _)[t%3]?=H ((enc d[t/3])[t%3]'(by rw[hk];omega)):=aA _;have h3:=Ki aa hc _ _ hr;rw[←e]at h3;rw[aA h2]at h3;rw[bM h3];simp[aQ,hq];grind
theorem Ai8 (A)(z)(tn)(p B)(w)(h:Dg B z A w)(hB:B≤w.heap.size)(hp:w.cell? ⟨p,0,J⟩=H (N U tn))(aj:H p≠z.ownBlock)(af:tn=1∨tn= -1)(ak:∀f∈A,f.ids.length≤1000000∧f.ord.length≤1000000)(hl:A.length≤1000000):
  bU aG 125 #[z,.func (.func 126) #[] #[bA (H ⟨p,0,J⟩)]] w fun e w'=>e=aM (.tuple #[])∧∃A',A'.Perm A∧(A'.Pairwise fun a b=>¬Ks tn b a<0)∧Dg B z A' w'∧RowKit.Below B w w':=by
 obtain⟨cs,ag,ab⟩:=h;have ah:=ag;rcases ag.2 with⟨rfl,h0⟩|⟨g,cap,cur,rfl,hBg,hh,hnc,hcm,hcs,htake⟩
 ·have hA:=aO h0;subst hA;refine(cP Tryz.sortFound J 0 _ w).mono ?_;rintro e w' ⟨rfl,rfl⟩;exact⟨rfl,[],cY _,cM,⟨cs,ah,ab⟩,cN _ _⟩
 ·rcases A with _|⟨r0,A0⟩
  ·refine(cP Tryz.sortFound _ cap _ w).mono ?_;rintro e w' ⟨rfl,rfl⟩;exact⟨rfl,[],cY _,cM,⟨cs,ah,ab⟩,cN _ _⟩
  generalize al:r0::A0=A at*;obtain⟨L,am,an⟩:=Aht ab ak;have ac:=by have:=congrArg List.length an;simpa using this
  have bl:0<L.length:=by rw[ac,←al];simp
  have bm:Inhabited _:=⟨L[0]⟩;have ai:=Aej _ Yx L;rw[am]at ai;have hH:HoldsK (Aeh.enc) 3 w g 0 L.toArray:=by
   intro j hj;refine⟨?_,by simp[aD,hh]⟩;have hc:cs[j]?=H ((aQ Aeh.enc 3 L.toArray)[j]):=by rw[←ai];simp
   rw[getElem!_pos _ j hj,Nat.zero_add];refine Aa hh ?_;have bn:j<A.length*3:=by have:=hj;simp[ac]at this;exact this
   rw[←htake,cQ (by omega)]at hc;simpa using hc
  have eg:∀args w,(callFunc 126 args).run _ w=.ok _ w:=enters_of Tryz.func126 (by rfl) rfl;have ap:Go.Proofs.CmpLays aG 126 #[bA (H ⟨p,0,J⟩)] (Aeh.enc) 3 (Aeh.cmp (B:=B) (z:=G (H ⟨g,0,J⟩) A.length cap) (w:=w) tn) g 0 L.toArray.size w:=by
   intro m os dk _ x y;have hk:=Qt (B:=B) (w:=w) (g:=g) (cap:=cap) (n:=A.length) (id:aZ→aZ) m (aQ (Aeh.enc (B:=B) (z:=G (H ⟨g,0,J⟩) A.length cap) (w:=w)) 3 dk) os;obtain⟨⟨xc,xf⟩,hx,aq,ar⟩:=x;obtain⟨⟨yc,yf⟩,hy,au,av⟩:=y;obtain⟨x1,x2,x3,rfl,aw,ax,ay⟩:=Qf.keep hk hx;obtain⟨y1,y2,y3,rfl,az,ba,bb⟩:=Qf.keep hk hy;have bc:g≠p:=fun e=>aj (by simp[dF,e])
   have aa:(cB (id:aZ→aZ) w g 0 m (aQ (Aeh.enc (B:=B) (z:=G (H ⟨g,0,J⟩) A.length cap) (w:=w)) 3 dk) os).cell? ⟨p,0,J⟩=H (N U tn):=by
    rw[World.cell?_of_block (w:=w) (a:=⟨p,0,J⟩)]
    ·omega
    ·unfold cB;rw[heap_grow_old _ _ (by simpa using block_lt_of_cell hp)];simp[Go.Sort.putRow,Go.Sort.mapBlock,cT,bc]
   refine(Ar8 xf yf x1 x2 x3 y1 y2 y3 tn p _ (Gf aw) (Gf az) (F4 ax) (F4 ay) (F4 ba) (F4 bb) ⟨aq,ar,au,av⟩ aa af).mono ?_;rintro e w' ⟨rfl,hg⟩;exact⟨rfl,hg.grow⟩
  have hS:=AnyQ.slices_SortFunc Tryz.sortFound 3 Tryz.isAgg115 Tryz.sizeOf115 _ Yx (fun x v hv=>by
   obtain⟨a,b,d,h1,h2,h3,h4⟩:=x.2.1;have ad:v∈x.1.1:=hv;rw[h1]at ad;obtain⟨_,_,rfl⟩:=h2.shape;obtain⟨_,_,rfl⟩:=h3.shape;obtain⟨_,_,rfl⟩:=h4.shape;simp at ad;rcases ad with rfl|rfl|rfl<;>rfl) (Aeh.cmp tn) (((Ab9 af).pull _).swo) 126 _ g 0 cap _ w eg ap hH (Y hh) (by grind)
  have es:L.toArray.size=A.length:=by simp[ac]
  rw[es]at hS;refine hS.mono ?_;rintro e w' ⟨rfl,d',n',os,bd,hs,rfl⟩;obtain⟨be,_,aa⟩:=bd;have ae:d'.size=A.length:=by rw[be];exact es
  have bo:=by
   have e1:d'.extract 0 A.length=d':=Me ae;have e2:L.toArray.extract 0 A.length=L.toArray:=Me es;rw[e1,e2]at aa;simpa using aa
  have bf:=Aej _ Yx d'.toList;rw[cC]at bf;have bg:(aQ (Aeh.enc) 3 d').toList.length=A.length*3:=by simp[ae]
  have bh:Go.Proofs.sortWorldK _ 3 w g 0 n' d' os=cB _ w g 0 n' (aQ (Aeh.enc) 3 d') os:=rfl;rw[bh];refine⟨rfl,d'.toList.map (fun x=>x.1.2),?_,?_,?_,Ac6 hBg hB _ _ _ _⟩
  ·grind
  ·rw[dB,List.pairwise_iff_getElem];intro i j hi hj bi;have bj:=by simpa using hi
   have bk:=by simpa using hj
   have:=hs i j (aL _) bi (by omega);rw[getElem!_pos d' i bj,getElem!_pos d' j bk]at this;have h2:=of_decide_eq_false this;assumption
  ·refine⟨(d'.toList.map Aeh.enc).flatten,⟨by grind,.inr ⟨g,cap,_,by grind,hBg,Ag3 hh _ _ _ _,by grind,hcm,by simp[Go.Sort.putCells,hcs],?_⟩⟩,?_⟩
   ·have:=Akh id cur (aQ (Aeh.enc) 3 d').toList (by omega);rw[bg,cC]at this;rw[aI,Array.length_toList,ae,this,List.map_id];omega
   ·exact All.keep (Qt _ n' _ os) (Aei _)
end
end Go.Proofs.YtjapkoofjlmdgaaGreatDoor
namespace Go.Proofs
open Go.Shelf
def Tryz.laysGrowV_ren:Go.Shelf.Ren:=⟨fun|4=>275|n=>n,fun|22=>57|25=>59|3=>3|4=>4|9=>9|20=>20|0=>0|n=>n,fun|n=>n⟩
theorem Tryz.laysGrowV:Go.Proofs.Lays8.n4 aG Tryz.laysGrowV_ren:={
 mixed:=by kernel_rfl
 f4:=sN Tryz.func275
 t0:=Tryz.underlying0
 a0:=Tryz.isAgg0
 z0:=Tryz.sizeOf0
 v0:=Tryz.zeroValue0
 t3:=Tryz.underlying3
 a3:=Tryz.isAgg3
 z3:=Tryz.sizeOf3
 v3:=Tryz.zeroValue3
 t4:=Tryz.underlying4
 a4:=Tryz.isAgg4
 z4:=Tryz.sizeOf4
 v4:=Tryz.zeroValue4
 t9:=Tryz.underlying9
 a9:=Tryz.isAgg9
 z9:=Tryz.sizeOf9
 v9:=Tryz.zeroValue9
 t20:=Tryz.underlying20
 a20:=Tryz.isAgg20
 z20:=Tryz.sizeOf20
 v20:=Tryz.zeroValue20
 t22:=bN
 a22:=Tryz.isAgg57
 z22:=Tryz.sizeOf57
 v22:=Tryz.zeroValue57}
end Go.Proofs
namespace Go.Proofs.YtjapkoofjlmdgaaGreatDoor
section
open Go.RowKit
theorem A31 (n:Nat)(w)(hn:n*32≤140737328355328):
  bU aG 275 #[G J 0 0,N U n] w fun e w'=>∃v,e=aM v∧w'.ownsRow w.heap.size 59 3 v 0 []∧Below w.heap.size w w':=by
 obtain⟨i0,hi,aa,ab,ac⟩:=info_parts Qo;rcases Nat.eq_zero_or_pos n with rfl|h0
 ·refine(Any8.slices_Grow_room Tryz.laysGrowV J 0 0 0 w (aH _) (by omega) (by omega) (by omega)).mono ?_;rintro e w' ⟨rfl,rfl⟩;exact⟨_,rfl,cZ _ _ _ _,aC _ _⟩
 ·refine(Any8.slices_Grow_grow Tryz.laysGrowV i0 _ hi aa (by omega) J 0 0 n [] w (by omega) (by omega) (by grind) (by omega) (by simp) (fun _=>rfl) (fun a h=>by simp)).mono ?_;rintro e w' ⟨rfl,rfl⟩;rw[Nat.zero_add];have hG:grownCap w n 0 59≤bI:=grownCap_le_maxLen w n 0 _ (by unfold bI;omega);exact⟨_,rfl,Abj rfl (grownCap_ge w n 0 59) hG,((aC _ w).drew).alloc (aH _) _⟩
theorem A1k (X:U5)(g:Nat)(cap:Nat)(w:cA)(hg:g<w.heap.size)(hc:∀i x,X[i]?=H x→w.cell? ⟨g,i,J⟩=H x.1)(hX:∀x∈X,Eu 3 w x.1 x.2.1 x.2.2∧∀u∈x.2.2,u.oneCell'=aR)
  (az:X.length≤3) (hs:U5.sum X*32≤140737328355328):
  bU aG 208 #[G (H ⟨g,0,J⟩) X.length cap] w fun e w'=>∃v,e=aM v∧w'.ownsRow w.heap.size 59 3 v (U5.sum X) (U5.all X)∧Below w.heap.size w w':=by
 obtain⟨i0,hi,an,ap,aq⟩:=info_parts Qo;have HX:=hid hX;have HC:=hid hc;clear hX hc;generalize ar:U5.sum X=S at hs⊢;have HS:=hid ar;clear ar;go_enter Tryz.func208,Tryz.ntmps208;go_wp2
 go_loopw[3,11] (fun z i wr=>∃k s:Nat,k≤X.length∧s≤S∧i=N U k∧z=N U s∧w=wr∧Hid (s=U5.sum (X.take k))) (fun _ i _=>X.length-(bL i).toNat)
 case atStart=>exact⟨0,0,aL _,aL _,rfl,rfl,rfl,hid (by simp[U5.sum])⟩
 case round=>
  obtain⟨k,s,hk,ba,rfl,rfl,rfl,HT⟩:=hrel
  by_cases ah:k<X.length
  ·obtain⟨x,hx⟩:∃x,X[k]?=H x:=⟨_,aA ah⟩;have c0:=HC.out k x hx;obtain⟨ao,c,au⟩:=(HX.out x (aN hx)).1.shape;have ab:=U5.sum_take X k x hx;have ag:=U5.sum_le X (k+1);rw[HS.out,ab,←HT.out]at ag;rw[←HT.out]at ab;have ae:=hid ab;clear hx ab;rw[au]at c0;generalize x.2.1=m at*;clear au;have av:(0:Int)≤(k:Int):=by omega
   have aw:(k:Int)<(X.length:Int):=by omega
   have bb:¬((s:Int)+(m:Int)<0):=by omega
   go_wp2;go_roundw
   case rel=>exact⟨k+1,s+m,by omega,by omega,by go_num,by go_num,by first|trivial|rfl,hid (by rw[ae.out])⟩
   case measure=>simp[bL];omega
  ·have ai:k=X.length:=by omega
   have ax:s=S:=by rw[HT.out,ai,bZ,HS.out]
   subst ax;go_wp2_with(refine(A31 s w hs).mono ?_;rintro e w1 ⟨v,rfl,hv,ay⟩)
   go_loopw[6,27] (fun z i wr=>∃k:Nat,k≤X.length∧i=N U k∧wr.ownsRow w.heap.size 59 3 z (U5.sum (X.take k)) (U5.all (X.take k))∧Below w.heap.size w wr) (fun _ i _=>X.length-(bL i).toNat)
   case atStart=>exact⟨0,aL _,rfl,by simpa[U5.sum,U5.all]using hv,ay⟩
   case round=>
    obtain⟨k,hk,rfl,ac,aa⟩:=hrel
    by_cases ah:k<X.length
    ·obtain⟨x,hx⟩:∃x,X[k]?=H x:=⟨_,aA ah⟩;have c0:=HC.out k x hx;rw[←aa.cell hg]at c0;obtain⟨hr,h1⟩:=HX.out x (aN hx);replace hr:=hr.below aa;have ab:=U5.sum_take X k x hx;have aj:=U5.all_take X k x hx;have ag:=U5.sum_le X (k+1);rw[HS.out,ab]at ag;obtain⟨sv,m,cs⟩:=x;simp only at c0 hr h1 ab aj ag;have ae:=hid ab;have ak:=hid aj;clear hx ab aj;generalize U5.sum (X.take k)=s1 at*;generalize U5.all (X.take k)=a1 at*;have av:(0:Int)≤k:=by omega
     have aw:k<(X.length:Int):=by omega
     rcases hr.2 with⟨rfl,ao,c,rfl,hnil⟩|⟨hm0,b,off,c,rfl,hb,hmc,hcm,hcell⟩
     ·obtain rfl:=aO (by simpa using hr.1);rcases ao with _|ad
      ·obtain rfl:=hnil rfl;go_wp2_with(at_builtin;go_must(refine wpList_append_own_none rfl _ _ 57 rfl _ 59 i0 3 bN hi _ _ _ rfl ac rfl ?_));go_roundw
       case rel=>exact⟨k+1,by omega,by rfl,by rw[ae.out,ak.out,aS,bG];exact ac,aa⟩
       case measure=>simp[bL];omega
      ·have al:∀j u,([]:List aZ)[j]?=H u→wr.cell? (ad.add j)=H u:=fun j u h=>by grind
       go_wp2_with(at_builtin;go_must(refine wpList_append_own _ rfl _ _ 57 rfl _ 59 i0 _ 3 32 bN hi an ap aq rfl (by simp) _ _ _ rfl ac ad 0 c [] rfl (by simp) al (by simp) (by simp only[bI];omega) (by omega) aa.size ?_));intro v2 w2 af am _;go_wp2;go_roundw
       case rel=>exact⟨k+1,by omega,by rfl,by rw[ae.out,ak.out];first|exact af|(rw[aS,bG];exact af),aa.grown am aa.size (fun j hj=>(ac.lt j hj).1)⟩
       case measure=>simp[bL];omega
     ·have al:∀j u,cs[j]?=H u→wr.cell? ((⟨b,off,J⟩:Addr).add j)=H u:=fun j u h=>by rw[Addr.add_lit];grind
      go_wp2_with(at_builtin;go_must(refine wpList_append_own _ rfl _ _ 57 rfl _ 59 i0 _ 3 32 bN hi an ap aq rfl (by simp) _ _ _ rfl ac _ m c cs rfl hr.1 al h1 (by simp only[bI];omega) (by omega) aa.size ?_));intro v2 w2 af am _;go_wp2;go_roundw
      case rel=>exact⟨k+1,by omega,by rfl,by rw[ae.out,ak.out];first|exact af|(rw[aS,bG];exact af),aa.grown am aa.size (fun j hj=>(ac.lt j hj).1)⟩
      case measure=>simp[bL];omega
    ·have ai:k=X.length:=by omega
     subst ai;rw[bZ,HS.out]at ac;go_wp2;go_ret;exact⟨_,rfl,ac,aa⟩
def Ed (f:Fnd)(r:List V):Fnd:=⟨f.row++r,f.ids++r.take 1,[]⟩
def Gv (l:List Fnd)(rows:List (List V)):List Fnd:=l.flatMap fun f=>rows.map (Ed f)
def Sh (w:cA)(gF:Nat)(box:Obj)(acc:List Fnd)(zv:aZ)(wq:cA):Prop:=Dg w.heap.size zv acc wq∧(wq.heap[gF]?=H box∧H gF≠zv.ownBlock)∧Below w.heap.size w wq
theorem Yy {w wr w3 w4}{gF}{box o}{acc}{f}{r}{u5 z4 v2 v3}{n1 n2}(ag:(f.row++r).length=n1)(ah:(f.ids++r.take 1).length=n2){csq}(ac:z4.ownBlock=u5.ownBlock∨z4.ownBlock=H (w3.alloc o).heap.size)(ai:w4.ownsRow w.heap.size 115 3 z4 (acc.length+1) (csq++[v2,v3,G J 0 0]))(aj:All Qf (FO w.heap.size u5) wr acc csq)(ak:wr.ownsRow w.heap.size 115 3 u5 acc.length csq)(ad:Below wr.heap.size wr w3)
  (al:w3.ownsRow wr.heap.size 59 3 v2 n1 (Ax (f.row++r))) (am:w3.ownsRow wr.heap.size 59 3 v3 n2 (Ax (f.ids++r.take 1))) (ab:(w3.alloc o).grownBy w4 u5.ownBlock) (ae:wr.heap[gF]?=H box) (an:H gF≠u5.ownBlock) (aa:Below w.heap.size w wr):Sh w gF box (acc++[Ed f r]) z4 w4:=by
 subst ag ah;have hz:=ad.alloc ad.size o;have ap:=ak.lt;have ho:∀k,wr.heap.size≤k→FO _ u5 k:=fun k hk=>⟨aB aa.size hk,fun e=>by grind⟩
 have hR:Qf.R _ (w3.alloc o) (Ed f r) _:=⟨_,_,_,rfl,(Nc al ho).keep (Ak (Aq _ _)),(Nc am ho).keep (Ak (Aq _ _)),IsL.nil _ _ _⟩;have h1:All Qf (fun k=>FO _ u5 k∧k<(w3.alloc o).heap.size) _ _ _:=All.append ((All.keep (Ak hz) aj).mono fun k hk h=>⟨h,hk⟩) (All.one (Qf.mono (fun k hk h=>⟨h,hk⟩) hR));have af:=Y ae;refine⟨⟨_,by rw[aP];exact ai,(h1.keep ((Aaf ab).mono fun k h=>h.1)).mono fun k _ h=>Ud ac k h.2 h.1⟩,⟨?_,?_⟩,?_⟩
 ·exact(ab.block gF (aX af hz.size) an).trans ((hz.block gF af).trans ae)
 ·rcases ac with e|e
  ·grind
  ·rw[e];intro h;have h3:=bM h;have:=hz.size;omega
 ·exact(aa.trans (hz.mono aa.size)).grown ab (aB aa.size hz.size) fun k hk=>(ap k hk).1
theorem Avr (a b)(n m)(x y):U5.sum [(a,n,x),(b,m,y)]=n+m∧U5.all [(a,n,x),(b,m,y)]=x++y:=by simp[U5.sum,U5.all]
theorem Aek {w}{L M}{a b}{g base}{t}(hg:w.heap[g]?=H (Z #[a,b] t))(ha:Eu 3 w a L.length (Ax L))(hb:Eu 3 w b M.length (Ax M))(hl:L.length+M.length≤1000000)(aa:base≤w.heap.size):
  bU aG 208 #[G (H ⟨g,0,J⟩) 2 2] w fun e w'=>∃v,e=aM v∧w'.ownsRow base 59 3 v (L++M).length (Ax (L++M))∧Below w.heap.size w w':=by
 obtain⟨e1,e2⟩:=Avr a b L.length M.length (Ax L) (Ax M);have h:=A1k [(a,L.length,Ax L),(b,M.length,Ax M)] g 2 w (Y hg) (fun i x hx=>by
  match i,hx with
  |0,hx=>simp at hx;subst hx;exact Aa hg rfl
  |1,hx=>simp at hx;subst hx;exact Aa hg rfl
  |i+2,hx=>grind) (fun x hx=>by
  simp at hx;rcases hx with rfl|rfl
  ·exact⟨ha,Ve L⟩
  ·exact⟨hb,Ve M⟩) (by simp) (by omega)
 rw[e1,e2]at h;refine h.mono ?_;rintro e w' ⟨v,rfl,ho,ab⟩;refine⟨v,rfl,?_,ab⟩;have e3:Ax (L++M)=Ax L++Ax M:=by simp[Ax]
 rw[aP,e3];exact Ni ho aa
theorem Ay3 (l:List Fnd)(rows:List (List V))(lv rv:aZ)(w:cA)(hl:IsL Qf (fun k=>k<w.heap.size) w lv l)(hr:IsL Ek (fun k=>k<w.heap.size) w rv rows)(co:l.length≤1000)(cp:rows.length≤1000)(bj:∀f∈l,f.row.length≤1000∧f.ids.length≤1000)(bk:∀r∈rows,0<r.length∧r.length≤1000):
  bU aG 129 #[lv,rv] w fun e w'=>∃zv,e=aM zv∧Dg w.heap.size zv (Gv l rows) w'∧Below w.heap.size w w':=by
 obtain⟨i0,av,aw,ax,ay⟩:=info_parts Akk;obtain⟨lo,lc,rfl⟩:=hl.shape;obtain⟨ro,rc,rfl⟩:=hr.shape;have HL:Hid _:=hl;have HR:Hid _:=hr;have cq:Hid _:=bj;have cr:Hid _:=bk;clear hl hr bj bk;have bl:∀k,(Gv (l.take k) rows).length≤1000000:=fun k=>by
  have:=J6 (fun f:Fnd=>rows.map (Ed f)) 1000 (l.take k) (fun f _=>by rw[aI];exact cp);have h2:(l.take k).length≤1000:=aB (by simp;omega) co;unfold Gv;omega
 have cs:Hid _:=bl;clear bl;go_enter Tryz.func129,Tryz.ntmps129;go_wp2
 go_loopw[5,12] (fun zv i wr=>∃k:Nat,k≤l.length∧i=N U k∧Hid (Dg w.heap.size zv (Gv (l.take k) rows) wr)∧Below w.heap.size w wr) (fun _ i _=>l.length-(bL i).toNat)
 case atStart=>exact⟨0,aL _,rfl,⟨[],cZ _ _ _ _,rfl⟩,aC _ _⟩
 case round=>
  obtain⟨k,hk,rfl,az,ah⟩:=hrel
  by_cases bm:k<l.length
  ·obtain⟨f,hf⟩:∃f,l[k]?=H f:=⟨_,aA bm⟩;obtain⟨b,di,dj,ct,_,hb,⟨x1,x2,x3,rfl,bn,bo,bp⟩,ar⟩:=Av HL.out hf;cases ct;have d0:=(ah.cell (p:=⟨b,_,J⟩) hb).trans (ar 0 _ rfl);have d1:=(ah.cell (p:=⟨b,_,J⟩) hb).trans (ar 1 _ rfl);have d2:=(ah.cell (p:=⟨b,_,J⟩) hb).trans (ar 2 _ rfl);simp only[Qf,aS]at d0 d1 d2;obtain⟨y1,z1,rfl⟩:=bn.shape;obtain⟨y2,z2,rfl⟩:=bo.shape;obtain⟨y3,z3,rfl⟩:=bp.shape;obtain⟨dk,dl⟩:=cq.out f (aN hf);obtain⟨dm,bq,bt⟩:=bn;obtain⟨dn,bu,bv⟩:=bo;have ea:=A36.1 bt;have eb:=A36.1 bv;subst ea eb;have cu:Hid _:=bq;have cv:Hid _:=bu;have bw:Hid (Gv (l.take (k+1)) rows=Gv (l.take k) rows++rows.map (Ed f)):=by
    show _=_;unfold Gv;rw[bO,hf,Option.toList_some,cX];simp
   obtain⟨bx,bz,-⟩:=al1 wr (Z #[G y1 f.row.length z1,G y2 f.ids.length z2,G y3 f.ord.length z3] 115);have ba:Hid (Sh w wr.heap.size (Z #[G y1 f.row.length z1,G y2 f.ids.length z2,G y3 f.ord.length z3] 115) (Gv (l.take k) rows) u5 (wr.alloc (Z #[G y1 f.row.length z1,G y2 f.ids.length z2,G y3 f.ord.length z3] 115))):=by
    obtain⟨c0,h1,h2⟩:=az.out;exact⟨⟨c0,Aj h1 bx,h2.keep (Ak bx)⟩,⟨bz,fun e=>by have:=(h1.lt _ e.symm).2;omega⟩,ah.alloc ah.size _⟩
   have v0:(0:Int)≤(k:Int):=by omega
   have v1:(k:Int)<(l.length:Int):=by omega
   have HJ:Hid (k+1≤l.length):=bm;have dp:Hid (Below w.heap.size w wr):=ah;have cx:=cs.out k;generalize dq:wr.heap.size=gF at ba bz;obtain⟨wo,cy⟩:∃x,x=wr:=⟨_,rfl⟩;subst cy;generalize cz:Gv (l.take k) rows=acc0 at ba bw cx;clear hf ar bq bt bu bv bp cz az;go_wp2_with fail
   go_loopw[5,18] (fun zv i wr=>∃j:Nat,j≤rows.length∧i=N U j∧Hid (Sh w gF (Z #[G y1 f.row.length z1,G y2 f.ids.length z2,G y3 f.ord.length z3] 115) (acc0++(rows.map (Ed f)).take j) zv wr)) (fun _ i _=>rows.length-(bL i).toNat)
   case atStart=>exact⟨0,aL _,rfl,by show Sh _ _ _ _ _ _;rw[List.take_zero,bG];exact ba.out⟩
   case round=>
    obtain⟨j,hj,rfl,bb⟩:=hrel
    by_cases ca:j<rows.length
    ·obtain⟨r,hx⟩:∃r,rows[j]?=H r:=⟨_,aA ca⟩;obtain⟨⟨bc,cb,cc⟩,⟨ac,bd⟩,ai⟩:=bb.out;obtain⟨b9,ds,dt,da,_,du,⟨yv,rfl,db⟩,cd⟩:=Av (IsL.keep HR.out (Ae ai)) hx;cases da;obtain⟨dv,dw⟩:=cr.out r (aN hx);obtain⟨dx,ce,cf⟩:=db;have er:=A36.1 cf;subst er;rcases ce.2 with⟨h0,_⟩|⟨_,rb,rof,rcp,rfl,_,hrbl,hrc,hrm,hrcell⟩
     ·omega
     have d9:=by have:=cd 0 _ rfl;simpa[Ek]using this
     have be:Hid ((rows.map (Ed f)).take (j+1)=(rows.map (Ed f)).take j++[Ed f r]):=by
      show _=_;rw[bO,bP,hx];rfl
     have dc:Eu 3 wr (G (H ⟨rb,rof,J⟩) 1 rcp) (r.take 1).length (Ax (r.take 1)):=by
      have dy:(r.take 1).length=1:=by rw[aU];omega
      refine⟨Ait _,.inr ⟨by omega,rb,rof,rcp,by grind,hrbl,by omega,hrm,fun q u hq=>hrcell q u ?_⟩⟩;have e9:Ax r=Ax (r.take 1)++Ax (r.drop 1):=by unfold Ax;rw[←cX,List.take_append_drop]
      rw[e9,cO (aE.1 hq).1];exact hq
     have C1:=fun(W:cA) (g:Nat) (h:Below wr.heap.size wr W) (hg:W.heap[g]?=H (Obj.cells #[G y1 f.row.length z1,G (H ⟨rb,rof,J⟩) r.length rcp] 57))=>Aek (L:=f.row) (M:=r) (base:=wr.heap.size) hg (Eu.below (Bp.keep cu.out (Ae ai)).row h) (Eu.below ce.row h) (by omega) h.size
     have C2:=fun(W:cA) (g:Nat) (h:Below wr.heap.size wr W) (hg:W.heap[g]?=H (Obj.cells #[G y2 f.ids.length z2,G (H ⟨rb,rof,J⟩) 1 rcp] 57))=>Aek (L:=f.ids) (M:=r.take 1) (base:=wr.heap.size) hg (Eu.below (Bp.keep cv.out (Ae ai)).row h) (Eu.below dc h) (by rw[aU];omega) h.size
     generalize cg:(f.row++r).length=n1 at C1;generalize ch:(f.ids++r.take 1).length=n2 at C2;have bf:Hid _:=cg;have bg:Hid _:=ch;clear cg ch;have aj:Hid _:=cb;have au:Hid _:=cc;have HB:Hid _:=aK ac bd;have bh:=ai.size;have KS:Hid _:=fun W (h:Below _ wr W)=>aK (show W.cell? _=H (G y1 _ z1)from Aa ((h.block _ (Y ac)).trans ac) (j:=0) rfl) (show W.cell? _=H (G y2 _ z2)from Aa ((h.block _ (Y ac)).trans ac) (j:=1) rfl)
     have KT:Hid _:=fun W (h:Below _ wr W) W' (hg:W.grownBy W' _)=>aK (show W'.cell? _=H (G y1 _ z1)from Aa ((hg.block _ (aX (Y ac) h.size) bd).trans ((h.block _ (Y ac)).trans ac)) (j:=0) rfl) (show W'.cell? _=H (G y2 _ z2)from Aa ((hg.block _ (aX (Y ac) h.size) bd).trans ((h.block _ (Y ac)).trans ac)) (j:=1) rfl)
     have j0:(0:Int)≤j:=by omega
     have j1:j<(rows.length:Int):=by omega
     have q1:(0:Int)≤1:=by omega
     have q3:(1:Int)≤rcp:=by omega
     have al:Hid (j+1≤rows.length):=ca;have dd:(acc0++(rows.map (Ed f)).take j).length≤1100000:=by rw[aP,aU];omega
     generalize cj:acc0++(rows.map _).take j=acc at aj au dd;have bi:Hid _:=cj;clear hx cd cf cb cc cj bb;go_wp2_with fail;refine wp_region_held_drew (S:=(fun W=>W.cell? ⟨gF,0,J⟩=H (G y1 f.row.length z1)∧W.cell? ⟨gF,1,J⟩=H (G y2 f.ids.length z2))) (by rfl) ?_ (fun hHeld=>?_)
     ·exact KS.out _ (aC _ wr).drew
     refine tk 0 ?_;refine tk 1 ?_;refine tk 2 ?_;refine tk 3 ?_;refine tk 6 ?_;refine tk 7 ?_;refine tk 8 ?_;refine tk 9 ?_;refine Abi 4 10 (fun K hK=>?_) (fun K hK=>?_)
     ·go_simp;go_wp2_with fail;refine hK.out _ _ ?_ (fun hHeld=>?_)
      ·exact KS.out _ (Am (aC _ wr).drew _)
      clear hK K;refine Abi 5 10 (fun K hK=>?_) (fun K hK=>?_)
      ·go_simp
       (refine(C1 _ _ (Am (aC _ wr).drew _) (Ab _ _)).mono ?_;rintro e w2 ⟨v2,rfl,ad,ak⟩;obtain⟨ck,cl,rfl⟩:=Eu.shape (Eu.of_own ad);have ab:=Ac (Am (aC _ wr).drew _) ak)
       go_wp2_with fail;refine hK.out _ _ ?_ (fun hHeld=>?_)
       ·exact KS.out _ (ab)
       clear hK K;refine Bh 10 (fun K hK=>?_);go_simp;go_wp2_with fail;refine hK.out _ _ ?_ (fun hHeld=>?_)
       ·exact KS.out _ (Am ab _)
       clear hK K;refine Bh 11 (fun K hK=>?_);go_simp
       (refine(C2 _ _ (Am ab _) (Ab _ _)).mono ?_;rintro e w3 ⟨v3,rfl,ae,af⟩;obtain⟨cm,cn,rfl⟩:=Eu.shape (Eu.of_own ae);have aa:=Ac (Am ab _) af;have an:=Aj ad (Ac (Aq _ _) af))
       go_wp2_with fail;refine hK.out _ _ ?_ (fun hHeld=>?_)
       ·exact KS.out _ (aa)
       clear hK K;refine tk 12 ?_;refine Bh 13 (fun K hK=>?_);go_simp;go_wp2_with fail;refine hK.out _ _ ?_ (fun hHeld=>?_)
       ·exact KS.out _ (Am aa _)
       clear hK K;refine Bh 14 (fun K hK=>?_);refine Im (by rfl) _ _ 111 (by rfl) _ 115 i0 _ 3 72 cG av aw ax ay rfl (by simp) u5 _ bc (by rfl) (Aj aj.out (Am aa _)) _ 1 1 _ (by rfl) rfl (B8 _ _ _) (by intro u hu;simp at hu;rcases hu with rfl|rfl|rfl<;>rfl) (by simp only[bI];omega) (by omega) (aB bh (Am aa _).size) ?_;intro z4 w4 ap ag aq;refine hK.out _ _ ?_ (fun hHeld=>?_)
       ·exact KT.out _ (Am aa _) _ ag
       clear hK K;refine tk 15 ?_;refine dD (by kernel_rfl) ?_ _;go_wp2_with fail;go_roundw
       case rel=>exact⟨_,al.out,by rfl,by show Sh _ _ _ _ _ _;rw[be.out,←aY,bi.out];exact Yy bf.out bg.out aq ap au.out aj.out aa an ae ag HB.out.1 HB.out.2 ai⟩
       case measure=>have:=al.out;simp[bL];omega
      ·go_simp;go_wp2_with fail;refine hK.out _ _ ?_ (fun hHeld=>?_)
       ·exact KS.out _ (Am (Am (aC _ wr).drew _) _)
       clear hK K;refine Bh 5 (fun K hK=>?_);go_simp
       (refine(C1 _ _ (Am (Am (aC _ wr).drew _) _) (Ad (Ab _ _) _)).mono ?_;rintro e w2 ⟨v2,rfl,ad,ak⟩;obtain⟨ck,cl,rfl⟩:=Eu.shape (Eu.of_own ad);have ab:=Ac (Am (Am (aC _ wr).drew _) _) ak)
       go_wp2_with fail;refine hK.out _ _ ?_ (fun hHeld=>?_)
       ·exact KS.out _ (ab)
       clear hK K;refine Bh 11 (fun K hK=>?_);go_simp
       (refine(C2 _ _ (ab) ((ak.block _ (Y (Ca _ _ _))).trans (Ca _ _ _))).mono ?_;rintro e w3 ⟨v3,rfl,ae,af⟩;obtain⟨cm,cn,rfl⟩:=Eu.shape (Eu.of_own ae);have aa:=Ac (ab) af;have an:=Aj ad (af))
       go_wp2_with fail;refine hK.out _ _ ?_ (fun hHeld=>?_)
       ·exact KS.out _ (aa)
       clear hK K;refine tk 12 ?_;refine Bh 13 (fun K hK=>?_);go_simp;go_wp2_with fail;refine hK.out _ _ ?_ (fun hHeld=>?_)
       ·exact KS.out _ (Am aa _)
       clear hK K;refine Bh 14 (fun K hK=>?_);refine Im (by rfl) _ _ 111 (by rfl) _ 115 i0 _ 3 72 cG av aw ax ay rfl (by simp) u5 _ bc (by rfl) (Aj aj.out (Am aa _)) _ 1 1 _ (by rfl) rfl (B8 _ _ _) (by intro u hu;simp at hu;rcases hu with rfl|rfl|rfl<;>rfl) (by simp only[bI];omega) (by omega) (aB bh (Am aa _).size) ?_;intro z4 w4 ap ag aq;refine hK.out _ _ ?_ (fun hHeld=>?_)
       ·exact KT.out _ (Am aa _) _ ag
       clear hK K;refine tk 15 ?_;refine dD (by kernel_rfl) ?_ _;go_wp2_with fail;go_roundw
       case rel=>exact⟨_,al.out,by rfl,by show Sh _ _ _ _ _ _;rw[be.out,←aY,bi.out];exact Yy bf.out bg.out aq ap au.out aj.out aa an ae ag HB.out.1 HB.out.2 ai⟩
       case measure=>have:=al.out;simp[bL];omega
     ·go_simp;go_wp2_with fail;refine hK.out _ _ ?_ (fun hHeld=>?_)
      ·exact KS.out _ (Am (aC _ wr).drew _)
      clear hK K;refine Bh 4 (fun K hK=>?_);go_simp;go_wp2_with fail;refine hK.out _ _ ?_ (fun hHeld=>?_)
      ·exact KS.out _ (Am (Am (aC _ wr).drew _) _)
      clear hK K;refine Bh 5 (fun K hK=>?_);go_simp
      (refine(C1 _ _ (Am (Am (aC _ wr).drew _) _) (Ca _ _ _)).mono ?_;rintro e w2 ⟨v2,rfl,ad,ak⟩;obtain⟨ck,cl,rfl⟩:=Eu.shape (Eu.of_own ad);have ab:=Ac (Am (Am (aC _ wr).drew _) _) ak)
      go_wp2_with fail;refine hK.out _ _ ?_ (fun hHeld=>?_)
      ·exact KS.out _ (ab)
      clear hK K;refine Bh 11 (fun K hK=>?_);go_simp
      (refine(C2 _ _ (ab) ((ak.block _ (Y (Ad (Ab _ _) _))).trans (Ad (Ab _ _) _))).mono ?_;rintro e w3 ⟨v3,rfl,ae,af⟩;obtain⟨cm,cn,rfl⟩:=Eu.shape (Eu.of_own ae);have aa:=Ac (ab) af;have an:=Aj ad (af))
      go_wp2_with fail;refine hK.out _ _ ?_ (fun hHeld=>?_)
      ·exact KS.out _ (aa)
      clear hK K;refine tk 12 ?_;refine Bh 13 (fun K hK=>?_);go_simp;go_wp2_with fail;refine hK.out _ _ ?_ (fun hHeld=>?_)
      ·exact KS.out _ (Am aa _)
      clear hK K;refine Bh 14 (fun K hK=>?_);refine Im (by rfl) _ _ 111 (by rfl) _ 115 i0 _ 3 72 cG av aw ax ay rfl (by simp) u5 _ bc (by rfl) (Aj aj.out (Am aa _)) _ 1 1 _ (by rfl) rfl (B8 _ _ _) (by intro u hu;simp at hu;rcases hu with rfl|rfl|rfl<;>rfl) (by simp only[bI];omega) (by omega) (aB bh (Am aa _).size) ?_;intro z4 w4 ap ag aq;refine hK.out _ _ ?_ (fun hHeld=>?_)
      ·exact KT.out _ (Am aa _) _ ag
      clear hK K;refine tk 15 ?_;refine dD (by kernel_rfl) ?_ _;go_wp2_with fail;go_roundw
      case rel=>exact⟨_,al.out,by rfl,by show Sh _ _ _ _ _ _;rw[be.out,←aY,bi.out];exact Yy bf.out bg.out aq ap au.out aj.out aa an ae ag HB.out.1 HB.out.2 ai⟩
      case measure=>have:=al.out;simp[bL];omega
    ·have de:j=rows.length:=by omega
     subst de;have j1:¬(rows.length<(rows.length:Int)):=by omega
     obtain⟨am,_,df⟩:=bb.out;rw[cS (by simp)]at am;have dg:Hid (Dg w.heap.size u5 (Gv (l.take (k+1)) rows) wr):=by show Dg _ _ _ _;rw[bw.out];exact am
     clear am;go_wp2_with fail;go_roundw
     case rel=>exact⟨_,HJ.out,by rfl,dg,df⟩
     case measure=>have:=HJ.out;simp[bL];omega
  ·have dh:k=l.length:=by omega
   subst dh;have v1:¬(l.length<(l.length:Int)):=by omega
   have am:=az.out;rw[bZ]at am;go_wp2;go_ret;exact⟨_,rfl,am,ah⟩
def Q7 (t:TabD)(r:List V)(i:Nat):Bool:=match t.cols[i]?,r[i]? with
 |some c,H v=>c.must&&decide (v.k=0)
 |_,_=>bC
def Q8 (t:TabD)(r:List V):Bool:=Bz (Q7 t r) 0 t.cols.length
def Al8 (T:List Pg)(t:TabD)(r:List V):Int:=if Q8 t r=aR then 7 else if(Hy (flat T) (rk t r)).isSome=aR then 4 else if 30≤(F3 t.cols.length (rng T (Hl t.name) (Hm t.name))).length then 8 else 0
def Lf (d:Db)(t:TabD)(r:List V):Int:=if Q8 t r=aR then 7 else if(d.R t.name).any (fun q=>decide (rk t q=rk t r))=aR then 4 else if 30≤(d.R t.name).length then 8 else 0
theorem Ay4 {d}(ok:DbOk d){T}(hT:As T)(h:Has d (flat T)){t}(ht:t∈d.c.tables)(r):Al8 T t r=Lf d t r:=by
 unfold Al8 Lf;rw[Ab4 ok hT h ht];have e:(Hy (flat T) (rk t r)).isSome=(d.R t.name).any (fun q=>decide (rk t q=rk t r)):=by
  cases hg:Hy (flat T) (rk t r)with
  |none=>
   have:=(Aqd ok h ht r).1 hg;grind
  |some v=>
   symm
   rw[Option.isSome_some,List.any_eq_true];obtain⟨q,hq,e,_⟩:=(Sg ok h ht).1 (Vy hg);exact⟨q,hq,by rw[decide_eq_true_eq];exact e⟩
 rw[e]
theorem Ahu (d)(t)(r):Lf d t r=0∨Lf d t r=4∨Lf d t r=7∨Lf d t r=8:=by
 unfold Lf;omega
def Jg (t:TabD)(r:List V):Prop:=r.length=t.cols.length∧∀(i:Nat) (c:ColD) (v:V),t.cols[i]?=H c→r[i]?=H v→good v=aR∧(v.k=c.ty∨v.k=0)
theorem Jg.good {t}{r}(h:Jg t r):r.length=t.cols.length∧∀v∈r,good v=aR:=by
 refine⟨h.1,fun v hv=>?_⟩;obtain⟨i,hi,rfl⟩:=cW hv;exact(h.2 i _ _ (aA (by rw[←h.1];omega)) (aA hi)).1
theorem Jg.fits {t}{r}(h:Jg t r)(hl:Q8 t r=bC):F9 t r=aR:=by
 unfold F9;rw[decide_eq_true h.1,Bool.true_and,bQ];refine Yt _ _ fun j _ hj=>?_
 have ac:=Jz hl j (aL _) hj;have aa:j<t.cols.length:=by omega
 have ab:j<r.length:=by rw[h.1];exact aa
 obtain⟨g,ty⟩:=h.2 j _ _ (aA aa) (aA ab);simp only[Q7,aA aa,aA ab]at ac;simp only[Ajk,aA aa,aA ab,Aq8,g,Bool.true_and,dA,bH,bB,bQ,decide_eq_true_eq];grind
def C7 (t:TabD):Db→List (List V)→Db×Int
 |d,[]=>(d,0)
 |d,r::rows=>if Lf d t r=0 then C7 t (d.upd t.name (Ec (rk t) (d.R t.name) r)) rows else(d,Lf d t r)
theorem Ay5 {d}{t}{r}(h:Lf d t r=0):Q8 t r=bC∧(∀q∈d.R t.name,rk t q≠rk t r)∧(d.R t.name).length<30:=by
 unfold Lf at h;grind
theorem Ay6 {d}(ok:DbOk d){F}(h:Has d F){t}(ht:t∈d.c.tables){r}(hr:Jg t r)(hm:Lf d t r=0):DbOk (d.upd t.name (Ec (rk t) (d.R t.name) r))∧Has (d.upd t.name (Ec (rk t) (d.R t.name) r)) (putRow F d.c.indexes t r):=by
 obtain⟨h1,h2,h3⟩:=Ay5 hm;exact⟨A3f ok ht (hr.fits h1) h2 h3,A1g ok ht h h2⟩
end
section
open Go.RowKit Go.Maps
def Sp.short (s:Sp):Prop:=s.lo.size≤100∧s.hi.size≤100
theorem Tg {k}(h:k.size≤50):(Ld k).short:=⟨aB h (by simp),by show(k++ffW).size≤100;rw[Ox];have:ffW.size=1:=rfl;omega⟩
theorem Ay7 (k:Wd):(k.extract 0 1).size≤1:=by simp[ByteArray.size_extract];omega
theorem Si (v):(skS v).short:=Tg (aB (Ay7 _) (by simp))
theorem ffs (v):(kb v++ffW).size≤100:=by rw[Ox];have:=Ad6 v;have:ffW.size=1:=rfl;omega
theorem kbs (v):(kb v).size≤100:=aB (Ad6 v) (by simp)
theorem Ael (v)(yes):(Vz v yes).short:=by
 cases yes
 ·exact Si v
 ·exact Tg (aB (Ad6 v) (by simp))
theorem Aov (v)(yes):(Uw v yes).short:=by
 cases yes
 ·exact⟨kbs v,(Si v).2⟩
 ·exact⟨(Si v).1,kbs v⟩
theorem Al9 (v)(yes):(Rn v yes).short:=by
 cases yes
 ·exact⟨(Si v).1,ffs v⟩
 ·exact⟨ffs v,(Si v).2⟩
theorem Ar9 {s o:Sp}(h:s.short)(g:o.short):(s.both o).short:=by
 constructor
 ·show(Ly _ _).size≤100;unfold Ly;split
  ·exact g.1
  ·exact h.1
 ·show(Lz _ _).size≤100;unfold Lz;split
  ·exact g.2
  ·exact h.2
theorem Ama {s o:Sp}(h:s.short)(g:o.short):(s.either o).short:=by
 unfold Sp.either;split
 ·omega
 ·split
  ·omega
  ·constructor
   ·show(Lz _ _).size≤100;unfold Lz;split
    ·exact g.1
    ·exact h.1
   ·show(Ly _ _).size≤100;unfold Ly;split
    ·exact g.2
    ·exact h.2
theorem Ju:(Ld noW).short:=Tg (by decide)
theorem Amb:noS.short:=⟨by decide,by decide⟩
theorem Km (at' col):∀(d:Nat) (e:E) (yes:Bool),(Bt at' col d e yes).short
 |0,e,yes=>by unfold Bt;exact Ju
 |d+1,.mk op x s name n l,yes=>by
  unfold Bt;split
  ·split
   ·exact Km at' col d _ _
   ·exact Ju
  split
  ·split
   ·split
    ·exact Ar9 (Km at' col d _ _) (Km at' col d _ _)
    ·exact Ama (Km at' col d _ _) (Km at' col d _ _)
   ·exact Ju
  split
  ·split
   ·unfold isS;split
    ·split
     ·exact Tg (aB (Ad6 zero) (by simp))
     ·exact⟨ffs zero,by decide⟩
    ·exact Ju
   ·exact Ju
  split
  ·split
   ·unfold V0;split
    ·exact Amb
    split
    ·exact Ael _ _
    split
    ·exact Ael _ _
    split
    ·exact Aov _ _
    split
    ·exact Al9 _ _
    ·exact Ju
   ·exact Ju
  split
  ·exact Amb
  ·exact Ju
theorem Asa {w:cA}{g}{p q r a b c}{t}(h:w.heap[g]?=H (Z #[p,q,r] t)):(((w.setCell ⟨g,0,J⟩ a).setCell ⟨g,1,J⟩ b).setCell ⟨g,2,J⟩ c).heap[g]?=H (Z #[a,b,c] t):=by
 rw[upd (upd (upd h 0 a) 1 b) 2 c];rfl
theorem Gw {w:cA}{g b}{x}{p q r}(h:w.heap[b]?=H x)(hn:b≠g):(((w.setCell ⟨g,0,J⟩ p).setCell ⟨g,1,J⟩ q).setCell ⟨g,2,J⟩ r).heap[b]?=H x:=by
 simp only[World.setCell,cT];grind
theorem A1l {V w3}{x lo hi:Wd}(hz:Below V.heap.size V w3):(w3.alloc (Z #[D x,D lo,D hi] 159)).heap[w3.heap.size]?=H (Z #[D x,D lo,D hi] 159)∧Below V.heap.size V (w3.alloc (Z #[D x,D lo,D hi] 159))∧V.heap.size≤w3.heap.size:=⟨Ab _ _,hz.alloc hz.size _,hz.size⟩
theorem A1m {V w3}{x lo hi:Wd}{g}(hz:Below V.heap.size V w3)(p:w3.heap[g]?=H (Z #[D noW,D noW,D noW] 159))(hg:V.heap.size≤g):
  (((w3.setCell ⟨g,0,J⟩ (D x)).setCell ⟨g,1,J⟩ (D lo)).setCell ⟨g,2,J⟩ (D hi)).heap[g]?=H (Z #[D x,D lo,D hi] 159)∧Below V.heap.size V (((w3.setCell ⟨g,0,J⟩ (D x)).setCell ⟨g,1,J⟩ (D lo)).setCell ⟨g,2,J⟩ (D hi))∧V.heap.size≤g:=
 ⟨by rw[upd (upd (upd p 0 _) 1 _) 2 _];rfl,((hz.setCell hg _).setCell hg _).setCell hg _,hg⟩
theorem Asb (ct:CatD)(t:TabD)(aa:Int)(ag ek en:Int)(ex es em:Wd)(ei:Int)(ea:Option Addr)(el ec:Nat)(e0:E)(ak:Option Addr)(al am:Nat)(io:Option Addr)(il ic:Nat)(co:Option Addr)(cc:Nat)(C:Nat)(w:cA)(he:IsE (fun k=>k<C) w e0 (bD #[N U ag,N U ek,N U en,D ex,D es,D em,N U ei,G ea el ec]))(hC:C≤w.heap.size)(hx:Dd e0)(ee:Mt 40 e0)(hg:geB 40 e0=aR)(ht:t.name.size≤100000)
  (cz:Hp (fun k=>k<C) w ct (bD #[G ak al am,G io il ic])) (ef:K7 ct) (da:IsL Cp (fun k=>k<C) w (G co t.cols.length cc) t.cols) (db:∀x∈ct.indexes,x.name.size≤1000):
  bU aG 116 #[bD #[G ak al am,G io il ic],bD #[D t.name,G co t.cols.length cc],N U aa,bD #[N U ag,N U ek,N U en,D ex,D es,D em,N U ei,G ea el ec]] w fun e w'=>e=aM (J0 (Dp ct t aa e0).x (Dp ct t aa e0).lo (Dp ct t aa e0).hi)∧Below w.heap.size w w':=by
 obtain⟨av,B0,B1,B2,B3,-⟩:=al4 w (Z #[G ak al am,G io il ic] 41) (Z #[D t.name,G co t.cols.length cc] 74) (Z #[N U ag,N U ek,N U en,D ex,D es,D em,N U ei,G ea el ec] 69) (Z #[D noW,D noW,D noW] 159);generalize hW:(((w.alloc (Z #[G ak al am,G io il ic] 41)).alloc (Z #[D t.name,G co t.cols.length cc] 74)).alloc (Z #[N U ag,N U ek,N U en,D ex,D es,D em,N U ei,G ea el ec] 69)).alloc (Z #[D noW,D noW,D noW] 159)=V at B0 B1 B2 B3 av;have HW:Hid _:=hW;clear hW;have dc:∀W,Below w.heap.size w W→IsE (fun k=>k<C) W e0 (bD #[N U ag,N U ek,N U en,D ex,D es,D em,N U ei,G ea el ec]):=fun W hW=>IsE.keep (Ae (hW.mono hC)) _ _ he
 have bq:=Ok 40 (aH _) e0 (bD #[N U ag,N U ek,N U en,D ex,D es,D em,N U ei,G ea el ec]) C V (dc V av) (aB hC av.size) hx;rw[hg]at bq;have bt:=fun col W (hW:Below w.heap.size w W)=>Au9 aa col 40 e0 (bD #[N U ag,N U ek,N U en,D ex,D es,D em,N U ei,G ea el ec]) aR C W (dc W hW) (aB hC hW.size) hg hx ee
 have bu:=fun W=>Qa t.name W (by omega)
 have be:=fun col=>Km aa col 40 e0 aR
 have aw:=fun W=>Afm (Bt aa 0 40 e0 aR).lo (Bt aa 0 40 e0 aR).hi noW (Dc t.name) W (by have:=(be 0).1;omega) (by have:=(be 0).2;omega) (by rw[S3];omega)
 have bv:=fun W (hW:Below w.heap.size w W)=>Aec ct ak al am io il ic C W (cz.keep (Ae (hW.mono hC))) (aB hC hW.size) ef
 have ES:Hid (Dp ct t aa e0=((if Ds ct then ct.indexes else[]).foldl (Du aa e0 t) (Iv aa e0 t)).2):=by show _=_;unfold Dp;rw[if_pos hg]
 rw[ES.out];clear ES;obtain⟨tv,iv,dd,eg,de⟩:=cz;obtain⟨rfl,rfl⟩:tv=G ak al am∧iv=G io il ic:=by simpa using dd.symm
 obtain⟨I,bw,bx,df,bz⟩:∃(I:List IdxD) (bw:aZ),(if Ds ct then ct.indexes else[])=I∧(if Ds ct then cJ io il ic else G J 0 0)=bw∧(∀W,Below w.heap.size w W→IsL D6 (fun k=>k<C) W bw I):=by
  cases Ds ct
  ·exact⟨[],G J 0 0,rfl,rfl,fun W _=>IsL.nil _ _ _⟩
  ·exact⟨ct.indexes,_,rfl,rfl,fun W hW=>de.keep (Ae (hW.mono hC))⟩
 have dg:∀x∈I,x.name.size≤1000:=fun x bf=>by
  rw[←bx]at bf;split at bf
  ·exact db x bf
  ·cases bf
 rw[df]at bv;rw[bx];generalize dh:I.foldl (Du aa e0 t) (Iv aa e0 t)=FF;have di:Hid _:=dh;clear dh;obtain⟨fg,fh,rfl⟩:=(bz w (aC _ _)).shape;have dj:Hid _:=bz;have eh:Hid _:=dg;have dk:Hid _:=be;have ej:Hid _:=da;clear bx df bz db dg eg de dd he be da;have EB:Hid (Iv aa e0 t=(Bt aa 0 40 e0 aR,⟨noW,Dc t.name++(Bt aa 0 40 e0 aR).lo,Dc t.name++(Bt aa 0 40 e0 aR).hi⟩)):=rfl;have bg:=bt 0;generalize eo:Bt aa 0 40 e0 aR=b0 at bg aw EB;generalize fi:Dc t.name=rb at bu aw EB;simp only[Sp.val]at bg;have BX:Hid _:=aK B1 (aK B2 B3);have dl:Hid _:=B0;have a0:=Aa B2 (j:=0) (u:=N U ag) rfl;have a1:=Aa B2 (j:=1) (u:=N U ek) rfl;have a2:=Aa B2 (j:=2) (u:=N U en) rfl;have a3:=Aa B2 (j:=3) (u:=D ex) rfl;have a4:=Aa B2 (j:=4) (u:=D es) rfl;have a5:=Aa B2 (j:=5) (u:=D em) rfl;have a6:=Aa B2 (j:=6) (u:=N U ei) rfl;have a7:=Aa B2 (j:=7) (u:=G ea el ec) rfl;go_enter Tryz.func116,Tryz.ntmps116;go_upto_region 1 with fail;rw[HW.out];go_upto_region 4 with(first
  |(go_fit bq;rintro e w1 ⟨rfl,ax⟩;have D2:=(ax.block _ (Y B2)).trans B2;have c0:=Aa D2 (j:=0) (u:=N U ag) rfl;have c1:=Aa D2 (j:=1) (u:=N U ek) rfl;have c2:=Aa D2 (j:=2) (u:=N U en) rfl;have c3:=Aa D2 (j:=3) (u:=D ex) rfl;have c4:=Aa D2 (j:=4) (u:=D es) rfl;have c5:=Aa D2 (j:=5) (u:=D em) rfl;have c6:=Aa D2 (j:=6) (u:=N U ei) rfl;have c7:=Aa D2 (j:=7) (u:=G ea el ec) rfl;have dm:=bg w1 (Ac av ax))
  |(go_fit dm;rintro e w2 ⟨rfl,ca⟩))
 obtain⟨V2,bh⟩:∃V2,w2.alloc (Z #[D b0.lo,D b0.hi] 230)=V2:=⟨_,rfl⟩;rw[bh];have B9:V2.heap[w2.heap.size]?=H (Z #[D b0.lo,D b0.hi] 230):=by rw[←bh];exact Ab _ _
 have ap:Below V.heap.size V V2:=by rw[←bh];exact(Ac ax ca).alloc (Ac ax ca).size _
 have lV:w.heap.size+3<V.heap.size:=Y B3;have fj:V.heap.size≤w2.heap.size:=(Ac ax ca).size;have ep:Below w.heap.size w V2:=Ac av ap;clear bh bq bg dm;generalize et:w2.heap.size=g9 at*;clear et;have KS:Hid (∀W,Below V2.heap.size V2 W→(W.cell? ⟨g9,0,J⟩=H (D b0.lo)∧W.cell? ⟨g9,1,J⟩=H (D b0.hi)∧W.cell? ⟨w.heap.size+1,0,J⟩=H (D t.name))):=fun W hW=>by
  have D9:=(hW.block _ (Y B9)).trans B9;have D1:=((Ac ap hW).block _ (Y B1)).trans B1;exact⟨Aa D9 (j:=0) rfl,Aa D9 (j:=1) rfl,Aa D1 (j:=0) rfl⟩
 go_cut[10]from 11 to 63 (fun eu wx=>∃ad,eu=bA (H ⟨ad,0,J⟩)∧wx.heap[ad]?=H (Z #[D noW,D (rb++b0.lo),D (rb++b0.hi)] 159)∧Below V2.heap.size V2 wx∧V2.heap.size≤ad)
 case first=>
  have z0:Below V2.heap.size V2 V2.drew:=(aC _ _).drew;have zA:Below V2.heap.size V2 (V2.drew.alloc (Z #[D noW,D noW,D noW] 159)):=z0.alloc (aH _) _;have zD:Below V2.heap.size V2 (V2.alloc (Z #[D noW,D noW,D noW] 159)).drew:=((aC _ _).alloc (aH _) _).drew;have y0:=KS.out _ z0;have yA:=KS.out _ zA;have yD:=KS.out _ zD;unfold J0 at aw
  go_region_held3(fun W=>(W.cell? ⟨g9,0,J⟩=H (D b0.lo)∧W.cell? ⟨g9,1,J⟩=H (D b0.hi)∧W.cell? ⟨w.heap.size+1,0,J⟩=H (D t.name)))
   (with_reducible first|exact y0|exact yA|exact yD|exact y3|exact KS.out _ (ah.alloc ah.size _)|exact KS.out _ (((ah.setCell (aH _) _).setCell (aH _) _).setCell (aH _) _)|exact KS.out _ ((((ah.alloc ah.size _).setCell ah.size _).setCell ah.size _).setCell ah.size _))
   (first
    |(go_at_call 181;refine(bu _).mono ?_;rintro e w9 ⟨rfl,rfl⟩)
    |(go_at_call 180;refine(aw _).mono ?_;rintro e w3 ⟨rfl,cb⟩;have ah:Below V2.heap.size V2 w3:=Ac (by with_reducible first|exact z0|exact zA|exact zD) cb;have y3:=KS.out _ ah;(first|(have pA:w3.heap[V2.heap.size]?=H (Z #[D noW,D noW,D noW] 159):=(by first|exact(cb.block _ (Y (w:=(V2.alloc (Z #[D noW,D noW,D noW] 159)).drew) (Ab V2 _))).trans (Ab V2 _)|exact(cb.block _ (Y (Ab V2.drew _))).trans (Ab V2.drew _));have q0:=Aa pA (j:=0) (u:=D noW) rfl;have q1:=Aa pA (j:=1) (u:=D noW) rfl;have q2:=Aa pA (j:=2) (u:=D noW) rfl;have f0:w3.frozen? ⟨V2.heap.size,0,J⟩=bC:=(by simp[aD,pA]);have f1:w3.frozen? ⟨V2.heap.size,1,J⟩=bC:=(by simp[aD,pA]);have f2:w3.frozen? ⟨V2.heap.size,2,J⟩=bC:=(by simp[aD,pA]))|skip)))
  all_goals go_wp2_with fail
  all_goals go_meet
  all_goals
   refine⟨_,rfl,?_⟩
   first|exact A1l ah|exact A1m ah pA (aH _)
 case rest=>
  obtain⟨ad,rfl,dn,ay,fk⟩:=hcut;have zc:Below w.heap.size w wc:=Ac ep ay;have dp:=Ac ap ay;have C0:=(dp.block _ (Y dl.out)).trans dl.out;have k0:=Aa C0 (j:=0) (u:=G ak al am) rfl;have k1:=Aa C0 (j:=1) (u:=G io il ic) rfl;have dq:=bv wc zc;have ds:=Y B9;have fl:=ay.size;have dt:g9≠ad:=by omega
  go_wp2_with(go_fit dq;rintro e w5 ⟨rfl,bi⟩);have D9:=(bi.block _ (aX ds ay.size)).trans ((ay.block _ ds).trans B9);have ew:=(bi.block _ (Y dn)).trans dn;have cd:=Ac dp bi;have D1:=(cd.block _ (Y BX.out.1)).trans BX.out.1;have D2:=(cd.block _ (Y BX.out.2.1)).trans BX.out.2.1;have D3:=(cd.block _ (Y BX.out.2.2)).trans BX.out.2.2;have fm:I.length≤9223372036854775807:=(Ew (dj.out w (aC _ _))).2;clear bv dq k0 k1 C0 aw bu
  go_loopw[33] (fun i wr=>∃(k:Nat) (ab:Sp) (ac:Wy),k≤I.length∧i=N U k∧Hid ((I.take k).foldl (Du aa e0 t) (Iv aa e0 t)=(ab,ac))∧wr.heap[g9]?=H (Z #[D ab.lo,D ab.hi] 230)∧wr.heap[ad]?=H (Z #[D ac.x,D ac.lo,D ac.hi] 159)∧wr.heap[w.heap.size+1]?=H (Z #[D t.name,G co t.cols.length cc] 74)∧wr.heap[w.heap.size+2]?=H (Z #[N U ag,N U ek,N U en,D ex,D es,D em,N U ei,G ea el ec] 69)∧wr.heap[w.heap.size+3]?=H (Z #[D noW,D noW,D noW] 159)∧Below w.heap.size w wr∧ab.short) (fun i _=>I.length-(bL i).toNat)
  case atStart=>exact⟨0,b0,⟨noW,rb++b0.lo,rb++b0.hi⟩,aL _,rfl,by show _=_;rw[List.take_zero,List.foldl_nil];exact EB.out,D9,ew,D1,D2,D3,Ac zc bi,by rw[←eo];exact dk.out 0⟩
  case round=>
   obtain⟨k,ab,ac,hk,rfl,HF,R9,ai,R1,R2,R3,ae,bj⟩:=hrel
   by_cases ey:k<I.length
   ·obtain⟨x,bk⟩:∃x,I[k]?=H x:=⟨_,aA ey⟩;obtain⟨b,ce,cs,rfl,fn,fo,ez,bl⟩:=Av (dj.out wr ae) bk;obtain rfl:=ez;have d0:wr.cell? ⟨b,ce+k*3,J⟩=H (D x.name):=by have:=bl 0 _ rfl;simpa[D6]using this
    have d1:wr.cell? ⟨b,ce+k*3+1,J⟩=H (D x.table):=by have:=bl 1 _ rfl;simpa[D6]using this
    have d2:wr.cell? ⟨b,ce+k*3+2,J⟩=H (D x.col):=by have:=bl 2 _ rfl;simpa[D6]using this
    have j0:(0:Int)≤(k:Int):=by omega
    have j1:(k:Int)<(I.length:Int):=by omega
    have fp:=eh.out x (aN bk);have cf:Hid ((I.take (k+1)).foldl (Du aa e0 t) (Iv aa e0 t)=Du aa e0 t (ab,ac) x):=by
     show _=_;rw[bO,bk,List.foldl_append,HF.out];rfl
    have zx:Below w.heap.size w (wr.alloc (Z #[D x.name,D x.table,D x.col] 78)):=ae.alloc ae.size _;have T1:=Ad R1 (Z #[D x.name,D x.table,D x.col] 78);have t0:=Aa T1 (j:=0) (u:=D t.name) rfl;have t1:=Aa T1 (j:=1) (u:=G co t.cols.length cc) rfl;have HX:=Uh t x (G co t.cols.length cc) C (wr.alloc (Z #[D x.name,D x.table,D x.col] 78)) (IsL.keep ej.out (Ae (zx.mono hC))) (aB hC zx.size);clear bl bk;rcases Vg t x with hq|⟨p,hq,hp⟩
    ·have E2:Hid (Du aa e0 t (ab,ac) x=(ab,ac)):=by show _=_;unfold Du;rw[if_pos (by rw[hq];decide)]
     rw[hq]at HX;go_wp2_with(go_fit HX;rintro e w6 ⟨rfl,bm⟩);have af:Below wr.heap.size wr w6:=Ac (Aq _ _) bm;go_roundw
     case rel=>exact⟨k+1,ab,ac,by omega,by go_num,by show _=_;rw[cf.out,E2.out],(af.block _ (Y R9)).trans R9,(af.block _ (Y ai)).trans ai,(af.block _ (Y R1)).trans R1,(af.block _ (Y R2)).trans R2,(af.block _ (Y R3)).trans R3,ae.trans (af.mono ae.size),bj⟩
     case measure=>simp[bL];omega
    ·have bn:=bt (p:Int);have aq:=dk.out (p:Int);have E2:Hid (Du aa e0 t (ab,ac) x=if(Bt aa (p:Int) 40 e0 aR).rank<ab.rank then(Bt aa (p:Int) 40 e0 aR,⟨x.name,Hk x.name++(Bt aa (p:Int) 40 e0 aR).lo,Hk x.name++(Bt aa (p:Int) 40 e0 aR).hi⟩)else(ab,ac)):=by
      show _=_;unfold Du;rw[hq,if_neg (by omega)]
     rw[hq]at HX;clear hq hp;generalize Bt aa (p:Int) 40 e0 aR=sp at bn aq E2;have cg:=fun W=>Alx sp W (by have:=aq.1;omega)
     have ch:=fun W=>Alx ab W (by have:=bj.1;omega)
     have du:=fun W=>Oy x.name W (by omega)
     have cj:=fun W=>Afm sp.lo sp.hi x.name (Hk x.name) W (by have:=aq.1;omega) (by have:=aq.2;omega) (by rw[Xy];omega)
     generalize sp.rank=r1 at cg E2;generalize ab.rank=r2 at ch E2;generalize Hk x.name=ib at du cj E2;simp only[Sp.val]at bn cg ch;unfold J0 at cj;have p0:¬(p:Int)<0:=by omega
     have fa:Hid _:=aq;have fb:Hid _:=bj;clear aq bj;go_upto_region 11 with(first
      |(go_fit HX;rintro e w6 ⟨rfl,bm⟩;have af:Below wr.heap.size wr w6:=Ac (Aq _ _) bm;have T2:=(af.block _ (Y R2)).trans R2;have c0:=Aa T2 (j:=0) (u:=N U ag) rfl;have c1:=Aa T2 (j:=1) (u:=N U ek) rfl;have c2:=Aa T2 (j:=2) (u:=N U en) rfl;have c3:=Aa T2 (j:=3) (u:=D ex) rfl;have c4:=Aa T2 (j:=4) (u:=D es) rfl;have c5:=Aa T2 (j:=5) (u:=D em) rfl;have c6:=Aa T2 (j:=6) (u:=N U ei) rfl;have c7:=Aa T2 (j:=7) (u:=G ea el ec) rfl;have dv:=bn w6 (ae.trans (af.mono ae.size)))
      |(go_fit dv;rintro e w7 ⟨rfl,bo⟩))
     have az:Below wr.heap.size wr (w7.alloc (Z #[D sp.lo,D sp.hi] 230)):=(Ac af bo).alloc (Ac af bo).size _;have ba:=Ab w7 (Z #[D sp.lo,D sp.hi] 230);have dw:=((Ac bm bo).block _ (Y (Ab wr (Z #[D x.name,D x.table,D x.col] 78)))).trans (Ab wr (Z #[D x.name,D x.table,D x.col] 78));have ck:=Ad dw (Z #[D sp.lo,D sp.hi] 230);have l7:wr.heap.size≤w7.heap.size:=(Ac af bo).size;obtain⟨V7,dx⟩:∃V7,w7.alloc (Z #[D sp.lo,D sp.hi] 230)=V7:=⟨_,rfl⟩;rw[dx]at az ba ck⊢;clear dx HX bn dv bt dw;have Q9:=(az.block _ (Y R9)).trans R9;have dy:=(az.block _ (Y ai)).trans ai;have l9:=Y R9;have fq:=Y ai;have cl:Hid (∀W,Below V7.heap.size V7 W→(W.cell? ⟨w7.heap.size,0,J⟩=H (D sp.lo)∧W.cell? ⟨w7.heap.size,1,J⟩=H (D sp.hi)∧W.cell? ⟨g9,0,J⟩=H (D ab.lo)∧W.cell? ⟨g9,1,J⟩=H (D ab.hi))):=fun W hW=>by
      have A:=(hW.block _ (Y ba)).trans ba;have B:=(hW.block _ (Y Q9)).trans Q9;exact⟨Aa A (j:=0) rfl,Aa A (j:=1) rfl,Aa B (j:=0) rfl,Aa B (j:=1) rfl⟩
     have s0:=cl.out _ (aC _ V7).drew
     go_region_held3(fun W=>(W.cell? ⟨w7.heap.size,0,J⟩=H (D sp.lo)∧W.cell? ⟨w7.heap.size,1,J⟩=H (D sp.hi)∧W.cell? ⟨g9,0,J⟩=H (D ab.lo)∧W.cell? ⟨g9,1,J⟩=H (D ab.hi)))
      (with_reducible first|exact s0|exact s8|exact s9)
      (first
       |(go_at_call_of 197 (Value.agg #[D sp.lo,D sp.hi]);refine(cg _).mono ?_;rintro e w8 ⟨rfl,fc⟩;have z8:Below V7.heap.size V7 w8:=Ac (by with_reducible first|exact(aC _ V7).drew|exact z9) fc;have s8:=cl.out _ z8)
       |(go_at_call_of 197 (Value.agg #[D ab.lo,D ab.hi]);refine(ch _).mono ?_;rintro e w9 ⟨rfl,fd⟩;have z9:Below V7.heap.size V7 w9:=Ac (by with_reducible first|exact z8|exact(aC _ V7).drew) fd;have s9:=cl.out _ z9))
     have ar:Below wr.heap.size wr w9:=az.trans (z9.mono az.size);have cm:=(z9.block _ (Y ba)).trans ba;have cn:=(z9.block _ (Y ck)).trans ck;have A9:=(z9.block _ (Y Q9)).trans Q9;have cp:=(z9.block _ (Y dy)).trans dy
     by_cases dz:r1<r2
     ·have cq:Hid (Du aa e0 t (ab,ac) x=(sp,⟨x.name,ib++sp.lo,ib++sp.hi⟩)):=by show _=_;rw[E2.out,if_pos dz]
      go_upto_region 12 with fail;have au:Hid (∀W:cA,W.heap[w7.heap.size]?=H (Z #[D sp.lo,D sp.hi] 230)→W.heap[wr.heap.size]?=H (Z #[D x.name,D x.table,D x.col] 78)→(W.cell? ⟨w7.heap.size,0,J⟩=H (D sp.lo)∧W.cell? ⟨w7.heap.size,1,J⟩=H (D sp.hi)∧W.cell? ⟨wr.heap.size,0,J⟩=H (D x.name))):=fun W h1 h2=>
       ⟨Aa h1 (j:=0) rfl,Aa h1 (j:=1) rfl,Aa h2 (j:=0) rfl⟩
      have s1:=au.out w9.drew cm cn;have cr:w7.heap.size≠g9:=by omega
      have cu:wr.heap.size≠g9:=by omega
      have cv:w7.heap.size≠ad:=by omega
      have cx:wr.heap.size≠ad:=by omega
      go_region_held3(fun W=>(W.cell? ⟨w7.heap.size,0,J⟩=H (D sp.lo)∧W.cell? ⟨w7.heap.size,1,J⟩=H (D sp.hi)∧W.cell? ⟨wr.heap.size,0,J⟩=H (D x.name)))
       (with_reducible first|exact s1|exact s2|exact au.out _ (Ez bb cr) (Ez bc cu)|exact au.out _ (Gw (Ez bb cr) cv) (Gw (Ez bc cu) cx)|exact au.out _ (Gw bb cv) (Gw bc cx)|exact au.out _ (Ez (Gw bb cv) cr) (Ez (Gw bc cx) cu))
       (first
        |(go_at_call 198;refine(du _).mono ?_;rintro e fr ⟨rfl,rfl⟩)
        |(go_at_call 180;refine(cj _).mono ?_;rintro e aj ⟨rfl,fe⟩;have bd:Below w9.heap.size w9 aj:=Ac (aC _ w9).drew fe;have bb:=(bd.block _ (Y cm)).trans cm;have bc:=(bd.block _ (Y cn)).trans cn;have G9:=(bd.block _ (Y A9)).trans A9;have an:=(bd.block _ (Y cp)).trans cp;have s2:=au.out aj bb bc;have u0:=Aa G9 (j:=0) (u:=D ab.lo) rfl;have u1:=Aa G9 (j:=1) (u:=D ab.hi) rfl;have v0:=Aa an (j:=0) (u:=D ac.x) rfl;have v1:=Aa an (j:=1) (u:=D ac.lo) rfl;have v2:=Aa an (j:=2) (u:=D ac.hi) rfl;have ft:aj.frozen? ⟨g9,0,J⟩=bC:=(by simp[aD,G9]);have fu:aj.frozen? ⟨g9,1,J⟩=bC:=(by simp[aD,G9]);have fw:aj.frozen? ⟨ad,0,J⟩=bC:=(by simp[aD,an]);have fx:aj.frozen? ⟨ad,1,J⟩=bC:=(by simp[aD,an]);have fy:aj.frozen? ⟨ad,2,J⟩=bC:=(by simp[aD,an])))
      go_wp2;have bp:Below wr.heap.size wr aj:=ar.trans (bd.mono ar.size);have cy:w.heap.size≤ad:=by omega
      have eb:w.heap.size≤g9:=by omega
      have m1:w.heap.size+1≠g9:=by omega
      have m2:w.heap.size+2≠g9:=by omega
      have m3:w.heap.size+3≠g9:=by omega
      have m4:w.heap.size+1≠ad:=by have:=ap.size;omega
      have m5:w.heap.size+2≠ad:=by have:=ap.size;omega
      have m6:w.heap.size+3≠ad:=by have:=ap.size;omega
      go_roundw
      case rel=>
       refine⟨k+1,sp,⟨x.name,ib++sp.lo,ib++sp.hi⟩,by omega,by go_num,by show _=_;rw[cf.out,cq.out],?_,?_,?_,?_,?_,?_,fa.out⟩
       ·exact Gw (Lr G9) dt
       ·exact Asa (Ez an (Ne.symm dt))
       ·exact Gw (Ez ((bp.block _ (Y R1)).trans R1) m1) m4
       ·exact Gw (Ez ((bp.block _ (Y R2)).trans R2) m2) m5
       ·exact Gw (Ez ((bp.block _ (Y R3)).trans R3) m3) m6
       ·exact(((((ae.trans (bp.mono ae.size)).setCell eb _).setCell eb _).setCell cy _).setCell cy _).setCell cy _
      case measure=>simp[bL];omega
     ·have cq:Hid (Du aa e0 t (ab,ac) x=(ab,ac)):=by show _=_;rw[E2.out,if_neg dz]
      go_wp2;go_roundw
      case rel=>exact⟨k+1,ab,ac,by omega,by go_num,by show _=_;rw[cf.out,cq.out],A9,cp,(ar.block _ (Y R1)).trans R1,(ar.block _ (Y R2)).trans R2,(ar.block _ (Y R3)).trans R3,ae.trans (ar.mono ae.size),fb.out⟩
      case measure=>simp[bL];omega
   ·have ff:k=I.length:=by omega
    subst ff;rw[bZ]at HF;have ed:=di.out;rw[HF.out]at ed;subst ed;clear di HF;have v1:¬((I.length:Int)<(I.length:Int)):=by omega
    have y0:=Aa ai (j:=0) (u:=D ac.x) rfl;have y1:=Aa ai (j:=1) (u:=D ac.lo) rfl;have y2:=Aa ai (j:=2) (u:=D ac.hi) rfl;have r0:=Aa R3 (j:=0) (u:=D noW) rfl;have r1:=Aa R3 (j:=1) (u:=D noW) rfl;have r2:=Aa R3 (j:=2) (u:=D noW) rfl;have f0:wr.frozen? ⟨w.heap.size+3,0,J⟩=bC:=by simp[aD,R3]
    have f1:wr.frozen? ⟨w.heap.size+3,1,J⟩=bC:=by simp[aD,R3]
    have f2:wr.frozen? ⟨w.heap.size+3,2,J⟩=bC:=by simp[aD,R3]
    go_wp2;exact Xz _ _ _ Tryz.results116 rfl rfl R3 ae (by omega) Tryz.underlying159 (by kernel_rfl)
end
section
def Pe (ty:Int)(v:V):Prop:=(v.k=0∨v.k=ty)∧(v.k≠3→good v=aR)
def Ajq (cs:List ColD)(row:List V):Prop:=row.length=cs.length∧∀(i:Nat) (c:ColD) (v:V),cs[i]?=H c→row[i]?=H v→good v=aR∧(v.k=0∨v.k=c.ty)
def F7 (S:List TabD):List ColD:=S.flatMap TabD.cols
theorem Avs:good zero=aR:=rfl
theorem Jv (ty):Pe ty zero:=⟨.inl rfl,fun _=>Avs⟩
theorem Wb (n):Pe 3 (Fs n):=by
 unfold Fs;split
 ·exact⟨.inr rfl,fun h=>absurd rfl h⟩
 ·exact Jv 3
theorem Aga (b):Pe 3 (whV b):=⟨.inr rfl,fun h=>absurd rfl h⟩
theorem Amc (n):Pe 1 (Qd n):=by
 unfold Qd;split
 ·rename_i h;exact⟨.inr rfl,fun _=>h⟩
 ·exact Jv 1
theorem Ay8 {op}(h:op=9∨op=10)(a):Pe (Pr op) (Mr op a):=by
 rcases h with rfl|rfl
 ·exact Wb _
 ·exact Aga _
theorem Ay9 {op}(h:3≤op∧op≤8)(a b):Pe (Pr op) (Hr op a b):=by
 rcases(show op=3∨op=4∨op=5∨op=6∨op=7∨op=8 by omega)with rfl|rfl|rfl|rfl|rfl|rfl
 ·show Pe 1 (if _ then(if a.k=1 then Qd _ else zero)else zero);split
  ·split
   ·exact Amc _
   ·exact Jv _
  ·exact Jv _
 ·show Pe 1 (if _ then(if a.k=1 then Qd _ else zero)else zero);split
  ·split
   ·exact Amc _
   ·exact Jv _
  ·exact Jv _
 ·show Pe 3 (if _ then whV _ else zero);split
  ·exact Aga _
  ·exact Jv _
 ·show Pe 3 (if _ then whV _ else zero);split
  ·exact Aga _
  ·exact Jv _
 ·exact Wb _
 ·exact Wb _
theorem Avt (s name)(n:Int):∀(S P:List TabD) (r:RefS),r.ahead=(F7 P).length→(r.found≠0→∃(i:Nat) (c:ColD),r.n=(i:Int)∧(F7 P)[i]?=H c∧r.kind=c.ty)→
  (S.foldl (Fq s name) r).found≠0→∃(i:Nat) (c:ColD),(S.foldl (Fq s name) r).n=(i:Int)∧(F7 (P++S))[i]?=H c∧(S.foldl (Fq s name) r).kind=c.ty
 |[],P,r,_,h2,h3=>by grind
 |t::S,P,r,h1,h2,h3=>by
  have e1:F7 (P++[t])=F7 P++t.cols:=by simp[F7]
  have hc:P++t::S=(P++[t])++S:=by simp
  rw[hc];refine Avt s name n S _ _ ?_ ?_ h3
  ·rw[e1,aP,Fq,h1]
  ·intro hf;rw[e1]
   by_cases hh:Qc t s name=aR
   ·have aa:=hh;simp only[Qc,bB,decide_eq_true_eq]at aa;rcases Kj t.cols name with hm|⟨k,x,hk1,hk2,_⟩
    ·omega
    ·refine⟨(F7 P).length+k,x,?_,?_,?_⟩
     ·simp only[Fq,hh,if_true,hk1,h1];omega
     ·grind
     ·simp[Fq,hh,hk1,hk2]
   ·simp only[Fq,hh]at hf⊢;grind
theorem Yz {S}{s name}{n}(h:(Er S s name n).found=1):∃(i:Nat) (c:ColD),(Er S s name n).n=(i:Int)∧(F7 S)[i]?=H c∧(Er S s name n).kind=c.ty:=by
 have:=Avt s name n S [] ⟨0,0,n,0⟩ rfl (fun h=>absurd rfl h) (by unfold Er at h;omega);assumption
theorem Aem {S}{row}(hr:Ajq (F7 S) row){d}{e}{r}(hb:Cu S e=.ok r)(hg:geB d e=aR):Pe r.2 (ev row r.1):=by
 obtain⟨op,x,s,name,n,l⟩:=e;cases d with
 |zero=>simp[geB]at hg
 |succ d=>
  simp only[geB,bB,decide_eq_true_eq]at hg;obtain⟨⟨aa,af⟩,_⟩:=hg
  by_cases h1:op=1
  ·subst h1;rw[Aha]at hb;obtain rfl:=aJ hb;have hl:l=[]:=aO (by simp[Gi]at aa;grind);subst hl;have hx:=by simpa[Qx]using af
   exact⟨.inr rfl,fun _=>hx⟩
  ·by_cases h2:op=2
   ·subst h2;rw[Ahb]at hb;have hl:l=[]:=aO (by simp[Gi]at aa;grind);subst hl
    by_cases hf:(Er S s name n).found=1
    ·rw[if_pos hf]at hb;obtain rfl:=aJ hb;obtain⟨i,c,q1,q2,q3⟩:=Yz hf;have hi:i<row.length:=by rw[hr.1];exact(aE.1 q2).1
     have hv:=hr.2 i c _ q2 (aA hi);have he:ev row (.mk 2 x s name (Er S s name n).n [])=row[i]:=by
      rw[ev,q1,if_pos (by rfl),evs];simp[Ab2,Je,Mq,hi]
     simp only[he];exact⟨by omega,fun _=>hv.1⟩
    grind
   ·rw[Ak9 S h1 h2]at hb;cases ad:Bd S l with
    |error m=>grind
    |ok rs=>
     rw[ad]at hb;simp only at hb;have ac:=Adz S l rs ad;split at hb
     ·obtain rfl:=aJ hb;simp only;rw[Pa];have ha:(op=9∨op=10)∨(3≤op∧op≤8):=by
       simp only[Gi,h1,h2]at aa
       by_cases q:op=9∨op=10
       ·omega
       ·grind
      rcases ha with ha|ha
      ·have ab:l.length=1:=by simp[Gi,h1,h2,ha]at aa;omega
       have hk:(D4 op (rs.map bV))=rs.map bV:=by
        unfold D4;rw[if_pos];rw[aI,ac,ab,L0,if_pos ha]
       rw[hk];obtain⟨a,rfl⟩:=List.length_eq_one_iff.1 (ac.trans ab);exact Ay8 ha _
      ·have ae:¬(op=9∨op=10):=by omega
       have ab:l.length=2:=by simp[Gi,h1,h2,ae,ha]at aa;omega
       have hk:(D4 op (rs.map bV))=rs.map bV:=by
        unfold D4;rw[if_pos];rw[aI,ac,ab,L0,if_neg ae,if_pos ha]
       rw[hk];obtain⟨a,b,rfl⟩:∃a b,rs=[a,b]:=by
        match rs,(ac.trans ab)with
        |[a,b],_=>simp
       exact Ay9 ha _ _
     grind
end
section
open Go.RowKit Go.Maps
def Aza (R:Except Int Stm)(F:Nat→Prop)(w':cA)(v:aZ):Prop:=
 match R with
 |.error m=>v=.tuple #[bD Bq,N U m]
 |.ok st=>∃arr:Array aZ,v=.tuple #[bD arr,N U 0]∧arr.size=20∧arr.all (·.oneCell')=aR∧I6.R F w' st arr.toList
theorem SeSt.row {w W}{arr}(h:SeSt w W arr){b}(hb:w.heap.size+3≤b)(cells):SeSt w (W.setRow b cells) arr:=
 ⟨By h.stm (by omega) _,By h.room (by omega) _,Below.row h.bel (by omega) _,aB h.big (by simp)⟩
theorem C8 {P}{ops}{rest}{o}{a}{w}{Q}(hw:Region.wanted o (yielded ops a.tmps)=aR)(ty)(x)(ho:o.op=.load ty x)
  (g) (hx:a.eval x=bA (H ⟨g,0,J⟩)) (t) (cs) (fr) (d) (hg:w.heap[g]?=H (Z cs t fr))
  (hu:P.underlying ty=H d) (hd:(match d with|.struct _|.array _ _=>aR|_=>bC)=aR) (hi:(P.info? ty).map (·.size)=H cs.size)
  (h:wpList P ops Q rest (a.put o.dst (bD cs)) w):wpList P ops Q (o::rest) a w:=
 wpList_step fun K hK=>by rw[if_pos hw];exact wp_load_row ty x ho g hx t cs fr d hg hu hd hi (hK _ _ h)
theorem Avu (ct)(v)(st)(cs)(C)(w)(hc:Hp (fun k=>k<C) w ct v)(hR:I6.R (fun k=>k<C) w st cs)(hC:C≤w.heap.size)(an:K7 ct)(hf:FitB st):
  bU aG 28 #[v,bD cs.toArray] w fun r w'=>(∃u,r=aM u∧Aza (Cn ct st) (Fx C w.heap.size) w' u)∧Below w.heap.size w w':=by
 obtain⟨cv,ak,rfl,rfl,B0⟩:=Vv hc hR hC;have HG:=fun W (h:BkSt ct st C w W cv ak)=>Ak4 ct _ C W h.ic h.leW an
 have HX:=fun W (h:BkSt ct st C w W cv ak)=>Ai3 st _ C W h.is h.leW hf.fs
 have HK:=fun W (h:BkSt ct st C w W cv ak) hx ab=>Alm ct _ st _ C W h.ic h.is h.leW hf hx ab
 rw[cC]at HX HK⊢;have hz:=A3w;go_enter Tryz.func28,Tryz.ntmps28;cases ab:Ds ct
 ·rw[ab]at HG;have HE:Hid (Cn ct st=.error 1):=if_pos (.inl ab);go_wp2_with(first|(refine wpList_load_row rfl 41 _ rfl _ ?_ 41 _ _ _ B0.cat aT ?_ ?_ ?_;exact rfl;exact rfl;exact B0.ci)|(go_fit(HG _ B0);rintro e w1 ⟨rfl,aa⟩;have B1:=B0.below aa)|(refine aV rfl 71 _ _ rfl (w.heap.size+1+1) Bq ?_ ?_ 71 Bq ?_ ?_ ?_ ?_ ?_;exact rfl;exact rfl;exact B1.se.room;exact D5;exact rfl;exact hz));refine cF (Dn cD _ _ _ 71 Bq _ _ _ rfl rfl (Ao B1.se.room) aF rfl D5) rfl ⟨⟨_,rfl,?_⟩,Below.row B1.se.bel (by omega) _⟩;rw[HE.out];rfl
 ·rw[ab]at HG;cases ai:Kb st
  ·rw[ai]at HX;have HE:Hid (Cn ct st=.error 1):=if_pos (.inr ai);go_wp2_with(first|(refine C8 ?_ 41 _ rfl _ ?_ 41 _ _ _ B0.cat aT ?_ ?_ ?_;exact rfl;exact rfl;exact rfl;exact B0.ci)|(go_fit(HG _ B0);rintro e w1 ⟨rfl,aa⟩;have B1:=B0.below aa)|(refine C8 ?_ 71 _ rfl _ ?_ 71 _ _ _ B1.se.stm aF ?_ ?_ ?_;exact rfl;exact rfl;exact rfl;exact B1.si)|(go_fit(HX _ B1);rintro e w2 ⟨rfl,ae⟩;have B2:=B1.below ae)|(refine aV rfl 71 _ _ rfl (w.heap.size+1+1) Bq ?_ ?_ 71 Bq ?_ ?_ ?_ ?_ ?_;exact rfl;exact rfl;exact B2.se.room;exact D5;exact rfl;exact hz));refine cF (Dn cD _ _ _ 71 Bq _ _ _ rfl rfl (Ao B2.se.room) aF rfl D5) rfl ⟨⟨_,rfl,?_⟩,Below.row B2.se.bel (by omega) _⟩;rw[HE.out];rfl
  ·rw[ai]at HX;have HE:Hid (Cn ct st=Ep ct st):=if_neg (by grind);have am:=fun W h=>(HK W h ai (Ayk ab))
   cases af:Ep ct st with
   |error m=>
    have m1:(m !=0)=aR:=by rcases Ahf af with rfl|rfl|rfl|rfl|rfl<;>rfl
    go_wp2_with(first|(refine C8 ?_ 41 _ rfl _ ?_ 41 _ _ _ B0.cat aT ?_ ?_ ?_;exact rfl;exact rfl;exact rfl;exact B0.ci)|(go_fit(HG _ B0);rintro e w1 ⟨rfl,aa⟩;have B1:=B0.below aa)|(refine C8 ?_ 71 _ rfl _ ?_ 71 _ _ _ B1.se.stm aF ?_ ?_ ?_;exact rfl;exact rfl;exact rfl;exact B1.si)|(go_fit(HX _ B1);rintro e w2 ⟨rfl,ae⟩;have B2:=B1.below ae)|(refine C8 ?_ 41 _ rfl _ ?_ 41 _ _ _ B2.cat aT ?_ ?_ ?_;exact rfl;exact rfl;exact rfl;exact B2.ci)|(refine C8 ?_ 71 _ rfl _ ?_ 71 _ _ _ B2.se.stm aF ?_ ?_ ?_;exact rfl;exact rfl;exact rfl;exact B2.si)|(go_fit(am _ B2);rintro e w3 ⟨⟨u,rfl,a3,ac,ag,ah⟩,al⟩;rw[af]at ah;subst ah;have ad:=Nm ac;have aj:Hid _:=ac.symm;have B4:=(B2.below al).below (Below.row (Aq w3 (.cells Bq 71)) (aH _) a3))|(refine aV rfl 71 _ _ rfl w3.heap.size a3 ?_ ?_ 71 Bq ?_ ?_ ?_ ?_ ?_;exact rfl;exact rfl;exact Ab w3 (.cells Bq 71);exact ad;exact aj.out;exact ag)|(refine aV rfl 71 _ _ rfl (w.heap.size+1+1) Bq ?_ ?_ 71 Bq ?_ ?_ ?_ ?_ ?_;exact rfl;exact rfl;exact B4.se.room;exact D5;exact rfl;exact hz));refine cF (Dn cD _ _ _ 71 Bq _ _ _ rfl rfl (Ao B4.se.room) aF rfl D5) rfl ⟨⟨_,rfl,?_⟩,Below.row B4.se.bel (by omega) _⟩;rw[HE.out,af];rfl
   |ok st2=>
    go_wp2_with(first|(refine C8 ?_ 41 _ rfl _ ?_ 41 _ _ _ B0.cat aT ?_ ?_ ?_;exact rfl;exact rfl;exact rfl;exact B0.ci)|(go_fit(HG _ B0);rintro e w1 ⟨rfl,aa⟩;have B1:=B0.below aa)|(refine C8 ?_ 71 _ rfl _ ?_ 71 _ _ _ B1.se.stm aF ?_ ?_ ?_;exact rfl;exact rfl;exact rfl;exact B1.si)|(go_fit(HX _ B1);rintro e w2 ⟨rfl,ae⟩;have B2:=B1.below ae)|(refine C8 ?_ 41 _ rfl _ ?_ 41 _ _ _ B2.cat aT ?_ ?_ ?_;exact rfl;exact rfl;exact rfl;exact B2.ci)|(refine C8 ?_ 71 _ rfl _ ?_ 71 _ _ _ B2.se.stm aF ?_ ?_ ?_;exact rfl;exact rfl;exact rfl;exact B2.si)|(go_fit(am _ B2);rintro e w3 ⟨⟨u,rfl,a3,ac,ag,ah⟩,al⟩;rw[af]at ah;obtain⟨rfl,ap⟩:=ah;have ad:=Nm ac;have aj:Hid _:=ac.symm;have B4:=(B2.below al).below (Below.row (Aq w3 (.cells Bq 71)) (aH _) a3))|(refine aV rfl 71 _ _ rfl w3.heap.size a3 ?_ ?_ 71 Bq ?_ ?_ ?_ ?_ ?_;exact rfl;exact rfl;exact Ab w3 (.cells Bq 71);exact ad;exact aj.out;exact ag)|(refine wpList_load_row rfl 71 _ rfl _ ?_ 71 _ _ _ (Ao (cells:=a3) (Ab w3 (.cells Bq 71))) aF ?_ ?_ ?_;exact rfl;exact rfl;exact ad)|(refine aV rfl 71 _ _ rfl (w.heap.size+1+1) a3 ?_ ?_ 71 Bq ?_ ?_ ?_ ?_ ?_;exact rfl;exact rfl;exact B4.se.room;exact ad;exact aj.out;exact ag));refine cF (Dn cD _ _ _ 71 a3 _ _ _ rfl rfl (Ao B4.se.room) aF rfl ad) rfl ⟨⟨_,rfl,?_⟩,Below.row B4.se.bel (by omega) _⟩;rw[HE.out,af];have hb:=B2.se.big;exact⟨a3,rfl,ac,ag,I6.mono (fun k _ h=>h.1.imp id (fun h=>aB (by omega) h)) (I6.keep (((Ak (Aq w3 _)).row (fun h=>h.2 rfl) _).row (fun h=>by have:=B0.le;rcases h.1 with h|h<;>omega) _) (I6.mono (F':=fun k=>Fx C _ k∧k≠w3.heap.size) (fun k hk h=>⟨h,Nat.ne_of_lt hk⟩) ap))⟩
end
section
mutual
theorem Mb (S:List TabD):∀(e:E) (r:E×Int),Cu S e=.ok r→r.1.nodes=e.nodes∧(Ef e→Ef r.1)
 |.mk op x s name n l,r,h=>by
  rw[Cu]at h;split at h
  ·grind
  ·split at h
   ·split at h
    ·obtain rfl:=aJ h;exact⟨rfl,fun hf=>by assumption⟩
    grind
   ·cases hl:Bd S l with
    |error j=>grind
    |ok rs=>
     rw[hl]at h;simp only at h;obtain⟨h1,h2⟩:=Y0 S l rs hl;split at h
     ·obtain rfl:=aJ h;exact⟨by simp only[E.nodes,h1],fun hf=>by rw[Ef]at hf⊢;grind⟩
     grind
theorem Y0 (S:List TabD):∀(l:List E) (rs:List (E×Int)),Bd S l=.ok rs→Es (rs.map bV)=Es l∧(Qe l→Qe (rs.map bV))
 |[],rs,h=>by
  rw[Bd]at h;grind
 |e::l,rs,h=>by
  rw[Bd]at h;cases he:Cu S e with
  |error j=>grind
  |ok r=>
   rw[he]at h;simp only at h;cases hl:Bd S l with
   |error j=>grind
   |ok rs'=>
    rw[hl]at h;obtain rfl:=aJ h;obtain⟨h1,h2⟩:=Mb S e r he;obtain⟨h3,h4⟩:=Y0 S l rs' hl;exact⟨by simp only[bR,Es,h1,h3],fun hf=>by rw[Qe]at hf;rw[bR,Qe];grind⟩
end
theorem Asc {t}{row}(h:F9 t row=aR):Ajq t.cols row:=by
 simp only[F9,bB,decide_eq_true_eq,bQ]at h;refine⟨h.1,fun i c v hc hv=>?_⟩;have hi:=(aE.1 hc).1;have:=Jz h.2 i (aL _) (by omega);unfold Ajk at this;rw[hc,hv]at this;simp only[dA,Aq8,bB,bH,decide_eq_true_eq,bQ]at this;grind
theorem Avv {t}{row}(hr:Ajq t.cols row){ty}{d}{e e'}(h:asR [t] ty e=.ok e')(hg:geB d e=aR):Pe ty (ev row e')∧e'.nodes=e.nodes∧(Ef e→Ef e'):=by
 unfold asR at h;cases hb:Cu [t] e with
 |error m=>grind
 |ok r=>
  rw[hb]at h;simp only at h;split at h
  ·rename_i aa;obtain rfl:=aJ h;have h1:=Aem (by simpa[F7]using hr) hb hg;obtain⟨h2,h3⟩:=Mb [t] e r hb;refine⟨⟨?_,h1.2⟩,h2,h3⟩;simp only[Jo,bH,decide_eq_true_eq]at aa;rcases h1.1 with h|h
   ·omega
   omega
  grind
theorem Y1 {t}:∀{seen:List Wd}{l rs:List (Wd×E)},Cr t seen l=.ok rs→∀q∈rs,∃p∈l,q.1=p.1∧0≤Dy t.cols q.1∧asR [t] (Abz t.cols q.1) p.2=.ok q.2
 |seen,[],rs,h,q,hq=>by
  simp only[Cr,cU]at h;grind
 |seen,x::l,rs,h,q,hq=>by
  simp only[Cr]at h;cases hx:Sd t seen x with
  |error j=>grind
  |ok r=>
   rw[hx]at h;simp only at h;cases hl:Cr t (seen++[x.1]) l with
   |error j=>grind
   |ok rs'=>
    rw[hl]at h;simp only[cU]at h;subst h;rcases List.mem_cons.1 hq with rfl|hq
    ·refine⟨x,bK,?_⟩;unfold Sd at hx;grind
    ·obtain⟨p,hp,h1⟩:=Y1 hl q hq;grind
end
section
open Go.RowKit
mutual
theorem Aa2 (S:List TabD)(hS:(F7 S).length≤1000):∀(e:E) (r:E×Int),Cu S e=.ok r→(Dd e→Dd r.1)∧∀d,geB d e=aR→Mt d r.1
 |.mk op x s name n l,r,h=>by
  rw[Cu]at h;have aa:∀d,geB (d+1) (.mk op x s name n l)=aR→Gi op=0→l=[]:=fun d hg h0=>by
   have:=(Rp hg).1;simp_all
  split at h
  ·rename_i h1;obtain rfl:=aJ h;refine⟨id,fun d hg=>?_⟩;cases d with
   |zero=>trivial
   |succ d=>
    have:=aa d hg (by rw[Gi,if_pos (.inl h1)]);subst this;exact⟨fun h2=>by omega,by simp⟩
  ·split at h
   ·rename_i h2;split at h
    ·rename_i ab;obtain rfl:=aJ h;refine⟨fun hf=>by assumption,fun d hg=>?_⟩;cases d with
     |zero=>trivial
     |succ d=>
      have:=aa d hg (by rw[Gi,if_pos (.inr h2)]);subst this;obtain⟨i,c,hi,hc,_⟩:=Yz ab;have:=(aE.1 hc).1;exact⟨fun _=>by omega,by simp⟩
    grind
   ·rename_i h1 h2;cases hl:Bd S l with
    |error j=>grind
    |ok rs=>
     rw[hl]at h;simp only at h;obtain⟨k1,k2⟩:=Y2 S hS l rs hl;split at h
     ·obtain rfl:=aJ h;refine⟨fun hf=>by rw[Dd]at hf⊢;grind,fun d hg=>?_⟩;cases d with
      |zero=>trivial
      |succ d=>exact⟨fun h=>absurd h h2,k2 d (Rp hg).2.2⟩
     grind
theorem Y2 (S:List TabD)(hS:(F7 S).length≤1000):∀(l:List E) (rs:List (E×Int)),Bd S l=.ok rs→(D7 l→D7 (rs.map bV))∧∀d,(∀a∈l,geB d a=aR)→∀a∈rs.map bV,Mt d a
 |[],rs,h=>by
  rw[Bd]at h;grind
 |e::l,rs,h=>by
  rw[Bd]at h;cases he:Cu S e with
  |error j=>grind
  |ok r=>
   rw[he]at h;simp only at h;cases hl:Bd S l with
   |error j=>grind
   |ok rs'=>
    rw[hl]at h;obtain rfl:=aJ h;obtain⟨h1,h2⟩:=Aa2 S hS e r he;obtain⟨h3,h4⟩:=Y2 S hS l rs' hl;refine⟨fun hf=>by rw[D7]at hf;rw[bR,D7];grind,fun d hd a ha=>?_⟩;grind
end
theorem Aca {d}{e}(h:e.opn=0):geB d e=bC:=by
 obtain⟨op,x,s,name,n,l⟩:=e;simp only[E.opn]at h;subst h;cases d with
 |zero=>rfl
 |succ d=>
  rfl
theorem Aen (ct)(t)(at')(eop ek en)(ex es em:Wd)(ei)(ea)(el ec)(e0)(to1)(tl1 tc1)(io)(il ic)(co)(cc)(C)(w)(he:IsE (fun k=>k<C) w e0 (bD #[N U eop,N U ek,N U en,D ex,D es,D em,N U ei,G ea el ec]))(hC:C≤w.heap.size)(hx:Dd e0)(aa:geB 40 e0=aR→Mt 40 e0)(ht:t.name.size≤100000)
  (ab:Hp (fun k=>k<C) w ct (bD #[G to1 tl1 tc1,G io il ic])) (ac:K7 ct) (ad:IsL Cp (fun k=>k<C) w (G co t.cols.length cc) t.cols) (ae:∀x∈ct.indexes,x.name.size≤1000):
  bU aG 116 #[bD #[G to1 tl1 tc1,G io il ic],bD #[D t.name,G co t.cols.length cc],N U at',bD #[N U eop,N U ek,N U en,D ex,D es,D em,N U ei,G ea el ec]] w fun e w'=>e=aM (J0 (Dp ct t at' e0).x (Dp ct t at' e0).lo (Dp ct t at' e0).hi)∧Below w.heap.size w w':=by
 cases hg:geB 40 e0 with
 |true=>exact Asb ct t at' eop ek en ex es em ei ea el ec e0 to1 tl1 tc1 io il ic co cc C w he hC hx (aa hg) hg ht ab ac ad ae
 |false=>
  have:Dp ct t at' e0=⟨noW,Hl t.name,Hm t.name⟩:=by rw[Dp,hg];rfl
  rw[this];exact Ava t at' eop ek en ex es em ei ea el ec e0 to1 tl1 tc1 io il ic co cc C w he hC hx hg ht
theorem Amd (t:TabD)(W)(T)(pv)(so)(sc)(w)(hp:Bi w pv T)(hg:As T)(hT:T.length≤100000)(aa:W.x.size≤1000000)(ab:t.name.size≤1000000)(hx:∀x∈flat T,x.1.size≤1000000∧x.2.size≤1000000):
  bU aG 106 #[pv,bD #[D t.name,G so t.cols.length sc],J0 W.x W.lo W.hi] w fun e w'=>Nd w w' e (Hb t.cols.length T t.name W):=by
 unfold Hb
 by_cases h0:W.x=noW
 ·rw[if_pos h0,h0];exact Aaj _ T pv so _ sc _ _ w hp hg hT fun x hh=>(hx x (Af2 hh)).2
 ·rw[if_neg h0];exact Aol _ W.x T pv so _ sc _ _ w hp hg hT h0 aa ab hx
theorem No {E}{n}{c}{T}{a}{to' io po}{tc ic pc}{w}(he:EngC E w n c T a (G to' c.tables.length tc) (G io c.indexes.length ic) (G po T.length pc)){s}{t}(ht:Bu c.tables s=H t):
  bU aG 51 #[bA (H ⟨n,0,J⟩),D s] w fun e w'=>∃ao cc,e=aM (bD #[D t.name,G ao t.cols.length cc])∧IsL Cp (fun k=>k<w.heap.size) w' (G ao t.cols.length cc) t.cols∧Below w.heap.size w w':=by
 obtain⟨aa,hR,-⟩:=al1 w (Z #[D noW,G J 0 0] 74);have HF:=Hv ht _ (G io c.indexes.length ic) (B7 _ _ _) _ _ ((he.tabs.mono fun k hk _=>hk).keep (Ae aa)) aa.size;have bE:=(aa.block _ he.lt).trans he.blk;have c0:=Aa bE (j:=0) rfl;have c1:=Aa bE (j:=1) rfl;generalize hW:w.alloc _=W1 at aa hR HF bE c0 c1;have HW:Hid _:=hW;clear hW;go_enter Tryz.func51,Tryz.ntmps51;go_upto_region 1 with fail;rw[HW.out];go_wp2_with(go_fit HF;rintro e w2 ⟨ao,nt,cc,rfl,ad,ac⟩;obtain⟨ae,_⟩:=Ew ad;subst ae;have ab:=Ad ((ac.block _ (Y hR)).trans hR) (Z #[D t.name,G ao t.cols.length cc] 74);have r0:=Aa ab (j:=0) rfl;have r1:=Aa ab (j:=1) rfl;have z0:(w2.alloc (Z #[D t.name,G ao t.cols.length cc] 74)).frozen? ⟨w.heap.size,0,J⟩=bC:=(by simp only[aD,ab];rfl);have z1:(w2.alloc (Z #[D t.name,G ao t.cols.length cc] 74)).frozen? ⟨w.heap.size,1,J⟩=bC:=(by simp only[aD,ab];rfl));have af:Below _ w (w2.alloc (Z #[D t.name,G ao t.cols.length cc] 74)):=Ac (aa.trans (ac.mono aa.size)) (Aq _ _);refine cF (results_cell_row Tryz.results51 _ _ _ 74 _ _ _ rfl (Lr ab) Tryz.underlying74 rfl (by rfl)) rfl ⟨ao,cc,rfl,?_,(af.setCell (aH _) _).setCell (aH _) _⟩;exact ad.keep ((Ae ((((Aq w2 _).mono (aB aa.size ac.size)).setCell (aH _) _).setCell (aH _) _)))
theorem Ty {E}{n}{c}{T}{a}{tv iv}{po}{pc}{w}(he:EngC E w n c T a tv iv (G po T.length pc))(t:TabD)(so)(sc)(hT:T.length≤100000)(ad:t.name.size≤1000)(hx:∀x∈flat T,x.1.size≤1000000∧x.2.size≤1000000):
  bU aG 52 #[bA (H ⟨n,0,J⟩),bD #[D t.name,G so t.cols.length sc]] w fun e w'=>Afn w w' e (F3 t.cols.length (rng T (Hl t.name) (Hm t.name))):=by
 obtain⟨aa,hR,-⟩:=al1 w (Z #[D t.name,G so t.cols.length sc] 74);have bE:=(aa.block _ he.lt).trans he.blk;have HA:=fun W=>Apq _ W (aB ad (by simp))
 have HR:=fun W h=>Anm t.name T _ so t.cols.length sc (Hl t.name) (Hm t.name) W ⟨_,rfl,he.pages.pages.below h⟩ he.good hT (fun x hh=>(hx x (Af2 hh)).2)
 generalize F3 _ _=A at HR;generalize hW:w.alloc _=W1 at aa hR bE;have HW:Hid _:=hW;have KS:Hid _:=fun W (h:Below _ W1 W)=>aK (show W.cell? _=H (G po _ pc)from Aa ((h.block _ (Y bE)).trans bE) (j:=2) rfl) (aK (show W.cell? _=H (D _)from Aa ((h.block _ (Y hR)).trans hR) (j:=0) rfl) (show W.cell? _=H (G so _ sc)from Aa ((h.block _ (Y hR)).trans hR) (j:=1) rfl))
 have s0:=KS.out _ (aC _ _).drew;generalize Hl _=lo at HA HR;generalize Hm _=hi at HA HR;unfold J0 at HA HR;clear hW;go_enter Tryz.func52,Tryz.ntmps52;go_upto_region 1 with fail;rw[HW.out]
 go_region_held3(fun W=>W.cell? ⟨n,2,J⟩=H (G po T.length pc)∧W.cell? ⟨w.heap.size,0,J⟩=H (D t.name)∧W.cell? ⟨w.heap.size,1,J⟩=H (G so t.cols.length sc)) (with_reducible omega)
  (first
   |(go_fit(HA _);rintro e w7 ⟨rfl,ae⟩;have ab:=Ac (aC _ _).drew ae;have s1:=KS.out w7 ab)
   |(go_fit(HR _ (Ac aa ab));rintro e w8 ⟨ah,rfl,af,ag⟩;have ac:=Ac ab ag;have s2:=KS.out w8 ac))
 go_wp2_with fail;go_ret;exact⟨_,rfl,af.mono (fun k _ hk=>aB (Ac aa ab).size hk),Ac aa ac⟩
theorem Aa3 {ct}{t}{at'}{e}(hx:∀x∈ct.indexes,x.name.size≤8):(Dp ct t at' e).x.size≤8:=by
 unfold Dp;split
 ·rcases Tt at' e t (if Ds ct=aR then ct.indexes else[]) (Iv at' e t)with hc|⟨x,hx',_,hc⟩
  ·rw[hc];exact aL _
  grind
 ·exact aL _
theorem Aqg {A O:List (List V)}(hn:A.Nodup)(hs:∀r∈A,r∈O):A.length≤O.length:=
 have:DecidableEq (List V):=fun _ _=>Classical.propDecidable _
 Xw hn hs
theorem Iw {v}(h:good v=aR):v.s.size≤bI:=by
 have h8:v.s.size≤8:=by
  unfold good at h;split at h
  ·grind
  ·grind
 exact aB h8 (by decide)
theorem Ame {a b}(h1:¬Bs a b<0)(h2:¬Bs b a<0):a=b:=by
 rw[Ui]at h1 h2;have hk:a.k=b.k:=by
  rcases dC a.k b.k with h|h|h
  ·omega
  ·omega
  ·omega
 have hn:a.n=b.n:=by
  rcases dC a.n b.n with h|h|h
  ·omega
  ·omega
  ·omega
 have hs:a.s=b.s:=by
  cases h:klt a.s b.s with
  |true=>grind
  |false=>
   rcases Jh h with e|e
   ·omega
   grind
 obtain⟨ak,an,sa⟩:=a;simp_all
theorem Aow {d}(ok:DbOk d){t}(ht:t∈d.c.tables){p}{A}(hn:A.Nodup)(hm:∀r,r∈A↔r∈d.R t.name∧p r=aR)(hs:A.Pairwise fun a b=>¬Bs (b.headD zero) (a.headD zero)<0):A=(d.R t.name).filter p:=by
 refine Yu (r:=fun a b=>Bs (a.headD zero) (b.headD zero)<0) (fun a b h1 h2=>Aak _ (Ac4 h1 h2)) ?_ ?_ fun x=>?_
 ·refine(hs.and hn).imp_of_mem fun{a b} ha hb h=>?_
  obtain⟨h1,h2⟩:=h;rcases Classical.em (Bs (a.headD zero) (b.headD zero)<0)with h|h
  ·omega
  ·have e:=Ame h h1;exact absurd (Yv ok ht ((hm a).1 ha).1 ((hm b).1 hb).1 (by rw[rk,rk,e])) h2
 ·have h1:=(ok.rise t ht).sublist (bJ (p:=p));refine h1.imp_of_mem fun{a b} ha hb h=>?_
  exact A0u (Ls ok ht (aW.1 ha).1) (Ls ok ht (aW.1 hb).1) h
 grind
theorem Asd {d}(ok:DbOk d){T}(hT:As T)(h:Has d (flat T)){t}(ht:t∈d.c.tables)(e){A}(hp:A.Perm ((Hb t.cols.length T t.name (Dp d.c t 0 e)).filter (At e)))(hs:A.Pairwise fun a b=>¬Bs (b.headD zero) (a.headD zero)<0):A=(d.R t.name).filter (At e):=by
 obtain⟨h1,h2,h3⟩:=Mv ok hT h ht 0 e;refine Aow ok ht (hp.symm.nodup (h1.sublist bJ)) (fun r=>?_) hs;rw[hp.mem_iff,aW];refine and_congr_left fun hh=>⟨h2 r,fun hr=>h3 r hr fun hg=>?_⟩
 have aa:e.opn≠0:=fun h0=>by rw[Aca h0]at hg;grind
 simp only[At,bH,decide_eq_true_eq,aa,false_or]at hh;refine⟨r,hh,fun k _=>?_⟩;rw[Mq,if_pos (by omega),Int.zero_add,cL];simp
theorem Ahv {F}{w}(q)(p):∀{A:List (List V)}{cs:List aZ}(i:Nat),All Ek F w A cs→(∀(j:Nat) (r:List V),A[j]?=H r→p (i+j)= !q r)→All Ek F w (A.filter q) (Bv p i (cs.map fun v=>[v])).flatten
 |[],cs,i,h,_=>by have:cs=[]:=h;subst this;rfl
 |r::A,cs,i,h,hp=>by
  obtain⟨c,rest,rfl,⟨sv,rfl,h1⟩,h2⟩:=h;have h0:=hp 0 r rfl;rw[aS]at h0;have ih:=Ahv q p (i+1) h2 fun j x hx=>by have:=hp (j+1) x (by grind);grind
  rw[List.singleton_append,bR,Bv];cases hq:q r with
  |true=>
   rw[hq]at h0;rw[h0,List.filter_cons_of_pos hq];exact⟨_,_,rfl,⟨sv,rfl,h1⟩,ih⟩
  |false=>
   grind
theorem Avw (cs:List aZ):(cs.map fun v=>[v]).flatten=cs:=by
 induction cs with
 |nil=>rfl
 |cons a l ih=>grind
theorem Acb (p):∀(cs:List aZ) (i:Nat),(Bv p i (cs.map fun v=>[v])).flatten.length=(Bv p i (cs.map fun v=>[v])).length
 |[],i=>rfl
 |c::cs,i=>by
  rw[bR,Bv];split
  ·exact Acb p cs _
  ·simp only[List.flatten_cons,aP,List.length_cons,List.length_nil,Acb p cs (i+1)];omega
theorem Ase (e0)(op xk xn)(xs s aa:Wd)(n8)(ao)(kk cc)(rv)(row)(C g)(w)(he:IsE (fun k=>k<C) w e0 (bD (Af op ⟨xk,xn,xs⟩ s aa n8 (G ao kk cc))))(hC:C≤w.heap.size)(hn:Fg e0)(hr:Cq w rv row)(ab:∀v∈row,v.s.size≤bI)(ac:row.length≤bI)(hg:w.heap[g]?=H (Z (Af op ⟨xk,xn,xs⟩ s aa n8 (G ao kk cc)) 69)):
  bU aG 118 #[rv,bA (H ⟨g,0,J⟩)] w fun e w'=>e=aM (.bool (!At e0 row))∧Below w.heap.size w w':=by
 have HH:=Ahs e0 op xk xn xs s aa n8 ao kk cc rv row C w he hC hn hr ab ac;have d0:=Aa hg (j:=0) rfl;have d1:=Aa hg (j:=1) rfl;have d2:=Aa hg (j:=2) rfl;have d3:=Aa hg (j:=3) rfl;have d4:=Aa hg (j:=4) rfl;have d5:=Aa hg (j:=5) rfl;have d6:=Aa hg (j:=6) rfl;have d7:=Aa hg (j:=7) rfl;generalize At e0 row=q at HH;obtain⟨ro,rc,ad⟩:=hr.shape;subst ad;clear he hr hg;cases q
 all_goals
  go_enter Tryz.func118,Tryz.ntmps118;go_wp2_with(go_fit HH;rintro e w1 ⟨rfl,ae⟩);go_ret;simp_all
theorem Pf {F}{w w'}{z}(h:w.grownBy w' z)(hF:∀k,F k→H k≠z):Keeps F w w':=⟨h.size,fun k hk hl=>h.block k hl (hF k hk)⟩
theorem Ahw {Eg}{n}{d}{T}{a}{to' io po}{tc ic pc}{w}(he:EngC Eg w n d.c T a (G to' d.c.tables.length tc) (G io d.c.indexes.length ic) (G po T.length pc))(ok:DbOk d)(ab:Has d (flat T))(t)(so)(sc)(hl:IsL Cp (fun k=>k<w.heap.size) w (G so t.cols.length sc) t.cols)(ht:t∈d.c.tables)
  (e0) (op xk xn) (xs s ac:Wd) (n8) (ao) (kk cc) (am:IsE (fun k=>k<w.heap.size) w e0 (bD (Af op ⟨xk,xn,xs⟩ s ac n8 (G ao kk cc)))) (hn:Fg e0) (aw:Dd e0) (ax:geB 40 e0=aR→Mt 40 e0) (ay:K7 d.c):
  bU aG 57 #[bA (H ⟨n,0,J⟩),bD #[D t.name,G so t.cols.length sc],bD (Af op ⟨xk,xn,xs⟩ s ac n8 (G ao kk cc))] w fun e w'=>Nd w w' e ((d.R t.name).filter (At e0)):=by
 obtain⟨_,an,az⟩:=D8 ok.cat;obtain⟨ba,ch,bl⟩:=az t ht;have hT:=aB (Ja he.good) (Lt ok he.good ab);obtain⟨aa,bT,bW,bm⟩:=al2 w (Z #[D t.name,G so t.cols.length sc] 74) (Z (Af op ⟨xk,xn,xs⟩ s ac n8 (G ao kk cc)) 69);generalize hW:(w.alloc _).alloc _=W1 at aa bT bW bm;have HW:Hid _:=hW;have ai:=he.below aa;have ae:=fun W h=>Aen d.c t 0 op xk xn xs s ac n8 ao kk cc e0 to' _ tc io _ ic so sc _ W (IsE.keep (Ae (Ac aa h)) _ _ am) (Ac aa h).size aw ax (aB ba (by simp)) ⟨_,_,rfl,(he.tabs.mono fun k hk _=>hk).keep (Ae (Ac aa h)),(he.idxs.mono fun k hk _=>hk).keep (Ae (Ac aa h))⟩ ay (hl.keep (Ae (Ac aa h))) (fun x hx=>aB (an x hx) (by simp))
 have ad:=fun W h=>Amd t (Dp d.c t 0 e0) T _ so sc W ⟨_,rfl,(ai.below h).pages.pages⟩ he.good (by omega) (aB (Aa3 an) (by simp)) (aB ba (by simp)) (P7 ok ab)
 have HM:Hid (∀A,A.Perm ((Hb t.cols.length T t.name (Dp d.c t 0 e0)).filter (At e0))→(A.Pairwise fun a b=>¬Bs (b.headD zero) (a.headD zero)<0)→A=(d.R _).filter _):=fun A h1 h2=>Asd ok he.good ab ht e0 h1 h2
 have ap:Hid _:=(Mv ok he.good ab ht 0 e0).2.1;have bb:Hid _:=aB (Aqg (Mv ok he.good ab ht 0 e0).1 (Mv ok he.good ab ht 0 e0).2.1) (ok.len t ht);have bc:Hid _:=fun r hr=>B6 (ok.fit t ht r hr)
 generalize(d.R _).filter _=RES at HM;generalize Hb _ T _ _=A at ad HM ap bb;generalize Dp d.c t 0 e0=cw at ae ad;obtain⟨cx,cj,ck⟩:=cw;unfold J0 at ae ad;simp only at ae ad;have KS:Hid _:=fun W (h:Below _ W1 W)=>aK (aK (show W.cell? _=H (G po _ pc)from Aa (ai.below h).blk (j:=2) rfl) (aK (show W.cell? _=H (G to' _ tc)from Aa (ai.below h).blk (j:=0) rfl) (aK (show W.cell? _=H (G io _ ic)from Aa (ai.below h).blk (j:=1) rfl) (aK (show W.cell? _=H (D _)from Aa ((h.block _ (Y bT)).trans bT) (j:=0) rfl) (show W.cell? _=H (G so _ sc)from Aa ((h.block _ (Y bT)).trans bT) (j:=1) rfl))))) (show W.cell? _=H (N _ op)∧W.cell? _=H (N _ xk)∧W.cell? _=H (N _ xn)∧W.cell? _=H (D xs)∧W.cell? _=H (D s)∧W.cell? _=H (D ac)∧W.cell? _=H (N _ n8)∧W.cell? _=H (G ao kk cc)from
  ⟨Aa ((h.block _ (Y bW)).trans bW) (j:=0) rfl,Aa ((h.block _ (Y bW)).trans bW) (j:=1) rfl,Aa ((h.block _ (Y bW)).trans bW) (j:=2) rfl,Aa ((h.block _ (Y bW)).trans bW) (j:=3) rfl,Aa ((h.block _ (Y bW)).trans bW) (j:=4) rfl,Aa ((h.block _ (Y bW)).trans bW) (j:=5) rfl,Aa ((h.block _ (Y bW)).trans bW) (j:=6) rfl,Aa ((h.block _ (Y bW)).trans bW) (j:=7) rfl⟩)
 have s0:=KS.out _ (aC _ _).drew;have bn:Hid _:=am;have HN:Hid _:=hn;clear hW am hn aw ax ay hl ok ab an az;go_enter Tryz.func57,Tryz.ntmps57;go_upto_region 1 with fail;rw[HW.out]
 go_region_held3(fun W=>(W.cell? ⟨n,2,J⟩=H (G po T.length pc)∧W.cell? ⟨n,0,J⟩=H (G to' d.c.tables.length tc)∧W.cell? ⟨n,1,J⟩=H (G io d.c.indexes.length ic)∧W.cell? ⟨w.heap.size,0,J⟩=H (D t.name)∧W.cell? ⟨w.heap.size,1,J⟩=H (G so t.cols.length sc))∧(W.cell? ⟨w.heap.size+1,0,J⟩=H (N U op)∧W.cell? ⟨w.heap.size+1,1,J⟩=H (N U xk)∧W.cell? ⟨w.heap.size+1,2,J⟩=H (N U xn)∧W.cell? ⟨w.heap.size+1,3,J⟩=H (D xs)∧W.cell? ⟨w.heap.size+1,4,J⟩=H (D s)∧W.cell? ⟨w.heap.size+1,5,J⟩=H (D ac)∧W.cell? ⟨w.heap.size+1,6,J⟩=H (N U n8)∧W.cell? ⟨w.heap.size+1,7,J⟩=H (G ao kk cc))) (with_reducible omega)
  (first
   |(go_fit(ae _ (aC _ _).drew);rintro e w7 ⟨rfl,bo⟩;have af:=Ac (aC _ _).drew bo;have s1:=KS.out w7 af)
   |(go_fit(ad _ af);rintro e w8 ⟨bd,rfl,bp,be⟩;have ag:=Ac af be;have s2:=KS.out w8 ag))
 obtain⟨bf,ah,aj⟩:=bp;have aq:=(Ac aa af).size;have ar:bf.length=A.length:=by have:=ah.1;omega
 have cl:=aX (Y bW) af.size;have bg:=be.size;have ak:=ah.lt;have HD:=Akl (bf.map fun v=>[v]) bd (bA (H ⟨w.heap.size+1,0,J⟩)) (fun i=>match A[i]? with|some r=>!At e0 r|none=>bC) w7.heap.size w8 (by rw[aI,Avw,ar];exact ah) (by
   intro c hc;obtain⟨v,hv,rfl⟩:=cI.1 hc;obtain⟨i,hi,rfl⟩:=cW hv;obtain⟨c',⟨sv,rfl,hR⟩,h2⟩:=Uf aj (aA (show i<A.length by omega));have h3:=h2 0 sv rfl;simp only[Ek,cV,aS]at h3;rw[aA hi]at h3;obtain⟨cm,c9,rfl⟩:=hR.shape;exact⟨_,_,_,by rw[bM h3]⟩) bg (by
   intro i c W hi al;rw[bP]at hi;obtain⟨v,hv,rfl⟩:=Option.map_eq_some_iff.1 hi;have au:i<A.length:=by have:=(aE.1 hv).1;omega
   obtain⟨c',⟨sv,rfl,hR⟩,h2⟩:=Uf aj (aA au);have h3:=h2 0 sv rfl;simp only[Ek,cV,aS]at h3;rw[hv]at h3;obtain rfl:=bM h3;have bq:=Pf (F:=FO w7.heap.size bd) al fun k hk=>hk.2
   have bt:=Pf (F:=fun k=>k<w.heap.size) al fun k hk e=>by have:=(ak k e.symm).1;omega
   have hr:=bc.out _ (ap.out _ (List.getElem_mem au));have:=Ase e0 op xk xn xs s ac n8 ao kk cc v A[i] w.heap.size (w.heap.size+1) W (IsE.keep bt _ _ (IsE.keep (Ae (Ac aa ag)) _ _ bn.out)) (aB (Ac aa ag).size al.size) HN.out (F4 (hR.keep bq)) (fun v hv=>Iw (hr.2 v hv)) (by rw[hr.1];exact aB bl (by decide)) ((al.block _ (by omega) (fun e=>by have:=(ak _ e.symm).1;omega)).trans ((ag.block _ (Y bW)).trans bW));rw[aA au];exact this)
 obtain⟨bu,bv,bw⟩:=Eu.shape (Eu.of_own ah);have bx:Hid _:=aj;have cn:Hid _:=ak;subst bw;have co:=bb.out;have cp:Hid _:=ar;clear KS s0 s1 s2 ae ad aj ak ah ar;go_upto_region 3 with(go_fit HD;rintro e w9 ⟨av,rfl,bh,bz,bi,bj⟩);have bk:Dq w7.heap.size av (A.filter (At e0)) w9:=by
  have h1:=Ahv (At e0) (fun i=>match A[i]? with|some r=>!At e0 r|none=>bC) 0 bx.out (fun j r hr=>by grind);have h2:=(All.keep (Pf (F:=FO w7.heap.size (G bu A.length bv)) bi fun k hk=>hk.2) h1).mono (F':=FO w7.heap.size av) (fun k _ hk=>⟨hk.1,by grind⟩);have h3:=h2.length;rw[Acb]at h3;simp only[Ek,cV]at h3;refine⟨_,?_,h2⟩;rw[←h3];exact bh
 have ca:=aB bg bj.size;have cb:(A.filter (At e0)).length≤1000000:=aB (List.length_filter_le _ _) (by omega);have HS:=Aki _ av _ w9 bk ca (fun r hr=>by have:=bc.out r (ap.out r (aW.1 hr).1);omega) cb;clear HD bh bi bz bk;go_wp2_with(go_fit HS;rintro e cq ⟨rfl,A',cd,ce,cf,cg⟩);go_ret;have hA:=HM.out A' cd ce;subst hA;refine⟨_,rfl,cf.base aq,?_⟩;exact(((Ac aa ag).trans (bj.mono aq)).trans (cg.mono aq))
theorem A4i {l}{rows}{x}:x∈Gv l rows↔∃f∈l,∃r∈rows,x=Ed f r:=by
 unfold Gv;grind
def Ch (A:TabD→Nat→List (List V)):Nat→List Fnd→List TabD→List Fnd
 |_,l,[]=>l
 |a,l,t::ts=>Ch A (a+t.cols.length) (Gv l (A t a)) ts
def Oo (d:Db)(T:List Pg)(e:E)(t:TabD)(a:Nat):List (List V):=Hb t.cols.length T t.name (Dp d.c t (a:Int) e)
def Hc (d:Db)(t:TabD)(_:Nat):List (List V):=d.R t.name
theorem H8 {A}:∀(ts:List TabD) {a:Nat}{l:List Fnd}{x:Fnd},x∈Ch A a l ts↔∃f∈l,x∈Ch A a [f] ts
 |[],_,l,x=>by simp[Ch]
 |t::ts,a,l,x=>by
  simp only[Ch];constructor
  ·intro h;obtain⟨g,hg,hx⟩:=(H8 ts).1 h;obtain⟨f,hf,r,hr,rfl⟩:=A4i.1 hg;exact⟨f,hf,(H8 ts).2 ⟨_,A4i.2 ⟨f,List.mem_singleton_self _,r,hr,rfl⟩,hx⟩⟩
  ·rintro⟨f,hf,hx⟩;obtain⟨g,hg,hy⟩:=(H8 ts).1 hx;obtain⟨f',aa,r,hr,rfl⟩:=A4i.1 hg;rw[cH]at aa;subst aa;exact(H8 ts).2 ⟨_,A4i.2 ⟨f',hf,r,hr,rfl⟩,hy⟩
theorem Amf {A B}:∀(ts:List TabD) {a:Nat}{l:List Fnd}{x:Fnd},(∀t∈ts,∀a r,r∈A t a→r∈B t a)→x∈Ch A a l ts→x∈Ch B a l ts
 |[],_,_,_,_,h=>h
 |t::ts,a,l,x,hs,h=>by
  obtain⟨g,hg,hx⟩:=(H8 ts).1 h;obtain⟨f,hf,r,hr,rfl⟩:=A4i.1 hg;exact(H8 ts).2 ⟨_,A4i.2 ⟨f,hf,r,hs t bK _ _ hr,rfl⟩,Amf ts (fun t ht=>hs t (cE _ ht)) hx⟩
theorem Aa4 {A}:∀(ts:List TabD) {a:Nat}{f x:Fnd},x∈Ch A a [f] ts→∃s,x.row=f.row++s
 |[],_,f,x,h=>⟨[],by rw[Ch,cH]at h;grind⟩
 |t::ts,a,f,x,h=>by
  obtain⟨g,hg,hx⟩:=(H8 ts).1 h;obtain⟨f',aa,r,_,rfl⟩:=A4i.1 hg;rw[cH]at aa;subst aa;obtain⟨s,hs⟩:=Aa4 ts hx;exact⟨_,by rw[hs,Ed,aY]⟩
theorem Ahx {l}{rows}{a c}(hl:∀f∈l,f.row.length=a)(hr:∀r∈rows,r.length=c):∀f∈Gv l rows,f.row.length=a+c:=fun x hx=>by
 obtain⟨f,hf,r,h,rfl⟩:=A4i.1 hx;rw[Ed,aP,hl f hf,hr r h]
theorem Ahy {d}(ok:DbOk d){T}(hT:As T)(h:Has d (flat T))(e):∀(ts:List TabD) (a:Nat) (l:List Fnd) (x:Fnd),(∀t∈ts,t∈d.c.tables)→(∀f∈l,f.row.length=a)→x∈Ch (Hc d) a l ts→At e x.row=aR→x∈Ch (Oo d T e) a l ts
 |[],_,_,_,_,_,hx,_=>hx
 |t::ts,a,l,x,ht,hl,hx,hh=>by
  have aa:=ht t bK;have ab:=fun r hr=>(B6 (ok.fit t aa r hr)).1
  obtain⟨g,hg,ac⟩:=(H8 ts).1 (Ahy ok hT h e ts _ _ x (fun t ad=>ht t (cE _ ad)) (Ahx hl ab) hx hh);obtain⟨s,hs⟩:=Aa4 ts ac;obtain⟨f,hf,r,hr,rfl⟩:=A4i.1 hg;refine(H8 ts).2 ⟨_,A4i.2 ⟨f,hf,r,?_,rfl⟩,ac⟩;refine(Mv ok hT h aa _ e).2.2 r hr fun ae=>?_
  have af:e.opn≠0:=fun h0=>by rw[Aca h0]at ae;grind
  simp only[At,bH,decide_eq_true_eq,af,false_or]at hh;refine⟨_,hh,fun k hk=>?_⟩;have ag:=hl f hf;have ah:=ab r hr;rw[Mq,if_pos (by omega),hs,Ed,show(a+(k:Int)).toNat=a+k from by omega,aY,cK (by omega),cO (by omega),ag,Nat.add_sub_cancel_left,cL]
theorem Asf {l}{rows}{a}(hl:∀f∈l,f.row.length=a)(hp:l.Pairwise fun x y=>x.row≠y.row)(hr:rows.Nodup):(Gv l rows).Pairwise fun x y=>x.row≠y.row:=by
 unfold Gv;rw[List.pairwise_flatMap];refine⟨fun f _=>?_,hp.imp_of_mem fun{f g} hf hg aa x hx y hy he=>?_⟩
 ·rw[dB];exact hr.imp fun aa he=>aa (List.append_cancel_left he)
 ·obtain⟨r,_,rfl⟩:=cI.1 hx;obtain⟨r',_,rfl⟩:=cI.1 hy;exact aa (List.append_inj he (by grind)).1
theorem Ra {A}:∀(ts:List TabD) (a:Nat) (l:List Fnd),(∀t∈ts,∀a,(A t a).Nodup∧∀r∈A t a,r.length=t.cols.length)→(∀f∈l,f.row.length=a)→(l.Pairwise fun x y=>x.row≠y.row)→(Ch A a l ts).Pairwise fun x y=>x.row≠y.row
 |[],_,_,_,_,hp=>hp
 |t::ts,a,l,hA,hl,hp=>by
  obtain⟨h1,h2⟩:=hA t bK a;exact Ra ts _ _ (fun t ht=>hA t (cE _ ht)) (Ahx hl h2) (Asf hl hp h1)
theorem Aox {d}(ok:DbOk d){T}(hT:As T)(h:Has d (flat T))(e)(ts)(ht:∀t∈ts,t∈d.c.tables):
  ((Ch (Oo d T e) 0 [⟨[],[],[]⟩] ts).filter fun f=>At e f.row).Perm ((Ch (Hc d) 0 [⟨[],[],[]⟩] ts).filter fun f=>At e f.row):=by
 have ab:=fun t h r hr=>(B6 (ok.fit t (ht t h) r hr)).1
 have hw:=fun t h' (a:Nat)=>Mv ok hT h (ht t h') a e
 have h0:∀f∈[(⟨[],[],[]⟩:Fnd)],f.row.length=0:=fun f hf=>by grind
 refine(List.perm_ext_iff_of_nodup (((Ra (A:=Oo d T e) ts 0 _ (fun t h' a=>⟨(hw t h' a).1,fun r hr=>ab t h' r ((hw t h' a).2.1 r hr)⟩) h0 (cR _ _)).imp fun aa he=>aa (by grind)).sublist bJ) (((Ra (A:=Hc d) ts 0 _ (fun t h' a=>⟨(ok.rise t (ht t h')).imp (fun{a b} ac he=>by rw[he]at ac;exact absurd ac (by simp[Gs])),fun r hr=>ab t h' r hr⟩) h0 (cR _ _)).imp fun aa he=>aa (by grind)).sublist bJ)).2 fun x=>?_
 rw[aW,aW];refine and_congr_left fun hh=>⟨Amf ts fun t h' a r hr=>(hw t h' a).2.1 r hr,fun hx=>Ahy ok hT h e ts 0 _ x ht h0 hx hh⟩
def G4 (st:Stm)(f:Fnd):Fnd:=⟨f.row,f.ids,st.order.map (ev f.row)⟩
def Hg (st:Stm):Int:=if st.down then-1 else 1
theorem Aa5 {F}{w}{vv}{L}(hv:IsL Lw F w vv L):∀{A:List Fnd}{cs:List aZ}{i:Nat}{f:Fnd},All Qf F w A cs→A[i]?=H f→All Qf F w (A.set i ⟨f.row,f.ids,L⟩) (cs.set (i*3+2) vv)
 |a::A,cs,0,f,h,hf=>by
  obtain⟨c,rest,rfl,⟨x,y,d,rfl,h2,h3,h4⟩,h5⟩:=h;simp only[List.getElem?_cons_zero,Option.some.injEq]at hf;subst hf;exact⟨_,rest,rfl,⟨x,y,vv,rfl,h2,h3,hv⟩,h5⟩
 |a::A,cs,i+1,f,h,hf=>by
  obtain⟨c,rest,rfl,⟨x,y,d,rfl,h2⟩,h5⟩:=h;refine⟨_,_,?_,⟨x,y,d,rfl,h2⟩,Aa5 hv h5 (by simpa using hf)⟩;grind
 |[],cs,i,f,h,hf=>by grind
theorem Azb {w:cA}{B g n cap}{t}{cs}(h:w.ownsRow B t 3 (G (H ⟨g,0,J⟩) n cap) n cs)(j)(v):(w.setCell ⟨g,j,J⟩ v).ownsRow B t 3 (G (H ⟨g,0,J⟩) n cap) n (cs.set j v):=by
 rcases G1 h with⟨h0,_⟩|⟨g',cap',X,hv,hB,hX,hn,hm,hl,ht⟩
 ·cases h0
 ·cases hv;refine Jl hB (X:=X.set j v) ?_ hn hm (by grind) (by rw[List.take_set,ht]);have:=Dh hX j v;grind
theorem Avx {α:Type}{l:List α}{k}{x}(h:l[k]?=H x):l.drop k=x::l.drop (k+1):=by
 obtain⟨hk,rfl⟩:=aE.1 h;simp
theorem Ai9 {B}{z}{A}{w w'}(h:Dg B z A w)(hb:Below w.heap.size w w'):Dg B z A w':=by
 obtain⟨cs,h1,h2⟩:=h;exact⟨cs,Aj h1 hb,h2.keep (Ak hb)⟩
theorem Aoy (st)(cs)(A)(z)(B)(w)(hR:I6.R (fun k=>k<B) w st cs)(h:Dg B z A w)(hB:B≤w.heap.size)(hl:A.length≤100000)(bz:st.order.length≤1000000)(ba:∀e∈st.order,Fg e)(ai:∀f∈A,f.ids.length≤1000000∧f.row.length≤bI∧∀v∈f.row,v.s.size≤bI):
  bU aG 59 #[bD cs.toArray,z] w fun e w'=>e=aM z∧∃A',A'.Perm (A.map (G4 st))∧(A'.Pairwise fun a b=>¬Ks (Hg st) b a<0)∧Dg B z A' w'∧Below B w w':=by
 obtain⟨o1,c1,o2,c2,o3,c3,o4,c4,o5,c5,op,xk,xn,xs,s,ae,n8,o6,k6,c6,o7,c7,rfl,i1,i2,i3,i4,i5,i6,i7⟩:=Ba hR;obtain⟨ca,af,bb⟩:=h;obtain⟨zo,zc,hz⟩:=Eu.shape (Eu.of_own af);subst hz;obtain⟨ac,bS,-⟩:=al1 w (Z (sA st.kind st.name st.table st.col (G o1 st.cols.length c1) (G o2 st.rows.length c2) (G o3 st.sets.length c3) (G o4 st.frm.length c4) (G o5 st.out.length c5) op xk xn xs s ae n8 (G o6 k6 c6) (G o7 st.order.length c7) st.down st.n) 71);have bc:=af.lt;have HZ:Hid (∀k,(cJ zo A.length zc).ownBlock=H k→B≤k∧k<w.heap.size):=fun k hk=>bc k hk
 have aj:=i7.keep (Ak ac);have bd:Dg B (G zo A.length zc) A (w.alloc (Z (sA st.kind st.name st.table st.col (G o1 st.cols.length c1) (G o2 st.rows.length c2) (G o3 st.sets.length c3) (G o4 st.frm.length c4) (G o5 st.out.length c5) op xk xn xs s ae n8 (G o6 k6 c6) (G o7 st.order.length c7) st.down st.n) 71)):=⟨ca,Aj af ac,bb.keep (Ak ac)⟩;generalize hW:w.alloc (Z (sA st.kind st.name st.table st.col (G o1 st.cols.length c1) (G o2 st.rows.length c2) (G o3 st.sets.length c3) (G o4 st.frm.length c4) (G o5 st.out.length c5) op xk xn xs s ae n8 (G o6 k6 c6) (G o7 st.order.length c7) st.down st.n) 71)=W1 at ac bS aj bd;have HW:Hid _:=hW;have HO:Hid _:=aj;have cb:Hid _:=ba;have cc:Hid _:=ai;have cd:Hid (∀f∈A.map (G4 st),f.ids.length≤1000000∧f.ord.length≤1000000):=fun f hf=>by
  obtain⟨q,hq,rfl⟩:=cI.1 hf;exact⟨(ai q hq).1,by simpa[G4]using bz⟩
 clear hW hR i1 i2 i3 i4 i5 i6 i7 aj ba ai af bb bc;generalize be:Hg st=tn;have bf:Hid _:=be;clear be;have bg:(A.map (G4 st)).length≤1000000:=by rw[aI];omega
 have ce:Hid _:=bg;clear bg;go_enter Tryz.func59,Tryz.ntmps59;go_upto_region 1 with fail;rw[HW.out];go_wp2
 go_loopw[10] (fun i wr=>∃k:Nat,k≤A.length∧i=N U k∧Hid (Dg B (G zo A.length zc) ((A.map (G4 st)).take k++A.drop k) wr)∧wr.heap[w.heap.size]?=H (Z (sA st.kind st.name st.table st.col (G o1 st.cols.length c1) (G o2 st.rows.length c2) (G o3 st.sets.length c3) (G o4 st.frm.length c4) (G o5 st.out.length c5) op xk xn xs s ae n8 (G o6 k6 c6) (G o7 st.order.length c7) st.down st.n) 71)∧Below B w wr∧w.heap.size+1≤wr.heap.size∧Below B W1 wr) (fun i _=>A.length-(bL i).toNat)
 case atStart=>exact⟨0,aL _,rfl,by show Dg _ _ _ _;simpa using bd,bS,ac.mono hB,Y bS,aC _ _⟩
 case round=>
  obtain⟨k,hk,rfl,ak,al,aa,db,bh⟩:=hrel
  by_cases bi:k<A.length
  ·obtain⟨f,hf⟩:∃f,A[k]?=H f:=⟨_,aA bi⟩;obtain⟨cf,ag,am⟩:=ak.out;have an:((A.map (G4 st)).take k++A.drop k)[k]?=H f:=by
    rw[cK (by rw[aU];omega),aU,aI,Nat.min_eq_left hk,Nat.sub_self,List.getElem?_drop,aS];exact hf
   have cg:((A.map (G4 st)).take k++A.drop k).length=A.length:=by simp;omega
   rw[cg]at ag;obtain⟨g,cap,X,ch,bj,hX,dc,dd,de,bk⟩:∃(g cap:Nat) (X:List aZ),cJ zo A.length zc=G (H ⟨g,0,J⟩) A.length cap∧B≤g∧wr.heap[g]?=H (Z X.toArray 115)∧A.length≤cap∧cap≤bI∧X.length=cap*3∧X.take (A.length*3)=cf:=by
    rcases G1 ag with⟨_,h0⟩|h
    ·omega
    ·exact h
   cases ch;obtain⟨c',⟨x1,x2,x3,rfl,ap,bl,bm⟩,bn⟩:=Uf am an;have ah:∀j u,[x1,x2,x3][j]?=H u→wr.cell? ⟨g,k*3+j,J⟩=H u:=fun j u hj=>by
    have h1:=bn j u hj;simp only[Qf]at h1;refine Aa hX ?_;have df:j<3:=by have:=(aE.1 hj).1;simpa using this
    rw[←bk,cQ (by omega)]at h1;simpa using h1
   have d0:=ah 0 _ rfl;have d1:=ah 1 _ rfl;have d2:=ah 2 _ rfl;simp only[aS]at d0;obtain⟨y1,z1,rfl⟩:=ap.shape;obtain⟨y2,z2,rfl⟩:=bl.shape;obtain⟨y3,z3,rfl⟩:=bm.shape;obtain⟨cj,bo,bp⟩:=cc.out f (aN hf);have ab:=Aq wr (Z #[G y1 f.row.length z1,G y2 f.ids.length z2,G y3 f.ord.length z3] 115);have ck:=Tx st.order (G o7 st.order.length c7) (G y1 f.row.length z1) f.row B (wr.alloc (Z #[G y1 f.row.length z1,G y2 f.ids.length z2,G y3 f.ord.length z3] 115)) ((IsL.keep HO.out (Ae (bh:Below B W1 wr))).keep (Ae (ab.mono (aB hB aa.size)))) (aB (aB hB aa.size) ab.size) cb.out (by omega) ((F4 ap).below ab) bp bo;have aq:=(ab.block g (Y hX)).trans hX;have ar:=(ab.block _ (Y al)).trans al;have dg:=Aa ar (j:=17) rfl;have cl:w.heap.size≠g:=by have:=(HZ.out g rfl).2;omega
   have v0:(0:Int)≤(k:Int):=by omega
   have v1:(k:Int)<(A.length:Int):=by omega
   have HJ:Hid (k+1≤A.length):=bi;have cm:Hid _:=am;have cn:Hid _:=ag;have co:Hid _:=an;have cp:Hid (((A.map (G4 st)).take k++A.drop k).set k ⟨f.row,f.ids,st.order.map (ev f.row)⟩=(A.map (G4 st)).take (k+1)++A.drop (k+1)):=by
    show _=_;rw[List.set_append_right _ _ (by grind),aU,aI,Nat.min_eq_left hk,Nat.sub_self,bO,bP,hf,Avx hf];simp[G4]
   obtain⟨xo,bq⟩:∃u,X[k*3+2]?=H u:=⟨_,aA (by omega)⟩;have cq:Hid _:=bq;clear hf ah bn am an ap bl bm cj bo bp bk ag bq;go_wp2_with(go_fit ck;rintro e w3 ⟨vv,rfl,bt,au⟩;obtain⟨vo,vc,cr⟩:=Eu.shape (Eu.of_own bt);subst cr;have bu:=(au.block g (Y aq)).trans aq;have y9:=(Aa bu (by simpa using cq.out));have z9:w3.frozen? ⟨g,k*3+2,J⟩=bC:=(by simp[aD,bu]));have ad:=Ac ab au;have ct:IsL Lw (FO B (G (H ⟨g,0,J⟩) A.length zc)) w3 (G vo st.order.length vc) (st.order.map (ev f.row)):=by
    refine Nc (base:=(wr.alloc (Z #[G y1 f.row.length z1,G y2 f.ids.length z2,G y3 f.ord.length z3] 115)).heap.size) (by rw[aI];exact bt) fun q hq=>⟨aB (aB hB aa.size) (aB ab.size hq),fun e=>?_⟩
    have h1:q=g:=by simpa[dF]using e
    have:=Y aq;omega
   have cu:Keeps (FO B (G (H ⟨g,0,J⟩) A.length zc)) w3 (w3.setCell ⟨g,k*3+2,J⟩ (G vo st.order.length vc)):=(Keeps.refl _ _).set (fun h=>h.2 (by rfl)) _ _;go_roundw
   case rel=>
    refine⟨_,HJ.out,by rfl,?_,?_,?_,?_,?_⟩
    ·show Dg _ _ _ _;rw[←cp.out];refine⟨_,?_,(Aa5 ct (All.keep (Ak ad) cm.out) co.out).keep cu⟩;have cv:(((A.map (G4 st)).take k++A.drop k).set k ⟨f.row,f.ids,st.order.map (ev f.row)⟩).length=A.length:=by simp;omega
     rw[cv];exact Azb (Aj cn.out ad) (k*3+2) (G vo st.order.length vc)
    ·exact(Below.heap_setCell _ _ _ _ cl).trans ((au.block _ (Y ar)).trans ar)
    ·exact((aa.trans (ad.mono (aB hB aa.size))).setCell bj _)
    ·have:=ad.size;simp[World.setCell];omega
    ·exact((bh.trans (ad.mono (aB hB aa.size))).setCell bj _)
   case measure=>have:=HJ.out;simp[bL];omega
  ·have cx:k=A.length:=by omega
   subst cx;have v1:¬(A.length<(A.length:Int)):=by omega
   have av:=ak.out;rw[List.drop_length,bG,cS (by simp)]at av;have cy:H wr.heap.size≠(cJ zo _ zc).ownBlock:=fun e=>by have:=(HZ.out _ e.symm).2;omega
   have bv:=Aa (Ad al (Z #[N U 1] 3)) (j:=18) rfl;have bw:=fun cz W hb hp ht=>Ai8 _ _ cz _ B W (Ai9 av hb) (aB (aB hB aa.size) hb.size) hp cy ht cd.out ce.out
   have bx:Hid _:=bw;clear bw ak av;cases hd:st.down
   ·have aw:Hid (tn=1):=by show _=_;rw[←bf.out,Hg,hd];rfl
    rw[hd]at bv;clear hd;go_wp2_with(go_fit(bx.out 1 _ (Aq _ _) (Aa (Ab wr (Z #[N U 1] 3)) rfl) (.inl rfl));rintro e w9 ⟨rfl,A',ax,da,ay,az⟩);go_ret;refine⟨rfl,A',ax,by rw[aw.out];omega,ay,?_⟩;exact(aa.trans ((Aq wr _).mono (aB hB aa.size))).trans az
   ·have aw:Hid (tn= -1):=by show _=_;rw[←bf.out,Hg,hd];rfl
    rw[hd]at bv;clear hd;go_wp2_with(go_fit(bx.out _ (wr.alloc (Z #[N _ _] 3)) (Aq _ _) (Aa (Ab wr _) rfl) (.inr rfl));rintro e w9 ⟨rfl,A',ax,da,ay,az⟩);go_ret;refine⟨rfl,A',ax,by rw[aw.out];omega,ay,?_⟩;exact(aa.trans ((Aq wr _).mono (aB hB aa.size))).trans az
theorem Aoz {kd}{nm tb cl}{q1 q2 q3 q4 q5 q7}{dn}{nn}(e0)(op xk xn)(xs s aa:Wd)(n8)(ao)(kk cc)(x1 x2 x3)(row)(C g)(w)(he:IsE (fun k=>k<C) w e0 (bD (Af op ⟨xk,xn,xs⟩ s aa n8 (G ao kk cc))))(hC:C≤w.heap.size)(hn:Fg e0)(hr:Cq w x1 row)(ab:Hj x2)(ac:Hj x3)(ad:∀v∈row,v.s.size≤bI)(ae:row.length≤bI)(hg:w.heap[g]?=H (Z (sA kd nm tb cl q1 q2 q3 q4 q5 op xk xn xs s aa n8 (G ao kk cc) q7 dn nn) 71)):
  bU aG 131 #[bD #[x1,x2,x3],bA (H ⟨g,0,J⟩)] w fun e w'=>e=aM (.bool (!At e0 row))∧Below w.heap.size w w':=by
 obtain⟨y2,m2,z2,rfl⟩:=ab;obtain⟨y3,m3,z3,rfl⟩:=ac;obtain⟨ro,rc,af⟩:=hr.shape;subst af;obtain⟨hb,bF,-⟩:=al1 w (Z #[G ro row.length rc,G y2 m2 z2,G y3 m3 z3] 115);have bg:=(hb.block _ (Y hg)).trans hg;have HH:=Ahs e0 op xk xn xs s aa n8 ao kk cc _ row C _ (IsE.keep (Ak hb) _ _ he) (aB hC hb.size) hn (hr.below hb) ad ae;generalize hW:w.alloc _=W1 at hb bF bg HH;have HW:Hid _:=hW;have a0:=Aa bF (j:=0) rfl;have d0:=Aa bg (j:=9) rfl;have d1:=Aa bg (j:=10) rfl;have d2:=Aa bg (j:=11) rfl;have d3:=Aa bg (j:=12) rfl;have d4:=Aa bg (j:=13) rfl;have d5:=Aa bg (j:=14) rfl;have d6:=Aa bg (j:=15) rfl;have d7:=Aa bg (j:=16) rfl;generalize At e0 row=q at HH;generalize row.length=rn at*;clear he hr hg hW bF bg;cases q
 all_goals
  go_enter Tryz.func131,Tryz.ntmps131;go_upto_region 1 with fail;rw[HW.out];go_wp2_with(go_fit HH;rintro e w1 ⟨rfl,ag⟩);go_ret;exact⟨rfl,Ac hb ag⟩
end
end Go.Proofs.YtjapkoofjlmdgaaGreatDoor

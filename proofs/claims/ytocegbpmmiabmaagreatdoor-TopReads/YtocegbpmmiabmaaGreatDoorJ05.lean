/-
  36 texts of this proof in one,in build order:QRows3,QSpan,QSpan2,QWhere,QWhere2,QWhere3,QWhere5,Truth,XMath,QMath,QSound,QWhere6,QWhere8,QWhere9,QRank,QChoose,QWays,TPutSm,PPut,PFits,PKept,PApp,PKept2,TTrees,PPlans,PDrop,PAll,GMath,GMath2,GMem,XOps,XPtr,XWith,XOps2,XOps3,XApply.
-/
import Derived.Deep.RegionHeld3
import Derived.Deep.Cut
import Derived.Laws.StructEq
import Derived.Deep.CutRange
import Derived.Test.YtocegbpmmiabmaaGreatDoorRows
import Derived.WalkKit
import Derived.Deep.QuietTactic
import Derived.Laws.Append
import Derived.WalkSpells
import Derived.WalkLawsBesides
import Derived.Laws.Bits64b
import Derived.OwnWalk
import Derived.Test.YtocegbpmmiabmaaGreatDoorJ01
import Derived.Test.YtocegbpmmiabmaaGreatDoorJ02
import Derived.Test.YtocegbpmmiabmaaGreatDoorJ03
import Derived.Test.YtocegbpmmiabmaaGreatDoorJ04
set_option linter.unusedSimpArgs false
set_option linter.unusedVariables false
set_option maxRecDepth 100000
set_option maxHeartbeats 0
open Go.Value renaming agg→aM,agg→aX,bool→bK,int→J,pointer→aW,slice→aA,string→H,string→dT
open Option renaming none→Q,some→N
open Go.IntKind renaming i64→U,wrap_i64→cF
open Go.Proofs.Tryz renaming func202→cM,func204→eC,func257→eB,func259→eA,func260→dZ,func316→dY,func317→bY,func318→cL,func319→cK,func320→dX,func354→dW,func360→bX,ntmps202→cI,ntmps204→dQ,ntmps257→dP,ntmps259→dO,ntmps260→dN,ntmps316→dM,ntmps317→bQ,ntmps318→cH,ntmps319→cG,ntmps320→dL,ntmps354→dK,ntmps360→bO,prog→aB,results202→bV,results257→dE,results259→dD,results260→dC,results316→eO,results317→bI,results321→eN,results360→cO,underlying238→aK,underlying65→eK
open Go.Obj renaming cells→aC
open Go.RowKit.Below renaming refl→aD
open Go.Op renaming bytesLess→aE
open Go renaming Calls→aQ,Value→bG,World→aZ,below_drewN→dJ,bodyPost_ret→aS,lt_of_block→aF,maxLen→bJ,results→bM,results_cell_row→bH,wpAnyH_done→cT
open Bool renaming and_eq_true→aG,false→aO,false_eq_true→aV,not_eq_false'→cS,not_eq_true'→cV,or_eq_false_iff→eG,true→aJ
open Go.Ending renaming returned→aH
open List renaming all_eq_true→cZ,append_assoc→cU,append_nil→bA,cons_append→bC,drop_eq_getElem_cons→dI,eq_nil_of_length_eq_zero→bS,filter_sublist→eI,flatMap_append→eH,flatMap_cons→eL,getElem?_eq_getElem→aI,getElem?_eq_some_iff→cC,head?_eq_getElem?→eE,headD_eq_head?_getD→dR,length_append→aU,length_cons→eM,length_eq_one_iff→cN,length_map→dG,length_zip→eP,mem_append_right→eF,mem_cons→bR,mem_filter→aT,mem_filterMap→bE,mem_flatMap→cY,mem_map→eD,mem_of_getElem?→aY,pairwise_cons→cR,pairwise_map→cE,take_add_one→cD,take_append_drop→cP,take_append_of_le_length→dA,take_length→bB,zip_append→dF
open Nat renaming add_zero→cA,le_of_lt→cW,le_refl→aL,le_trans→aP,zero_le→bU,zero_mul→bZ
open Go.World renaming cell?_setCell_other→dH,frozen?→aN,size_alloc→aR
open Option.some renaming inj→cB,injEq→bD
open Prod renaming fst→bF
open List.cons renaming injEq→bL
open UInt8 renaming lt_iff_toNat_lt→dV,ofNat→bN
open Go.Value.string renaming injEq→cJ
open Go.Addr.mk renaming injEq→cQ
open Go.Proofs renaming intOf→cX
open And renaming intro→dB
open BitVec renaming ofInt→dS
open Go.Value.slice renaming inj→dU
open Go.Value.agg renaming inj→eJ
open Go.Builtin renaming max_→eR,min_→eQ
namespace Go.Proofs.YtocegbpmmiabmaaGreatDoor
section
open Go.RowKit
def Aj9 (n:Nat)(T:List Pg)(t ix lo hi:Wd):List (List V):=Cy n (Hr T (J6 (rk1 t ix ((rng T lo hi).map bF))))
theorem Yx (L:List Wd):(J6 L).length≤L.length:=by
 unfold J6;rw[dG];refine aP ?_ (Nat.le_of_eq (Ou L));unfold Lib.compact Lib.compactUpTo;grind
theorem Agc {T}{lo hi:Wd}{x:Wd×Wd}(h:x∈rng T lo hi):x∈flat T:=(aT.1 h).1
theorem Wa {F:List (Wd×Wd)}{k y:Wd}(h:Hz F k=N y):(k,y)∈F:=by
 unfold Hz at h;cases hf:F.find? fun x=>decide (x.1=k)with
 |none=>grind
 |some p=>
  grind
theorem Ao9 (aa ix:Wd)(T)(pv)(so)(n sc:Nat)(lo hi:Wd)(w:aZ)(hp:Bj w pv T)(hg:As T)(hT:T.length≤100000)(bc:ix≠⟨#[]⟩)(bq:ix.size≤1000000)(bt:aa.size≤1000000)(hx:∀x∈flat T,x.1.size≤1000000∧x.2.size≤1000000):
  aQ aB 113 #[pv,aM #[H aa,aA so n sc],J1 ix lo hi] w fun e w'=>Ng w w' e (Aj9 n T aa ix lo hi):=by
 obtain⟨cm,rfl,am⟩:=hp;obtain⟨po,pc,rfl⟩:=Ct am;obtain⟨i0,bu,bv,bw,bx⟩:=info_parts P5;obtain⟨an,-,-,bW,-⟩:=al3 w (aC #[aA po T.length pc] 65) (aC #[H aa,aA so n sc] 82) (aC #[H ix,H lo,H hi] 167);have bT:=Ad (Cc w (aC #[aA po T.length pc] 65) (aC #[H aa,aA so n sc] 82)) (aC #[H ix,H lo,H hi] 167);have HR:=Ag6 aJ T ⟨fun _=>hg,fun _=>rfl⟩ (aM #[aA po T.length pc]) lo hi _ ⟨_,rfl,am.below an⟩ (by omega);rw[show Vc aJ T lo hi=rng T lo hi from rfl]at HR;have bd:(rng T lo hi).length≤400000:=by
  have h1:=Aan aJ T ⟨fun _=>hg,fun _=>rfl⟩ (lo:=lo) (hi:=hi);rw[show Vc aJ T lo hi=rng T lo hi from rfl]at h1;omega
 have ax:((rng T lo hi).map bF).length≤1000000:=by rw[dG];omega
 have be:Hid (∀x∈(rng T lo hi).map bF,x.size≤1000000):=fun x hh=>by obtain⟨y,hy,rfl⟩:=eD.1 hh;exact(hx y (Agc hy)).1
 have ay:(Hr T (J6 (rk1 aa ix ((rng T lo hi).map bF)))).length≤400000:=aP (Aa7 _ _) (aP (Yx _) (aP (Q8 _ _ _) (by rw[dG];exact bd)));have ap:(J6 (rk1 aa ix ((rng T lo hi).map bF))).length≤1000000:=aP (Yx _) (aP (Q8 _ _ _) ax);have HX:Hid (∀x∈Hr T (J6 (rk1 aa ix ((rng T lo hi).map bF))),x.size≤1000000):=fun x hh=>by
  obtain⟨y,hy,h2⟩:=bE.1 hh;exact(hx _ (Wa h2)).2
 clear hx bd;unfold M7 at HR;have ER:Hid (Aj9 n T aa ix lo hi=Cy n (Hr T (J6 (rk1 aa ix ((rng T lo hi).map bF))))):=rfl;rw[ER.out];clear ER;generalize(rng T lo hi).map bF=Y at HR ay HX ax be ap⊢;generalize(rng T lo hi).map Prod.snd=X0 at HR;have HB:=fun kv W h1 h2=>Aee T (aM #[aA po T.length pc]) kv (J6 (rk1 aa ix Y)) W h1 hg hT h2 ap
 have bf:=fun kv W h1=>Ao8 aa ix kv Y W h1 ax bt bq be.out
 have bz:Hid (Ba w (aA po T.length pc) T):=am;generalize J6 (rk1 aa ix Y)=Z at HB bf ay HX ap⊢;generalize ca:Hr T Z=X at HB ay HX⊢;clear ca ap;generalize hW:((w.alloc (aC #[aA po T.length pc] 65)).alloc (aC #[H aa,aA so n sc] 82)).alloc (aC #[H ix,H lo,H hi] 167)=W3 at an HR bT bW;have bP:W3.heap[w.heap.size]?=N (aC #[aA po T.length pc] 65):=by rw[←hW];exact Ad (Ad (Ab w _) _) _
 have HW:Hid _:=hW;clear hW;have c0:=Aa bP (j:=0) rfl;have c1:=Aa bW (j:=0) rfl;have c2:=Aa bW (j:=1) rfl;have c3:=Aa bW (j:=2) rfl;have cn:(ByteArray.toList ix).isEmpty=aO:=by
  rw[K5];refine decide_eq_false fun h=>bc ?_
  cases ix with|mk d=>exact congrArg ByteArray.mk (Array.eq_empty_of_size_eq_zero h)
 clear bc;unfold J1;go_enter Tryz.func113,Tryz.ntmps113;go_upto_region 1 with fail;rw[HW.out];go_wp2_with(go_fit HR;rintro e w0 ⟨kv,vv,rfl,bg,bh,ag⟩;obtain⟨co,cp,rfl⟩:=Ex.shape bh;obtain⟨cq,cr,rfl⟩:=Ex.shape bg;have ct:=Aa ((ag.block _ (aF bW)).trans bW) (j:=0) rfl);have aq:Below w.heap.size w w0:=an.trans (ag.mono an.size);have ar:=(ag.block _ (aF bT)).trans bT;have bi:=(ag.block _ (aF bP)).trans bP;have bj:=(ag.block _ (aF bW)).trans bW;have KS:Hid (∀W,Below w0.heap.size w0 W→W.cell? ⟨w.heap.size,0,Q⟩=N (aA po T.length pc)∧W.cell? ⟨w.heap.size+1,0,Q⟩=N (H aa)∧W.cell? ⟨w.heap.size+2,0,Q⟩=N (H ix)):=fun W hb=>
  ⟨Aa ((hb.block _ (aF bi)).trans bi) (j:=0) rfl,Aa ((hb.block _ (aF ar)).trans ar) (j:=0) rfl,Aa ((hb.block _ (aF bj)).trans bj) (j:=0) rfl⟩
 clear bh HR am
 go_region_held3(fun W=>W.cell? ⟨w.heap.size,0,Q⟩=N (aA po T.length pc)∧W.cell? ⟨w.heap.size+1,0,Q⟩=N (H aa)∧W.cell? ⟨w.heap.size+2,0,Q⟩=N (H ix))
  (with_reducible first|exact s2|exact s1|exact KS.out w0.drew (aD _ _).drew)
  (first
   |(go_fit(bf _ _ (Ex.below bg (aD _ _).drew));rintro e wk ⟨zv,rfl,cb,cc⟩;have az:Below w0.heap.size w0 wk:=Ac (aD _ _).drew cc;have s1:=KS.out wk az)
   |(go_fit(HB _ _ ⟨_,rfl,Ba.below bz.out (aq.trans (az.mono aq.size))⟩ cb);rintro e w1 ⟨cu,rfl,bk,cd⟩;obtain⟨vo,vc,rfl⟩:=Ex.shape bk;have ba:Below w0.heap.size w0 w1:=Ac az cd;have s2:=KS.out w1 ba))
 go_wp2;have bl:=(ba.block _ (aF ar)).trans ar;have bb:Below w.heap.size w w1:=aq.trans (ba.mono aq.size)
 go_loopw[9,36] (fun zv i wr=>∃k:Nat,k≤X.length∧i=J U k∧Dm w1.heap.size zv (Cy n (X.take k)) wr∧Below w1.heap.size w1 wr) (fun _ i _=>X.length-(cX i).toNat)
 case atStart=>exact⟨0,bU _,rfl,B8 _ _,aD _ _⟩
 case round=>
  obtain⟨k,hk,rfl,⟨cs,ae,ah⟩,ad⟩:=hrel
  by_cases ce:k<X.length
  ·obtain⟨x,hx⟩:∃x,X[k]?=N x:=⟨_,aI ce⟩;obtain⟨b,cv,cap,cf,hb,_,_,bm⟩:=bk.at (by omega);cases cf;have d0:=(ad.cell hb).trans (bm k x hx);have HV:=fun W=>Oe x W (by have:=HX.out x (aY hx);omega)
   have au:Hid (Cy n _=Cy n _++(In n x).toList):=Aat hx;have v0:(0:Int)≤k:=by omega
   have v1:k<(X.length:Int):=by omega
   have ai:=ad.size;have bn:=ae.lt;have ac:=(ad.block _ (aF bl)).trans bl;have cx:(Cy n (X.take k)).length≤400000:=aP (Xi _ _) (by grind);clear hx bm;unfold Ho at HV;cases aj:vals x.data.toList with
   |none=>
    have E2:Hid (Cy n (X.take (k+1))=Cy n (X.take k)):=by show _=_;rw[au.out,In,aj];simp
    rw[aj]at HV;simp only at HV;go_wp2_with(go_fit(HV _);rintro e w2 ⟨rfl,ab⟩);go_roundw
    case rel=>exact⟨k+1,by omega,by rfl,by rw[E2.out];exact Dm.below ⟨cs,ae,ah⟩ ab,ad.trans (ab.mono ai)⟩
    case measure=>simp[cX];omega
   |some L=>
    rw[aj]at HV;simp only at HV;have HF:=fun ao c W=>Of aa so n sc ao L.length c W
    by_cases hf:0<L.length∧L.length=n
    ·have E2:Hid (Cy n (X.take (k+1))=Cy n (X.take k)++[L]):=by show _=_;rw[au.out,In,aj];simp only;rw[if_pos hf];rfl
     rw[show(decide _&&decide _)=aJ by grind]at HF;clear hf au;go_wp2_with(first
      |(go_fit(HV _);rintro e w2 ⟨⟨lv,rfl,av⟩,ab⟩;obtain⟨ak,al,rfl⟩:=Ex.shape (Ex.of_own av);have t2:=Aa ((ab.block _ (aF ac)).trans ac) (j:=0) rfl;have t3:=Aa ((ab.block _ (aF ac)).trans ac) (j:=1) rfl)
      |(go_fit(HF _ _ _);rintro e w3 ⟨rfl,af⟩;have aw:Below _ wr (w3.alloc (aC [aA ak L.length al].toArray 79)):=(Ac ab af).alloc (Ac ab af).size _;have bo:=aP ai aw.size)
      |(at_builtin;go_must(refine wpList_append_own_at _ rfl _ _ 30 rfl _ 79 i0 _ 1 24 Tryz.underlying30 bu bv bw bx rfl (by simp) _ _ _ rfl (Ak ae aw) _ 1 1 _ rfl rfl (Cb w3 [.slice ak L.length al] 79) ?h1 (by simp only[bJ];omega) (by omega) bo ?h2)))
     case h1=>simp only[List.forall_mem_cons];repeat(first|exact fun _ h=>absurd h List.not_mem_nil|refine⟨rfl,?_⟩)
     case h2=>
      intro z2 w4 cg bp _ ch;have cj:z2.ownBlock=u9.ownBlock∨z2.ownBlock=N (w3.alloc (aC [aA ak L.length al].toArray 79)).heap.size:=by rw[aR];exact ch
      have ck:IsL Ly (FO _ u9) (w3.alloc (aC [aA ak L.length al].toArray 79)) _ L:=
       (Nf av fun k hk=>⟨aP ai hk,fun e=>by have:=(bn k e.symm).2;omega⟩).keep (Ai ((Ac af (Aq _ _))))
      have cy:=L9 cg (ah.keep (Ai aw)) ck bp cj;go_wp2_with fail;go_roundw
      case rel=>exact⟨k+1,by omega,by rfl,by rw[E2.out];omega,(ad.trans (aw.mono ai)).grown bp bo fun k hk=>(bn k hk).1⟩
      case measure=>simp[cX];omega
    ·have E2:Hid (Cy n (X.take (k+1))=Cy n (X.take k)):=by show _=_;rw[au.out,In,aj];simp only;rw[if_neg hf];simp
     rw[show(decide _&&decide _)=aO by grind]at HF;go_wp2_with(first|(go_fit(HV _);rintro e w2 ⟨⟨lv,rfl,av⟩,ab⟩;obtain⟨ak,al,rfl⟩:=Ex.shape (Ex.of_own av);have t2:=Aa ((ab.block _ (aF ac)).trans ac) (j:=0) rfl;have t3:=Aa ((ab.block _ (aF ac)).trans ac) (j:=1) rfl)|(go_fit(HF _ _ _);rintro e w3 ⟨rfl,af⟩));go_roundw
     case rel=>exact⟨k+1,by omega,by rfl,by rw[E2.out];exact Dm.below (Dm.below ⟨cs,ae,ah⟩ ab) af,(ad.trans (ab.mono ai)).trans (af.mono (by have:=ab.size;omega))⟩
     case measure=>simp[cX];omega
  ·have cl:k=X.length:=by omega
   subst cl;have v1:¬(X.length<(X.length:Int)):=by omega
   rw[bB]at ae ah;go_wp2;go_ret;exact⟨_,rfl,Dm.base ⟨cs,ae,ah⟩ bb.size,bb.trans (ad.mono bb.size)⟩
structure Sp where
 lo:Wd
 hi:Wd
def Sp.val (s:Sp):bG:=aM #[H s.lo,H s.hi]
def ffW:Wd:=⟨#[255]⟩
def Lf (s:Wd):Sp:=⟨s,s++ffW⟩
def kb (v:V):Wd:=str (Bc [v]).1
def skS (v:V):Sp:=Lf ((kb v).extract 0 1)
def Wb (v:V)(yes:Bool):Sp:=if yes then Lf (kb v)else skS v
def U2 (v:V)(yes:Bool):Sp:=if yes then⟨(skS v).lo,kb v⟩else⟨kb v,(skS v).hi⟩
def Rs (v:V)(yes:Bool):Sp:=if yes then⟨kb v++ffW,(skS v).hi⟩else⟨(skS v).lo,kb v++ffW⟩
def Sp.empty (s:Sp):Bool:=!klt s.lo s.hi
def L0 (a b:Wd):Wd:=if klt a b then b else a
def L4 (a b:Wd):Wd:=if klt b a then b else a
def Sp.both (s o:Sp):Sp:=⟨L0 s.lo o.lo,L4 s.hi o.hi⟩
def Sp.either (s o:Sp):Sp:=if s.empty then o else if o.empty then s else⟨L4 s.lo o.lo,L0 s.hi o.hi⟩
def noS:Sp:=⟨noW,noW⟩
theorem Gb {fn}{p:Tmp}{w0 w}{g}{a}{c0 c1}{t ty}{fs}(x y)(hr:fn.results=#[.cell p ty])(hp:a.tmps.getD p undef=aW (N ⟨g,0,Q⟩))(hd:a.defers=[])
  (hg:w.heap[g]?=N (aC #[c0,c1] t)) (hb:Below w0.heap.size w0 w) (aa:w0.heap.size≤g)
  (hu:Tryz.prog.underlying ty=N (.struct fs)) (hi:(Tryz.prog.info? ty).map (·.size)=N 2):
  bodyPost aB fn (fun e w'=>e=aH (aM #[x,y])∧Below w0.heap.size w0 w') .ret a ((w.setCell ⟨g,0,Q⟩ x).setCell ⟨g,1,Q⟩ y):=
 aS (bH hr a.tmps _ g t #[x,y] (0,0) _ hp (by rw[upd (upd hg 0 x) 1 y];rfl) hu rfl hi) hd ⟨rfl,(hb.setCell aa _).setCell aa _⟩
theorem A6 {w w'}{g}{t}{c0 c1}(hg:w.heap[g]?=N (aC #[c0,c1] t))(hb:Below w.heap.size w w'):w'.heap[g]?=N (aC #[c0,c1] t)∧w'.cell? ⟨g,0,Q⟩=N c0∧w'.cell? ⟨g,1,Q⟩=N c1∧w'.frozen? ⟨g,0,Q⟩=aO∧w'.frozen? ⟨g,1,Q⟩=aO:=by
 have h:=(hb.block g (aF hg)).trans hg;exact⟨h,Aa h rfl,Aa h rfl,by simp[aN,h],by simp[aN,h]⟩
theorem Al8 {v}(h:good v=aJ):1≤(kb v).size∧(kb v).size≤10:=by
 unfold kb;rw[Jy,(Rk h)];refine⟨?_,Akb v h⟩;unfold keyOf;grind
theorem Aef (v):(kb v).size≤10:=Ki [v]
theorem Ra (v)(vb)(w)(hs:v.s.size≤bJ)(hv:w.heap[vb]?=N (aC #[J U v.k,J U v.n,H v.s] 46)):
  aQ aB 118 #[aA (N ⟨vb,0,Q⟩) 1 1] w fun e w'=>e=aH (H (kb v))∧Below w.heap.size w w':=
 Qu [v] (aA (N ⟨vb,0,Q⟩) 1 1) w (.inr ⟨_,_,_,rfl,aF hv,fun i x hi=>by
  match i,hi with
  |0,hi=>simp at hi;subst hi;exact⟨Aa hv rfl,Aa hv rfl,Aa hv rfl⟩⟩) (by simp) (by grind)
theorem Th {W:aZ}{g n}(hn:n≠g)(a b)(o):((W.setCell ⟨g,0,Q⟩ a).setCell ⟨g,1,Q⟩ b).cell? ⟨n,o,Q⟩=W.cell? ⟨n,o,Q⟩:=by
 rw[dH _ _ _ _ (by simp),dH _ _ _ _ (by simp)]
theorem Ahw {W:aZ}{g n}{c0 c1 c2}(h:W.cell? ⟨n,0,Q⟩=N c0∧W.cell? ⟨n,1,Q⟩=N c1∧W.cell? ⟨n,2,Q⟩=N c2)(hn:n≠g)(a b):
  ((W.setCell ⟨g,0,Q⟩ a).setCell ⟨g,1,Q⟩ b).cell? ⟨n,0,Q⟩=N c0∧((W.setCell ⟨g,0,Q⟩ a).setCell ⟨g,1,Q⟩ b).cell? ⟨n,1,Q⟩=N c1∧((W.setCell ⟨g,0,Q⟩ a).setCell ⟨g,1,Q⟩ b).cell? ⟨n,2,Q⟩=N c2:=
 ⟨(Th hn a b 0).trans h.1,(Th hn a b 1).trans h.2.1,(Th hn a b 2).trans h.2.2⟩
theorem A5e (a b:Wd)(W):(Instr.field 238 (aM #[H a,H b]) 0).run aB W=.ok (H a) W:=by kernel_rfl
theorem A31 (a b:Wd)(W):(Instr.field 238 (aM #[H a,H b]) 1).run aB W=.ok (H b) W:=by kernel_rfl
theorem Yy (v:V)(w:aZ)(hg:good v=aJ)(hs:v.s.size≤bJ):aQ aB 361 #[v.val] w fun e w'=>e=aH (skS v).val∧Below w.heap.size w w':=by
 have hz:=Al8 hg;have HK:=fun(W:aZ) (vb:Nat) h=>Ra v vb W hs h
 obtain⟨vk,vn,vs⟩:=v;simp only at HK;have E:Hid ((skS ⟨vk,vn,vs⟩).val=aM #[H ((kb ⟨vk,vn,vs⟩).extract 0 1),H ((kb ⟨vk,vn,vs⟩).extract 0 1++ffW)]):=rfl;rw[E.out];generalize kb ⟨vk,vn,vs⟩=k at HK hz;have hp:(k.extract 0 1).size≤1000000:=by simp[ByteArray.size_extract];omega
 have HB:=fun W=>Jt (k.extract 0 1) W hp
 have z1:(1:Int)≤(k.size:Int):=by omega
 clear hs hg E hp;simp only[V.val];generalize hq:k.extract 0 1=q at HB;unfold ffW;go_enter Tryz.func361,Tryz.ntmps361;go_wp2_with(first
  |(go_fit(HK _ _ (Fi _ _ _ _));rintro e w1 ⟨rfl,aa⟩)
  |(go_fit(HB _);rintro e w2 ⟨rfl,ab⟩;obtain⟨r0,r1,r2,r3,r4⟩:=A6 (Cc w (aC #[J U vk,J U vn,H vs] 46) (aC #[H noW,H noW] 238)) (Ac (Aq _ _) (Ac aa ab))))
 exact Gb _ _ Tryz.results361 rfl rfl r0 (Ac (Hy w _ _ _) (Ac aa ab)) (by omega) aK (by kernel_rfl)
theorem Al9 (v:V)(yes:Bool)(w:aZ)(hg:good v=aJ)(hs:v.s.size≤bJ):aQ aB 321 #[v.val,bK yes] w fun e w'=>e=aH (Wb v yes).val∧Below w.heap.size w w':=by
 have hz:=Al8 hg;have HK:=fun(W:aZ) (vb:Nat) h=>Ra v vb W hs h
 have HS:=fun W=>Yy v W hg hs
 have HB:=fun W=>Jt (kb v) W (by omega)
 have E:Hid ((Wb v aJ).val=aM #[H (kb v),H (kb v++ffW)]∧(Wb v aO).val=aM #[H (skS v).lo,H (skS v).hi]):=⟨rfl,rfl⟩;obtain⟨vk,vn,vs⟩:=v;simp only at HK;simp only[V.val]at HS⊢;have ES:Hid ((skS ⟨vk,vn,vs⟩).val=aM #[H (skS ⟨vk,vn,vs⟩).lo,H (skS ⟨vk,vn,vs⟩).hi]):=rfl;rw[ES.out]at HS;clear hs hg hz ES;unfold ffW at E;obtain⟨ac,-,blk,-⟩:=al2 w (aC #[J U vk,J U vn,H vs] 46) (aC #[H noW,H noW] 238);generalize(skS ⟨vk,vn,vs⟩).lo=slo at HS E;generalize(skS ⟨vk,vn,vs⟩).hi=shi at HS E;generalize kb ⟨vk,vn,vs⟩=k at HK HB E;cases yes
 ·rw[E.out.2];go_enter Tryz.func321,Tryz.ntmps321;go_wp2_with(go_fit(HS _);rintro e w1 ⟨rfl,aa⟩;obtain⟨r0,r1,r2,r3,r4⟩:=A6 blk aa);exact Gb _ _ eN rfl rfl r0 (Ac ac aa) (by omega) aK (by kernel_rfl)
 ·rw[E.out.1];go_enter Tryz.func321,Tryz.ntmps321;go_wp2_with(first
   |(go_fit(HK _ _ (Fi _ _ _ _));rintro e w1 ⟨rfl,aa⟩)
   |(go_fit(HB _);rintro e w2 ⟨rfl,ab⟩;obtain⟨r0,r1,r2,r3,r4⟩:=A6 blk (Ac (Aq _ _) (Ac aa ab))))
  exact Gb _ _ eN rfl rfl r0 (Ac (Hy w _ _ _) (Ac aa ab)) (by omega) aK (by rfl)
theorem Avw (v)(yes)(w)(hg:good v=aJ)(hs:v.s.size≤bJ):(aQ aB 322 #[v.val,bK yes] w fun e w'=>e=aH (U2 v yes).val∧Below w.heap.size w w')∧aQ aB 323 #[v.val,bK yes] w fun e w'=>e=aH (Rs v yes).val∧Below w.heap.size w w':=by
 have hz:=Al8 hg;have HK:=fun W vb h=>Ra v vb W hs h
 have HS:=fun W=>Yy v W hg hs
 have HB:=fun W=>Jt (kb v) W (by omega)
 have E:Hid (((U2 v aJ).val=aM #[H (skS v).lo,H (kb v)]∧(U2 v aO).val=aM #[H (kb v),H (skS v).hi])∧(Rs v aJ).val=aM #[H (kb v++ffW),H (skS v).hi]∧(Rs v aO).val=aM #[H (skS v).lo,H (kb v++ffW)]):=⟨⟨rfl,rfl⟩,rfl,rfl⟩;obtain⟨vk,vn,vs⟩:=v;simp only at HK;simp only[V.val]at HS⊢;have ES:Hid ((skS _).val=aM #[H _,H (skS ⟨vk,vn,vs⟩).hi]):=rfl;rw[ES.out]at HS;clear hs hg hz ES;unfold ffW at E;obtain⟨aa,ab,blk,-⟩:=al2 w (aC #[J U vk,J U vn,H vs] 46) (aC #[H noW,H noW] 238);generalize(skS _).lo=slo at HS E;generalize(skS _).hi=shi at HS E;generalize kb _=k at HK HB E;generalize hW:(w.alloc _).alloc _=V at blk ab aa;have HW:Hid _:=hW;clear hW;have KS:Hid (∀W,Below _ V W→W.cell? ⟨_,0,Q⟩=N (J _ vk)∧W.cell? ⟨_,1,Q⟩=N (J _ vn)∧W.cell? ⟨_,2,Q⟩=N (H vs)):=fun W hW=>by
  have b:=(hW.block _ (aF ab)).trans ab;exact⟨Aa b rfl,Aa b rfl,Aa b rfl⟩
 have z0:Below V.heap.size V _:=(aD _ V).drew;have zA:Below V.heap.size V (V.drew.alloc (aC #[J U vk,J U vn,H vs] 46)):=z0.alloc (aL _) _;have zD:Below V.heap.size V (V.alloc (aC #[J U vk,J U vn,H vs] 46)).drew:=((aD _ V).alloc (aL _) _).drew;have ac:w.heap.size≠w.heap.size+1:=by omega
 have F0:=A5e;have F1:=A31;constructor<;>cases yes
 focus
  rw[E.out.1.2];go_enter Tryz.func322,Tryz.ntmps322;go_upto_region 3 with fail
 rotate_left
 focus
  rw[E.out.1.1];go_enter Tryz.func322,Tryz.ntmps322;go_upto_region 2 with fail
 rotate_left
 focus
  rw[E.out.2.2];go_enter Tryz.func323,Tryz.ntmps323;go_upto_region 3 with fail
 rotate_left
 focus
  rw[E.out.2.1];go_enter Tryz.func323,Tryz.ntmps323;go_upto_region 2 with fail
 all_goals
  rw[HW.out]
  go_region_held3(fun W=>W.cell? ⟨w.heap.size,0,Q⟩=N (J U vk)∧W.cell? ⟨w.heap.size,1,Q⟩=N (J U vn)∧W.cell? ⟨w.heap.size,2,Q⟩=N (H vs))
   (with_reducible first|exact(KS.out _ z0)|exact yA|exact(KS.out _ zD)|exact yS|exact ae|exact yK|exact yB|exact Ahw yS ac _ _|exact Ahw yB ac _ _)
   (first
    |(go_at_call 361;refine(HS _).mono ?_;rintro e wS ⟨rfl,ad⟩;have zS:Below V.heap.size V wS:=Ac (by with_reducible first|exact z0|exact zA|exact zD|exact zK|exact zB) ad;have zL:Below V.heap.size V wS:=zS;obtain⟨r0,r1,r2,r3,r4⟩:=A6 blk zS;have yS:=KS.out _ zS;have ae:=KS.out _ (zS.alloc zS.size (aC #[J U vk,J U vn,H vs] 46)))
    |(go_at_call 118;refine(HK _ _ (by first|exact Ab _ _|exact(ad.block _ (aF (Ab V (aC #[J U vk,J U vn,H vs] 46)))).trans (Ab V (aC #[J U vk,J U vn,H vs] 46)))).mono ?_;rintro e wK ⟨rfl,af⟩;have zK:Below V.heap.size V wK:=Ac (by with_reducible first|exact zA|exact zD|exact zS|exact zS.alloc zS.size _) af;have yK:=KS.out _ zK)
    |(go_at_call 186;refine(HB _).mono ?_;rintro e wB ⟨rfl,ag⟩;have zB:Below V.heap.size V wB:=Ac (by with_reducible first|exact zK|exact zS) ag;have zL:Below V.heap.size V wB:=zB;obtain⟨r0,r1,r2,r3,r4⟩:=A6 blk zB;have yB:=KS.out _ zB))
  all_goals
   go_wp2
   first
    |exact Gb _ _ Tryz.results322 rfl rfl r0 (Ac aa zL) (by omega) aK (by rfl)
    |exact Gb _ _ Tryz.results323 rfl rfl r0 (Ac aa zL) (by omega) aK (by rfl)
theorem Aqy (a b:Wd)(ats)(ty)(w):(eR ats ty #[H a,H b]).run aB w=.ok (H (L0 a b)) w:=by
 simp only[eR,Builtin.max2,List.foldlM,Op.stringOp,L0,klt]
 by_cases h:aE a.toList b.toList=aJ
 ·simp[asBool,h]
 ·simp[asBool,h]
theorem Aqz (a b:Wd)(ats)(ty)(w):(eQ ats ty #[H a,H b]).run aB w=.ok (H (L4 a b)) w:=by
 simp only[eQ,Builtin.min2,List.foldlM,Op.stringOp];have aa:(aE a.toList b.toList||a.toList==b.toList)= !klt b a:=by
  cases h:klt b a with
  |true=>
   have h1:aE _ _=aO:=Kx h;have h2:(a.toList==b.toList)=aO:=by
    rw[Jk];exact decide_eq_false fun e=>F3 h e.symm
   grind
  |false=>
   rcases Ji h with e|e
   ·grind
   ·have:aE _ _=aJ:=e;grind
 rw[aa];unfold L4
 by_cases h:klt b a=aJ
 ·simp[asBool,h]
 ·simp[asBool,h]
theorem Ty (s:Sp)(w):aQ aB 262 #[s.val] w fun e w'=>e=aH (bK s.empty)∧Below w.heap.size w w':=by
 obtain⟨lo,hi⟩:=s;have E:Hid ((Sp.mk lo hi).empty= !aE lo.toList hi.toList):=rfl;generalize(Sp.mk lo hi).empty=r at E;simp only[Sp.val];go_enter Tryz.func262,Tryz.ntmps262;go_wp2;go_ret;exact⟨Ah (by rw[E.out]),Aq _ _⟩
theorem Asw (s o:Sp)(w):aQ aB 258 #[s.val,o.val] w fun e w'=>e=aH (s.both o).val∧Below w.heap.size w w':=by
 obtain⟨lo,hi⟩:=s;obtain⟨aa,ab⟩:=o;have E:Hid (((Sp.mk lo hi).both (Sp.mk aa ab)).val=aM #[H (L0 lo aa),H (L4 hi ab)]):=rfl;rw[E.out];simp only[Sp.val];have h1:=fun ac ty w=>Aqy lo aa ac ty w
 have h2:=fun ac ty w=>Aqz hi ab ac ty w
 generalize L0 lo aa=a at h1;generalize L4 hi ab=b at h2;go_enter Tryz.func258,Tryz.ntmps258;go_wp2;exact aS (bH Tryz.results258 _ _ _ 238 _ _ _ rfl (Fi w _ _ _) aK rfl (by kernel_rfl)) rfl ⟨rfl,Hy w _ _ _⟩
theorem Ama (s o:Sp)(w):aQ aB 259 #[s.val,o.val] w fun e w'=>e=aH (s.either o).val∧Below w.heap.size w w':=by
 have H1:=fun W=>Ty s W
 have H2:=fun W=>Ty o W
 have E:Hid ((s.either o).val=if s.empty then o.val else if o.empty then s.val else aM #[H (L4 s.lo o.lo),H (L0 s.hi o.hi)]):=by
  show _=_;unfold Sp.either;split
  ·rfl
  ·split<;>rfl
 rw[E.out];clear E;generalize s.empty=e1 at H1;generalize o.empty=e2 at H2;obtain⟨lo,hi⟩:=s;obtain⟨ac,ad⟩:=o;simp only[Sp.val]at H1 H2⊢;have h1:=fun ae ty w=>Aqz lo ac ae ty w
 have h2:=fun ae ty w=>Aqy hi ad ae ty w
 generalize L4 lo ac=a at h1;generalize L0 hi ad=b at h2;obtain⟨af,-,-,blk,-⟩:=al3 w (aC #[H lo,H hi] 238) (aC #[H ac,H ad] 238) (aC #[H noW,H noW] 238);have ah:=Ad (Ad (Ab w (aC #[H lo,H hi] 238)) (aC #[H ac,H ad] 238)) (aC #[H noW,H noW] 238);have ag:=Ad (Cc w (aC #[H lo,H hi] 238) (aC #[H ac,H ad] 238)) (aC #[H noW,H noW] 238);cases e1
 ·cases e2
  ·simp only[aV,if_false];go_enter eA,dO;go_wp2_with(first
    |(go_at_call_of 262 (aX #[H lo,H hi]);go_must(go_fit(H1 _);rintro e w1 ⟨rfl,aa⟩;obtain⟨p0,p1,p2,p3,p4⟩:=A6 ah aa;obtain⟨q0,q1,q2,q3,q4⟩:=A6 ag aa;obtain⟨r0,r1,r2,r3,r4⟩:=A6 blk aa))
    |(go_at_call_of 262 (aX #[H ac,H ad]);go_must(go_fit(H2 _);rintro e w2 ⟨rfl,ab⟩;obtain⟨p0,p1,p2,p3,p4⟩:=A6 p0 ab;obtain⟨q0,q1,q2,q3,q4⟩:=A6 q0 ab;obtain⟨r0,r1,r2,r3,r4⟩:=A6 r0 ab)))
   exact Gb _ _ dD rfl rfl r0 (Ac af (Ac aa ab)) (by omega) aK (by rfl)
  ·simp only[aV,if_false,if_true];go_enter eA,dO;go_wp2_with(first
    |(go_at_call_of 262 (aX #[H lo,H hi]);go_must(go_fit(H1 _);rintro e w1 ⟨rfl,aa⟩;obtain⟨p0,p1,p2,p3,p4⟩:=A6 ah aa;obtain⟨q0,q1,q2,q3,q4⟩:=A6 ag aa;obtain⟨r0,r1,r2,r3,r4⟩:=A6 blk aa))
    |(go_at_call_of 262 (aX #[H ac,H ad]);go_must(go_fit(H2 _);rintro e w2 ⟨rfl,ab⟩;obtain⟨p0,p1,p2,p3,p4⟩:=A6 p0 ab;obtain⟨q0,q1,q2,q3,q4⟩:=A6 q0 ab;obtain⟨r0,r1,r2,r3,r4⟩:=A6 r0 ab)))
   exact Gb _ _ dD rfl rfl r0 (Ac af (Ac aa ab)) (by omega) aK (by rfl)
 ·simp only[if_true];go_enter eA,dO;go_wp2_with(first
    |(go_fit(H1 _);rintro e w1 ⟨rfl,aa⟩;obtain⟨q0,q1,q2,q3,q4⟩:=A6 ag aa;obtain⟨r0,r1,r2,r3,r4⟩:=A6 blk aa))
  exact Gb _ _ dD rfl rfl r0 (Ac af aa) (by omega) aK (by rfl)
def Asx (o:Option (List V)):Nat:=match o with
 |some l=>l.length
 |none=>0
def Sp.rank (s:Sp):Int:=if s.empty then 0 else if Asx (vals s.lo.data.toList)=1∧s.hi=s.lo++ffW then 1 else if s.lo=noW∧s.hi=ffW then 3 else 2
def E.opI:E→Int
 |.mk op _ _ _ _ _=>op
def E.vV:E→V
 |.mk _ v _ _ _ _=>v
def E.nI:E→Int
 |.mk _ _ _ _ n _=>n
def isC (at' col op n:Int):Bool:=decide (op=2)&&decide (0≤at')&&decide (at'≤n)&&decide (n-at'=col)
def Mr (op k:Int):Bool:=decide (op=1)&&decide (k=0)
theorem Yz (at' col op)(x)(s name)(n)(ao)(k c)(w)(hn:op=2→n≤9223372036854775807):
  aQ aB 319 #[aM #[J U at',J U col],aM (Af op x s name n (aA ao k c))] w fun e w'=>e=aH (bK (isC at' col op n))∧Below w.heap.size w w':=by
 obtain⟨xk,xn,xs⟩:=x;have E:Hid (isC at' col op n=(decide _&&decide _&&decide _&&decide _)):=rfl;generalize isC at' col op n=r at E
 by_cases h1:op=2
 ·subst h1;have aa:=hn rfl;clear hn
  by_cases h2:0≤at'
  ·by_cases h3:at'≤n
   ·have hw:IntKind.i64.wrap (n-at')=n-at':=by rw[cF];omega
    by_cases h4:n-at'=col
    ·go_enter cK,cG;go_wp2;go_ret;exact⟨Ah (by rw[E.out];grind),Dd _ _ _⟩
    ·go_enter cK,cG;go_wp2;go_ret;exact⟨Ah (by rw[E.out];grind),Dd _ _ _⟩
   ·go_enter cK,cG;go_wp2;go_ret;exact⟨Ah (by rw[E.out];grind),Dd _ _ _⟩
  ·go_enter cK,cG;go_wp2;go_ret;exact⟨Ah (by rw[E.out];grind),Dd _ _ _⟩
 ·go_enter cK,cG;go_wp2;go_ret;exact⟨Ah (by rw[E.out];grind),Dd _ _ _⟩
theorem Xm (op)(x)(s name)(n)(ao)(k c)(w):
  aQ aB 320 #[aM (Af op x s name n (aA ao k c))] w fun e w'=>e=aH (bK (Mr op x.k))∧Below w.heap.size w w':=by
 obtain⟨xk,xn,xs⟩:=x;have E:Hid (Mr op xk=(decide _&&decide _)):=rfl;simp only;generalize Mr op xk=r at E
 by_cases h1:op=1
 ·subst h1
  by_cases h2:xk=0
  ·subst h2;go_enter dX,dL;go_wp2;go_ret;exact⟨Ah (by rw[E.out];rfl),Aq _ _⟩
  ·go_enter dX,dL;go_wp2;go_ret;exact⟨Ah (by rw[E.out];rfl),Aq _ _⟩
 ·go_enter dX,dL;go_wp2;go_ret;exact⟨Ah (by rw[E.out];grind),Aq _ _⟩
def isS (at' col op n:Int)(yes:Bool):Sp:=if isC at' col op n then(if yes then Lf (kb zero)else⟨kb zero++ffW,noW++ffW⟩)else Lf noW
def We (at' col op:Int)(ao:Int)(av:V)(an:Int)(bo:Int)(bv:V)(bn:Int)(yes:Bool):Sp:=
 if Mr ao av.k||Mr bo bv.k then noS
 else if decide (op=5)&&isC at' col ao an&&decide (bo=1)then Wb bv yes
 else if decide (op=5)&&decide (ao=1)&&isC at' col bo bn then Wb av yes
 else if decide (op=6)&&isC at' col ao an&&decide (bo=1)then U2 bv yes
 else if decide (op=6)&&decide (ao=1)&&isC at' col bo bn then Rs av yes
 else Lf noW
theorem Wf (w):aQ aB 186 #[H ⟨#[]⟩] w fun e w'=>e=aH (aM #[H noW,H (noW++ffW)])∧Below w.heap.size w w':=Jt noW w (by decide)
theorem A32 {at' col op n}(h:isC at' col op n=aJ):op=2:=by
 unfold isC at h;grind
theorem Apa (at' col)(pop pk pn)(px ps pm:Wd)(pi)(pa)(pl pc)(yes)(w)(hn:pop=2→pi≤9223372036854775807):
  aQ aB 260 #[aM #[J U at',J U col],aM #[J U pop,J U pk,J U pn,H px,H ps,H pm,J U pi,aA pa pl pc],bK yes] w fun e w'=>e=aH (isS at' col pop pi yes).val∧Below w.heap.size w w':=by
 have HI:=fun W=>Yz at' col pop ⟨pk,pn,px⟩ ps pm pi pa pl pc W hn
 have HK:=fun W vb h=>Ra zero vb W (by decide) h
 have hz:=Aef zero;have HB:=fun W=>Jt (kb zero) W (by omega)
 have H0:=Wf;have E:Hid ((isS at' col pop pi yes).val=if isC at' col pop pi then(if yes then aM #[H (kb zero),H (kb zero++ffW)]else aM #[H (kb zero++ffW),H (noW++ffW)])else aM #[H noW,H (noW++ffW)]):=by
  show _=_;unfold isS;split
  ·split<;>rfl
  ·rfl
 rw[E.out];clear E hz;generalize kb zero=k at HK HB;generalize isC at' col pop pi=ic at HI;unfold ffW at H0⊢;simp only[zero]at HK;generalize(noW++⟨_⟩:Wd)=f1 at H0;obtain⟨ae,B0,B1,B2,-⟩:=al3 w (aC #[J U at',J U col] 258) (aC #[J U pop,J U pk,J U pn,H px,H ps,H pm,J U pi,aA pa pl pc] 48) (aC #[H noW,H noW] 238);generalize hW:((w.alloc _).alloc _).alloc _=W at B0 B1 B2 ae;have HW:Hid _:=hW;clear hW;cases ic
 ·simp only[aV,if_false];go_enter dZ,dN;go_upto_region 1 with fail;rw[HW.out];go_wp2_with(first
   |(go_fit(HK _ _ (Ab _ _));rintro e w1 ⟨rfl,ac⟩;have z1:=Ac (Aq _ _) ac)
   |(go_at_call_of 186 (dT k);go_must(go_fit(HB _);rintro e w2 ⟨rfl,ad⟩;have z2:=Ac z1 ad;have z3:Below _ W (w2.alloc (aC #[H k,H (k++⟨#[255]⟩)] 238)):=z2.alloc z2.size _;have D0:=(z3.block _ (aF B0)).trans B0;have D1:=(z3.block _ (aF B1)).trans B1;have c0:=Aa D0 (j:=0) (u:=J _ at') rfl;have c1:=Aa D0 (j:=1) (u:=J _ col) rfl;have e0:=Aa D1 (j:=0) (u:=J _ pop) rfl;have e1:=Aa D1 (j:=1) (u:=J _ pk) rfl;have e2:=Aa D1 (j:=2) (u:=J _ pn) rfl;have e3:=Aa D1 (j:=3) (u:=H px) rfl;have e4:=Aa D1 (j:=4) (u:=H ps) rfl;have e5:=Aa D1 (j:=5) (u:=H pm) rfl;have e6:=Aa D1 (j:=6) (u:=J _ pi) rfl;have e7:=Aa D1 (j:=7) (u:=aA pa pl pc) rfl))
   |(go_fit(HI _);rintro e w3 ⟨rfl,aa⟩;have z4:=Ac z3 aa;obtain⟨m0,m1,m2,m3,m4⟩:=A6 (Ab w2 (aC #[H k,H (k++⟨#[255]⟩)] 238)) aa;obtain⟨r0,r1,r2,r3,r4⟩:=A6 B2 z4)
   |(go_fit(H0 _);rintro e w4 ⟨rfl,ab⟩;have z5:=Ac z4 ab;obtain⟨r0,r1,r2,r3,r4⟩:=A6 B2 z5))
  exact Gb _ _ dC rfl rfl r0 (Ac ae z5) (by omega) aK (by rfl)
 ·cases yes
  ·simp only[aV,if_false,if_true];have F1:=A31;go_enter dZ,dN;go_upto_region 1 with fail;rw[HW.out];go_upto_region 6 with(first
   |(go_fit(HK _ _ (Ab _ _));rintro e w1 ⟨rfl,ac⟩;have z1:=Ac (Aq _ _) ac)
   |(go_at_call_of 186 (dT k);go_must(go_fit(HB _);rintro e w2 ⟨rfl,ad⟩;have z2:=Ac z1 ad;have z3:Below _ W (w2.alloc (aC #[H k,H (k++⟨#[255]⟩)] 238)):=z2.alloc z2.size _;have D0:=(z3.block _ (aF B0)).trans B0;have D1:=(z3.block _ (aF B1)).trans B1;have c0:=Aa D0 (j:=0) (u:=J _ at') rfl;have c1:=Aa D0 (j:=1) (u:=J _ col) rfl;have e0:=Aa D1 (j:=0) (u:=J _ pop) rfl;have e1:=Aa D1 (j:=1) (u:=J _ pk) rfl;have e2:=Aa D1 (j:=2) (u:=J _ pn) rfl;have e3:=Aa D1 (j:=3) (u:=H px) rfl;have e4:=Aa D1 (j:=4) (u:=H ps) rfl;have e5:=Aa D1 (j:=5) (u:=H pm) rfl;have e6:=Aa D1 (j:=6) (u:=J _ pi) rfl;have e7:=Aa D1 (j:=7) (u:=aA pa pl pc) rfl))
   |(go_fit(HI _);rintro e w3 ⟨rfl,aa⟩;have z4:=Ac z3 aa;obtain⟨m0,m1,m2,m3,m4⟩:=A6 (Ab w2 (aC #[H k,H (k++⟨#[255]⟩)] 238)) aa;obtain⟨r0,r1,r2,r3,r4⟩:=A6 B2 z4)
   |(go_fit(H0 _);rintro e w4 ⟨rfl,ab⟩;have z5:Below W.heap.size W w4:=Ac z4 ab;obtain⟨r0,r1,r2,r3,r4⟩:=A6 B2 z5))
   have KS:Hid (∀V,Below _ w3 V→V.cell? _=N _):=fun V hV=>(hV.cell (aF m0)).trans m2
   have y0:=KS.out _ (aD _ _).drew;have af:w2.heap.size≠w.heap.size+2:=by have:=z2.size;have:=aF B2;omega
   go_region_held3(fun V=>V.cell? ⟨w2.heap.size,1,Q⟩=N (H (k++⟨#[255]⟩)))
    (with_reducible first|omega|omega|exact(Th af _ _ 1).trans y1)
    (first|(refine(H0 _).mono ?_;rintro e w4 ⟨rfl,ab⟩;have q4:=Ac (aD _ _).drew ab;have z5:=Ac z4 q4;obtain⟨r0,r1,r2,r3,r4⟩:=A6 B2 z5;have y1:=KS.out _ q4))
   go_wp2;exact Gb _ _ dC rfl rfl r0 (Ac ae z5) (by omega) aK (by rfl)
  ·simp only[if_true];go_enter dZ,dN;go_upto_region 1 with fail;rw[HW.out];go_wp2_with(first
   |(go_fit(HK _ _ (Ab _ _));rintro e w1 ⟨rfl,ac⟩;have z1:=Ac (Aq _ _) ac)
   |(go_at_call_of 186 (dT k);go_must(go_fit(HB _);rintro e w2 ⟨rfl,ad⟩;have z2:=Ac z1 ad;have z3:Below _ W (w2.alloc (aC #[H k,H (k++⟨#[255]⟩)] 238)):=z2.alloc z2.size _;have D0:=(z3.block _ (aF B0)).trans B0;have D1:=(z3.block _ (aF B1)).trans B1;have c0:=Aa D0 (j:=0) (u:=J _ at') rfl;have c1:=Aa D0 (j:=1) (u:=J _ col) rfl;have e0:=Aa D1 (j:=0) (u:=J _ pop) rfl;have e1:=Aa D1 (j:=1) (u:=J _ pk) rfl;have e2:=Aa D1 (j:=2) (u:=J _ pn) rfl;have e3:=Aa D1 (j:=3) (u:=H px) rfl;have e4:=Aa D1 (j:=4) (u:=H ps) rfl;have e5:=Aa D1 (j:=5) (u:=H pm) rfl;have e6:=Aa D1 (j:=6) (u:=J _ pi) rfl;have e7:=Aa D1 (j:=7) (u:=aA pa pl pc) rfl))
   |(go_fit(HI _);rintro e w3 ⟨rfl,aa⟩;have z4:=Ac z3 aa;obtain⟨m0,m1,m2,m3,m4⟩:=A6 (Ab w2 (aC #[H k,H (k++⟨#[255]⟩)] 238)) aa;obtain⟨r0,r1,r2,r3,r4⟩:=A6 B2 z4)
   |(go_fit(H0 _);rintro e w4 ⟨rfl,ab⟩;have z5:Below W.heap.size W w4:=Ac z4 ab;obtain⟨r0,r1,r2,r3,r4⟩:=A6 B2 z5))
   exact Gb _ _ dC rfl rfl r0 (Ac ae z4) (by omega) aK (by rfl)
theorem A5f (w)(o1 o2 o3 o4):Below w.heap.size w ((((w.alloc o1).alloc o2).alloc o3).alloc o4):=(Hy w o1 o2 o3).alloc (by simp;omega) _
theorem A33 (w:aZ)(o1 o2 o3 o4):((((w.alloc o1).alloc o2).alloc o3).alloc o4).heap[w.heap.size+3]?=N o4:=by
 have h:=Ab (((w.alloc o1).alloc o2).alloc o3) o4;simp_all
theorem A5g (w)(o1 o2 o3 o4):((((w.alloc o1).alloc o2).alloc o3).alloc o4).heap[w.heap.size]?=N o1∧((((w.alloc o1).alloc o2).alloc o3).alloc o4).heap[w.heap.size+1]?=N o2∧((((w.alloc o1).alloc o2).alloc o3).alloc o4).heap[w.heap.size+2]?=N o3∧((((w.alloc o1).alloc o2).alloc o3).alloc o4).heap[w.heap.size+3]?=N o4∧Below w.heap.size w ((((w.alloc o1).alloc o2).alloc o3).alloc o4):=
 ⟨Ad (Ad (Ad (Ab _ _) _) _) _,Ad (Ad (Cc _ _ _) _) _,Ad (Fi _ _ _ _) _,A33 _ _ _ _ _,A5f _ _ _ _ _⟩
theorem A34 {W V}{g}{t0 t1 t2 t3}{a0 a1 p0 p1 p2 p3 p4 p5 p6 p7 q0 q1 q2 q3 q4 q5 q6 q7 z0 z1}(B0:W.heap[g]?=N (aC #[a0,a1] t0))(B1:W.heap[g+1]?=N (aC #[p0,p1,p2,p3,p4,p5,p6,p7] t1))(B2:W.heap[g+2]?=N (aC #[q0,q1,q2,q3,q4,q5,q6,q7] t2))(B3:W.heap[g+3]?=N (aC #[z0,z1] t3))(zz:Below W.heap.size W V):
  V.heap[g+3]?=N (aC #[z0,z1] t3)∧V.cell? ⟨g+3,0,Q⟩=N z0∧V.cell? ⟨g+3,1,Q⟩=N z1∧V.frozen? ⟨g+3,0,Q⟩=aO∧V.frozen? ⟨g+3,1,Q⟩=aO∧V.cell? ⟨g,0,Q⟩=N a0∧V.cell? ⟨g,1,Q⟩=N a1∧V.cell? ⟨g+1,0,Q⟩=N p0∧V.cell? ⟨g+1,1,Q⟩=N p1∧V.cell? ⟨g+1,2,Q⟩=N p2∧V.cell? ⟨g+1,3,Q⟩=N p3∧V.cell? ⟨g+1,4,Q⟩=N p4∧V.cell? ⟨g+1,5,Q⟩=N p5∧V.cell? ⟨g+1,6,Q⟩=N p6∧V.cell? ⟨g+1,7,Q⟩=N p7∧V.cell? ⟨g+2,0,Q⟩=N q0∧V.cell? ⟨g+2,1,Q⟩=N q1∧V.cell? ⟨g+2,2,Q⟩=N q2∧V.cell? ⟨g+2,3,Q⟩=N q3∧V.cell? ⟨g+2,4,Q⟩=N q4∧V.cell? ⟨g+2,5,Q⟩=N q5∧V.cell? ⟨g+2,6,Q⟩=N q6∧V.cell? ⟨g+2,7,Q⟩=N q7:=by
 obtain⟨r0,r1,r2,r3,r4⟩:=A6 B3 zz;have D0:=(zz.block _ (aF B0)).trans B0;have D1:=(zz.block _ (aF B1)).trans B1;have D2:=(zz.block _ (aF B2)).trans B2;exact⟨r0,r1,r2,r3,r4,Aa D0 rfl,Aa D0 rfl,Aa D1 rfl,Aa D1 rfl,Aa D1 rfl,Aa D1 rfl,Aa D1 rfl,Aa D1 rfl,Aa D1 rfl,Aa D1 rfl,Aa D2 rfl,Aa D2 rfl,Aa D2 rfl,Aa D2 rfl,Aa D2 rfl,Aa D2 rfl,Aa D2 rfl,Aa D2 rfl⟩
def Amb (op:Int)(v:V)(n:Int):Prop:=(op=1→good v=aJ)∧v.s.size≤bJ∧(op=2→n≤9223372036854775807)
theorem Aaf (ac col:Int)(op:Int)(aa pk pn:Int)(px ps pm:Wd)(pi:Int)(pa:Option Addr)(pl pc:Nat)(ab qk qn:Int)(qx qs qm:Wd)(qi:Int)(qa:Option Addr)(ql qc:Nat)(yes:Bool)(w:aZ)(ae:op=5∨op=6)(hp:Amb aa ⟨pk,pn,px⟩ pi)(hq:Amb ab ⟨qk,qn,qx⟩ qi):
  aQ aB 261 #[aM #[J U ac,J U col],J U op,aM #[J U aa,J U pk,J U pn,H px,H ps,H pm,J U pi,aA pa pl pc],aM #[J U ab,J U qk,J U qn,H qx,H qs,H qm,J U qi,aA qa ql qc],bK yes] w fun e w'=>e=aH (We ac col op aa ⟨pk,pn,px⟩ pi ab ⟨qk,qn,qx⟩ qi yes).val∧Below w.heap.size w w':=by
 have af:=fun W=>Xm aa ⟨pk,pn,px⟩ ps pm pi pa pl pc W
 have ag:=fun W=>Xm ab ⟨qk,qn,qx⟩ qs qm qi qa ql qc W
 have ah:=fun W=>Yz ac col aa ⟨pk,pn,px⟩ ps pm pi pa pl pc W hp.2.2
 have ai:=fun W=>Yz ac col ab ⟨qk,qn,qx⟩ qs qm qi qa ql qc W hq.2.2
 have D:Mr aa pk=aJ∨Mr aa pk=aO∧(Mr ab qk=aJ∨Mr ab qk=aO∧(op=5∨op=6)∧(isC ac col aa pi=aJ∧aa=2∧(ab=1∨ab≠1)∨isC ac col aa pi=aO∧(aa=1∧(isC ac col ab qi=aJ∨isC ac col ab qi=aO)∨aa≠1))):=by
  have:=@A32 ac col aa pi;grind
 clear ae;rcases D with n1|⟨n1,n2|⟨n2,rfl|rfl,⟨i1,rfl,rfl|q1⟩|⟨i1,⟨rfl,i2|i2⟩|p1⟩⟩⟩
 all_goals
  generalize hS:We _ _ _ _ _ _ _ _ _ _=S;simp_all only[We,Bool.or_true,Bool.true_or,Bool.or_self,if_true,if_false,decide_true,decide_false,Bool.and_true,Bool.and_false,Bool.true_and,Bool.false_and,aV,reduceCtorEq,ne_eq,not_false_eq_true,Int.reduceEq,Bool.and_self];subst hS;obtain⟨B0,B1,B2,B3,ad⟩:=A5g w (aC #[J U ac,J U col] 258) (aC (Af _ ⟨pk,pn,px⟩ ps pm pi (aA pa pl pc)) 48) (aC (Af _ ⟨qk,qn,qx⟩ qs qm qi (aA qa ql qc)) 48) (aC #[H noW,H noW] 238);generalize hW:(((w.alloc _).alloc _).alloc _).alloc _=W at B0 B1 B2 B3 ad;have HW:Hid _:=hW;clear hW;have zz:=aD W.heap.size W;obtain⟨r0,r1,r2,r3,r4,c0,c1,e0,e1,e2,e3,e4,e5,e6,e7,g0,g1,g2,g3,g4,g5,g6,g7⟩:=A34 B0 B1 B2 B3 zz;go_enter Tryz.func261,Tryz.ntmps261;go_upto_region 1 with fail;rw[HW.out];go_wp2_with((first|go_fit(af _)|go_fit(ag _)|go_fit(ah _)|go_fit(ai _)|go_fit(Al9 ⟨qk,qn,qx⟩ yes _ (hq.1 rfl) hq.2.1)|go_fit(Al9 ⟨pk,pn,px⟩ yes _ (hp.1 rfl) hp.2.1)|go_fit(Avw ⟨qk,qn,qx⟩ yes _ (hq.1 rfl) hq.2.1).1|go_fit(Avw ⟨pk,pn,px⟩ yes _ (hp.1 rfl) hp.2.1).2|go_fit(Wf _));rintro e w1 ⟨rfl,aj⟩;(try simp only[Sp.val]);have zz:=Ac zz aj;obtain⟨r0,r1,r2,r3,r4,c0,c1,e0,e1,e2,e3,e4,e5,e6,e7,g0,g1,g2,g3,g4,g5,g6,g7⟩:=A34 B0 B1 B2 B3 zz);exact Gb _ _ Tryz.results261 rfl rfl r0 (Ac ad zz) (by omega) aK (by rfl)
def Bu (at' col:Int):Nat→E→Bool→Sp
 |0,_,_=>Lf noW
 |d+1,.mk op _ _ _ _ l,yes=>
  if op=9 then(match l with|a::_=>Bu at' col d a (!yes)|[]=>Lf noW)
  else if op=7∨op=8 then(match l with|a::b::_=>(if yes=decide (op=7)then(Bu at' col d a yes).both (Bu at' col d b yes)else(Bu at' col d a yes).either (Bu at' col d b yes))|_=>Lf noW)
  else if op=10 then(match l with|a::_=>isS at' col a.opI a.nI yes|[]=>Lf noW)
  else if op=5∨op=6 then(match l with|a::b::_=>We at' col op a.opI a.vV a.nI b.opI b.vV b.nI yes|_=>Lf noW)
  else if op=1 then noS else Lf noW
def Ti (V wx:aZ)(pa pb:Nat)(l1 h1 l2 h2:Wd):Prop:=
 wx.heap[pa]?=N (aC #[H l1,H h1] 238)∧wx.heap[pb]?=N (aC #[H l2,H h2] 238)∧Below V.heap.size V wx
theorem Lt {w:aZ}{g}{p q a b}{t}(h:w.heap[g]?=N (aC #[p,q] t)):((w.setCell ⟨g,0,Q⟩ a).setCell ⟨g,1,Q⟩ b).heap[g]?=N (aC #[a,b] t):=by
 rw[upd (upd h 0 a) 1 b];rfl
theorem E5 {w:aZ}{g b}{x}{a c}(h:w.heap[b]?=N x)(hn:b≠g):((w.setCell ⟨g,0,Q⟩ a).setCell ⟨g,1,Q⟩ c).heap[b]?=N x:=by
 simp only[World.setCell,Array.getElem?_modify];grind
theorem Avx (w:aZ)(g)(a c):((w.setCell ⟨g,0,Q⟩ a).setCell ⟨g,1,Q⟩ c).heap.size=w.heap.size:=by simp
theorem Avy {V w2}{l1 h1 l2 h2:Wd}(hz:Below V.heap.size V w2):Ti V ((w2.alloc (aC #[H l1,H h1] 238)).alloc (aC #[H l2,H h2] 238)) w2.heap.size (w2.heap.size+1) l1 h1 l2 h2:=
 ⟨Ad (Ab _ _) _,Al (A7 _ _) _,Am (Am hz _) _⟩
theorem A15 {V w2}{l1 h1 l2 h2:Wd}(hz:Below V.heap.size V w2):Ti V ((w2.alloc (aC #[H l2,H h2] 238)).alloc (aC #[H l1,H h1] 238)) (w2.heap.size+1) w2.heap.size l1 h1 l2 h2:=by
 obtain⟨a,b,e⟩:=Avy (l1:=l2) (h1:=h2) (l2:=l1) (h2:=h1) hz;exact⟨b,a,e⟩
theorem U3 {V w2}{l1 h1 l2 h2:Wd}{g}(hz:Below V.heap.size V w2)(p:w2.heap[g]?=N (aC #[H noW,H noW] 238))(hg:V.heap.size≤g):
  Ti V (((w2.setCell ⟨g,0,Q⟩ (H l1)).setCell ⟨g,1,Q⟩ (H h1)).alloc (aC #[H l2,H h2] 238)) g w2.heap.size l1 h1 l2 h2:=
 ⟨Ad (Lt p) _,Al (Avx _ _ _ _) _,Am (Hp (Hp hz hg _) hg _) _⟩
theorem Wg {V w2}{l1 h1 l2 h2:Wd}{g}(hz:Below V.heap.size V w2)(p:w2.heap[g]?=N (aC #[H noW,H noW] 238))(hg:V.heap.size≤g):
  Ti V (((w2.setCell ⟨g,0,Q⟩ (H l2)).setCell ⟨g,1,Q⟩ (H h2)).alloc (aC #[H l1,H h1] 238)) w2.heap.size g l1 h1 l2 h2:=by
 obtain⟨a,b,e⟩:=U3 (l1:=l2) (h1:=h2) (l2:=l1) (h2:=h1) hz p hg;exact⟨b,a,e⟩
theorem Sj {V w2}{l1 h1 l2 h2:Wd}{g}(hz:Below V.heap.size V w2)(p:w2.heap[g]?=N (aC #[H noW,H noW] 238))(hg:V.heap.size≤g):
  Ti V (((w2.alloc (aC #[H l2,H h2] 238)).setCell ⟨g,0,Q⟩ (H l1)).setCell ⟨g,1,Q⟩ (H h1)) g w2.heap.size l1 h1 l2 h2:=
 ⟨Lt (Ad p _),E5 (Ab _ _) (by grind),Hp (Hp (Am hz _) hg _) hg _⟩
theorem Tj {V w2}{l1 h1 l2 h2:Wd}{g}(hz:Below V.heap.size V w2)(p:w2.heap[g]?=N (aC #[H noW,H noW] 238))(hg:V.heap.size≤g):
  Ti V (((w2.alloc (aC #[H l1,H h1] 238)).setCell ⟨g,0,Q⟩ (H l2)).setCell ⟨g,1,Q⟩ (H h2)) w2.heap.size g l1 h1 l2 h2:=by
 obtain⟨a,b,e⟩:=Sj (l1:=l2) (h1:=h2) (l2:=l1) (h2:=h1) hz p hg;exact⟨b,a,e⟩
theorem Il {V w2}{l1 h1 l2 h2:Wd}{g g'}(hz:Below V.heap.size V w2)(p:w2.heap[g]?=N (aC #[H noW,H noW] 238))(p':w2.heap[g']?=N (aC #[H noW,H noW] 238))(hg:V.heap.size≤g)(aa:V.heap.size≤g')(ab:g≠g'):
  Ti V ((((w2.setCell ⟨g,0,Q⟩ (H l1)).setCell ⟨g,1,Q⟩ (H h1)).setCell ⟨g',0,Q⟩ (H l2)).setCell ⟨g',1,Q⟩ (H h2)) g g' l1 h1 l2 h2:=
 ⟨E5 (Lt p) ab,Lt (E5 p' (Ne.symm ab)),Hp (Hp (Hp (Hp hz hg _) hg _) aa _) aa _⟩
def Wh (a b:Int):Int:=if a=0∨b=0 then 0 else if a=1∧b=1 then 1 else 2
def tOr (a b:Int):Int:=if a=1∨b=1 then 1 else if a=0∧b=0 then 0 else 2
def Y0 (a:Int):Int:=if a=0 then 1 else if a=1 then 0 else 2
theorem A16 (a b)(w):aQ aB 357 #[J U a,J U b] w fun e w'=>e=aH (J U (Wh a b))∧w'=w:=by
 by_cases aa:a=0<;>by_cases ab:b=0<;>by_cases ac:a=1<;>by_cases ad:b=1
 all_goals
  go_enter Tryz.func357,Tryz.ntmps357;go_wp2
  all_goals
   go_ret;exact⟨Av (by simp_all [Wh]),rfl⟩
theorem A35 (a b)(w):aQ aB 358 #[J U a,J U b] w fun e w'=>e=aH (J U (tOr a b))∧w'=w:=by
 by_cases aa:a=0<;>by_cases ab:b=0<;>by_cases ac:a=1<;>by_cases ad:b=1
 all_goals
  go_enter Tryz.func358,Tryz.ntmps358;go_wp2
  all_goals
   go_ret;exact⟨Av (by simp_all [tOr]),rfl⟩
theorem A17 (a)(w):aQ aB 355 #[J U a] w fun e w'=>e=aH (J U (Y0 a))∧w'=w:=by
 by_cases aa:a=0<;>by_cases ab:a=1
 all_goals
  go_enter Tryz.func355,Tryz.ntmps355;go_wp2
  all_goals
   go_ret;exact⟨Av (by simp_all [Y0]),rfl⟩
end
section
def L5 (op:Int):Nat:=if op=9∨op=10 then 1 else if 3≤op∧op≤8 then 2 else 0
theorem A18 (op):L5 op≤2:=by
 unfold L5;grind
def Ea (op:Int)(l:List E):List E:=if l.length=L5 op then l else[]
def E.kids:E→List E
 |.mk op _ _ _ _ l=>Ea op l
theorem Aq0 (e:E):e.kids.length≤2:=by
 cases e with
 |mk op v s name n l=>
  simp only[E.kids,Ea];split
  ·rename_i h;rw[h];exact A18 op
  simp
def ofV (v:V):Int:=if v.k=3 then v.n%2 else 2
def Fv (n:Int):V:=if n=0∨n=1 then⟨3,n,noW⟩else zero
def whV (b:Bool):V:=⟨3,if b then 1 else 0,noW⟩
def Qi (n:Int):V:=if good ⟨1,n,noW⟩then⟨1,n,noW⟩else zero
def Ms (row:List V)(n:Int):V:=if 0≤n then(row[n.toNat]?).getD zero else zero
def Jf (op:Int)(x:V)(n:Int)(row:List V):V:=if op=1 then x else if op=2 then Ms row n else zero
def Mt (op:Int)(a:V):V:=if op=9 then Fv (Y0 (ofV a))else if op=10 then whV (decide (a.k=0))else zero
def Hg (v:V):Bool:=!decide (v.k=0)&&good v
def knV (op:Int)(a b:V):V:=
 if op=5 then whV (decide (Bt a b=0))else if op=6 then whV (decide (Bt a b<0))else if a.k=1 then(if op=3 then Qi (a.n+b.n)else if op=4 then Qi (a.n-b.n)else zero)else zero
def Hs (op:Int)(a b:V):V:=
 if op=7 then Fv (Wh (ofV a) (ofV b))else if op=8 then Fv (tOr (ofV a) (ofV b))else if Hg a=aJ∧Hg b=aJ∧a.k=b.k then knV op a b else zero
def Acb (op:Int)(x:V)(n:Int)(cs row:List V):V:=
 match cs with
 |[a]=>Mt op a
 |[a,b]=>Hs op a b
 |_=>Jf op x n row
mutual
def ev (row:List V):E→V
 |.mk op x _ _ n l=>Acb op x n (if l.length=L5 op then evs row l else[]) row
def evs (row:List V):List E→List V
 |[]=>[]
 |e::l=>ev row e::evs row l
end
theorem Aq1 (row):∀l:List E,evs row l=l.map (ev row)
 |[]=>by rfl
 |e::l=>by rw[evs,Aq1 row l];rfl
theorem Pe (row)(op)(x)(s name)(n)(l):ev row (.mk op x s name n l)=Acb op x n ((Ea op l).map (ev row)) row:=by
 rw[ev,Ea];split
 ·rw[Aq1]
 rfl
mutual
def E.nodes:E→Nat
 |.mk _ _ _ _ _ l=>Ev l+1
def Ev:List E→Nat
 |[]=>0
 |e::l=>e.nodes+Ev l
end
theorem Xn:∀a b:List E,Ev (a++b)=Ev a+Ev b
 |[],b=>by simp[Ev]
 |e::a,b=>by simp[Ev,Xn a b];omega
theorem Avz (e:E):0<e.nodes:=by cases e;simp[E.nodes]
theorem Aeg:∀l:List E,l.length≤Ev l
 |[]=>by simp
 |e::l=>by have:=Aeg l;have:=Avz e;simp[Ev];omega
theorem Aeh (e:E):Ev e.kids+1≤e.nodes:=by
 cases e with
 |mk op v s name n l=>
  simp only[E.kids,Ea,E.nodes];split
  ·simp
  ·simp[Ev]
structure Queue (e:E) (L:List E) (i:Nat):Prop where
 eq:L=e::(L.take i).flatMap E.kids
 le:i≤L.length
 few:i+Ev (L.drop i)≤e.nodes
 ahead:∀j,j<i→j<1+((L.take j).flatMap E.kids).length
 all:∀P:E→Prop,P e→(∀y,P y→∀z∈y.kids,P z)→∀x∈L,P x
theorem Apb (e):Queue e [e] 0:=⟨rfl,by simp,by simp[Ev],fun j h=>absurd h (by omega),fun P h _ x hx=>by simp at hx;subst hx;exact h⟩
theorem Queue.len {e}{L}{i}(h:Queue e L i):L.length≤e.nodes:=by
 have:=Aeg (L.drop i);have:=h.few;grind
theorem Queue.step {e}{L}{i}(h:Queue e L i){x}(hx:L[i]?=N x):Queue e (L++x.kids) (i+1):=by
 have hi:=by rw[cC]at hx;exact hx.1
 have ht:(L++x.kids).take (i+1)=L.take i++[x]:=by
  rw[dA (by omega),cD,hx];rfl
 have hd:L.drop i=x::L.drop (i+1):=by
  rw[dI hi];rw[aI hi]at hx;simp at hx;rw[hx]
 refine⟨?_,by grind,?_,fun j hj=>?_,fun P h1 h2 y hy=>?_⟩
 ·rw[ht,eH]
  conv=>lhs;rw[h.eq]
  simp
 ·have h1:=h.few;have h2:=Aeh x;rw[hd]at h1;rw[List.drop_append_of_le_length (by omega),Xn];simp only[Ev]at h1;omega
 ·rw[dA (by omega)];rcases Nat.lt_or_eq_of_le (Nat.lt_succ_iff.mp hj)with h1|h1
  ·exact h.ahead j h1
  ·subst h1;have:L.length=1+((L.take j).flatMap E.kids).length:=by
    conv=>lhs;rw[h.eq]
    simp;omega
   omega
 ·rcases List.mem_append.1 hy with hy|hy
  ·exact h.all P h1 h2 y hy
  ·exact h2 x (h.all P h1 h2 x (aY hx)) y hy
def beg (L:List E)(i:Nat):Nat:=1+((L.take i).flatMap E.kids).length
theorem Azi {L}{i}{x}(hx:L[i]?=N x):beg L (i+1)=beg L i+x.kids.length:=by
 unfold beg;rw[cD,hx,eH];grind
theorem Queue.whole {e}{L}(h:Queue e L L.length):beg L L.length=L.length:=by
 unfold beg
 conv=>rhs;rw[h.eq]
 grind
theorem Queue.own {e}{L}(h:Queue e L L.length){i}{x}(hx:L[i]?=N x):(L.drop (beg L i)).take x.kids.length=x.kids:=by
 have hi:=by rw[cC]at hx;exact hx.1
 have hL:=h.eq;rw[bB]at hL;have hd:L.drop i=x::L.drop (i+1):=by
  rw[dI hi];rw[aI hi]at hx;simp at hx;rw[hx]
 have aa:L.flatMap E.kids=(L.take i).flatMap E.kids++(x.kids++(L.drop (i+1)).flatMap E.kids):=by
  conv=>lhs;rw[←cP i L,hd]
  simp
 conv=>lhs;rw[hL]
 rw[show beg _ i=((L.take i).flatMap E.kids).length+1 from by
  unfold beg;grind]
 grind
theorem Queue.behind {e}{L}(h:Queue e L L.length){i}(hi:i<L.length):i<beg L i:=h.ahead i hi
theorem Queue.at {e}{L}(h:Queue e L L.length){i}{x}(hx:L[i]?=N x){j}{y}(hy:x.kids[j]?=N y):L[beg L i+j]?=N y:=by
 rw[←h.own hx,List.getElem?_take]at hy;grind
theorem Queue.beg_le {e}{L}(h:Queue e L L.length)(i):beg L i≤L.length:=by
 rw[←h.whole];unfold beg;rw[bB]
 conv=>rhs;rw[←cP i L]
 grind
theorem Queue.first {e}{L}{i}(h:Queue e L i):L[0]?=N e:=by rw[h.eq];rfl
end
section
open Go.RowKit
def Mu (s:Sp)(k:List UInt8):Prop:=aE k s.lo.data.toList=aO∧aE k s.hi.data.toList=aJ
def okT (T:List UInt8):Prop:=aE T [255]=aJ
theorem Qa (l):aE l []=aO:=by cases l<;>rfl
theorem Rt {v}(h:good v=aJ):(kb v).data.toList=keyOf v:=by unfold kb;rw[Bs,Rk h]
theorem Ja (a b:Wd):(a++b).data.toList=a.data.toList++b.data.toList:=by rfl
theorem Agd:ffW.data.toList=[255]:=rfl
theorem Azj (a:Wd):(a.extract 0 1).data.toList=a.data.toList.take 1:=by simp
theorem Aa8 {v}(hg:good v=aJ)(T)(hT:okT T):∃t,keyOf v=bN (v.k.toNat+1)::t∧aE (t++T) [255]=aJ:=by
 rcases G0 hg with h|h|h
 ·refine⟨[],by rw[Ew h,h];rfl,by assumption⟩
 ·refine⟨_,by rw[Fy h,h];rfl,?_⟩;have hn:=Vd h hg;have h1:bN ((v.n+1073741824).toNat/16777216)<255:=A4r (b:=255) (by omega) (by simp) (by omega);simp only[be4,bC];exact G8 h1 _ _
 ·refine⟨_,by rw[Hi h,h];rfl,?_⟩;cases hs:v.s.data.toList with
  |nil=>rfl
  |cons c l=>
   have hc:c<255:=by
    have aa:Lj v.s.data.toList=aJ:=by
     unfold good at hg;rw[if_neg (by omega),if_neg (by omega),if_pos h]at hg;simp only[aG]at hg;exact hg.2
    rw[hs]at aa;simp only[Lj,List.all_cons,aG,Qm,decide_eq_true_eq]at aa;have:=aa.1.1.2;rw[dV];show c.toNat<255;omega
   exact G8 hc _ _
theorem Aei {v}(hg:good v=aJ){T}(hT:okT T):Mu (Lf noW) (keyOf v++T):=by
 obtain⟨t,ht,_⟩:=Aa8 hg T hT;refine⟨Qa _,?_⟩;show aE _ ((noW++ffW:Wd).data.toList)=aJ;rw[Ja,Agd,ht];rcases G0 hg with h|h|h<;>rw[h]<;>exact G8 (by simp) _ _
theorem Aq2 {s o}{k}(h:Mu s k)(g:Mu o k):Mu (s.both o) k:=by
 refine⟨?_,?_⟩
 ·show aE k (L0 _ _).data.toList=aO;unfold L0;split
  ·exact g.1
  ·exact h.1
 ·show aE k (L4 _ _).data.toList=aJ;unfold L4;split
  ·exact g.2
  ·exact h.2
theorem A19 {a b c}(h:aE b a=aO)(k:aE b c=aJ):aE a c=aJ:=by
 have:=Xq (a:=str a) (b:=str b) (c:=str c) (by rw[Cx,Bs,Bs];omega) (by rw[Cx,Bs,Bs];omega);rwa[Cx,Bs,Bs]at this
theorem Aa9 {s}{k}(h:Mu s k):s.empty=aO:=by
 unfold Sp.empty;rw[Cx,A19 h.1 h.2];rfl
theorem Ahx {s o}{k}(h:Mu s k∨Mu o k):Mu (s.either o) k:=by
 unfold Sp.either;split
 ·rename_i he;rcases h with h|h
  ·rw[Aa9 h]at he;grind
  omega
 ·split
  ·rename_i he;rcases h with h|h
   ·omega
   ·rw[Aa9 h]at he;grind
  ·have aa:∀a b,(aE k a.data.toList=aO∨aE k b.data.toList=aO)→aE k (L4 a b).data.toList=aO:=by
    intro a b hh;unfold L4;split
    ·rename_i hl;rcases hh with hh|hh
     ·cases hq:aE k _ with
      |false=>rfl
      |true=>
       rw[Cx]at hl;have h1:=Co (b:=b) (by rw[Cx,Bs];omega) (by rw[Cx];omega);rw[Cx,Bs,hh]at h1;grind
     omega
    ·rename_i hl;rcases hh with hh|hh
     ·omega
     ·cases hq:aE k _ with
      |false=>rfl
      |true=>
       have ab:=by simpa using hl
       have h1:=Rv (by rw[Cx,Bs];omega) ab;rw[Cx,Bs,hh]at h1;grind
   have ac:∀a b,(aE k a.data.toList=aJ∨aE k b.data.toList=aJ)→aE k (L0 a b).data.toList=aJ:=by
    intro a b hh;unfold L0;split
    ·rename_i hl;rcases hh with hh|hh
     ·have h1:=Co (by rw[Cx,Bs];omega) hl;rw[Cx,Bs]at h1;omega
     omega
    ·rename_i hl;rcases hh with hh|hh
     ·omega
     ·have h1:klt _ a=aJ:=Rv (b:=b) (by rw[Cx,Bs];omega) (by grind);rw[Cx,Bs]at h1;omega
   exact⟨aa _ _ (h.imp (·.1) (·.1)),ac _ _ (h.imp (·.2) (·.2))⟩
theorem A2a {u}(hu:good u=aJ):(skS u).lo.data.toList=[bN (u.k.toNat+1)]∧(skS u).hi.data.toList=[bN (u.k.toNat+1),255]:=by
 obtain⟨t,ht⟩:=Ln hu;have h1:((kb u).extract 0 1).data.toList=[bN (u.k.toNat+1)]:=by rw[Azj,Rt hu,ht];rfl
 refine⟨h1,?_⟩;show(((kb u).extract 0 1)++ffW).data.toList=_;rw[Ja,h1,Agd];rfl
theorem Age {v u}(hv:good v=aJ)(hu:good u=aJ)(hk:v.k=u.k){T}(hT:okT T):aE (keyOf v++T) (skS u).lo.data.toList=aO∧aE (keyOf v++T) (skS u).hi.data.toList=aJ:=by
 obtain⟨t,ht,aa⟩:=Aa8 hv T hT;obtain⟨e1,e2⟩:=A2a hu;rw[e1,e2,ht,hk];refine⟨?_,?_⟩
 ·have:=Dz [bN (u.k.toNat+1)] (t++T) [];rw[Qa]at this;grind
 ·have:=Dz [bN (u.k.toNat+1)] (t++T) [255];grind
theorem Qb {u}(hu:good u=aJ):(kb u++ffW).data.toList=keyOf u++[255]:=by rw[Ja,Rt hu,Agd]
theorem Aq3 {v u}(hv:good v=aJ)(hu:good u=aJ)(hk:v.k=u.k){T}(hT:okT T)(yes)(h:yes=aJ→Bt v u=0):Mu (Wb u yes) (keyOf v++T):=by
 cases yes
 ·exact Age hv hu hk hT
 ·have h0:=h rfl;rcases Im v u hv hu with⟨e,_⟩|⟨_,e⟩|⟨e,_⟩
  ·omega
  ·refine⟨?_,?_⟩
   ·show aE _ (kb u).data.toList=aO;rw[Rt hu,e];have:=Dz (keyOf u) T [];rw[Qa,bA]at this;omega
   ·show aE _ (kb u++ffW).data.toList=aJ;rw[Qb hu,e,Dz];exact hT
  omega
theorem Azk {v u}(hv:good v=aJ)(hu:good u=aJ)(hk:v.k=u.k){T}(hT:okT T)(yes:Bool)(h:if yes then Bt v u<0 else¬Bt v u<0):Mu (U2 u yes) (keyOf v++T):=by
 obtain⟨k1,k2⟩:=Age hv hu hk hT;cases yes
 ·simp only[aV,if_false]at h;refine⟨?_,k2⟩;show aE _ (kb u).data.toList=aO;rw[Rt hu];rcases Im v u hv hu with⟨e,_⟩|⟨_,e⟩|⟨_,e⟩
  ·omega
  ·rw[e];have:=Dz (keyOf u) T [];rw[Qa,bA]at this;omega
  ·have:=e T [];rw[bA]at this;exact Lm _ _ this
 ·simp only[if_true]at h;refine⟨k1,?_⟩;show aE _ (kb u).data.toList=aJ;rw[Rt hu];rcases Im v u hv hu with⟨_,e⟩|⟨e,_⟩|⟨e,_⟩
  ·have:=e T [];grind
  ·omega
  omega
theorem Av0 {v u}(hv:good v=aJ)(hu:good u=aJ)(hk:v.k=u.k){T}(hT:okT T)(yes:Bool)(h:if yes then Bt u v<0 else¬Bt u v<0):Mu (Rs u yes) (keyOf v++T):=by
 obtain⟨k1,k2⟩:=Age hv hu hk hT;cases yes
 ·simp only[aV,if_false]at h;refine⟨k1,?_⟩;show aE _ (kb u++ffW).data.toList=aJ;rw[Qb hu];rcases Im u v hu hv with⟨e,_⟩|⟨_,e⟩|⟨_,e⟩
  ·omega
  ·rw[←e,Dz];exact hT
  grind
 ·simp only[if_true]at h;refine⟨?_,k2⟩;show aE _ (kb u++ffW).data.toList=aO;rw[Qb hu];rcases Im u v hu hv with⟨_,e⟩|⟨e,_⟩|⟨e,_⟩
  ·exact Lm _ _ (e _ _)
  ·omega
  omega
theorem Asy:good zero=aJ:=by rfl
theorem A41 {at' col op n}{v}(hv:good v=aJ){T}(hT:okT T)(yes)(h:isC at' col op n=aJ→(decide (v.k=0)=yes)):Mu (isS at' col op n yes) (keyOf v++T):=by
 unfold isS;cases hc:isC at' col op n with
 |false=>exact Aei hv hT
 |true=>
  have h1:=h hc;simp only[if_true];have hz:keyOf zero=[1]:=Ew rfl;cases yes
  ·simp only[aV,if_false];have hk:v.k≠0:=by simpa using h1
   refine⟨?_,(Aei hv hT).2⟩;show aE _ (kb zero++ffW).data.toList=aO;rw[Qb Asy,hz];obtain⟨t,ht⟩:=Ln hv;refine Lm _ _ ?_;rw[ht];rcases G0 hv with q|q|q
   ·omega
   ·rw[q];rfl
   ·rw[q];rfl
  ·simp only[if_true];have hk:=by simpa using h1
   refine⟨?_,?_⟩
   ·show aE _ (kb zero).data.toList=aO;rw[Rt Asy,hz,Ew hk];have:=Dz [1] T [];rw[Qa]at this;grind
   ·show aE _ (kb zero++ffW).data.toList=aJ;rw[Qb Asy,hz,Ew hk];assumption
theorem A1g (b):ofV (whV b)=if b then 1 else 0:=by cases b<;>rfl
theorem Amc (n):ofV (Fv n)=if n=0 then 0 else if n=1 then 1 else 2:=by
 unfold Fv
 by_cases h0:n=0
 ·subst h0;rfl
 ·by_cases h1:n=1
  ·subst h1;rfl
  ·rw[if_neg (by omega),if_neg h0,if_neg h1];rfl
theorem A2b {v}(h:good v=aJ):ofV v=2:=by
 unfold ofV;rcases G0 h with q|q|q<;>rw[if_neg (by omega)]
theorem Av1 (row)(op)(x)(s name)(n)(a b)(h:L5 op=2):ev row (.mk op x s name n [a,b])=Hs op (ev row a) (ev row b):=by
 rw[Pe,Ea,if_pos (by grind)];rfl
theorem Av2 (row)(op)(x)(s name)(n)(a)(h:L5 op=1):ev row (.mk op x s name n [a])=Mt op (ev row a):=by
 rw[Pe,Ea,if_pos (by grind)];rfl
theorem A2c (row)(op)(x)(s name)(n)(h:L5 op=0):ev row (.mk op x s name n [])=Jf op x n row:=by
 rw[Pe,Ea,if_pos (by grind)];rfl
theorem Ru {d}{op}{x}{s name}{n}{l}(h:geB (d+1) (.mk op x s name n l)=aJ):(l.length:Int)=Gk op∧Q4 op x s name=aJ∧∀a∈l,geB d a=aJ:=by
 simp only[geB,aG,decide_eq_true_eq,cZ]at h;grind
theorem Amd {d}{e}(h:geB d e=aJ):(∃d',d=d'+1)∧(e.opI=1→good e.vV=aJ):=by
 obtain⟨op,x,s,name,n,l⟩:=e;cases d with
 |zero=>simp[geB]at h
 |succ d=>
  refine⟨⟨d,rfl⟩,fun h1=>?_⟩;obtain⟨_,h2,_⟩:=Ru h;have aa:op=1:=h1;subst aa;assumption
theorem Sk {row}{d}{e}(h:geB d e=aJ)(ho:e.opI=1):ev row e=e.vV:=by
 obtain⟨op,x,s,name,n,l⟩:=e;obtain⟨⟨d,rfl⟩,_⟩:=Amd h;obtain⟨h1,_,_⟩:=Ru h;have aa:op=1:=ho;subst aa;have hl:l=[]:=bS (by have:Gk 1=0:=(by rfl);omega);subst hl;rfl
theorem Y1 {row}{d}{e}{at' col}(h:geB d e=aJ)(hc:isC at' col e.opI e.nI=aJ):ev row e=Ms row (at'+col):=by
 obtain⟨op,x,s,name,n,l⟩:=e;obtain⟨⟨d,rfl⟩,_⟩:=Amd h;obtain⟨h1,_,_⟩:=Ru h;have aa:isC at' col op n=aJ:=hc;unfold isC at aa;rw[aG,aG,aG,decide_eq_true_eq,decide_eq_true_eq,decide_eq_true_eq,decide_eq_true_eq]at aa;obtain⟨⟨⟨rfl,q1⟩,q2⟩,q3⟩:=aa;have hl:l=[]:=bS (by have:Gk 2=0:=(by rfl);omega);subst hl;rw[A2c _ _ _ _ _ _ (by rfl),show at'+col=n by omega];rfl
theorem A36 {l:List E}(h:l.length=1):∃a,l=[a]:=cN.1 h
theorem A37:∀{l:List E},l.length=2→∃a b,l=[a,b]
 |[a,b],_=>⟨a,b,rfl⟩
theorem Aej {n}(h:ofV (Fv n)=1):n=1:=by
 rw[Amc]at h;omega
theorem Aek {n}(h:ofV (Fv n)=0):n=0:=by
 rw[Amc]at h;omega
theorem A5h {p}(h:Y0 p=1):p=0:=by
 unfold Y0 at h;omega
theorem A5i {p}(h:Y0 p=0):p=1:=by
 unfold Y0 at h;omega
theorem A38 {p q}(h:Wh p q=1):p=1∧q=1:=by
 unfold Wh at h;omega
theorem A5j {p q}(h:Wh p q=0):p=0∨q=0:=by
 unfold Wh at h;omega
theorem or1 {p q}(h:tOr p q=1):p=1∨q=1:=by
 unfold tOr at h;omega
theorem or0 {p q}(h:tOr p q=0):p=0∧q=0:=by
 unfold tOr at h;omega
theorem wh1 {b}(h:ofV (whV b)=1):b=aJ:=by cases b<;>simp_all [A1g]
theorem wh0 {b}(h:ofV (whV b)=0):b=aO:=by cases b<;>simp_all [A1g]
theorem A2d:ofV zero=2:=rfl
theorem A2e {op}(aa:op=5∨op=6){a b}{yes:Bool}(h:ofV (Hs op a b)=(if yes then 1 else 0)):a.k≠0∧b.k≠0∧good a=aJ∧good b=aJ∧a.k=b.k∧(if op=5 then decide (Bt a b=0)else decide (Bt a b<0))=yes:=by
 have h2:Hs op a b=if Hg a=aJ∧Hg b=aJ∧a.k=b.k then knV op a b else zero:=by
  unfold Hs;rw[if_neg (by omega),if_neg (by omega)]
 rw[h2]at h;split at h
 ·rename_i hh;obtain⟨h3,h4,h5⟩:=hh;simp only[Hg,aG,cV,decide_eq_false_iff_not]at h3 h4;refine⟨h3.1,h4.1,h3.2,h4.2,h5,?_⟩;rcases aa with rfl|rfl
  ·have e:knV 5 a b=whV _:=rfl;rw[e]at h;rw[if_pos rfl];cases yes
   ·exact wh0 (by grind)
   ·exact wh1 (by grind)
  ·have e:knV 6 a b=whV _:=rfl;rw[e]at h;rw[if_neg (by simp)];cases yes
   ·exact wh0 (by grind)
   ·exact wh1 (by grind)
 ·rw[A2d]at h;omega
theorem Av3 (at' col)(row)(T)(hT:okT T)(hv:good (Ms row (at'+col))=aJ){op}(aa:op=5∨op=6){d}{a b}(ha:geB d a=aJ)(hb:geB d b=aJ)(yes:Bool)
  (h:ofV (Hs op (ev row a) (ev row b))=(if yes then 1 else 0)):Mu (We at' col op a.opI a.vV a.nI b.opI b.vV b.nI yes) (keyOf (Ms row (at'+col))++T):=by
 obtain⟨k1,k2,g1,g2,k3,hc⟩:=A2e aa h;have na:Mr a.opI a.vV.k=aO:=by
  cases hq:Mr a.opI a.vV.k with
  |false=>rfl
  |true=>
   unfold Mr at hq;rw[aG,decide_eq_true_eq,decide_eq_true_eq]at hq;rw[Sk ha hq.1]at k1;omega
 have nb:Mr b.opI b.vV.k=aO:=by
  cases hq:Mr b.opI b.vV.k with
  |false=>rfl
  |true=>
   unfold Mr at hq;rw[aG,decide_eq_true_eq,decide_eq_true_eq]at hq;rw[Sk hb hq.1]at k2;omega
 unfold We;rw[na,nb];rw[if_neg (by simp)];split
 ·rename_i hh;rw[aG,aG,decide_eq_true_eq,decide_eq_true_eq]at hh;obtain⟨⟨rfl,h2⟩,h3⟩:=hh;have ea:=Y1 (row:=row) ha h2;have eb:=Sk (row:=row) hb h3;rw[ea,eb]at k3 hc;rw[eb]at g2;refine Aq3 hv g2 k3 hT yes fun hy=>?_
  grind
 split
 ·rename_i hh;rw[aG,aG,decide_eq_true_eq,decide_eq_true_eq]at hh;obtain⟨⟨rfl,h2⟩,h3⟩:=hh;have ea:=Sk (row:=row) ha h2;have eb:=Y1 (row:=row) hb h3;rw[ea,eb]at k3 hc;rw[ea]at g1;refine Aq3 hv g1 k3.symm hT yes fun hy=>?_
  subst hy;have h0:=by simpa using hc
  rcases Im _ _ g1 hv with⟨e,_⟩|⟨_,e⟩|⟨e,_⟩
  ·omega
  ·rcases Im _ _ hv g1 with⟨_,q⟩|⟨q,_⟩|⟨_,q⟩
   ·have:=q [] [];rw[e,Tt]at this;grind
   ·omega
   ·have:=q [] [];rw[e,Tt]at this;grind
  omega
 split
 ·rename_i hh;rw[aG,aG,decide_eq_true_eq,decide_eq_true_eq]at hh;obtain⟨⟨rfl,h2⟩,h3⟩:=hh;have ea:=Y1 (row:=row) ha h2;have eb:=Sk (row:=row) hb h3;rw[ea,eb]at k3 hc;rw[eb]at g2;refine Azk hv g2 k3 hT yes ?_;grind
 split
 ·rename_i hh;rw[aG,aG,decide_eq_true_eq,decide_eq_true_eq]at hh;obtain⟨⟨rfl,h2⟩,h3⟩:=hh;have ea:=Sk (row:=row) ha h2;rw[ea,(Y1 (row:=row) hb h3)]at k3 hc;rw[ea]at g1;refine Av0 hv g1 k3.symm hT yes ?_;grind
 ·exact Aei hv hT
theorem Aba (ad col:Int)(row:List V)(T:List UInt8)(hT:okT T)(hv:good (Ms row (ad+col))=aJ):∀(d:Nat) (e:E) (yes:Bool),geB d e=aJ→ofV (ev row e)=(if yes then 1 else 0)→Mu (Bu ad col d e yes) (keyOf (Ms row (ad+col))++T):=by
 intro d
 induction d with
 |zero=>intro e yes h;simp[geB]at h
 |succ d ih=>
  intro e yes hg ho;obtain⟨op,x,s,name,n,l⟩:=e;obtain⟨hl,ah,hk⟩:=Ru hg;unfold Bu
  by_cases h9:op=9
  ·subst h9;obtain⟨a,rfl⟩:=A36 (l:=l) (by have:Gk 9=1:=(by decide);omega);rw[if_pos rfl];refine ih a (!yes) (hk a (by simp)) ?_;rw[Av2 _ _ _ _ _ _ _ (by decide)]at ho;have aa:ofV (Fv (Y0 (ofV (ev row a))))=if yes then 1 else 0:=ho;cases yes
   ·exact A5i (Aek aa)
   ·exact A5h (Aej aa)
  rw[if_neg h9]
  by_cases ab:op=7∨op=8
  ·rw[if_pos ab];obtain⟨a,b,rfl⟩:=A37 (l:=l) (by have h1:Gk 7=2:=(by decide);have h2:Gk 8=2:=(by decide);rcases ab with rfl|rfl<;>omega);have ae:=fun y h=>ih a y (hk a (by simp)) h
   have af:=fun y h=>ih b y (hk b (by simp)) h
   rw[Av1 _ _ _ _ _ _ _ _ (by rcases ab with rfl|rfl<;>decide)]at ho;simp only;rcases ab with rfl|rfl
   ·have aa:ofV (Fv (Wh (ofV (ev row a)) (ofV (ev row b))))=if yes then 1 else 0:=ho;cases yes
    ·rw[if_neg (by decide)];exact Ahx ((A5j (Aek aa)).imp (ae aO) (af aO))
    ·rw[if_pos (by decide)];exact Aq2 (ae aJ (A38 (Aej aa)).1) (af aJ (A38 (Aej aa)).2)
   ·have aa:ofV (Fv (tOr (ofV (ev row a)) (ofV (ev row b))))=if yes then 1 else 0:=ho;cases yes
    ·rw[if_pos (by decide)];exact Aq2 (ae aO (or0 (Aek aa)).1) (af aO (or0 (Aek aa)).2)
    ·rw[if_neg (by decide)];exact Ahx ((or1 (Aej aa)).imp (ae aJ) (af aJ))
  rw[if_neg ab]
  by_cases ag:op=10
  ·subst ag;rw[if_pos rfl];obtain⟨a,rfl⟩:=A36 (l:=l) (by have:Gk 10=1:=(by decide);omega);rw[Av2 _ _ _ _ _ _ _ (by decide)]at ho;have aa:ofV (whV (decide ((ev row a).k=0)))=if yes then 1 else 0:=ho;refine A41 hv hT yes fun hc=>?_
   rw[←Y1 (row:=row) (hk a (by simp)) hc];cases yes
   ·exact wh0 aa
   ·exact wh1 aa
  rw[if_neg ag]
  by_cases ac:op=5∨op=6
  ·rw[if_pos ac];obtain⟨a,b,rfl⟩:=A37 (l:=l) (by have h1:Gk 5=2:=(by decide);have h2:Gk 6=2:=(by decide);rcases ac with rfl|rfl<;>omega);rw[Av1 _ _ _ _ _ _ _ _ (by rcases ac with rfl|rfl<;>decide)]at ho;exact Av3 ad col row T hT hv ac (hk a (by simp)) (hk b (by simp)) yes ho
  rw[if_neg ac]
  by_cases h1:op=1
  ·subst h1;rw[if_pos rfl];rw[(Sk (row:=row) hg rfl),A2b ((Amd hg).2 rfl)]at ho;cases yes<;>simp at ho
  ·rw[if_neg h1];exact Aei hv hT
theorem Av4 (op:Int)(ho:op=7∨op=8)(af col:Int)(pk pn:Int)(px ps pm:Wd)(pi:Int)(b aa pc:Nat)(pl:Nat)(ag qk qn:Int)(qx qs qm:Wd)(qi:Int)(qa:Option Addr)(ql qc:Nat)(ah tk tn:Int)(tx ts tm:Wd)(ti:Int)(ta:Option Addr)(tl tc:Nat)(yes:Bool)(s1 s2:Sp)(w:aZ)(hl:2≤pl)(hb:b<w.heap.size)
  (h1:w.cell? ⟨b,aa,Q⟩=N (J U ag)∧w.cell? ⟨b,aa+1,Q⟩=N (J U qk)∧w.cell? ⟨b,aa+2,Q⟩=N (J U qn)∧w.cell? ⟨b,aa+3,Q⟩=N (H qx)∧w.cell? ⟨b,aa+4,Q⟩=N (H qs)∧w.cell? ⟨b,aa+5,Q⟩=N (H qm)∧w.cell? ⟨b,aa+6,Q⟩=N (J U qi)∧w.cell? ⟨b,aa+7,Q⟩=N (aA qa ql qc)) (h2:w.cell? ⟨b,aa+8,Q⟩=N (J U ah)∧w.cell? ⟨b,aa+8+1,Q⟩=N (J U tk)∧w.cell? ⟨b,aa+8+2,Q⟩=N (J U tn)∧w.cell? ⟨b,aa+8+3,Q⟩=N (H tx)∧w.cell? ⟨b,aa+8+4,Q⟩=N (H ts)∧w.cell? ⟨b,aa+8+5,Q⟩=N (H tm)∧w.cell? ⟨b,aa+8+6,Q⟩=N (J U ti)∧w.cell? ⟨b,aa+8+7,Q⟩=N (aA ta tl tc))
  (HA:∀W,Below w.heap.size w W→aQ aB 202 #[aM #[J U af,J U col],aM #[J U ag,J U qk,J U qn,H qx,H qs,H qm,J U qi,aA qa ql qc],bK yes] W fun e w'=>e=aH s1.val∧Below W.heap.size W w')
  (HB:∀W,Below w.heap.size w W→aQ aB 202 #[aM #[J U af,J U col],aM #[J U ah,J U tk,J U tn,H tx,H ts,H tm,J U ti,aA ta tl tc],bK yes] W fun e w'=>e=aH s2.val∧Below W.heap.size W w'):
  aQ aB 202 #[aM #[J U af,J U col],aM #[J U op,J U pk,J U pn,H px,H ps,H pm,J U pi,aA (N ⟨b,aa,Q⟩) pl pc],bK yes] w fun e w'=>e=aH (if yes=decide (op=7)then s1.both s2 else s1.either s2).val∧Below w.heap.size w w':=by
 have an:=fun W=>Asw s1 s2 W
 have ap:=fun W=>Ama s1 s2 W
 have l1:(1:Int)<(pl:Int):=by omega
 have n0:0<pl:=by omega
 obtain⟨ai,B0,B1,B2,-⟩:=al3 w (aC #[J U af,J U col] 258) (aC #[J U op,J U pk,J U pn,H px,H ps,H pm,J U pi,aA (N ⟨b,aa,Q⟩) pl pc] 48) (aC #[H noW,H noW] 238);generalize hW:((w.alloc (aC #[J U af,J U col] 258)).alloc (aC #[J U op,J U pk,J U pn,H px,H ps,H pm,J U pi,aA (N ⟨b,aa,Q⟩) pl pc] 48)).alloc (aC #[H noW,H noW] 238)=V at B0 B1 B2 ai;have HW:Hid _:=hW;clear hW;have bc:=Aa B1 (j:=0) (u:=J U op) rfl;have KS:Hid (∀W,Below V.heap.size V W→(W.cell? ⟨w.heap.size,0,Q⟩=N (J U af)∧W.cell? ⟨w.heap.size,1,Q⟩=N (J U col)∧W.cell? ⟨w.heap.size+1,7,Q⟩=N (aA (N ⟨b,aa,Q⟩) pl pc)∧W.cell? ⟨b,aa,Q⟩=N (J U ag)∧W.cell? ⟨b,aa+1,Q⟩=N (J U qk)∧W.cell? ⟨b,aa+2,Q⟩=N (J U qn)∧W.cell? ⟨b,aa+3,Q⟩=N (H qx)∧W.cell? ⟨b,aa+4,Q⟩=N (H qs)∧W.cell? ⟨b,aa+5,Q⟩=N (H qm)∧W.cell? ⟨b,aa+6,Q⟩=N (J U qi)∧W.cell? ⟨b,aa+7,Q⟩=N (aA qa ql qc)∧W.cell? ⟨b,aa+8,Q⟩=N (J U ah)∧W.cell? ⟨b,aa+8+1,Q⟩=N (J U tk)∧W.cell? ⟨b,aa+8+2,Q⟩=N (J U tn)∧W.cell? ⟨b,aa+8+3,Q⟩=N (H tx)∧W.cell? ⟨b,aa+8+4,Q⟩=N (H ts)∧W.cell? ⟨b,aa+8+5,Q⟩=N (H tm)∧W.cell? ⟨b,aa+8+6,Q⟩=N (J U ti)∧W.cell? ⟨b,aa+8+7,Q⟩=N (aA ta tl tc))):=fun W hW=>by
  have D0:=(hW.block _ (aF B0)).trans B0;have D1:=(hW.block _ (aF B1)).trans B1;have ay:Below w.heap.size w W:=Ac ai hW;have kc:∀o,W.cell? ⟨b,o,Q⟩=w.cell? ⟨b,o,Q⟩:=fun o=>ay.cell (p:=⟨b,o,Q⟩) hb
  obtain⟨x0,x1,x2,x3,x4,x5,x6,x7⟩:=h1;obtain⟨y0,y1,y2,y3,y4,y5,y6,y7⟩:=h2;exact⟨Aa D0 (j:=0) rfl,Aa D0 (j:=1) rfl,Aa D1 (j:=7) rfl,(kc _).trans x0,(kc _).trans x1,(kc _).trans x2,(kc _).trans x3,(kc _).trans x4,(kc _).trans x5,(kc _).trans x6,(kc _).trans x7,(kc _).trans y0,(kc _).trans y1,(kc _).trans y2,(kc _).trans y3,(kc _).trans y4,(kc _).trans y5,(kc _).trans y6,(kc _).trans y7⟩
 have ar:=fun W (hW:Below V.heap.size V W)=>HA W (Ac ai hW)
 have au:=fun W (hW:Below V.heap.size V W)=>HB W (Ac ai hW)
 have BV:Hid _:=dB B1 B2;clear HA HB h1 h2 B0;obtain⟨aj,ak⟩:=s1;obtain⟨al,am⟩:=s2;simp only[Sp.val]at ar au an ap;generalize az:(Sp.mk aj ak).both (Sp.mk al am)=bo at an⊢;generalize ba:(Sp.mk aj ak).either (Sp.mk al am)=ei at ap⊢;clear az ba;obtain⟨f9,f⟩:(op==9)=aO∧((op==7)=aJ∧decide (op=7)=aJ∨(op==7)=aO∧decide (op=7)=aO∧(op==8)=aJ):=by rcases ho with rfl|rfl<;>decide
 clear ho;generalize decide (op=7)=dd at f⊢;rcases f with⟨f7,rfl⟩|⟨f7,rfl,f8⟩
 all_goals
  go_enter cM,cI;go_upto_region 6 with fail;rw[HW.out]
  go_cut[7,8]from 9 to 79 (fun s7 s8 wx=>∃pa pb,s7=aW (N ⟨pa,0,Q⟩)∧s8=aW (N ⟨pb,0,Q⟩)∧Ti V wx pa pb aj ak al am)
  case first=>
   have ks:=KS.out
   go_region_held3(fun W=>(W.cell? ⟨w.heap.size,0,Q⟩=N (J U af)∧W.cell? ⟨w.heap.size,1,Q⟩=N (J U col)∧W.cell? ⟨w.heap.size+1,7,Q⟩=N (aA (N ⟨b,aa,Q⟩) pl pc)∧W.cell? ⟨b,aa,Q⟩=N (J U ag)∧W.cell? ⟨b,aa+1,Q⟩=N (J U qk)∧W.cell? ⟨b,aa+2,Q⟩=N (J U qn)∧W.cell? ⟨b,aa+3,Q⟩=N (H qx)∧W.cell? ⟨b,aa+4,Q⟩=N (H qs)∧W.cell? ⟨b,aa+5,Q⟩=N (H qm)∧W.cell? ⟨b,aa+6,Q⟩=N (J U qi)∧W.cell? ⟨b,aa+7,Q⟩=N (aA qa ql qc)∧W.cell? ⟨b,aa+8,Q⟩=N (J U ah)∧W.cell? ⟨b,aa+8+1,Q⟩=N (J U tk)∧W.cell? ⟨b,aa+8+2,Q⟩=N (J U tn)∧W.cell? ⟨b,aa+8+3,Q⟩=N (H tx)∧W.cell? ⟨b,aa+8+4,Q⟩=N (H ts)∧W.cell? ⟨b,aa+8+5,Q⟩=N (H tm)∧W.cell? ⟨b,aa+8+6,Q⟩=N (J U ti)∧W.cell? ⟨b,aa+8+7,Q⟩=N (aA ta tl tc)))
    (with_reducible first|exact ks _ (ab)|exact ks _ (Am ab _)|exact ks _ (Am (Am ab _) _)|exact ks _ (ac)|exact ks _ (Am ac _)|exact ks _ (Am (Am ac _) _)|exact ks _ ((aD _ _).drew)|exact ks _ ((Am (aD _ _) _).drew)|exact ks _ ((Am (Am (aD _ _) _) _).drew)|exact ks _ (Hp (Hp ab (by simp only;omega) _) (by simp only;omega) _)|exact ks _ (Hp (Hp (Hp (Hp ab (by simp only;omega) _) (by simp only;omega) _) (by simp only;omega) _) (by simp only;omega) _)|exact ks _ (Hp (Hp (Am ab _) (by simp only;omega) _) (by simp only;omega) _)|exact ks _ (Hp (Hp (Am (Am ab _) _) (by simp only;omega) _) (by simp only;omega) _)|exact ks _ (Am (Hp (Hp ab (by simp only;omega) _) (by simp only;omega) _) _)|go_keep)
    (first
     |(go_at_call_of 202 (aX #[J U ag,J U qk,J U qn,H qx,H qs,H qm,J U qi,aA qa ql qc]);refine(ar _ (by with_reducible first|exact(aD _ _).drew|exact(Am (aD _ _) _).drew|exact(Am (Am (aD _ _) _) _).drew)).mono ?_;rintro e w1 ⟨rfl,ae⟩;have ac:Below V.heap.size V w1:=Ac (by with_reducible first|exact(aD _ _).drew|exact(Am (aD _ _) _).drew|exact(Am (Am (aD _ _) _) _).drew) ae;have bb:=ae.size;simp only[aR,Bd]at bb;have bd:=ac.size)
     |(go_at_call_of 202 (aX #[J U ah,J U tk,J U tn,H tx,H ts,H tm,J U ti,aA ta tl tc]);refine(au _ (by with_reducible first|exact ac|exact Am ac _|exact Am (Am ac _) _)).mono ?_;rintro e w2 ⟨rfl,ad⟩;have ab:Below V.heap.size V w2:=Ac (by with_reducible first|exact ac|exact Am ac _|exact Am (Am ac _) _) ad;(try simp only[aR]at hs2);(first|(have pA:w2.heap[V.heap.size]?=N (aC #[H noW,H noW] 238):=(by with_reducible first|exact(ad.block _ (by first|omega|(simp only[aR];omega))).trans ((ae.block _ (by first|(rw[Bd,Bf];omega)|(rw[Bd,A7];omega))).trans (A5 (Al (by with_reducible first|exact rfl|exact A7 _ _|exact Bf _ _ _) _)))|exact(ad.block _ (by first|omega|(simp only[aR];omega))).trans ((ae.block _ (by first|(rw[Bd,Bf];omega)|(rw[Bd,A7];omega))).trans (A5 (Ad (Al (by with_reducible first|exact rfl|exact A7 _ _|exact Bf _ _ _) _) _)))|exact(ad.block _ (by first|omega|(simp only[aR];omega))).trans (Ad ((ae.block _ (by first|(rw[Bd,Bf];omega)|(rw[Bd,A7];omega))).trans (A5 (Al (by with_reducible first|exact rfl|exact A7 _ _|exact Bf _ _ _) _))) _)|exact(ad.block _ (by first|omega|(simp only[aR];omega))).trans (Ad ((ae.block _ (by first|(rw[Bd,Bf];omega)|(rw[Bd,A7];omega))).trans (A5 (Ad (Al (by with_reducible first|exact rfl|exact A7 _ _|exact Bf _ _ _) _) _))) _));have be:w2.cell? ⟨V.heap.size,0,Q⟩=N (H noW):=Aa pA (j:=0) rfl;have bf:w2.cell? ⟨V.heap.size,1,Q⟩=N (H noW):=Aa pA (j:=1) rfl;have bg:w2.frozen? ⟨V.heap.size,1,Q⟩=aO:=(by simp[aN,pA]);have bh:w2.frozen? ⟨V.heap.size,0,Q⟩=aO:=(by simp[aN,pA]);have bi:V.heap.size<w2.heap.size:=aF pA)|skip);(first|(have pB:w2.heap[V.heap.size+1]?=N (aC #[H noW,H noW] 238):=(by with_reducible first|exact(ad.block _ (by first|omega|(simp only[aR];omega))).trans ((ae.block _ (by first|(rw[Bd,Bf];omega)|(rw[Bd,A7];omega))).trans (A5 (Al (by with_reducible first|exact rfl|exact A7 _ _|exact Bf _ _ _) _)))|exact(ad.block _ (by first|omega|(simp only[aR];omega))).trans (Ad ((ae.block _ (by first|(rw[Bd,Bf];omega)|(rw[Bd,A7];omega))).trans (A5 (Al (by with_reducible first|exact rfl|exact A7 _ _|exact Bf _ _ _) _))) _));have bj:w2.cell? ⟨V.heap.size+1,0,Q⟩=N (H noW):=Aa pB (j:=0) rfl;have bk:w2.cell? ⟨V.heap.size+1,1,Q⟩=N (H noW):=Aa pB (j:=1) rfl;have bl:w2.frozen? ⟨V.heap.size+1,1,Q⟩=aO:=(by simp[aN,pB]);have bm:w2.frozen? ⟨V.heap.size+1,0,Q⟩=aO:=(by simp[aN,pB]))|skip);(first|(have pC:w2.heap[w1.heap.size]?=N (aC #[H noW,H noW] 238):=(by with_reducible first|exact(ad.block _ (by first|omega|(simp only[aR];omega))).trans (Al (by with_reducible first|exact rfl|exact A7 _ _|exact Bf _ _ _) _)|exact(ad.block _ (by first|omega|(simp only[aR];omega))).trans (Ad (Al (by with_reducible first|exact rfl|exact A7 _ _|exact Bf _ _ _) _) _));have bn:w2.cell? ⟨w1.heap.size,0,Q⟩=N (H noW):=Aa pC (j:=0) rfl;have bp:w2.cell? ⟨w1.heap.size,1,Q⟩=N (H noW):=Aa pC (j:=1) rfl;have bq:w2.frozen? ⟨w1.heap.size,1,Q⟩=aO:=(by simp[aN,pC]);have bt:w2.frozen? ⟨w1.heap.size,0,Q⟩=aO:=(by simp[aN,pC]);have bu:w1.heap.size<w2.heap.size:=aF pC)|skip);(first|(have pD:w2.heap[w1.heap.size+1]?=N (aC #[H noW,H noW] 238):=(by with_reducible first|exact(ad.block _ (by first|omega|(simp only[aR];omega))).trans (Al (by with_reducible first|exact rfl|exact A7 _ _|exact Bf _ _ _) _));have bv:w2.cell? ⟨w1.heap.size+1,0,Q⟩=N (H noW):=Aa pD (j:=0) rfl;have bw:w2.cell? ⟨w1.heap.size+1,1,Q⟩=N (H noW):=Aa pD (j:=1) rfl;have bx:w2.frozen? ⟨w1.heap.size+1,1,Q⟩=aO:=(by simp[aN,pD]);have bz:w2.frozen? ⟨w1.heap.size+1,0,Q⟩=aO:=(by simp[aN,pD]))|skip);(try have ca:¬(w1.heap.size=V.heap.size):=(by omega));(try have cb:¬(V.heap.size=w1.heap.size):=(by omega))))
   all_goals go_wp2_with fail
   all_goals go_meet
   all_goals
    refine⟨_,_,rfl,rfl,?_⟩
    with_reducible first
     |exact Avy ab
     |exact A15 ab
     |exact U3 ab pA (by omega)
     |exact U3 ab pB (by omega)
     |exact U3 ab pC (by omega)
     |exact U3 ab pD (by omega)
     |exact Wg ab pA (by omega)
     |exact Wg ab pB (by omega)
     |exact Wg ab pC (by omega)
     |exact Wg ab pD (by omega)
     |exact Sj ab pA (by omega)
     |exact Sj ab pB (by omega)
     |exact Sj ab pC (by omega)
     |exact Sj ab pD (by omega)
     |exact Tj ab pA (by omega)
     |exact Tj ab pB (by omega)
     |exact Tj ab pC (by omega)
     |exact Tj ab pD (by omega)
     |exact Il ab pA pB (by omega) (by omega) (by omega)
     |exact Il ab pA pC (by omega) (by omega) (by omega)
     |exact Il ab pA pD (by omega) (by omega) (by omega)
     |exact Il ab pB pA (by omega) (by omega) (by omega)
     |exact Il ab pB pC (by omega) (by omega) (by omega)
     |exact Il ab pB pD (by omega) (by omega) (by omega)
     |exact Il ab pC pA (by omega) (by omega) (by omega)
     |exact Il ab pC pB (by omega) (by omega) (by omega)
     |exact Il ab pC pD (by omega) (by omega) (by omega)
     |exact Il ab pD pA (by omega) (by omega) (by omega)
     |exact Il ab pD pB (by omega) (by omega) (by omega)
     |exact Il ab pD pC (by omega) (by omega) (by omega)
  case rest=>
   obtain⟨pa,pb,rfl,rfl,av,aw,aq⟩:=hcut;obtain⟨r0,r1,r2,r3,r4⟩:=A6 BV.out.2 aq;have cc:=Aa ((aq.block _ (aF BV.out.1)).trans BV.out.1) (j:=0) (u:=J U op) rfl;have a0:=Aa av (j:=0) (u:=H aj) rfl;have a1:=Aa av (j:=1) (u:=H ak) rfl;have b0:=Aa aw (j:=0) (u:=H al) rfl;have b1:=Aa aw (j:=1) (u:=H am) rfl;cases yes
   all_goals
    go_wp2_with((first|go_fit(ap _)|go_fit(an _));rintro e w5 ⟨rfl,ax⟩;obtain⟨r0,r1,r2,r3,r4⟩:=A6 r0 ax);exact Gb _ _ bV rfl rfl r0 (Ac ai (Ac aq ax)) (by omega) aK (by kernel_rfl)
theorem Ame {op:Int}{fn:FuncId}{y':Bool}(at' col)(pk pn)(px ps pm:Wd)(pi)(b off pc)(pl)(qop qk qn)(qx qs qm:Wd)(qi)(qa)(ql qc)(yes)(ho:op=9∧fn=202∧y'= !yes∨op=10∧fn=260∧y'=yes)(s1:Sp)(w)(hl:1≤pl)(hb:b<w.heap.size)
  (h1:w.cell? ⟨b,off,Q⟩=N (J U qop)∧w.cell? ⟨b,off+1,Q⟩=N (J U qk)∧w.cell? ⟨b,off+2,Q⟩=N (J U qn)∧w.cell? ⟨b,off+3,Q⟩=N (H qx)∧w.cell? ⟨b,off+4,Q⟩=N (H qs)∧w.cell? ⟨b,off+5,Q⟩=N (H qm)∧w.cell? ⟨b,off+6,Q⟩=N (J U qi)∧w.cell? ⟨b,off+7,Q⟩=N (aA qa ql qc))
  (HA:∀W,Below w.heap.size w W→aQ aB fn #[aM #[J U at',J U col],aM #[J U qop,J U qk,J U qn,H qx,H qs,H qm,J U qi,aA qa ql qc],bK y'] W fun e w'=>e=aH s1.val∧Below W.heap.size W w'):
  aQ aB 202 #[aM #[J U at',J U col],aM #[J U op,J U pk,J U pn,H px,H ps,H pm,J U pi,aA (N ⟨b,off,Q⟩) pl pc],bK yes] w fun e w'=>e=aH s1.val∧Below w.heap.size w w':=by
 have n0:0<pl:=by omega
 obtain⟨aa,B0,B1,B2,-⟩:=al3 w (aC #[J U at',J U col] 258) (aC #[J U op,J U pk,J U pn,H px,H ps,H pm,J U pi,aA (N ⟨b,off,Q⟩) pl pc] 48) (aC #[H noW,H noW] 238);generalize hW:((w.alloc _).alloc _).alloc _=V at B0 B1 B2 aa;have HW:Hid _:=hW;clear hW;have ac:=Aa B1 (j:=0) (u:=J _ op) rfl;have KS:Hid (∀W,Below (w.heap.size+2) V W→(W.cell? ⟨_,0,Q⟩=N (J _ at')∧W.cell? ⟨_,1,Q⟩=N (J _ col)∧W.cell? ⟨_,7,Q⟩=N (aA _ pl pc)∧W.cell? _=N _∧W.cell? _=N _∧W.cell? _=N _∧W.cell? _=N _∧W.cell? _=N _∧W.cell? _=N _∧W.cell? _=N _∧W.cell? _=N _)):=fun W hW=>by
  have D0:=(hW.block _ (by omega)).trans B0;have kc:=fun o=>(aa.trans (hW.mono (by omega))).cell (p:=⟨b,o,Q⟩) hb
  obtain⟨x0,x1,x2,x3,x4,x5,x6,x7⟩:=h1;exact⟨Aa D0 rfl,Aa D0 rfl,Aa ((hW.block _ (by omega)).trans B1) rfl,(kc _).trans x0,(kc _).trans x1,(kc _).trans x2,(kc _).trans x3,(kc _).trans x4,(kc _).trans x5,(kc _).trans x6,(kc _).trans x7⟩
 have lV:=aF B2;have HC:=fun W hW=>HA W (Ac aa hW)
 have y0:=KS.out _ ((aD _ V).drew);clear HA h1 B0;obtain⟨ad,ae⟩:=s1;simp only[Sp.val]at HC⊢;rcases ho with⟨rfl,rfl,rfl⟩|⟨rfl,rfl,rfl⟩
 all_goals go_enter cM,cI
 focus go_upto_region 3 with fail
 rotate_left
 focus go_upto_region 11 with fail
 all_goals
  rw[HW.out]
  go_region_held3(fun W=>(W.cell? ⟨w.heap.size,0,Q⟩=N (J U at')∧W.cell? ⟨w.heap.size,1,Q⟩=N (J U col)∧W.cell? ⟨w.heap.size+1,7,Q⟩=N (aA (N ⟨b,off,Q⟩) pl pc)∧W.cell? ⟨b,off,Q⟩=N (J U qop)∧W.cell? ⟨b,off+1,Q⟩=N (J U qk)∧W.cell? ⟨b,off+2,Q⟩=N (J U qn)∧W.cell? ⟨b,off+3,Q⟩=N (H qx)∧W.cell? ⟨b,off+4,Q⟩=N (H qs)∧W.cell? ⟨b,off+5,Q⟩=N (H qm)∧W.cell? ⟨b,off+6,Q⟩=N (J U qi)∧W.cell? ⟨b,off+7,Q⟩=N (aA qa ql qc)))
   (with_reducible first|omega|omega|exact KS.out _ ((zz.mono (cW lV)).setCell (aL _) _ |>.setCell (aL _) _))
   (first|((first|go_at_call 202|go_at_call 260);refine(HC _ ((aD _ V).drew)).mono ?_;rintro e w1 ⟨rfl,ab⟩;have zz:=Ac (aD _ V).drew ab;have y1:=KS.out _ (zz.mono (cW lV));obtain⟨r0,r1,r2,r3,r4⟩:=A6 B2 zz))
  go_wp2;exact Gb _ _ bV rfl rfl r0 (Ac aa zz) (by omega) aK (by rfl)
theorem Av5 (op:Int)(ho:op=5∨op=6)(at' col)(pk pn)(px ps pm:Wd)(pi)(b off pc)(pl)(qop qk qn)(qx qs qm:Wd)(qi)(qa)(ql qc)(top tk tn)(tx ts tm:Wd)(ti)(ta)(tl tc)(yes)(s1:Sp)(w)(hl:2≤pl)(hb:b<w.heap.size)
  (h1:w.cell? ⟨b,off,Q⟩=N (J U qop)∧w.cell? ⟨b,off+1,Q⟩=N (J U qk)∧w.cell? ⟨b,off+2,Q⟩=N (J U qn)∧w.cell? ⟨b,off+3,Q⟩=N (H qx)∧w.cell? ⟨b,off+4,Q⟩=N (H qs)∧w.cell? ⟨b,off+5,Q⟩=N (H qm)∧w.cell? ⟨b,off+6,Q⟩=N (J U qi)∧w.cell? ⟨b,off+7,Q⟩=N (aA qa ql qc)) (h2:w.cell? ⟨b,off+8,Q⟩=N (J U top)∧w.cell? ⟨b,off+8+1,Q⟩=N (J U tk)∧w.cell? ⟨b,off+8+2,Q⟩=N (J U tn)∧w.cell? ⟨b,off+8+3,Q⟩=N (H tx)∧w.cell? ⟨b,off+8+4,Q⟩=N (H ts)∧w.cell? ⟨b,off+8+5,Q⟩=N (H tm)∧w.cell? ⟨b,off+8+6,Q⟩=N (J U ti)∧w.cell? ⟨b,off+8+7,Q⟩=N (aA ta tl tc))
  (HA:∀W,Below w.heap.size w W→aQ aB 261 #[aM #[J U at',J U col],J U op,aM #[J U qop,J U qk,J U qn,H qx,H qs,H qm,J U qi,aA qa ql qc],aM #[J U top,J U tk,J U tn,H tx,H ts,H tm,J U ti,aA ta tl tc],bK yes] W fun e w'=>e=aH s1.val∧Below W.heap.size W w'):
  aQ aB 202 #[aM #[J U at',J U col],aM #[J U op,J U pk,J U pn,H px,H ps,H pm,J U pi,aA (N ⟨b,off,Q⟩) pl pc],bK yes] w fun e w'=>e=aH s1.val∧Below w.heap.size w w':=by
 have n0:0<pl:=by omega
 have l1:(1:Int)<pl:=by omega
 obtain⟨aa,B0,B1,B2,-⟩:=al3 w (aC #[J U at',J U col] 258) (aC #[J U op,J U pk,J U pn,H px,H ps,H pm,J U pi,aA (N ⟨b,off,Q⟩) pl pc] 48) (aC #[H noW,H noW] 238);generalize hW:((w.alloc _).alloc _).alloc _=V at B0 B1 B2 aa;have HW:Hid _:=hW;clear hW;have ac:=Aa B1 (j:=0) (u:=J _ op) rfl;have KS:Hid (∀W,Below (w.heap.size+2) V W→(W.cell? ⟨_,0,Q⟩=N (J _ at')∧W.cell? ⟨_,1,Q⟩=N (J _ col)∧W.cell? ⟨_,0,Q⟩=N (J _ op)∧W.cell? ⟨_,7,Q⟩=N (aA _ pl pc)∧W.cell? _=N _∧W.cell? _=N _∧W.cell? _=N _∧W.cell? _=N _∧W.cell? _=N _∧W.cell? _=N _∧W.cell? _=N _∧W.cell? _=N _∧W.cell? _=N _∧W.cell? _=N _∧W.cell? _=N _∧W.cell? _=N _∧W.cell? _=N _∧W.cell? _=N _∧W.cell? _=N _∧W.cell? _=N _)):=fun W hW=>by
  have D0:=(hW.block _ (by omega)).trans B0;have D1:=(hW.block _ (by omega)).trans B1;have kc:=fun o=>(aa.trans (hW.mono (by omega))).cell (p:=⟨b,o,Q⟩) hb
  obtain⟨x0,x1,x2,x3,x4,x5,x6,x7⟩:=h1;obtain⟨y0,y1,y2,y3,y4,y5,y6,y7⟩:=h2;exact⟨Aa D0 rfl,Aa D0 rfl,Aa D1 rfl,Aa D1 rfl,(kc _).trans x0,(kc _).trans x1,(kc _).trans x2,(kc _).trans x3,(kc _).trans x4,(kc _).trans x5,(kc _).trans x6,(kc _).trans x7,(kc _).trans y0,(kc _).trans y1,(kc _).trans y2,(kc _).trans y3,(kc _).trans y4,(kc _).trans y5,(kc _).trans y6,(kc _).trans y7⟩
 have lV:=aF B2;have HC:=fun W hW=>HA W (Ac aa hW)
 have y0:=KS.out _ ((aD _ V).drew);clear HA h1 h2 B0;obtain⟨ad,ae⟩:=s1;simp only[Sp.val]at HC⊢;obtain⟨⟨f9,f7,f8,af⟩,f⟩:((op==9)=aO∧(op==7)=aO∧(op==8)=aO∧(op==10)=aO)∧((op==5)=aJ∨(op==5)=aO∧(op==6)=aJ):=by rcases ho with rfl|rfl<;>decide
 clear ho;rcases f with f5|⟨f5,f6⟩
 all_goals
  go_enter cM,cI;go_upto_region 14 with fail;rw[HW.out]
  go_region_held3(fun W=>(W.cell? ⟨w.heap.size,0,Q⟩=N (J U at')∧W.cell? ⟨w.heap.size,1,Q⟩=N (J U col)∧W.cell? ⟨w.heap.size+1,0,Q⟩=N (J U op)∧W.cell? ⟨w.heap.size+1,7,Q⟩=N (aA (N ⟨b,off,Q⟩) pl pc)∧W.cell? ⟨b,off,Q⟩=N (J U qop)∧W.cell? ⟨b,off+1,Q⟩=N (J U qk)∧W.cell? ⟨b,off+2,Q⟩=N (J U qn)∧W.cell? ⟨b,off+3,Q⟩=N (H qx)∧W.cell? ⟨b,off+4,Q⟩=N (H qs)∧W.cell? ⟨b,off+5,Q⟩=N (H qm)∧W.cell? ⟨b,off+6,Q⟩=N (J U qi)∧W.cell? ⟨b,off+7,Q⟩=N (aA qa ql qc)∧W.cell? ⟨b,off+8,Q⟩=N (J U top)∧W.cell? ⟨b,off+8+1,Q⟩=N (J U tk)∧W.cell? ⟨b,off+8+2,Q⟩=N (J U tn)∧W.cell? ⟨b,off+8+3,Q⟩=N (H tx)∧W.cell? ⟨b,off+8+4,Q⟩=N (H ts)∧W.cell? ⟨b,off+8+5,Q⟩=N (H tm)∧W.cell? ⟨b,off+8+6,Q⟩=N (J U ti)∧W.cell? ⟨b,off+8+7,Q⟩=N (aA ta tl tc)))
   (with_reducible first|omega|omega|exact KS.out _ ((zz.mono (cW lV)).setCell (aL _) _ |>.setCell (aL _) _))
   (first|(go_at_call 261;refine(HC _ ((aD _ V).drew)).mono ?_;rintro e w1 ⟨rfl,ab⟩;have zz:=Ac (aD _ V).drew ab;have y1:=KS.out _ (zz.mono (cW lV));obtain⟨r0,r1,r2,r3,r4⟩:=A6 B2 zz))
  go_wp2;exact Gb _ _ bV rfl rfl r0 (Ac aa zz) (by omega) aK (by rfl)
theorem Av6 (at' col)(pk pn)(px ps pm:Wd)(pi)(pa)(pl pc)(yes)(w):
  aQ aB 202 #[aM #[J U at',J U col],aM #[J U 1,J U pk,J U pn,H px,H ps,H pm,J U pi,aA pa pl pc],bK yes] w fun e w'=>e=aH noS.val∧Below w.heap.size w w':=by
 simp only[Sp.val,noS];go_enter cM,cI;go_wp2;exact aS (bH bV _ _ _ 238 _ _ _ rfl (Fi w _ _ _) aK rfl (by rfl)) rfl ⟨rfl,Hy w _ _ _⟩
theorem Asz (at' col)(pop pk pn)(px ps pm:Wd)(pi)(pa)(pl pc)(yes)(w)(h1:¬pop=1)(h5:¬pop=5)(h6:¬pop=6)(h7:¬pop=7)(h8:¬pop=8)(h9:¬pop=9)(ac:¬pop=10):
  aQ aB 202 #[aM #[J U at',J U col],aM #[J U pop,J U pk,J U pn,H px,H ps,H pm,J U pi,aA pa pl pc],bK yes] w fun e w'=>e=aH (Lf noW).val∧Below w.heap.size w w':=by
 have H0:=Wf;simp only[Sp.val,Lf];generalize(noW++ffW:Wd)=f1 at H0;obtain⟨ab,-,-,B2,-⟩:=al3 w (aC #[J U at',J U col] 258) (aC #[J U pop,J U pk,J U pn,H px,H ps,H pm,J U pi,aA pa pl pc] 48) (aC #[H noW,H noW] 238);go_enter cM,cI;go_wp2_with(go_fit(H0 _);rintro e w1 ⟨rfl,aa⟩;obtain⟨r0,r1,r2,r3,r4⟩:=A6 B2 aa);exact Gb _ _ bV rfl rfl r0 (Ac ab aa) (by omega) aK (by rfl)
def Mv:Nat→E→Prop
 |0,_=>True
 |d+1,.mk op _ _ _ n l=>(op=2→n≤9223372036854775807)∧∀a∈l,Mv d a
theorem Z5 {F}{w}{ao}{k c}{l}(h:I1 F w (aA ao k c) l){op}{x}{s name}{n}{l'}(hx:l[0]?=N (.mk op x s name n l')):
  ∃b aa,ao=N ⟨b,aa,Q⟩∧b<w.heap.size∧∃a8 k8 c8,IsE F w (.mk op x s name n l') (aM (Af op x s name n (aA a8 k8 c8)))∧w.cell? ⟨b,aa,Q⟩=N (J U op)∧w.cell? ⟨b,aa+1,Q⟩=N (J U x.k)∧w.cell? ⟨b,aa+2,Q⟩=N (J U x.n)∧w.cell? ⟨b,aa+3,Q⟩=N (H x.s)∧w.cell? ⟨b,aa+4,Q⟩=N (H s)∧w.cell? ⟨b,aa+5,Q⟩=N (H name)∧w.cell? ⟨b,aa+6,Q⟩=N (J U n)∧w.cell? ⟨b,aa+7,Q⟩=N (aA a8 k8 c8):=by
 obtain⟨b,aa,cs,h1,_,h2,hR,hc⟩:=At (Akr.2 h) hx;obtain⟨hl,hE⟩:=hR;obtain⟨sv,he,ab⟩:=hE.open;obtain⟨a8,c8,rfl⟩:=ab.shape;have ac:cs=(Af op x s name n (aA a8 l'.length c8)).toList:=by
  have:=congrArg Array.toList (eJ he);simpa using this
 subst ac;refine⟨b,aa,h1,h2,a8,_,c8,by omega,?_⟩;have g:∀j u,(Af op x s name n _).toList[j]?=N u→w.cell? ⟨b,aa+0*8+j,Q⟩=N u:=hc;exact⟨g 0 _ rfl,g 1 _ rfl,g 2 _ rfl,g 3 _ rfl,g 4 _ rfl,g 5 _ rfl,g 6 _ rfl,g 7 _ rfl⟩
theorem Aq4 {F}{w}{ao}{k c}{l}(h:I1 F w (aA ao k c) l){op}{x}{s name}{n}{l'}(hx:l[1]?=N (.mk op x s name n l')):
  ∃b aa,ao=N ⟨b,aa,Q⟩∧b<w.heap.size∧∃a8 k8 c8,IsE F w (.mk op x s name n l') (aM (Af op x s name n (aA a8 k8 c8)))∧w.cell? ⟨b,aa+8,Q⟩=N (J U op)∧w.cell? ⟨b,aa+8+1,Q⟩=N (J U x.k)∧w.cell? ⟨b,aa+8+2,Q⟩=N (J U x.n)∧w.cell? ⟨b,aa+8+3,Q⟩=N (H x.s)∧w.cell? ⟨b,aa+8+4,Q⟩=N (H s)∧w.cell? ⟨b,aa+8+5,Q⟩=N (H name)∧w.cell? ⟨b,aa+8+6,Q⟩=N (J U n)∧w.cell? ⟨b,aa+8+7,Q⟩=N (aA a8 k8 c8):=by
 obtain⟨b,aa,cs,h1,_,h2,hR,hc⟩:=At (Akr.2 h) hx;obtain⟨hl,hE⟩:=hR;obtain⟨sv,he,ab⟩:=hE.open;obtain⟨a8,c8,rfl⟩:=ab.shape;have ac:cs=(Af op x s name n (aA a8 l'.length c8)).toList:=by
  have:=congrArg Array.toList (eJ he);simpa using this
 subst ac;refine⟨b,aa,h1,h2,a8,_,c8,by omega,?_⟩;have g:∀j u,(Af op x s name n _).toList[j]?=N u→w.cell? ⟨b,aa+1*8+j,Q⟩=N u:=hc;exact⟨g 0 _ rfl,g 1 _ rfl,g 2 _ rfl,g 3 _ rfl,g 4 _ rfl,g 5 _ rfl,g 6 _ rfl,g 7 _ rfl⟩
theorem Agf {d}{op}{x}{s name}{n}{l}(h:geB (d+1) (.mk op x s name n l)=aJ)(hf:Df (.mk op x s name n l))(hr:Mv (d+1) (.mk op x s name n l)):Amb op x n:=by
 rw[Df]at hf;rw[Mv]at hr;refine⟨fun h1=>?_,hf.1,hr.1⟩;subst h1;simp only[geB,Q4,aG,if_true]at h;grind
theorem Amf {α:Type}:∀{l:List α},l.length=2→∃a b,l=[a,b]
 |[a,b],_=>⟨a,b,rfl⟩
theorem Aq5 {d}{e}(h:geB d e=aJ):∃d',d=d'+1:=by
 cases d with
 |zero=>simp[geB]at h
 |succ d=>simp
theorem Av7 (aa col:Int):∀(d:Nat) (e:E) (v:bG) (yes:Bool) (C:Nat) (w:aZ),IsE (fun k=>k<C) w e v→C≤w.heap.size→geB d e=aJ→Df e→Mv d e→
  aQ aB 202 #[aM #[J U aa,J U col],v,bK yes] w fun r w'=>r=aH (Bu aa col d e yes).val∧Below w.heap.size w w':=by
 intro d
 induction d with
 |zero=>intro e v yes C w _ _ h;simp[geB]at h
 |succ d ih=>
  intro e v yes C w he hC hg hf hr;obtain⟨op,x,s,name,n,l⟩:=e;obtain⟨sv,rfl,ag⟩:=he.open;obtain⟨ao,c,rfl⟩:=ag.shape;obtain⟨xk,xn,xs⟩:=x;have ay:=hg;simp only[geB,aG,decide_eq_true_eq,cZ]at ay;obtain⟨⟨aq,bc⟩,ap⟩:=ay;rw[Df]at hf;have ar:=hf.2.2.2;rw[Mv]at hr;have IH:∀a∈l,∀va au W,Below w.heap.size w W→IsE (fun k=>k<C) w a va→aQ aB 202 #[aM #[J U aa,J U col],va,bK au] W fun r w'=>r=aH (Bu aa col d a au).val∧Below W.heap.size W w':=
   fun a ha va au W hW hE=>ih a va au C W (IsE.keep (Ae (hW.mono hC)) _ _ hE) (aP hC hW.size) (ap a ha) (La ar ha) (hr.2 a ha)
  by_cases h9:op=9
  ·subst h9;have ah:l.length=1:=by simp[Gk]at aq;omega
   obtain⟨a,rfl⟩:=cN.1 ah;obtain⟨ab,⟨ak,an,ax⟩,ac,am,ai,al⟩:=a;obtain⟨b,aj,rfl,hb,a8,k8,c8,hE,hc⟩:=Z5 ag rfl;exact Ame aa col xk xn xs s name n b aj c _ ab ak an ax ac am ai a8 k8 c8 yes (.inl ⟨rfl,rfl,rfl⟩) _ w (by simp) hb hc (fun W hW=>IH _ (by simp) _ _ W hW hE)
  by_cases ae:op=7∨op=8
  ·have ah:l.length=2:=by rcases ae with rfl|rfl<;>simp[Gk]at aq<;>omega
   obtain⟨a,a',rfl⟩:=Amf ah;obtain⟨ab,⟨ak,an,ax⟩,ac,am,ai,al⟩:=a;obtain⟨af,⟨bk,bn,bx⟩,bs,bm,bi,bl⟩:=a';obtain⟨b,aj,rfl,hb,a8,k8,c8,hE,hc⟩:=Z5 ag rfl;obtain⟨b',ba,e',_,a9,k9,c9,az,av⟩:=Aq4 ag rfl;simp only[bD,cQ,and_true]at e';obtain⟨rfl,rfl⟩:=e';have:=Av4 op ae aa col xk xn xs s name n b aj c 2 ab ak an ax ac am ai a8 k8 c8 af bk bn bx bs bm bi a9 k9 c9 yes _ _ w (aL _) hb hc av (fun W hW=>IH _ (by simp) _ _ W hW hE) (fun W hW=>IH _ (by simp) _ _ W hW az);have e2:Bu aa col (d+1) (.mk op ⟨xk,xn,xs⟩ s name n [.mk ab ⟨ak,an,ax⟩ ac am ai al,.mk af ⟨bk,bn,bx⟩ bs bm bi bl]) yes=if yes=decide (op=7)then(Bu aa col d (.mk ab ⟨ak,an,ax⟩ ac am ai al) yes).both (Bu aa col d (.mk af ⟨bk,bn,bx⟩ bs bm bi bl) yes)else(Bu aa col d (.mk ab ⟨ak,an,ax⟩ ac am ai al) yes).either (Bu aa col d (.mk af ⟨bk,bn,bx⟩ bs bm bi bl) yes):=by
    rcases ae with rfl|rfl<;>cases yes<;>simp[Bu]
   rw[e2];exact this
  by_cases aw:op=10
  ·subst aw;have ah:l.length=1:=by simp[Gk]at aq;omega
   obtain⟨a,rfl⟩:=cN.1 ah;obtain⟨d',rfl⟩:=Aq5 (ap a (by simp));obtain⟨ab,⟨ak,an,ax⟩,ac,am,ai,al⟩:=a;have bb:=Agf (ap (.mk ab ⟨ak,an,ax⟩ ac am ai al) (by simp)) (La ar (by simp)) (hr.2 _ (by simp));obtain⟨b,aj,rfl,hb,a8,k8,c8,hE,hc⟩:=Z5 ag rfl;exact Ame aa col xk xn xs s name n b aj c _ ab ak an ax ac am ai a8 k8 c8 yes (.inr ⟨rfl,rfl,rfl⟩) _ w (by simp) hb hc (fun W _=>Apa aa col ab ak an ax ac am ai a8 k8 c8 yes W bb.2.2)
  by_cases ad:op=5∨op=6
  ·have ah:l.length=2:=by rcases ad with rfl|rfl<;>simp[Gk]at aq<;>omega
   obtain⟨a,a',rfl⟩:=Amf ah;obtain⟨d',rfl⟩:=Aq5 (ap a (by simp));obtain⟨ab,⟨ak,an,ax⟩,ac,am,ai,al⟩:=a;obtain⟨af,⟨bk,bn,bx⟩,bs,bm,bi,bl⟩:=a';obtain⟨b,aj,rfl,hb,a8,k8,c8,hE,hc⟩:=Z5 ag rfl;obtain⟨b',ba,e',_,a9,k9,c9,az,av⟩:=Aq4 ag rfl;simp only[bD,cQ,and_true]at e';obtain⟨rfl,rfl⟩:=e';have:=Av5 op ad aa col xk xn xs s name n b aj c 2 ab ak an ax ac am ai a8 k8 c8 af bk bn bx bs bm bi a9 k9 c9 yes _ w (aL _) hb hc av (fun W _=>Aaf aa col op ab ak an ax ac am ai a8 k8 c8 af bk bn bx bs bm bi a9 k9 c9 yes W ad (Agf (ap (.mk ab ⟨ak,an,ax⟩ ac am ai al) (by simp)) (La ar (by simp)) (hr.2 _ (by simp))) (Agf (ap (.mk af ⟨bk,bn,bx⟩ bs bm bi bl) (by simp)) (La ar (by simp)) (hr.2 _ (by simp))));rcases ad with rfl|rfl<;>exact this
  rw[not_or]at ae ad
  by_cases h1:op=1
  ·subst h1;exact Av6 aa col xk xn xs s name n ao _ c yes w
  ·have e2:Bu aa col (d+1) (.mk op ⟨xk,xn,xs⟩ s name n l) yes=Lf noW:=by simp[Bu,h1,ad.1,ad.2,ae.1,ae.2,h9,aw]
   rw[e2];exact Asz aa col op xk xn xs s name n ao _ c yes w h1 ad.1 ad.2 ae.1 ae.2 h9 aw
theorem Amg (a b c d:Wd)(w):(Op.equalIn 10000 238 (aM #[H a,H b]) (aM #[H c,H d])).run aB w=.ok (decide (a=c∧b=d)) w:=by
 have u3:=Tryz.underlying9;have a3:=Tryz.isAgg9;have z3:=Tryz.sizeOf9;have hS:Tryz.prog.underlying 238=N (.struct (Tryz.prog.fieldsOf 238)):=by kernel_rfl
 have hp:Tryz.prog.stoodInHeld 238=aO:=by kernel_rfl
 rw[show(10000:Nat)=9999+1 from rfl,run_equalIn_agg w _ 238 _ _ hS hp];simp only[Program.fieldsOf,aK];go_simp
 by_cases h1:a=c
 ·by_cases h2:b=d
  ·grind
  ·have h3:¬b.toList=d.toList:=by
    have:=Jk b d;rw[decide_eq_false h2,beq_eq_false_iff_ne]at this;exact this
   grind
 ·have h3:¬a.toList=c.toList:=by
   have:=Jk a c;rw[decide_eq_false h1,beq_eq_false_iff_ne]at this;exact this
  grind
theorem A42 (a b c d:Wd)(w):(binOp .eql 238 (aM #[H a,H b]) (aM #[H c,H d])).run aB w=.ok (bK (decide (a=c∧b=d))) w:=by
 rw[run_eql_struct,Amg];rfl
theorem A39 (a b c d:Wd)(w):(binOp .neq 238 (aM #[H a,H b]) (aM #[H c,H d])).run aB w=.ok (bK (!decide (a=c∧b=d))) w:=by
 rw[run_neq_struct,Amg];rfl
theorem Ajl (s:Wd)(w)(hs:s.size≤1000000):aQ aB 185 #[.string s] w fun e w'=>∃ao c m,e=.returned (.tuple #[.slice ao (Asx (vals s.data.toList)) c,.int .i64 m])∧Below w.heap.size w w':=by
 refine(Oe s w (by omega)).mono ?_;rintro e w' ⟨h,hb⟩;unfold Ho at h;cases hv:vals _ with
 |none=>rw[hv]at h;exact⟨Q,0,1,h,hb⟩
 |some L=>
  rw[hv]at h;obtain⟨lv,rfl,aa⟩:=h;obtain⟨ao,c,rfl⟩:=Ex.shape (Ex.of_own aa);exact⟨ao,c,0,rfl,hb⟩
theorem Amh (s:Sp)(w:aZ)(hs:s.lo.size≤1000000):aQ aB 204 #[s.val] w fun e w'=>e=aH (J U s.rank)∧Below w.heap.size w w':=by
 have HV:=fun W=>Ajl s.lo W hs
 have HE:=fun W=>Ty s W
 have HB:=fun W=>Jt s.lo W (by omega)
 have H0:=fun W=>Jt noW W (by decide)
 have E:Hid (s.rank=if s.empty then 0 else if Asx (vals s.lo.data.toList)=1∧s.hi=s.lo++ffW then 1 else if s.lo=noW∧s.hi=ffW then 3 else 2):=rfl;generalize s.rank=r at E;generalize s.empty=em at HE E;generalize ae:Asx (vals s.lo.data.toList)=ln at HV E;clear ae;obtain⟨lo,hi⟩:=s;simp only at HV HB E hs;simp only[Sp.val]at HE⊢;have Q1:=fun W=>A42 lo hi lo (lo++⟨#[255]⟩) W
 have Q2:=fun W=>A39 lo hi noW (noW++⟨#[255]⟩) W
 have E2:Hid (r=if em then 0 else if decide (ln=1)&&decide (lo=lo∧hi=lo++⟨#[255]⟩)then 1 else if decide (lo=noW∧hi=noW++⟨#[255]⟩)then 3 else 2):=by
  show _=_;rw[E.out];have e1:(noW++⟨#[255]⟩:Wd)=ffW:=rfl;have e2:(⟨#[255]⟩:Wd)=ffW:=rfl;rw[e1,e2];cases em
  ·simp only[aV,if_false,aG,decide_eq_true_eq,true_and]
  ·rfl
 clear E;generalize decide (lo=lo∧hi=lo++⟨#[255]⟩)=q1 at Q1 E2;generalize decide (lo=noW∧hi=noW++⟨#[255]⟩)=q2 at Q2 E2;obtain⟨ab,B,-⟩:=al1 w (aC #[H lo,H hi] 238);generalize hW:w.alloc (aC #[H lo,H hi] 238)=V at B ab;have HW:Hid _:=hW;clear hW;have KS:Hid (∀W,Below V.heap.size V W→W.cell? ⟨w.heap.size,0,Q⟩=N (H lo)∧W.cell? ⟨w.heap.size,1,Q⟩=N (H hi)):=fun W hW=>by
  have D:=(hW.block _ (aF B)).trans B;exact⟨Aa D (j:=0) rfl,Aa D (j:=1) rfl⟩
 obtain⟨a0,a1⟩:=KS.out V (aD _ _);cases em;rotate_left
 ·go_enter eC,dQ;go_upto_region 1 with fail;rw[HW.out];go_wp2_with(first
   |(go_fit(HV _);rintro e w1 ⟨vo,vc,vm,rfl,aa⟩;obtain⟨b0,b1⟩:=KS.out _ aa)
   |(go_fit(HE _);rintro e w2 ⟨rfl,ac⟩))
  go_ret;exact⟨Av (by rw[E2.out];rfl),Ac ab (Ac aa ac)⟩
 by_cases h1:ln=1
 ·subst h1;go_enter eC,dQ;go_upto_region 1 with fail;rw[HW.out];go_upto_region 4 with(first
   |(go_fit(HV _);rintro e w1 ⟨vo,vc,vm,rfl,aa⟩;obtain⟨b0,b1⟩:=KS.out _ aa)
   |(go_fit(HE _);rintro e w2 ⟨rfl,ac⟩;have z2:Below V.heap.size V w2:=Ac aa ac;obtain⟨c0,c1⟩:=KS.out _ z2))
  go_region_held3(fun W=>W.cell? ⟨w.heap.size,0,Q⟩=N (H lo)∧W.cell? ⟨w.heap.size,1,Q⟩=N (H hi))
   (with_reducible first|exact KS.out _ (z2.drew)|exact KS.out _ z3)
   (first|(refine(HB _).mono ?_;rintro e w3 ⟨rfl,af⟩;have z3:Below V.heap.size V w3:=z2.drew.trans (af.mono z2.size)))
  cases q1
  ·go_upto_region 6 with fail
   go_region_held3(fun W=>W.cell? ⟨w.heap.size,0,Q⟩=N (H lo)∧W.cell? ⟨w.heap.size,1,Q⟩=N (H hi))
   (with_reducible first|exact KS.out _ (z3.drew)|exact KS.out _ z4)
   (first|(refine(H0 _).mono ?_;rintro e w4 ⟨rfl,ad⟩;have z4:Below V.heap.size V w4:=z3.drew.trans (ad.mono z3.size)))
   cases q2
   ·go_wp2;go_ret;exact⟨Av (by rw[E2.out];first|rfl|simp_all),Ac ab z4⟩
   ·go_wp2;go_ret;exact⟨Av (by rw[E2.out];first|rfl|simp_all),Ac ab z4⟩
  ·go_wp2;go_ret;exact⟨Av (by rw[E2.out];rfl),Ac ab z3⟩
 ·have v1:¬(ln:Int)=1:=by omega
  go_enter eC,dQ;go_upto_region 1 with fail;rw[HW.out];go_upto_region 4 with(first
   |(go_fit(HV _);rintro e w1 ⟨vo,vc,vm,rfl,aa⟩;obtain⟨b0,b1⟩:=KS.out _ aa)
   |(go_fit(HE _);rintro e w2 ⟨rfl,ac⟩;have z2:Below V.heap.size V w2:=Ac aa ac;obtain⟨c0,c1⟩:=KS.out _ z2))
  go_quiet(fail)
  ·go_upto_region 6 with fail
   go_region_held3(fun W=>W.cell? ⟨w.heap.size,0,Q⟩=N (H lo)∧W.cell? ⟨w.heap.size,1,Q⟩=N (H hi))
   (with_reducible first|exact KS.out _ (dJ z2 _)|exact KS.out _ (dJ z2 _).drew|exact KS.out _ z4)
   (first|(refine(H0 _).mono ?_;rintro e w4 ⟨rfl,ad⟩;have z4:Below V.heap.size V w4:=(by first|exact(dJ z2 _).trans (ad.mono z2.size)|exact(dJ z2 _).drew.trans (ad.mono z2.size))))
   cases q2
   ·go_wp2;go_ret;exact⟨Av (by rw[E2.out];first|rfl|simp_all),Ac ab z4⟩
   ·go_wp2;go_ret;exact⟨Av (by rw[E2.out];first|rfl|simp_all),Ac ab z4⟩
end
section
open Go.RowKit Go.Maps
structure Wy where
 x:Wd
 lo:Wd
 hi:Wd
def Dx (at':Int)(e:E)(t:TabD)(p:Sp×Wy)(x:IdxD):Sp×Wy:=
 if Eo t x<0 then p
 else if(Bu at' (Eo t x) 40 e aJ).rank<p.1.rank then(Bu at' (Eo t x) 40 e aJ,⟨x.name,Hl x.name++(Bu at' (Eo t x) 40 e aJ).lo,Hl x.name++(Bu at' (Eo t x) 40 e aJ).hi⟩)
 else p
def Ix (at':Int)(e:E)(t:TabD):Sp×Wy:=(Bu at' 0 40 e aJ,⟨noW,De t.name++(Bu at' 0 40 e aJ).lo,De t.name++(Bu at' 0 40 e aJ).hi⟩)
def Ds (ct:CatD)(t:TabD)(at':Int)(e:E):Wy:=
 if geB 40 e then((if Dv ct then ct.indexes else[]).foldl (Dx at' e t) (Ix at' e t)).2
 else⟨noW,Hm t.name,Hn t.name⟩
theorem Ael (ct)(to1)(tl1 tc1)(io)(il ic)(C)(w)(hc:Hq (fun k=>k<C) w ct (aM #[aA to1 tl1 tc1,aA io il ic]))(hC:C≤w.heap.size)(hf:K9 ct):
  aQ aB 203 #[aM #[aA to1 tl1 tc1,aA io il ic]] w fun e w'=>e=aH (if Dv ct then aA io il ic else aA Q 0 0)∧Below w.heap.size w w':=by
 obtain⟨aa,B,-⟩:=al1 w (aC #[aA to1 tl1 tc1,aA io il ic] 62);have HG:=Alp ct _ C _ (hc.keep (Ae (aa.mono hC))) (aP hC aa.size) hf;generalize Dv ct=g at HG;generalize hW:w.alloc _=V at B aa HG;have HW:Hid _:=hW;clear hW hc;have a0:=Aa B (j:=0) (u:=aA to1 tl1 tc1) rfl;have a1:=Aa B (j:=1) (u:=aA io il ic) rfl;cases g
 ·go_enter Tryz.func203,Tryz.ntmps203;go_upto_region 1 with fail;rw[HW.out];go_wp2_with(go_fit HG;rintro e w1 ⟨rfl,ab⟩);go_ret;exact⟨rfl,Ac aa ab⟩
 ·go_enter Tryz.func203,Tryz.ntmps203;go_upto_region 1 with fail;rw[HW.out];go_wp2_with(go_fit HG;rintro e w1 ⟨rfl,ab⟩;have b1:=Aa ((ab.block _ (aF B)).trans B) (j:=1) (u:=aA io il ic) rfl);go_ret;exact⟨rfl,Ac aa ab⟩
theorem Av8 (t:TabD)(at')(eop ek en)(ex es em:Wd)(ei)(ea)(el ec)(e0)(to1)(tl1 tc1)(io)(il ic)(co)(cc)(C)(w)(he:IsE (fun k=>k<C) w e0 (aM #[J U eop,J U ek,J U en,H ex,H es,H em,J U ei,aA ea el ec]))(hC:C≤w.heap.size)(hx:Df e0)(hg:geB 40 e0=aO)(ht:t.name.size≤100000):
  aQ aB 123 #[aM #[aA to1 tl1 tc1,aA io il ic],aM #[H t.name,aA co t.cols.length cc],J U at',aM #[J U eop,J U ek,J U en,H ex,H es,H em,J U ei,aA ea el ec]] w fun e w'=>e=aH (J1 noW (Hm t.name) (Hn t.name))∧Below w.heap.size w w':=by
 obtain⟨aa,B0,B1,B2,B3,-⟩:=al4 w (aC #[aA to1 tl1 tc1,aA io il ic] 62) (aC #[H t.name,aA co t.cols.length cc] 82) (aC #[J U eop,J U ek,J U en,H ex,H es,H em,J U ei,aA ea el ec] 48) (aC #[H noW,H noW,H noW] 167);generalize hW:(((w.alloc _).alloc _).alloc _).alloc _=V at B0 B1 B2 B3 aa;have HW:Hid _:=hW;clear hW;have HG:=fun W hW=>Oq 40 (aL _) e0 _ C W (IsE.keep (Ae ((Ac aa hW).mono hC)) _ _ he) (aP hC (Ac aa hW).size) hx
 rw[hg]at HG;have ad:=HG V (aD _ _);have HA:=fun W=>Aqk _ W ht
 generalize Hm _=lo at HA⊢;generalize Hn _=hi at HA⊢;unfold J1 at HA⊢;have a0:=Aa B2 (j:=0) (u:=J _ eop) rfl;have a1:=Aa B2 (j:=1) (u:=J _ ek) rfl;have a2:=Aa B2 (j:=2) (u:=J _ en) rfl;have a3:=Aa B2 (j:=3) (u:=H ex) rfl;have a4:=Aa B2 (j:=4) (u:=H es) rfl;have a5:=Aa B2 (j:=5) (u:=H em) rfl;have a6:=Aa B2 (j:=6) (u:=J _ ei) rfl;have a7:=Aa B2 (j:=7) (u:=aA ea el ec) rfl;have n0:=Aa B1 (j:=0) (u:=H _) rfl;clear HG;go_enter Tryz.func123,Tryz.ntmps123;go_upto_region 1 with fail;rw[HW.out];go_wp2_with(first
  |(go_fit ad;rintro e w1 ⟨rfl,ab⟩;have m0:=Aa ((ab.block _ (aF B1)).trans B1) (j:=0) (u:=H _) rfl)
  |(go_fit(HA _);rintro e w2 ⟨rfl,ac⟩;have D3:=((Ac ab ac).block _ (aF B3)).trans B3;have r0:=Aa D3 (j:=0) (u:=H noW) rfl;have r1:=Aa D3 (j:=1) (u:=H noW) rfl;have r2:=Aa D3 (j:=2) (u:=H noW) rfl;have f0:w2.frozen? ⟨w.heap.size+3,0,Q⟩=aO:=(by simp[aN,D3]);have f1:w2.frozen? ⟨w.heap.size+3,1,Q⟩=aO:=(by simp[aN,D3]);have f2:w2.frozen? ⟨w.heap.size+3,2,Q⟩=aO:=(by simp[aN,D3])))
 exact Ya _ _ _ Tryz.results123 rfl rfl D3 (Ac aa (Ac ab ac)) (by omega) Tryz.underlying167 (by rfl)
end
section
open Go.RowKit
theorem Ov {α β:Type}{g:α→Option β}:∀{R:List α},R.Nodup→(∀x∈R,∀y∈R,∀r,g x=N r→g y=N r→x=y)→(R.filterMap g).Nodup
 |[],_,_=>by simp
 |a::R,hn,hi=>by
  rw[List.nodup_cons]at hn;have ih:=Ov hn.2 fun x hx y hy r=>hi x (by grind) y (by grind) r
  grind
theorem Apc {T}(hT:As T){k y:Wd}(h:(k,y)∈flat T):Hz (flat T) k=N y:=by
 cases hg:Hz _ k with
 |none=>exact absurd rfl (Aur.1 hg _ h)
 |some z=>
  have hr:((flat T).map _).Nodup:=hT.rise.imp fun h=>F3 h
  have:=by
   have aa:∀{F:List (Wd×Wd)},(F.map bF).Nodup→∀a∈F,∀b∈F,a.1=b.1→a=b:=by
    intro F
    induction F with
    |nil=>simp
    |cons c F ih=>
     grind
   exact aa hr _ (Wa hg) _ h rfl
  grind
section
variable {I:List IdxD}{t:TabD}{T:List Pg}{O:List (List V)}
end
theorem Aq6 {b k:Wd}{s}{l}(hk:k.data.toList=b.data.toList++l)(aa:Mu s l)(y:Wd):rq (b++s.lo) (b++s.hi) (k,y)=aJ:=by
 unfold rq;rw[Cx,Cx,hk,Ja,Ja,Dz,Dz,aa.1,aa.2];rfl
theorem As0 (t x){v id}(hv:good v=aJ)(ab:good id=aJ):V9 t x (If x v id)=N (H8 t id):=by
 have aa:(If x v id).data.toList=(Hl x).data.toList++Dy [v,id]:=by
  rw[If,Ja,Bs,I6 (by grind)]
 have hp:Lib.hasPrefix (If x v id).data.toList (Hl x).data.toList=aJ:=by
  rw[aa,Lib.hasPrefix,List.isPrefixOf_iff_prefix];exact List.prefix_append _ _
 have hr:(V8 x (If x v id)).data.toList=Dy [v,id]:=by
  show((Lib.trimPrefix _ _).toArray).toList=_;rw[Lib.trimPrefix,if_pos hp,aa,List.drop_left]
 unfold V9;rw[if_pos hp,hr,S3 _ (by grind)];rfl
theorem Tz (at')(e)(t):∀(I:List IdxD) (p:Sp×Wy),(I.foldl (Dx at' e t) p).2=p.2∨∃x∈I,0≤Eo t x∧(I.foldl (Dx at' e t) p).2=⟨x.name,Hl x.name++(Bu at' (Eo t x) 40 e aJ).lo,Hl x.name++(Bu at' (Eo t x) 40 e aJ).hi⟩
 |[],p=>.inl rfl
 |x::I,p=>by
  rw[List.foldl_cons];rcases Tz at' e t I (Dx at' e t p x)with h|⟨y,hy,h1,h2⟩
  ·rw[h];unfold Dx;grind
  grind
def Hc (n:Nat)(T:List Pg)(t:Wd)(W:Wy):List (List V):=if W.x=noW then F5 n (rng T W.lo W.hi)else Aj9 n T t W.x W.lo W.hi
theorem Ahy {p}(h:p.K.length≤4):(Fb p).length=1:=by unfold Fb;grind
def A43 (w w':aZ)(e:Ending)(T:List Pg)(k v:ByteArray):Prop:=
 ∃tv' T',e=aH tv'∧Bj w' tv' T'∧Below w.heap.size w w'∧As T'∧flat T'=I3 (flat T) k v∧T'.length≤1
theorem A4a (T:List Pg)(tv:bG)(k v:ByteArray)(w:aZ)(h:Bj w tv T)(hg:As T)(h1:T.length≤1)(h3:(flat T).length≤3):
  aQ aB 116 #[tv,H k,H v] w fun e w'=>A43 w w' e T k v:=by
 have hn:(T.length+1) *48≤140737488355328:=by omega
 rcases Nat.eq_zero_or_pos T.length with h0|h0
 ·obtain rfl:=bS h0;refine(Ahd tv k v w h).mono ?_;rintro e w' ⟨ab,he,ht,hb⟩;have h1:∀q∈([⟨[k],[v]⟩]:List Pg),q.ok:=by
   intro q hq;obtain rfl:q=_:=List.mem_singleton.1 hq;exact⟨by simp,by simp,rfl⟩
  exact⟨ab,_,he,ht,hb,⟨h1,by simp[Ch]⟩,by rfl,by simp⟩
 ·obtain⟨pg,pl,th,hF,fi⟩:=Va T k hg (by omega);rcases hF with⟨rfl,rfl,rfl,hall⟩|⟨A,p,B,K1,y,K3,rfl,hp,rfl,rfl,hA,hK,hy,rfl⟩
  ·obtain⟨A,p,rfl⟩:∃A p,T=A++[p]:=⟨T.dropLast,T.getLast (by rintro rfl;simp at h0),(List.dropLast_concat_getLast _).symm⟩;have aa:=hg.1 p (by simp);have ai:p.K.length≤3:=by
    rw[Bh,Fa,aU,aU,eP,aa.2.2]at h3;omega
   have aj:∀x∈Ch A,klt x k=aJ:=fun x hx=>hall x (by rw[Dk];grind)
   have c:=Zz hg (bA _).symm (bA _).symm aa.2.2 aj (fun x hx=>hall x (by rw[Dk];exact eF _ (by simpa[Ch]using hx))) (by simp) (by simp[Ch]);refine(Aql A [] p p.K [] p.V [] k v tv w h hg (bA _).symm (bA _).symm aa.2.2 fi rfl rfl hn).mono ?_;rintro e w' ⟨ab,he,ht,hb⟩;have hM:=Vn ⟨p.K++[k],p.V++[v]⟩ (by simp) (by grind) (by simp;exact aa.2.2);have hq:=O6 (v:=v) hg c hM (by
    rw[Bh,Bh,Qw _ (by simp;exact aa.2.2)];simp only;rw[dF aa.2.2.symm];simp)
   refine⟨ab,_,he,ht,hb,hq.1,hq.2,?_⟩;have:(Fb ⟨p.K++[k],p.V++[v]⟩).length=1:=Ahy (by grind);grind
  ·have aa:=hg.1 p (by simp);have ai:p.K.length≤3:=by
    rw[Bh,Fa,aU,aU,eP,aa.2.2]at h3;omega
   by_cases af:y=k
   ·subst af;obtain⟨V1,v0,V3,hV,ac,an,c⟩:=Pq hg hp hA hK;have ad:=by simpa using fi
    refine(Ahc A B p K1 K3 V1 V3 v0 y v tv w h hg (by grind) hV ac ad hn).mono ?_;rintro e w' ⟨ab,he,ht,hb⟩;have hq:=O6 (M:=[⟨p.K,V1++v::V3⟩]) (v:=v) hg c (by
     intro q hq;obtain rfl:=by simpa using hq
     refine⟨aa.1,aa.2.1,?_⟩;grind) (by
     rw[Bh,Bh,Fa,Rw,hp];simp only;rw[dF ac.symm];simp)
    exact⟨ab,_,he,ht,hb,hq.1,hq.2,by grind⟩
   ·have ag:klt k y=aJ:=by
     rcases Ji hy with e|e
     ·grind
     ·omega
    have ad:=by simpa[af]using fi
    have hr:=hg.2;rw[Dk,Ey,hp]at hr;have ah:=(Gu.1 hr).2.1;rw[cU]at ah;have ae:=(Gu.1 ah).2.1;rw[Cd,bC,cR]at ae;have ak:∀x∈y::K3,klt k x=aJ:=by
     intro x hx;rcases bR.1 hx with rfl|hx
     ·omega
     ·exact Co ag (ae.1 x (List.mem_append_left _ hx))
    have al:=fun x hx=>Co ag (ae.1 x (eF _ hx))
    have am:=aa.2.2;have ap:K1.length≤p.V.length:=by rw[am,hp];simp
    have hV:p.V=p.V.take _++p.V.drop K1.length:=(cP _ _).symm;have ac:(p.V.take K1.length).length=K1.length:=by simp;omega
    have c:=Zz hg hp hV ac hA hK ak al;refine(Ac9 A B p K1 _ _ _ k v tv w h hg hp hV ac ad hn).mono ?_;rintro e w' ⟨ab,he,ht,hb⟩;have aq:(K1++k::y::K3).length=p.K.length+1:=by rw[hp];simp;omega
    have ar:(p.V.take K1.length++v::p.V.drop K1.length).length=p.V.length+1:=by simp;omega
    have hM:=Vn ⟨K1++k::y::K3,p.V.take K1.length++v::p.V.drop K1.length⟩ (by grind) (by grind) (by grind);have hq:=O6 (v:=v) hg c hM (by
     rw[Bh,Bh,Qw _ (by grind)];simp only;rw[dF ac.symm];simp)
    refine⟨ab,_,he,ht,hb,hq.1,hq.2,?_⟩;have:(Fb ⟨K1++k::y::K3,p.V.take K1.length++v::p.V.drop K1.length⟩).length=1:=Ahy (by grind);grind
theorem Aem (I:List IdxD)(t:TabD)(r:List V)(T:List Pg)(pv tv iv sv rv:bG)(C:Nat)(w:aZ)(hp:Bj w pv T)(hg:As T)(hT:T.length≤1000000)(bi:Hk tv)
  (hi:IsL Eb (fun k=>k<C) w iv I) (hl:IsL Cp (fun k=>k<C) w sv t.cols) (hC:C≤w.heap.size) (hr:Cq w rv r) (av:r.length=t.cols.length) (h0:0<r.length) (bz:r.length≤1000000) (hs:∀v∈r,v.s.size≤bJ) (bj:∀x∈I,x.name.size≤1000000) (bk:t.name.size≤1000000) (hn:I.length≤1000000) (m:Nat:=T.length+1) (hm:m=T.length+1∨m=1∧T.length≤1∧(flat T).length≤3:=by exact .inl rfl):
  aQ aB 60 #[pv,aM #[tv,iv],aM #[H t.name,sv],rv] w fun e w'=>Aqo w w' e (putRow (flat T) I t r) (m+I.length):=by
 have ca:m≤T.length+1:=by omega
 obtain⟨ai,tn,tc,rfl⟩:=bi;obtain⟨cb,rfl,az⟩:=hp;obtain⟨po,pc,rfl⟩:=Ct az;have ba:=fun W (h:Below w.heap.size w W)=>Xg I t r (aA ai tn tc) iv sv rv C W (Ca _ _ _) (hi.keep (Ae (h.mono hC))) (hl.keep (Ae (h.mono hC))) (aP hC h.size) (hr.below h) av h0 hs bj hn
 obtain⟨io,ic,rfl⟩:=hi.shape;obtain⟨so,sc,rfl⟩:=hl.shape;rcases hr with⟨_,rfl⟩|⟨rb,ro,rcap,rfl,hrb,hR⟩
 ·simp at h0
 have st:=Adb (aA ai tn tc) (aA io I.length ic) (H t.name) (aA so t.cols.length sc) az hg;generalize hW:(((w.alloc (aC #[aA po T.length pc] 65)).alloc (aC #[aA ai tn tc,aA io I.length ic] 62)).alloc (aC #[H t.name,aA so t.cols.length sc] 82)).alloc (aC #[aA Q 0 0] 65)=W4 at st;have HW:Hid _:=hW;clear hW hi hl;have e0:=Aa st.tab (j:=0) rfl;have e1:=Aa st.tab (j:=1) rfl;have HF:=Of t.name so t.cols.length sc (N ⟨rb,ro,Q⟩) r.length rcap W4;rw[show(decide (0<r.length)&&decide (r.length=t.cols.length))=aJ by rw[decide_eq_true h0,decide_eq_true av];rfl]at HF;obtain⟨u,hu⟩:∃u,r[0]?=N u:=⟨_,aI h0⟩;have bb:r.headD zero=u:=by rw[dR,eE,hu];rfl
 have HR:=fun W=>Qv t.name u W bk (hs u (aY hu))
 rw[show H8 t.name u=rk t r by rw[rk,bb]]at HR;obtain⟨f0,f1,f2⟩:=hR 0 u hu;simp only[bZ,cA]at f0 f1 f2;have HS:Hid _:=hs;have bl:Hid _:=ba;clear hs ba hu bb av;obtain⟨uk,un,us⟩:=u;simp only[V.val]at HR;simp only at f0 f1 f2;go_enter Tryz.func60,Tryz.ntmps60;go_upto_region 1 with fail;rw[HW.out];go_wp2_with(go_fit HF;rintro e w1 ⟨rfl,bm⟩);have ab:=st.below bm;have ag:=ab.bel;have KS:Hid _:=fun W (h:Below w1.heap.size w1 W)=>Ahe (W:=W) (show W.cell? ⟨w.heap.size+2,0,Q⟩=N (H t.name)from Aa (ab.below h).tab (j:=0) rfl) (((ag.trans (h.mono ag.size)).cell (p:=⟨rb,ro,Q⟩) hrb).trans f0) (((ag.trans (h.mono ag.size)).cell (p:=⟨rb,ro+1,Q⟩) hrb).trans f1) (((ag.trans (h.mono ag.size)).cell (p:=⟨rb,ro+2,Q⟩) hrb).trans f2)
 have KT:Hid _:=fun W (h:Below w1.heap.size w1 W) (x:bG)=>Xh (W:=W) (g:=w.heap.size) (x:=x) (KS.out W h) (show w.heap.size+2≠w.heap.size by omega) (show rb≠w.heap.size by omega)
 have q0:=Aa ab.blk (j:=0) rfl;have HK:=fun W (h:Below w1.heap.size w1 W)=>Qu r (aA (N ⟨rb,ro,Q⟩) r.length rcap) W (.inr ⟨rb,ro,rcap,rfl,Nat.lt_of_lt_of_le hrb (ag.trans (h.mono ag.size)).size,hR.below (ag.trans (h.mono ag.size)) hrb⟩) (by omega) HS.out
 have HP:∀W,Below w1.heap.size w1 W→aQ aB 116 #[aM #[aA po T.length pc],H (rk t r),H (str (Bc r).1)] W fun e w'=>∃bc T',e=aH bc∧Bj w' bc T'∧Below W.heap.size W w'∧As T'∧flat T'=I3 (flat T) (rk t r) (str (Bc r).1)∧T'.length≤m:=fun W h=>by
  rcases hm with rfl|⟨rfl,h1,h3⟩
  ·exact Aqm T _ (rk t r) (str (Bc r).1) W ⟨_,rfl,ab.pgs.below h⟩ hg (by omega)
  ·exact A4a T _ (rk t r) (str (Bc r).1) W ⟨_,rfl,ab.pgs.below h⟩ hg h1 h3
 clear hm;have EF:Hid (putRow (flat T) I t r=Lp (I3 (flat T) (rk t r) (str (Bc r).1)) (iks I t r)):=rfl
 go_cut[4]from 16 (fun s4 wx=>s4=aW (N ⟨w.heap.size,0,Q⟩)∧∃ao k c T1,TrSt w #[aA ai tn tc,aA io I.length ic] #[H t.name,aA so t.cols.length sc] (I3 (flat T) (rk t r) (str (Bc r).1)) m ao k c T1 wx)
 case first=>
  refine wp_region_held_drew (S:=(fun W=>W.cell? ⟨w.heap.size+2,0,Q⟩=N (H t.name)∧W.cell? ⟨rb,ro,Q⟩=N (J U uk)∧W.cell? ⟨rb,ro+1,Q⟩=N (J U un)∧W.cell? ⟨rb,ro+2,Q⟩=N (H us))) (by rfl) ?_ (fun hHeld=>?_)
  ·exact KS.out _ (aD _ _).drew
  refine tk 1 ?_;refine tk 2 ?_;refine tk 3 ?_;refine tk 4 ?_;refine tk 5 ?_;refine tk 7 ?_;refine Aby 0 6 (fun K hK=>?_) (fun K hK=>?_)
  ·go_simp;go_wp2_with fail;refine hK.out _ _ ?_ (fun hHeld=>?_)
   ·omega
   clear hK K;refine Bi 6 (fun K hK=>?_);go_simp
   (go_fit(HR _);rintro e w2 ⟨rfl,aw⟩;have af:=Ac (aD _ _).drew aw;have q2:=Aa (ab.below af).blk (j:=0) rfl)
   go_wp2_with fail;refine hK.out _ _ ?_ (fun hHeld=>?_)
   ·exact KS.out _ af
   clear hK K;refine Bi 8 (fun K hK=>?_);go_simp
   (go_fit(HK _ af);rintro e w3 ⟨rfl,aj⟩;have ad:=Ac af aj;have q3:=Aa (ab.below ad).blk (j:=0) rfl)
   go_wp2_with fail;refine hK.out _ _ ?_ (fun hHeld=>?_)
   ·exact KS.out _ ad
   clear hK K;refine Bi 9 (fun K hK=>?_);go_simp
   (go_fit(HP _ ad);rintro e w4 ⟨bd,T4,rfl,ae,ak,al,am,an⟩;obtain⟨be,rfl,ae⟩:=ae;obtain⟨ap,c4,rfl⟩:=Ct ae;have ac:=Ac ad ak;have q4:=Aa (ab.below ac).blk (j:=0) rfl;have z4:w4.frozen? ⟨w.heap.size,0,Q⟩=aO:=(by simp[aN,(ab.below ac).blk]))
   go_wp2_with fail;refine hK.out _ _ ?_ (fun hHeld=>?_)
   ·exact KS.out _ ac
   clear hK K;refine Bi 10 (fun K hK=>?_);go_simp;go_wp2_with fail;refine hK.out _ _ ?_ (fun hHeld=>?_)
   ·exact KT.out _ ac _
   clear hK K;refine cT (by kernel_rfl) ?_ _;go_wp2_with fail;go_meet
   case rel=>exact⟨rfl,ap,_,c4,T4,ab.store ac ae al am an⟩
  ·go_simp
   (go_fit(HR _);rintro e w2 ⟨rfl,aw⟩;have af:=Ac (aD _ _).drew aw;have q2:=Aa (ab.below af).blk (j:=0) rfl)
   go_wp2_with fail;refine hK.out _ _ ?_ (fun hHeld=>?_)
   ·exact KS.out _ af
   clear hK K;refine Aby 0 8 (fun K hK=>?_) (fun K hK=>?_)
   ·go_simp;go_wp2_with fail;refine hK.out _ _ ?_ (fun hHeld=>?_)
    ·omega
    clear hK K;refine Bi 8 (fun K hK=>?_);go_simp
    (go_fit(HK _ af);rintro e w3 ⟨rfl,aj⟩;have ad:=Ac af aj;have q3:=Aa (ab.below ad).blk (j:=0) rfl)
    go_wp2_with fail;refine hK.out _ _ ?_ (fun hHeld=>?_)
    ·exact KS.out _ ad
    clear hK K;refine Bi 9 (fun K hK=>?_);go_simp
    (go_fit(HP _ ad);rintro e w4 ⟨bd,T4,rfl,ae,ak,al,am,an⟩;obtain⟨be,rfl,ae⟩:=ae;obtain⟨ap,c4,rfl⟩:=Ct ae;have ac:=Ac ad ak;have q4:=Aa (ab.below ac).blk (j:=0) rfl;have z4:w4.frozen? ⟨w.heap.size,0,Q⟩=aO:=(by simp[aN,(ab.below ac).blk]))
    go_wp2_with fail;refine hK.out _ _ ?_ (fun hHeld=>?_)
    ·exact KS.out _ ac
    clear hK K;refine Bi 10 (fun K hK=>?_);go_simp;go_wp2_with fail;refine hK.out _ _ ?_ (fun hHeld=>?_)
    ·exact KT.out _ ac _
    clear hK K;refine cT (by kernel_rfl) ?_ _;go_wp2_with fail;go_meet
    case rel=>exact⟨rfl,ap,_,c4,T4,ab.store ac ae al am an⟩
   ·go_simp
    (go_fit(HK _ af);rintro e w3 ⟨rfl,aj⟩;have ad:=Ac af aj;have q3:=Aa (ab.below ad).blk (j:=0) rfl)
    go_wp2_with fail;refine hK.out _ _ ?_ (fun hHeld=>?_)
    ·exact KS.out _ ad
    clear hK K;refine Bi 0 (fun K hK=>?_);go_simp;go_wp2_with fail;refine hK.out _ _ ?_ (fun hHeld=>?_)
    ·omega
    clear hK K;refine Bi 9 (fun K hK=>?_);go_simp
    (go_fit(HP _ ad);rintro e w4 ⟨bd,T4,rfl,ae,ak,al,am,an⟩;obtain⟨be,rfl,ae⟩:=ae;obtain⟨ap,c4,rfl⟩:=Ct ae;have ac:=Ac ad ak;have q4:=Aa (ab.below ac).blk (j:=0) rfl;have z4:w4.frozen? ⟨w.heap.size,0,Q⟩=aO:=(by simp[aN,(ab.below ac).blk]))
    go_wp2_with fail;refine hK.out _ _ ?_ (fun hHeld=>?_)
    ·exact KS.out _ ac
    clear hK K;refine Bi 10 (fun K hK=>?_);go_simp;go_wp2_with fail;refine hK.out _ _ ?_ (fun hHeld=>?_)
    ·exact KT.out _ ac _
    clear hK K;refine cT (by kernel_rfl) ?_ _;go_wp2_with fail;go_meet
    case rel=>exact⟨rfl,ap,T4.length,c4,T4,ab.store ac ae al am an⟩
 case rest=>
  obtain⟨rfl,bn,k5,c5,T5,ah⟩:=hcut;have x0:=Aa ah.cat (j:=0) rfl;have x1:=Aa ah.cat (j:=1) rfl;have x2:=Aa ah.tab (j:=0) rfl;have x3:=Aa ah.tab (j:=1) rfl;have HX:=bl.out wc ah.bel;have ax:Hid ((iks I t r).length≤I.length):=Qs I t r;generalize iks I t r=K at HX EF ax;have cc:K.length≤1000000:=aP ax.out hn;clear HK HP HR HF KS KT q0;go_wp2_with(go_fit HX;rintro e w6 ⟨kv,rfl,bf,bo⟩;obtain⟨ko,kc,rfl⟩:=Ex.shape bf)
  go_loopw[31] (fun i wr=>∃k:Nat,k≤K.length∧i=J U k∧An wr (aA ko K.length kc) K∧∃aq k2 c2 T2,TrSt w #[aA ai tn tc,aA io I.length ic] #[H t.name,aA so t.cols.length sc] (Lp (I3 (flat T) (rk t r) (str (Bc r).1)) (K.take k)) (m+k) aq k2 c2 T2 wr) (fun i _=>K.length-(cX i).toNat)
  case atStart=>exact⟨0,bU _,rfl,bf,bn,k5,c5,T5,ah.below bo⟩
  case round=>
   obtain⟨k,hk,rfl,bg,aq,k2,c2,T2,aa⟩:=hrel
   by_cases bp:k<K.length
   ·obtain⟨ay,hx⟩:∃x,K[k]?=N x:=⟨_,aI bp⟩;obtain⟨b,cd,cap,bq,hb,_,_,bh⟩:=bg.at (by omega);cases bq;have d0:=bh k ay hx;have y0:=Aa aa.blk (j:=0) rfl;have E2:Hid (Lp _ _=I3 (Lp (I3 (flat T) (rk t r) (str (Bc r).1)) _) ay noW):=Ase hx;have v0:(0:Int)≤k:=by omega
    have v1:k<(K.length:Int):=by omega
    clear hx bh;go_wp2_with(go_fit(Aqm T2 _ ay noW _ ⟨_,rfl,aa.pgs⟩ aa.good (by have:=aa.len;omega));rintro e w7 ⟨ce,T7,rfl,au,ar,bt,bu,bv⟩;obtain⟨cf,rfl,au⟩:=au;obtain⟨bw,c7,rfl⟩:=Ct au;have z7:w7.frozen? ⟨w.heap.size,0,Q⟩=aO:=(by simp[aN,(aa.below ar).blk]);have y7:=Aa (aa.below ar).blk (j:=0) rfl);go_roundw
    case rel=>exact⟨k+1,by omega,by rfl,Ta (bg.below ar) (aa.below ar).blk _,bw,_,c7,T7,aa.store ar au bt (by rw[bu,aa.flat,E2.out]) (aP bv (by have:=aa.len;omega))⟩
    case measure=>simp[cX];omega
   ·have bx:k=K.length:=by omega
    subst bx;have v1:¬(K.length<(K.length:Int)):=by omega
    have y0:=Aa aa.blk (j:=0) rfl;have y1:=Aa aa.res (j:=0) rfl;have y2:wr.frozen? ⟨w.heap.size+3,0,Q⟩=aO:=by simp[aN,aa.res]
    rw[bB]at aa;go_wp2;refine aS (v:=aM #[aA aq k2 c2]) (bH Tryz.results60 _ _ (w.heap.size+3) 65 #[aA aq k2 c2] _ _ rfl (Dj aa.res 0 (aA aq k2 c2)) eK rfl (by kernel_rfl)) rfl ?_;exact⟨_,T2,rfl,⟨_,rfl,Qx aa.pgs aa.res _⟩,aa.good,by rw[aa.flat,EF.out],aP aa.len (by have:=ax.out;omega),aa.bel.setCell (show w.heap.size≤w.heap.size+3 by omega) _⟩
theorem Av9 {p}{n k}(hp:p k=aJ)(hk:k<n):B6 p 0 n=aJ:=by
 cases h:B6 p 0 n with
 |true=>rfl
 |false=>have:=J0 h k (bU _) (by omega);grind
theorem Y2 {p}:∀(n i:Nat),(∀j,i≤j→j<i+n→p j=aO)→B6 p i n=aO
 |0,_,_=>rfl
 |n+1,i,h=>by rw[B6,h i (aL _) (by omega),Y2 n _ fun j h1 h2=>h j (by omega) (by omega)];rfl
structure TrG (w:aZ) (g:Nat) (B:List (Nat×Obj)) (ao:Option Addr) (k c:Nat) (T:List Pg) (wx:aZ):Prop where
 blk:wx.heap[g]?=N (aC #[aA ao k c] 65)
 pgs:Ba wx (aA ao k c) T
 good:As T
 old:∀p∈B,wx.heap[p.1]?=N p.2∧p.1≠g
 bel:Below w.heap.size w wx
 le:w.heap.size≤g
theorem TrG.below {w}{g}{B}{ao}{k c}{T}{W V}(h:TrG w g B ao k c T W)(hb:Below W.heap.size W V):TrG w g B ao k c T V:=
 ⟨(hb.block _ (aF h.blk)).trans h.blk,h.pgs.below hb,h.good,fun p hp=>⟨(hb.block _ (aF (h.old p hp).1)).trans (h.old p hp).1,(h.old p hp).2⟩,h.bel.trans (hb.mono h.bel.size),h.le⟩
theorem TrG.store {w}{g}{B}{ao ao'}{k c k' c'}{T T'}{W V}(h:TrG w g B ao k c T W)(hb:Below W.heap.size W V)(hp:Ba V (aA ao' k' c') T')(hg:As T'):
  TrG w g B ao' k' c' T' (V.setCell ⟨g,0,Q⟩ (aA ao' k' c')):=by
 have hV:=h.below hb;exact⟨by have:=Dj hV.blk 0 (aA ao' k' c');grind,Qx hp hV.blk _,hg,fun p hp=>⟨(Og (hV.old p hp).2 _ _).trans (hV.old p hp).1,(hV.old p hp).2⟩,hV.bel.setCell hV.le _,hV.le⟩
theorem TrG.grown {w}{g}{B}{ao}{k c}{T}{W V}{base}{z}(h:TrG w g B ao k c T W)(hg:W.grownBy V z)(hz:∀j,z=N j→base≤j)(hp:Ba V (aA ao k c) T)(h1:g<base)(h2:∀p∈B,p.1<base)(h3:w.heap.size≤base):TrG w g B ao k c T V:=
 ⟨(hg.block _ (aF h.blk) (fun e=>by grind)).trans h.blk,hp,h.good,fun p hp=>⟨(hg.block _ (aF (h.old p hp).1) (fun e=>by grind)).trans (h.old p hp).1,(h.old p hp).2⟩,h.bel.grown hg h.bel.size (fun j hj=>by grind),h.le⟩
theorem TrG.fst {w}{g a}{o}{B}{ao}{k c}{T}{W}(h:TrG w g ((a,o)::B) ao k c T W):W.heap[a]?=N o:=(h.old (a,o) (by simp)).1
theorem TrG.snd {w}{g a}{o}{p}{B}{ao}{k c}{T}{W}(h:TrG w g (p::(a,o)::B) ao k c T W):W.heap[a]?=N o:=(h.old (a,o) (by simp)).1
theorem Apd (I)(t)(r)(T)(pv tv iv sv rv)(C)(w)(hp:Bj w pv T)(hg:As T)(hT:T.length≤1000000)(bd:Hk tv)
  (hi:IsL Eb (fun k=>k<C) w iv I) (hl:IsL Cp (fun k=>k<C) w sv t.cols) (hC:C≤w.heap.size) (hr:Cq w rv r) (al:r.length=t.cols.length) (h0:0<r.length) (bv:r.length≤1000000) (hs:∀v∈r,v.s.size≤bJ) (be:∀x∈I,x.name.size≤1000000) (bf:t.name.size≤1000000) (hn:I.length≤1000000):
  aQ aB 120 #[pv,aM #[tv,iv],aM #[H t.name,sv],rv] w fun e w'=>Aqo w w' e (Kh (flat T) I t r) (T.length):=by
 obtain⟨ah,tn,tc,rfl⟩:=bd;obtain⟨bw,rfl,aw⟩:=hp;obtain⟨po,pc,rfl⟩:=Ct aw;have ax:=fun W (h:Below w.heap.size w W)=>Xg I t r (aA ah tn tc) iv sv rv C W (Ca _ _ _) (hi.keep (Ae (h.mono hC))) (hl.keep (Ae (h.mono hC))) (aP hC h.size) (hr.below h) al h0 hs be hn
 obtain⟨io,ic,rfl⟩:=hi.shape;obtain⟨so,sc,rfl⟩:=hl.shape;rcases hr with⟨_,rfl⟩|⟨rb,ro,rcap,rfl,hrb,hR⟩
 ·simp at h0
 have st:=Adb (aA ah tn tc) (aA io I.length ic) (H t.name) (aA so t.cols.length sc) aw hg;generalize hW:(((w.alloc (aC #[aA po T.length pc] 65)).alloc (aC #[aA ah tn tc,aA io I.length ic] 62)).alloc (aC #[H t.name,aA so t.cols.length sc] 82)).alloc (aC #[aA Q 0 0] 65)=W4 at st;have HW:Hid _:=hW;clear hW hi hl;have e0:=Aa st.tab (j:=0) rfl;have e1:=Aa st.tab (j:=1) rfl;have HF:=Of t.name so t.cols.length sc (N ⟨rb,ro,Q⟩) r.length rcap W4;rw[show(decide (0<r.length)&&decide (r.length=t.cols.length))=aJ by rw[decide_eq_true h0,decide_eq_true al];rfl]at HF;obtain⟨u,hu⟩:∃u,r[0]?=N u:=⟨_,aI h0⟩;have ay:r.headD zero=u:=by rw[dR,eE,hu];rfl
 have HR:=fun W=>Qv t.name u W bf (hs u (aY hu))
 rw[show H8 t.name u=rk t r by rw[rk,ay]]at HR;obtain⟨f0,f1,f2⟩:=hR 0 u hu;simp only[bZ,cA]at f0 f1 f2;have bg:Hid _:=ax;clear hs ax hu ay al;obtain⟨uk,un,us⟩:=u;simp only[V.val]at HR;simp only at f0 f1 f2;go_enter Tryz.func120,Tryz.ntmps120;go_upto_region 1 with fail;rw[HW.out];go_wp2_with(go_fit HF;rintro e w1 ⟨rfl,bh⟩);have ab:=st.below bh;have af:=ab.bel;have KS:Hid _:=fun W (h:Below w1.heap.size w1 W)=>Ahe (W:=W) (show W.cell? ⟨w.heap.size+2,0,Q⟩=N (H t.name)from Aa (ab.below h).tab (j:=0) rfl) (((af.trans (h.mono af.size)).cell (p:=⟨rb,ro,Q⟩) hrb).trans f0) (((af.trans (h.mono af.size)).cell (p:=⟨rb,ro+1,Q⟩) hrb).trans f1) (((af.trans (h.mono af.size)).cell (p:=⟨rb,ro+2,Q⟩) hrb).trans f2)
 have KT:Hid _:=fun W (h:Below w1.heap.size w1 W) (x:bG)=>Xh (W:=W) (g:=w.heap.size) (x:=x) (KS.out W h) (show w.heap.size+2≠w.heap.size by omega) (show rb≠w.heap.size by omega)
 have q0:=Aa ab.blk (j:=0) rfl;have HP:=fun W (h:Below w1.heap.size w1 W)=>Akz T (aM #[aA po T.length pc]) (rk t r) W ⟨_,rfl,ab.pgs.below h⟩ hg (by omega)
 have EF:Hid (Kh (flat T) I t r=Kb (Jz (flat T) (rk t r)) (iks I t r)):=rfl
 go_cut[4]from 16 (fun s4 wx=>s4=aW (N ⟨w.heap.size,0,Q⟩)∧∃ao k c T1,TrSt w #[aA ah tn tc,aA io I.length ic] #[H t.name,aA so t.cols.length sc] (Jz (flat T) (rk t r)) (T.length) ao k c T1 wx)
 case first=>
  refine wp_region_held_drew (S:=(fun W=>W.cell? ⟨w.heap.size+2,0,Q⟩=N (H t.name)∧W.cell? ⟨rb,ro,Q⟩=N (J U uk)∧W.cell? ⟨rb,ro+1,Q⟩=N (J U un)∧W.cell? ⟨rb,ro+2,Q⟩=N (H us))) (by rfl) ?_ (fun hHeld=>?_)
  ·exact KS.out _ (aD _ _).drew
  refine tk 1 ?_;refine tk 2 ?_;refine tk 3 ?_;refine tk 4 ?_;refine tk 5 ?_;refine Aby 0 6 (fun K hK=>?_) (fun K hK=>?_)
  ·go_simp;go_wp2_with fail;refine hK.out _ _ ?_ (fun hHeld=>?_)
   ·omega
   clear hK K;refine Bi 6 (fun K hK=>?_);go_simp
   (go_fit(HR _);rintro e w2 ⟨rfl,am⟩;have ad:=Ac (aD _ _).drew am;have q2:=Aa (ab.below ad).blk (j:=0) rfl)
   go_wp2_with fail;refine hK.out _ _ ?_ (fun hHeld=>?_)
   ·exact KS.out _ ad
   clear hK K;refine Bi 7 (fun K hK=>?_);go_simp
   (go_fit(HP _ ad);rintro e w4 ⟨bi,T4,rfl,ae,an,ap,aq,ar⟩;obtain⟨bj,rfl,ae⟩:=ae;obtain⟨au,c4,rfl⟩:=Ct ae;have ac:=Ac ad an;have q4:=Aa (ab.below ac).blk (j:=0) rfl;have z4:w4.frozen? ⟨w.heap.size,0,Q⟩=aO:=(by simp[aN,(ab.below ac).blk]))
   go_wp2_with fail;refine hK.out _ _ ?_ (fun hHeld=>?_)
   ·exact KS.out _ ac
   clear hK K;refine Bi 8 (fun K hK=>?_);go_simp;go_wp2_with fail;refine hK.out _ _ ?_ (fun hHeld=>?_)
   ·exact KT.out _ ac _
   clear hK K;refine cT (by kernel_rfl) ?_ _;go_wp2_with fail;go_meet
   case rel=>exact⟨rfl,au,_,c4,T4,ab.store ac ae ap aq ar⟩
  ·go_simp
   (go_fit(HR _);rintro e w2 ⟨rfl,am⟩;have ad:=Ac (aD _ _).drew am;have q2:=Aa (ab.below ad).blk (j:=0) rfl)
   go_wp2_with fail;refine hK.out _ _ ?_ (fun hHeld=>?_)
   ·exact KS.out _ ad
   clear hK K;refine Bi 0 (fun K hK=>?_);go_simp;go_wp2_with fail;refine hK.out _ _ ?_ (fun hHeld=>?_)
   ·omega
   clear hK K;refine Bi 7 (fun K hK=>?_);go_simp
   (go_fit(HP _ ad);rintro e w4 ⟨bi,T4,rfl,ae,an,ap,aq,ar⟩;obtain⟨bj,rfl,ae⟩:=ae;obtain⟨au,c4,rfl⟩:=Ct ae;have ac:=Ac ad an;have q4:=Aa (ab.below ac).blk (j:=0) rfl;have z4:w4.frozen? ⟨w.heap.size,0,Q⟩=aO:=(by simp[aN,(ab.below ac).blk]))
   go_wp2_with fail;refine hK.out _ _ ?_ (fun hHeld=>?_)
   ·exact KS.out _ ac
   clear hK K;refine Bi 8 (fun K hK=>?_);go_simp;go_wp2_with fail;refine hK.out _ _ ?_ (fun hHeld=>?_)
   ·exact KT.out _ ac _
   clear hK K;refine cT (by kernel_rfl) ?_ _;go_wp2_with fail;go_meet
   case rel=>exact⟨rfl,au,T4.length,c4,T4,ab.store ac ae ap aq ar⟩
 case rest=>
  obtain⟨rfl,bk,k5,c5,T5,ag⟩:=hcut;have x0:=Aa ag.cat (j:=0) rfl;have x1:=Aa ag.cat (j:=1) rfl;have x2:=Aa ag.tab (j:=0) rfl;have x3:=Aa ag.tab (j:=1) rfl;have HX:=bg.out wc ag.bel;have az:Hid ((iks I t r).length≤I.length):=Qs I t r;generalize iks I t r=K at HX EF az;have bx:K.length≤1000000:=aP az.out hn;clear HP HR HF KS KT q0;go_wp2_with(go_fit HX;rintro e w6 ⟨kv,rfl,ba,bl⟩;obtain⟨ko,kc,rfl⟩:=Ex.shape ba)
  go_loopw[29] (fun i wr=>∃k:Nat,k≤K.length∧i=J U k∧An wr (aA ko K.length kc) K∧∃ai k2 c2 T2,TrSt w #[aA ah tn tc,aA io I.length ic] #[H t.name,aA so t.cols.length sc] (Kb (Jz (flat T) (rk t r)) (K.take k)) (T.length) ai k2 c2 T2 wr) (fun i _=>K.length-(cX i).toNat)
  case atStart=>exact⟨0,bU _,rfl,ba,bk,k5,c5,T5,ag.below bl⟩
  case round=>
   obtain⟨k,hk,rfl,bb,ai,k2,c2,T2,aa⟩:=hrel
   by_cases bm:k<K.length
   ·obtain⟨av,hx⟩:∃x,K[k]?=N x:=⟨_,aI bm⟩;obtain⟨b,bz,cap,bn,hb,_,_,bc⟩:=bb.at (by omega);cases bn;have d0:=bc k av hx;have y0:=Aa aa.blk (j:=0) rfl;have E2:Hid (Kb _ _=Jz (Kb (Jz (flat T) (rk t r)) _) av):=An9 hx;have v0:(0:Int)≤k:=by omega
    have v1:k<(K.length:Int):=by omega
    clear hx bc;go_wp2_with(go_fit(Akz T2 _ av _ ⟨_,rfl,aa.pgs⟩ aa.good (by have:=aa.len;omega));rintro e w7 ⟨ca,T7,rfl,ak,aj,bo,bp,bq⟩;obtain⟨cb,rfl,ak⟩:=ak;obtain⟨bt,c7,rfl⟩:=Ct ak;have z7:w7.frozen? ⟨w.heap.size,0,Q⟩=aO:=(by simp[aN,(aa.below aj).blk]);have y7:=Aa (aa.below aj).blk (j:=0) rfl);go_roundw
    case rel=>exact⟨k+1,by omega,by rfl,Ta (bb.below aj) (aa.below aj).blk _,bt,_,c7,T7,aa.store aj ak bo (by rw[bp,aa.flat,E2.out]) (aP bq aa.len)⟩
    case measure=>simp[cX];omega
   ·have bu:k=K.length:=by omega
    subst bu;have v1:¬(K.length<(K.length:Int)):=by omega
    have y0:=Aa aa.blk (j:=0) rfl;have y1:=Aa aa.res (j:=0) rfl;have y2:wr.frozen? ⟨w.heap.size+3,0,Q⟩=aO:=by simp[aN,aa.res]
    rw[bB]at aa;go_wp2;refine aS (v:=aM #[aA ai k2 c2]) (bH Tryz.results120 _ _ (w.heap.size+3) 65 #[aA ai k2 c2] _ _ rfl (Dj aa.res 0 (aA ai k2 c2)) eK rfl (by kernel_rfl)) rfl ?_;exact⟨_,T2,rfl,⟨_,rfl,Qx aa.pgs aa.res _⟩,aa.good,by rw[aa.flat,EF.out],aa.len,aa.bel.setCell (show w.heap.size≤w.heap.size+3 by omega) _⟩
theorem Ami {α}{l}{p:α→Bool}(h:B6 (atI l p) 0 l.length=aO):∀x∈l,p x=aO:=by
 intro x hx;obtain⟨i,hi,rfl⟩:=List.getElem_of_mem hx;have:=J0 h i (bU _) (by omega);rwa[Hv (aI hi)]at this
theorem Agg {s}(h:nm s=aJ):s.size≤8:=by
 simp only[nm,aG,decide_eq_true_eq]at h;omega
theorem Ed {c}(h:Dv c=aJ):c.indexes.length≤4∧(∀x∈c.indexes,x.name.size≤8)∧∀t∈c.tables,t.name.size≤8∧0<t.cols.length∧t.cols.length≤4:=by
 simp only[Dv,aG,decide_eq_true_eq]at h;obtain⟨⟨⟨_,h2⟩,h3⟩,h4⟩:=h;simp only[Q3,Tf,aG,cV]at h3 h4;refine⟨h2,fun x hx=>?_,fun t ht=>?_⟩
 ·have:=Ami h4.1 x hx;simp only[Kc,eG,cS]at this;exact Agg this.1
 ·have:=Ami h3.1 t ht;simp only[cS,Kr,aG,decide_eq_true_eq]at this;obtain⟨⟨⟨⟨h5,h6⟩,h7⟩,_⟩,_⟩:=this;exact⟨Agg h5,h6,h7⟩
theorem Ee {T}{t}{s}(h:Bv T s=N t):t∈T∧t.name=s:=by
 refine⟨List.mem_of_find?_eq_some h,?_⟩;have:=List.find?_some h;grind
theorem Ape {F}{I}{t}{A:List (List V)}{k}{r}(h:A[k]?=N r):G1 F I t (A.take (k+1))=Kh (G1 F I t (A.take k)) I t r:=by
 rw[cD,h,Option.toList_some,An7]
theorem Y3 {α:Type}{r:α→α→Prop}(aa:∀a b,r a b→¬r b a):∀{l m:List α},l.Pairwise r→m.Pairwise r→(∀x,x∈l↔x∈m)→l=m
 |[],[],_,_,_=>rfl
 |[],b::m,_,_,h=>by have:=(h b).2 (by simp);cases this
 |a::l,[],_,_,h=>by have:=(h a).1 (by simp);cases this
 |a::l,b::m,h1,h2,h=>by
  rw[cR]at h1 h2;have ab:a=b:=by
   rcases bR.1 ((h a).1 (by simp))with e|e
   ·omega
   ·rcases bR.1 ((h b).2 (by simp))with e'|e'
    ·grind
    grind
  subst ab;rw[Y3 aa h1.2 h2.2 fun x=>⟨fun hx=>?_,fun hx=>?_⟩]
  ·grind
  grind
theorem Aq7 {s}(h:nm s=aJ):(0:UInt8)∉s.data.toList:=by
 simp only[nm,aG]at h;intro h0;have:=cZ.1 h.1.2 0 h0;exact absurd this (by decide)
theorem Amj {a b:Wd}(h:a.data.toList=b.data.toList):a=b:=by
 obtain⟨a⟩:=a;simp_all
theorem Rb:∀{a b p q:List UInt8},(0:UInt8)∉a→(0:UInt8)∉b→a++0::p=b++0::q→a=b∧p=q
 |[],[],p,q,_,_,h=>⟨rfl,by grind⟩
 |[],y::b,p,q,_,hb,h=>by grind
 |x::a,[],p,q,ha,_,h=>by grind
 |x::a,y::b,p,q,ha,hb,h=>by
  simp only[bC,bL]at h;obtain⟨e1,e2⟩:=Rb (fun h0=>ha (by simp[h0])) (fun h0=>hb (by simp[h0])) h.2;grind
theorem Azl {a b c d}(ha:good a=aJ)(hb:good b=aJ)(hc:good c=aJ)(hd:good d=aJ)(h:(Bc [a,b]).1=(Bc [c,d]).1):a=c∧b=d:=by
 have g1:∀v∈[a,b],good v=aJ:=by simp[ha,hb]
 have g2:∀v∈[c,d],good v=aJ:=by simp[hc,hd]
 rw[I6 g1,I6 g2]at h;have h1:=S3 _ g1;have h2:=S3 _ g2;grind
theorem Amk {s t}{a b}(hs:(0:UInt8)∉s.data.toList)(ht:(0:UInt8)∉t.data.toList)(h:H8 s a=H8 t b):s=t∧(Bc [a]).1=(Bc [b]).1:=by
 have:=congrArg (fun x=>x.data.toList) h;simp only[Js,bL,true_and]at this;obtain⟨h1,h2⟩:=Rb hs ht this;exact⟨Amj h1,h2⟩
theorem Azm {s t}{a b c d}(hs:(0:UInt8)∉s.data.toList)(ht:(0:UInt8)∉t.data.toList)(h:If s a b=If t c d):s=t∧(Bc [a,b]).1=(Bc [c,d]).1:=by
 have:=congrArg (fun x=>x.data.toList) h;simp only[P4,bL,true_and]at this;obtain⟨h1,h2⟩:=Rb hs ht this;exact⟨Amj h1,h2⟩
theorem Abb:∀{p x lo hi:List UInt8},aE x (p++lo)=aO→aE x (p++hi)=aJ→∃s,x=p++s
 |[],x,_,_,_,_=>⟨x,rfl⟩
 |a::p,[],lo,hi,h1,_=>by simp[aE]at h1
 |a::p,b::x,lo,hi,h1,h2=>by
  by_cases aa:b=a
  ·subst aa;have e:∀q,aE (b::x) (b::q)=aE x q:=fun q=>by have:=Dz [b] x q;grind
   rw[bC,e]at h1 h2;obtain⟨s,hs⟩:=Abb h1 h2;grind
  ·by_cases ab:b<a
   ·rw[bC,G8 ab]at h1;grind
   ·have ac:a<b:=by
     rw[dV]at ab⊢;have:b.toNat≠a.toNat:=fun e=>aa (UInt8.toNat_inj.1 e)
     omega
    rw[bC,Lm _ _ (G8 ac _ _)]at h2;grind
structure Db where
 c:CatD
 R:Wd→List (List V)
structure DbOk (d:Db):Prop where
 cat:Dv d.c=aJ
 fit:∀t∈d.c.tables,∀r∈d.R t.name,Ga t r=aJ
 rise:∀t∈d.c.tables,(d.R t.name).Pairwise fun a b=>klt (rk t a) (rk t b)=aJ
 len:∀t∈d.c.tables,(d.R t.name).length≤30
 non:∀s,(∀t∈d.c.tables,t.name≠s)→d.R s=[]
def Has (d:Db)(F:PL):Prop:=∀x,x∈F↔∃t∈d.c.tables,∃r∈d.R t.name,A4s d.c.indexes t r x
def Ge:Db:=⟨⟨[],[]⟩,fun _=>[]⟩
theorem Aml:DbOk Ge:=⟨by rfl,by simp[Ge],by simp[Ge],by simp[Ge],fun _ _=>rfl⟩
theorem Awa:Has Ge []:=fun x=>by simp[Ge]
section
variable {c:CatD}(hc:Dv c=aJ)
include hc
theorem Pf {t u:TabD}(ht:t∈c.tables)(hu:u∈c.tables)(h:t.name=u.name):t=u:=Z4 ((Cw c).1 hc).2.2.2.1 ht hu h
theorem A4b {t:TabD}(ht:t∈c.tables):nm t.name=aJ:=by
 have:=((Cw c).1 hc).2.2.1 t ht;simp only[Kr,aG]at this;grind
theorem Mw {t:TabD}(ht:t∈c.tables):(0:UInt8)∉t.name.data.toList:=Aq7 (A4b hc ht)
theorem Awb {x:IdxD}(hx:x∈c.indexes):nm x.name=aJ:=by
 have:=((Cw c).1 hc).2.2.2.2.1 x hx;simp only[Kc,eG,cS]at this;grind
theorem Acc {x:IdxD}(hx:x∈c.indexes):(0:UInt8)∉x.name.data.toList:=Aq7 (Awb hc hx)
theorem A2f {x y:IdxD}(hx:x∈c.indexes)(hy:y∈c.indexes)(h:x.name=y.name):x=y:=Z4 ((Cw c).1 hc).2.2.2.2.2 hx hy h
theorem Hf {t:TabD}(ht:t∈c.tables):0<t.cols.length∧t.cols.length≤4:=((Ed hc).2.2 t ht).2
end
theorem Px {t}{x}(h:0≤Eo t x):x.table=t.name:=by
 unfold Eo at h;grind
theorem A5k {I}{t}{r}{k}:k∈iks I t r↔∃x∈I,0≤Eo t x∧k=If x.name (r.getD (Eo t x).toNat zero) (r.headD zero):=by
 unfold iks;rw[bE];constructor
 ·rintro⟨x,hx,h⟩;unfold X5 at h;grind
 ·rintro⟨x,hx,h0,rfl⟩;exact⟨x,hx,by rw[X5,if_pos h0]⟩
theorem Awc {t}{r}(h0:0<t.cols.length)(h:Ga t r=aJ):good (r.headD zero)=aJ:=by
 obtain⟨h1,h2⟩:=B7 h;cases r with
 |nil=>rfl
 |cons a r=>grind
theorem Agh {t}{r}{x}(h:Ga t r=aJ)(hx:0≤Eo t x):good (r.getD (Eo t x).toNat zero)=aJ:=by
 obtain⟨h1,h2⟩:=B7 h;rcases Vm t x with hq|⟨p,hq,hp⟩
 ·omega
 grind
theorem Amm {T}(hT:As T)(lo hi:Wd):Cd ((rng T lo hi).map bF):=hT.rise.sublist ((eI).map _)
section
variable {d:Db}(ok:DbOk d)
include ok
theorem Lu {t:TabD}(ht:t∈d.c.tables){r:List V}(hr:r∈d.R t.name):good (r.headD zero)=aJ:=Awc (Hf ok.cat ht).1 (ok.fit t ht r hr)
theorem A4c {t u:TabD}(ht:t∈d.c.tables)(hu:u∈d.c.tables){r q:List V}(h:rk t r=rk u q):t=u:=Pf ok.cat ht hu (Amk (Mw ok.cat ht) (Mw ok.cat hu) h).1
theorem Y4 {t:TabD}(ht:t∈d.c.tables){r q:List V}(hr:r∈d.R t.name)(hq:q∈d.R t.name)(h:rk t r=rk t q):r=q:=by
 have hp:=ok.rise t ht;have:∀{l:List _},l.Pairwise (fun a b=>klt (rk t a) (rk t b)=aJ)→r∈l→q∈l→r=q:=by
  intro l
  induction l with
  |nil=>simp
  |cons a l ih=>
   intro hp hr hq;rw[cR]at hp;rcases bR.1 hr with rfl|hr'
   ·rcases bR.1 hq with rfl|hq'
    ·rfl
    ·exact absurd h (F3 (hp.1 _ hq'))
   ·rcases bR.1 hq with rfl|hq'
    ·exact absurd h.symm (F3 (hp.1 _ hr'))
    grind
 grind
theorem Sl {F:PL}(h:Has d F){t:TabD}(ht:t∈d.c.tables){id:V}{v:Wd}:(H8 t.name id,v)∈F↔∃q∈d.R t.name,rk t q=H8 t.name id∧v=str (Bc q).1:=by
 rw[h];constructor
 ·rintro⟨u,hu,q,hq,hg⟩;rcases hg with e|⟨hk,_⟩
  ·have h1:=congrArg bF e;simp only[rk]at h1;have h2:=Pf ok.cat ht hu (Amk (Mw ok.cat ht) (Mw ok.cat hu) h1).1;grind
  ·obtain⟨x,v,aa,hk⟩:=Nd hk;exact absurd hk (Jl _ _ _ _ _)
 ·rintro⟨q,hq,h1,rfl⟩;exact⟨t,ht,q,hq,.inl (by grind)⟩
theorem Aq8 {F:PL}(h:Has d F){t:TabD}(ht:t∈d.c.tables)(r:List V):Hz F (rk t r)=Q↔∀q∈d.R t.name,rk t q≠rk t r:=by
 rw[Aur];constructor
 ·intro h1 q hq e;exact h1 _ ((Sl ok h ht).2 ⟨q,hq,e,rfl⟩) rfl
 ·intro h1 x hx e;obtain⟨k,v⟩:=x;simp only at e;subst e;obtain⟨q,hq,e,_⟩:=(Sl ok h ht).1 hx;exact h1 q hq e
theorem Agi {T:List Pg}(h:Has d (flat T)){t:TabD}(ht:t∈d.c.tables)(lo hi:Wd){x:Wd×Wd}:x∈rng T (De t.name++lo) (De t.name++hi)↔(∃r∈d.R t.name,x=(rk t r,str (Bc r).1))∧rq (De t.name++lo) (De t.name++hi) x=aJ:=by
 unfold rng;rw[aT];refine and_congr_left fun hq=>?_
 rw[h];constructor
 ·rintro⟨u,hu,q,ab,hg⟩;have aa:=hq;unfold rq at aa;rw[Cx,Cx,Ja,Ja,aG,cV]at aa;obtain⟨s,hs⟩:=Abb aa.1 aa.2;rcases hg with e|⟨hk,_⟩
  ·have h1:x.1=rk u q:=congrArg _ e;rw[h1,rk,Js,P3]at hs;simp only[bC,cU,bL,true_and,List.nil_append]at hs;have h3:=Pf ok.cat hu ht (Amj ((Rb (Mw ok.cat hu) (Mw ok.cat ht) hs).1));grind
  ·obtain⟨y,v,ac,hk⟩:=Nd hk;rw[hk,P4,P3]at hs;grind
 ·rintro⟨r,hr,rfl⟩;exact⟨t,ht,r,hr,.inl rfl⟩
theorem A2g {T:List Pg}(hT:As T)(h:Has d (flat T)){t:TabD}(ht:t∈d.c.tables):rng T (Hm t.name) (Hn t.name)=(d.R t.name).map (fun r=>(rk t r,str (Bc r).1)):=by
 have aa:∀a b:Wd×Wd,klt a.1 b.1=aJ→¬klt b.1 a.1=aJ:=fun a b h1 h2=>by rw[Kx h1]at h2;grind
 refine Y3 (r:=fun a b=>klt a.1 b.1=aJ) aa ?_ ?_ fun x=>?_
 ·have:=Amm hT (Hm t.name) (Hn t.name);grind
 ·rw[cE];exact ok.rise t ht
 ·unfold Hm Hn;rw[Agi ok h ht,eD];constructor
  ·grind
  ·rintro⟨r,hr,rfl⟩;exact⟨⟨r,hr,rfl⟩,Aut (Lu ok ht hr) _⟩
theorem Aq9 {t:TabD}(ht:t∈d.c.tables):∀{l:List (List V)},(∀r∈l,r∈d.R t.name)→F5 t.cols.length (l.map fun r=>(rk t r,str (Bc r).1))=l
 |[],_=>rfl
 |r::l,h=>by
  obtain⟨h1,h2⟩:=B7 (ok.fit t ht r (h r (by simp)));have e:=Ahb (Hf ok.cat ht).1 h1 h2;have ih:=Aq9 ht (l:=l) fun q hq=>h q (by grind)
  unfold F5 at ih⊢;grind
theorem Acd {T:List Pg}(hT:As T)(h:Has d (flat T)){t:TabD}(ht:t∈d.c.tables):F5 t.cols.length (rng T (Hm t.name) (Hn t.name))=d.R t.name:=by
 rw[A2g ok hT h ht,Aq9 ok ht fun r hr=>hr]
end
theorem J7 {α β:Type}(f:α→List β)(k):∀(l:List α),(∀x∈l,(f x).length≤k)→(l.flatMap f).length≤l.length*k
 |[],_=>by simp
 |a::l,h=>by
  have h1:=h a (by simp);have h2:=J7 f k l fun x hx=>h x (by grind)
  rw[eL,aU,eM,Nat.add_mul];omega
theorem Lv {d}(ok:DbOk d){T}(hT:As T)(h:Has d (flat T)):(flat T).length≤450:=by
 have hn:(flat T).Nodup:=by
  have:=hT.rise;rw[Cd,cE]at this;exact List.Pairwise.imp (fun{a b} h (e:a=b)=>F3 h (congrArg bF e)) this
 have hI:=(Ed ok.cat).1;have h3:=((Cw d.c).1 ok.cat).1;have h1:=X7 hn (B:=d.c.tables.flatMap fun t=>(d.R _).flatMap fun r=>(rk t r,str (Bc r).1)::(iks d.c.indexes t r).map fun k=>(k,noW)) fun x hx=>by
  obtain⟨t,ht,r,hr,hg⟩:=(h x).1 hx;refine cY.2 ⟨t,ht,cY.2 ⟨r,hr,?_⟩⟩;rcases hg with rfl|⟨hk,hv⟩
  ·simp
  grind
 have h2:=J7 (fun t=>(d.R t.name).flatMap fun r=>(rk t r,str (Bc r).1)::(iks d.c.indexes t r).map fun k=>(k,noW)) 150 _ fun t ht=>by
  have h4:=J7 (fun r=>(rk t r,str (Bc r).1)::(iks d.c.indexes t r).map fun k=>(k,noW)) 5 (d.R t.name) fun r _=>by
   have:=Qs d.c.indexes t r;grind
  have:=ok.len t ht;omega
 omega
theorem Jb {T}(hT:As T):T.length≤(flat T).length:=by
 rw[Aak hT.1];have:∀(T),(∀p∈T,p.ok)→T.length≤(Ch T).length:=by
  intro T
  induction T with
  |nil=>simp
  |cons p T ih=>
   intro h;have h1:=ih fun q hq=>h q (by grind)
   have h2:=(h p (by simp)).1;simp only[Ch,eL,aU,eM]at h1⊢;omega
 exact this T hT.1
theorem Qc {d}(ok:DbOk d){F}(h:Has d F):∀x∈F,x.1.size≤1000000∧x.2.size≤1000000:=by
 intro x hx;obtain⟨t,ht,r,hr,hg⟩:=(h x).1 hx;obtain⟨_,ab,aa⟩:=Ed ok.cat;obtain⟨ac,_,h4⟩:=aa t ht;have hl:=(B7 (ok.fit t ht r hr)).1;rcases hg with rfl|⟨hk,he⟩
 ·refine⟨?_,?_⟩
  ·show(H8 _ _).size≤_;rw[H8,O4,S9];have:=Ki [r.headD zero];grind
  ·have:=Ki r;grind
 ·refine⟨?_,by rw[he];exact bU _⟩;obtain⟨y,hy,_,hx⟩:=A5k.1 hk;rw[hx,If,O4,X9];have:=Ki [r.getD (Eo t y).toNat zero,r.headD zero];grind
def Db.upd (d:Db)(s:Wd)(l:List (List V)):Db:=⟨d.c,fun n=>if n=s then l else d.R n⟩
theorem Ph {d:Db}(hc:Dv d.c=aJ){t u}(ht:t∈d.c.tables)(hu:u∈d.c.tables){l}{q}:q∈(d.upd t.name l).R u.name↔(u=t∧q∈l)∨(u≠t∧q∈d.R u.name):=by
 show q∈(if u.name=t.name then l else d.R _)↔_
 by_cases h:u.name=t.name
 ·have:=Pf hc hu ht h;grind
 grind
theorem Awd {d:Db}(ok:DbOk d){t:TabD}(ht:t∈d.c.tables){l:List (List V)}(h1:∀r∈l,Ga t r=aJ)(h2:l.Pairwise fun a b=>klt (rk t a) (rk t b)=aJ)(h3:l.length≤30):DbOk (d.upd t.name l):=by
 refine⟨ok.cat,fun u hu r hr=>?_,fun u hu=>?_,fun u hu=>?_,fun s hs=>?_⟩
 ·rcases(Ph ok.cat ht hu).1 hr with⟨rfl,h⟩|⟨_,h⟩
  ·grind
  ·exact ok.fit u hu r h
 ·show(if u.name=t.name then l else d.R _).Pairwise _
  by_cases h:u.name=t.name
  ·have:=Pf ok.cat hu ht h;grind
  ·rw[if_neg h];exact ok.rise u hu
 ·show(if u.name=t.name then l else d.R _).length≤30
  by_cases h:u.name=t.name
  ·grind
  ·rw[if_neg h];exact ok.len u hu
 ·show(if s=t.name then l else d.R s)=[];rw[if_neg fun e=>hs t ht e.symm];exact ok.non s hs
theorem Apf {d:Db}(ok:DbOk d){t u:TabD}(ht:t∈d.c.tables)(hu:u∈d.c.tables){r q:List V}(hr:r∈d.R t.name)(hq:q∈d.R u.name){k:Wd}(h1:k=rk t r∨k∈iks d.c.indexes t r)(h2:k=rk u q∨k∈iks d.c.indexes u q):u=t∧q=r:=by
 have fin:rk t r=rk u q→u=t∧q=r:=fun e=>by
  have:=A4c ok ht hu e;subst this;exact⟨rfl,(Y4 ok ht hr hq e).symm⟩
 rcases h1 with h1|h1
 ·rcases h2 with h2|h2
  ·grind
  ·obtain⟨x,v,id,h2⟩:=Nd h2;exact absurd (h1.symm.trans h2) (Jl _ _ _ _ _)
 ·rcases h2 with h2|h2
  ·obtain⟨x,v,id,h1⟩:=Nd h1;exact absurd (h2.symm.trans h1) (Jl _ _ _ _ _)
  ·obtain⟨x,hx,aa,e1⟩:=A5k.1 h1;obtain⟨y,hy,ab,e2⟩:=A5k.1 h2;obtain⟨n1,n2⟩:=Azm (Acc ok.cat hx) (Acc ok.cat hy) (e1.symm.trans e2);have ac:=A2f ok.cat hx hy n1;subst ac;have ad:=Pf ok.cat hu ht ((Px ab).symm.trans (Px aa));subst ad;have:=Azl (Agh (ok.fit _ ht r hr) aa) (Lu ok ht hr) (Agh (ok.fit _ ht q hq) ab) (Lu ok ht hq) n2;refine⟨rfl,(Y4 ok ht hr hq ?_).symm⟩;rw[rk,rk,this.2]
section
variable {d:Db}(ok:DbOk d) {t:TabD}(ht:t∈d.c.tables) {F:PL}(h:Has d F)
include ok ht h
theorem A2h {r:List V}(hn:∀q∈d.R t.name,rk t q≠rk t r):Has (d.upd t.name (Eh (rk t) (d.R t.name) r)) (putRow F d.c.indexes t r):=by
 have ab:=Aur.1 ((Aq8 ok h ht r).2 hn);intro x;unfold putRow;rw[X6]
 ·rw[Abv];constructor
  ·rintro((e|⟨h1,_⟩)|h1)
   ·exact⟨t,ht,r,(Ph ok.cat ht ht).2 (.inl ⟨rfl,A5d.2 (.inl rfl)⟩),.inl e⟩
   ·obtain⟨u,hu,q,hq,hg⟩:=(h x).1 h1;refine⟨u,hu,q,(Ph ok.cat ht hu).2 ?_,hg⟩
    by_cases aa:u=t
    ·subst aa;exact .inl ⟨rfl,A5d.2 (.inr hq)⟩
    grind
   ·exact⟨t,ht,r,(Ph ok.cat ht ht).2 (.inl ⟨rfl,A5d.2 (.inl rfl)⟩),.inr h1⟩
  ·rintro⟨u,hu,q,hq,hg⟩;have old:q∈d.R u.name→(x=(rk t r,str (Bc r).1)∨x∈F∧x.1≠rk t r)∨x.1∈iks d.c.indexes t r∧x.2=noW:=fun hq=>by
    have hx:=(h x).2 ⟨u,hu,q,hq,hg⟩;grind
   rcases(Ph ok.cat ht hu).1 hq with⟨rfl,hq⟩|⟨_,hq⟩
   ·rcases A5d.1 hq with rfl|hq
    ·rcases hg with e|e
     ·grind
     ·exact .inr e
    grind
   grind
 ·intro y hy hk;obtain⟨a,v,id,hk⟩:=Nd hk;rcases Abv.1 hy with e|⟨h1,_⟩
  ·rw[e]at hk;exact absurd hk (Jl _ _ _ _ _)
  ·obtain⟨u,hu,q,hq,hg⟩:=(h y).1 h1;rcases hg with e|e
   ·rw[e]at hk;exact absurd hk (Jl _ _ _ _ _)
   grind
omit h in
theorem A4d {r:List V}(hf:Ga t r=aJ)(hn:∀q∈d.R t.name,rk t q≠rk t r)(hl:(d.R t.name).length<30):DbOk (d.upd t.name (Eh (rk t) (d.R t.name) r)):=by
 refine Awd ok ht (fun q hq=>?_) ?_ (by rw[Mc];omega)
 ·rcases A5d.1 hq with rfl|hq
  ·omega
  ·exact ok.fit t ht q hq
 ·have:=Yv (by rw[Cd,cE];exact ok.rise t ht) hn;grind
theorem Ace {A:List (List V)}{p:List V→Bool}(hA:∀r,r∈A↔r∈d.R t.name∧p r=aJ):Has (d.upd t.name ((d.R t.name).filter fun r=>!p r)) (G1 F d.c.indexes t A):=by
 intro x;rw[Ac8];constructor
 ·rintro⟨hx,ac⟩;obtain⟨u,hu,q,hq,hg⟩:=(h x).1 hx;refine⟨u,hu,q,(Ph ok.cat ht hu).2 ?_,hg⟩
  by_cases ab:u=t
  ·subst ab;refine .inl ⟨rfl,aT.2 ⟨hq,?_⟩⟩;cases hp:p q with
   |false=>rfl
   |true=>
    have:=ac q ((hA q).2 ⟨hq,hp⟩);rcases hg with e|e
    ·grind
    grind
  grind
 ·rintro⟨u,hu,q,hq,hg⟩;have ad:x.1=rk u q∨x.1∈iks d.c.indexes u q:=hg.imp (congrArg _) And.left;have aa:q∈d.R u.name∧(u=t→p q=aO):=by
   rcases(Ph ok.cat ht hu).1 hq with⟨rfl,hq⟩|⟨ab,hq⟩
   ·grind
   ·grind
  refine⟨(h x).2 ⟨u,hu,q,aa.1,hg⟩,fun r hr=>?_⟩;obtain⟨ae,af⟩:=(hA r).1 hr;have no:¬(x.1=rk t r∨x.1∈iks _ t r):=fun hh=>by
   obtain⟨e1,e2⟩:=Apf ok ht hu ae aa.1 hh ad;rw[e2,af]at aa;exact absurd (aa.2 e1) (by simp)
  grind
omit h in
theorem Agj (p:List V→Bool):DbOk (d.upd t.name ((d.R t.name).filter p)):=
 Awd ok ht (fun q hq=>ok.fit t ht q (aT.1 hq).1) ((ok.rise t ht).sublist eI) (aP (List.length_filter_le _ _) (ok.len t ht))
end
def Mm (F:PL)(I:List IdxD)(t:TabD)(A:List (List V)):PL:=A.foldl (fun F r=>putRow F I t r) F
theorem As1 (F)(I)(t)(A)(r):Mm F I t (A++[r])=putRow (Mm F I t A) I t r:=by simp[Mm]
theorem Ahz {I}{t}{x:Wd×Wd}:∀(A:List (List V)) (F:PL),(∀r∈A,(rk t r,str (Bc r).1)∈F∧∀y∈F,y.1=rk t r→y.2=str (Bc r).1)→(∀r∈A,∀y∈F,y.1∈iks I t r→y.2=noW)→(x∈Mm F I t A↔x∈F∨∃r∈A,x.1∈iks I t r∧x.2=noW)
 |[],F,_,_=>by simp[Mm]
 |r::A,F,h1,h2=>by
  have step:∀y,y∈putRow F I t r↔y∈F∨(y.1∈iks I t r∧y.2=noW):=fun y=>by
   obtain⟨a1,a2⟩:=h1 r (by simp);have e:∀z,z∈I3 F (rk t r) (str (Bc r).1)↔z∈F:=fun z=>by
    rw[Abv];constructor
    ·rintro(rfl|⟨hz,_⟩)
     ·exact a1
     ·exact hz
    ·intro hz
     by_cases hk:z.1=rk t r
     ·exact .inl (Prod.ext hk (a2 z hz hk))
     ·exact .inr ⟨hz,hk⟩
   unfold putRow;rw[X6,e];intro z hz hk;exact h2 r (by simp) z ((e z).1 hz) hk
  have e:Mm F I t (r::A)=Mm (putRow F I t r) I t A:=rfl;rw[e,Ahz A _,step]
  ·grind
  ·grind
  grind
section
variable {d:Db}(ok:DbOk d) {F:PL}(h:Has d F)
include ok h
theorem Azn {t:TabD}(ht:t∈d.c.tables){x:IdxD}(hx:x.table=t.name):Has ⟨⟨d.c.tables,Eh IdxD.name d.c.indexes x⟩,d.R⟩ (Mm F (Eh IdxD.name d.c.indexes x) t (d.R t.name)):=by
 intro y;rw[Ahz]
 ·constructor
  ·rintro(hy|⟨r,hr,hy⟩)
   ·obtain⟨u,hu,q,hq,hg⟩:=(h y).1 hy;refine⟨u,hu,q,hq,hg.imp id fun⟨a,b⟩=>⟨?_,b⟩⟩;obtain⟨z,hz,aa⟩:=A5k.1 a;exact A5k.2 ⟨z,A5d.2 (.inr hz),aa⟩
   ·exact⟨t,ht,r,hr,.inr hy⟩
  ·rintro⟨u,hu,q,hq,hg⟩;rcases hg with e|⟨a,b⟩
   ·exact .inl ((h y).2 ⟨u,hu,q,hq,.inl e⟩)
   ·obtain⟨z,hz,aa⟩:=A5k.1 a;rcases A5d.1 hz with rfl|hz
    ·have:=Pf ok.cat hu ht ((Px aa.1).symm.trans hx);grind
    ·exact .inl ((h y).2 ⟨u,hu,q,hq,.inr ⟨A5k.2 ⟨z,hz,aa⟩,b⟩⟩)
 ·intro r hr;refine⟨(Sl ok h ht).2 ⟨r,hr,rfl,rfl⟩,fun y hy hk=>?_⟩;obtain⟨k,v⟩:=y;simp only at hk;subst hk;obtain⟨q,hq,e,e2⟩:=(Sl ok h ht).1 hy;rw[Y4 ok ht hr hq e.symm];omega
 ·intro r _ y hy hk;obtain⟨a,v,id,hk⟩:=Nd hk;obtain⟨u,hu,q,hq,hg⟩:=(h y).1 hy;rcases hg with e|e
  ·rw[e]at hk;exact absurd hk (Jl _ _ _ _ _)
  grind
theorem As2 {t:TabD}(hn:∀u∈d.c.tables,u.name≠t.name):Has ⟨⟨Eh TabD.name d.c.tables t,d.c.indexes⟩,d.R⟩ F:=by
 intro y;rw[h];constructor
 ·rintro⟨u,hu,q⟩;exact⟨u,A5d.2 (.inr hu),q⟩
 ·rintro⟨u,hu,q,hq,hg⟩;rcases A5d.1 hu with rfl|hu
  ·have aa:q∈d.R _:=hq;rw[ok.non _ hn]at aa;grind
  grind
omit ok in
theorem Azo {s:Wd}(hn:d.R s=[]):Has ⟨⟨d.c.tables.filter (fun t=>!decide (t.name=s)),d.c.indexes.filter (fun x=>!decide (x.table=s))⟩,d.R⟩ F:=by
 intro y;rw[h];constructor
 ·rintro⟨u,hu,q,hq,hg⟩;have ab:u.name≠s:=fun e=>by grind
  refine⟨u,aT.2 ⟨hu,by grind⟩,q,hq,hg.imp id fun⟨a,b⟩=>⟨?_,b⟩⟩;obtain⟨z,hz,aa⟩:=A5k.1 a;exact A5k.2 ⟨z,aT.2 ⟨hz,by rw[Px aa.1];grind⟩,aa⟩
 ·rintro⟨u,hu,q,hq,hg⟩;refine⟨u,(aT.1 hu).1,q,hq,hg.imp id fun⟨a,b⟩=>⟨?_,b⟩⟩;obtain⟨z,hz,aa⟩:=A5k.1 a;exact A5k.2 ⟨z,(aT.1 hz).1,aa⟩
end
theorem A2i {d}(ok:DbOk d){x}(hc:Dv ⟨d.c.tables,Eh IdxD.name d.c.indexes x⟩=aJ):DbOk ⟨⟨d.c.tables,Eh IdxD.name d.c.indexes x⟩,d.R⟩:=⟨hc,ok.fit,ok.rise,ok.len,ok.non⟩
theorem Awe {d}(ok:DbOk d){t}(hn:∀u∈d.c.tables,u.name≠t.name)(hc:Dv ⟨Eh TabD.name d.c.tables t,d.c.indexes⟩=aJ):DbOk ⟨⟨Eh TabD.name d.c.tables t,d.c.indexes⟩,d.R⟩:=by
 have h0:=ok.non _ hn;refine⟨hc,fun u hu r hr=>?_,fun u hu=>?_,fun u hu=>?_,fun s hs=>ok.non s fun u hu=>hs u (A5d.2 (.inr hu))⟩
 ·rcases A5d.1 hu with rfl|hu
  ·grind
  ·exact ok.fit u hu r hr
 ·rcases A5d.1 hu with rfl|hu
  ·simp_all
  ·exact ok.rise u hu
 ·rcases A5d.1 hu with rfl|hu
  ·grind
  ·exact ok.len u hu
theorem A2j {d}(ok:DbOk d){s}(hn:d.R s=[])(hc:Dv ⟨d.c.tables.filter (fun t=>!decide (t.name=s)),d.c.indexes.filter (fun x=>!decide (x.table=s))⟩=aJ):DbOk ⟨⟨d.c.tables.filter (fun t=>!decide (t.name=s)),d.c.indexes.filter (fun x=>!decide (x.table=s))⟩,d.R⟩:=by
 refine⟨hc,fun u hu=>ok.fit u (aT.1 hu).1,fun u hu=>ok.rise u (aT.1 hu).1,fun u hu=>ok.len u (aT.1 hu).1,fun s' hs=>?_⟩
 by_cases he:s'=s
 ·grind
 ·refine ok.non s' fun u hu e=>?_
  grind
theorem Mx {d}(ok:DbOk d){T}(hT:As T)(h:Has d (flat T)){t}(ht:t∈d.c.tables)(at')(e):
  (Hc t.cols.length T t.name (Ds d.c t at' e)).Nodup∧(∀r∈Hc t.cols.length T t.name (Ds d.c t at' e),r∈d.R t.name)∧
  ∀r∈d.R t.name,(geB 40 e=aJ→∃q:List V,ofV (ev q e)=1∧∀k:Nat,k<t.cols.length→Ms q (at'+k)=r.getD k zero)→r∈Hc t.cols.length T t.name (Ds d.c t at' e):=by
 have h0:=(Hf ok.cat ht).1;have ab:=fun r hr=>by
  obtain⟨h1,h2⟩:=B7 (ok.fit t ht r hr);exact Ahb h0 h1 h2
 have tab:∀(lo hi:Wd) (P:List V→Prop),(∀r∈d.R t.name,P r→rq (De t.name++lo) (De t.name++hi) (rk t r,str (Bc r).1)=aJ)→
   (F5 t.cols.length (rng T (De t.name++lo) (De t.name++hi))).Nodup∧(∀r∈F5 t.cols.length (rng T (De t.name++lo) (De t.name++hi)),r∈d.R t.name)∧∀r∈d.R t.name,P r→r∈F5 t.cols.length (rng T (De t.name++lo) (De t.name++hi)):=by
  intro lo hi P hP;have hn:((rng T (De t.name++lo) (De t.name++hi)).map bF).Nodup:=(Amm hT _ _).imp fun h=>F3 h
  have ad:(rng T (De t.name++lo) (De t.name++hi)).Nodup:=by
   rw[List.Nodup,cE]at hn;exact hn.imp fun h e=>h (by rw[e])
  have e:F5 t.cols.length (rng T (De t.name++lo) (De t.name++hi))=(rng T (De t.name++lo) (De t.name++hi)).filterMap fun x=>In t.cols.length x.2:=by
   unfold F5;rw[List.filterMap_map];rfl
  have ae:∀{x r},x∈rng T (De t.name++lo) (De t.name++hi)→In t.cols.length x.2=N r→r∈d.R t.name∧x=(rk t r,str (Bc r).1):=by
   intro x r hx hr;obtain⟨⟨q,hq,rfl⟩,_⟩:=(Agi ok h ht lo hi).1 hx;rw[ab q hq]at hr;obtain rfl:=cB hr;exact⟨hq,rfl⟩
  rw[e];refine⟨Ov ad fun x hx y hy r h1 h2=>?_,fun r hr=>?_,fun r hr hp=>?_⟩
  ·grind
  ·grind
  ·exact bE.2 ⟨_,(Agi ok h ht lo hi).2 ⟨⟨r,hr,rfl⟩,hP r hr hp⟩,ab r hr⟩
 have Dy:∀(K),K.Nodup→(∀k∈K,∃id,k=H8 t.name id)→∀(P:List V→Prop),(∀r∈d.R t.name,P r→rk t r∈K)→
   (Cy t.cols.length (Hr T K)).Nodup∧(∀r∈Cy t.cols.length (Hr T K),r∈d.R t.name)∧∀r∈d.R t.name,P r→r∈Cy t.cols.length (Hr T K):=by
  intro K hK hid P hP;have e:Cy t.cols.length (Hr T K)=K.filterMap fun k=>(Hz (flat T) k).bind (In t.cols.length):=by
   unfold Cy Hr;rw[List.filterMap_filterMap]
  have ae:∀{k r},k∈K→((Hz (flat T) k).bind (In t.cols.length))=N r→r∈d.R t.name∧k=rk t r:=by
   intro k r hk hb;obtain⟨y,hy,hr⟩:=Option.bind_eq_some_iff.1 hb;obtain⟨id,rfl⟩:=hid k hk;obtain⟨q,hq,e1,rfl⟩:=(Sl ok h ht).1 (Wa hy);rw[ab q hq]at hr;obtain rfl:=cB hr;exact⟨hq,e1.symm⟩
  rw[e];refine⟨Ov hK fun x hx y hy r h1 h2=>?_,fun r hr=>?_,fun r hr hp=>?_⟩
  ·grind
  ·grind
  ·refine bE.2 ⟨_,hP r hr hp,?_⟩;rw[show Hz _ (rk t r)=N _ from Apc hT ((Sl ok h ht).2 ⟨r,hr,rfl,rfl⟩)];grind
 have af:∀r∈d.R _,(rk t r).data.toList=(De _).data.toList++keyOf _:=fun r hr=>by
  rw[rk,H8,Ja,Bs,Rk (Lu ok ht hr)]
 have ag:∀r:List V,r.getD 0 zero=r.headD zero:=fun r=>by cases r<;>rfl
 unfold Ds
 by_cases aa:geB 40 e=aJ
 ·rw[if_pos aa,if_pos ok.cat];rcases Tz at' e t d.c.indexes (Ix at' e t)with hc|⟨x,hx,hi,hc⟩
  ·rw[hc];unfold Hc Ix;rw[if_pos rfl];refine tab _ _ _ fun r hr hp=>?_
   obtain⟨q,h1,h2⟩:=hp aa;have hz:Ms q (at'+0)=r.headD zero:=by have:=h2 0 h0;rw[ag]at this;simpa using this
   have hs:=Aba at' 0 q [] rfl (by rw[hz];exact Lu ok ht hr) 40 e aJ aa (by grind);rw[hz,bA]at hs;exact Aq6 (af r hr) hs _
  ·rw[hc];unfold Hc;rw[if_neg (show x.name≠noW from fun en=>by have:=Awb ok.cat hx;rw[en]at this;exact absurd this (by decide))];unfold Aj9;refine Dy _ (Ao6 _) (fun k hk=>?_) _ fun r hr hp=>?_
   ·rw[Ahv]at hk;obtain⟨y,_,hy⟩:=bE.1 hk;unfold V9 at hy;grind
   ·rw[Ahv];obtain⟨q,h1,h2⟩:=hp aa;have ah:(Eo t x).toNat<t.cols.length:=by
     rcases Vm t x with hq|⟨p,hq,hp'⟩
     ·omega
     ·omega
    have hv:=Agh (ok.fit t ht r hr) hi;have hz:=by
     have:=h2 _ ah;rwa[show((Eo t x).toNat:Int)=Eo t x from by omega]at this
    have ai:(If _ _ _,noW)∈flat T:=
     (h _).2 ⟨t,ht,r,hr,.inr ⟨A5k.2 ⟨x,hx,hi,rfl⟩,rfl⟩⟩
    have ac:=Lu ok ht hr;have aj:okT (keyOf (r.headD zero)):=by
     obtain⟨s,hs⟩:=Ln ac;unfold okT;rw[hs];refine G8 ?_ _ _;rcases G0 ac with q|q|q<;>rw[q]<;>decide
    have hs:=Aba at' (Eo t x) q _ aj (by grind) 40 e aJ aa (by grind);rw[hz]at hs;have ak:(If x.name (r.getD (Eo t x).toNat zero) (r.headD zero)).data.toList=(Hl x.name).data.toList++(keyOf (r.getD (Eo t x).toNat zero)++keyOf (r.headD zero)):=by
     rw[If,Ja,Bs,I6 (by grind)];simp[Go.Proofs.YtocegbpmmiabmaaGreatDoor.Dy]
    refine bE.2 ⟨_,eD.2 ⟨_,aT.2 ⟨ai,Aq6 ak hs _⟩,rfl⟩,?_⟩;exact As0 _ _ hv ac
 ·rw[if_neg aa];unfold Hc;rw[if_pos rfl];exact tab _ _ _ fun r hr _=>Aut (Lu ok ht hr) _
def Kt (F:Nat→Prop)(w:aZ):List (bG×bG)→List Pg→Prop
 |[],[]=>True
 |r::rs,p::T=>Bq F 1 w r.1 p.K.length (p.K.map H)∧Bq F 1 w r.2 p.V.length (p.V.map H)∧Kt F w rs T
 |_,_=>False
def Kf (F:Nat→Prop)(w:aZ)(sv:bG)(T:List Pg):Prop:=∃rows,Bq F 2 w sv T.length (A4 rows)∧Kt F w rows T
theorem Kt.keep {F}{w w'}(hk:Keeps F w w'):∀{rs:List (bG×bG)}{T:List Pg},Kt F w rs T→Kt F w' rs T
 |[],[],_=>trivial
 |_::_,_::_,h=>⟨h.1.keep hk,h.2.1.keep hk,Kt.keep hk h.2.2⟩
theorem Kt.mono {F F'}{w}(hk:∀k,k<w.heap.size→F k→F' k):∀{rs:List (bG×bG)}{T:List Pg},Kt F w rs T→Kt F' w rs T
 |[],[],_=>trivial
 |_::_,_::_,h=>⟨h.1.mono hk,h.2.1.mono hk,Kt.mono hk h.2.2⟩
theorem Kt.pgs {F}{w}:∀{rs:List (bG×bG)}{T:List Pg},Kt F w rs T→Pgs w rs T
 |[],[],_=>trivial
 |_::_,_::_,h=>⟨h.1.row,h.2.1.row,Kt.pgs h.2.2⟩
theorem Kf.keep {F}{w w'}{sv}{T}(h:Kf F w sv T)(hk:Keeps F w w'):Kf F w' sv T:=by
 obtain⟨rows,h1,h2⟩:=h;exact⟨rows,h1.keep hk,h2.keep hk⟩
theorem Kf.mono {F F'}{w}{sv}{T}(h:Kf F w sv T)(hk:∀k,k<w.heap.size→F k→F' k):Kf F' w sv T:=by
 obtain⟨rows,h1,h2⟩:=h;exact⟨rows,h1.mono hk,h2.mono hk⟩
theorem Kf.pages {F}{w}{sv}{T}(h:Kf F w sv T):Ba w sv T:=by
 obtain⟨rows,h1,h2⟩:=h;exact⟨rows,h1.row,h2.pgs⟩
theorem Kf.nil (F)(w):Kf F w (aA Q 0 0) []:=⟨[],Bq.nil F 2 w,trivial⟩
theorem Wi {F G:Nat→Prop}{size}{w}{sv}{n}{cs}(h:Ex size w sv n cs)(hF:∀b aa cap,sv=aA (N ⟨b,aa,Q⟩) n cap→0<n→b<w.heap.size→(∀(j:Nat) (u:bG),cs[j]?=N u→w.cell? ⟨b,aa+j,Q⟩=N u)→G b)(_:F=F):Bq G size w sv n cs:=by
 obtain⟨h1,h2⟩:=h;refine⟨h1,?_⟩;grind
structure EngC (E:List Nat) (w:aZ) (n:Nat) (c:CatD) (T:List Pg) (a:Int) (tv iv pv:bG):Prop where
 blk:w.heap[n]?=N (aC #[tv,iv,pv,J U a] 67)
 tabs:IsL Ck (fun k=>k∉E) w tv c.tables
 idxs:IsL Eb (fun k=>k∉E) w iv c.indexes
 pages:Kf (fun k=>k∉E) w pv T
 good:As T
theorem EngC.lt {E}{w}{n}{c}{T}{a}{tv iv pv}(h:EngC E w n c T a tv iv pv):n<w.heap.size:=aF h.blk
theorem Jr {E:List Nat}{n}{w w'}(h:But n w w')(hn:n∈E):Keeps (fun k=>k∉E) w w':=⟨h.size,fun k hk hl=>h.block k hl fun e=>hk (by grind)⟩
theorem EngC.keep {E}{w w'}{n}{c}{T}{a}{tv iv pv}(h:EngC E w n c T a tv iv pv)(hk:Keeps (fun k=>k∉E) w w')(hb:w'.heap[n]?=w.heap[n]?):EngC E w' n c T a tv iv pv:=
 ⟨hb.trans h.blk,h.tabs.keep hk,h.idxs.keep hk,h.pages.keep hk,h.good⟩
theorem EngC.below {E}{w w'}{n}{c}{T}{a}{tv iv pv}(h:EngC E w n c T a tv iv pv)(hb:Below w.heap.size w w'):EngC E w' n c T a tv iv pv:=h.keep (Ai hb) (hb.block n h.lt)
theorem EngC.but {E}{w w'}{n m}{c}{T}{a}{tv iv pv}(h:EngC E w n c T a tv iv pv)(hb:But m w w')(hm:m∈E)(aa:n≠m):EngC E w' n c T a tv iv pv:=h.keep (Jr hb hm) (hb.block n h.lt aa)
def Br (E:List Nat)(w:aZ):Prop:=∀n∈E,∃c T a tv iv pv,EngC E w n c T a tv iv pv∧Dv c=aJ
theorem Br.below {E}{w w'}(h:Br E w)(hb:Below w.heap.size w w'):Br E w':=fun n hn=>by
 obtain⟨c,T,a,tv,iv,pv,h1,h2⟩:=h n hn;exact⟨c,T,a,tv,iv,pv,h1.below hb,h2⟩
theorem Br.put {E}{w w'}{m}(h:Br E w)(hb:But m w w')(hm:m∈E){c}{T}{a}{tv iv pv}(hn:EngC E w' m c T a tv iv pv)(hc:Dv c=aJ):Br E w':=fun n aa=>by
 by_cases e:n=m
 ·grind
 ·obtain⟨c,T,a,tv,iv,pv,h1,h2⟩:=h n aa;exact⟨c,T,a,tv,iv,pv,h1.but hb hm e,h2⟩
theorem Amn {E}{w}(hE:Br E w){b o}{s:Wd}(h:w.cell? ⟨b,o,Q⟩=N (H s)):b∉E:=fun hb=>by
 obtain⟨c,T,a,tv,iv,pv,h1,_⟩:=hE b hb;obtain⟨aa,tc,rfl⟩:=h1.tabs.shape;obtain⟨io,ic,rfl⟩:=h1.idxs.shape;obtain⟨po,pc,rfl⟩:=Ct h1.pages.pages;simp only[World.cell?,h1.blk]at h;grind
theorem Lg {E}{F}{w}(hE:Br E w){size}{sv}{n}{cs}(h:Bq F size w sv n cs)(ht:0<n→∃(j:Nat) (s:Wd),cs[j]?=N (H s)):Bq (fun k=>k∉E) size w sv n cs:=
 Wi h.row (fun b aa cap _ h0 _ hc=>by
  obtain⟨j,s,hj⟩:=ht h0;exact Amn hE (hc j _ hj)) (rfl:F=F)
theorem My {E}{F}{w}(hE:Br E w){sv}{l}(h:IsL Cp F w sv l):IsL Cp (fun k=>k∉E) w sv l:=by
 obtain⟨cs,h1,h2⟩:=h;refine⟨cs,Lg hE h1 fun h0=>?_,?_⟩
 ·cases l with
  |nil=>grind
  |cons x l=>
   obtain⟨c,rest,rfl,h3,_⟩:=h2;obtain rfl:=h3;exact⟨0,_,rfl⟩
 ·have:∀{l}{cs},All Cp F w l cs→All Cp (fun k=>k∉E) w l cs:=by
   intro l
   induction l with
   |nil=>intro cs h;exact h
   |cons x l ih=>
    rintro cs ⟨c,rest,h1,h2,h3⟩;exact⟨c,rest,h1,h2,ih h3⟩
  grind
theorem Azp {E}{F}{w}(hE:Br E w){sv}{l}(h:IsL Ck F w sv l):IsL Ck (fun k=>k∉E) w sv l:=by
 obtain⟨cs,h1,h2⟩:=h;refine⟨cs,Lg hE h1 fun h0=>?_,?_⟩
 ·cases l with
  |nil=>grind
  |cons x l=>
   obtain⟨c,rest,rfl,⟨sv,rfl,_⟩,_⟩:=h2;exact⟨0,_,rfl⟩
 ·have:∀{l}{cs},All Ck F w l cs→All Ck (fun k=>k∉E) w l cs:=by
   intro l
   induction l with
   |nil=>intro cs h;exact h
   |cons x l ih=>
    rintro cs ⟨c,rest,h1,⟨sv,h4,h5⟩,h3⟩;exact⟨c,rest,h1,⟨sv,h4,My hE h5⟩,ih h3⟩
  grind
theorem Azq {E}{F}{w}(hE:Br E w){sv}{l}(h:IsL Eb F w sv l):IsL Eb (fun k=>k∉E) w sv l:=by
 obtain⟨cs,h1,h2⟩:=h;refine⟨cs,Lg hE h1 fun h0=>?_,?_⟩
 ·cases l with
  |nil=>grind
  |cons x l=>
   obtain⟨c,rest,rfl,h3,_⟩:=h2;obtain rfl:=h3;exact⟨0,_,rfl⟩
 ·have:∀{l}{cs},All Eb F w l cs→All Eb (fun k=>k∉E) w l cs:=by
   intro l
   induction l with
   |nil=>intro cs h;exact h
   |cons x l ih=>
    rintro cs ⟨c,rest,h1,h2,h3⟩;exact⟨c,rest,h1,h2,ih h3⟩
  grind
theorem Amo {E}{w}(hE:Br E w){sv}{L:List Wd}(h:An w sv L):Bq (fun k=>k∉E) 1 w sv L.length (L.map H):=
 Wi h (fun b aa cap _ h0 _ hc=>by
  obtain⟨s,hs⟩:∃s,L[0]?=N s:=⟨_,aI h0⟩;exact Amn hE (hc 0 (H s) (by grind))) (rfl:(fun _:Nat=>True)=fun _=>True)
theorem Ara {E}{w}(hE:Br E w):∀{rs:List (bG×bG)}{T:List Pg},Pgs w rs T→Kt (fun k=>k∉E) w rs T
 |[],[],_=>trivial
 |_::_,_::_,h=>⟨Amo hE h.1,Amo hE h.2.1,Ara hE h.2.2⟩
def Keyed (F:PL):Prop:=∀x∈F,(0:UInt8)∈x.1.data.toList
theorem Qd {d}{F}(h:Has d F):Keyed F:=by
 intro x hx;obtain⟨t,_,r,_,hg⟩:=(h x).1 hx;rcases hg with rfl|⟨hk,_⟩
 ·simp only[rk,Js];simp
 ·obtain⟨y,v,id,hk⟩:=Nd hk;rw[hk,P4];simp
theorem Ah0 {F}{I}{t}{r}(h:Keyed F):Keyed (putRow F I t r):=by
 have step:∀(l) (F),Keyed F→(∀k∈l,(0:UInt8)∈k.data.toList)→Keyed (Lp F l):=by
  intro l
  induction l with
  |nil=>intro F h _;exact h
  |cons k l ih=>
   intro F h hl;refine ih _ (fun x hx=>?_) fun k hk=>hl k (by grind)
   rcases Abv.1 hx with e|⟨h1,_⟩
   ·grind
   ·exact h x h1
 refine step _ _ (fun x hx=>?_) fun k hk=>?_
 ·rcases Abv.1 hx with e|⟨h1,_⟩
  ·rw[e];simp only[rk,Js];simp
  ·exact h x h1
 ·obtain⟨y,v,id,hk⟩:=Nd hk;rw[hk,P4];simp
theorem As3 {F}{I}{t}{r}(h:Keyed F):Keyed (Kh F I t r):=by
 intro x hx;unfold Kh at hx;rw[Vl]at hx;exact h x (Aha.1 hx.1).1
theorem Awf {E:List Nat}{w:aZ}(hE:Br E w){sv:bG}{T:List Pg}(h:Ba w sv T)(hT:As T)(hk:Keyed (flat T)):Kf (fun k=>k∉E) w sv T:=by
 obtain⟨rows,h1,h2⟩:=h;refine⟨rows,Wi h1 (fun b ae cap _ h0 _ hc hb=>?_) (rfl:(fun _:Nat=>True)=fun _=>True),Ara hE h2⟩;cases T with
 |nil=>simp at h0
 |cons p T=>
  cases rows with
  |nil=>exact h2.elim
  |cons r rows=>
   obtain⟨kv,vv⟩:=r;obtain⟨af,ag,_⟩:=h2;have hp:=hT.1 p (by simp);obtain⟨k,ac⟩:∃k,p.K[0]?=N k:=⟨_,aI hp.1⟩;obtain⟨v,ah⟩:∃v,p.V[0]?=N v:=⟨_,aI (by rw[hp.2.2];exact hp.1)⟩;have aa:(0:UInt8)∈k.data.toList:=by
    refine hk (k,v) (cY.2 ⟨p,by simp,?_⟩);refine aY (i:=0) ?_;rw[List.getElem?_zip_eq_some];exact⟨ac,ah⟩
   obtain⟨b1,o1,c1,rfl,_,_,_,ai⟩:=af.at hp.1;obtain⟨b2,o2,c2,rfl,_,_,_,aj⟩:=ag.at (by rw[hp.2.2];exact hp.1);have a0:=hc 0 _ (show(A4 ((aA (N ⟨b1,o1,Q⟩) p.K.length c1,aA (N ⟨b2,o2,Q⟩) p.V.length c2)::rows))[0]?=N (aA (N ⟨b1,o1,Q⟩) p.K.length c1)from rfl);have a1:=hc 1 _ (show(A4 ((aA (N ⟨b1,o1,Q⟩) p.K.length c1,aA (N ⟨b2,o2,Q⟩) p.V.length c2)::rows))[1]?=N (aA (N ⟨b2,o2,Q⟩) p.V.length c2)from rfl);have kc:=ai 0 k ac;obtain⟨cc,T',a,tv,iv,pv,he,ad⟩:=hE b hb;obtain⟨ak,tc,rfl⟩:=he.tabs.shape;obtain⟨io,ic,rfl⟩:=he.idxs.shape;obtain⟨po,pc,rfl⟩:=Ct he.pages.pages;simp only[World.cell?,he.blk]at a0 a1
   match ae,a0,a1 with
   |0,a0,_=>
    obtain⟨e1,e2,_⟩:=dU (cB (show N _=N _ from a0));subst e1;obtain⟨t,ht⟩:∃t,cc.tables[0]?=N t:=⟨_,aI (by rw[e2];exact hp.1)⟩;obtain⟨b',o',cs,e,_,_,⟨sv,rfl,_⟩,ab⟩:=At he.tabs ht;simp only[bD,cQ]at e;obtain⟨rfl,rfl,_⟩:=e;have:=ab 0 _ rfl;simp only[bZ,cA]at this kc;rw[kc]at this;simp only[bD,cJ]at this;rw[this]at aa;exact Mw ad (aY ht) aa
   |1,a0,_=>
    obtain⟨e1,e2,_⟩:=dU (cB (show N _=N _ from a0));subst e1;obtain⟨x,hx⟩:∃x,cc.indexes[0]?=N x:=⟨_,aI (by rw[e2];exact hp.1)⟩;obtain⟨b',o',cs,e,_,_,hR,ab⟩:=At he.idxs hx;obtain rfl:=hR;simp only[bD,cQ]at e;obtain⟨rfl,rfl,_⟩:=e;have:=ab 0 _ rfl;simp only[bZ,cA]at this kc;rw[kc]at this;simp only[bD,cJ]at this;rw[this]at aa;exact Acc ad (aY hx) aa
   |2,_,a1=>grind
   |3,a0,_=>grind
   |o+4,a0,_=>grind
theorem Er {fn}{p:Tmp}{w0 w}{g}{a}{c0 c1 c2}{t}{fr}(v:V)(hr:fn.results=#[.cell p 46])(hp:a.tmps.getD p undef=aW (N ⟨g,0,Q⟩))(hd:a.defers=[])
  (hg:w.heap[g]?=N (aC #[c0,c1,c2] t fr)) (hb:Below w0.heap.size w0 w) (aa:w0.heap.size≤g):
  bodyPost aB fn (fun e w'=>e=aH v.val∧Below w0.heap.size w0 w') .ret a (((w.setCell ⟨g,0,Q⟩ (J U v.k)).setCell ⟨g,1,Q⟩ (J U v.n)).setCell ⟨g,2,Q⟩ (H v.s)):=
 aS (bH hr a.tmps _ g t _ fr _ hp (set3 hg) Tryz.underlying46 rfl (by kernel_rfl)) hd ⟨rfl,((hb.setCell aa _).setCell aa _).setCell aa _⟩
theorem A2k (n):bits .and U n 1=n%2:=by
 show IntKind.i64.wrap ((dS 64 n&&&dS 64 1).toNat:Int)=_;have h1:(dS 64 1).toNat=1:=by decide
 rw[BitVec.toNat_and,h1,Nat.and_one_is_mod,BitVec.toNat_ofInt,cF];omega
theorem U4 (v)(w):aQ aB 207 #[v.val] w fun e w'=>e=aH (J U (ofV v))∧Below w.heap.size w w':=by
 obtain⟨k,n,s⟩:=v;show aQ _ 207 #[aM #[J _ k,J _ n,H s]] w _
 by_cases h:k=3
 all_goals
  go_enter Tryz.func207,Tryz.ntmps207;go_wp2;go_ret;refine⟨Av ?_,(aD _ _).alloc (aL _) _⟩;simp[ofV,h,A2k]
theorem Tk (n)(w):aQ aB 354 #[J U n] w fun e w'=>e=aH (Fv n).val∧Below w.heap.size w w':=by
 by_cases h:n=0
 ·subst h;go_enter dW,dK;go_wp2;exact aS (v:=aM #[J _ 3,J _ 0,H noW]) (by simp[bM,go_sem]) rfl ⟨rfl,(aD _ _).alloc (aL _) _⟩
 by_cases h1:n=1
 ·subst h1;go_enter dW,dK;go_wp2;exact aS (v:=aM #[J _ 3,J _ 1,H noW]) (by simp[bM,go_sem]) rfl ⟨rfl,(aD _ _).alloc (aL _) _⟩
 have E:Hid (Fv n=zero):=by show _=_;simp[Fv,h,h1]
 have e1:(n !=0)=aJ:=by simpa using h
 have e2:(n !=1)=aJ:=by simpa using h1
 go_enter dW,dK;go_wp2;exact aS (v:=aM #[J U 0,J U 0,H noW]) (by simp[bM,go_sem]) rfl ⟨by rw[E.out];rfl,(aD _ _).alloc (aL _) _⟩
theorem T6 (b)(w):aQ aB 356 #[bK b] w fun e w'=>e=aH (whV b).val∧Below w.heap.size w w':=by
 cases b
 all_goals
  go_enter Tryz.func356,Tryz.ntmps356;go_wp2_with(go_at_call 354;refine(Tk _ _).mono ?_;rintro e w1 ⟨rfl,aa⟩;simp only[V.val];obtain⟨ab,ac⟩:=E9 aa);exact Er _ Tryz.results356 rfl rfl ((aa.block _ (by simp)).trans (Ab _ _)) (Ac ((aD _ _).alloc (aL _) _) aa) (aL _)
theorem Abc (n)(w):aQ aB 376 #[J U n] w fun e w'=>e=aH (Qi n).val∧Below w.heap.size w w':=by
 have hg:=fun w=>Mn ⟨1,n,noW⟩ w (by simp[ByteArray.size])
 have E:Hid (Qi n=if good _ then⟨1,n,noW⟩else zero):=rfl;generalize good _=b at hg E;cases b
 ·go_enter Tryz.func376,Tryz.ntmps376;go_wp2_with(go_at_call 230;refine(hg _).mono ?_;rintro e w1 ⟨rfl,rfl⟩);rw[E.out];exact aS (v:=aM #[J _ 0,J _ 0,H noW]) (by simp[bM,go_sem]) rfl ⟨rfl,(((aD _ _).alloc (aL _) _).alloc (by simp) _).alloc (by simp;omega) _⟩
 ·go_enter Tryz.func376,Tryz.ntmps376;go_wp2_with(go_at_call 230;refine(hg _).mono ?_;rintro e w1 ⟨rfl,rfl⟩);rw[E.out];exact aS (v:=aM _) (by simp[bM,go_sem]) rfl ⟨rfl,(((aD _ _).alloc (aL _) _).alloc (by simp) _).alloc (by simp;omega) _⟩
theorem Ah1 (v)(w)(hs:v.s.size≤bJ):aQ aB 359 #[v.val] w fun e w'=>e=aH (bK (Hg v))∧Below w.heap.size w w':=by
 have hg:=fun w=>Mn v w hs
 have E:Hid (Hg v=(!decide _&&good v)):=rfl;generalize good v=b at hg E;generalize Hg v=r at E;clear hs;obtain⟨k,n,s⟩:=v;simp only[V.val]at hg⊢
 by_cases h:k=0
 ·subst h;go_enter Tryz.func359,Tryz.ntmps359;go_wp2;go_ret;exact⟨Ah (by rw[E.out];rfl),(aD _ _).alloc (aL _) _⟩
 ·have h1:(k !=0)=aJ:=by simpa using h
  go_enter Tryz.func359,Tryz.ntmps359;go_wp2_with(go_at_call 230;refine(hg _).mono ?_;rintro e w1 ⟨rfl,rfl⟩);go_ret;exact⟨Ah (by rw[E.out];grind),((aD _ _).alloc (aL _) _).alloc (by simp) _⟩
theorem Azr (op):(L5 op:Int)=if op=9∨op=10 then 1 else if 3≤op∧op≤8 then 2 else 0:=by
 unfold L5;grind
theorem Ql (op)(w):aQ aB 315 #[J U op] w fun e w'=>e=aH (J U (L5 op:Int))∧w'=w:=by
 by_cases h9:op=9<;>by_cases aa:op=10<;>by_cases h3:op=3<;>by_cases h4:op=4<;>by_cases h5:op=5<;>by_cases h6:op=6<;>by_cases h7:op=7<;>by_cases h8:op=8
 all_goals(try omega)
 all_goals
  have E:Hid _:=Azr op;go_enter Tryz.func315,Tryz.ntmps315;go_wp2;go_ret;refine⟨Av ?_,rfl⟩;rw[E.out];omega
theorem Ajm (op)(x)(s name)(n)(ao)(k c)(w):
  aQ aB 256 #[aM (Af op x s name n (aA ao k c))] w fun e w'=>e=aH (if k=L5 op then aA ao k c else aA Q 0 0)∧Below w.heap.size w w':=by
 obtain⟨xk,xn,xs⟩:=x
 by_cases h:k=L5 op
 ·have h1:(k !=(L5 op:Int))=aO:=by rw[h];simp
  rw[if_pos h];clear h;go_enter Tryz.func256,Tryz.ntmps256;go_wp2
  go_region_held3(fun w'=>w'.cell? ⟨w.heap.size,0,Q⟩=N (J U op)∧w'.cell? ⟨w.heap.size,7,Q⟩=N (aA ao k c)) (go_keep)
   (first|(go_at_call 315;refine(Ql _ _).mono ?_;rintro e w' ⟨rfl,rfl⟩))
  go_wp2;go_ret;refine⟨rfl,?_⟩
  repeat first|exact aD _ _|apply Below.drew|refine Below.alloc ?_ (by simp) _
 ·have h1:(k !=(L5 op:Int))=aJ:=by simp;omega
  rw[if_neg h];clear h;go_enter Tryz.func256,Tryz.ntmps256;go_wp2
  go_region_held3(fun w'=>w'.cell? ⟨w.heap.size,0,Q⟩=N (J U op)∧w'.cell? ⟨w.heap.size,7,Q⟩=N (aA ao k c)) (go_keep)
   (first|(go_at_call 315;refine(Ql _ _).mono ?_;rintro e w' ⟨rfl,rfl⟩))
  go_wp2;go_ret;refine⟨rfl,?_⟩
  repeat first|exact aD _ _|apply Below.drew|refine Below.alloc ?_ (by simp) _
def Z6 (C:Nat)(w:aZ)(e:E)(p:bG):Prop:=
 ∃(b o:Nat) (op xk xn:Int) (xs s name:Wd) (n:Int) (ao:Option Addr) (c:Nat) (l:List E),p=aW (N ⟨b,o,Q⟩)∧b<C∧e=.mk op ⟨xk,xn,xs⟩ s name n l∧
  (w.cell? ⟨b,o,Q⟩=N (J U op)∧w.cell? ⟨b,o+1,Q⟩=N (J U xk)∧w.cell? ⟨b,o+2,Q⟩=N (J U xn)∧w.cell? ⟨b,o+3,Q⟩=N (H xs)∧w.cell? ⟨b,o+4,Q⟩=N (H s)∧w.cell? ⟨b,o+5,Q⟩=N (H name)∧w.cell? ⟨b,o+6,Q⟩=N (J U n)∧w.cell? ⟨b,o+7,Q⟩=N (aA ao l.length c))∧
  I1 (fun k=>k<C) w (aA ao l.length c) l
theorem Z6.keep {C}{w w'}{e}{p}(h:Z6 C w e p)(hb:Below C w w'):Z6 C w' e p:=by
 obtain⟨b,o,op,xk,xn,xs,s,name,n,ao,c,l,h1,h2,h3,⟨c0,c1,c2,c3,c4,c5,c6,c7⟩,h4⟩:=h;have g:=fun o=>hb.cell (p:=⟨b,o,Q⟩) h2
 exact⟨b,o,op,xk,xn,xs,s,name,n,ao,c,l,h1,h2,h3,⟨(g _).trans c0,(g _).trans c1,(g _).trans c2,(g _).trans c3,(g _).trans c4,(g _).trans c5,(g _).trans c6,(g _).trans c7⟩,h4.keep (Ae hb)⟩
def Acf (C:Nat)(w:aZ)(L:List E)(P:List bG):Prop:=∀(i:Nat) (e:E),L[i]?=N e→∃p,P[i]?=N p∧Z6 C w e p
theorem Acf.keep {C}{w w'}{L}{P}(h:Acf C w L P)(hb:Below C w w'):Acf C w' L P:=fun i e hi=>by
 obtain⟨p,h1,h2⟩:=h i e hi;exact⟨p,h1,h2.keep hb⟩
theorem Acf.snoc {C}{w}{L}{P}(h:Acf C w L P)(hl:P.length=L.length){e}{p}(hp:Z6 C w e p):Acf C w (L++[e]) (P++[p]):=fun i x hi=>by
 rcases Nat.lt_trichotomy i L.length with h1|h1|h1
 ·rw[List.getElem?_append_left h1]at hi;obtain⟨q,h2,h3⟩:=h i x hi;grind
 ·grind
 grind
theorem Azs {C}{w}{b off cap}{l}(h:I1 (fun k=>k<C) w (aA (N ⟨b,off,Q⟩) l.length cap) l){k}{e}(hk:l[k]?=N e):Z6 C w e (aW (N ⟨b,off+k*8,Q⟩)):=by
 obtain⟨cs,hr,ha⟩:=h;obtain⟨xo,xk,xn,aa,xs,xm,xi,xa,xl,xc,he,hc⟩:=Akf hr ha hk;have h0:0<l.length:=by have:=(cC.1 hk).1;omega
 have hb:b<C:=by
  rcases hr.2 with⟨h1,_⟩|⟨_,b',o',c',hh,hF,_⟩
  ·omega
  ·grind
 cases e with
 |mk op x s name n l'=>
  obtain⟨sv,h1,h2⟩:=he.open;obtain⟨ao,c,rfl⟩:=h2.shape;obtain⟨yk,yn,ys⟩:=x;simp only[Value.agg.injEq,Array.mk.injEq,bL,Value.int.injEq,cJ,Value.slice.injEq,true_and,and_true]at h1;obtain⟨rfl,rfl,rfl,rfl,rfl,rfl,rfl,rfl,rfl,rfl⟩:=h1;exact⟨b,_,xo,xk,xn,aa,xs,xm,xi,xa,xc,l',rfl,hb,rfl,hc w (aD _ _),h2⟩
theorem Pi {C}(op)(x)(s name)(n)(ao)(c)(l)(w)(h:I1 (fun k=>k<C) w (aA ao l.length c) l)(hC:C≤w.heap.size):
  aQ aB 256 #[aM (Af op x s name n (aA ao l.length c))] w fun e w'=>∃ko kc,e=aH (aA ko (Ea op l).length kc)∧I1 (fun k=>k<C) w' (aA ko (Ea op l).length kc) (Ea op l)∧Below w.heap.size w w':=by
 refine(Ajm op x s name n ao _ c w).mono ?_;rintro e w' ⟨rfl,hb⟩;unfold Ea;split
 ·exact⟨ao,c,rfl,h.keep (Ae (hb.mono hC)),hb⟩
 ·exact⟨Q,0,rfl,I1.nil _ _,hb⟩
theorem Azt:(Tryz.prog.info? 352).map (fun i=>(i.zero,i.size,i.bytes))=N (N (aW Q),1,8):=by kernel_rfl
theorem As4 {α:Type}{L:List α}{i}{x}(h:L[i]?=N x):L.take (i+1)=L.take i++[x]:=by rw[cD,h];rfl
theorem Aag (e:E)(v:bG)(C:Nat)(w:aZ)(he:IsE (fun k=>k<C) w e v)(hC:C≤w.heap.size)(hn:e.nodes≤16777216):
  aQ aB 314 #[v] w fun r w'=>∃zv L P,r=aH zv∧Ex 1 w' zv L.length P∧Acf (w.heap.size+1) w' L P∧Queue e L L.length∧Below w.heap.size w w'∧w.heap.size+1≤w'.heap.size:=by
 obtain⟨i0,hi,ax,ay,az⟩:=info_parts Azt;have H0:∃op xk xn xs s name n ao c l,e=.mk op ⟨xk,xn,xs⟩ s name n l∧v=aM (Af op ⟨xk,xn,xs⟩ s name n (aA ao l.length c))∧I1 (fun k=>k<C) w (aA ao l.length c) l:=by
  cases e with
  |mk op x s name n l=>
   obtain⟨sv,h1,h2⟩:=he.open;obtain⟨ao,c,rfl⟩:=h2.shape;grind
 obtain⟨op,xk,xn,xs,s,name,n,ao,c,l,rfl,rfl,ag⟩:=H0;clear he;have ap:Below w.heap.size w (w.alloc (aC (Af op ⟨xk,xn,xs⟩ s name n (aA ao l.length c)) 48)):=(aD _ _).alloc (aL _) _;have ai:Below w.heap.size w ((w.alloc (aC (Af op ⟨xk,xn,xs⟩ s name n (aA ao l.length c)) 48)).alloc (aC #[aW (N ⟨w.heap.size,0,Q⟩)] 352)):=ap.alloc (by simp) _;have aj:Z6 (w.heap.size+1) ((w.alloc (aC (Af op ⟨xk,xn,xs⟩ s name n (aA ao l.length c)) 48)).alloc (aC #[aW (N ⟨w.heap.size,0,Q⟩)] 352)) (.mk op ⟨xk,xn,xs⟩ s name n l) (aW (N ⟨w.heap.size,0,Q⟩)):=by
  have ab:((w.alloc (aC (Af op ⟨xk,xn,xs⟩ s name n (aA ao l.length c)) 48)).alloc (aC #[aW (N ⟨w.heap.size,0,Q⟩)] 352)).heap[w.heap.size]?=N (aC (Af op ⟨xk,xn,xs⟩ s name n (aA ao l.length c)) 48):=Ad (Ab w _) _;refine⟨w.heap.size,0,op,xk,xn,xs,s,name,n,ao,c,l,rfl,by omega,rfl,⟨Aa ab rfl,Aa ab rfl,Aa ab rfl,Aa ab rfl,Aa ab rfl,Aa ab rfl,Aa ab rfl,Aa ab rfl⟩,?_⟩;exact(ag.keep (Ae (ai.mono hC))).mono fun k _ hk=>by omega
 have aq:((w.alloc (aC (Af op ⟨xk,xn,xs⟩ s name n (aA ao l.length c)) 48)).alloc (aC #[aW (N ⟨w.heap.size,0,Q⟩)] 352)).ownsRow (w.heap.size+1) 352 1 (aA (N ⟨w.heap.size+1,0,Q⟩) 1 1) 1 [aW (N ⟨w.heap.size,0,Q⟩)]:=by
  refine⟨rfl,.inr ⟨w.heap.size+1,1,#[aW (N ⟨w.heap.size,0,Q⟩)],rfl,aL _,?_,aL _,by decide,rfl,rfl⟩⟩;have:=Ab (w.alloc (aC (Af op ⟨xk,xn,xs⟩ s name n (aA ao l.length c)) 48)) (aC #[aW (N ⟨w.heap.size,0,Q⟩)] 352);rwa[aR]at this
 have HQ:=Apb (.mk op ⟨xk,xn,xs⟩ s name n l);generalize hE:E.mk op ⟨xk,xn,xs⟩ s name n l=e at aj HQ hn⊢;clear hE;go_enter Tryz.func314,Tryz.ntmps314;go_wp2
 go_loopw[3,4] (fun z i wr=>∃(j:Nat) (L:List E) (P:List bG),i=J U j∧wr.ownsRow (w.heap.size+1) 352 1 z L.length P∧Hid (Queue e L j)∧Acf (w.heap.size+1) wr L P∧Below w.heap.size w wr∧w.heap.size+1≤wr.heap.size) (fun _ i _=>e.nodes-(cX i).toNat)
 case atStart=>exact⟨0,[e],[aW (N ⟨w.heap.size,0,Q⟩)],rfl,aq,HQ,fun i x hi=>by
   match i,hi with
   |0,hi=>simp at hi;subst hi;exact⟨_,rfl,aj⟩
   |i+1,hi=>simp at hi,ai,by simp⟩
 case round=>
  obtain⟨j,L,P,rfl,aa,ae,hP,ad,ac⟩:=hrel;have ah:=Ex.of_own aa;have bo:=ae.out.len;have bp:P.length=L.length:=by have:=aa.1;omega
  by_cases ba:j<L.length
  ·obtain⟨x,hx⟩:∃x,L[j]?=N x:=⟨_,aI ba⟩;obtain⟨p,hp,ak⟩:=hP j x hx;obtain⟨b,o,op,xk,xn,xs,s,name,n,ao,c,l,rfl,bb,rfl,⟨c0,c1,c2,c3,c4,c5,c6,c7⟩,ag⟩:=ak;have HX:Hid (L[j]?=N (.mk op ⟨xk,xn,xs⟩ s name n l)):=hx;clear hx;rcases ah.2 with⟨h1,_⟩|⟨_,zb,zo,zc,rfl,_,_,_,h3⟩
   ·omega
   have bc:=h3 j _ hp;clear h3;have j0:(0:Int)≤(j:Int):=by omega
   have j1:(j:Int)<(L.length:Int):=by omega
   have ha:=Pi op ⟨xk,xn,xs⟩ s name n ao c l wr ag ac;clear hp;go_wp2_with(first|(refine ha.mono ?_;rintro e1 w1 ⟨ko,kc,rfl,ar,af⟩));have bd:Below w.heap.size w w1:=ad.trans (af.mono ad.size);have be:w.heap.size+1≤w1.heap.size:=aP ac af.size;have bf:=Ak aa af;have bg:=hP.keep (af.mono ac);have bh:(Ea op l).length≤2:=Aq0 (.mk op ⟨xk,xn,xs⟩ s name n l);have HS:Hid (Queue e (L++Ea op l) (j+1)):=ae.out.step HX.out;have au:(L++Ea op l).length≤e.nodes:=HS.out.len;rw[aU]at au;clear aa hP ag ha af ad ac HX ae c0 c1 c2 c3 c4 c5 c6 c7 ah bc ap ai aq aj HQ bb;generalize Ea op l=K at ar HS au bh
   go_loopw[3,23] (fun z k wr=>∃(m:Nat) (P':List bG),m≤K.length∧k=J U m∧wr.ownsRow (w.heap.size+1) 352 1 z (L++K.take m).length P'∧Acf (w.heap.size+1) wr (L++K.take m) P'∧Below w.heap.size w wr∧w.heap.size+1≤wr.heap.size∧I1 (fun k=>k<w.heap.size+1) wr (aA ko K.length kc) K) (fun _ k _=>K.length-(cX k).toNat)
   case atStart=>exact⟨0,P,bU _,rfl,by simpa using bf,by simpa using bg,bd,be,ar⟩
   case round=>
    obtain⟨m,P',hm,rfl,aa,hP,ad,ac,hk⟩:=hrel;have bi:Hid (P'.length=(L++K.take m).length):=by show _=_;have:=aa.1;omega
    have al:Hid ((L++K.take m).length=L.length+m):=by show _=_;rw[aU,List.length_take,Nat.min_eq_left hm]
    rw[al.out]at aa
    by_cases bj:m<K.length
    ·obtain⟨y,hy⟩:∃y,K[m]?=N y:=⟨_,aI bj⟩;obtain⟨kb,kf,rfl⟩:∃kb kf,ko=N ⟨kb,kf,Q⟩:=by
      obtain⟨cs,hr,_⟩:=hk;rcases hr.2 with⟨h1,_⟩|⟨_,kb,kf,kc',h2,_⟩
      ·omega
      grind
     have ak:=Azs hk hy;have HY:Hid (L++K.take (m+1)=(L++K.take m)++[y]):=by show _=_;rw[As4 hy,cU]
     have m0:(0:Int)≤m:=by omega
     have m1:m<(K.length:Int):=by omega
     obtain⟨zo,zc,rfl⟩:=(Ex.of_own aa).shape;have av:=aa.alloc (aC #[aW (N ⟨kb,kf+m*8,Q⟩)] 352);have bk:Below _ wr (wr.alloc (aC #[aW (N ⟨kb,kf+m*8,Q⟩)] 352)):=(aD _ _).alloc ac _;have am:w.heap.size+1≤(wr.alloc (aC #[aW (N ⟨kb,kf+m*8,Q⟩)] 352)).heap.size:=by rw[aR];omega
     clear hy;go_wp2_with(at_builtin;go_must(refine wpList_append_own _ rfl _ _ 350 rfl _ 352 i0 _ 1 8 Tryz.underlying350 hi ax ay az rfl (by simp) _ _ _ rfl av _ 1 1 _ rfl rfl (Cb wr [.pointer (N ⟨kb,kf+m*8,Q⟩)] 352) (by simp;rfl) (by simp only[bJ];omega) (by omega) am ?_));intro z2 w2 bl bm _;have aw:=Gy av am bm;have an:=bk.trans aw;go_wp2;go_roundw
     case rel=>
      refine⟨m+1,P'++[aW (N ⟨kb,kf+m*8,Q⟩)],by omega,by rfl,?_,?_,ad.trans (an.mono (by omega)),aP am aw.size,hk.keep (Ae an)⟩
      ·rw[HY.out,aU,al.out];exact bl
      ·rw[HY.out];exact(hP.snoc bi.out ak).keep an
     case measure=>simp[cX];omega
    ·have bn:m=K.length:=by omega
     subst bn;rw[←al.out,bB]at aa;rw[bB]at hP;go_wp2;go_roundw
     case rel=>grind
     case measure=>simp[cX];omega
  ·obtain⟨zo,zc,rfl⟩:=ah.shape;have bq:=ae.out.le;have hj:j=L.length:=by omega
   subst hj;go_wp2;go_ret;exact⟨_,L,P,rfl,ah,hP,ae.out,ad,ac⟩
theorem As5 (op:Int)(x:V)(s name:Wd)(n:Int)(sv rv:bG)(row:List V)(w:aZ)(hr:Cq w rv row)(hn:row.length≤bJ)(aa:∃ao k c,sv=aA ao k c):
  aQ aB 318 #[aM (Af op x s name n sv),rv] w fun e w'=>e=aH (Jf op x n row).val∧Below w.heap.size w w':=by
 obtain⟨ao,k,c,rfl⟩:=aa
 by_cases h1:op=1
 ·subst h1;obtain⟨ro,rc,rfl⟩:=hr.shape;obtain⟨xk,xn,xs⟩:=x;go_enter cL,cH;go_wp2;exact aS (v:=aM #[J U xk,J U xn,H xs]) (by simp[bM,Tryz.results318,go_sem]) rfl ⟨rfl,((aD _ _).alloc (aL _) _).alloc (by simp) _⟩
 by_cases h2:op=2
 ·subst h2
  by_cases h0:0≤n
  ·obtain⟨m,rfl⟩:∃m:Nat,n=m:=⟨n.toNat,by omega⟩
   by_cases hm:m<row.length
   ·obtain⟨v,hv⟩:∃v,row[m]?=N v:=⟨_,aI hm⟩;have E:Hid (Jf 2 x m row=v):=by show _=_;simp[Jf,Ms,hv]
    rcases hr with⟨_,rfl⟩|⟨b,off,cap,rfl,hb,hh⟩
    ·simp at hm
    obtain⟨c0,c1,c2⟩:=hh m v hv;clear hh hv;obtain⟨vk,vn,vs⟩:=v;obtain⟨xk,xn,xs⟩:=x;go_enter cL,cH;go_wp2;rw[E.out];exact aS (v:=aM _) (by simp[bM,go_sem]) rfl ⟨rfl,((aD _ _).alloc (aL _) _).alloc (by simp) _⟩
   ·have E:Hid (Jf 2 x m row=zero):=by show _=_;simp[Jf,Ms,List.getElem?_eq_none (by omega:row.length≤m)]
    obtain⟨ro,rc,rfl⟩:=hr.shape;obtain⟨xk,xn,xs⟩:=x;go_enter cL,cH;go_wp2;rw[E.out];exact aS (v:=aM #[J _ 0,J _ 0,H noW]) (by simp[bM,go_sem]) rfl ⟨rfl,((aD _ _).alloc (aL _) _).alloc (by simp) _⟩
  ·have E:Hid (Jf 2 x n row=zero):=by show _=_;simp[Jf,Ms,h0]
   obtain⟨ro,rc,rfl⟩:=hr.shape;obtain⟨xk,xn,xs⟩:=x;go_enter cL,cH;go_wp2;rw[E.out];exact aS (v:=aM #[J _ 0,J _ 0,H noW]) (by simp[bM,go_sem]) rfl ⟨rfl,((aD _ _).alloc (aL _) _).alloc (by simp) _⟩
 have E:Hid (Jf op x n row=zero):=by show _=_;simp[Jf,h1,h2]
 obtain⟨ro,rc,rfl⟩:=hr.shape;obtain⟨xk,xn,xs⟩:=x;go_enter cL,cH;go_wp2;rw[E.out];exact aS (v:=aM #[J _ 0,J _ 0,H noW]) (by simp[bM,go_sem]) rfl ⟨rfl,((aD _ _).alloc (aL _) _).alloc (by simp) _⟩
theorem Awg (op)(a)(w):aQ aB 316 #[J U op,a.val] w fun e w'=>e=aH (Mt op a).val∧Below w.heap.size w w':=by
 have ho:=fun w=>U4 a w
 by_cases h9:op=9
 ·subst h9;have E:Hid (Mt 9 a=Fv _):=rfl;generalize ofV a=o at E ho;generalize Mt 9 a=r at E;obtain⟨k,n,s⟩:=a;simp only[V.val]at ho;show aQ _ 316 #[J _ 9,aM #[J _ k,J _ n,H s]] w _;go_enter dY,dM;go_wp2_with(first|(refine(ho _).mono ?_;rintro e w1 ⟨rfl,ab⟩)|(refine(A17 _ _).mono ?_;rintro e w2 ⟨rfl,rfl⟩)|(refine(Tk _ _).mono ?_;rintro e w3 ⟨rfl,aa⟩;simp only[V.val];obtain⟨ad,ae⟩:=E9 (Ac ab aa)));rw[E.out];exact Er _ eO rfl rfl (((Ac ab aa).block _ (by simp)).trans (Cc _ _ _)) (Ac (Dd _ _ _) (Ac ab aa)) (Nat.le_succ _)
 by_cases ac:op=10
 ·subst ac;have E:Hid (Mt 10 a=whV _):=rfl;generalize Mt 10 a=r at E;clear ho;obtain⟨k,n,s⟩:=a;show aQ _ 316 #[J _ 10,aM #[J _ k,J _ n,H s]] w _;go_enter dY,dM;go_wp2_with(first|(refine(T6 _ _).mono ?_;rintro e w3 ⟨rfl,aa⟩;simp only[V.val];obtain⟨ad,ae⟩:=E9 aa));rw[E.out];exact Er _ eO rfl rfl ((aa.block _ (by simp)).trans (Cc _ _ _)) (Ac (Dd _ _ _) aa) (Nat.le_succ _)
 have E:Hid (Mt op a=zero):=by show _=_;simp[Mt,h9,ac]
 generalize Mt op a=r at E;clear ho;obtain⟨k,n,s⟩:=a;show aQ _ 316 #[J _ op,aM #[J _ k,J _ n,H s]] w _;go_enter dY,dM;go_wp2;rw[E.out];exact aS (v:=aM #[J _ 0,J _ 0,H noW]) (by simp[bM,go_sem]) rfl ⟨rfl,Dd _ _ _⟩
theorem Azu {a b}(h1:-1000000≤a)(h2:a≤1000000)(h3:-1000000≤b)(h4:b≤1000000):IntKind.i64.wrap (a+b)=a+b∧IntKind.i64.wrap (a-b)=a-b:=by
 rw[cF,cF];omega
theorem Apg (op:Int)(a b:V)(w:aZ)(ha:Hg a=aJ)(hb:Hg b=aJ)(hk:a.k=b.k):aQ aB 360 #[J U op,a.val,b.val] w fun e w'=>e=aH (knV op a b).val∧Below w.heap.size w w':=by
 have hc:=fun w=>An4 a b w
 by_cases h5:op=5
 ·subst h5;have E:Hid (knV 5 a b=whV _):=rfl;generalize Bt a b=c at E hc;generalize knV 5 a b=r at E;clear ha hb hk;obtain⟨k,n,s⟩:=a;obtain⟨k',n',s'⟩:=b;simp only[V.val]at hc;show aQ aB 360 #[J U 5,aM #[J U k,J U n,H s],aM #[J U k',J U n',H s']] w _;go_enter bX,bO;go_wp2_with(first|(refine(hc _).mono ?_;rintro e w1 ⟨rfl,ab⟩)|(refine(T6 _ _).mono ?_;rintro e w3 ⟨rfl,aa⟩;simp only[V.val];obtain⟨ac,ad⟩:=E9 (Ac ab aa)));rw[E.out];exact Er _ cO rfl rfl (((Ac ab aa).block _ (by simp)).trans (Fi _ _ _ _)) (Ac (Hy _ _ _ _) (Ac ab aa)) (by omega)
 by_cases h6:op=6
 ·subst h6;have E:Hid (knV 6 a b=whV _):=rfl;generalize Bt a b=c at E hc;generalize knV 6 a b=r at E;clear ha hb hk;obtain⟨k,n,s⟩:=a;obtain⟨k',n',s'⟩:=b;simp only[V.val]at hc;show aQ aB 360 #[J U 6,aM #[J U k,J U n,H s],aM #[J U k',J U n',H s']] w _;go_enter bX,bO;go_wp2_with(first|(refine(hc _).mono ?_;rintro e w1 ⟨rfl,ab⟩)|(refine(T6 _ _).mono ?_;rintro e w3 ⟨rfl,aa⟩;simp only[V.val];obtain⟨ac,ad⟩:=E9 (Ac ab aa)));rw[E.out];exact Er _ cO rfl rfl (((Ac ab aa).block _ (by simp)).trans (Fi _ _ _ _)) (Ac (Hy _ _ _ _) (Ac ab aa)) (by omega)
 clear hc
 by_cases h1:a.k=1
 ·have hn:-1000000≤a.n∧a.n≤1000000:=by have:=ha;simp[Hg,good,h1]at this;exact⟨this.1.1,this.1.2⟩
  have ae:-1000000≤b.n∧b.n≤1000000:=by have:=hb;rw[h1]at hk;simp[Hg,good,←hk]at this;exact⟨this.1.1,this.1.2⟩
  obtain⟨e1,e2⟩:=Azu hn.1 hn.2 ae.1 ae.2;clear hn ae ha hb hk
  by_cases h3:op=3
  ·subst h3;have E:Hid (knV 3 a b=Qi (a.n+b.n)):=by show _=_;simp[knV,h1]
   generalize knV 3 a b=r at E;obtain⟨k,n,s⟩:=a;obtain⟨k',n',s'⟩:=b;simp only at h1 e1 e2;subst h1;show aQ _ 360 #[J _ 3,aM #[J _ 1,J _ n,H s],aM #[J _ k',J _ n',H s']] w _;go_enter bX,bO;go_wp2_with(first|(refine(Abc _ _).mono ?_;rintro e w3 ⟨rfl,aa⟩;simp only[V.val];obtain⟨ac,ad⟩:=E9 aa));rw[E.out];exact Er _ cO rfl rfl ((aa.block _ (by simp)).trans (Fi _ _ _ _)) (Ac (Hy _ _ _ _) aa) (by omega)
  by_cases h4:op=4
  ·subst h4;have E:Hid (knV 4 a b=Qi (a.n-b.n)):=by show _=_;simp[knV,h1]
   generalize knV 4 a b=r at E;obtain⟨k,n,s⟩:=a;obtain⟨k',n',s'⟩:=b;simp only at h1 e1 e2;subst h1;show aQ _ 360 #[J _ 4,aM #[J _ 1,J _ n,H s],aM #[J _ k',J _ n',H s']] w _;go_enter bX,bO;go_wp2_with(first|(refine(Abc _ _).mono ?_;rintro e w3 ⟨rfl,aa⟩;simp only[V.val];obtain⟨ac,ad⟩:=E9 aa));rw[E.out];exact Er _ cO rfl rfl ((aa.block _ (by simp)).trans (Fi _ _ _ _)) (Ac (Hy _ _ _ _) aa) (by omega)
  have E:Hid (knV op a b=zero):=by show _=_;simp[knV,h3,h4,h5,h6]
  generalize knV op a b=r at E;obtain⟨k,n,s⟩:=a;obtain⟨k',n',s'⟩:=b;simp only at h1;subst h1;show aQ _ 360 #[J _ op,aM #[J _ 1,J _ n,H s],aM #[J _ k',J _ n',H s']] w _;go_enter bX,bO;go_wp2;rw[E.out];exact aS (v:=aM #[J _ 0,J _ 0,H noW]) (by simp[bM,go_sem]) rfl ⟨rfl,Hy _ _ _ _⟩
 have E:Hid (knV op a b=zero):=by show _=_;simp[knV,h1,h5,h6]
 generalize knV op a b=r at E;clear ha hb hk;obtain⟨k,n,s⟩:=a;obtain⟨k',n',s'⟩:=b;simp only at h1;have af:(k !=1)=aJ:=by simpa using h1
 show aQ _ 360 #[J _ op,aM #[J _ k,J _ n,H s],aM #[J _ k',J _ n',H s']] w _;go_enter bX,bO;go_wp2;rw[E.out];exact aS (v:=aM #[J _ 0,J _ 0,H noW]) (by simp[bM,go_sem]) rfl ⟨rfl,Hy _ _ _ _⟩
theorem Awh (a b:V)(w:aZ):aQ aB 317 #[J U 7,a.val,b.val] w fun e w'=>e=aH (Hs 7 a b).val∧Below w.heap.size w w':=by
 have ho:=fun w=>U4 a w
 have aa:=fun w=>U4 b w
 have E:Hid (Hs 7 a b=Fv (Wh (ofV a) (ofV b))):=rfl;generalize ofV a=o at E ho;generalize ofV b=o' at E aa;generalize Hs 7 a b=r at E;obtain⟨k,n,s⟩:=a;obtain⟨k',n',s'⟩:=b;simp only[V.val]at ho aa;show aQ aB 317 #[J U 7,aM #[J U k,J U n,H s],aM #[J U k',J U n',H s']] w _;go_enter bY,bQ;go_wp2_with fail
 go_region_held3(fun w'=>w'.cell? ⟨w.heap.size,0,Q⟩=N (J U k)∧w'.cell? ⟨w.heap.size,1,Q⟩=N (J U n)∧w'.cell? ⟨w.heap.size,2,Q⟩=N (H s)∧w'.cell? ⟨w.heap.size+1,0,Q⟩=N (J U k')∧w'.cell? ⟨w.heap.size+1,1,Q⟩=N (J U n')∧w'.cell? ⟨w.heap.size+1,2,Q⟩=N (H s')) (first|(go_keep;done)|((try dsimp only);(repeat' apply dB)<;>(rw[A3 (by omega),A3 (by omega),A3 (by omega)];first|assumption|go_keep|simp_all)))
  (first|(go_at_call_of 207 (aX #[J U k,J U n,H s]);refine(ho _).mono ?_;rintro e w1 ⟨rfl,ab⟩;obtain⟨z1,q1,r1,s1,t1⟩:=Jc ab (g:=w.heap.size) (by first|(simp;done)|assumption|(simp;omega)|omega))|(go_at_call_of 207 (aX #[J U k',J U n',H s']);refine(aa _).mono ?_;rintro e w2 ⟨rfl,ac⟩;obtain⟨z2,q2,r2,s2,t2⟩:=Jc ac (g:=w.heap.size) (by first|(simp;done)|assumption|(simp;omega)|omega))|(go_at_call 357;refine(A16 _ _ _).mono ?_;rintro e w' ⟨rfl,rfl⟩)|(go_at_call 354;refine(Tk _ _).mono ?_;rintro e w3 ⟨rfl,ad⟩;simp only[V.val];obtain⟨z3,q3,r3,s3,t3⟩:=Jc ad (g:=w.heap.size) (by first|(simp;done)|assumption|(simp;omega)|omega)))
 go_wp2;rw[E.out];exact Er _ bI rfl rfl (((Ac ab (Ac ac ad)).block _ (by simp)).trans (Fi _ _ _ _)) (Ac (Hy _ _ _ _).drew (Ac ab (Ac ac ad))) (by omega)
theorem Azv (a b:V)(w:aZ):aQ aB 317 #[J U 8,a.val,b.val] w fun e w'=>e=aH (Hs 8 a b).val∧Below w.heap.size w w':=by
 have ho:=fun w=>U4 a w
 have aa:=fun w=>U4 b w
 have E:Hid (Hs 8 a b=Fv (tOr (ofV a) (ofV b))):=rfl;generalize ofV a=o at E ho;generalize ofV b=o' at E aa;generalize Hs 8 a b=r at E;obtain⟨k,n,s⟩:=a;obtain⟨k',n',s'⟩:=b;simp only[V.val]at ho aa;show aQ aB 317 #[J U 8,aM #[J U k,J U n,H s],aM #[J U k',J U n',H s']] w _;go_enter bY,bQ;go_wp2_with fail
 go_region_held3(fun w'=>w'.cell? ⟨w.heap.size,0,Q⟩=N (J U k)∧w'.cell? ⟨w.heap.size,1,Q⟩=N (J U n)∧w'.cell? ⟨w.heap.size,2,Q⟩=N (H s)∧w'.cell? ⟨w.heap.size+1,0,Q⟩=N (J U k')∧w'.cell? ⟨w.heap.size+1,1,Q⟩=N (J U n')∧w'.cell? ⟨w.heap.size+1,2,Q⟩=N (H s')) (first|(go_keep;done)|((try dsimp only);(repeat' apply dB)<;>(rw[A3 (by omega),A3 (by omega),A3 (by omega)];first|assumption|go_keep|simp_all)))
  (first|(go_at_call_of 207 (aX #[J U k,J U n,H s]);refine(ho _).mono ?_;rintro e w1 ⟨rfl,ab⟩;obtain⟨z1,q1,r1,s1,t1⟩:=Jc ab (g:=w.heap.size) (by first|(simp;done)|assumption|(simp;omega)|omega))|(go_at_call_of 207 (aX #[J U k',J U n',H s']);refine(aa _).mono ?_;rintro e w2 ⟨rfl,ac⟩;obtain⟨z2,q2,r2,s2,t2⟩:=Jc ac (g:=w.heap.size) (by first|(simp;done)|assumption|(simp;omega)|omega))|(go_at_call 358;refine(A35 _ _ _).mono ?_;rintro e w' ⟨rfl,rfl⟩)|(go_at_call 354;refine(Tk _ _).mono ?_;rintro e w3 ⟨rfl,ad⟩;simp only[V.val];obtain⟨z3,q3,r3,s3,t3⟩:=Jc ad (g:=w.heap.size) (by first|(simp;done)|assumption|(simp;omega)|omega)))
 go_wp2;rw[E.out];exact Er _ bI rfl rfl (((Ac ab (Ac ac ad)).block _ (by simp)).trans (Fi _ _ _ _)) (Ac (Hy _ _ _ _).drew (Ac ab (Ac ac ad))) (by omega)
theorem Awi (op:Int)(a b:V)(w:aZ)(ha:a.s.size≤bJ)(hb:b.s.size≤bJ):aQ aB 317 #[J U op,a.val,b.val] w fun e w'=>e=aH (Hs op a b).val∧Below w.heap.size w w':=by
 by_cases h7:op=7
 ·subst h7;exact Awh a b w
 by_cases h8:op=8
 ·subst h8;exact Azv a b w
 have ho:=fun w=>Ah1 a w ha
 have ac:=fun w=>Ah1 b w hb
 clear ha hb
 by_cases h:Hg a=aJ∧Hg b=aJ∧a.k=b.k
 ·have E:Hid (Hs op a b=knV op a b):=by show _=_;simp only[Hs,h7,h8,if_false];rw[if_pos h]
  have hk:=fun w=>Apg op a b w h.1 h.2.1 h.2.2
  generalize Hs op a b=r at E;generalize knV op a b=q at E hk;obtain⟨h1,h2,h3⟩:=h;rw[h1]at ho;rw[h2]at ac;clear h1 h2;obtain⟨k,n,s⟩:=a;obtain⟨k',n',s'⟩:=b;simp only at h3;subst h3;simp only[V.val]at ho ac hk;show aQ aB 317 #[J U op,aM #[J U k,J U n,H s],aM #[J U k,J U n',H s']] w _;go_enter bY,bQ;go_wp2_with(first|(go_at_call_of 359 (aX #[J U k,J U n,H s]);refine(ho _).mono ?_;rintro e w1 ⟨rfl,aa⟩;obtain⟨z1,q1,r1,s1,t1⟩:=Jc aa (g:=w.heap.size) (by first|(simp;done)|assumption|(simp;omega)|omega))|(go_at_call_of 359 (aX #[J U k,J U n',H s']);refine(ac _).mono ?_;rintro e w2 ⟨rfl,ab⟩;obtain⟨z2,q2,r2,s2,t2⟩:=Jc ab (g:=w.heap.size) (by first|(simp;done)|assumption|(simp;omega)|omega))|(go_at_call 360;refine(hk _).mono ?_;rintro e w3 ⟨rfl,ad⟩;obtain⟨z3,q3,r3,s3,t3⟩:=Jc ad (g:=w.heap.size) (by first|(simp;done)|assumption|(simp;omega)|omega)));rw[E.out];exact Er _ bI rfl rfl (((Ac aa (Ac ab ad)).block _ (by simp)).trans (Fi _ _ _ _)) (Ac (Hy _ _ _ _) (Ac aa (Ac ab ad))) (by omega)
 have E:Hid (Hs op a b=zero):=by show _=_;simp only[Hs,h7,h8,if_false];rw[if_neg h]
 generalize Hs op a b=r at E;cases h1:Hg a
 ·rw[h1]at ho;clear h1 h ac;obtain⟨k,n,s⟩:=a;obtain⟨k',n',s'⟩:=b;simp only[V.val]at ho;show aQ aB 317 #[J U op,aM #[J U k,J U n,H s],aM #[J U k',J U n',H s']] w _;go_enter bY,bQ;go_wp2_with(first|(go_at_call_of 359 (aX #[J U k,J U n,H s]);refine(ho _).mono ?_;rintro e w1 ⟨rfl,aa⟩;obtain⟨z1,q1,r1,s1,t1⟩:=Jc aa (g:=w.heap.size) (by first|(simp;done)|assumption|(simp;omega)|omega)));rw[E.out];exact Er zero bI rfl rfl ((aa.block _ (by simp)).trans (Fi _ _ _ _)) (Ac (Hy _ _ _ _) aa) (by omega)
 rw[h1]at ho;cases h2:Hg b
 ·rw[h2]at ac;clear h1 h2 h;obtain⟨k,n,s⟩:=a;obtain⟨k',n',s'⟩:=b;simp only[V.val]at ho ac;show aQ aB 317 #[J U op,aM #[J U k,J U n,H s],aM #[J U k',J U n',H s']] w _;go_enter bY,bQ;go_wp2_with(first|(go_at_call_of 359 (aX #[J U k,J U n,H s]);refine(ho _).mono ?_;rintro e w1 ⟨rfl,aa⟩;obtain⟨z1,q1,r1,s1,t1⟩:=Jc aa (g:=w.heap.size) (by first|(simp;done)|assumption|(simp;omega)|omega))|(go_at_call_of 359 (aX #[J U k',J U n',H s']);refine(ac _).mono ?_;rintro e w2 ⟨rfl,ab⟩;obtain⟨z2,q2,r2,s2,t2⟩:=Jc ab (g:=w.heap.size) (by first|(simp;done)|assumption|(simp;omega)|omega)));rw[E.out];exact Er zero bI rfl rfl (((Ac aa ab).block _ (by simp)).trans (Fi _ _ _ _)) (Ac (Hy _ _ _ _) (Ac aa ab)) (by omega)
 rw[h2]at ac;have h3:a.k≠b.k:=fun e=>h ⟨h1,h2,e⟩
 clear h1 h2 h;obtain⟨k,n,s⟩:=a;obtain⟨k',n',s'⟩:=b;simp only at h3;have ae:(k !=k')=aJ:=by simpa using h3
 simp only[V.val]at ho ac;show aQ aB 317 #[J U op,aM #[J U k,J U n,H s],aM #[J U k',J U n',H s']] w _;go_enter bY,bQ;go_wp2_with(first|(go_at_call_of 359 (aX #[J U k,J U n,H s]);refine(ho _).mono ?_;rintro e w1 ⟨rfl,aa⟩;obtain⟨z1,q1,r1,s1,t1⟩:=Jc aa (g:=w.heap.size) (by first|(simp;done)|assumption|(simp;omega)|omega))|(go_at_call_of 359 (aX #[J U k',J U n',H s']);refine(ac _).mono ?_;rintro e w2 ⟨rfl,ab⟩;obtain⟨z2,q2,r2,s2,t2⟩:=Jc ab (g:=w.heap.size) (by first|(simp;done)|assumption|(simp;omega)|omega)));rw[E.out];exact Er zero bI rfl rfl (((Ac aa ab).block _ (by simp)).trans (Fi _ _ _ _)) (Ac (Hy _ _ _ _) (Ac aa ab)) (by omega)
theorem Awj (op)(x)(s name)(n)(ao)(k c)(a)(b off cap)(ro)(rl rc)(w)(hb:b<w.heap.size)(hh:Nv w b off [a]):
  aQ aB 257 #[aM (Af op x s name n (aA ao k c)),aA (N ⟨b,off,Q⟩) 1 cap,aA ro rl rc] w fun e w'=>e=aH (Mt op a).val∧Below w.heap.size w w':=by
 obtain⟨c0,c1,c2⟩:=hh 0 a rfl;clear hh;simp only[bZ,cA]at c0 c1 c2;have ho:=fun w=>Awg op a w
 generalize Mt op a=r at ho;obtain⟨ak,an,ab⟩:=a;obtain⟨xk,xn,xs⟩:=x;simp only[V.val]at ho;have ac:b≠w.heap.size+1:=by omega
 go_enter eB,dP;go_wp2_with fail
 go_region_held3(fun w'=>w'.cell? ⟨w.heap.size,0,Q⟩=N (J U op)∧w'.cell? ⟨b,off,Q⟩=N (J U ak)∧w'.cell? ⟨b,off+1,Q⟩=N (J U an)∧w'.cell? ⟨b,off+2,Q⟩=N (H ab)) (first|(go_keep;done)|((try dsimp only);(repeat' apply dB)<;>(rw[A3 (by omega),A3 (by omega),A3 (by omega)];first|assumption|go_keep|simp_all)))
  (first|(go_at_call 316;refine(ho _).mono ?_;rintro e w1 ⟨rfl,aa⟩;obtain⟨z1,q1,r1,t1,s1⟩:=Aue aa (g:=w.heap.size) (b:=b) (by first|(simp;done)|assumption|(simp;omega)|omega) hb))
 go_wp2;exact Er _ dE rfl rfl ((aa.block _ (by simp)).trans (Cc _ _ _)) (Ac (Dd _ _ _).drew aa) (by omega)
theorem Awk (op:Int)(x:V)(s name:Wd)(n:Int)(ao:Option Addr)(k c:Nat)(a a':V)(b aa cap:Nat)(ro:Option Addr)(rl rc:Nat)(w:aZ)(hb:b<w.heap.size)(hh:Nv w b aa [a,a'])(hs:a.s.size≤bJ)(ac:a'.s.size≤bJ):
  aQ aB 257 #[aM (Af op x s name n (aA ao k c)),aA (N ⟨b,aa,Q⟩) 2 cap,aA ro rl rc] w fun e w'=>e=aH (Hs op a a').val∧Below w.heap.size w w':=by
 obtain⟨c0,c1,c2⟩:=hh 0 a rfl;obtain⟨d0,d1,d2⟩:=hh 1 a' rfl;clear hh;simp only[bZ,cA,Nat.one_mul]at c0 c1 c2 d0 d1 d2;have ho:=fun w=>Awi op a a' w hs ac
 generalize Hs op a a'=r at ho;clear hs ac;obtain⟨ak,an,ad⟩:=a;obtain⟨bk,bn,bt⟩:=a';obtain⟨xk,xn,xs⟩:=x;simp only[V.val]at ho;have ae:b≠w.heap.size+1:=by omega
 go_enter eB,dP;go_wp2_with fail
 go_region_held3(fun w'=>w'.cell? ⟨w.heap.size,0,Q⟩=N (J U op)∧w'.cell? ⟨b,aa,Q⟩=N (J U ak)∧w'.cell? ⟨b,aa+1,Q⟩=N (J U an)∧w'.cell? ⟨b,aa+2,Q⟩=N (H ad)∧w'.cell? ⟨b,aa+3,Q⟩=N (J U bk)∧w'.cell? ⟨b,aa+3+1,Q⟩=N (J U bn)∧w'.cell? ⟨b,aa+3+2,Q⟩=N (H bt)) (first|(go_keep;done)|((try dsimp only);(repeat' apply dB)<;>(rw[A3 (by omega),A3 (by omega),A3 (by omega)];first|assumption|go_keep|simp_all)))
  (first|(go_at_call 317;refine(ho _).mono ?_;rintro e w1 ⟨rfl,ab⟩;obtain⟨z1,q1,r1,t1,s1⟩:=Aue ab (g:=w.heap.size) (b:=b) (by first|(simp;done)|assumption|(simp;omega)|omega) hb))
 go_wp2;exact Er _ dE rfl rfl ((ab.block _ (by simp)).trans (Cc _ _ _)) (Ac (Dd _ _ _).drew ab) (by omega)
theorem Aen (op)(x)(s name)(n)(ao)(k c)(av)(al ac)(rv)(row)(w)(hr:Cq w rv row)(hn:row.length≤bJ)(h1:al≠1)(h2:al≠2):
  aQ aB 257 #[aM (Af op x s name n (aA ao k c)),aA av al ac,rv] w fun e w'=>e=aH (Jf op x n row).val∧Below w.heap.size w w':=by
 have ho:=fun w' h=>As5 op x s name n (aA ao k c) rv row w' (hr.below h) hn ⟨_,_,_,rfl⟩
 obtain⟨ro,rc,rfl⟩:=hr.shape;generalize Jf op x n row=r at ho;obtain⟨xk,xn,xs⟩:=x;simp only[V.val]at ho;have e1:((al:Int)==1)=aO:=by simp;omega
 have e2:((al:Int)==2)=aO:=by simp;omega
 go_enter eB,dP;go_wp2_with(first|(go_at_call 318;refine(ho _ (Dd _ _ _)).mono ?_;rintro e w1 ⟨rfl,aa⟩;obtain⟨ab,ad⟩:=E9 aa));exact Er _ dE rfl rfl ((aa.block _ (by simp)).trans (Cc _ _ _)) (Ac (Dd _ _ _) aa) (by omega)
theorem Ah2 (op)(x)(s name)(n)(ao)(k c)(av rv)(cs row)(w)(ha:Cq w av cs)(hs:∀v∈cs,v.s.size≤bJ)(hr:Cq w rv row)(hn:row.length≤bJ):
  aQ aB 257 #[aM (Af op x s name n (aA ao k c)),av,rv] w fun e w'=>e=aH (Acb op x n cs row).val∧Below w.heap.size w w':=by
 match cs,ha,hs with
 |[],ha,_=>
  obtain⟨xo,xc,rfl⟩:=ha.shape;exact Aen op x s name n ao k c xo _ xc rv row w hr hn (by simp) (by simp)
 |[a],ha,_=>
  obtain⟨ro,rc,rfl⟩:=hr.shape;rcases ha with⟨_,h⟩|⟨b,off,cap,rfl,hb,hh⟩
  ·cases h
  ·exact Awj op x s name n ao k c a b off cap ro _ rc w hb hh
 |[a,a'],ha,hs=>
  obtain⟨ro,rc,rfl⟩:=hr.shape;rcases ha with⟨_,h⟩|⟨b,off,cap,rfl,hb,hh⟩
  ·cases h
  ·exact Awk op x s name n ao k c a a' b off cap ro _ rc w hb hh (hs a (by simp)) (hs a' (by simp))
 |a::b::d::r,ha,_=>
  obtain⟨xo,xc,rfl⟩:=ha.shape;exact Aen op x s name n ao k c xo _ xc rv row w hr hn (by simp) (by simp)
end
end Go.Proofs.YtocegbpmmiabmaaGreatDoor

/-
  19 texts of this proof in one,in build order:GSearch0,GSearch,GLose,GLack,GMay,GPut,WWith3,WWith4,GWith,GMark,GIns,GSel,GSel2,GCount,GBound,GBound2,GBound3,GBound4,GClone.
-/
import Derived.Deep.Cut
import Derived.Test.YtjapkoofjlmdgaaGreatDoorJ01
import Derived.Test.YtjapkoofjlmdgaaGreatDoorJ04
import Derived.Test.YtjapkoofjlmdgaaGreatDoorJ06
import Derived.Test.YtjapkoofjlmdgaaGreatDoorJ07
import Derived.Test.YtjapkoofjlmdgaaGreatDoorJ08
import Derived.Test.YtjapkoofjlmdgaaGreatDoorJ09
import Derived.Test.YtjapkoofjlmdgaaGreatDoorJ10
import Derived.Test.YtjapkoofjlmdgaaGreatDoorJ11
set_option linter.unusedSimpArgs false
set_option linter.unusedVariables false
set_option maxRecDepth 100000
set_option maxHeartbeats 0
open Go.Value renaming agg→aU,bool→dA,int→Y,pointer→aR,slice→D,string→O,tuple→cI
open List renaming any_eq_false→cZ,eq_nil_of_length_eq_zero→bC,filter_cons→cE,flatten_append→cU,forall_mem_cons→cT,getD_eq_getElem?_getD→bH,getElem?_eq_getElem→aA,getElem?_eq_some_iff→bI,getElem?_map→cC,getElem?_zip_eq_some→cK,getElem_mem→aL,getElem_of_mem→aG,headD_cons→dF,length_append→aJ,length_cons→aN,length_map→aX,length_singleton→cS,length_take→aT,length_zip→dE,map_cons→cN,mem_append→cH,mem_cons_of_mem→bB,mem_cons_self→bG,mem_filter→cG,mem_flatten→dC,mem_map→cP,mem_of_getElem?→aE,mem_singleton→aP,not_mem_nil→dB,sum_cons→cM,take_add_one→aY,take_length→aZ,take_of_length_le→bM
open Go renaming Calls→aV,Value→bF,World→bU,bodyPost_ret→bQ,lt_of_block→U,maxLen→cQ,results_cell_row→bD,wpAnyH_done→bL,wpAnyH_take→cL,wpList_append_own_at→bZ,wp_region_held_drew→aO
open Nat renaming add_zero→cR,le_refl→aH,le_trans→aB,lt_of_lt_of_le→aM,lt_succ_iff_lt_or_eq→cO,ne_of_lt→cD,pow_le_pow_right→bR,zero_le→aS
open Option renaming getD_some→cB,none→M,some→H,toList_some→bV
open Go.Obj renaming cells→Q
open Go.RowKit.Below renaming heap_setCell→bY,refl→aC
open Go.World renaming cell?_of_block→bO,frozen?→aD,setCell→cJ,size_alloc→cW
open Go.Proofs.Tryz renaming func50→cF,ntmps50→cA,prog→aF,results50→bP,underlying30→cY,underlying41→bK,underlying57→cX,underlying71→bJ
open Go.Ending renaming returned→aI
open Except.ok renaming inj→aK
open Bool renaming false→aQ,false_eq_true→cV,or_eq_true→dG,true→Z
open Go.IntKind renaming i64→aW
open And renaming intro→bA
open Go.Proofs renaming intOf→bN
open Option.some renaming inj→bW
open Int renaming toNat_natCast→dD
namespace Go.Proofs.YtjapkoofjlmdgaaGreatDoor
section
open Go.RowKit
def Gp {α:Type}(K:Elem α)(F:Nat→Prop)(w:bU):List α→List (List bF)→Prop
 |[],[]=>True
 |x::A,c::CS=>K.R F w x c∧Gp K F w A CS
 |_,_=>False
theorem Avy {α}{K}{F}{w}:∀{A:List α}{cs:List bF},All K F w A cs→∃CS,CS.flatten=cs∧Gp K F w A CS
 |[],cs,h=>⟨[],by have:cs=[]:=h;grind,trivial⟩
 |x::A,cs,h=>by
  obtain⟨c,rest,rfl,h1,h2⟩:=h;obtain⟨CS,rfl,h3⟩:=Avy h2;exact⟨c::CS,rfl,h1,h3⟩
theorem Avz {α}{K}{F}{w}:∀{A:List α}{CS:List (List bF)},Gp K F w A CS→All K F w A CS.flatten
 |[],[],_=>rfl
 |_::_,c::_,h=>⟨c,_,rfl,h.1,Avz h.2⟩
theorem Gp.length {α}{K}{F}{w}:∀{A:List α}{CS:List (List bF)},Gp K F w A CS→CS.length=A.length
 |[],[],_=>rfl
 |_::_,_::_,h=>congrArg (·+1) (Gp.length h.2)
theorem Gp.get {α}{K}{F}{w}:∀{A:List α}{CS:List (List bF)}{i:Nat}{c:List bF},Gp K F w A CS→CS[i]?=H c→∃x,A[i]?=H x∧K.R F w x c
 |[],[],_,_,_,hc=>by grind
 |x::_,_::_,0,_,h,hc=>⟨x,rfl,by rw[←bW hc];exact h.1⟩
 |_::_,_::_,i+1,_,h,hc=>by
  obtain⟨y,h1,h2⟩:=Gp.get h.2 (by simpa using hc);grind
theorem Gp.filter {α}{K}{F}{w}(q)(p):∀{A:List α}{CS:List (List bF)}(i:Nat),Gp K F w A CS→(∀(j:Nat) (x:α),A[j]?=H x→p (i+j)= !q x)→Gp K F w (A.filter q) (Bv p i CS)
 |[],[],_,_,_=>trivial
 |x::A,c::CS,i,h,hp=>by
  have h0:=hp 0 x rfl;rw[cR]at h0;have ih:=Gp.filter q p (i+1) h.2 fun j y hy=>by have:=hp (j+1) y (by grind);grind
  rw[Bv];cases hq:q x with
  |true=>
   rw[hq]at h0;rw[h0,List.filter_cons_of_pos hq];exact⟨h.1,ih⟩
  |false=>
   grind
theorem Dg.base {B B'}{z}{A}{w}(h:Dg B z A w)(hB:B'≤B):Dg B' z A w:=by
 obtain⟨cs,h1,h2⟩:=h;exact⟨cs,Ni h1 hB,h2.mono fun k _ hk=>⟨aB hB hk.1,hk.2⟩⟩
theorem Dg.isL {B}{z}{A}{w}(h:Dg B z A w):IsL Qf (fun k=>k<w.heap.size) w z A:=by
 obtain⟨cs,h1,h2⟩:=h;exact⟨cs,(Bp.of_own h1 fun _ h=>h).mono fun k hk _=>hk,h2.mono fun k hk _=>hk⟩
theorem Dg.below {B}{z}{A}{w w'}(h:Dg B z A w)(hb:Below w.heap.size w w'):Dg B z A w':=by
 obtain⟨cs,h1,h2⟩:=h;exact⟨cs,Aj h1 hb,h2.keep (Ak hb)⟩
theorem Rb {B}{z}{A}{w}(h:Dq B z A w):IsL Ek (fun k=>k<w.heap.size) w z A:=by
 obtain⟨cs,h1,h2⟩:=h;exact⟨cs,(Bp.of_own h1 fun _ h=>h).mono fun k hk _=>hk,h2.mono fun k hk _=>hk⟩
theorem Av0 (w:bU){B}(hB:B≤w.heap.size):Dg B (D (H ⟨w.heap.size,0,M⟩) 1 1) [⟨[],[],[]⟩] (w.alloc (Q #[D M 0 0,D M 0 0,D M 0 0] 115)):=
 ⟨[D M 0 0,D M 0 0,D M 0 0],Jl (X:=[D M 0 0,D M 0 0,D M 0 0]) hB (Ab _ _) (by simp) (by decide) rfl rfl,⟨_,[],rfl,⟨_,_,_,rfl,IsL.nil _ _ _,IsL.nil _ _ _,IsL.nil _ _ _⟩,rfl⟩⟩
def wid (ts:List TabD):Nat:=(ts.map fun t=>t.cols.length).sum
theorem Ahz {A}:∀(ts:List TabD) (a:Nat) (l:List Fnd) (t:TabD),Ch A a l (ts++[t])=Gv (Ch A a l ts) (A t (a+wid ts))
 |[],a,l,t=>by rfl
 |s::ts,a,l,t=>by
  rw[List.cons_append,Ch,Ch,Ahz ts];simp only[wid,cN,cM,Nat.add_assoc]
theorem Azc (ts)(t):wid (ts++[t])=wid ts+t.cols.length:=by simp[wid]
theorem Amg {c}:∀(ts:List TabD),(∀t∈ts,t.cols.length≤c)→wid ts≤c*ts.length
 |[],_=>by simp[wid]
 |t::ts,h=>by
  have h1:=Amg ts fun t ht=>h t (bB _ ht)
  have h2:=h t bG;simp only[wid,cN,cM,aN]at h1⊢;grind
theorem We {A}:∀(ts:List TabD) (a m:Nat) (l:List Fnd),(∀t∈ts,∀a,(A t a).length≤30∧∀r∈A t a,r.length=t.cols.length)→(∀f∈l,f.row.length=a∧f.ids.length≤m)→(Ch A a l ts).length≤l.length*30^ts.length∧∀f∈Ch A a l ts,f.row.length=a+wid ts∧f.ids.length≤m+ts.length
 |[],a,m,l,_,hl=>⟨by simp[Ch],fun f hf=>by have:=hl f hf;assumption⟩
 |t::ts,a,m,l,hA,hl=>by
  obtain⟨h1,h2⟩:=hA t bG a;obtain⟨i1,i2⟩:=We ts (a+t.cols.length) (m+1) (Gv l (A t a)) (fun t ht=>hA t (bB _ ht)) (fun f hf=>by
   obtain⟨g,hg,r,hr,rfl⟩:=A4i.1 hf;have:=hl g hg;have:=h2 r hr;simp only[Ed,aJ,aT];omega)
  refine⟨?_,fun f hf=>?_⟩
  ·have h3:=J6 (fun f=>(A t a).map (Ed f)) 30 l (fun f _=>by grind);rw[Ch,aN,Nat.pow_succ];refine aB i1 ?_;have h4:(Gv l (A t a)).length≤l.length*30:=by unfold Gv;omega
   refine aB (Nat.mul_le_mul_right _ h4) (Nat.le_of_eq ?_);grind
  ·obtain⟨h5,h6⟩:=i2 f hf;simp only[wid,cN,cM,aN]at h5⊢;omega
theorem Y3 {A}{P:V→Prop}:∀(ts:List TabD) (a:Nat) (l:List Fnd),(∀t∈ts,∀a,∀r∈A t a,∀v∈r,P v)→(∀f∈l,∀v∈f.row,P v)→∀f∈Ch A a l ts,∀v∈f.row,P v
 |[],_,_,_,hl,f,hf=>hl f hf
 |t::ts,a,l,hA,hl,f,hf=>Y3 ts _ _ (fun t ht=>hA t (bB _ ht)) (fun g hg v hv=>by
   obtain⟨g,aa,r,hr,rfl⟩:=A4i.1 hg;rcases cH.1 hv with h|h
   ·exact hl g aa v h
   ·exact hA t bG a r hr v h) f hf
theorem Aja {Eg}{n}{d}{T}{a}{to' io po}{tc ic pc}{w}(he:EngC Eg w n d.c T a (D to' d.c.tables.length tc) (D io d.c.indexes.length ic) (D po T.length pc))(ok:DbOk d)(ah:Has d (flat T))(co:K7 d.c)(st)(cs)(hR:I6.R (fun k=>k<w.heap.size) w st cs)(ts)(bl:ts.length=st.frm.length)(aw:∀(k:Nat) (nm:Wd) (t:TabD),st.frm[k]?=H nm→ts[k]?=H t→Bu d.c.tables nm=H t)(h2:ts.length≤2)(cp:Fg st.wher)(cq:Dd st.wher)(cr:geB 40 st.wher=Z→Mt 40 st.wher):
  aV aF 60 #[aR (H ⟨n,0,M⟩),aU cs.toArray] w fun e w'=>∃zv A,e=aI zv∧Dg w.heap.size zv A w'∧A.Perm ((Ch (Hc d) 0 [⟨[],[],[]⟩] ts).filter fun f=>At st.wher f.row)∧Below w.heap.size w w':=by
 obtain⟨o1,c1,o2,c2,o3,c3,o4,c4,o5,c5,op,xk,xn,xs,s,ad,n8,o6,k6,c6,o7,c7,rfl,i1,i2,i3,i4,i5,i6,i7⟩:=Ba hR;have ab:∀t∈ts,t∈d.c.tables:=fun t ht=>by
  obtain⟨k,hk,rfl⟩:=aG ht;exact(Ea (aw k _ _ (aA (show k<st.frm.length by omega)) (aA hk))).1
 obtain⟨_,bm,ax⟩:=D8 ok.cat;have hT:T.length≤450:=aB (Ja he.good) (Lt ok he.good ah);have hA:∀t∈ts,∀a,(Oo d T st.wher t a).length≤30∧∀r∈Oo d T st.wher t a,r.length=t.cols.length∧∀v∈r,good v=Z:=fun t ht a=>by
  obtain⟨q1,q2,_⟩:=Mv ok he.good ah (ab t ht) (a:Int) st.wher;exact⟨aB (Aqg q1 q2) (ok.len t (ab t ht)),fun r hr=>B6 (ok.fit t (ab t ht) r (q2 r hr))⟩
 have HA:Hid _:=hA;have bn:Hid (∀k,(Ch (Oo d T st.wher) 0 [⟨[],[],[]⟩] (ts.take k)).length≤900∧(k<ts.length→(Ch (Oo d T st.wher) 0 [⟨[],[],[]⟩] (ts.take k)).length≤30)∧wid (ts.take k)≤8∧∀f∈Ch (Oo d T st.wher) 0 [⟨[],[],[]⟩] (ts.take k),f.row.length≤8∧f.ids.length≤2∧∀v∈f.row,good v=Z):=fun k=>by
  have am:∀t∈ts.take k,t∈ts:=fun t h=>List.mem_of_mem_take h
  obtain⟨j1,j2⟩:=We (A:=Oo d T st.wher) (ts.take k) 0 0 [⟨[],[],[]⟩] (fun t h a=>⟨(hA t (am t h) a).1,fun r hr=>((hA t (am t h) a).2 r hr).1⟩) (fun f hf=>by rw[aP]at hf;rw[hf];exact⟨rfl,aH _⟩);have j3:=Amg (c:=4) (ts.take k) fun t h=>(ax t (ab t (am t h))).2.2
  have j4:(ts.take k).length≤2:=aB (by simp;omega) h2;have j5:=Y3 (A:=Oo d T st.wher) (P:=fun v=>good v=Z) (ts.take k) 0 [⟨[],[],[]⟩] (fun t h a r hr=>((hA t (am t h) a).2 r hr).2) (fun f hf v hv=>by rw[aP]at hf;rw[hf]at hv;cases hv);rw[cS,Nat.one_mul]at j1;refine⟨aB j1 (bR (by decide) j4),fun hk=>aB j1 (aB (bR (by decide) (show _≤1 by rw[aT];omega)) (by decide)),by omega,fun f hf=>?_⟩;have:=j2 f hf;exact⟨by omega,by omega,j5 f hf⟩
 obtain⟨ae,bS,-⟩:=al1 w (Q (sA st.kind st.name st.table st.col (D o1 st.cols.length c1) (D o2 st.rows.length c2) (D o3 st.sets.length c3) (D o4 st.frm.length c4) (D o5 st.out.length c5) op xk xn xs s ad n8 (D o6 k6 c6) (D o7 st.order.length c7) st.down st.n) 71);have ay:=he.below ae;have ct:Hid _:=i4;have bo:Hid _:=i6;have cu:Hid _:=aw;have cv:Hid _:=ab;have cy:Hid _:=ok;have cz:Hid _:=ah;have da:Hid _:=ax;have bp:Hid _:=bm;have bq:Hid _:=bl;have ea:st.frm.length≤2:=by omega
 have db:Hid _:=Aox ok he.good ah st.wher ts ab;generalize hW:w.alloc (Q (sA st.kind st.name st.table st.col (D o1 st.cols.length c1) (D o2 st.rows.length c2) (D o3 st.sets.length c3) (D o4 st.frm.length c4) (D o5 st.out.length c5) op xk xn xs s ad n8 (D o6 k6 c6) (D o7 st.order.length c7) st.down st.n) 71)=W1 at ae bS ay;have HW:Hid _:=hW;have dc:=Av0 W1 (aH _);have bt:=Aq W1 (Q #[D M 0 0,D M 0 0,D M 0 0] 115);have a7:=Aa ((bt.block _ (U bS)).trans bS) (j:=7) rfl;have eb:w.heap.size<W1.heap.size:=U bS;clear hW hR i1 i2 i3 i4 i5 i6 i7 aw ab ok ah ax bm hA bl h2;go_enter Tryz.func60,Tryz.ntmps60;go_upto_region 1 with fail;rw[HW.out];go_wp2_with fail
 go_loopw[5,6,15] (fun zv av i wr=>∃k:Nat,k≤st.frm.length∧i=Y aW k∧av=Y aW (wid (ts.take k):Nat)∧Hid (Dg W1.heap.size zv (Ch (Oo d T st.wher) 0 [⟨[],[],[]⟩] (ts.take k)) wr)∧Below W1.heap.size W1 wr) (fun _ _ i _=>st.frm.length-(bN i).toNat)
 case atStart=>exact⟨0,aS _,rfl,rfl,dc,bt⟩
 case round=>
  obtain⟨k,hk,rfl,rfl,az,ai⟩:=hrel;have an:Below w.heap.size w wr:=Ac ae ai
  by_cases bu:k<st.frm.length
  ·have bv:k<ts.length:=by have:=bq.out;omega
   obtain⟨nm,ba⟩:∃x,st.frm[k]?=H x:=⟨_,aA bu⟩;obtain⟨t,aj⟩:∃x,ts[k]?=H x:=⟨_,aA bv⟩;have bw:=aE aj;have ab:=cv.out t bw;obtain⟨bx,ec,ed⟩:=da.out t ab;obtain⟨b,ee,dd,de,_,hb,bz,ca⟩:=Av (IsL.keep ct.out (Ae an)) ba;cases de;have df:dd=[O nm]:=bz;subst df;have d0:=by have:=ca 0 _ rfl;simpa[Ou]using this
   have dg:=No (ay.below ai) (cu.out k nm t ba aj);obtain⟨_,s2,s3,s4⟩:=bn.out k;have s5:=s2 bv;have ap:Hid _:=HA.out t bw (wid (ts.take k));have bb:Hid (Ch (Oo d T st.wher) 0 [⟨[],[],[]⟩] (ts.take (k+1))=Gv (Ch (Oo d T st.wher) 0 [⟨[],[],[]⟩] (ts.take k)) (Hb t.cols.length T t.name (Dp d.c t ((wid (ts.take k):Nat):Int) st.wher))):=by
    show _=_;rw[aY,aj,bV,Ahz,Nat.zero_add];rfl
   have dh:Hid (wid (ts.take (k+1))=wid (ts.take k)+t.cols.length):=by
    show _=_;rw[aY,aj,bV,Azc]
   have cb:Hid _:=s4;have v0:(0:Int)≤k:=by omega
   have v1:k<(st.frm.length:Int):=by omega
   have HJ:Hid (k+1≤st.frm.length):=bu;unfold Oo at ap;generalize Ch _ 0 _ _=J at az bb cb s5;generalize di:wid _=a0 at*;clear ba aj ca bz s2 s4 di;go_upto_region 7 with(go_fit dg;rintro e w2 ⟨ao,cc,rfl,cd,dj⟩);obtain⟨bc,bT,-⟩:=al1 w2 (Q #[O t.name,D ao t.cols.length cc] 74);have bd:=Ac dj bc;have af:=Ac ai bd;have aa:=(af.block _ (U bS)).trans bS;have ac:=ay.below af;have be:=(cd.mono fun k hk _=>hk).keep (Ak bc);have bf:=IsE.mono (F':=fun k=>k<(w2.alloc (Q #[O t.name,D ao t.cols.length cc] 74)).heap.size) (fun k hk _=>hk) _ _ (IsE.keep (Ae (Ac ae af)) _ _ bo.out);have bg:=Dg.below az.out bd;generalize w2.alloc _=W3 at bc bd af bT aa ac be bf bg⊢;generalize w2.heap.size=gT at bT⊢;have ce:=be.mono fun k hk _=>hk
   have ak:=fun W h=>Aen d.c t a0 op xk xn xs s ad n8 o6 k6 c6 _ to' _ tc io _ ic ao cc _ W (IsE.keep (Ae h) _ _ bf) h.size cq cr (aB bx (by simp)) ⟨_,_,rfl,(ac.tabs.mono fun k hk _=>hk).keep (Ae h),(ac.idxs.mono fun k hk _=>hk).keep (Ae h)⟩ co (ce.keep (Ae h)) (fun x hx=>aB (bp.out x hx) (by simp))
   have ag:=fun W h=>Amd t (Dp d.c t a0 st.wher) T _ ao cc W ⟨_,rfl,(ac.below h).pages.pages⟩ he.good (by omega) (aB (Aa3 bp.out) (by simp)) (aB bx (by simp)) (P7 cy.out cz.out)
   generalize Hb _ T _ _=RW at ag bb ap;generalize Dp d.c t _ _=cw at ak ag;obtain⟨cx,ef,eg⟩:=cw;unfold J0 at ak ag;simp only at ak ag;have cf:=fun W rv h hr=>Ay3 J RW u5 rv W (Dg.isL (bg.below h)) hr (by omega) (by have:=ap.out.1;omega) (fun f hf=>by have:=cb.out f hf;omega) (fun r hr=>by have:=(ap.out.2 r hr).1;omega)
   have KS:Hid _:=fun W (h:Below _ W3 W)=>(show(W.cell? _=H (D po _ pc)∧W.cell? _=H (D to' _ tc)∧W.cell? _=H (D io _ ic)∧W.cell? _=H (O _)∧W.cell? _=H (D ao _ cc))∧(W.cell? _=H (Y _ op)∧W.cell? _=H (Y _ xk)∧W.cell? _=H (Y _ xn)∧W.cell? _=H (O xs)∧W.cell? _=H (O s)∧W.cell? _=H (O ad)∧W.cell? _=H (Y _ n8)∧W.cell? _=H (D o6 k6 c6))from⟨⟨Aa (ac.below h).blk (j:=2) rfl,Aa (ac.below h).blk (j:=0) rfl,Aa (ac.below h).blk (j:=1) rfl,Aa ((h.block _ (U bT)).trans bT) (j:=0) rfl,Aa ((h.block _ (U bT)).trans bT) (j:=1) rfl⟩,⟨Aa ((h.block _ (U aa)).trans aa) (j:=9) rfl,Aa ((h.block _ (U aa)).trans aa) (j:=10) rfl,Aa ((h.block _ (U aa)).trans aa) (j:=11) rfl,Aa ((h.block _ (U aa)).trans aa) (j:=12) rfl,Aa ((h.block _ (U aa)).trans aa) (j:=13) rfl,Aa ((h.block _ (U aa)).trans aa) (j:=14) rfl,Aa ((h.block _ (U aa)).trans aa) (j:=15) rfl,Aa ((h.block _ (U aa)).trans aa) (j:=16) rfl⟩⟩)
   have s0:=KS.out _ (aC _ _).drew;have cg:=Dg.isL bg;obtain⟨zo,zc,hz⟩:=cg.shape;subst hz;clear cg bf be ce cd
   go_region_held3(fun W=>(W.cell? ⟨n,2,M⟩=H (D po T.length pc)∧W.cell? ⟨n,0,M⟩=H (D to' d.c.tables.length tc)∧W.cell? ⟨n,1,M⟩=H (D io d.c.indexes.length ic)∧W.cell? ⟨gT,0,M⟩=H (O t.name)∧W.cell? ⟨gT,1,M⟩=H (D ao t.cols.length cc))∧(W.cell? ⟨w.heap.size,9,M⟩=H (Y aW op)∧W.cell? ⟨w.heap.size,10,M⟩=H (Y aW xk)∧W.cell? ⟨w.heap.size,11,M⟩=H (Y aW xn)∧W.cell? ⟨w.heap.size,12,M⟩=H (O xs)∧W.cell? ⟨w.heap.size,13,M⟩=H (O s)∧W.cell? ⟨w.heap.size,14,M⟩=H (O ad)∧W.cell? ⟨w.heap.size,15,M⟩=H (Y aW n8)∧W.cell? ⟨w.heap.size,16,M⟩=H (D o6 k6 c6))) (with_reducible omega)
    (first
     |(go_fit(ak _ (aC _ _).drew);rintro e w7 ⟨rfl,dk⟩;have bh:=Ac (aC _ _).drew dk;have s1:=KS.out w7 bh)
     |(go_fit(ag _ bh);rintro e w8 ⟨eh,rfl,dl,dm⟩;have aq:=Ac bh dm;have s7:=KS.out w8 aq;have dn:=Rb dl)
     |(go_fit(cf _ _ aq dn);rintro e w9 ⟨ei,rfl,dp,dq⟩;have ch:=Ac aq dq;have s8:=KS.out w9 ch))
   have ej:=dp.base (B':=W1.heap.size) (aB af.size aq.size);clear KS s0 s1 s7 ak ag cf;go_wp2_with fail;go_roundw
   case rel=>exact⟨_,HJ.out,by rfl,by rw[dh.out];rfl,by show Dg _ _ _ _;rw[bb.out];omega,Ac af ch⟩
   case measure=>have:=HJ.out;simp[bN];omega
  ·have ds:k=st.frm.length:=by omega
   subst ds;have v1:¬(st.frm.length<(st.frm.length:Int)):=by omega
   have bi:=az.out;have cj:=bn.out st.frm.length;rw[←bq.out,aZ]at bi cj;obtain⟨h9,_,_,ck⟩:=cj;have bj:=db.out;generalize Ch _ 0 _ ts=J at bi h9 ck bj;obtain⟨ek,ar,cl⟩:=bi;obtain⟨CS,rfl,al⟩:=Avy cl;have bk:=ar.lt;have cm:=(ai.block _ (U bS)).trans bS;have HD:=Aiu CS u5 (aR (H ⟨w.heap.size,0,M⟩)) (fun i=>match J[i]? with|some f=>!At st.wher f.row|none=>aQ) W1.heap.size wr (by rw[al.length];exact ar) (by
    intro c hc;obtain⟨i,hi,rfl⟩:=aG hc;obtain⟨x,_,⟨q1,q2,q3,hq,h1,h2,h3⟩⟩:=al.get (aA hi);obtain⟨e1,f1,rfl⟩:=h1.shape;obtain⟨e2,f2,rfl⟩:=h2.shape;obtain⟨e3,f3,rfl⟩:=h3.shape;exact⟨_,_,_,_,_,_,_,_,_,hq⟩) ai.size (by
    intro i c W hi au;obtain⟨x,hx,⟨q1,q2,q3,rfl,h1,h2,h3⟩⟩:=al.get hi;obtain⟨e2,f2,rfl⟩:=h2.shape;obtain⟨e3,f3,rfl⟩:=h3.shape;have dt:=Pf (F:=FO W1.heap.size u5) au fun k hk=>hk.2
    have du:=Pf (F:=fun k=>k<w.heap.size) au fun k hk e=>by have:=(bk k e.symm).1;omega
    have hg:=ck x (aE hx);have:=Aoz st.wher op xk xn xs s ad n8 o6 k6 c6 q1 (D e2 x.ids.length f2) (D e3 x.ord.length f3) x.row w.heap.size w.heap.size W (IsE.keep du _ _ (IsE.keep (Ae an) _ _ bo.out)) (aB an.size au.size) cp (F4 (h1.keep dt)) ⟨_,_,_,rfl⟩ ⟨_,_,_,rfl⟩ (fun v hv=>Iw (hg.2.2 v hv)) (aB hg.1 (by decide)) ((au.block _ (U cm) (fun e=>by have:=(bk _ e.symm).1;omega)).trans cm);rw[hx];exact this)
   obtain⟨zo,zc,hz⟩:=Eu.shape (Eu.of_own ar);have dv:Hid _:=al;have dw:Hid _:=bj;subst hz;clear cl ar al bk bj;go_wp2_with(go_fit HD;rintro e w9 ⟨dx,rfl,cn,el,dy,dz⟩);go_ret;have g1:=Gp.filter (fun f=>At st.wher f.row) (fun i=>match J[i]? with|some f=>!At st.wher f.row|none=>aQ) 0 dv.out (fun j x hx=>by simp_all);rw[g1.length]at cn;exact⟨_,_,rfl,Dg.base ⟨_,cn,(All.keep (Pf dy fun k hk=>hk.2) (Avz g1)).mono (F':=FO _ dx) (fun k _ hk=>⟨hk.1,by grind⟩)⟩ ae.size,dw.out,an.trans (dz.mono ae.size)⟩
theorem EngC.store {E}{w}{n}{c}{T T'}{a}{tv iv pv sv}(h:EngC E w n c T a tv iv pv)(hE:Cl E w)(hn:n∈E)(hp:A8 w sv T')(hg:As T')(hk:Keyed (flat T')):EngC E (w.setCell ⟨n,2,M⟩ sv) n c T' a tv iv sv:=by
 have aa:Keeps (fun k=>k∉E) w (w.setCell ⟨n,2,M⟩ sv):=(Keeps.refl _ _).set (fun h=>h hn) _ _;refine⟨?_,h.tabs.keep aa,h.idxs.keep aa,(Avh hE hp hg hk).keep aa,hg⟩;have:=Dh h.blk 2 sv;grind
theorem Y4 {W:bU}{n g}{a b c d e f}{t1 t2}(h1:W.heap[n]?=H (Q #[a,b,c,d] t1))(h2:W.heap[g]?=H (Q #[e,f] t2))(hn:n≠g)(x):
  (W.setCell ⟨n,2,M⟩ x).cell? ⟨n,0,M⟩=H a∧(W.setCell ⟨n,2,M⟩ x).cell? ⟨n,1,M⟩=H b∧(W.setCell ⟨n,2,M⟩ x).cell? ⟨g,0,M⟩=H e∧(W.setCell ⟨n,2,M⟩ x).cell? ⟨g,1,M⟩=H f:=by
 have h3:=by have:=Dh h1 2 x;simpa using this
 have h4:(W.setCell ⟨n,2,M⟩ x).heap[g]?=H _:=(bY _ _ _ _ (fun e=>hn e.symm)).trans h2;exact⟨Aa h3 rfl,Aa h3 rfl,Aa h4 rfl,Aa h4 rfl⟩
theorem Acc {E}{n}{c}{T}{a}{to' io po}{tc ic pc}{w}(hE:Cl E w)(hn:n∈E)(he:EngC E w n c T a (D to' c.tables.length tc) (D io c.indexes.length ic) (D po T.length pc))(an:Ds c=Z)(t)(so)(sc)(hl:IsL Cp (fun k=>k∉E) w (D so t.cols.length sc) t.cols)(rows)(rv)(hr:IsL Ek (fun k=>k∉E) w rv rows)(ap:∀r∈rows,r.length=t.cols.length∧∀v∈r,good v=Z)(cc:0<t.cols.length)(cd:t.cols.length≤4)(bc:t.name.size≤8)(hT:T.length≤100000)(bd:Keyed (flat T)):
  aV aF 54 #[aR (H ⟨n,0,M⟩),aU #[O t.name,D so t.cols.length sc],rv] w fun e w'=>e=aI (cI #[])∧∃be bf T',EngC E w' n c T' a (D to' c.tables.length tc) (D io c.indexes.length ic) (D be T'.length bf)∧flat T'=G0 (flat T) c.indexes t rows∧T'.length≤T.length∧But n w w':=by
 obtain⟨aq,ar,_⟩:=D8 an;obtain⟨ro,rc,rfl⟩:=hr.shape;have bg:=(Ew hr).2;unfold cQ at bg;obtain⟨ab,bT,-⟩:=al1 w (Q #[O t.name,D so t.cols.length sc] 74);have au:=he.below ab;have ag:=hE.below ab;have ah:=hl.keep (Ak ab);have ai:=hr.keep (Ak ab);have av:n≠w.heap.size:=cD he.lt;generalize hW:w.alloc (Q #[O t.name,D so t.cols.length sc] 74)=W1 at ab bT au ag ah ai;have HW:Hid _:=hW;have bh:Hid _:=ap;have bi:Hid _:=ar;have bj:Hid _:=aq;have bk:Hid _:=ag;have bl:Hid _:=ah;have bm:Hid _:=ai;clear hW ap ar aq ag ah ai hl hr hE;go_enter Tryz.func54,Tryz.ntmps54;go_upto_region 1 with fail;rw[HW.out];go_wp2
 go_loopw[10] (fun i wr=>∃(k:Nat) (aj:Option Addr) (ak:Nat) (T2:List Pg),k≤rows.length∧i=Y aW k∧EngC E wr n c T2 a (D to' c.tables.length tc) (D io c.indexes.length ic) (D aj T2.length ak)∧Hid (flat T2=G0 (flat T) c.indexes t (rows.take k)∧T2.length≤T.length∧Keyed (flat T2))∧But n W1 wr) (fun i _=>rows.length-(bN i).toNat)
 case atStart=>exact⟨0,po,pc,T,aS _,rfl,au,id ⟨rfl,aH _,bd⟩,But.refl _ _⟩
 case round=>
  obtain⟨k,aj,ak,T2,hk,rfl,aa,HF,ac⟩:=hrel
  by_cases bn:k<rows.length
  ·skip
   obtain⟨r,hx⟩:∃r,rows[k]?=H r:=⟨_,aA bn⟩;obtain⟨b,bo,ce,bp,_,cf,⟨yv,rfl,al⟩,aw⟩:=Av (IsL.keep bm.out (Jq ac hn)) hx;cases bp;obtain⟨yo,yc,rfl⟩:=al.shape;have bq:=F4 al;have d0:wr.cell? ⟨b,bo+k,M⟩=H (D yo r.length yc):=by have:=aw 0 _ rfl;simpa[Ek]using this
   obtain⟨ax,ay⟩:=bh.out r (aE hx);have az:=fun v hv=>Iw (ay v hv)
   have bt:=IsL.keep bl.out (Jq ac hn);have ad:=(ac.block _ (U bT) (fun e=>av e.symm)).trans bT;have bu:=Cl.put bk.out ac hn aa an;have v0:(0:Int)≤k:=by omega
   have v1:k<(rows.length:Int):=by omega
   have q2:=Aa aa.blk (j:=2) rfl;have bv:Hid (G0 _ _ t _=Kf (G0 (flat T) c.indexes t _) _ t r):=Aoq hx;have HD:=fun W h=>Aop _ t r T2 _ (D to' c.tables.length tc) _ _ _ _ W ⟨_,rfl,aa.pages.pages.below h⟩ aa.good (by have:=HF.out.2.1;omega) (B7 _ _ _) ((aa.below h).idxs.mono (fun k hk _=>hk)) ((bt.keep (Ak h)).mono (fun k hk _=>hk)) (aH _) (bq.below h) ax (by omega) (by omega) az (fun x hx=>aB (bi.out x hx) (by simp)) (aB bc (by simp)) (by have:=bj.out;omega)
   have KS:Hid _:=fun W (h:Below _ wr W)=>bA (show W.cell? _=H (D to' _ tc)from Aa (aa.below h).blk (j:=0) rfl) (bA (show W.cell? _=H (D io _ ic)from Aa (aa.below h).blk (j:=1) rfl) (bA (show W.cell? _=H (O _)from Aa ((h.block _ (U ad)).trans ad) (j:=0) rfl) (show W.cell? _=H (D so _ sc)from Aa ((h.block _ (U ad)).trans ad) (j:=1) rfl)))
   have KT:Hid _:=fun W (h:Below _ wr W) x=>Y4 (aa.below h).blk ((h.block _ (U ad)).trans ad) av x
   clear hx aw al ay az ax;go_wp2_with fail;refine aO (S:=(fun W=>W.cell? ⟨n,0,M⟩=H (D to' c.tables.length tc)∧W.cell? ⟨n,1,M⟩=H (D io c.indexes.length ic)∧W.cell? ⟨w.heap.size,0,M⟩=H (O t.name)∧W.cell? ⟨w.heap.size,1,M⟩=H (D so t.cols.length sc))) (by rfl) ?_ (fun hHeld=>?_)
   ·exact KS.out _ (aC _ _).drew
   refine tk 0 ?_;refine tk 1 ?_;refine tk 2 ?_;refine tk 3 ?_;refine tk 5 ?_;refine tk 6 ?_;refine tk 7 ?_;refine tk 8 ?_;refine tk 9 ?_;refine tk 10 ?_;refine Bh 4 (fun K hK=>?_);go_simp;go_wp2_with fail;refine hK.out _ _ ?_ (fun hHeld=>?_)
   ·omega
   clear hK K;refine Bh 11 (fun K hK=>?_);go_simp
   (go_fit(HD _ (aC _ _).drew);rintro e w4 ⟨cg,T4,rfl,af,bw,ba,bx,bz⟩;obtain⟨ch,rfl,af⟩:=af;obtain⟨ca,c4,rfl⟩:=Ct af;have ae:=Ac (aC _ _).drew bz;have am:=aa.below ae;have q4:=Aa am.blk (j:=2) rfl;have z4:w4.frozen? ⟨n,2,M⟩=aQ:=(by simp only[aD,am.blk];rfl))
   go_wp2_with fail;refine hK.out _ _ ?_ (fun hHeld=>?_)
   ·exact KS.out _ ae
   clear hK K;refine tk 12 ?_;refine tk 13 ?_;refine Bh 14 (fun K hK=>?_);go_simp;go_wp2_with fail;refine hK.out _ _ ?_ (fun hHeld=>?_)
   ·exact KT.out _ ae _
   clear hK K;refine bL (by kernel_rfl) ?_ _;go_wp2_with fail;have bb:Keyed (flat T4):=by rw[ba];exact Ar4 HF.out.2.2
   go_roundw
   case rel=>exact⟨k+1,ca,c4,T4,by omega,by rfl,am.store (bu.below ae) hn af bw bb,id ⟨by rw[ba,HF.out.1,bv.out],aB bx HF.out.2.1,bb⟩,ac.trans ((But.of_below ae).set _ _)⟩
   case measure=>simp[bN];omega
  ·have cb:k=rows.length:=by omega
   subst cb;have v1:¬(rows.length<(rows.length:Int)):=by omega
   have h1:=HF.out.1;rw[aZ]at h1;go_wp2
   go_end0
   exact⟨rfl,aj,ak,T2,aa,h1,HF.out.2.1,(But.of_below ab).trans ac⟩
theorem Av1 (t:TabD)(r:List V)(sv rv:bF)(C:Nat)(w:bU)(hl:IsL Cp (fun k=>k<C) w sv t.cols)(hr:Cq w rv r)(al:r.length=t.cols.length):
  aV aF 194 #[aU #[O t.name,sv],rv] w fun e w'=>e=aI (dA (Q8 t r))∧Below w.heap.size w w':=by
 obtain⟨so,sc,rfl⟩:=hl.shape;obtain⟨av,aw,am⟩:=hr.shape;subst am;have E:Hid (Q8 t r=Bz (Q7 t r) 0 t.cols.length):=rfl;generalize Q8 t r=q at E;have an:=(Ew hl).2;obtain⟨aa,bT,-⟩:=al1 w (Q #[O t.name,D so t.cols.length sc] 74);generalize hW:w.alloc (Q #[O t.name,D so t.cols.length sc] 74)=W1 at aa bT;have HW:Hid _:=hW;clear hW;have c1:=Aa bT (j:=1) rfl;have ah:Hid _:=al;have HL:Hid (∀(k:Nat) (c:ColD),t.cols[k]?=H c→∃b ab,so=H ⟨b,ab,M⟩∧b<w.heap.size∧w.cell? ⟨b,ab+k*3,M⟩=H (O c.name)∧w.cell? ⟨b,ab+k*3+1,M⟩=H (Y aW c.ty)∧w.cell? ⟨b,ab+k*3+2,M⟩=H (dA c.must)):=fun k c hc=>by
  obtain⟨b,ab,cs,ai,ax,ac,ap,aj⟩:=Av hl hc;obtain rfl:=ap;exact⟨b,ab,ai,ac,aj 0 _ rfl,aj 1 _ rfl,aj 2 _ rfl⟩
 clear hl al;generalize hn:t.cols.length=n at*;have aq:Hid _:=hn;clear hn;unfold cQ at an;go_enter Tryz.func194,Tryz.ntmps194;go_upto_region 1 with fail;rw[HW.out];go_wp2
 go_loopw[10] (fun i wr=>∃k:Nat,k≤n∧i=Y aW k∧Hid (∀j,j<k→Q7 t r j=aQ)∧Below W1.heap.size W1 wr) (fun i _=>n-(bN i).toNat)
 case atStart=>exact⟨0,aS _,rfl,id (fun j h=>absurd h (Nat.not_lt_zero _)),aC _ _⟩
 case round=>
  obtain⟨k,hk,rfl,HJ,ae⟩:=hrel
  by_cases af:k<n
  ·obtain⟨c,hc⟩:∃c,t.cols[k]?=H c:=⟨_,aA (by rw[aq.out];exact af)⟩;obtain⟨v,hv⟩:∃v,r[k]?=H v:=⟨_,aA (by rw[ah.out];exact af)⟩;obtain⟨b,ab,ai,ac,g0,g1,g2⟩:=HL.out k c hc;cases ai;rcases hr with⟨_,h0⟩|⟨rb,ro,rcap,hrv,hrb,hR⟩
   ·rw[h0]at hv;simp at hv
   cases hrv;have ad:=aa.trans (ae.mono aa.size);have EI:Hid (Q7 t r k=(c.must&&decide (v.k=0))):=by show _=_;simp[Q7,hc,hv]
   obtain⟨e0,_,_⟩:=hR k v hv;have d0:=(ad.cell ac).trans g0;have d1:=(ad.cell ac).trans g1;have d2:=(ad.cell ac).trans g2;have f0:=((Aq wr (Q #[O c.name,Y aW c.ty,dA c.must] 76)).cell (p:=⟨rb,ro+k*3,M⟩) (aM hrb ad.size)).trans ((ad.cell (p:=⟨rb,ro+k*3,M⟩) hrb).trans e0);have ak:Below _ W1 (wr.alloc (Q #[O c.name,Y aW c.ty,dA c.must] 76)):=ae.alloc ae.size _;clear g0 g1 g2 hc hv e0;obtain⟨vk,vn,vs⟩:=v;obtain⟨cn,ct,cm⟩:=c;simp only at f0 d0 d1 d2 EI;have ar:Hid _:=ah.out;have v0:(0:Int)≤k:=by omega
   have v1:k<(n:Int):=by omega
   have v2:k<r.length:=by rw[ar.out];exact af
   have v3:k<(r.length:Int):=by omega
   clear HL ah hR;cases cm
   ·have HP:Hid (Q7 t r k=aQ):=by show _=_;rw[EI.out];rfl
    go_wp2;go_roundw
    case rel=>exact⟨k+1,by omega,by rfl,id (fun j hj=>by rcases cO.1 hj with h|h;exact HJ.out j h;rw[h];assumption),ak⟩
    case measure=>simp[bN];omega
   ·by_cases ag:vk=0
    ·subst ag;have HP:Hid (Q7 t r k=Z):=by show _=_;rw[EI.out];rfl
     go_wp2;go_ret;exact⟨Ah (by rw[E.out,Avb HP.out af]),aa.trans (ak.mono aa.size)⟩
    ·have hq:(vk==0)=aQ:=by simp[ag]
     have HP:Hid (Q7 t r k=aQ):=by show _=_;rw[EI.out];simp[ag]
     clear ag;go_wp2;go_roundw
     case rel=>exact⟨k+1,by omega,by rfl,id (fun j hj=>by rcases cO.1 hj with h|h;exact HJ.out j h;rw[h];assumption),ak⟩
     case measure=>simp[bN];omega
  ·have au:k=n:=by omega
   subst au;have v1:¬(k<(k:Int)):=by omega
   go_wp2;go_ret;exact⟨Ah (by rw[E.out,Yt k 0 (fun j _ hj=>HJ.out j (by omega))]),aa.trans (ae.mono aa.size)⟩
theorem Av2 {G W}{n g b o}{x0 x1 x2 x3 x4}(h:G.cell? ⟨n,2,M⟩=H x0∧G.cell? ⟨g,0,M⟩=H x1∧G.cell? ⟨b,o,M⟩=H x2∧G.cell? ⟨b,o+1,M⟩=H x3∧G.cell? ⟨b,o+2,M⟩=H x4)(hb:Below G.heap.size G W)(h1:n<G.heap.size)(h2:g<G.heap.size)(h3:b<G.heap.size):
  W.cell? ⟨n,2,M⟩=H x0∧W.cell? ⟨g,0,M⟩=H x1∧W.cell? ⟨b,o,M⟩=H x2∧W.cell? ⟨b,o+1,M⟩=H x3∧W.cell? ⟨b,o+2,M⟩=H x4:=by
 have k:=(E5 hb).1;grind
theorem Asg {E}{n}{c}{T}{a}{tv iv}{po}{pc}{w}(he:EngC E w n c T a tv iv (D po T.length pc))(t:TabD)(r:List V)(so:Option Addr)(sc:Nat)(rv:bF)(C:Nat)(hl:IsL Cp (fun k=>k<C) w (D so t.cols.length sc) t.cols)(hC:C≤w.heap.size)(hr:Cq w rv r)(ap:r.length=t.cols.length)(h0:0<r.length)(hs:∀v∈r,v.s.size≤cQ)(hT:T.length≤100000)(aq:t.name.size≤1000)(hx:∀x∈flat T,x.1.size≤1000000∧x.2.size≤1000000):
  aV aF 115 #[aR (H ⟨n,0,M⟩),aU #[O t.name,D so t.cols.length sc],rv] w fun e w'=>e=aI (Y aW (Al8 T t r))∧Below w.heap.size w w':=by
 obtain⟨aa,bT,-⟩:=al1 w (Q #[O t.name,D so t.cols.length sc] 74);have bE:=(aa.block _ he.lt).trans he.blk;have HL:=fun W (h:Below w.heap.size w W)=>Av1 t r (D so t.cols.length sc) rv C W (hl.keep (Ae (h.mono hC))) (hr.below h) ap
 have aj:=fun W (h:Below w.heap.size w W)=>Ty (he.below h) t so sc hT aq hx
 have ah:=fun W (h:Below w.heap.size w W)=>Aj0 T (aU #[D po T.length pc]) (rk t r) W ⟨_,rfl,he.pages.pages.below h⟩ he.good (by omega)
 obtain⟨u,hu⟩:∃u,r[0]?=H u:=⟨_,aA h0⟩;have ar:r.headD zero=u:=by rw[List.headD_eq_head?_getD,List.head?_eq_getElem?,hu];rfl
 have ad:=fun W=>Qq _ u W (aB aq (by simp)) (hs u (aE hu))
 rw[show H7 _ u=rk t r by rw[rk,ar]]at ad;rcases hr with⟨_,h1⟩|⟨rb,ro,rcap,rfl,hrb,hR⟩
 ·rw[h1]at h0;simp at h0
 obtain⟨f0,f1,f2⟩:=hR 0 u hu;simp only[Nat.zero_mul,cR]at f0 f1 f2;obtain⟨uk,un,us⟩:=u;simp only[V.val]at ad;simp only at f0 f1 f2;obtain⟨gs,gb,ak⟩:∃gs gb,Aco (Hy (flat T) (rk t r))=cI #[O gs,dA gb]∧gb=(Hy _ _).isSome:=⟨_,_,rfl,rfl⟩;rw[ak.1]at ah;have EM:Hid (Al8 T t r=if Q8 t r=Z then 7 else if(Hy _ _).isSome=Z then 4 else if 30≤(F3 _ _).length then 8 else 0):=rfl;rw[←ak.2]at EM;clear ak hu ar hl ap;generalize Al8 T t r=mb at EM;generalize Q8 t r=lb at EM HL;generalize F3 _ _=A at EM aj;generalize rk t r=key at ad ah;generalize hW:w.alloc _=W1 at aa bT bE;have HW:Hid _:=hW;have KS:Hid _:=fun W h=>Av2 (W:=W) ⟨show W1.cell? _=H (D po _ pc)from Aa bE rfl,show W1.cell? _=H (O _)from Aa bT rfl,(aa.cell hrb).trans f0,(aa.cell hrb).trans f1,(aa.cell hrb).trans f2⟩ h (U bE) (U bT) (aM hrb aa.size)
 have s0:=KS.out _ (aC _ _).drew;clear hW f0 f1 f2 hR;go_enter Tryz.func115,Tryz.ntmps115;go_upto_region 1 with fail;rw[HW.out]
 go_region_held3(fun W=>W.cell? ⟨n,2,M⟩=H (D po T.length pc)∧W.cell? ⟨w.heap.size,0,M⟩=H (O t.name)∧W.cell? ⟨rb,ro,M⟩=H (Y aW uk)∧W.cell? ⟨rb,ro+1,M⟩=H (Y aW un)∧W.cell? ⟨rb,ro+2,M⟩=H (O us)) (with_reducible omega)
  (first
   |(go_fit(ad _);rintro e w2 ⟨rfl,au⟩;have al:=Ac (aC _ _).drew au;have s1:=KS.out w2 al)
   |(go_fit(ah _ (Ac aa al));rintro e w3 ⟨rfl,av⟩;have ac:=Ac al av;have s2:=KS.out w3 ac))
 have ae:=(ac.block _ (U bT)).trans bT;have t1:=Aa ae (j:=1) rfl;have ai:=HL _ (Ac aa ac);clear KS s0 s1 s2 HL ah ad;cases lb;rotate_left
 ·go_wp2_with(go_fit ai;rintro e w4 ⟨rfl,ab⟩);go_ret;exact⟨by rw[EM.out];rfl,Ac aa (Ac ac ab)⟩
 cases gb;rotate_left
 ·go_wp2_with(go_fit ai;rintro e w4 ⟨rfl,ab⟩);go_ret;exact⟨by rw[EM.out];rfl,Ac aa (Ac ac ab)⟩
 by_cases hA:30≤A.length
 ·have hq:(30:Int)≤A.length:=by omega
  go_wp2_with(first
   |(go_fit ai;rintro e w4 ⟨rfl,ab⟩;have af:=Ac ac ab;have ag:=(ab.block _ (U ae)).trans ae;have u0:=Aa ag (j:=0) rfl;have u1:=Aa ag (j:=1) rfl)
   |(go_fit(aj _ (Ac aa af));rintro e w5 ⟨aw,rfl,am,an⟩;obtain⟨xo,xc,rfl⟩:=am.shape))
  go_ret;exact⟨by rw[EM.out];simp[hA],Ac aa (Ac af an)⟩
 ·have hq:¬(30:Int)≤A.length:=by omega
  go_wp2_with(first
   |(go_fit ai;rintro e w4 ⟨rfl,ab⟩;have af:=Ac ac ab;have ag:=(ab.block _ (U ae)).trans ae;have u0:=Aa ag (j:=0) rfl;have u1:=Aa ag (j:=1) rfl)
   |(go_fit(aj _ (Ac aa af));rintro e w5 ⟨aw,rfl,am,an⟩;obtain⟨xo,xc,rfl⟩:=am.shape))
  go_ret;exact⟨by rw[EM.out];simp[hA],Ac aa (Ac af an)⟩
def Lg (E:List Nat)(n:Nat)(t:TabD)(d:Db)(rows:List (List V))(a:Int)(tv iv:bF)(w w':bU)(e:Ending)(b:Bool:=false):Prop:=
 e=aI (cI #[Y aW (if(C7 t d rows).2=0 then(rows.length:Int)else 0),Y aW (C7 t d rows).2])∧∃po' pc' T',EngC E w' n d.c T' a tv iv (D po' T'.length pc')∧DbOk (C7 t d rows).1∧Has (C7 t d rows).1 (flat T')∧(b=Z→T'.length≤1)∧But n w w'
theorem Aqh (t):∀(rows:List (List V)) (d:Db),(C7 t d rows).1.c=d.c
 |[],d=>rfl
 |r::rows,d=>by
  unfold C7;split
  ·rw[Aqh t rows];rfl
  rfl
theorem A1n (k v:Wd)(F:PL):(I0 F k v).length≤F.length+1:=by
 have h:(F.filter fun x=>klt x.1 k).length+(F.filter fun x=>klt k x.1).length≤F.length:=by
  induction F with
  |nil=>simp
  |cons x F ih=>
   rw[cE,cE,aN];cases h1:klt x.1 k with
   |true=>
    rw[Kv h1];grind
   |false=>
    grind
 unfold I0;grind
theorem Ash {F}{I}{t}{r}(h:I.length≤0):(putRow F I t r).length≤F.length+1:=by
 obtain rfl:I=[]:=bC (by omega);exact A1n _ _ F
theorem Sj {α:Type}{l:List α}{k}{x}(h:l[k]?=H x):l.drop k=x::l.drop (k+1):=by
 obtain⟨hk,rfl⟩:=bI.1 h;simp
theorem Aeo {E:List Nat}{n:Nat}{d:Db}{T:List Pg}{a:Int}{ad io po:Option Addr}{tc ic pc:Nat}{w:bU}(hE:Cl E w)(hn:n∈E)(he:EngC E w n d.c T a (D ad d.c.tables.length tc) (D io d.c.indexes.length ic) (D po T.length pc))(ok:DbOk d)(be:Has d (flat T))(t:TabD)(so:Option Addr)(sc:Nat)(hl:IsL Cp (fun k=>k∉E) w (D so t.cols.length sc) t.cols)(rows:List (List V))(rv:bF)(hr:IsL Ek (fun k=>k∉E) w rv rows)(bf:∀r∈rows,Jg t r)(ht:t∈d.c.tables)(bq:Bool:=false)(aq:bq=Z→d.c.indexes.length≤0∧T.length≤1∧(flat T).length+rows.length≤4:=by nofun):
  aV aF 56 #[aR (H ⟨n,0,M⟩),aU #[O t.name,D so t.cols.length sc],rv] w fun e w'=>Lg E n t d rows a (D ad d.c.tables.length tc) (D io d.c.indexes.length ic) w w' e bq:=by
 obtain⟨bg,cv,cx⟩:=(D8 ok.cat).2.2 t ht;have ar:=ok.cat;obtain⟨c,R⟩:=d;simp only at he ht ar aq⊢;obtain⟨bh,bi,_⟩:=D8 ar;obtain⟨ro,rc,rfl⟩:=hr.shape;have cb:=(Ew hr).2;unfold cQ at cb;obtain⟨ae,bT,-⟩:=al1 w (Q #[O t.name,D so t.cols.length sc] 74);have bj:=he.below ae;have au:=hE.below ae;have av:=hl.keep (Ak ae);have aw:=hr.keep (Ak ae);have bk:n≠w.heap.size:=cD he.lt;generalize hW:w.alloc (Q #[O t.name,D so t.cols.length sc] 74)=W1 at ae bT bj au av aw;have HW:Hid _:=hW;have bl:Hid _:=bf;have aj:Hid _:=aq;clear aq;have cc:Hid _:=bi;have cd:Hid _:=bh;have ce:Hid _:=au;have cf:Hid _:=av;have cg:Hid _:=aw;clear hW bf bi bh au av aw hl hr hE;have ak:Hid (DbOk ⟨c,R⟩∧Has ⟨c,R⟩ (flat T)):=⟨ok,be⟩;have HT:Hid (t∈c.tables):=ht;clear ok be ht;go_enter Tryz.func56,Tryz.ntmps56;go_upto_region 1 with fail;rw[HW.out];go_wp2
 go_loopw[13] (fun i wr=>∃(k:Nat) (al:Option Addr) (am:Nat) (T2:List Pg) (R2:Wd→List (List V)),k≤rows.length∧i=Y aW k∧EngC E wr n c T2 a (D ad c.tables.length tc) (D io c.indexes.length ic) (D al T2.length am)∧Hid (C7 t ⟨c,R⟩ rows=C7 t ⟨c,R2⟩ (rows.drop k)∧DbOk ⟨c,R2⟩∧Has ⟨c,R2⟩ (flat T2))∧Hid (bq=Z→T2.length≤1∧(flat T2).length≤(flat T).length+k)∧But n W1 wr) (fun i _=>rows.length-(bN i).toNat)
 case atStart=>exact⟨0,po,pc,T,R,aS _,rfl,bj,id ⟨rfl,ak.out⟩,id fun hb=>⟨(aj.out hb).2.1,aH _⟩,But.refl _ _⟩
 case round=>
  obtain⟨k,al,am,T2,R2,hk,rfl,ab,HF,ag,af⟩:=hrel;have cy:T2.length≤450:=aB (Ja ab.good) (Lt HF.out.2.1 ab.good HF.out.2.2)
  by_cases ch:k<rows.length
  ·skip
   obtain⟨r,hx⟩:∃r,rows[k]?=H r:=⟨_,aA ch⟩;obtain⟨b,cj,cz,ck,_,da,⟨yv,rfl,ax⟩,bm⟩:=Av (IsL.keep cg.out (Jq af hn)) hx;cases ck;obtain⟨yo,yc,rfl⟩:=ax.shape;have bn:=F4 ax;have d0:wr.cell? ⟨b,cj+k,M⟩=H (D yo r.length yc):=by have:=bm 0 _ rfl;simpa[Ek]using this
   obtain⟨ay,bo⟩:=(bl.out r (aE hx)).good;have az:=fun v hv=>Iw (bo v hv)
   have bp:=IsL.keep cf.out (Jq af hn);have ac:=(af.block _ (U bT) (fun e=>bk e.symm)).trans bT;have ba:=Cl.put ce.out af hn ab ar;have v0:(0:Int)≤k:=by omega
   have v1:k<(rows.length:Int):=by omega
   have q2:=Aa ab.blk (j:=2) rfl;have bt:Hid _:=Sj hx;have cl:Hid (Jg t r):=bl.out r (aE hx);have HM:=Asg ab t r so sc _ _ (bp.mono (fun k hk _=>hk)) (aH _) bn ay (by omega) az (by omega) (aB bg (by simp)) (P7 HF.out.2.1 HF.out.2.2);rw[Ay4 HF.out.2.1 ab.good HF.out.2.2 HT.out]at HM;have ak:=fun w3 aa W (h:Below _ w3 W)=>Aed _ t r T2 _ (D ad c.tables.length tc) _ _ _ _ W ⟨_,rfl,(ab.below aa).pages.pages.below h⟩ ab.good (by omega) (B7 _ _ _) (((ab.below aa).below h).idxs.mono (fun k hk _=>hk)) (((bp.keep (Ak aa)).keep (Ak h)).mono (fun k hk _=>hk)) (aH _) ((bn.below aa).below h) ay (by omega) (by omega) az (fun x hx=>aB (cc.out x hx) (by simp)) (aB bg (by simp)) (by have:=cd.out;omega) (if bq=Z then 1 else T2.length+1) (by cases hb:bq with|false=>simp |true=>exact .inr ⟨rfl,(ag.out hb).1,by have:=(ag.out hb).2;have:=(aj.out hb).2.2;omega⟩)
   have bu:Hid _:=ak;have ah:Hid (Lf ⟨c,R2⟩ t r≠0→C7 t ⟨c,R2⟩ (r::rows.drop (k+1))=(⟨c,R2⟩,Lf ⟨c,R2⟩ t r)):=fun h=>by unfold C7;grind
   have bb:Hid (Lf _ t r=0→C7 t ⟨c,R2⟩ (r::rows.drop (k+1))=C7 t ((⟨c,R2⟩:Db).upd t.name (Ec (rk t) (R2 t.name) r)) (rows.drop (k+1))∧DbOk ((⟨c,R2⟩:Db).upd _ (Ec _ (R2 _) r))∧Has ((⟨c,R2⟩:Db).upd _ (Ec _ (R2 _) r)) (putRow _ c.indexes t r)):=fun h=>by
    refine⟨?_,Ay6 HF.out.2.1 HF.out.2.2 HT.out cl.out h⟩;show(if Lf _ t r=0 then _ else _)=_;grind
   have bv:=Ahu ⟨c,R2⟩ t r;generalize Lf _ t r=m at HM ah bb bv;have x0:=Aa ac (j:=0) rfl;have x1:=Aa ac (j:=1) rfl;clear hx bm ax bo az ak ay;have bw:∀m,m=4∨m=7∨m=8→Hid (m≠0→C7 t ⟨c,R2⟩ (r::rows.drop (k+1))=(⟨c,R2⟩,m))→∀w3,Below wr.heap.size wr w3→Lg E n t ⟨c,R⟩ rows a (D ad c.tables.length tc) (D io c.indexes.length ic) w w3 (aI (cI #[Y aW 0,Y aW m])) bq:=by
    intro m hm he w3 aa;have h0:m≠0:=by omega
    have e1:C7 t ⟨c,R⟩ rows=(⟨c,R2⟩,m):=by rw[HF.out.1,bt.out,he.out h0]
    unfold Lg;rw[e1];exact⟨by grind,al,am,T2,ab.below aa,HF.out.2.1,HF.out.2.2,fun hb=>(ag.out hb).1,((But.of_below ae).trans af).trans (But.of_below aa)⟩
   have an:Hid _:=bw;clear bw;rcases bv with rfl|rfl|rfl|rfl
   ·obtain⟨bx,bz,ca⟩:=bb.out rfl;have cm:Hid _:=bx;have cn:Hid _:=bz;have db:Hid _:=ca;clear bx bz ca ah bb;go_upto_region 7 with(go_fit HM;rintro e w3 ⟨rfl,aa⟩);have HD:=bu.out w3 aa;replace ab:=ab.below aa;replace ac:=(aa.block _ (U ac)).trans ac;replace ba:=ba.below aa;replace q2:=Aa ab.blk (j:=2) rfl;have KS:Hid _:=fun W (h:Below _ w3 W)=>bA (show W.cell? _=H (D ad _ tc)from Aa (ab.below h).blk (j:=0) rfl) (bA (show W.cell? _=H (D io _ ic)from Aa (ab.below h).blk (j:=1) rfl) (bA (show W.cell? _=H (O _)from Aa ((h.block _ (U ac)).trans ac) (j:=0) rfl) (show W.cell? _=H (D so _ sc)from Aa ((h.block _ (U ac)).trans ac) (j:=1) rfl)))
    have KT:Hid _:=fun W (h:Below _ w3 W) x=>Y4 (ab.below h).blk ((h.block _ (U ac)).trans ac) bk x
    clear HM bu x0 x1 an;refine aO (S:=(fun W=>W.cell? ⟨n,0,M⟩=H (D ad c.tables.length tc)∧W.cell? ⟨n,1,M⟩=H (D io c.indexes.length ic)∧W.cell? ⟨w.heap.size,0,M⟩=H (O t.name)∧W.cell? ⟨w.heap.size,1,M⟩=H (D so t.cols.length sc))) (by rfl) ?_ (fun hHeld=>?_)
    ·exact KS.out _ (aC _ _).drew
    refine tk 0 ?_;refine tk 1 ?_;refine tk 2 ?_;refine tk 3 ?_;refine tk 5 ?_;refine tk 6 ?_;refine tk 7 ?_;refine tk 8 ?_;refine tk 9 ?_;refine tk 10 ?_;refine Bh 4 (fun K hK=>?_);go_simp;go_wp2_with fail;refine hK.out _ _ ?_ (fun hHeld=>?_)
    ·omega
    clear hK K;refine Bh 11 (fun K hK=>?_);go_simp
    (go_fit(HD _ (aC _ _).drew);rintro e w4 ⟨dc,T4,rfl,ap,co,bc,cp,cq⟩;obtain⟨dd,rfl,ap⟩:=ap;obtain⟨cr,c4,rfl⟩:=Ct ap;have ai:=Ac (aC _ _).drew cq;have bd:=ab.below ai;have q4:=Aa bd.blk (j:=2) rfl;have z4:w4.frozen? ⟨n,2,M⟩=aQ:=(by simp only[aD,bd.blk];rfl))
    go_wp2_with fail;refine hK.out _ _ ?_ (fun hHeld=>?_)
    ·exact KS.out _ ai
    clear hK K;refine tk 12 ?_;refine tk 13 ?_;refine Bh 14 (fun K hK=>?_);go_simp;go_wp2_with fail;refine hK.out _ _ ?_ (fun hHeld=>?_)
    ·exact KT.out _ ai _
    clear hK K;refine bL (by kernel_rfl) ?_ _;go_wp2_with fail;have cs:Keyed (flat T4):=by rw[bc];exact Ahn (P8 HF.out.2.2)
    go_roundw
    case rel=>exact⟨k+1,cr,c4,T4,_,by omega,by rfl,bd.store (ba.below ai) hn ap co cs,id ⟨by rw[HF.out.1,bt.out,cm.out];rfl,cn.out,by rw[bc];assumption⟩,id fun hb=>⟨by rw[if_pos hb]at cp;have:=(aj.out hb).1;omega,by rw[bc];have:=Ash (F:=flat T2) (t:=t) (r:=r) (aj.out hb).1;have:=(ag.out hb).2;omega⟩,af.trans ((But.of_below (Ac aa ai)).set _ _)⟩
    case measure=>simp[bN];omega
   ·go_wp2_with(go_fit HM;rintro e w3 ⟨rfl,aa⟩);go_ret2;exact an.out 4 (by omega) ah w3 aa
   ·go_wp2_with(go_fit HM;rintro e w3 ⟨rfl,aa⟩);go_ret2;exact an.out 7 (by omega) ah w3 aa
   ·go_wp2_with(go_fit HM;rintro e w3 ⟨rfl,aa⟩);go_ret2;exact an.out 8 (by omega) ah w3 aa
  ·have ct:k=rows.length:=by omega
   subst ct;have v1:¬(rows.length<(rows.length:Int)):=by omega
   have h1:=HF.out.1;rw[List.drop_length]at h1;have cu:Hid (C7 t _ rows=(⟨c,R2⟩,0)):=h1;clear h1;go_wp2;go_ret2;unfold Lg;rw[cu.out];exact⟨rfl,al,am,T2,ab,HF.out.2.1,HF.out.2.2,fun hb=>(ag.out hb).1,(But.of_below ae).trans af⟩
end
section
open Go.RowKit Go.Maps
theorem Tz {α β:Type}(p)(q:α→Bool):∀(l:List α) (CS:List β) (i:Nat),CS.length=l.length→(∀(j:Nat) (x:α),l[j]?=H x→p (i+j)=q x)→
  (Bv p i CS).length=(l.filter (fun x=>!q x)).length∧∀(R:α→β→Prop),(∀(j:Nat) (x:α) (c:β),l[j]?=H x→CS[j]?=H c→R x c)→∀(j:Nat) (x:α) (c:β),(l.filter (fun x=>!q x))[j]?=H x→(Bv p i CS)[j]?=H c→R x c
 |[],[],i,_,_=>⟨rfl,fun R _ j x c hx=>by grind⟩
 |[],_::_,i,h,_=>by grind
 |_::_,[],i,h,_=>by grind
 |a::l,d::CS,i,h,hp=>by
  have aa:=by simpa using hp 0 a rfl
  have ih:=Tz p q l CS _ (by grind) fun j x hx=>by
   rw[show i+1+j=i+(j+1) by omega];simp_all
  rw[Bv,cE,aa];cases q a with
  |true=>
   simp only[if_true,Bool.not_true,cV,if_false];exact⟨ih.1,fun R hR=>ih.2 R fun j x c hx hc=>hR (j+1) x c (by grind) (by grind)⟩
  |false=>
   simp only[cV,if_false,Bool.not_false,if_true,aN];refine⟨by omega,fun R hR j x c hx hc=>?_⟩;cases j with
   |zero=>simp at hx hc;subst hx;subst hc;exact hR 0 _ _ rfl rfl
   |succ j=>exact ih.2 R (fun j x c hx hc=>hR (j+1) x c (by grind) (by grind)) j x c (by grind) (by grind)
theorem Asi {F}{w}{sv}{l}(h:IsL Ci F w sv l):∃CS:List (List bF),CS.length=l.length∧Bp F 2 w sv CS.length CS.flatten∧(∀c∈CS,Lm c)∧(∀(i:Nat) (x:TabD) (c:List bF),l[i]?=H x→CS[i]?=H c→Ci.R F w x c∧nmC c=x.name):=by
 obtain⟨cs,hr,ha⟩:=h;obtain⟨CS,rfl,h2,h3,h4⟩:=Ak7 ha;exact⟨CS,h2,by rw[h2];exact hr,h3,h4⟩
theorem Asj (l)(x)(sv)(cx)(C)(w)(h:IsL Ci (fun k=>k<C) w sv l)(hx:Ci.R (fun k=>k<C) w x cx)(_:C≤w.heap.size)(hr:Cb (l.map TabD.name))(hl:l.length≤1000000):
  aV aF 97 #[sv,aU cx.toArray,.func (.func 98) #[] #[]] w fun e w'=>∃v,e=aI v∧IsL Ci (Fx C w.heap.size) w' v (Ec TabD.name l x)∧Below w.heap.size w w':=by
 have aa:=Sb _ x.name l hr;generalize ad:l.filter _=l1 at aa;generalize ae:l.filter _=l2 at aa;have af:Ec TabD.name l x=l1++x::l2:=by rw[Ec,ad,ae]
 rw[af];have k1:∀y∈l1,klt y.name x.name=Z:=fun y hy=>by grind
 have k2:∀y∈l2,klt y.name x.name=aQ:=fun y hy=>by grind
 clear ad ae af;obtain⟨cs,ag,ha⟩:=h;rw[aa]at ha;obtain⟨c1,c2,rfl,a1,a2⟩:=All.split ha;obtain⟨ab,rfl,e1,s1,r1⟩:=Ak7 a1;obtain⟨ac,rfl,e2,s2,r2⟩:=Ak7 a2;have ah:l.length=(ab++ac).length:=by rw[aa,aJ,aJ,e1,e2]
 have hs:=fun c hc=>(cH.1 hc).elim (s1 c) (s2 c)
 obtain⟨aj,ak⟩:=Yd hx;have hR:=hx;obtain⟨cv,rfl,ai⟩:=hx;obtain⟨co,cc,rfl⟩:=ai.shape;refine(Arn ab ac nmC sv _ co _ cc w (Ax3 (by rw[←ah,cU];exact ag) hs) hs (fun c _ s r=>Auj c s r) ?_ ?_ (by omega)).mono ?_
 ·intro c hc;obtain⟨i,hi,rfl⟩:=aG hc;rw[(r1 i _ _ (aA (by omega)) (aA hi)).2];have:=k1 _ (aL (n:=i) (by omega));exact this
 ·intro c hc;obtain⟨i,hi,rfl⟩:=aG hc;rw[(r2 i _ _ (aA (by omega)) (aA hi)).2];have:=k2 _ (aL (n:=i) (by omega));exact this
 ·rintro e w' ⟨v,rfl,own,hb⟩;have hA:=All.append ((a1.keep (Ak hb)).mono (F':=Fx C w.heap.size) fun k _ hk=>.inl hk) (All.append (All.one (Ci.mono (F':=Fx C w.heap.size) (fun k _ hk=>.inl hk) (Ci.keep (Ak hb) hR))) ((a2.keep (Ak hb)).mono (F':=Fx C w.heap.size) fun k _ hk=>.inl hk));have hB:=Bp.of_own own (F:=Fx C _) fun k hk=>.inr hk
  have hn:(l1++x::l2).length=ab.length+ac.length+1:=by simp only[aJ,aN];omega
  exact⟨v,rfl,⟨_,(by rw[hn];exact hB),hA⟩,hb⟩
theorem Ask {F}{w}{sv}{l}(h:IsL D6 F w sv l):∃CS:List (List bF),CS.length=l.length∧Bp F 3 w sv CS.length CS.flatten∧(∀c∈CS,Md c)∧(∀(i:Nat) (x:IdxD) (c:List bF),l[i]?=H x→CS[i]?=H c→D6.R F w x c∧nmC c=x.name):=by
 obtain⟨cs,hr,ha⟩:=h;obtain⟨CS,rfl,h2,h3,h4⟩:=Ak8 ha;exact⟨CS,h2,by rw[h2];exact hr,h3,h4⟩
theorem Asl (l)(x)(sv)(cx)(C)(w)(h:IsL D6 (fun k=>k<C) w sv l)(hx:D6.R (fun k=>k<C) w x cx)(_:C≤w.heap.size)(hr:Cb (l.map IdxD.name))(hl:l.length≤1000000):
  aV aF 99 #[sv,aU cx.toArray,.func (.func 100) #[] #[]] w fun e w'=>∃v,e=aI v∧IsL D6 (Fx C w.heap.size) w' v (Ec IdxD.name l x)∧Below w.heap.size w w':=by
 have aa:=Sb _ x.name l hr;generalize ad:l.filter _=l1 at aa;generalize ae:l.filter _=l2 at aa;have af:Ec IdxD.name l x=l1++x::l2:=by rw[Ec,ad,ae]
 rw[af];have k1:∀y∈l1,klt y.name x.name=Z:=fun y hy=>by grind
 have k2:∀y∈l2,klt y.name x.name=aQ:=fun y hy=>by grind
 clear ad ae af;obtain⟨cs,ag,ha⟩:=h;rw[aa]at ha;obtain⟨c1,c2,rfl,a1,a2⟩:=All.split ha;obtain⟨ab,rfl,e1,s1,r1⟩:=Ak8 a1;obtain⟨ac,rfl,e2,s2,r2⟩:=Ak8 a2;have ah:l.length=(ab++ac).length:=by rw[aa,aJ,aJ,e1,e2]
 have hs:=fun c hc=>(cH.1 hc).elim (s1 c) (s2 c)
 obtain⟨ai,aj⟩:=Ye hx;have hR:=hx;obtain rfl:=hx;refine(Aro ab ac nmC sv _ _ _ w (Ax4 (by rw[←ah,cU];exact ag) hs) hs (fun c _ s r=>Auj c s r) ?_ ?_ (by omega)).mono ?_
 ·intro c hc;obtain⟨i,hi,rfl⟩:=aG hc;rw[(r1 i _ _ (aA (by omega)) (aA hi)).2];have:=k1 _ (aL (n:=i) (by omega));exact this
 ·intro c hc;obtain⟨i,hi,rfl⟩:=aG hc;rw[(r2 i _ _ (aA (by omega)) (aA hi)).2];have:=k2 _ (aL (n:=i) (by omega));exact this
 ·rintro e w' ⟨v,rfl,own,hb⟩;have hA:=All.append ((a1.keep (Ak hb)).mono (F':=Fx C w.heap.size) fun k _ hk=>.inl hk) (All.append (All.one (D6.mono (F':=Fx C w.heap.size) (fun k _ hk=>.inl hk) (D6.keep (Ak hb) hR))) ((a2.keep (Ak hb)).mono (F':=Fx C w.heap.size) fun k _ hk=>.inl hk));have hB:=Bp.of_own own (F:=Fx C _) fun k hk=>.inr hk
  have hn:(l1++x::l2).length=ab.length+ac.length+1:=by simp only[aJ,aN];omega
  exact⟨v,rfl,⟨_,(by rw[hn];exact hB),hA⟩,hb⟩
def tbC:List bF→Wd
 |_::O s::_=>s
 |_=>noW
theorem A1o (aa:Wd)(ao)(n c)(pb)(s:Wd)(w)(hp:w.cell? ⟨pb,1,M⟩=H (O s))(ab:pb<w.heap.size):
  aV aF 102 #[aU #[O aa,D ao n c],aR (H ⟨pb,0,M⟩)] w fun e w'=>e=aI (dA (decide (aa=s)))∧Below w.heap.size w w':=by
 have E:Hid (decide _=(aa.toList==s.toList)):=(Jj _ _).symm;generalize decide (aa=s)=r at E;have ac:=((Aq w (Q #[O aa,D ao n c] 74)).cell ab).trans hp;go_enter Tryz.func102,Tryz.ntmps102;go_wp2;go_ret;exact⟨Ah (by rw[E.out]),Aq _ _⟩
theorem Asm (l)(s:Wd)(sv)(pb C)(w)(h:IsL Ci (fun k=>k<C) w sv l)(_:C≤w.heap.size)(hp:w.cell? ⟨pb,1,M⟩=H (O s))(ab:pb<w.heap.size)(hl:l.length≤1000000):
  aV aF 101 #[sv,.func (.func 102) #[] #[aR (H ⟨pb,0,M⟩)]] w fun e w'=>∃v,e=aI v∧IsL Ci (Fx C w.heap.size) w' v (l.filter (fun x=>!decide (x.name=s)))∧Below w.heap.size w w':=by
 obtain⟨CS,e1,ac,hs,hR⟩:=Asi h;have ah:∀u∈CS.flatten,u.oneCell'=Z:=fun u hu=>by
  obtain⟨c,hc,hu⟩:=dC.1 hu;exact Ag6 (hs c hc) u hu
 have HC:=R7 _ _ sv _ w ac ah (by omega);have aa:=Tz (fun i=>decide (nmC (CS.getD i [])=s)) (fun x=>decide (x.name=s)) l CS 0 e1 (fun j x hx=>by grind);have HD:=fun v V (hV:Below _ w V) own=>Afs CS v _ (fun i=>decide (nmC (CS.getD i [])=s)) _ V own hs hV.size (fun i cs W hi hW=>by
  have ad:pb<V.heap.size:=aM ab hV.size;have ai:=(hV.cell (p:=⟨pb,1,M⟩) ab).trans hp;have aj:W.cell? ⟨pb,1,M⟩=H (O s):=(bO (hW.block pb ad (fun e=>by have:=(own.lt pb e.symm).1;omega))).trans ai;obtain⟨s0,a1,n1,c1,rfl⟩:=hs cs (aE hi);refine(A1o s0 a1 n1 c1 pb s W aj (aM ad hW.size)).mono ?_;rintro e W' ⟨rfl,hb⟩;refine⟨?_,hb⟩;simp only[bH,hi,cB];rfl)
 have ae:∀V,Below _ w V→All Ci (Fx C w.heap.size) V _ _:=fun V hV=>
  Lo aa.1 (aa.2 _ fun j x c hx hc=>Ci.mono (fun k _ hk=>.inl hk) (Ci.keep (Ak hV) (hR j x c hx hc).1))
 have HA:Hid _:=ae;have HL:Hid _:=aa.1;generalize Bv _ 0 CS=KP at HD HA HL;clear ae aa h ac hR;go_enter Tryz.func101,Tryz.ntmps101;go_wp2_with(first
  |(go_fit HC;rintro e V ⟨v,rfl,own,af⟩;have ak:=HD v V af own)
  |(go_fit ak;rintro e V2 ⟨v2,rfl,al,an,am⟩))
 go_ret;have ag:=af.trans am;refine⟨v2,rfl,⟨_,?_,HA.out V2 ag⟩,ag⟩;rw[←HL.out];exact Bp.of_own al fun k hk=>.inr hk
theorem A1p (aa tb cl:Wd)(pb)(s:Wd)(w)(hp:w.cell? ⟨pb,1,M⟩=H (O s))(ab:pb<w.heap.size):
  aV aF 104 #[aU #[O aa,O tb,O cl],aR (H ⟨pb,0,M⟩)] w fun e w'=>e=aI (dA (decide (tb=s)))∧Below w.heap.size w w':=by
 have E:Hid (decide _=(tb.toList==s.toList)):=(Jj _ _).symm;generalize decide (tb=s)=r at E;have ac:=((Aq w (Q #[O aa,O tb,O cl] 78)).cell ab).trans hp;go_enter Tryz.func104,Tryz.ntmps104;go_wp2;go_ret;exact⟨Ah (by rw[E.out]),Aq _ _⟩
theorem Asn (l)(s:Wd)(sv)(pb C)(w)(h:IsL D6 (fun k=>k<C) w sv l)(_:C≤w.heap.size)(hp:w.cell? ⟨pb,1,M⟩=H (O s))(ab:pb<w.heap.size)(hl:l.length≤1000000):
  aV aF 103 #[sv,.func (.func 104) #[] #[aR (H ⟨pb,0,M⟩)]] w fun e w'=>∃v,e=aI v∧IsL D6 (Fx C w.heap.size) w' v (l.filter (fun x=>!decide (x.table=s)))∧Below w.heap.size w w':=by
 obtain⟨CS,e1,ac,hs,hR⟩:=Ask h;have ah:∀u∈CS.flatten,u.oneCell'=Z:=fun u hu=>by
  obtain⟨c,hc,hu⟩:=dC.1 hu;exact Ag8 (hs c hc) u hu
 have HC:=R8 _ _ sv _ w ac ah (by omega);have aa:=Tz (fun i=>decide (tbC (CS.getD i [])=s)) (fun x=>decide (x.table=s)) l CS 0 e1 (fun j x hx=>by
  have hj:=(bI.1 hx).1;have hc:CS[j]?=H _:=aA (by omega);have hr:=(hR j x _ hx hc).1;simp only[Nat.zero_add,bH,hc,cB];have:tbC CS[j]=x.table:=by
   have h1:_=_:=hr;rw[h1];rfl
  grind)
 have HD:=fun v V (hV:Below _ w V) own=>Aft CS v _ (fun i=>decide (tbC (CS.getD i [])=s)) _ V own hs hV.size (fun i cs W hi hW=>by
  have ad:pb<V.heap.size:=aM ab hV.size;have ai:=(hV.cell (p:=⟨pb,1,M⟩) ab).trans hp;have aj:W.cell? ⟨pb,1,M⟩=H (O s):=(bO (hW.block pb ad (fun e=>by have:=(own.lt pb e.symm).1;omega))).trans ai;obtain⟨s0,s1,s2,rfl⟩:=hs cs (aE hi);refine(A1p s0 s1 s2 pb s W aj (aM ad hW.size)).mono ?_;rintro e W' ⟨rfl,hb⟩;refine⟨?_,hb⟩;simp only[bH,hi,cB];rfl)
 have ae:∀V,Below _ w V→All D6 (Fx C w.heap.size) V _ _:=fun V hV=>
  Lo aa.1 (aa.2 _ fun j x c hx hc=>D6.mono (fun k _ hk=>.inl hk) (D6.keep (Ak hV) (hR j x c hx hc).1))
 have HA:Hid _:=ae;have HL:Hid _:=aa.1;generalize Bv _ 0 CS=KP at HD HA HL;clear ae aa h ac hR;go_enter Tryz.func103,Tryz.ntmps103;go_wp2_with(first
  |(go_fit HC;rintro e V ⟨v,rfl,own,af⟩;have ak:=HD v V af own)
  |(go_fit ak;rintro e V2 ⟨v2,rfl,al,an,am⟩))
 go_ret;have ag:=af.trans am;refine⟨v2,rfl,⟨_,?_,HA.out V2 ag⟩,ag⟩;rw[←HL.out];exact Bp.of_own al fun k hk=>.inr hk
theorem Ix {w:bU}{b g}{x}(h:w.heap[b]?=H x)(hn:b≠g)(o)(v):(w.setCell ⟨g,o,M⟩ v).heap[b]?=H x:=by
 simp only[cJ,Array.getElem?_modify];grind
theorem Zy {w:bU}{g}{p q}{t}(h:w.heap[g]?=H (Q #[p,q] t))(a b):((w.setCell ⟨g,0,M⟩ a).setCell ⟨g,1,M⟩ b).heap[g]?=H (Q #[a,b] t):=by
 rw[upd (upd h 0 a) 1 b];rfl
def Sk (ct:CatD)(C:Nat)(w:bU)(e:Ending)(w':bU):Prop:=∃v,e=aI v∧Hp (Fx C w.heap.size) w' ct v∧Below w.heap.size w w'
theorem A1q (ct:CatD)(cols)(to')(tc)(io)(ic)(nmv tbv clv)(o1)(c1)(o2)(n2 c2)(o3)(n3 c3)(o4)(n4 c4)(o5)(n5 c5)(op xk xn)(xs s nm8)(n8)(o6)(k6 c6)(o7)(n7 c7)(dn)(nn)(C)(w)
  (hT:IsL Ci (fun k=>k<C) w (D to' ct.tables.length tc) ct.tables) (hI:IsL D6 (fun k=>k<C) w (D io ct.indexes.length ic) ct.indexes) (ad:IsL Cp (fun k=>k<C) w (D o1 cols.length c1) cols) (hC:C≤w.heap.size) (ai:ct.tables.length≤1000000) (_:ct.indexes.length≤1000000) (hr:Cb (ct.tables.map TabD.name)):
  aV aF 50 #[aU #[D to' ct.tables.length tc,D io ct.indexes.length ic],aU (sA 1 nmv tbv clv (D o1 cols.length c1) (D o2 n2 c2) (D o3 n3 c3) (D o4 n4 c4) (D o5 n5 c5) op xk xn xs s nm8 n8 (D o6 k6 c6) (D o7 n7 c7) dn nn)] w (Sk ⟨Ec TabD.name ct.tables ⟨nmv,cols⟩,ct.indexes⟩ C w):=by
 obtain⟨aa,B0,B1,B2,ab⟩:=al3 w (Q #[D to' ct.tables.length tc,D io ct.indexes.length ic] 41) (Q (sA 1 nmv tbv clv (D o1 cols.length c1) (D o2 n2 c2) (D o3 n3 c3) (D o4 n4 c4) (D o5 n5 c5) op xk xn xs s nm8 n8 (D o6 k6 c6) (D o7 n7 c7) dn nn) 71) (Q #[D M 0 0,D M 0 0] 41);generalize hW:((w.alloc _).alloc _).alloc _=W at aa B0 B1 B2 ab;have HW:Hid _:=hW;have aj:Hid _:=ab;clear hW ab;have a0:=Aa B0 (j:=0) (u:=D to' _ tc) rfl;have b0:=Aa B1 (j:=0) (u:=Y _ 1) rfl;have b1:=Aa B1 (j:=1) (u:=O nmv) rfl;have b4:=Aa B1 (j:=4) (u:=D o1 _ c1) rfl;have ae:=hT.keep (Ae (aa.mono hC));have af:=ad.keep (Ae (aa.mono hC));have HI:=Asj _ ⟨nmv,cols⟩ _ [O nmv,D o1 _ c1] C W ae ⟨_,rfl,af⟩ (aB hC aa.size) hr ai;rw[aj.out]at HI;clear hT ad hr af ae;generalize Ec _ ct.tables _=T2 at HI⊢;go_enter cF,cA;go_upto_region 1 with fail;rw[HW.out];go_wp2_with(go_fit HI;rintro e w1 ⟨v1,rfl,ag,ac⟩;obtain⟨vo,vc,rfl⟩:=ag.shape;have D0:=(ac.block _ (by omega)).trans B0;have D2:=(ac.block _ (by omega)).trans B2;have z0:=Aa D0 (j:=0) (u:=D to' _ tc) rfl;have z1:=Aa D0 (j:=1) (u:=D io _ ic) rfl;have z2:=Aa D2 (j:=0) (u:=D M 0 0) rfl;have z3:=Aa D2 (j:=1) (u:=D M 0 0) rfl;have f0:w1.frozen? ⟨w.heap.size,0,M⟩=aQ:=(by simp[aD,D0]);have f2:w1.frozen? ⟨w.heap.size+2,0,M⟩=aQ:=(by simp[aD,D2]);have f3:w1.frozen? ⟨w.heap.size+2,1,M⟩=aQ:=(by simp[aD,D2]));refine bQ (v:=aU #[D vo T2.length vc,D io ct.indexes.length ic]) (bD bP _ _ (w.heap.size+2) 41 #[D vo T2.length vc,D io ct.indexes.length ic] _ _ rfl (Zy (Ix D2 (by omega) _ _) _ _) bK rfl (by kernel_rfl)) rfl ?_;have ah:=aa.trans (ac.mono (by omega));refine⟨_,rfl,⟨_,_,rfl,?_,?_⟩,((ah.setCell (show w.heap.size≤w.heap.size by omega) _).setCell (show w.heap.size≤w.heap.size+2 by omega) _).setCell (show w.heap.size≤w.heap.size+2 by omega) _⟩
 ·refine(ag.keep ((((Keeps.refl _ w1).set ?_ _ _).set ?_ _ _).set ?_ _ _)).mono fun k _ hk=>?_
  ·rintro(h|h)<;>omega
  ·rintro(h|h)<;>omega
  ·rintro(h|h)<;>omega
  ·rcases hk with h|h
   ·exact .inl h
   ·exact .inr (by omega)
 ·refine(hI.keep ?_).mono fun k _ hk=>.inl hk
  exact(((Ae (ah.mono hC)).set (by omega) _ _).set (by omega) _ _).set (by omega) _ _
theorem A1r (ct:CatD)(cols)(to')(tc)(io)(ic)(nmv tbv clv)(o1)(c1)(o2)(n2 c2)(o3)(n3 c3)(o4)(n4 c4)(o5)(n5 c5)(op xk xn)(xs s nm8)(n8)(o6)(k6 c6)(o7)(n7 c7)(dn)(nn)(C)(w)
  (hT:IsL Ci (fun k=>k<C) w (D to' ct.tables.length tc) ct.tables) (hI:IsL D6 (fun k=>k<C) w (D io ct.indexes.length ic) ct.indexes) (ad:IsL Cp (fun k=>k<C) w (D o1 cols.length c1) cols) (hC:C≤w.heap.size) (_:ct.tables.length≤1000000) (ag:ct.indexes.length≤1000000) (hr:Cb (ct.indexes.map IdxD.name)):
  aV aF 50 #[aU #[D to' ct.tables.length tc,D io ct.indexes.length ic],aU (sA 2 nmv tbv clv (D o1 cols.length c1) (D o2 n2 c2) (D o3 n3 c3) (D o4 n4 c4) (D o5 n5 c5) op xk xn xs s nm8 n8 (D o6 k6 c6) (D o7 n7 c7) dn nn)] w (Sk ⟨ct.tables,Ec IdxD.name ct.indexes ⟨nmv,tbv,clv⟩⟩ C w):=by
 obtain⟨aa,B0,B1,B2,ab⟩:=al3 w (Q #[D to' ct.tables.length tc,D io ct.indexes.length ic] 41) (Q (sA 2 nmv tbv clv (D o1 cols.length c1) (D o2 n2 c2) (D o3 n3 c3) (D o4 n4 c4) (D o5 n5 c5) op xk xn xs s nm8 n8 (D o6 k6 c6) (D o7 n7 c7) dn nn) 71) (Q #[D M 0 0,D M 0 0] 41);generalize hW:((w.alloc _).alloc _).alloc _=W at aa B0 B1 B2 ab;have HW:Hid _:=hW;have ah:Hid _:=ab;clear hW ab;have a1:=Aa B0 (j:=1) (u:=D io _ ic) rfl;have b0:=Aa B1 (j:=0) (u:=Y _ 2) rfl;have b1:=Aa B1 (j:=1) (u:=O nmv) rfl;have b2:=Aa B1 (j:=2) (u:=O tbv) rfl;have b3:=Aa B1 (j:=3) (u:=O clv) rfl;have ai:=hT.keep (Ae (aa.mono hC));have aj:=hI.keep (Ae (aa.mono hC));have ak:=ad.keep (Ae (aa.mono hC));have HI:=Asl _ ⟨nmv,tbv,clv⟩ _ [O nmv,O tbv,O clv] C W aj rfl (aB hC aa.size) hr ag;rw[ah.out]at HI;clear hI ad hr ak ai;generalize Ec _ ct.indexes _=T2 at HI⊢;go_enter cF,cA;go_upto_region 1 with fail;rw[HW.out];go_wp2_with(go_fit HI;rintro e w1 ⟨v1,rfl,ae,ac⟩;obtain⟨vo,vc,rfl⟩:=ae.shape;have D0:=(ac.block _ (by omega)).trans B0;have D2:=(ac.block _ (by omega)).trans B2;have z0:=Aa D0 (j:=0) (u:=D to' _ tc) rfl;have z1:=Aa D0 (j:=1) (u:=D io _ ic) rfl;have z2:=Aa D2 (j:=0) (u:=D M 0 0) rfl;have z3:=Aa D2 (j:=1) (u:=D M 0 0) rfl;have f0:w1.frozen? ⟨w.heap.size,1,M⟩=aQ:=(by simp[aD,D0]);have f2:w1.frozen? ⟨w.heap.size+2,0,M⟩=aQ:=(by simp[aD,D2]);have f3:w1.frozen? ⟨w.heap.size+2,1,M⟩=aQ:=(by simp[aD,D2]));refine bQ (v:=aU #[D to' ct.tables.length tc,D vo T2.length vc]) (bD bP _ _ (w.heap.size+2) 41 #[D to' ct.tables.length tc,D vo T2.length vc] _ _ rfl (Zy (Ix D2 (by omega) _ _) _ _) bK rfl (by kernel_rfl)) rfl ?_;have af:=aa.trans (ac.mono (by omega));refine⟨_,rfl,⟨_,_,rfl,?_,?_⟩,((af.setCell (show w.heap.size≤w.heap.size by omega) _).setCell (show w.heap.size≤w.heap.size+2 by omega) _).setCell (show w.heap.size≤w.heap.size+2 by omega) _⟩;rotate_left
 ·refine(ae.keep ((((Keeps.refl _ w1).set ?_ _ _).set ?_ _ _).set ?_ _ _)).mono fun k _ hk=>?_
  ·rintro(h|h)<;>omega
  ·rintro(h|h)<;>omega
  ·rintro(h|h)<;>omega
  ·rcases hk with h|h
   ·exact .inl h
   ·exact .inr (by omega)
 ·refine(hT.keep ?_).mono fun k _ hk=>.inl hk
  exact(((Ae (af.mono hC)).set (by omega) _ _).set (by omega) _ _).set (by omega) _ _
theorem A1s (ct:CatD)(cols)(to')(tc)(io)(ic)(nmv tbv clv)(o1)(c1)(o2)(n2 c2)(o3)(n3 c3)(o4)(n4 c4)(o5)(n5 c5)(op xk xn)(xs s nm8)(n8)(o6)(k6 c6)(o7)(n7 c7)(dn)(nn)(C)(w)
  (hT:IsL Ci (fun k=>k<C) w (D to' ct.tables.length tc) ct.tables) (hI:IsL D6 (fun k=>k<C) w (D io ct.indexes.length ic) ct.indexes) (af:IsL Cp (fun k=>k<C) w (D o1 cols.length c1) cols) (hC:C≤w.heap.size) (al:ct.tables.length≤1000000) (am:ct.indexes.length≤1000000):
  aV aF 50 #[aU #[D to' ct.tables.length tc,D io ct.indexes.length ic],aU (sA 3 nmv tbv clv (D o1 cols.length c1) (D o2 n2 c2) (D o3 n3 c3) (D o4 n4 c4) (D o5 n5 c5) op xk xn xs s nm8 n8 (D o6 k6 c6) (D o7 n7 c7) dn nn)] w (Sk ⟨ct.tables.filter (fun t=>!decide (t.name=nmv)),ct.indexes.filter (fun x=>!decide (x.table=nmv))⟩ C w):=by
 obtain⟨aa,B0,B1,B2,ad⟩:=al3 w (Q #[D to' ct.tables.length tc,D io ct.indexes.length ic] 41) (Q (sA 3 nmv tbv clv (D o1 cols.length c1) (D o2 n2 c2) (D o3 n3 c3) (D o4 n4 c4) (D o5 n5 c5) op xk xn xs s nm8 n8 (D o6 k6 c6) (D o7 n7 c7) dn nn) 71) (Q #[D M 0 0,D M 0 0] 41);generalize hW:((w.alloc _).alloc _).alloc _=W at aa B0 B1 B2 ad;have HW:Hid _:=hW;have ae:Hid _:=ad;clear hW ad;have a0:=Aa B0 (j:=0) (u:=D to' _ tc) rfl;have b0:=Aa B1 (j:=0) (u:=Y _ 3) rfl;have b1:=Aa B1 (j:=1) (u:=O nmv) rfl;have b2:=Aa B1 (j:=2) (u:=O tbv) rfl;have b3:=Aa B1 (j:=3) (u:=O clv) rfl;have b4:=Aa B1 (j:=4) (u:=D o1 _ c1) rfl;have an:=aB hC aa.size;have ag:=hT.keep (Ae (aa.mono hC));have ah:=hI.keep (Ae (aa.mono hC));have ap:=af.keep (Ae (aa.mono hC));have HI:=Asm _ nmv _ _ C W ag an b1 (U B1) al;have HJ:=fun V (hV:Below (w.heap.size+3) W V) u=>Asn _ nmv _ _ C _ (ah.keep ((Ae (hV.mono (by omega))).set (b:=w.heap.size) (by omega) _ _)) (by have:=hV.size;simp[cJ];omega)
  ((bO (Ix ((hV.block _ (by omega)).trans B1) (by omega) 0 u |>.trans B1.symm)).trans b1) (by have:=hV.size;have:=ae.out;simp[cJ];omega) am
 rw[ae.out]at HI;clear hI af ap ag hT ah;generalize ct.tables.filter _=T2 at HI⊢;generalize ct.indexes.filter _=I2 at HJ⊢;go_enter cF,cA;go_upto_region 1 with fail;rw[HW.out];go_wp2_with(first
  |(go_fit HI;rintro e w1 ⟨v1,rfl,ai,ab⟩;obtain⟨vo,vc,rfl⟩:=ai.shape;have D0:=(ab.block _ (by omega)).trans B0;have D2:=(ab.block _ (by omega)).trans B2;have z0:=Aa D0 (j:=0) (u:=D to' _ tc) rfl;have z1:=Aa D0 (j:=1) (u:=D io _ ic) rfl;have f0:w1.frozen? ⟨w.heap.size,0,M⟩=aQ:=(by simp[aD,D0]);have aj:=HJ w1 ab (D vo T2.length vc);have aq:(w1.setCell ⟨w.heap.size,0,M⟩ (D vo T2.length vc)).heap.size=w1.heap.size:=(by simp);rw[aq]at aj)
  |(go_fit aj;rintro e w2 ⟨v2,rfl,ak,ac⟩;obtain⟨uo,uc,rfl⟩:=ak.shape;have E0:=(ac.block _ (by grind)).trans (upd D0 0 _);have E2:=(ac.block _ (by grind)).trans (Ix D2 (by omega) 0 _);have y0:=Aa E0 (j:=0) (u:=D vo _ vc) rfl;have y1:=Aa E0 (j:=1) (u:=D io _ ic) rfl;have y2:=Aa E2 (j:=0) (u:=D M 0 0) rfl;have y3:=Aa E2 (j:=1) (u:=D M 0 0) rfl;have g0:w2.frozen? ⟨w.heap.size,1,M⟩=aQ:=(by simp[aD,E0]);have g2:w2.frozen? ⟨w.heap.size+2,0,M⟩=aQ:=(by simp[aD,E2]);have g3:w2.frozen? ⟨w.heap.size+2,1,M⟩=aQ:=(by simp[aD,E2])))
 refine bQ (v:=aU #[D vo T2.length vc,D uo I2.length uc]) (bD bP _ _ (w.heap.size+2) 41 #[D vo T2.length vc,D uo I2.length uc] _ _ rfl (Zy (Ix E2 (by omega) _ _) _ _) bK rfl (by kernel_rfl)) rfl ?_;have ar:=ab.size;rw[ae.out]at ar;have au:Below _ w (w1.setCell ⟨w.heap.size,0,M⟩ (D vo T2.length vc)):=(aa.trans (ab.mono (by omega))).setCell (show w.heap.size≤w.heap.size by omega) _;refine⟨_,rfl,⟨_,_,rfl,?_,?_⟩,(((au.trans (ac.mono (by omega))).setCell (show w.heap.size≤w.heap.size by omega) _).setCell (show w.heap.size≤w.heap.size+2 by omega) _).setCell (show w.heap.size≤w.heap.size+2 by omega) _⟩
 ·have av:Keeps (Fx C (w.heap.size+3)) w1 w2:=((Keeps.refl _ w1).set (by rintro(h|h)<;>omega) 0 _).trans ⟨ac.size,fun k _ hl=>ac.block k (by omega)⟩;refine(ai.keep (((av.set ?_ _ _).set ?_ _ _).set ?_ _ _)).mono fun k _ hk=>?_
  ·rintro(h|h)<;>omega
  ·rintro(h|h)<;>omega
  ·rintro(h|h)<;>omega
  ·rcases hk with h|h
   ·exact .inl h
   ·exact .inr (by omega)
 ·refine(ak.keep ((((Keeps.refl _ w2).set ?_ _ _).set ?_ _ _).set ?_ _ _)).mono fun k _ hk=>?_
  ·rintro(h|h)<;>omega
  ·rintro(h|h)<;>omega
  ·rintro(h|h)<;>omega
  ·rcases hk with h|h
   ·exact .inl h
   ·exact .inr (by omega)
theorem A1t (ct)(cols)(to')(tc)(io)(ic)(kd)(nmv tbv clv)(o1)(c1)(o2)(n2 c2)(o3)(n3 c3)(o4)(n4 c4)(o5)(n5 c5)(op xk xn)(xs s nm8)(n8)(o6)(k6 c6)(o7)(n7 c7)(dn)(nn)(C)(w)
  (hT:IsL Ci (fun k=>k<C) w (D to' ct.tables.length tc) ct.tables) (hI:IsL D6 (fun k=>k<C) w (D io ct.indexes.length ic) ct.indexes) (ac:IsL Cp (fun k=>k<C) w (D o1 cols.length c1) cols) (hC:C≤w.heap.size) (_:ct.tables.length≤1000000) (_:ct.indexes.length≤1000000) (ad:¬kd=1) (ae:¬kd=2) (af:¬kd=3):
  aV aF 50 #[aU #[D to' ct.tables.length tc,D io ct.indexes.length ic],aU (sA kd nmv tbv clv (D o1 cols.length c1) (D o2 n2 c2) (D o3 n3 c3) (D o4 n4 c4) (D o5 n5 c5) op xk xn xs s nm8 n8 (D o6 k6 c6) (D o7 n7 c7) dn nn)] w (Sk ct C w):=by
 obtain⟨aa,B0,B1,B2,ab⟩:=al3 w (Q #[D to' ct.tables.length tc,D io ct.indexes.length ic] 41) (Q (sA kd nmv tbv clv (D o1 cols.length c1) (D o2 n2 c2) (D o3 n3 c3) (D o4 n4 c4) (D o5 n5 c5) op xk xn xs s nm8 n8 (D o6 k6 c6) (D o7 n7 c7) dn nn) 71) (Q #[D M 0 0,D M 0 0] 41);generalize hW:((w.alloc _).alloc _).alloc _=W at aa B0 B1 B2 ab;have HW:Hid _:=hW;clear hW ab;have a0:=Aa B0 (j:=0) (u:=D to' _ tc) rfl;have a1:=Aa B0 (j:=1) (u:=D io _ ic) rfl;have b0:=Aa B1 (j:=0) (u:=Y _ kd) rfl;have z2:=Aa B2 (j:=0) (u:=D M 0 0) rfl;have z3:=Aa B2 (j:=1) (u:=D M 0 0) rfl;have f2:W.frozen? ⟨w.heap.size+2,0,M⟩=aQ:=by simp[aD,B2]
 have f3:W.frozen? ⟨w.heap.size+2,1,M⟩=aQ:=by simp[aD,B2]
 go_enter cF,cA;go_upto_region 1 with fail;rw[HW.out];go_wp2;refine bQ (v:=aU #[D to' ct.tables.length tc,D io ct.indexes.length ic]) (bD bP _ _ (w.heap.size+2) 41 #[D to' ct.tables.length tc,D io ct.indexes.length ic] _ _ rfl (Zy B2 _ _) bK rfl (by kernel_rfl)) rfl ?_;refine⟨_,rfl,⟨_,_,rfl,?_,?_⟩,(aa.setCell (show w.heap.size≤w.heap.size+2 by omega) _).setCell (show w.heap.size≤w.heap.size+2 by omega) _⟩
 ·exact(hT.keep (((Ae (aa.mono hC)).set (by omega) _ _).set (by omega) _ _)).mono fun k _ hk=>.inl hk
 ·exact(hI.keep (((Ae (aa.mono hC)).set (by omega) _ _).set (by omega) _ _)).mono fun k _ hk=>.inl hk
theorem Acd (ct)(v)(st)(c)(C)(w)(ag:Hp (fun k=>k<C) w ct v)(ah:I6.R (fun k=>k<C) w st c)(hC:C≤w.heap.size)(aa:ct.tables.length≤1000000)(ab:ct.indexes.length≤1000000)
  (ai:Cb (ct.tables.map TabD.name)) (aj:Cb (ct.indexes.map IdxD.name)):
  aV aF 50 #[v,aU c.toArray] w (Sk (A7 ct st) C w):=by
 obtain⟨tv,iv,rfl,hT,hI⟩:=ag;obtain⟨ac,tc,rfl⟩:=hT.shape;obtain⟨io,ic,rfl⟩:=hI.shape;obtain⟨o1,c1,o2,c2,o3,c3,o4,c4,o5,c5,op,xk,xn,xs,s,ak,n8,o6,k6,c6,o7,c7,rfl,i1,_⟩:=Ba ah;obtain⟨kd,ad,ae,af,cols,rows,sets,frm,out,wh,order,dn,nn⟩:=st;simp only at i1⊢;rw[Array.toArray_toList];unfold A7
 by_cases h1:kd=1
 ·subst h1;exact A1q ct cols ac tc io ic ad ae af o1 c1 _ _ _ _ _ _ _ _ _ _ _ _ _ _ _ _ _ _ _ _ _ _ _ _ _ _ _ C w hT hI i1 hC aa ab ai
 by_cases h2:kd=2
 ·subst h2;exact A1r ct cols ac tc io ic ad ae af o1 c1 _ _ _ _ _ _ _ _ _ _ _ _ _ _ _ _ _ _ _ _ _ _ _ _ _ _ _ C w hT hI i1 hC aa ab aj
 by_cases h3:kd=3
 ·subst h3;exact A1s ct cols ac tc io ic ad ae af o1 c1 _ _ _ _ _ _ _ _ _ _ _ _ _ _ _ _ _ _ _ _ _ _ _ _ _ _ _ C w hT hI i1 hC aa ab
 ·simp only[h1,h2,h3,if_false];exact A1t ct cols ac tc io ic kd ad ae af o1 c1 _ _ _ _ _ _ _ _ _ _ _ _ _ _ _ _ _ _ _ _ _ _ _ _ _ _ _ C w hT hI i1 hC aa ab h1 h2 h3
end
section
open Go.RowKit
theorem EngC.storeCat {E}{w}{n}{c c'}{T}{a}{tv iv pv tv' iv'}{F}(h:EngC E w n c T a tv iv pv)(hE:Cl E w)(hn:n∈E)(ht:IsL Ci F w tv' c'.tables)(hi:IsL D6 F w iv' c'.indexes):EngC E ((w.setCell ⟨n,0,M⟩ tv').setCell ⟨n,1,M⟩ iv') n c' T a tv' iv' pv:=by
 have hk:Keeps (fun k=>k∉E) w ((w.setCell ⟨n,0,M⟩ tv').setCell ⟨n,1,M⟩ iv'):=((Keeps.refl _ _).set (fun h=>h hn) _ _).set (fun h=>h hn) _ _;refine⟨?_,(Ayu hE ht).keep hk,(Ayv hE hi).keep hk,h.pages.keep hk,h.good⟩;have h2:=Dh (Dh h.blk 0 tv') 1 iv';grind
theorem Zz {w:bU}{n g}{o}{x y}(h:w.heap[g]?=H o)(hn:g≠n):((w.setCell ⟨n,0,M⟩ x).setCell ⟨n,1,M⟩ y).heap[g]?=H o:=
 ((bY _ ⟨n,1,M⟩ _ _ hn).trans (bY _ ⟨n,0,M⟩ _ _ hn)).trans h
theorem Ajb {E}{n}{c}{T}{a}{to' io po}{tc ic pc}{w}(hE:Cl E w)(hn:n∈E)(he:EngC E w n c T a (D to' c.tables.length tc) (D io c.indexes.length ic) (D po T.length pc))(ad:Ds c=Z)(st)(cs)(hR:I6.R (fun k=>k<w.heap.size) w st cs):
  aV aF 29 #[aR (H ⟨n,0,M⟩),aU cs.toArray] w fun e w'=>e=aI (cI #[])∧∃ak al am an,EngC E w' n (A7 c st) T a (D ak (A7 c st).tables.length al) (D am (A7 c st).indexes.length an) (D po T.length pc)∧But n w w':=by
 obtain⟨o1,c1,o2,c2,o3,c3,o4,c4,o5,c5,op,xk,xn,xs,s,ae,n8,o6,k6,c6,o7,c7,rfl,i1,i2,i3,i4,i5,i6,i7⟩:=Ba hR;have ag:=fun W h=>Acd c _ st _ _ W ⟨_,_,rfl,(he.tabs.mono fun k hk _=>hk).keep (Ae h),(he.idxs.mono fun k hk _=>hk).keep (Ae h)⟩ (I6.keep (Ae h) hR) h.size (by have:=((Cv c).1 ad).1;omega) (by have:=((Cv c).1 ad).2.1;omega) ((Cv c).1 ad).2.2.2.1 ((Cv c).1 ad).2.2.2.2.2
 obtain⟨aa,bS,-⟩:=al1 w (Q (sA st.kind st.name st.table st.col (D o1 st.cols.length c1) (D o2 st.rows.length c2) (D o3 st.sets.length c3) (D o4 st.frm.length c4) (D o5 st.out.length c5) op xk xn xs s ae n8 (D o6 k6 c6) (D o7 st.order.length c7) st.down st.n) 71);have af:=he.below aa;have ah:=hE.below aa;generalize hW:w.alloc _=W1 at aa bS af ah;have HW:Hid _:=hW;have ap:Hid _:=ah;replace ag:=fun W h=>ag W (Ac aa h)
 have q0:=Aa af.blk (j:=0) rfl;have q1:=Aa af.blk (j:=1) rfl;clear hW hE ah hR i1 i2 i3 i4 i5 i6 i7;go_enter Tryz.func29,Tryz.ntmps29;go_upto_region 1 with fail;rw[HW.out];refine aO (S:=(fun W=>W.heap[w.heap.size]?=H (Q (sA st.kind st.name st.table st.col (D o1 st.cols.length c1) (D o2 st.rows.length c2) (D o3 st.sets.length c3) (D o4 st.frm.length c4) (D o5 st.out.length c5) op xk xn xs s ae n8 (D o6 k6 c6) (D o7 st.order.length c7) st.down st.n) 71))) (by rfl) ?_ (fun hHeld=>?_)
 ·assumption
 refine tk 0 ?_;refine tk 1 ?_;refine tk 2 ?_;refine tk 3 ?_;refine cL (i:=5) (v:=aU (sA st.kind st.name st.table st.col (D o1 st.cols.length c1) (D o2 st.rows.length c2) (D o3 st.sets.length c3) (D o4 st.frm.length c4) (D o5 st.out.length c5) op xk xn xs s ae n8 (D o6 k6 c6) (D o7 st.order.length c7) st.down st.n)) rfl (by kernel_rfl) (by kernel_rfl) (by kernel_rfl) (fun _ _ _ h=>h) (Iu rfl 71 _ rfl w.heap.size rfl (sA st.kind st.name st.table st.col (D o1 st.cols.length c1) (D o2 st.rows.length c2) (D o3 st.sets.length c3) (D o4 st.frm.length c4) (D o5 st.out.length c5) op xk xn xs s ae n8 (D o6 k6 c6) (D o7 st.order.length c7) st.down st.n) 71 _ (fun _ h=>h) bJ rfl D5) (by assumption) ?_;refine Bh 4 (fun K hK=>?_);go_simp;go_wp2_with fail;refine hK.out _ _ ?_ (fun hHeld=>?_)
 ·omega
 clear hK K;refine Bh 6 (fun K hK=>?_);go_simp
 (refine(ag _ (aC _ _).drew).mono ?_;rintro e w4 ⟨v4,rfl,⟨ax,ay,rfl,ai,aj⟩,aq⟩;obtain⟨ar,au,rfl⟩:=ai.shape;obtain⟨av,aw,rfl⟩:=aj.shape;have ab:=Ac (aC _ _).drew aq;have ac:=af.below ab;have q4:=Aa ac.blk (j:=0) rfl;have q5:=Aa ac.blk (j:=1) rfl;have z4:w4.frozen? ⟨n,0,M⟩=aQ:=(by simp only[aD,ac.blk];rfl);have z5:w4.frozen? ⟨n,1,M⟩=aQ:=(by simp only[aD,ac.blk];rfl))
 go_wp2_with fail;refine hK.out _ _ ?_ (fun hHeld=>?_)
 ·exact(ab.block _ (U bS)).trans bS
 clear hK K;refine tk 7 ?_;refine tk 8 ?_;refine Bh 9 (fun K hK=>?_);go_simp;go_wp2_with fail;refine hK.out _ _ ?_ (fun hHeld=>?_)
 ·exact Zz ((ab.block _ (U bS)).trans bS) ((cD he.lt).symm)
 clear hK K;refine bL (by kernel_rfl) ?_ _;go_wp2_with fail
 go_end0
 exact⟨rfl,ar,au,av,aw,ac.storeCat (Cl.below ap.out ab) hn ai aj,(But.of_below (Ac aa ab)).set _ _ |>.set _ _⟩
theorem Cl.lt {E}{w}(h:Cl E w){b}(hb:b∈E):b<w.heap.size:=by
 obtain⟨c,T,a,tv,iv,pv,h1,_⟩:=h b hb;exact h1.lt
theorem Ah0 {α}{K}{E}{w w'}{v}{l:List α}(hE:Cl E w)(h:IsL K (fun k=>w.heap.size≤k) w' v l):IsL K (fun k=>k∉E) w' v l:=h.mono fun k _ hk hb=>by have:=hE.lt hb;omega
theorem Azd {E}{n}{c}{T}{a}{to' io po}{tc ic pc}{w}(hE:Cl E w)(hn:n∈E)(he:EngC E w n c T a (D to' c.tables.length tc) (D io c.indexes.length ic) (D po T.length pc))(az:Ds c=Z)(st)(cs)(hR:I6.R (fun k=>k<w.heap.size) w st cs)(R)(ok:DbOk ⟨c,R⟩)(ah:Has ⟨c,R⟩ (flat T)){t}(bi:Bu c.tables st.table=H t)(bj:Ds (A7 c st)=Z)(hw:A7 c st=⟨c.tables,Ec IdxD.name c.indexes ⟨st.name,st.table,st.col⟩⟩):
  aV aF 30 #[aR (H ⟨n,0,M⟩),aU cs.toArray] w fun e w'=>e=aI (cI #[])∧∃cz da db dc an ap T2,EngC E w' n (A7 c st) T2 a (D cz (A7 c st).tables.length da) (D db (A7 c st).indexes.length dc) (D an T2.length ap)∧Has ⟨(A7 c st),R⟩ (flat T2)∧But n w w':=by
 obtain⟨aq,cb⟩:=Ea bi;obtain⟨cd,ef,eg⟩:=(D8 ok.cat).2.2 t aq;have hT:T.length≤450:=aB (Ja he.good) (Lt ok he.good ah);obtain⟨o1,c1,o2,c2,o3,c3,o4,c4,o5,c5,op,xk,xn,xs,s,ai,n8,o6,k6,c6,o7,c7,rfl,i1,i2,i3,i4,i5,i6,i7⟩:=Ba hR;have ar:=fun W (h:Below w.heap.size w W)=>Acd c (aU #[D to' c.tables.length tc,D io c.indexes.length ic]) st (sA st.kind st.name st.table st.col (D o1 st.cols.length c1) (D o2 st.rows.length c2) (D o3 st.sets.length c3) (D o4 st.frm.length c4) (D o5 st.out.length c5) op xk xn xs s ai n8 (D o6 k6 c6) (D o7 st.order.length c7) st.down st.n).toList w.heap.size W ⟨_,_,rfl,(he.tabs.mono (F':=fun k=>k<w.heap.size) fun k hk _=>hk).keep (Ae h),(he.idxs.mono (F':=fun k=>k<w.heap.size) fun k hk _=>hk).keep (Ae h)⟩ (I6.keep (Ae h) hR) h.size (by have:=((Cv c).1 az).1;omega) (by have:=((Cv c).1 az).2.1;omega) ((Cv c).1 az).2.2.2.1 ((Cv c).1 az).2.2.2.2.2
 obtain⟨au,bS,-⟩:=al1 w (Q (sA st.kind st.name st.table st.col (D o1 st.cols.length c1) (D o2 st.rows.length c2) (D o3 st.sets.length c3) (D o4 st.frm.length c4) (D o5 st.out.length c5) op xk xn xs s ai n8 (D o6 k6 c6) (D o7 st.order.length c7) st.down st.n) 71);have av:=he.below au;have bk:=hE.below au;have dd:w.heap.size≠n:=(cD he.lt).symm;have bl:=No av bi;have ce:=Aa bS (j:=2) rfl;generalize hW:w.alloc (Q (sA st.kind st.name st.table st.col (D o1 st.cols.length c1) (D o2 st.rows.length c2) (D o3 st.sets.length c3) (D o4 st.frm.length c4) (D o5 st.out.length c5) op xk xn xs s ai n8 (D o6 k6 c6) (D o7 st.order.length c7) st.down st.n) 71)=W1 at au bS av bk bl ce;have HW:Hid _:=hW;have cf:Hid _:=bk;obtain⟨cg,ch,_⟩:=D8 bj;have cj:Hid _:=cg;have de:Hid _:=ch;have HA:Hid (F3 t.cols.length (rng T (Hl t.name) (Hm t.name))=R t.name):=Ab4 ok he.good ah aq;have df:Hid ((R t.name).length≤30):=ok.len t aq;have dg:Hid (∀r∈R t.name,F9 t r=Z):=ok.fit t aq;have ck:=P7 ok ah;have dh:Hid _:=P8 ah;have di:Hid (Has ⟨(A7 c st),R⟩ (Mk (flat T) (A7 c st).indexes t (R t.name))):=by
  show Has _ _;rw[hw];exact Ays ok ah aq (cb.symm)
 have dj:Hid _:=ck;have cl:Hid _:=bj;clear hW hE bk hR i1 i2 i3 i4 i5 i6 i7 cg ch ok ah bi hw bj ck cb;go_enter Tryz.func30,Tryz.ntmps30;go_upto_region 1 with fail;rw[HW.out];go_upto_region 2 with(go_fit bl;rintro e w2 ⟨ao,cc,rfl,cm,ba⟩);obtain⟨bb,bT,-⟩:=al1 w2 (Q #[O t.name,D ao t.cols.length cc] 74);have aj:Below W1.heap.size W1 (w2.alloc (Q #[O t.name,D ao t.cols.length cc] 74)):=ba.trans (bb.mono ba.size);have aa:=(aj.block _ (U bS)).trans bS;have bc:=av.below aj;have bd:=Cl.below cf.out aj;have bm:=Mw bd (cm.keep (Ak bb));have bn:=au.trans (aj.mono au.size);have be:w2.heap.size≠n:=by have:=U av.blk;have:=ba.size;omega
 replace ar:=fun W (h:Below (w2.alloc (Q #[O t.name,D ao t.cols.length cc] 74)).heap.size (w2.alloc (Q #[O t.name,D ao t.cols.length cc] 74)) W)=>ar W (Ac bn h)
 generalize w2.alloc (Q #[O t.name,D ao t.cols.length cc] 74)=W3 at bb aj bT aa bc bd bm bn ar⊢;generalize w2.heap.size=gT at bT be⊢;have q0:=Aa bc.blk (j:=0) rfl;have q1:=Aa bc.blk (j:=1) rfl;have bo:Hid _:=bd;have cn:Hid _:=bm;clear bl cm ba bb aj bS av cf ce bd bm HW;refine aO (S:=(fun W=>W.heap[w.heap.size]?=H (Q (sA st.kind st.name st.table st.col (D o1 st.cols.length c1) (D o2 st.rows.length c2) (D o3 st.sets.length c3) (D o4 st.frm.length c4) (D o5 st.out.length c5) op xk xn xs s ai n8 (D o6 k6 c6) (D o7 st.order.length c7) st.down st.n) 71))) (by kernel_rfl) ?_ (fun hHeld=>?_)
 ·exact((aC _ _).drew.block _ (U aa)).trans aa
 refine tk 0 ?_;refine tk 1 ?_;refine tk 2 ?_;refine tk 3 ?_;refine cL (i:=5) (v:=aU (sA st.kind st.name st.table st.col (D o1 st.cols.length c1) (D o2 st.rows.length c2) (D o3 st.sets.length c3) (D o4 st.frm.length c4) (D o5 st.out.length c5) op xk xn xs s ai n8 (D o6 k6 c6) (D o7 st.order.length c7) st.down st.n)) rfl (by kernel_rfl) (by kernel_rfl) (by kernel_rfl) (fun _ _ _ h=>h) (Iu rfl 71 _ rfl w.heap.size rfl (sA st.kind st.name st.table st.col (D o1 st.cols.length c1) (D o2 st.rows.length c2) (D o3 st.sets.length c3) (D o4 st.frm.length c4) (D o5 st.out.length c5) op xk xn xs s ai n8 (D o6 k6 c6) (D o7 st.order.length c7) st.down st.n) 71 _ (fun _ h=>h) bJ rfl D5) (by assumption) ?_;refine Bh 4 (fun K hK=>?_);go_simp;go_wp2_with fail;refine hK.out _ _ ?_ (fun hHeld=>?_)
 ·exact((aC _ _).drew.block _ (U aa)).trans aa
 clear hK K;refine Bh 6 (fun K hK=>?_);go_simp
 (refine(ar _ (aC _ _).drew).mono ?_;rintro e w4 ⟨v4,rfl,⟨eh,ei,rfl,bp,bq⟩,co⟩;obtain⟨ac,ad,rfl⟩:=bp.shape;obtain⟨ae,af,rfl⟩:=bq.shape;have ag:Below W3.heap.size W3 w4:=Ac (aC _ _).drew co;have ak:=bc.below ag;have q4:=Aa ak.blk (j:=0) rfl;have q5:=Aa ak.blk (j:=1) rfl;have z4:w4.frozen? ⟨n,0,M⟩=aQ:=(by simp only[aD,ak.blk];rfl);have z5:w4.frozen? ⟨n,1,M⟩=aQ:=(by simp only[aD,ak.blk];rfl))
 go_wp2_with fail;refine hK.out _ _ ?_ (fun hHeld=>?_)
 ·exact(ag.block _ (U aa)).trans aa
 clear hK K;refine tk 7 ?_;refine tk 8 ?_;refine Bh 9 (fun K hK=>?_);go_simp;go_wp2_with fail;refine hK.out _ _ ?_ (fun hHeld=>?_)
 ·exact Zz ((ag.block _ (U aa)).trans aa) dd
 clear hK K;refine bL (by kernel_rfl) ?_ _;have bf:=ak.storeCat (Cl.below bo.out ag) hn bp bq;have bg:But n W3 ((w4.setCell ⟨n,0,M⟩ (D ac (A7 c st).tables.length ad)).setCell ⟨n,1,M⟩ (D ae (A7 c st).indexes.length af)):=((But.of_below ag).set _ _).set _ _;have bt:=Cl.put bo.out bg hn bf cl.out;have aw:=Zz (x:=D ac (A7 c st).tables.length ad) (y:=D ae (A7 c st).indexes.length af) ((ag.block _ (U bT)).trans bT) be;have bu:=IsL.keep cn.out (Jq bg hn);generalize(w4.setCell ⟨n,0,M⟩ (D ac (A7 c st).tables.length ad)).setCell ⟨n,1,M⟩ (D ae (A7 c st).indexes.length af)=W5 at bf bg bt aw bu⊢;have bv:=Ty bf t ao cc (by omega) (aB cd (by decide)) dj.out;rw[HA.out]at bv;have t0:=Aa aw (j:=0) rfl;have t1:=Aa aw (j:=1) rfl;have bw:Hid _:=bt;have cp:Hid _:=bu;clear ar q0 q1 q4 q5 z4 z5 ak bp bq co ag bo cn bt bu aa;go_wp2_with(go_fit bv;rintro e w6 ⟨ej,rfl,bx,ax⟩;obtain⟨ro,rc,rfl⟩:=bx.shape);have dk:Hid _:=Ah0 bw.out bx;have dl:Hid _:=IsL.keep cp.out (Ak ax);have dm:=bf.below ax;have dn:Hid _:=Cl.below bw.out ax;have cq:=(ax.block _ (U aw)).trans aw;have dp:But n w w6:=((But.of_below bn).trans bg).trans (But.of_below ax);have dq:n≠gT:=fun e=>be e.symm
 clear bv t0 t1 bx bw cp;generalize ds:R t.name=rows at*;have ek:rows.length≤30:=df.out;clear ds
 go_loopw[24] (fun i wr=>∃(k:Nat) (an:Option Addr) (ap:Nat) (T2:List Pg),k≤rows.length∧i=Y aW k∧EngC E wr n (A7 c st) T2 a (D ac (A7 c st).tables.length ad) (D ae (A7 c st).indexes.length af) (D an T2.length ap)∧Hid (flat T2=Mk (flat T) (A7 c st).indexes t (rows.take k)∧T2.length≤T.length+5*k∧Keyed (flat T2))∧But n w6 wr) (fun i _=>rows.length-(bN i).toNat)
 case atStart=>exact⟨0,po,pc,T,aS _,rfl,dm,id ⟨rfl,aH _,dh.out⟩,But.refl _ _⟩
 case round=>
  obtain⟨k,an,ap,T2,hk,rfl,ab,HF,al⟩:=hrel
  by_cases dt:k<rows.length
  ·obtain⟨r,hx⟩:∃r,rows[k]?=H r:=⟨_,aA dt⟩;obtain⟨b,du,el,dv,_,en,⟨yv,rfl,bz⟩,cr⟩:=Av (IsL.keep dk.out (Jq al hn)) hx;cases dv;obtain⟨yo,yc,rfl⟩:=bz.shape;have dw:=F4 bz;have d0:wr.cell? ⟨b,du+k,M⟩=H (D yo r.length yc):=by have:=cr 0 _ rfl;simpa[Ek]using this
   obtain⟨ct,cu⟩:=B6 (dg.out r (aE hx));have cv:=fun v hv=>Iw (cu v hv)
   have dx:=IsL.keep dl.out (Jq al hn);have am:=(al.block _ (U cq) be).trans cq;have dy:=Cl.put dn.out al hn ab cl.out;have v0:(0:Int)≤k:=by omega
   have v1:k<(rows.length:Int):=by omega
   have q2:=Aa ab.blk (j:=2) rfl;have dz:Hid (Mk (flat T) (A7 c st).indexes t (rows.take (k+1))=putRow (Mk (flat T) (A7 c st).indexes t (rows.take k)) (A7 c st).indexes t r):=by
    show _=_;rw[aY,hx,bV,Ar2]
   have HD:=fun W h=>Aed _ t r T2 _ (D ac (A7 c st).tables.length ad) _ _ _ _ W ⟨_,rfl,ab.pages.pages.below h⟩ ab.good (by have:=HF.out.2.1;omega) (B7 _ _ _) ((ab.below h).idxs.mono (fun k hk _=>hk)) ((dx.keep (Ak h)).mono (fun k hk _=>hk)) (aH _) (dw.below h) ct (by omega) (by omega) cv (fun x hx=>aB (de.out x hx) (by simp)) (aB cd (by simp)) (by have:=cj.out;omega)
   have KS:Hid _:=fun W (h:Below _ wr W)=>bA (show W.cell? _=H (D ac _ ad)from Aa (ab.below h).blk (j:=0) rfl) (bA (show W.cell? _=H (D ae _ af)from Aa (ab.below h).blk (j:=1) rfl) (bA (show W.cell? _=H (O _)from Aa ((h.block _ (U am)).trans am) (j:=0) rfl) (show W.cell? _=H (D ao _ cc)from Aa ((h.block _ (U am)).trans am) (j:=1) rfl)))
   have KT:Hid _:=fun W (h:Below _ wr W) x=>Y4 (ab.below h).blk ((h.block _ (U am)).trans am) dq x
   clear hx cr bz cu cv ct;go_wp2_with fail;refine aO (S:=(fun W=>W.cell? ⟨n,0,M⟩=H (D ac (A7 c st).tables.length ad)∧W.cell? ⟨n,1,M⟩=H (D ae (A7 c st).indexes.length af)∧W.cell? ⟨gT,0,M⟩=H (O t.name)∧W.cell? ⟨gT,1,M⟩=H (D ao t.cols.length cc))) (by rfl) ?_ (fun hHeld=>?_)
   ·exact KS.out _ (aC _ _).drew
   refine tk 0 ?_;refine tk 1 ?_;refine tk 2 ?_;refine tk 3 ?_;refine tk 5 ?_;refine tk 6 ?_;refine tk 7 ?_;refine tk 8 ?_;refine tk 9 ?_;refine tk 10 ?_;refine Bh 4 (fun K hK=>?_);go_simp;go_wp2_with fail;refine hK.out _ _ ?_ (fun hHeld=>?_)
   ·omega
   clear hK K;refine Bh 11 (fun K hK=>?_);go_simp
   (go_fit(HD _ (aC _ _).drew);rintro e w9 ⟨eo,T9,rfl,bh,ea,cx,ep,eb⟩;obtain⟨et,rfl,bh⟩:=bh;obtain⟨ec,c9,rfl⟩:=Ct bh;have ay:=Ac (aC _ _).drew eb;have ca:=ab.below ay;have q9:=Aa ca.blk (j:=2) rfl;have z9:w9.frozen? ⟨n,2,M⟩=aQ:=(by simp only[aD,ca.blk];rfl))
   go_wp2_with fail;refine hK.out _ _ ?_ (fun hHeld=>?_)
   ·exact KS.out _ ay
   clear hK K;refine tk 12 ?_;refine tk 13 ?_;refine Bh 14 (fun K hK=>?_);go_simp;go_wp2_with fail;refine hK.out _ _ ?_ (fun hHeld=>?_)
   ·exact KT.out _ ay _
   clear hK K;refine bL (by kernel_rfl) ?_ _;go_wp2_with fail;have cy:Keyed (flat T9):=by rw[cx];exact Ahn HF.out.2.2
   go_roundw
   case rel=>exact⟨k+1,ec,c9,T9,by omega,by rfl,ca.store (dy.below ay) hn bh ea cy,id ⟨by rw[cx,HF.out.1,dz.out],by have h1:=HF.out.2.1;have h2:=cj.out;omega,cy⟩,al.trans ((But.of_below ay).set _ _)⟩
   case measure=>simp[bN];omega
  ·have ed:k=rows.length:=by omega
   subst ed;have v1:¬(rows.length<(rows.length:Int)):=by omega
   have h1:=HF.out.1;rw[aZ]at h1;have ee:Hid (Has ⟨(A7 c st),R⟩ (flat T2)):=by show Has _ _;rw[h1];exact di.out
   clear h1;go_wp2
   go_end0
   exact⟨rfl,ac,ad,ae,af,an,ap,T2,ab,ee.out,dp.trans al⟩
theorem Lg.ltr {E}{n}{t}{d}{rows}{a}{tv iv}{w w'}{e}{b}(h:Lg E n t d rows a tv iv w w' e b):∃(N m:Int),e=aI (cI #[Y aW N,Y aW m])∧Hid (Lg E n t d rows a tv iv w w' (aI (cI #[Y aW N,Y aW m])) b):=by
 have h1:=h.1;subst h1;exact⟨_,_,rfl,h⟩
theorem Lg.from {E}{n}{t}{d}{rows}{a}{tv iv}{w0 w w'}{e}{b}(h:Lg E n t d rows a tv iv w w' e b)(hb:But n w0 w):Lg E n t d rows a tv iv w0 w' e b:=by
 obtain⟨h1,aa,ab,T',h2,h3,h4,h6,h5⟩:=h;exact⟨h1,aa,ab,T',h2,h3,h4,h6,hb.trans h5⟩
theorem Ajc {E:List Nat}{n:Nat}{d:Db}{T:List Pg}{a:Int}{av io po:Option Addr}{tc ic pc:Nat}{w:bU}(hE:Cl E w)(hn:n∈E)(he:EngC E w n d.c T a (D av d.c.tables.length tc) (D io d.c.indexes.length ic) (D po T.length pc))(ok:DbOk d)(bm:Has d (flat T))(st:Stm)(cs:List bF)(hR:I6.R (fun k=>k∉E) w st cs){t:TabD}(ah:Bu d.c.tables st.table=H t)(dc:st.rows.length≤1000000)(ad:∀l∈st.rows,l.length≤16777216∧∀e∈l,Fg e)(aw:∀l∈st.rows,Jg t (l.map (ev [])))(bq:Bool:=false)(bn:bq=Z→d.c.indexes.length≤0∧T.length≤1∧(flat T).length+st.rows.length≤4:=by nofun):
  aV aF 33 #[aR (H ⟨n,0,M⟩),aU cs.toArray] w fun e w'=>Lg E n t d (st.rows.map fun l=>l.map (ev [])) a (D av d.c.tables.length tc) (D io d.c.indexes.length ic) w w' e bq:=by
 obtain⟨i0,bo,bp,bt,bu⟩:=info_parts Py;obtain⟨o1,c1,o2,c2,o3,c3,o4,c4,o5,c5,op,xk,xn,xs,s,ax,n8,o6,k6,c6,o7,c7,rfl,i1,i2,i3,i4,i5,i6,i7⟩:=Ba hR;have bv:=(Ea ah).1;obtain⟨ae,bS,-⟩:=al1 w (Q (sA st.kind st.name st.table st.col (D o1 st.cols.length c1) (D o2 st.rows.length c2) (D o3 st.sets.length c3) (D o4 st.frm.length c4) (D o5 st.out.length c5) op xk xn xs s ax n8 (D o6 k6 c6) (D o7 st.order.length c7) st.down st.n) 71);have ai:=he.below ae;have aj:=hE.below ae;have ak:=i2.keep (Ak ae);generalize hW:w.alloc (Q (sA st.kind st.name st.table st.col (D o1 st.cols.length c1) (D o2 st.rows.length c2) (D o3 st.sets.length c3) (D o4 st.frm.length c4) (D o5 st.out.length c5) op xk xn xs s ax n8 (D o6 k6 c6) (D o7 st.order.length c7) st.down st.n) 71)=W1 at ae bS ai aj ak;have HW:Hid _:=hW;have al:Hid _:=aj;have bw:Hid _:=ak;have bx:Hid _:=ad;have bz:Hid (∀r∈st.rows.map (fun l=>l.map (ev [])),Jg t r):=fun r hr=>by
  obtain⟨l,hl,rfl⟩:=cP.1 hr;exact aw l hl
 have ay:=fun W (h:Below W1.heap.size W1 W)=>No (ai.below h) ah
 have az:=fun ao cc rv W (h:Below W1.heap.size W1 W) (hc:IsL Cp (fun k=>k∉E) W (D ao t.cols.length cc) t.cols) (hr:IsL Ek (fun k=>k∉E) W rv (st.rows.map fun l=>l.map (ev [])))=>Aeo (Cl.below al.out h) hn (ai.below h) ok bm t ao cc hc _ rv hr bz.out bv bq (fun hb=>by rw[aX];exact bn hb)
 have ca:Hid _:=az;have cb:Hid _:=ay;have a5:=Aa bS (j:=5) rfl;clear hW hE aj hR ak ad aw i1 i2 i3 i4 i5 i6 i7 az ay ah;have ba:(st.rows.map fun l=>l.map (ev [])).length=st.rows.length:=by simp
 have bb:Hid _:=ba;clear ba;go_enter Tryz.func33,Tryz.ntmps33;go_upto_region 1 with fail;rw[HW.out];go_wp2
 go_loopw[6,12] (fun zv i wr=>∃k:Nat,k≤st.rows.length∧i=Y aW k∧Hid (Dq W1.heap.size zv ((st.rows.map fun l=>l.map (ev [])).take k) wr)∧Below W1.heap.size W1 wr) (fun _ i _=>st.rows.length-(bN i).toNat)
 case atStart=>exact⟨0,aS _,rfl,Cd _ _,aC _ _⟩
 case round=>
  obtain⟨k,hk,rfl,am,aa⟩:=hrel;have af:=aa.size
  by_cases cd:k<st.rows.length
  ·obtain⟨l,hx⟩:∃l,st.rows[k]?=H l:=⟨_,aA cd⟩;obtain⟨b,ce,dd,cf,_,de,⟨yv,rfl,an⟩,bc⟩:=Av (IsL.keep bw.out (Ak aa)) hx;cases cf;obtain⟨yo,yc,rfl⟩:=an.shape;have d0:wr.cell? ⟨b,ce+k,M⟩=H (D yo l.length yc):=by have:=bc 0 _ rfl;simpa[H6]using this
   obtain⟨bd,be⟩:=bx.out l (aE hx);have cg:=Tx l _ _ [] _ wr (an.mono (fun k hk _=>hk)) (aH _) be bd (.inl ⟨⟨M,0,rfl,fun _=>rfl⟩,rfl⟩) (fun v hv=>by grind) (aS _);have ch:Hid ((st.rows.map fun l=>l.map (ev [])).take (k+1)=(st.rows.map fun l=>l.map (ev [])).take k++[l.map (ev [])]):=by
    show _=_;rw[aY,cC,hx];rfl
   obtain⟨cj,bf,bg⟩:=am.out;have ap:((st.rows.map fun l=>l.map (ev [])).take k).length=k:=by rw[aT,bb.out];omega
   have ck:Hid _:=ap;have bh:=by have:=bf;rwa[ap]at this
   have cl:=bh.lt;have cm:Hid _:=bg;have v0:(0:Int)≤k:=by omega
   have v1:k<(st.rows.length:Int):=by omega
   clear hx bc an bd be bf bg ap;go_wp2_with(first
    |(go_fit cg;rintro e w2 ⟨vv,rfl,ad,cn⟩;obtain⟨ab,ac,rfl⟩:=Eu.shape (Eu.of_own ad);have ag:Below _ wr (w2.alloc (Q [D ab l.length ac].toArray 57)):=Ac cn (Aq _ _);have co:=Aj bh ag;have cp:=B8 w2 [D ab l.length ac] 57;have bi:=aB af ag.size)
    |(at_builtin;go_must(refine bZ _ rfl _ _ 30 rfl _ 57 i0 _ 1 24 cY bo bp bt bu rfl (by simp) _ _ _ rfl co _ 1 1 _ rfl rfl cp ?h1 (by simp only[cQ];omega) (by omega) bi ?h2)))
   case h1=>simp only[cT];repeat(first|exact fun _ h=>absurd h dB|refine⟨rfl,?_⟩)
   case h2=>
    intro z2 w4 cq bj _ cr;have ct:z2.ownBlock=u6.ownBlock∨z2.ownBlock=H (w2.alloc (Q [D ab l.length ac].toArray 57)).heap.size:=by rw[cW];exact cr
    have cu:w2.ownsRow wr.heap.size 59 3 (D ab l.length ac) (l.map (ev [])).length (Ax (l.map (ev []))):=by rw[aX];exact ad
    have cv:IsL Lw (FO _ u6) (w2.alloc (Q [D ab l.length ac].toArray 57)) _ _:=
     (Nc cu fun k hk=>⟨aB af hk,fun e=>by grind⟩).keep (Ak (Aq _ _))
    have cx:w4.ownsRow W1.heap.size 57 1 z2 (((st.rows.map fun l=>l.map (ev [])).take k).length+1) (cj++[D ab l.length ac]):=by rw[ck.out];exact cq
    have df:=L7 cx (All.keep (Ak ag) cm.out) cv bj ct;go_wp2_with fail;go_roundw
    case rel=>exact⟨k+1,by omega,by rfl,by show Dq _ _ _ _;rw[ch.out];omega,(aa.trans (ag.mono af)).grown bj bi fun k hk=>(cl k hk).1⟩
    case measure=>simp[bN];omega
  ·have cy:k=st.rows.length:=by omega
   subst cy;have v1:¬(st.rows.length<(st.rows.length:Int)):=by omega
   have aq:=am.out;rw[bM (by simp)]at aq;have ar:IsL Ek (fun k=>k∉E) wr u6 _:=aq.isL fun k hk hb=>by have:=Cl.lt al.out hb;omega
   obtain⟨uo,uc,bk⟩:=ar.shape;rw[bb.out]at bk;subst bk;have a2:=Aa ((aa.block _ (U bS)).trans bS) (j:=2) rfl;have cz:Hid _:=ar;clear aq ar am;go_wp2_with(first
    |(go_fit(cb.out wr aa);rintro e w5 ⟨ao,cc,rfl,da,bl⟩;have au:=aa.trans (bl.mono af);have HP:=ca.out ao cc _ w5 au (Mw (Cl.below al.out au) da) (IsL.keep cz.out (Ak bl));have HP:=HP.mono fun e w' h=>h.ltr)
    |(go_fit HP;rintro e w6 ⟨N6,m6,rfl,db⟩))
   go_ret2;exact Lg.from db.out (But.of_below (Ac ae au))
def Aso (st:Stm)(A:List Fnd):List Fnd:=if 0≤st.n then A.take st.n.toNat else A
theorem Amh {Eg:List Nat}{n:Nat}{d:Db}{T:List Pg}{a:Int}{cq io po:Option Addr}{tc ic pc:Nat}{w:bU}(he:EngC Eg w n d.c T a (D cq d.c.tables.length tc) (D io d.c.indexes.length ic) (D po T.length pc))(ok:DbOk d)(bi:Has d (flat T))(bj:K7 d.c)(st:Stm)(cs:List bF)(hR:I6.R (fun k=>k<w.heap.size) w st cs)(ts:List TabD)(bk:ts.length=st.frm.length)(aq:∀(k:Nat) (nm:Wd) (t:TabD),st.frm[k]?=H nm→ts[k]?=H t→Bu d.c.tables nm=H t)(h2:ts.length≤2)(bl:Fg st.wher)(bm:Dd st.wher)(bn:geB 40 st.wher=Z→Mt 40 st.wher)(cr:st.order.length≤1000000)(bo:∀e∈st.order,Fg e)(ct:st.out.length≤16777216)(bp:∀e∈st.out,Fg e):
  aV aF 36 #[aR (H ⟨n,0,M⟩),aU cs.toArray] w fun e w'=>∃A2:List Fnd,A2.Perm (((Ch (Hc d) 0 [⟨[],[],[]⟩] ts).filter fun f=>At st.wher f.row).map (G4 st))∧(A2.Pairwise fun a b=>¬Ks (Hg st) b a<0)∧Nd w w' e ((Aso st A2).map fun f=>st.out.map (ev f.row)):=by
 obtain⟨i0,cu,cv,cx,cy⟩:=info_parts Py;obtain⟨o1,c1,o2,c2,o3,c3,o4,c4,o5,c5,op,xk,xn,xs,s,aa,n8,o6,k6,c6,o7,c7,rfl,i1,i2,i3,i4,i5,i6,i7⟩:=Ba hR;have ak:∀t∈ts,t∈d.c.tables:=fun t ht=>by
  obtain⟨k,hk,rfl⟩:=aG ht;exact(Ea (aq k _ _ (aA (show k<st.frm.length by omega)) (aA hk))).1
 have bq:=(D8 ok.cat).2.2;have ar:Hid ((Ch (Hc d) 0 [⟨[],[],[]⟩] ts).length≤900∧∀f∈Ch (Hc d) 0 [⟨[],[],[]⟩] ts,f.row.length≤8∧f.ids.length≤2∧∀v∈f.row,good v=Z):=by
  have hA:∀t∈ts,∀a,(Hc d t a).length≤30∧∀r∈Hc d t a,r.length=t.cols.length∧∀v∈r,good v=Z:=fun t ht a=>⟨ok.len t (ak t ht),fun r hr=>B6 (ok.fit t (ak t ht) r hr)⟩
  obtain⟨j1,j2⟩:=We (A:=Hc d) ts 0 0 [⟨[],[],[]⟩] (fun t h a=>⟨(hA t h a).1,fun r hr=>((hA t h a).2 r hr).1⟩) (fun f hf=>by rw[aP]at hf;rw[hf];exact⟨rfl,aH _⟩);have j3:=Amg (c:=4) ts fun t h=>(bq t (ak t h)).2.2
  rw[cS,Nat.one_mul]at j1;refine⟨aB j1 (bR (by decide) h2),fun f hf=>?_⟩;have:=j2 f hf;exact⟨by omega,by omega,(Y3 (A:=Hc d) (P:=fun v=>good v=Z) ts 0 [⟨[],[],[]⟩] (fun t h a r hr=>((hA t h a).2 r hr).2) (fun f hf v hv=>by rw[aP]at hf;rw[hf]at hv;cases hv)) f hf⟩
 obtain⟨ad,bS,-⟩:=al1 w (Q (sA st.kind st.name st.table st.col (D o1 st.cols.length c1) (D o2 st.rows.length c2) (D o3 st.sets.length c3) (D o4 st.frm.length c4) (D o5 st.out.length c5) op xk xn xs s aa n8 (D o6 k6 c6) (D o7 st.order.length c7) st.down st.n) 71);have au:=he.below ad;generalize hW:w.alloc (Q (sA st.kind st.name st.table st.col (D o1 st.cols.length c1) (D o2 st.rows.length c2) (D o3 st.sets.length c3) (D o4 st.frm.length c4) (D o5 st.out.length c5) op xk xn xs s aa n8 (D o6 k6 c6) (D o7 st.order.length c7) st.down st.n) 71)=W1 at ad bS au;have HW:Hid _:=hW;have av:∀W,Below W1.heap.size W1 W→aV aF 60 #[aR (H ⟨n,0,M⟩),aU (sA st.kind st.name st.table st.col (D o1 st.cols.length c1) (D o2 st.rows.length c2) (D o3 st.sets.length c3) (D o4 st.frm.length c4) (D o5 st.out.length c5) op xk xn xs s aa n8 (D o6 k6 c6) (D o7 st.order.length c7) st.down st.n)] W _:=fun W h=>Aja (au.below h) ok bi bj st _ (I6.mono (F':=fun k=>k<W.heap.size) (fun k hk _=>hk) (I6.keep (Ae (Ac ad h)) hR)) ts bk aq h2 bl bm bn
 have ag:Hid (∀A:List Fnd,A.Perm ((Ch (Hc d) 0 [⟨[],[],[]⟩] ts).filter fun f=>At st.wher f.row)→A.length≤900∧∀f∈A,f.row.length≤8∧f.ids.length≤2∧∀v∈f.row,good v=Z):=fun A hp=>⟨by rw[hp.length_eq];exact aB (List.length_filter_le _ _) ar.out.1,fun f hf=>ar.out.2 f (cG.1 (hp.mem_iff.1 hf)).1⟩
 generalize cz:((Ch (Hc d) 0 [⟨[],[],[]⟩] ts).filter fun f=>At st.wher f.row)=FD at av ag;have bt:∀(A:List Fnd) (z:bF) (W:bU),Below W1.heap.size W1 W→Dg W1.heap.size z A W→Hid (A.Perm FD)→aV aF 59 #[aU (sA st.kind st.name st.table st.col (D o1 st.cols.length c1) (D o2 st.rows.length c2) (D o3 st.sets.length c3) (D o4 st.frm.length c4) (D o5 st.out.length c5) op xk xn xs s aa n8 (D o6 k6 c6) (D o7 st.order.length c7) st.down st.n),z] W _:=fun A z W h da hp=>Aoy st _ A z W1.heap.size W (I6.mono (F':=fun k=>k<W1.heap.size) (fun k _ hk=>aM hk ad.size) (I6.keep (Ae (Ac ad h)) hR)) da h.size (by have:=(ag.out A hp.out).1;omega) cr bo (fun f hf=>by
  have:=(ag.out A hp.out).2 f hf;exact⟨by omega,aB this.1 (by decide),fun v hv=>Iw (this.2.2 v hv)⟩)
 have db:Hid _:=i5;have dc:Hid _:=bp;clear hW hR i1 i2 i3 i4 i5 i6 i7 aq ak ok bi bq bk cz bo bp he au ar bm bn bl bj;go_enter Tryz.func36,Tryz.ntmps36;go_upto_region 1 with fail;rw[HW.out];refine aO (S:=(fun W=>W.heap[w.heap.size]?=H (Q (sA st.kind st.name st.table st.col (D o1 st.cols.length c1) (D o2 st.rows.length c2) (D o3 st.sets.length c3) (D o4 st.frm.length c4) (D o5 st.out.length c5) op xk xn xs s aa n8 (D o6 k6 c6) (D o7 st.order.length c7) st.down st.n) 71))) (by kernel_rfl) ?_ (fun hHeld=>?_)
 ·exact bS
 refine tk 1 ?_;refine cL (i:=0) (v:=aU (sA st.kind st.name st.table st.col (D o1 st.cols.length c1) (D o2 st.rows.length c2) (D o3 st.sets.length c3) (D o4 st.frm.length c4) (D o5 st.out.length c5) op xk xn xs s aa n8 (D o6 k6 c6) (D o7 st.order.length c7) st.down st.n)) rfl (by kernel_rfl) (by kernel_rfl) (by kernel_rfl) (fun _ _ _ h=>h) (Iu rfl 71 _ rfl w.heap.size rfl (sA st.kind st.name st.table st.col (D o1 st.cols.length c1) (D o2 st.rows.length c2) (D o3 st.sets.length c3) (D o4 st.frm.length c4) (D o5 st.out.length c5) op xk xn xs s aa n8 (D o6 k6 c6) (D o7 st.order.length c7) st.down st.n) 71 _ (fun _ h=>h) bJ rfl D5) (by assumption) ?_;refine cL (i:=2) (v:=aU (sA st.kind st.name st.table st.col (D o1 st.cols.length c1) (D o2 st.rows.length c2) (D o3 st.sets.length c3) (D o4 st.frm.length c4) (D o5 st.out.length c5) op xk xn xs s aa n8 (D o6 k6 c6) (D o7 st.order.length c7) st.down st.n)) rfl (by kernel_rfl) (by kernel_rfl) (by kernel_rfl) (fun _ _ _ h=>h) (Iu rfl 71 _ rfl w.heap.size rfl (sA st.kind st.name st.table st.col (D o1 st.cols.length c1) (D o2 st.rows.length c2) (D o3 st.sets.length c3) (D o4 st.frm.length c4) (D o5 st.out.length c5) op xk xn xs s aa n8 (D o6 k6 c6) (D o7 st.order.length c7) st.down st.n) 71 _ (fun _ h=>h) bJ rfl D5) (by assumption) ?_;refine Bh 3 (fun K hK=>?_);go_simp
 (refine(av _ (aC _ _).drew).mono ?_;rintro e w7 ⟨zv,A,rfl,bu,bv,dd⟩;have aw:Below W1.heap.size W1 w7:=Ac (aC _ _).drew dd;have aj:Hid _:=bv)
 go_wp2_with fail;refine hK.out _ _ ?_ (fun hHeld=>?_)
 ·exact(aw.block _ (U bS)).trans bS
 clear hK K;refine Bh 4 (fun K hK=>?_);go_simp
 (refine(bt _ _ _ aw bu aj).mono ?_;rintro e w8 ⟨rfl,A2,al,bw,ax,ae⟩;have af:Below W1.heap.size W1 w8:=aw.trans ae)
 go_wp2_with fail;refine hK.out _ _ ?_ (fun hHeld=>?_)
 ·exact(af.block _ (U bS)).trans bS
 clear hK K;refine tk 5 ?_;refine bL (by kernel_rfl) ?_ _;clear av bt;have ed:=(ag.out A aj.out).1;have ah:A2.length=A.length:=by rw[al.length_eq,aX]
 have de:Hid (A2.Perm (FD.map (G4 st))):=al.trans (aj.out.map _);have bx:∀f∈A2,f.row.length≤8∧∀v∈f.row,good v=Z:=fun f hf=>by
  obtain⟨q,hq,rfl⟩:=cP.1 (al.mem_iff.1 hf);have:=(ag.out A aj.out).2 q hq;exact⟨this.1,this.2.2⟩
 obtain⟨zo,zc,hz,ee⟩:∃zo zc,zv=D zo A.length zc∧A.length≤zc:=by
  have h1:=Dg.isL ax;obtain⟨ef,h2,_⟩:=h1;rcases h2.row.2 with⟨h0,ao,cap,h3,_⟩|⟨_,b,df,cap,h3,_,h4,_⟩
  ·exact⟨ao,cap,by rw[h3,←ah,h0],by omega⟩
  ·exact⟨_,cap,by rw[h3,ah],by omega⟩
 subst hz;obtain⟨m,hm,bz,ca⟩:∃m:Nat,m≤A.length∧Aso st A2=A2.take m∧((st.n<0∧m=A.length)∨(0≤st.n∧st.n≤A.length∧st.n=m)∨(0≤st.n∧(A.length:Int)<st.n∧m=A.length)):=by
  unfold Aso
  by_cases h1:0≤st.n
  ·rw[if_pos h1]
   by_cases h3:st.n≤A.length
   ·exact⟨st.n.toNat,by omega,rfl,by omega⟩
   ·exact⟨A.length,aH _,by rw[←ah,aZ,bM (by omega)],by omega⟩
  ·rw[if_neg h1];exact⟨A.length,aH _,by rw[←ah,aZ],by omega⟩
 have dg:Hid _:=bz;have dh:Hid _:=ax;have di:Hid _:=bw;have dj:Hid _:=bx;have ay:Hid _:=ah;have az:=(af.block _ (U bS)).trans bS;have dk:=Aa az (j:=19) rfl;have cb:Hid _:=az;generalize st.n=N at dk ca;generalize A.length=L at*;clear bz ax bw bx ah bu bv al ag aj az;rcases ca with⟨n1,rfl⟩|⟨n1,n2,rfl⟩|⟨n1,n2,rfl⟩
 focus
  have n3:¬(0≤N):=by omega
  go_upto_region 5 with fail
 rotate_left
 focus
  go_upto_region 5 with fail;rw[show(min (m:Int) (L:Int))=(m:Int)from by omega,dD]
 rotate_left
 focus
  go_upto_region 5 with fail;rw[show(min N (m:Int))=(m:Int)from by omega,dD]
 all_goals
  have cc:Hid (((A2.take m).map fun f=>st.out.map (ev f.row)).length=m):=by
   show _=_;have:=ay.out;rw[aX,aT];omega
  have eg:m≤900:=by omega
  go_wp2_with fail
  go_loopw[6,26] (fun zv i wr=>∃k:Nat,k≤m∧i=Y aW k∧Hid (Dq w8.heap.size zv (((A2.take m).map fun f=>st.out.map (ev f.row)).take k) wr)∧Below w8.heap.size w8 wr) (fun _ i _=>m-(bN i).toNat)
  case atStart=>exact⟨0,aS _,rfl,Cd _ _,aC _ _⟩
  case round=>
   obtain⟨k,hk,rfl,cd,ai⟩:=hrel
   by_cases dl:k<m
   ·obtain⟨f,hx⟩:∃f,A2[k]?=H f:=⟨_,aA (by have:=ay.out;omega)⟩;have ba:=Dg.isL dh.out;rw[←ay.out]at ba;obtain⟨b,df,eh,dm,_,hb,⟨x1,x2,x3,rfl,bb,ce,cf⟩,am⟩:=Av ba hx;cases dm;obtain⟨y1,z1,rfl⟩:=bb.shape;obtain⟨y2,z2,rfl⟩:=ce.shape;obtain⟨y3,z3,rfl⟩:=cf.shape;have d0:=(ai.cell (p:=⟨b,_,M⟩) hb).trans (am 0 _ rfl);have d1:=(ai.cell (p:=⟨b,_,M⟩) hb).trans (am 1 _ rfl);have d2:=(ai.cell (p:=⟨b,_,M⟩) hb).trans (am 2 _ rfl);simp only[Qf,cR]at d0 d1 d2;obtain⟨dn,dp⟩:=dj.out f (aE hx);obtain⟨an,bX,-⟩:=al1 wr (Q #[D y1 f.row.length z1,D y2 f.ids.length z2,D y3 f.ord.length z3] 115);have ae:Below w8.heap.size w8 (wr.alloc (Q #[D y1 f.row.length z1,D y2 f.ids.length z2,D y3 f.ord.length z3] 115)):=ai.trans (an.mono ai.size);have a8:=Aa ((ae.block _ (U cb.out)).trans cb.out) (j:=8) rfl;have b0:=Aa bX (j:=0) rfl;have bc:=F4 (bb.keep (Ae ae));have bd:=IsL.keep db.out (Ae (Ac ad (af.trans (ae.mono af.size))));have dq:Hid (((A2.take m).map fun f=>st.out.map (ev f.row)).take (k+1)=((A2.take m).map fun f=>st.out.map (ev f.row)).take k++[st.out.map (ev f.row)]):=by
     show _=_;rw[aY,cC,List.getElem?_take_of_lt dl,hx];rfl
    obtain⟨cg,ch,cj⟩:=cd.out;have be:(((A2.take m).map fun f=>st.out.map (ev f.row)).take k).length=k:=by rw[aT,cc.out];omega
    have ds:Hid _:=be;have ck:wr.ownsRow w8.heap.size 57 1 u6 k cg:=by have:=ch;rwa[be]at this
    have bf:=Aj ck an;have bg:=bf.lt;have cl:Hid _:=All.keep (Ak an) cj;have v0:(0:Int)≤(k:Int):=by omega
    have v1:(k:Int)<(m:Int):=by omega
    clear hx am ce cf ch cj be ck ba;go_upto_region 8 with fail;generalize wr.alloc (Q #[D y1 f.row.length z1,D y2 f.ids.length z2,D y3 f.ord.length z3] 115)=wb at an bX ae a8 b0 bc bd bf bg cl⊢;generalize wr.heap.size=gX at bX b0⊢;have bh:=ae.size;have dt:=Tx st.out (D o5 st.out.length c5) (D y1 f.row.length z1) f.row wb.heap.size wb (bd.mono (fun k hk _=>hk)) (aH _) dc.out ct bc (fun v hv=>Iw (dp v hv)) (aB dn (by decide));clear bc bd bb;go_wp2_with(first
     |(go_fit dt;rintro e w2 ⟨vv,rfl,cm,du⟩;obtain⟨ab,ac,rfl⟩:=Eu.shape (Eu.of_own cm);have ap:Below wb.heap.size wb (w2.alloc (Q [D ab st.out.length ac].toArray 57)):=Ac du (Aq _ _);have cn:w8.heap.size≤(w2.alloc (Q [D ab st.out.length ac].toArray 57)).heap.size:=aB bh ap.size)
     |(at_builtin;go_must(refine bZ _ rfl _ _ 30 rfl w8.heap.size 57 i0 (D M 0 0) 1 24 cY cu cv cx cy rfl (by decide) _ _ _ rfl (Aj bf ap) ⟨w2.heap.size,0,M⟩ 1 1 [.slice ab st.out.length ac] rfl rfl (B8 w2 [.slice ab st.out.length ac] 57) ?h1 (by simp only[cQ];omega) (by omega) cn ?h2)))
    case h1=>simp only[cT];repeat(first|exact fun _ h=>absurd h dB|refine⟨rfl,?_⟩)
    case h2=>
     intro z2 w4 dv co _ dw;have dx:z2.ownBlock=u6.ownBlock∨z2.ownBlock=H (w2.alloc (Q [D ab st.out.length ac].toArray 57)).heap.size:=by rw[cW];exact dw
     have dy:w2.ownsRow wb.heap.size 59 3 (D ab st.out.length ac) (st.out.map (ev f.row)).length (Ax (st.out.map (ev f.row))):=by rw[aX];exact cm
     have dz:IsL Lw (FO w8.heap.size u6) (w2.alloc (Q [D ab st.out.length ac].toArray 57)) (D ab st.out.length ac) (st.out.map (ev f.row)):=
      (Nc dy fun k hk=>⟨aB bh hk,fun e=>by have:=(bg k e.symm).2;omega⟩).keep (Ak (Aq _ _))
     have ea:w4.ownsRow w8.heap.size 57 1 z2 ((((A2.take m).map fun f=>st.out.map (ev f.row)).take k).length+1) (cg++[D ab st.out.length ac]):=by rw[ds.out];exact dv
     have eb:Below w8.heap.size w8 w4:=(ae.trans (ap.mono bh)).grown co cn fun k hk=>(bg k hk).1
     go_wp2_with fail;go_roundw
     case rel=>exact⟨k+1,by omega,by go_num,by show Dq _ _ _ _;rw[dq.out];exact L7 ea (All.keep (Ak ap) cl.out) dz co dx,eb⟩
     case measure=>simp[bN];omega
   ·have ec:k=m:=by omega
    subst ec;have v1:¬((k:Int)<(k:Int)):=by omega
    have cp:=cd.out;rw[bM (Nat.le_of_eq cc.out),←dg.out]at cp;go_wp2;go_ret;exact⟨A2,de.out,di.out.imp (fun h=>by omega),_,rfl,cp.base (Ac ad af).size,Ac ad (af.trans (ai.mono af.size))⟩
theorem Ah1:∀{a b:List V},Ex a b=0→a=b
 |[],[],_=>rfl
 |[],_::_,h=>by simp[Ex]at h
 |_::_,[],h=>by simp[Ex]at h
 |x::a,y::b,h=>by
  unfold Ex at h
  by_cases h0:Bs x y=0
  ·rw[if_pos h0]at h;have e:x=y:=Ame (by omega) (fun h1=>by have:=(A37.anti y x).1 h1;omega);rw[e,Ah1 h]
  omega
theorem Aze {d}(ok:DbOk d){t}(ht:t∈d.c.tables){f g}{r q}(hr:r∈d.R t.name)(hq:q∈d.R t.name)(hl:f.ids.length=g.ids.length)(h:(Ed f r).ids=(Ed g q).ids):f.ids=g.ids∧r=q:=by
 obtain⟨h1,h2⟩:=List.append_inj h hl;refine⟨h1,Yv ok ht hr hq ?_⟩;have e1:=He ok.cat ht;have l1:=(B6 (ok.fit t ht r hr)).1;have l2:=(B6 (ok.fit t ht q hq)).1
 match r,q,h2 with
 |[],_,_=>grind
 |_::_,[],_=>grind
 |x::_,y::_,h2=>
  simp at h2;rw[rk,rk,dF,dF,h2]
theorem Ami {d:Db}(ok:DbOk d):∀(ts:List TabD) (a:Nat) (f g x y:Fnd),(∀t∈ts,t∈d.c.tables)→f.ids.length=g.ids.length→x∈Ch (Hc d) a [f] ts→y∈Ch (Hc d) a [g] ts→x.ids=y.ids→f.ids=g.ids∧(f.row=g.row→x.row=y.row)
 |[],_,f,g,x,y,_,_,hx,hy,he=>by
  rw[Ch,aP]at hx hy;subst hx hy;exact⟨he,fun h=>h⟩
 |t::ts,a,f,g,x,y,ht,hl,hx,hy,he=>by
  have aa:=ht t bG;obtain⟨f1,ad,ae⟩:=(H8 ts).1 hx;obtain⟨g1,af,ag⟩:=(H8 ts).1 hy;obtain⟨f2,ab,r,hr,rfl⟩:=A4i.1 ad;obtain⟨g2,ac,q,hq,rfl⟩:=A4i.1 af;rw[aP]at ab ac;subst ab ac;have e1:=He ok.cat aa;have l1:=(B6 (ok.fit t aa r hr)).1;have l2:=(B6 (ok.fit t aa q hq)).1;obtain⟨i1,i2⟩:=Ami ok ts (a+t.cols.length) _ _ x y (fun t h=>ht t (bB _ h)) (by simp only[Ed,aJ,aT];omega) ae ag he;obtain⟨j1,j2⟩:=Aze ok aa hr hq hl i1;exact⟨j1,fun h=>i2 (by rw[Ed,Ed,h,j2])⟩
theorem A1u {d}(ok:DbOk d)(st)(ts)(ht:∀t∈ts,t∈d.c.tables){A B:List Fnd}
  (ha:A.Perm (((Ch (Hc d) 0 [⟨[],[],[]⟩] ts).filter fun f=>At st.wher f.row).map (G4 st))) (hb:B.Perm (((Ch (Hc d) 0 [⟨[],[],[]⟩] ts).filter fun f=>At st.wher f.row).map (G4 st))) (sa:A.Pairwise fun a b=>¬Ks (Hg st) b a<0) (sb:B.Pairwise fun a b=>¬Ks (Hg st) b a<0):A=B:=by
 have hc:Cmp (Ks (Hg st)):=Ab9 (by unfold Hg;simp);have ac:=fun t h r hr=>(B6 (ok.fit t (ht t h) r hr)).1
 have hn:=Ra (A:=Hc d) ts 0 [⟨[],[],[]⟩] (fun t h' a=>⟨(ok.rise t (ht t h')).imp (fun{a b} aa he=>by rw[he]at aa;exact absurd aa (by simp[Gs])),fun r hr=>ac t h' r hr⟩) (fun f hf=>by grind) (List.pairwise_singleton _ _);have hp:((Ch (Hc d) 0 [⟨[],[],[]⟩] ts).filter fun f=>At st.wher f.row).map (G4 st) |>.Pairwise fun a b=>a.ids≠b.ids:=by
  rw[List.pairwise_map];refine(hn.sublist List.filter_sublist).imp_of_mem fun{x y} hx hy ad he=>ad ?_
  exact(Ami ok ts 0 ⟨[],[],[]⟩ ⟨[],[],[]⟩ x y ht rfl (cG.1 hx).1 (cG.1 hy).1 he).2 rfl
 have ab:∀{L:List Fnd},L.Perm _→(L.Pairwise fun a b=>¬Ks (Hg st) b a<0)→L.Pairwise _:=fun{L} hL hs=>by
  have h1:=hL.symm.pairwise hp fun h e=>h e.symm
  refine(hs.and h1).imp fun{a b} h=>?_
  obtain⟨h2,h3⟩:=h;have h4:=hc.anti b a;have h5:=hc.anti a b;rcases Int.lt_trichotomy (Ks (Hg st) a b) 0 with h6|h6|h6
  ·omega
  ·exfalso;apply h3;apply Ah1;unfold Ks Akj at h6;grind
  omega
 exact Yu (r:=fun a b=>Ks _ a b<0) (fun a b h1 h2=>by have:=(hc.anti a b).1 h1;omega) (ab ha sa) (ab hb sb) fun x=>by grind
theorem Ao0 (N m)(w):aV aF 32 #[Y aW N,Y aW m] w fun e w'=>e=aI (aU #[Y aW m,Y aW N,D M 0 0])∧Below w.heap.size w w':=by
 go_enter Tryz.func32,Tryz.ntmps32;go_wp2_with fail;exact bQ (v:=aU #[Y aW m,Y aW N,D M 0 0]) (bD Tryz.results32 _ _ w.heap.size 32 #[Y aW m,Y aW N,D M 0 0] _ _ rfl (Ab _ _) Tryz.underlying32 rfl (by kernel_rfl)) rfl ⟨rfl,Aq _ _⟩
theorem Oq {ct}{st b}(h:Cn ct st=.ok b)(hk:st.kind=4∨st.kind=5∨st.kind=6):∃t,Bu ct.tables st.table=H t∧Is t.cols st.rows=.ok b.rows∧Cr t [] st.sets=.ok b.sets∧whR [t] st.wher=.ok b.wher:=by
 obtain⟨_,_,h⟩:=Fa h;unfold Ep at h;rw[if_neg (by omega),if_neg (by omega),if_neg (by omega),if_pos hk]at h;unfold Gk at h;grind
theorem Amj {ct}{st b}(h:Cn ct st=.ok b)(hk:st.kind=7):∃S,G2 ct.tables st.frm=.ok S∧Lx S st.out=.ok b.out∧I8 S st.order=.ok b.order∧whR S st.wher=.ok b.wher∧b.frm=st.frm∧b.down=st.down∧b.n=st.n:=by
 obtain⟨_,_,h⟩:=Fa h;unfold Ep at h;rw[if_neg (by omega),if_neg (by omega),if_neg (by omega),if_neg (by omega),if_pos hk]at h;unfold Fc at h;grind
theorem Amk {T}:∀(l seen:List Wd) (S:List TabD),Eo (It T) seen l=.ok S→S.length=l.length∧∀(k:Nat) (nm:Wd) (t:TabD),l[k]?=H nm→S[k]?=H t→Bu T nm=H t
 |[],_,S,h=>by
  have e:=aK h;grind
 |p::l,seen,S,h=>by
  unfold Eo at h;cases hf:It T seen p with
  |error m=>grind
  |ok q=>
   rw[hf]at h;simp only at h;cases hw:Eo (It T) (seen++[p]) l with
   |error m=>grind
   |ok qs=>
    rw[hw]at h;have e:=aK h;subst e;obtain⟨i1,i2⟩:=Amk l _ qs hw;refine⟨by grind,fun k nm t h1 h2=>?_⟩;cases k with
    |zero=>
     obtain rfl:=bW h1;obtain rfl:=bW h2;unfold It at hf;grind
    |succ k=>grind
theorem Av3 {T}{l}{S}(h:G2 T l=.ok S):S.length=l.length∧1≤S.length∧S.length≤2∧∀(k:Nat) (nm:Wd) (t:TabD),l[k]?=H nm→S[k]?=H t→Bu T nm=H t:=by
 unfold G2 at h;split at h
 ·grind
 ·obtain⟨h1,h2⟩:=Amk l [] S h;grind
theorem Av4 {S}{row}(hr:Ajq (F7 S) row){ty}{d}{e e'}(h:asR S ty e=.ok e')(hg:geB d e=Z):Pe ty (ev row e')∧e'.nodes=e.nodes∧(Ef e→Ef e'):=by
 unfold asR at h;cases hb:Cu S e with
 |error m=>grind
 |ok r=>
  rw[hb]at h;simp only at h;split at h
  ·rename_i aa;obtain rfl:=aK h;have h1:=Aem hr hb hg;obtain⟨h2,h3⟩:=Mb S e r hb;refine⟨⟨?_,h1.2⟩,h2,h3⟩;simp only[Jo,dG,decide_eq_true_eq]at aa;rcases h1.1 with h|h
   ·omega
   omega
  grind
theorem Y5 {S}{ty}{e e'}(h:asR S ty e=.ok e'):e'.nodes=e.nodes∧(Ef e→Ef e'):=by
 unfold asR at h;cases hb:Cu S e with
 |error m=>grind
 |ok r=>
  rw[hb]at h;simp only at h;split at h
  ·obtain rfl:=aK h;exact Mb S e r hb
  grind
theorem Y6 {S}{e e'}(h:whR S e=.ok e'):e'.nodes=e.nodes∧(Ef e→Ef e'):=by
 unfold whR at h;split at h
 ·grind
 ·exact Y5 h
theorem Y7 {S}(ht:(F7 S).length≤1000){e e'}(h:whR S e=.ok e')(hg:e.opn≠0→geB 40 e=Z):(Dd e→Dd e')∧(geB 40 e'=Z→Mt 40 e'):=by
 unfold whR at h;split at h
 ·rename_i h0;obtain rfl:=aK h;exact⟨id,fun h=>by rw[Aca h0]at h;grind⟩
 ·rename_i h0;unfold asR at h;cases hb:Cu S e with
  |error j=>grind
  |ok r=>
   rw[hb]at h;simp only at h;split at h
   ·obtain rfl:=aK h;obtain⟨h1,h2⟩:=Aa2 S ht e r hb;grind
   grind
theorem Sl {α β}{f}:∀{l:List α}{rs:List β},Gj f l=.ok rs→rs.length=l.length∧∀(i:Nat) (a:α) (b:β),l[i]?=H a→rs[i]?=H b→f a=.ok b
 |[],rs,h=>by
  have e:=aK h;grind
 |x::l,rs,h=>by
  unfold Gj at h;cases hf:f x with
  |error m=>grind
  |ok y=>
   rw[hf]at h;simp only at h;cases hw:Gj f l with
   |error m=>grind
   |ok ys=>
    rw[hw]at h;have e:=aK h;subst e;obtain⟨i1,i2⟩:=Sl hw;grind
theorem Av5 {t:TabD}(ab:∀c∈t.cols,c.ty≠3){row r:List E}(h:La t.cols row=.ok r)(hg:∀e∈row,geB 40 e=Z):Jg t (r.map (ev [])):=by
 unfold La at h;split at h
 ·rename_i hl;obtain⟨h1,h2⟩:=Sl h;have aa:r.length=t.cols.length:=by rw[h1,dE];omega
  refine⟨by rw[aX,aa],fun i c v hc hv=>?_⟩;rw[cC]at hv;obtain⟨b,hb,rfl⟩:=Option.map_eq_some_iff.1 hv;have hi:i<row.length:=by have:=(bI.1 hc).1;omega
  have hz:(t.cols.zip row)[i]?=H (c,row[i]):=by rw[cK];exact⟨hc,aA hi⟩
  have h4:asR [] c.ty row[i]=.ok b:=h2 i _ b hz hb;obtain⟨⟨h5,h6⟩,_⟩:=Av4 (S:=[]) (row:=[]) ⟨rfl,fun i c v h=>by simp[F7]at h⟩ h4 (hg _ (aL hi));grind
 grind
theorem Ace {l}(h:Jd l=aQ):∀e∈l,geB 40 e=Z:=fun e he=>by
 unfold Jd at h;rw[cZ]at h;have:=h e he;simpa[K9]using this
theorem Wf {st}(h:Kb st=Z):(∀row∈st.rows,∀e∈row,geB 40 e=Z)∧(∀p∈st.sets,geB 40 p.2=Z)∧(∀e∈st.out,geB 40 e=Z)∧(∀e∈st.order,geB 40 e=Z)∧(st.wher.opn≠0→geB 40 st.wher=Z):=by
 simp only[Kb,Bool.and_eq_true,Bool.not_eq_true',dG,decide_eq_true_eq]at h;obtain⟨⟨⟨⟨h1,h2⟩,h3⟩,h4⟩,h5⟩:=h;rw[cZ]at h1 h2;refine⟨fun row hr=>Ace (by grind),fun p hp=>?_,Ace h3,Ace h4,fun h0=>?_⟩
 ·have:=h2 p hp;simpa[K9]using this
 ·rcases h5 with h|h
  ·omega
  ·simpa[K9]using h
theorem Asp {t}(ab:∀c∈t.cols,c.ty≠3){rows rs}(h:Is t.cols rows=.ok rs)(hg:∀row∈rows,∀e∈row,geB 40 e=Z):∀r∈rs,Jg t (r.map (ev [])):=fun r hr=>by
 obtain⟨h1,h2⟩:=Sl h;obtain⟨i,hi,rfl⟩:=aG hr;have aa:i<rows.length:=by omega
 exact Av5 ab (h2 i _ _ (aA aa) (aA hi)) (hg _ (aL aa))
theorem Av6 {cols}{row r}(h:La cols row=.ok r):r.length=cols.length∧∀e'∈r,∃e∈row,e'.nodes=e.nodes∧(Ef e→Ef e'):=by
 unfold La at h;split at h
 ·rename_i hl;obtain⟨h1,h2⟩:=Sl h;have ab:r.length=cols.length:=by rw[h1,dE];omega
  refine⟨ab,fun e' he=>?_⟩;obtain⟨i,hi,rfl⟩:=aG he;have ac:i<cols.length:=by omega
  have aa:i<row.length:=by omega
  have hz:(cols.zip row)[i]?=H (cols[i],row[i]):=by rw[cK];exact⟨aA ac,aA aa⟩
  have h3:asR [] (cols[i]).ty row[i]=.ok _:=h2 i _ _ hz (aA hi);exact⟨_,aL aa,Y5 h3⟩
 grind
theorem Aep {cols}{rows rs}(h:Is cols rows=.ok rs):rs.length=rows.length∧∀r∈rs,r.length=cols.length∧∃row∈rows,∀e'∈r,∃e∈row,e'.nodes=e.nodes∧(Ef e→Ef e'):=by
 obtain⟨h1,h2⟩:=Sl h;refine⟨h1,fun r hr=>?_⟩;obtain⟨i,hi,rfl⟩:=aG hr;have aa:i<rows.length:=by omega
 obtain⟨h3,h4⟩:=Av6 (h2 i _ _ (aA aa) (aA hi));exact⟨h3,_,aL aa,h4⟩
theorem Aa6 {S}:∀{l:List E}{rs:List (E×Int)},Bd S l=.ok rs→rs.length=l.length∧∀r∈rs,∃e∈l,Cu S e=.ok r
 |[],rs,h=>by
  rw[Bd]at h;grind
 |x::l,rs,h=>by
  rw[Bd]at h;cases hf:Cu S x with
  |error m=>grind
  |ok y=>
   rw[hf]at h;simp only at h;cases hw:Bd S l with
   |error m=>grind
   |ok ys=>
    rw[hw]at h;have e:=aK h;subst e;obtain⟨i1,i2⟩:=Aa6 hw;grind
theorem Ah2 {S}{l l'}(h:I8 S l=.ok l'):l'.length=l.length∧∀e'∈l',∃e∈l,e'.nodes=e.nodes∧(Ef e→Ef e'):=by
 unfold I8 at h;cases hb:Bd S l with
 |error m=>grind
 |ok rs=>
  rw[hb]at h;have e:=aK h;subst e;obtain⟨h1,h2⟩:=Aa6 hb;refine⟨by grind,fun e' he=>?_⟩;obtain⟨r,hr,rfl⟩:=cP.1 he;obtain⟨e,aa,h3⟩:=h2 r hr;exact⟨e,aa,Mb S e r h3⟩
theorem Azf:(Tryz.prog.info? 59).map (fun i=>(i.zero,i.size,i.bytes))=H (H (aU #[Y aW 0,Y aW 0,O ⟨#[]⟩]),3,32):=by kernel_rfl
theorem Aml (cs)(n)(sv)(F)(w)(h:Bp F 3 w sv n cs)(h1:∀u∈cs,u.oneCell'=Z)(hn:n*32≤140737488355328):
  aV aF 123 #[sv] w fun e w'=>∃v,e=aI v∧w'.ownsRow w.heap.size 59 3 v n cs∧Below w.heap.size w w':=by
 obtain⟨i0,aa,ac,ae,af⟩:=info_parts Azf;have ap:∀(w) (a) (n c n' c'),(binOp _ 57 (D a n c) _).run _ w=.ok _ w:=fun w a n c n' c'=>Lib.run_eql_slice_nil w _ _ a n c n' c' cX
 have ag:=h.1;have fin:∀ao c,sv=D ao n c→(ao=M→n=0)→(∀ad,ao=H ad→∀j u,cs[j]?=H u→w.cell? (ad.add j)=H u∧ad.block<w.heap.size)→(ao=M→c=0)→
   aV aF 123 #[sv] w fun e w'=>∃v,e=aI v∧w'.ownsRow w.heap.size 59 3 v n cs∧Below w.heap.size w w':=by
  intro ao c he h0 hc ah;subst he;cases ao with
  |none=>
   obtain rfl:=h0 rfl;obtain rfl:=ah rfl;have:=bC (by omega);subst this;go_enter Tryz.func123,Tryz.ntmps123;go_wp2;go_ret;exact⟨_,rfl,World.ownsRow_nil _ _ _ _,aC _ _⟩
  |some ad=>
   have ai:(w.alloc _).ownsRow _ 59 3 _ 0 []:=World.ownsRow_made w #[] 0 (aH _) (aS _) (by simp);have HC:Hid (∀j u,cs[j]?=H u→(w.alloc (Q #[] 59)).cell? (ad.add j)=H u):=fun j u hj=>by
    obtain⟨aj,aq⟩:=hc ad rfl j u hj;obtain⟨ab,ao,ak⟩:=ad;exact((Aq w _).cell (by unfold Addr.add;grind)).trans aj
   have HB:Hid _:=hn;clear hn hc;obtain⟨ab,ao,ak⟩:=ad;go_enter Tryz.func123,Tryz.ntmps123;go_wp2_with(at_builtin;refine bZ _ rfl _ _ 57 rfl _ 59 i0 _ 3 32 cX aa ac ae af rfl (by simp) _ _ _ rfl ai _ n c cs rfl ag HC.out h1 (by have:=HB.out;simp only[cQ];omega) (by have:=HB.out;omega) (by simp) ?_);intro v' w1 al am _ _;go_wp2;go_ret;exact⟨v',rfl,al,((aC _ w).alloc (aH _) _).grown am (by simp) (by intro k hk;simp[Value.ownBlock]at hk;omega)⟩
 rcases h.2 with⟨h0,ao,c,he,hnil⟩|⟨h0,b,off,cap,he,_,hb,_,_,hc⟩
 ·subst h0;have an:=bC (by omega);subst an;exact fin ao c he (fun _=>rfl) (fun ad _ j u hj=>by grind) hnil
 ·exact fin _ cap he (fun h=>by grind) (fun ad h j u hj=>by cases h;rw[Addr.add_lit];grind) (fun h=>by grind)
end
end Go.Proofs.YtjapkoofjlmdgaaGreatDoor

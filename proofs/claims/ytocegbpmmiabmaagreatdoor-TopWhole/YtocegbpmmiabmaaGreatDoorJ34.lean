/-
  5 texts of this proof in one,in build order:UWhole,OpenVals,Bulk,OpenL,UFrame.
-/
import Derived.Test.YtocegbpmmiabmaaGreatDoorRows
import Derived.ProofKit
import Derived.Deep.Slices
import Derived.Deep.SlicePairs
import Derived.Deep.Strs
import Derived.SizedLaws
import Derived.ChangeSame
import Derived.WalkKit
import Derived.WalkSpells
import Derived.WalkLawsBesides
import Derived.Deep.RegionHeld3
import Derived.OpenShut
import Derived.Lib.SmallJoins
import Derived.Deep.DeepHandedRow
import Derived.Lib.LaidTab
import Derived.LaidMore
import Derived.LaidLaws
import Derived.Clock
import Derived.Test.YtocegbpmmiabmaaGreatDoorJ01
import Derived.Test.YtocegbpmmiabmaaGreatDoorJ02
import Derived.Test.YtocegbpmmiabmaaGreatDoorJ03
import Derived.Test.YtocegbpmmiabmaaGreatDoorJ32
import Derived.Test.YtocegbpmmiabmaaGreatDoorJ33
set_option linter.unusedSimpArgs false
set_option linter.unusedVariables false
set_option maxRecDepth 100000
set_option maxHeartbeats 0
open List renaming flatMap_append→aA,getElem?_eq_some_iff→aD,map_append→aG,range→O,range_succ→z
open Go.Proofs.Tryz renaming prog→P
open Go.Value renaming int→X,pointer→y,slice→J,string→aH
open Go renaming DataW→M,MemPlace→aF,TypeId→Z,Value→G,World→U,lt_of_block→o
open Option renaming none→I,some→A
open List.cons renaming injEq→aB
open Go.Obj renaming cells→S
open Go.DataW renaming trod→aC
open Nat renaming lt_or_eq_of_le→aE
open Go.IntKind renaming i64→Y
open Bool renaming false→q
namespace Go.Proofs.YtocegbpmmiabmaaGreatDoor
section
open Go.RowKit
theorem A66 {d}{a b:Int}{t}(ha:a<150)(hb:b<150):(doR d a t).1=(doR d b t).1∧(doR d a t).2.1=(doR d b t).2.1:=by
 unfold doR;grind
def A56 (m v:Nat)(n:Nat)(d:Db)(a:Int)(w:U):Prop:=∃b,0≤b∧b≤a∧Dt [n,m] w m d b q∧w.heap[v]?=A (S #[y (A ⟨m,0,I⟩)] 23)
theorem A6r {m v n B:Nat}{d}{a:Int}{t}{w0 W W6:U}{vo}{vc}(an:Env w0)(hm:w0.heap.size≤m)(bp:m<v)(bq:v<B)(bt:v<n)(ha:0≤a)(ap:a<150)(hI:A56 m v n d a W)(ae:But n W W6)(hB:Below w0.heap.size w0 W6)(hE:Br [n,m] W6)(he:Dt [n,m] W6 n (doR d a t).2.1 (doR d a t).2.2 q)(aq:DbOk d)(bu:DbOk (doR d a t).2.1):
  Calls P 9 #[y (A ⟨n,0,I⟩),.agg #[aH t],.agg #[X Y (doR d a t).1.code,X Y (doR d a t).1.n,J vo (doR d a t).1.rows.length vc],y (A ⟨v,0,I⟩)] W6 fun e W7=>A6o [m] n (A56 m v) B (doR d a t) w0 W6 W7 e:=by
 obtain⟨b,bc,bv,bd,hv⟩:=hI;have h8:8≤w0.heap.size:=an.low;have be:m≠n:=by omega
 have bf:=o hv;have bg:=(ae.block v bf (by omega)).trans hv;have ar:=bd.but ae (by simp) be;have bh:=@A66 d a b t ap (by omega);have bi:=@A54 d a t ap;have ai:=@A54 d b t (by omega);have au:=@A6q d a t;have bw:=A64 d a t;obtain⟨ab,bT,bR,-⟩:=al2 W6 (S #[aH t] 28) (S #[X Y (doR d a t).1.code,X Y (doR d a t).1.n,J vo (doR d a t).1.rows.length vc] 32);have ad:=(ab.block v (by have:=ae.size;omega)).trans bg;have HD:=U6 (hE.below ab) (show m∈[n,m] by simp) q (ar.below ab) aq bc (an.next (Ac hB ab)) (by omega) t;have af:=he.below ab;have ag:=ar.below ab;have aj:=hE.below ab;have ah:=Ac hB ab;have bx:=ae.size;have bj:=ab.size;generalize hW:(W6.alloc (S #[aH t] 28)).alloc (S #[X Y (doR d a t).1.code,X Y (doR d a t).1.n,J vo (doR d a t).1.rows.length vc] 32)=W8 at ab bT bR ad HD af ag aj ah bj;have HW:Hid _:=hW;generalize doQ d b t q=qb at HD;obtain⟨e1,e2⟩:=bh;generalize doR d b t=pb at e1 e2 HD ai;obtain⟨rb,db,bb⟩:=pb;simp only at e1 e2 ai;subst e1 e2 ai;generalize doR d a t=p at*;obtain⟨⟨C,N,rows⟩,d2,a2⟩:=p;simp only at*;subst bi;have bk:Hid _:=au;have c0:=Aa ad (j:=0) rfl;have r0:=Aa bR (j:=0) rfl;have r2:=Aa bR (j:=2) rfl;have t0:=Aa bT (j:=0) rfl;clear au hW;go_enter Tryz.func9,Tryz.ntmps9;go_upto_region 1 with fail;rw[HW.out];have av:=o bR;have aw:=o ad;have bz:=ag.lt
 by_cases hC:C=0
 ·subst hC;go_wp2_with(first
   |(go_fit HD;rintro e w9 ⟨⟨rv,rfl,ca⟩,ak,ax,ac⟩;have ay:=af.but ac (show m∈[n,m] by simp) (show n≠m by omega);have bl:=ah.trans (ac.below (by omega) ah.size);have v9:=(ac.block v aw (by omega)).trans ad;have c9:=Aa v9 (j:=0) rfl;have R9:=(ac.block _ av (by omega)).trans bR;have r9:=Aa R9 (j:=0) rfl;have al:=Agp ay ak ax)
   |(go_fit al;rintro e bm ⟨rfl,aa⟩;have bn:=Aa ((aa.block _ (o R9)).trans R9) (j:=0) rfl))
  go_ret;have bo:Br [n,m] w9:=by
   obtain⟨T,cb,tc,io,ic,po,pc,h1,_⟩:=ak;exact Br.put aj ac (by simp) h1 ax.cat
  have cc:=ac.size;exact⟨rfl,⟨b+1,by omega,by show b+1≤a+1;omega,ak.weak.below aa,(aa.block v (o v9)).trans v9⟩,bo.below aa,ay.below aa,Ac bl aa,fun g hg az am=>(aa.block g (by omega)).trans ((ac.block g (by omega) (fun h=>az (by simp[h]))).trans (ab.block g am))⟩
 ·obtain⟨rfl,rfl⟩:=bk.out hC;have cd:(C==0)=q:=by simpa using hC
  have al:=Agp af ag aq;go_wp2_with(go_fit al;rintro e bm ⟨rfl,aa⟩;have ba:=(aa.block _ av).trans bR;have bn:=Aa ba (j:=0) rfl;have ce:=Aa ba (j:=2) rfl);go_ret;exact⟨rfl,⟨b,by omega,by show b≤a+1;omega,ag.below aa,(aa.block v aw).trans ad⟩,aj.below aa,af.below aa,Ac ah aa,fun g hg az am=>(aa.block g (by omega)).trans (ab.block g am)⟩
theorem A6f (L:List Wd)(lo:Option Addr)(lc:Nat)(w:U)(aa:Env w)(hl:An w (J lo L.length lc) L)(ai:L.length≤9223372036854775807):
  Calls P 3 #[J lo L.length lc] w fun e w'=>e=.returned (.bool true)∧Below w.heap.size w w':=by
 have aj:Br [] w:=fun n hn=>by cases hn
 have HN:=Ari w;obtain⟨ab,ac⟩:=Arj aj;have af:=Aq w (S #[J I 0 0,J I 0 0,J I 0 0,X Y 0] 67);have ag:w.heap.size<(w.alloc (S #[J I 0 0,J I 0 0,J I 0 0,X Y 0] 67)).heap.size:=by simp
 generalize w.alloc (S #[J I 0 0,J I 0 0,J I 0 0,X Y 0] 67)=W1 at HN ab ac af ag;obtain⟨ad,bV,-⟩:=al1 W1 (S #[y (A ⟨w.heap.size,0,I⟩)] 23);have ak:=Ac af ad;have ae:=o bV;have ah:=ac.weak.below ad;have al:=A6u (E:=[w.heap.size]) 9 #[y (A ⟨W1.heap.size,0,I⟩)] (enters_of Tryz.func9 (by decide) rfl) (A56 w.heap.size W1.heap.size) L lo lc w _ ak aa (ab.below ad) hl ai
  (fun n W hn hb hE he=>⟨0,Int.le_refl _,Int.le_refl _,(ah.more hn).below hb,(hb.block _ ae).trans bV⟩)
  (fun n d a t W W6 vo vc hn ha am an hI ap hB hE he aq=>A6r aa (Nat.le_refl _) ag ae (Nat.lt_of_lt_of_le ae hn) ha am hI ap hB hE he an aq)
 clear hl aa ah ac ab;go_enter Tryz.func3,Tryz.ntmps3;go_wp2_with(first
  |(go_fit HN;rintro e w2 ⟨rfl,rfl⟩)
  |(go_fit al;rintro e w3 ⟨n,d,a,rfl,_,ar⟩))
 go_ret;exact⟨rfl,ar⟩
end
section
open Go.RowKit Go.Deep
section
variable {H:Type}{enc:Z×G→H}{w:U}{base:Nat}{spare:Nat→Bool}{held:Bool}
end
end
section
theorem A04 {H}(d:M H):1≤Rows.uptoBulk d:=by
 cases d with
 |lit l=>cases l<;>simp[Rows.uptoBulk]
 |nil=>simp[Rows.uptoBulk]
 |ptr d=>simp[Rows.uptoBulk]
 |slice elems spare=>simp[Rows.uptoBulk]
 |agg parts=>simp[Rows.uptoBulk]
 |iface t d=>simp[Rows.uptoBulk]
 |map entries=>simp[Rows.uptoBulk]
 |held h=>simp[Rows.uptoBulk]
theorem Ap8 {H}(l:List (M H)):l.length≤Rows.uptoBulkAll l:=by
 induction l with
 |nil=>simp
 |cons x r ih=>have:=A04 x;simp only[Rows.uptoBulkAll,List.length_cons];omega
end
section
open Go.RowKit Go.Deep Go.ChangeShapes
section
variable {H:Type}{enc:Z×G→H}{w:U}{base:Nat}{spare:Nat→Bool}{held:Bool}
theorem A05 (a b:List (M H)):Rows.uptoBulkAll (a++b)=Rows.uptoBulkAll a+Rows.uptoBulkAll b:=by
 induction a with
 |nil=>simp[Rows.uptoBulkAll]
 |cons x r ih=>simp only[List.cons_append,Rows.uptoBulkAll,ih];omega
theorem Arm {D:Nat→M H}:∀(n i:Nat),i<n→Rows.uptoBulk (D i)≤Rows.uptoBulkAll ((O n).map D)
 |n+1,i,h=>by
  rw[z,aG,A05];rcases aE (Nat.lt_succ_iff.1 h)with h1|h1
  ·have:=Arm (D:=D) n i h1;omega
  ·subst h1;simp[Rows.uptoBulkAll]
theorem Ai0 {α:Type}{K:Elem α}{F:Nat→Prop}{f:Nat→α}{g:Nat→List G}:∀n:Nat,(∀i,i<n→K.R F w (f i) (g i))→All K F w ((O n).map f) ((O n).flatMap g)
 |0,_=>rfl
 |n+1,h=>by
  rw[z,aG,aA];refine All.append (Ai0 n fun i hi=>h i (by omega)) ?_;have:=All.one (h n (by omega));grind
theorem Xb {g:Nat→List G}{s}:∀(n:Nat),(∀i,i<n→(g i).length=s)→((O n).flatMap g).length=n*s
 |0,_=>by simp
 |n+1,h=>by
  rw[z,aA,List.length_append,Xb n fun i hi=>h i (by omega)];grind
theorem Ant {g:Nat→List G}{s:Nat}:∀(n i:Nat),(∀i,i<n→(g i).length=s)→i<n→∀j,j<s→((O n).flatMap g)[i*s+j]?=(g i)[j]?
 |n+1,i,h,hi,j,hj=>by
  have hl:=Xb (g:=g) n fun i hi=>h i (by omega)
  rw[z,aA];rcases aE (Nat.lt_succ_iff.1 hi)with h1|h1
  ·rw[List.getElem?_append_left (by rw[hl];have:=Nat.mul_le_mul_right s (show i+1≤n from h1);grind)];exact Ant n i (fun i hi=>h i (by omega)) h1 j hj
  simp_all
theorem Ai1 {α:Type}(d0:α)(K:Elem α)(t et:Z)(hu:Tryz.prog.underlying t=A (.slice et))(hc:Tryz.prog.cellsOf et=K.size)(hK:0<K.size)(B:Nat)(Q:α→Prop)
  (ah:∀(ab:Nat) (cs:List G) (x:M H×List aF),Rows.uptoBulk x.1≤B→aC enc P w base spare held ab et cs=A x→∃a,K.R (fun k=>k<w.heap.size) w a cs∧Q a)
  {ab:Nat}{sv:G}{x:M H×List aF}(hB:Rows.uptoBulk x.1≤B) (h:aC enc P w base spare held ab t [sv]=A x):
  ∃l:List α,IsL K (fun k=>k<w.heap.size) w sv l∧(∀a∈l,Q a)∧l.length≤Rows.uptoBulk x.1:=by
 rcases open_slice hu h with⟨hcs,rfl⟩|⟨ad,len,cap,m,n5,D,Pl,hcs,hb,hlc,hm,hmm,rfl,hxx⟩
 ·simp only[aB,and_true]at hcs;subst hcs;exact⟨[],IsL.nil K _ w,by simp,Nat.zero_le _⟩
 ·simp only[aB,and_true]at hcs;subst hcs;have ap:len≤m:=by rw[hmm];split<;>omega
  have ai:Rows.uptoBulkAll ((O len).map D)≤B:=by simp only[Rows.uptoBulk]at hB;omega
  have aq:len≤Rows.uptoBulkAll ((O len).map D):=by have:=Ap8 ((O len).map D);simpa using this
  have e1:∀i,i<len→∃r:α×List G,K.R (fun k=>k<w.heap.size) w r.1 r.2∧Q r.1∧∀j u,r.2[j]?=A u→w.cell? (ad.add (i*K.size+j))=A u:=by
   intro i hi;obtain⟨ae,h1,h2⟩:=hxx i (by omega);rw[hc]at h1;obtain⟨_,ar,aj⟩:=World.cells?_some h1;obtain⟨a,ha,hq⟩:=ah n5 ae (D i,Pl i) (Nat.le_trans (Arm len i hi) ai) h2;refine⟨(a,ae),ha,hq,fun j u hj=>?_⟩;have ac:=(aD.1 hj).1;simp only at ac;have:=aj j (by omega);rw[add_add]at this;rw[this];exact hj
  have:Inhabited (α×List G):=⟨(d0,[])⟩;obtain⟨f,hf⟩:=choose_lt e1;refine⟨(O len).map fun i=>(f i).1,⟨(O len).flatMap fun i=>(f i).2,?_,Ai0 len fun i hi=>(hf i hi).1⟩,?_,?_⟩
  ·have aa:∀i,i<len→(f i).2.length=K.size:=fun i hi=>K.len (hf i hi).1
   refine⟨by rw[Xb len aa];simp,?_⟩;rcases Nat.eq_zero_or_pos len with rfl|hpos
   ·grind
   ·obtain⟨b,ak,au⟩:=ad;obtain⟨u0,al⟩:∃u,(f 0).2[0]?=A u:=⟨_,List.getElem?_eq_getElem (by rw[aa 0 hpos];exact hK)⟩;have af:=(hf 0 hpos).2.2 0 u0 al;have am:=by simpa[Addr.add]using World.cell?_spot af
    subst am;have ag:=by have:=block_lt_of_cell af;simpa[Addr.add]using this
    refine .inr ⟨by simpa using hpos,b,ak,cap,by simp,ag,ag,by simpa using hlc,hm,fun j u hj=>?_⟩;have ac:=(aD.1 hj).1;rw[Xb len aa]at ac;have hi:j/K.size<len:=Nat.div_lt_of_lt_mul (by grind);have an:j%K.size<K.size:=Nat.mod_lt _ hK;have ej:j/K.size*K.size+j%K.size=j:=by rw[Nat.mul_comm];exact Nat.div_add_mod j K.size
    rw[←ej,Ant len _ aa hi _ an]at hj;have:=(hf _ hi).2.2 _ u hj;rw[Addr.add_lit,ej]at this;omega
  ·grind
  ·simp only[Rows.uptoBulk,List.length_map,List.length_range];omega
end
end
section
open Go.ChangeShapes Go.WideShapes Go.ChangeAt Go.RowKit Go.Joins
theorem Tp:Tryz.prog.cellsOf 28=1:=by kernel_rfl
theorem Aff:Tryz.prog.cellsOf 9=1:=by kernel_rfl
theorem Arn:∃f0:Field,Tryz.prog.underlying 28=A (.struct #[f0])∧f0.offset=0∧f0.type=9:=
 ⟨_,Tryz.underlying28,rfl,rfl⟩
theorem Ai2 {H:Type}{enc:Z×G→H}{w:U}{base:Nat}{aa:Nat→Bool}{held:Bool}{ab:Nat}{cs:List G}{x:M H×List aF}
  (hf:aC enc P w base aa held ab 28 cs=A x):∃t:Wd,Nz.R (fun k=>k<w.heap.size) w t cs∧True:=by
 obtain⟨d,p⟩:=x;obtain⟨f0,hu,o0,t0⟩:=Arn;obtain⟨y0,n,_,hl,h0⟩:=trod_struct1 hu hf;rw[Tp]at hl;rw[o0,t0,Aff]at h0
 match cs,hl with
 |[c0],_=>
  simp only[List.drop_zero,List.take_succ_cons,List.take_zero]at h0;obtain⟨s,e2,_,hs⟩:=DataW.trod_string Tryz.underlying9 h0;simp only[aB,and_true]at e2;subst e2;exact⟨s,rfl,trivial⟩
theorem Aro {F:Nat→Prop}{w:U}{sv:G}{l:List Wd}(h:IsL Nz F w sv l):An w sv l:=by
 obtain⟨cs,h1,h2⟩:=h;have e:∀{l:List Wd}{cs:List G},All Nz F w l cs→cs=l.map aH:=by
  intro l
  induction l with
  |nil=>intro cs h;exact h
  |cons a l ih=>
   rintro cs ⟨c,rest,rfl,h3,h4⟩;obtain rfl:c=_:=h3;rw[ih h4];rfl
 have:=h1.row;rw[e h2]at this;exact this
theorem Zq {w:U}{g:Nat}{t:Z}{zero:Array G}(h:w.ShapedOpen P)(hg:g<Tryz.prog.globals.size)
  (h0:((begin P (fun _ _=>0) default).world.heap[g]?).bind Obj.row? =A (zero,t)) (hz:zero.size=1)
  (hb:Tryz.prog.buildable t=true) (hc:Tryz.prog.cellTypes Tryz.prog.depth t=A [t]) (hu:Tryz.prog.underlying t=A (.int .i64)):∃m,w.cell? ⟨g,0,I⟩=A (.int .i64 m):=by
 obtain⟨cs,hh,hs,hr⟩:=h.1 g zero t hg h0;obtain⟨ts,ab,_,ac⟩:=hr hb;rw[hc]at ab;cases ab;have h1:0<cs.size:=by omega
 obtain⟨u,ad,aa⟩:=ac 0 cs[0] (by simp[h1]);have:u=t:=by simpa using ad.symm
 subst this;have ae:w.cell? ⟨g,0,I⟩=A cs[0]:=by simp[World.cell?,hh,h1]
 rw[ae];unfold Cell.ok at aa;rw[hu]at aa;cases hv:cs[0]<;>rw[hv]at aa<;>first|(simp at aa;obtain⟨rfl,_⟩:=aa;exact⟨_,rfl⟩)|simp at aa
theorem Rh {W:U}{n:String}{nm:String}{d:M Unit}{g:Nat}{t:Z}{ms:Array (String×Z)}{cs:Array G}{aa:Nat}{p:List aF}(hg:Tryz.prog.globalNamed n=A g)(hi:Tryz.prog.underlying t=A (.interface ms))
  (ab:W.var? P n=A cs) (hd:aC (fun _=>()) P W 0 (fun _=>true) q aa t cs.toList=A (.iface nm d,p)):∃u v,W.cell? ⟨g,0,I⟩=A (.iface u v):=by
 obtain⟨f',u,v,e,_⟩:=iface_of_trod hi hd;have hc:=World.var?_cell hg ab 0;have:cs[0]?=A (.iface u v):=by rw[←Array.getElem?_toList,e];rfl
 rw[this]at hc;exact⟨u,v,hc⟩
def A5n:M Unit→G
 |.lit (.int k n)=>.int k n
 |_=>undef
def Cu:M Unit→List G
 |.agg l=>l.map A5n
 |_=>[]
def Nt:M Unit→List G
 |.agg l=>l.flatMap Cu
 |_=>[]
end
end Go.Proofs.YtocegbpmmiabmaaGreatDoor

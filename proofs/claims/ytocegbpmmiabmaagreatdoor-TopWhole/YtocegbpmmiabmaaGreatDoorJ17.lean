/-
  The walk of TopWhole.
-/
import Derived.Test.YtocegbpmmiabmaaGreatDoorJ16
set_option linter.unusedSimpArgs false
set_option linter.unusedVariables false
set_option maxRecDepth 100000
set_option maxHeartbeats 0
open Go.Value renaming int→G,pointer→J,slice→A
open Go renaming lt_of_block→I
open Go.Obj renaming cells→F
open Option renaming none→D
open Go.IntKind renaming i64→H
namespace Go.Proofs.YtocegbpmmiabmaaGreatDoor
open Go.RowKit
theorem A66 {d}{a b:Int}{t}(ha:a<150)(hb:b<150):(doR d a t).1=(doR d b t).1∧(doR d a t).2.1=(doR d b t).2.1:=by
 unfold doR;grind
def A56 (m v:Nat)(n:Nat)(d:Db)(a:Int)(w:World):Prop:=∃b,0≤b∧b≤a∧Dt [n,m] w m d b false∧w.heap[v]?=some (F #[J (some ⟨m,0,D⟩)] 23)
theorem A6r {m v n B:Nat}{d}{a:Int}{t}{w0 W W6:World}{vo}{vc}(an:Env w0)(hm:w0.heap.size≤m)(bp:m<v)(bq:v<B)(bt:v<n)(ha:0≤a)(ap:a<150)(hI:A56 m v n d a W)(ae:But n W W6)(hB:Below w0.heap.size w0 W6)(hE:Br [n,m] W6)(he:Dt [n,m] W6 n (doR d a t).2.1 (doR d a t).2.2 false)(aq:DbOk d)(bu:DbOk (doR d a t).2.1):
  Calls Tryz.prog 9 #[J (some ⟨n,0,D⟩),.agg #[.string t],.agg #[G H (doR d a t).1.code,G H (doR d a t).1.n,A vo (doR d a t).1.rows.length vc],J (some ⟨v,0,D⟩)] W6 fun e W7=>A6o [m] n (A56 m v) B (doR d a t) w0 W6 W7 e:=by
 obtain⟨b,bc,bv,bd,hv⟩:=hI;have h8:8≤w0.heap.size:=an.low;have be:m≠n:=by omega
 have bf:=I hv;have bg:=(ae.block v bf (by omega)).trans hv;have ar:=bd.but ae (by simp) be;have bh:=@A66 d a b t ap (by omega);have bi:=@A54 d a t ap;have ai:=@A54 d b t (by omega);have au:=@A6q d a t;have bw:=A64 d a t;obtain⟨ab,bT,bR,-⟩:=al2 W6 (F #[.string t] 28) (F #[G H (doR d a t).1.code,G H (doR d a t).1.n,A vo (doR d a t).1.rows.length vc] 32);have ad:=(ab.block v (by have:=ae.size;omega)).trans bg;have HD:=U6 (hE.below ab) (show m∈[n,m] by simp) false (ar.below ab) aq bc (an.next (Ac hB ab)) (by omega) t;have af:=he.below ab;have ag:=ar.below ab;have aj:=hE.below ab;have ah:=Ac hB ab;have bx:=ae.size;have bj:=ab.size;generalize hW:(W6.alloc (F #[.string t] 28)).alloc (F #[G H (doR d a t).1.code,G H (doR d a t).1.n,A vo (doR d a t).1.rows.length vc] 32)=W8 at ab bT bR ad HD af ag aj ah bj;have HW:Hid _:=hW;generalize doQ d b t false=qb at HD;obtain⟨e1,e2⟩:=bh;generalize doR d b t=pb at e1 e2 HD ai;obtain⟨rb,db,bb⟩:=pb;simp only at e1 e2 ai;subst e1 e2 ai;generalize doR d a t=p at*;obtain⟨⟨C,N,rows⟩,d2,a2⟩:=p;simp only at*;subst bi;have bk:Hid _:=au;have c0:=Aa ad (j:=0) rfl;have r0:=Aa bR (j:=0) rfl;have r2:=Aa bR (j:=2) rfl;have t0:=Aa bT (j:=0) rfl;clear au hW;go_enter Tryz.func9,Tryz.ntmps9;go_upto_region 1 with fail;rw[HW.out];have av:=I bR;have aw:=I ad;have bz:=ag.lt
 by_cases hC:C=0
 ·subst hC;go_wp2_with(first
   |(go_fit HD;rintro e w9 ⟨⟨rv,rfl,ca⟩,ak,ax,ac⟩;have ay:=af.but ac (show m∈[n,m] by simp) (show n≠m by omega);have bl:=ah.trans (ac.below (by omega) ah.size);have v9:=(ac.block v aw (by omega)).trans ad;have c9:=Aa v9 (j:=0) rfl;have R9:=(ac.block _ av (by omega)).trans bR;have r9:=Aa R9 (j:=0) rfl;have al:=Agp ay ak ax)
   |(go_fit al;rintro e bm ⟨rfl,aa⟩;have bn:=Aa ((aa.block _ (I R9)).trans R9) (j:=0) rfl))
  go_ret;have bo:Br [n,m] w9:=by
   obtain⟨T,cb,tc,io,ic,po,pc,h1,_⟩:=ak;exact Br.put aj ac (by simp) h1 ax.cat
  have cc:=ac.size;exact⟨rfl,⟨b+1,by omega,by show b+1≤a+1;omega,ak.weak.below aa,(aa.block v (I v9)).trans v9⟩,bo.below aa,ay.below aa,Ac bl aa,fun g hg az am=>(aa.block g (by omega)).trans ((ac.block g (by omega) (fun h=>az (by simp[h]))).trans (ab.block g am))⟩
 ·obtain⟨rfl,rfl⟩:=bk.out hC;have cd:(C==0)=false:=by simpa using hC
  have al:=Agp af ag aq;go_wp2_with(go_fit al;rintro e bm ⟨rfl,aa⟩;have ba:=(aa.block _ av).trans bR;have bn:=Aa ba (j:=0) rfl;have ce:=Aa ba (j:=2) rfl);go_ret;exact⟨rfl,⟨b,by omega,by show b≤a+1;omega,ag.below aa,(aa.block v aw).trans ad⟩,aj.below aa,af.below aa,Ac ah aa,fun g hg az am=>(aa.block g (by omega)).trans (ab.block g am)⟩
theorem A6f (L:List Wd)(lo:Option Addr)(lc:Nat)(w:World)(aa:Env w)(hl:An w (A lo L.length lc) L)(ai:L.length≤9223372036854775807):
  Calls Tryz.prog 3 #[A lo L.length lc] w fun e w'=>e=.returned (.bool true)∧Below w.heap.size w w':=by
 have aj:Br [] w:=fun n hn=>by cases hn
 have HN:=Ari w;obtain⟨ab,ac⟩:=Arj aj;have af:=Aq w (F #[A D 0 0,A D 0 0,A D 0 0,G H 0] 67);have ag:w.heap.size<(w.alloc (F #[A D 0 0,A D 0 0,A D 0 0,G H 0] 67)).heap.size:=by simp
 generalize w.alloc (F #[A D 0 0,A D 0 0,A D 0 0,G H 0] 67)=W1 at HN ab ac af ag;obtain⟨ad,bV,-⟩:=al1 W1 (F #[J (some ⟨w.heap.size,0,D⟩)] 23);have ak:=Ac af ad;have ae:=I bV;have ah:=ac.weak.below ad;have al:=A6u (E:=[w.heap.size]) 9 #[J (some ⟨W1.heap.size,0,D⟩)] (enters_of Tryz.func9 (by decide) rfl) (A56 w.heap.size W1.heap.size) L lo lc w _ ak aa (ab.below ad) hl ai
  (fun n W hn hb hE he=>⟨0,Int.le_refl _,Int.le_refl _,(ah.more hn).below hb,(hb.block _ ae).trans bV⟩)
  (fun n d a t W W6 vo vc hn ha am an hI ap hB hE he aq=>A6r aa (Nat.le_refl _) ag ae (Nat.lt_of_lt_of_le ae hn) ha am hI ap hB hE he an aq)
 clear hl aa ah ac ab;go_enter Tryz.func3,Tryz.ntmps3;go_wp2_with(first
  |(go_fit HN;rintro e w2 ⟨rfl,rfl⟩)
  |(go_fit al;rintro e w3 ⟨n,d,a,rfl,_,ar⟩))
 go_ret;exact⟨rfl,ar⟩
end Go.Proofs.YtocegbpmmiabmaaGreatDoor

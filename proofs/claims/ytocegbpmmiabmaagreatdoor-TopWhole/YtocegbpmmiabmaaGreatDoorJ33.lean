/-
  Contract of the statements' own play,whoever looks.
-/
import Derived.Test.YtocegbpmmiabmaaGreatDoorJ01
import Derived.Test.YtocegbpmmiabmaaGreatDoorJ32
set_option linter.unusedSimpArgs false
set_option linter.unusedVariables false
set_option maxRecDepth 100000
set_option maxHeartbeats 0
open Go.Value renaming int→F,slice→D
open Option renaming none→A
open List renaming mem_cons_self→O
open Go.Proofs.Tryz renaming prog→M
open Go.IntKind renaming i64→H
open Bool renaming false→J
namespace Go.Proofs.YtocegbpmmiabmaaGreatDoor
open Go.RowKit
theorem A54 {d}{a:Int}{t}(h:a<150):(doR d a t).2.2=a+1:=by
 unfold doR;grind
def A6o (E:List Nat)(n:Nat)(I:Nat→Db→Int→World→Prop)(B:Nat)(p:Rep×Db×Int)(w0 W W':World)(e:Ending):Prop:=e=.returned (.bool true)∧I n p.2.1 p.2.2 W'∧Br (n::E) W'∧Dt (n::E) W' n p.2.1 p.2.2 J∧Below w0.heap.size w0 W'∧(∀g,B≤g→g∉n::E→g<W.heap.size→W'.heap[g]?=W.heap[g]?)
def A55 (I:Nat→Db→Int→World→Prop)(w0 w':World)(e:Ending):Prop:=∃n d a,e=.returned (.tuple #[.pointer (some ⟨n,0,A⟩),.bool true])∧I n d a w'∧Below w0.heap.size w0 w'
theorem A6u {E:List Nat}(G:FuncId)(cap:Array Value)(hG:∀args w,(callFunc G args).run M w=.ok (.enter G args) w)(I:Nat→Db→Int→World→Prop)(L:List Wd)(lo:Option Addr)(lc:Nat)(w0 w:World)(hw:Below w0.heap.size w0 w)(ae:Env w0)(hE:Br E w)(hl:An w0 (D lo L.length lc) L)(bx:L.length≤9223372036854775807)
  (h0:∀n W,w.heap.size≤n→Below w.heap.size w W→Br (n::E) W→Dt (n::E) W n Ge 0 J→I n Ge 0 W)
  (ba:∀n d a t W W6 vo vc,w.heap.size≤n→0≤a→a<150→DbOk d→I n d a W→But n W W6→Below w0.heap.size w0 W6→Br (n::E) W6→Dt (n::E) W6 n (doR d a t).2.1 (doR d a t).2.2 J→DbOk (doR d a t).2.1→
   Calls M G (#[.pointer (some ⟨n,0,A⟩),.agg #[.string t],.agg #[F H (doR d a t).1.code,F H (doR d a t).1.n,D vo (doR d a t).1.rows.length vc]]++cap) W6 fun e W7=>A6o E n I w.heap.size (doR d a t) w0 W6 W7 e):
  Calls M 8 #[D lo L.length lc,.func (.func G) #[] cap] w fun e w'=>A55 I w0 w' e:=by
 have bz:=hw.size;have bi:=Ax4 w (ae.next hw);have bj:Hid _:=ae;have HL:Hid _:=hl;have bk:Hid _:=hE;have H0:Hid _:=h0;have bl:Hid _:=ba;have h8:8≤w0.heap.size:=ae.low;clear hl ae hE h0 ba;go_enter Tryz.func8,Tryz.ntmps8;go_upto_region 3 with(go_fit bi;rintro e w1 ⟨rfl,an⟩);have HN:=Ari w1;obtain⟨af,ag⟩:=Arj (Br.below bk.out an);have ah:Below w.heap.size w (w1.alloc (.cells #[D A 0 0,D A 0 0,D A 0 0,F H 0] 67)):=Ac an (Aq w1 _);have ap:=an.size;generalize w1.alloc (.cells #[D A 0 0,D A 0 0,D A 0 0,F H 0] 67)=W2 at HN af ag ah;generalize w1.heap.size=n at HN af ag ap;have hI:=H0.out n W2 ap ah af ag.weak;go_upto_region 5 with(go_fit HN;rintro e w2 ⟨rfl,rfl⟩)
 go_loopw[7] (fun i wr=>∃(k:Nat) (d1:Db) (a1:Int),k≤L.length∧k≤40∧i=F H k∧Hid (I n d1 a1 wr)∧Hid (Dt (n::E) wr n d1 a1 J)∧Hid (DbOk d1)∧Hid (0≤a1∧a1≤k)∧Hid (Br (n::E) wr)∧Below w0.heap.size w0 wr∧w.heap.size≤wr.heap.size) (fun i _=>40-(intOf i).toNat)
 case atStart=>exact⟨0,Ge,0,Nat.zero_le _,Nat.zero_le _,rfl,hI,ag.weak,Aml,⟨Int.le_refl _,Int.le_refl _⟩,af,Ac hw ah,ah.size⟩
 case round=>
  obtain⟨k,d1,a1,hk,ca,rfl,HI,aq,ar,HA,au,ac,cb⟩:=hrel
  by_cases av:k<L.length∧k<40
  ·obtain⟨av,cc⟩:=av;obtain⟨t,hx⟩:∃t,L[k]?=some t:=⟨_,List.getElem?_eq_getElem av⟩;obtain⟨ab,ao,cd,bm,ai,_,_,bb⟩:=An.at HL.out (by omega);cases bm;have y0:=bb k t hx;have y1:=(ac.cell ai).trans y0;have aj:=U6 au.out (O) J aq.out ar.out HA.out.1 (bj.out.next ac) (show 8≤n by omega) t;have ak:Hid _:=fun W6 vo vc=>bl.out n d1 a1 t wr W6 vo vc ap HA.out.1 (by have:=HA.out.2;omega) ar.out HI.out
   have aw:Hid ((doR d1 a1 t).2.2=a1+1):=A54 (by have:=HA.out.2;omega);generalize doQ d1 a1 t J=q2 at aj;generalize doR d1 a1 t=p at aj ak aw;obtain⟨⟨C,N,rows⟩,d2,a2⟩:=p;simp only at ak aw;have v0:(0:Int)≤k:=by omega
   have v1:k<(L.length:Int):=by omega
   have v2:(k:Int)<40:=by omega
   have ce:=aq.out.lt;clear hx bb;go_upto_region 8 with(go_fit aj;rintro e w5 ⟨⟨rv,rfl,bc⟩,ax,al,ad⟩;obtain⟨vo,vc,rfl⟩:=bc.shape);have am:Br (n::E) w5:=by
    obtain⟨T,cf,tc,io,ic,po,pc,h1,_⟩:=ax;exact Br.put au.out ad (O) h1 al.cat
   obtain⟨aa,bX,-⟩:=al1 w5 (.cells #[F H C,F H N,D vo rows.length vc] 32);have bd:=ac.trans (ad.below (by omega) ac.size);have ay:=Ac bd aa;have bn:Hid _:=am.below aa;have be:=ak.out _ vo vc (ad.trans (But.of_below aa.drew)) (Ac bd aa.drew) (am.below aa.drew) (ax.below aa.drew).weak al;have bo:Hid (DbOk d2):=al;have cg:=ad.size;have x0:=Aa bX (j:=0) rfl;have x1:=Aa bX (j:=1) rfl;have x2:=Aa bX (j:=2) rfl;have az:=lt_of_block bX;have x3:=(ay.cell ai).trans y0;have bp:=Nat.lt_of_lt_of_le ai ay.size;have bf:w5.heap.size∉n::E:=fun h=>Nat.lt_irrefl _ (Br.lt am h)
   have bg:w.heap.size≤w5.heap.size:=by omega
   clear aj bc ax al am ad au aq ar ak;generalize w5.alloc _=W6 at aa bX ay bn be x0 x1 x2 az x3 bp⊢;generalize w5.heap.size=gX at bX x0 x1 x2 az bf bg⊢;refine wp_region_held_drew (S:=(fun W=>W.cell? ⟨ab,ao+k,A⟩=some (.string t)∧W.cell? ⟨gX,0,A⟩=some (F H C)∧W.cell? ⟨gX,1,A⟩=some (F H N)∧W.cell? ⟨gX,2,A⟩=some (D vo rows.length vc))) (by rfl) ?_ (fun hHeld=>?_)
   ·simp_all
   refine tk 0 ?_;refine tk 1 ?_;refine tk 2 ?_;refine tk 3 ?_;refine tk 4 ?_;refine tk 5 ?_;refine tk 6 ?_;refine Bi 7 (fun K hK=>?_);go_simp;refine be.mono ?_;rintro e w7 ⟨rfl,bq,bt,bu,bh,bv⟩;have b7:=(bv gX bg bf az).trans bX;go_wp2_with fail;refine hK.out _ _ ?_ (fun hHeld=>?_)
   ·exact⟨(bh.cell ai).trans y0,Aa b7 (j:=0) rfl,Aa b7 (j:=1) rfl,Aa b7 (j:=2) rfl⟩
   clear hK K;refine tk 8 ?_;refine wpAnyH_done (by kernel_rfl) ?_ _;go_wp2_with fail;go_roundw
   case rel=>exact⟨k+1,d2,a2,by omega,by omega,by rfl,bq,bu,bo,by have:=HA.out;have:=aw.out;exact⟨by omega,by omega⟩,bt,bh,by have:=lt_of_block b7;omega⟩
   case measure=>simp[intOf];omega
  ·by_cases ch:k<L.length
   ·have v1:k<(L.length:Int):=by omega
    have bw:k=40:=by omega
    subst bw;go_wp2;go_ret2;unfold A55;exact⟨n,d1,a1,rfl,HI.out,ac⟩
   ·have v1:¬(k<(L.length:Int)):=by omega
    go_wp2;go_ret2;unfold A55;exact⟨n,d1,a1,rfl,HI.out,ac⟩
end Go.Proofs.YtocegbpmmiabmaaGreatDoor

/-
  The walk of TopEnds.
-/
import Derived.Test.YtocegbpmmiabmaaGreatDoorJ08
set_option linter.unusedSimpArgs false
set_option linter.unusedVariables false
set_option maxRecDepth 100000
set_option maxHeartbeats 0
open Go renaming lt_of_block→D
open Go.Proofs.Tryz renaming prog→G
open Go.Value renaming int→B,string→F
open Bool renaming false→A
open Go.Ending renaming returned→I
open Go.IntKind renaming i64→C
namespace Go.Proofs.YtocegbpmmiabmaaGreatDoor
open Go.RowKit
theorem Anu:(A1 [63]).2=1:=by decide
theorem A4h {d}{a:Int}(h:a<150):doR d a ⟨#[63]⟩=(⟨1,0,[]⟩,d,a+1):=by
 rw[doR,if_neg (by omega),if_pos (by rw[show(⟨#[63]⟩:Wd).data.toList=[63]from rfl,Anu];decide),show(⟨#[63]⟩:Wd).data.toList=[63]from rfl,Anu]
theorem Ax7 {d}{a:Int}(t)(h:150≤a):doR d a t=(⟨8,0,[]⟩,d,a):=by rw[doR,if_pos h]
theorem A4i {E}{n}{d}{a:Int}{w}(hE:Br E w)(hn:n∈E)(he:Dt E w n d a A)(ok:DbOk d)(ha:0≤a)(h:a<150)(aa:Env w)(h8:8≤n):
  Calls G 10 #[.pointer (some ⟨n,0,none⟩),.agg #[F ⟨#[63]⟩]] w fun e w'=>∃rv,e=I (.agg #[B C 1,B C 0,rv])∧Dt E w' n d (a+1) A∧Br E w'∧But n w w':=by
 have H:=U6 hE hn A he ok ha aa h8 ⟨#[63]⟩;rw[A4h h]at H;refine H.mono fun e w' ⟨⟨rv,he,_⟩,h1,h2,h3⟩=>⟨rv,he,h1.weak,?_,h3⟩
 obtain⟨T,ab,tc,io,ic,po,pc,h4,_⟩:=h1;exact Br.put hE h3 hn h4 h2.cat
theorem A3k {E}{n}{d}{a:Int}{w}(hE:Br E w)(hn:n∈E)(he:Dt E w n d a A)(ok:DbOk d)(h:150≤a)(aa:Env w)(h8:8≤n)(t):
  Calls G 10 #[.pointer (some ⟨n,0,none⟩),.agg #[F t]] w fun e w'=>∃rv,e=I (.agg #[B C 8,B C 0,rv])∧IsL C8 (fun k=>k<w'.heap.size) w' rv []∧Dt E w' n d a A∧But n w w':=by
 have H:=U6 hE hn A he ok (by omega) aa h8 t;rw[Ax7 t h]at H;exact H.mono fun e w' ⟨⟨rv,he,hr⟩,h1,h2,h3⟩=>⟨rv,he,J8 hr,h1.weak,h3⟩
theorem Aqa (L:List Wd)(lo:Option Addr)(lc:Nat)(t:Wd)(w:World)(ae:Env w)(hl:An w (.slice lo L.length lc) L)(aq:L.length≤9223372036854775807):
  Calls G 6 #[.slice lo L.length lc,.agg #[F t]] w fun e w'=>e=I (.bool true)∧Below w.heap.size w w':=by
 obtain⟨ad,bT,-⟩:=al1 w (.cells #[F t] 28);have ba:Br [] w:=fun n hn=>by cases hn
 have h8:8≤w.heap.size:=ae.low;generalize hW:w.alloc (.cells #[F t] 28)=W1 at ad bT;have HW:Hid _:=hW;have af:=Xa (E:=[]) L lo lc W1 (ae.next ad) (ba.below ad) (hl.below ad) aq;have aj:=Zp (L.take 40) (Ge,0) (Int.le_refl _) (by simp;omega);have ag:∀(n1:Nat) (W:World),Below w.heap.size w W→Br [n1] W→Calls G 8 #[.slice lo L.length lc,.func (.func 12) #[] #[]] W fun e w'=>Pp [n1] L W w' e:=fun n1 W h hE=>Xa L lo lc W (ae.next h) hE (hl.below h) aq
 unfold Pp at af ag;generalize I0 (Ge,0) (L.take 40)=s at af ag aj;obtain⟨d,a⟩:=s;simp only[List.length_take,Int.zero_add]at af ag aj;have bu:=ad.size;have bv:=D bT;have ak:Hid _:=ae;have fC:∀(rv w),(Instr.field 32 (.agg #[B C 1,B C 0,rv]) 0).run G w=.ok (B C 1) w:=fun rv w=>by rfl
 have bb:((min 40 L.length:Nat):Int)=min (L.length:Int) 40:=by omega
 clear hW hl ae;go_enter Tryz.func6,Tryz.ntmps6;go_upto_region 1 with fail;rw[HW.out];go_upto_region 2 with(go_fit af;rintro e w2 ⟨n1,rfl,bw,ar,al,au,bc,av⟩);have aw:=Ac ad av;have ax:=ag n1 w2 aw ar;have am:=(av.block _ (D bT)).trans bT;clear af ag;go_upto_region 3 with(go_fit ax;rintro e w3 ⟨n2,rfl,bd,be,bf,bg,bh,an⟩);have bi:=Ac aw an;have bj:=(al.more bd).below an;have bx:=al.lt;have bk:=(an.block _ (D am)).trans am;have bz:=D am;have bl:n1≠n2:=by omega
 have ay:n2≠n1:=by omega
 have OK:Hid _:=au;subst aj;clear ax al ar au bg bc bh;go_upto_region 6 with fail;generalize hm:min 40 L.length=m at*
 go_loopw[9] (fun iv wr=>∃k:Nat,k≤150∧iv=B C k∧Hid (Dt [n2,n1] wr n1 d k A)∧Hid (Dt [n2,n1] wr n2 d k A)∧Hid (Br [n2,n1] wr)∧wr.heap[w.heap.size]?=some (.cells #[F t] 28)∧Below w.heap.size w wr) (fun i _=>150-(intOf i).toNat)
 case atStart=>exact⟨m,by omega,by first|rfl|(rw[bb]),bj,bf,be,bk,bi⟩
 case round=>
  obtain⟨k,hk,rfl,HA,HB,az,ai,aa⟩:=hrel;have ca:=aa.size
  by_cases cb:k<150
  ·have D1:=A4i az.out (show n1∈[n2,n1] by simp) HA.out OK.out (by omega) (by omega) (ak.out.next aa) (by omega);have v0:(k:Int)<150:=by omega
   go_wp2_with(first
    |(go_fit D1;rintro e w5 ⟨rv,rfl,ap,bm,ab⟩;have ah:=aa.trans (ab.below (by omega) aa.size);have D2:=A4i bm (show n2∈[n2,n1] by simp) (HB.out.but ab (by simp) ay) OK.out (by omega) (by omega) (ak.out.next ah) (by omega))
    |(go_fit D2;rintro e w6 ⟨cc,rfl,bn,bo,ac⟩))
   go_roundw
   case rel=>exact⟨k+1,by omega,by go_num,ap.but ac (by simp) bl,bn,bo,(ac.block _ (by have:=ab.size;have:=D ai;omega) (by omega)).trans ((ab.block _ (D ai) (by omega)).trans ai),ah.trans (ac.below (by omega) ah.size)⟩
   case measure=>simp[intOf];omega
  ·have bp:k=150:=by omega
   subst bp;have x9:=Aa ai (j:=0) rfl;have DF:=A3k az.out (show n1∈[n2,n1] by simp) HA.out OK.out (by omega) (ak.out.next aa) (by omega) t;go_wp2_with(first
    |(go_fit DF;rintro e w5 ⟨rv,rfl,hr,ap,ab⟩;obtain⟨vo,vc,rfl⟩:=hr.shape;have ah:=aa.trans (ab.below (by omega) aa.size);have HR:=Yb 8 0 [] _ _ _ _ w5 hr (J8 (B8 0 w5)))
    |(go_fit HR;rintro e w6 ⟨rfl,ac⟩;have bq:=Agp (ap.below ac) ((HB.out.but ab (by simp) ay).below ac) OK.out)
    |(go_fit bq;rintro e w7 ⟨rfl,bt⟩))
   go_ret;exact⟨rfl,Ac (Ac ah ac) bt⟩
end Go.Proofs.YtocegbpmmiabmaaGreatDoor

/-
  The walk of TopReads.
-/
import Derived.Test.YtocegbpmmiabmaaGreatDoorJ08
set_option linter.unusedSimpArgs false
set_option linter.unusedVariables false
set_option maxRecDepth 100000
set_option maxHeartbeats 0
open Go.Proofs.Tryz renaming prog→H
open Bool renaming false→D
open List renaming getElem?_eq_getElem→J,size_toArray→K
open Go.Value renaming slice→G,string→I
namespace Go.Proofs.YtocegbpmmiabmaaGreatDoor
open Go.RowKit
theorem Aqd {ct}{st b}(h:Cf ct st=.ok b)(hk:st.kind=7):b.kind=7:=by
 unfold Cf at h;split at h
 ·cases h
 ·unfold Ep at h;simp only[hk]at h;simp only[E3,if_true]at h
  repeat' split at h
  all_goals first|(cases h;done)|(cases h;exact hk)|simp_all
theorem Ax8 {d}{st}(hk:st.kind=7):(Fp d st).2=d:=by
 unfold Fp;split
 ·rfl
 ·rename_i b h;have:=Aqd h hk;simp[Ff,this]
theorem Ai3:∀(l:List Stm) (d:Db) (i:Nat) (aa:Rep),(∀st∈l,st.kind=7)→(F9 d l i aa).2=d
 |[],_,_,_,_=>rfl
 |s::l,d,i,aa,h=>by
  unfold F9;rw[Ax8 (h s (by simp))];split
  ·exact Ai3 l d _ _ fun st hs=>h st (by simp[hs])
  ·rfl
theorem A1c {d}{t}(h:∀st∈(A1 t.data.toList).1,st.kind=7){a b:Int}(ha:a<150)(hb:b<150):doR d a t=((doR d b t).1,d,a+1):=by
 have:=Ai3 _ d 0 M6 h;unfold doR;grind
theorem A4l {d}{t}(h:(A1 t.data.toList).2≠0){a:Int}(ha:a<150):(doR d a t).1.code=(A1 t.data.toList).2:=by
 unfold doR;grind
theorem Dm.but {B n}{z}{A}{w w'}(h:Dm B z A w)(hb:But n w w')(hn:n<B):IsL C8 (fun k=>n<k) w' z A:=
 (h.isL (F:=fun k=>n<k) fun k hk=>by omega).keep (hb.keeps fun h=>by omega)
theorem Anx (L:List Wd)(lo:Option Addr)(lc:Nat)(t:Wd)(w:World)(ab:Env w)(hl:An w (G lo L.length lc) L)(bk:L.length≤9223372036854775807):
  Calls H 4 #[G lo L.length lc,I t] w fun e w'=>e=.returned (.bool true)∧Below w.heap.size w w':=by
 have cm:Br [] w:=fun n hn=>by cases hn
 have h8:8≤w.heap.size:=ab.low;have ag:=Xa (E:=[]) L lo lc w ab cm hl bk;have aw:=Zp (L.take 40) (Ge,0) (Int.le_refl _) (by simp;omega);have ah:∀(n1:Nat) (W:World),Below w.heap.size w W→Br [n1] W→Calls H 8 #[G lo L.length lc,.func (.func 12) #[] #[]] W fun e w'=>Pp [n1] L W w' e:=fun n1 W h hE=>Xa L lo lc W (ab.next h) hE (hl.below h) bk
 have an:∀W,Below w.heap.size w W→Calls H 13 #[I t] W _:=fun W h=>Afa t W (ab.next h)
 have ax:∀(n1 n2:Nat) (d:Db) (a:Int) (W:World),Below w.heap.size w W→Br [n2,n1] W→Dt [n2,n1] W n1 d a D→DbOk d→0≤a→8≤n1→Calls H 10 #[.pointer (some ⟨n1,0,none⟩),.agg #[I t]] W fun e w'=>At8 [n2,n1] n1 (doR d a t) (doQ d a t D) W w' e:=fun n1 n2 d a W h hE he ok ha h8=>U6 hE (by simp) D he ok ha (ab.next h) h8 t
 have bl:=fun d (h:∀st∈(A1 t.data.toList).1,st.kind=7)=>@A1c d t h
 have bm:=fun d (h:(A1 t.data.toList).2≠0)=>@A4l d t h
 unfold Pp at ag ah;generalize I0 (Ge,0) (L.take 40)=s at ag ah aw;obtain⟨d,a⟩:=s;simp only[List.length_take,Int.zero_add]at ag ah aw;have dk:a≤40:=by omega
 have ap:Hid _:=bl d;have ay:Hid _:=bm d;have dl:Hid _:=ab;clear hl ab bl bm aw;generalize(A1 t.data.toList).1=ss at an ap;generalize(A1 t.data.toList).2=e2 at an ay;go_enter Tryz.func4,Tryz.ntmps4;go_upto_region 1 with fail;go_upto_region 2 with(go_fit ag;rintro e w2 ⟨n1,rfl,dm,bn,az,bo,cn,ba⟩);have bp:=ah n1 w2 ba bn;clear ag ah;go_upto_region 3 with(go_fit bp;rintro e w3 ⟨n2,rfl,co,bq,bt,cp,cq,bb⟩);have bu:=Ac ba bb;have bv:=(az.more co).below bb;have dn:=az.lt;have HS:=an w3 bu;have bw:n2≠n1:=by omega
 have OK:Hid _:=bo;have dp:=bb.size;have dq:=ba.size;clear bp az bn bo cp cq an;go_upto_region 6 with(go_fit HS;rintro e w4 ⟨sv,rfl,aq,ai⟩;obtain⟨so,sc,rfl⟩:=aq.shape);have cr:=(D5 aq).2;unfold maxLen at cr;have ct:=Ac bu ai;have ds:=ai.size;have E4:Hid (Br [n2,n1] w4):=bq.below ai;have EA:Hid (Dt [n2,n1] w4 n1 d a D):=bv.below ai;have EB:Hid (Dt [n2,n1] w4 n2 d a D):=bt.below ai;have bx:Hid (IsL Ie (Fr w3.heap.size) w4 (G so ss.length sc) ss):=aq;clear aq bv bt bq HS;go_wp2
 go_loopw[38] (fun i wr=>∃k:Nat,k≤ss.length∧i=.int .i64 k∧Hid (∀(j:Nat) st,j<k→ss[j]?=some st→st.kind=7)∧Below w4.heap.size w4 wr) (fun i _=>ss.length-(intOf i).toNat)
 case atStart=>exact⟨0,Nat.zero_le _,rfl,fun j st hj=>absurd hj (by omega),Below.refl _ _⟩
 case round=>
  obtain⟨k,hk,rfl,ar,aa⟩:=hrel;have aj:=Ac ct aa
  by_cases cu:k<ss.length
  ·obtain⟨st,hx⟩:∃x,ss[k]?=some x:=⟨_,J cu⟩;obtain⟨b,cv,cs,cx,_,hb,hR,bz⟩:=At (IsL.keep bx.out (Ai aa)) hx;cases cx;have ca:cs.length=20:=Ie.len hR;have ad:wr.rangeAt b (cv+k*20) cs:=bz;have cb:(Tryz.prog.info? 50).map (·.size)=some cs.length:=by rw[ca];exact D4
   have cy:(Tryz.prog.info? 50).map (·.size)=some cs.toArray.size:=by rw[K];exact cb
   have cz:cs.toArray.size=20:=by rw[K];exact ca
   have cc:=(Aac hR).1;have bZ:=Ab wr (.cells Bn 50);have bX:=Ao (cells:=cs.toArray) bZ;have bc:Below _ wr ((wr.alloc (.cells Bn 50)).setRow _ cs.toArray):=Below.row (Aq wr _) (Nat.le_refl _) _;have cd:cs.toArray[0]?=some (.int .i64 st.kind):=by
    obtain⟨cols,rows,sets,frm,out,w8,order,rfl,_⟩:=hR.is;simp[Ar4]
   have x0:=Aa bX (j:=0) cd;have v0:(0:Int)≤k:=by omega
   have v1:k<(ss.length:Int):=by omega
   have dt:=aa.size;have HK:Hid _:=ar.out;have ae:=Ac aa bc;have ce:=Ac aj bc;clear bz;go_upto_region 9 with(first
    |(refine wpList_load_mid rfl 50 _ rfl b _ ?_ cs _ ad Tryz.underlying50 ?_ ?_ ?_;exact rfl;exact rfl;exact cb)
    |(refine wpList_store_row rfl 50 _ _ rfl wr.heap.size cs.toArray ?_ ?_ 50 Bn ?_ ?_ ?_ ?_ ?_;exact rfl;exact rfl;exact bZ;exact cy;exact cz.symm;exact cc))
   clear bZ ad bc hb cc bX cd;generalize(wr.alloc _).setRow _ _=V at x0 ae ce⊢;generalize wr.heap.size=g at x0⊢;generalize hq:st.kind=q at x0
   by_cases h7:q=7
   ·subst h7;go_wp2;go_roundw
    case rel=>
     refine⟨k+1,by omega,by go_num,fun j da hj ak=>?_,ae⟩
     by_cases db:j=k
     ·subst db;rw[hx]at ak;cases ak;exact hq
     ·exact ar.out j da (by omega) ak
    case measure=>simp[intOf];omega
   ·have du:(q==7)=D:=by simpa using h7
    go_wp2;go_ret;exact⟨rfl,ce⟩
  ·have dc:k=ss.length:=by omega
   subst dc;have v1:¬((ss.length:Int)<(ss.length:Int)):=by omega
   have cf:∀st∈ss,st.kind=7:=fun st ak=>by
    obtain⟨i,hi,rfl⟩:=List.getElem_of_mem ak;exact ar.out i _ hi (J hi)
   have cg:=Br.below E4.out aa;have dd:=Dt.below EA.out aa;have de:=Dt.below EB.out aa;have al:=ax n1 n2 d a wr aj cg dd OK.out cn (by omega);have am:∀W,Below w.heap.size w W→Br [n2,n1] W→Dt [n2,n1] W n1 d (a+1) D→Calls H 10 #[.pointer (some ⟨n1,0,none⟩),.agg #[I t]] W fun e w'=>At8 [n2,n1] n1 (doR d (a+1) t) (doQ d (a+1) t D) W w' e:=fun W h1 h2 h3=>ax n1 n2 d (a+1) W h1 h2 h3 OK.out (by omega) (by omega)
   have q1:=ap.out cf (show a<150 by omega) (show(a:Int)<150 by omega);have q2:=ap.out cf (show a+1<150 by omega) (show(a:Int)<150 by omega);have q3:e2≠0→(doR d a t).1.code=e2:=fun h=>ay.out h (by omega)
   generalize df:(doR d a t).1=rp at q1 q2 q3;rw[q1]at al;simp only[q2]at am;clear df q1 q2 ap ay ar bx ax;obtain⟨C,N,rows⟩:=rp;simp only at al am q3;generalize doQ d a t D=b1 at al;generalize doQ d (a+1) t D=b2 at am;have dv:=aj.size;have dw:=aa.size;go_upto_region 13 with(first
    |(go_fit al;rintro e w5 ⟨⟨rv,rfl,ad⟩,bd,dg,au⟩;obtain⟨vo,vc,rfl⟩:=ad.shape;have ae:Below w.heap.size w w5:=aj.trans (au.below (by omega) aj.size);have dh:Br [n2,n1] w5:=(by
      obtain⟨T,dx,tc,io,ic,po,pc,h1,_⟩:=bd;exact Br.put cg au (by simp) h1 dg.cat);have ch:=am w5 ae dh bd.weak)
    |(go_fit ch;rintro e w6 ⟨⟨dy,rfl,be⟩,cj,dz,av⟩;obtain⟨di,dj,rfl⟩:=be.shape))
   obtain⟨af,bX,bY,-⟩:=al2 w6 (.cells #[.int .i64 C,.int .i64 N,G vo rows.length vc] 32) (.cells #[.int .i64 C,.int .i64 N,G di rows.length dj] 32);have ck:=(ad.but av (by omega)).keep (Ai af);have cl:=(J8 be).keep (Ai af);have bf:=cj.below af;have bg:=((de.but au (by simp) bw).but av (by simp) bw).below af;have bh:=Ac (ae.trans (av.below (by omega) ae.size)) af;have x0:=Aa bX (j:=0) rfl;have x1:=Aa bX (j:=1) rfl;have x2:=Aa bX (j:=2) rfl;have y0:=Aa bY (j:=0) rfl;have y1:=Aa bY (j:=1) rfl;have y2:=Aa bY (j:=2) rfl;have HR:=Yb C N rows _ _ _ _ _ ck cl;clear ck cl ad be af al ch am au av bd cj bX bY;generalize(w6.alloc _).alloc _=W7 at x0 x1 x2 y0 y1 y2 bf bg bh HR⊢;generalize w6.heap.size=g at x0 x1 x2 y0 y1 y2⊢
   by_cases h0:e2=0
   ·subst h0;go_wp2_with(first
     |(go_fit HR;rintro e w8 ⟨rfl,ac⟩;have bi:=Agp (bf.below ac) (bg.below ac) OK.out)
     |(go_fit bi;rintro e w9 ⟨rfl,bj⟩))
    go_ret;exact⟨rfl,Ac (Ac bh ac) bj⟩
   ·obtain rfl:=q3 h0;have ea:(C==0)=D:=by simpa using h0
    go_wp2_with(first
     |(go_fit HR;rintro e w8 ⟨rfl,ac⟩;have bi:=Agp (bf.below ac) (bg.below ac) OK.out)
     |(go_fit bi;rintro e w9 ⟨rfl,bj⟩))
    go_ret;exact⟨rfl,Ac (Ac bh ac) bj⟩
end Go.Proofs.YtocegbpmmiabmaaGreatDoor

/-
  7 texts of this proof in one,in build order:URep,URun,URuns,OpenVals,Bulk,OpenL,UFrame.
-/
import Derived.Laws.Append
import Derived.Laws.AppendOwnNone
import Derived.Test.YtocegbpmmiabmaaGreatDoorRows
import Derived.ProofKit
import Derived.Deep.Slices
import Derived.Deep.SlicePairs
import Derived.Deep.Strs
import Derived.SizedLaws
import Derived.ChangeSame
import Derived.WalkKit
import Derived.WalkSpells
import Derived.WalkLawsBesides
import Derived.Deep.RegionHeld3
import Derived.OpenShut
import Derived.Lib.SmallJoins
import Derived.Deep.DeepHandedRow
import Derived.Lib.LaidTab
import Derived.LaidMore
import Derived.LaidLaws
import Derived.Clock
import Derived.Test.YtocegbpmmiabmaaGreatDoorJ01
import Derived.Test.YtocegbpmmiabmaaGreatDoorJ02
import Derived.Test.YtocegbpmmiabmaaGreatDoorJ03
import Derived.Test.YtocegbpmmiabmaaGreatDoorJ22
import Derived.Test.YtocegbpmmiabmaaGreatDoorJ23
set_option linter.unusedSimpArgs false
set_option linter.unusedVariables false
set_option maxRecDepth 100000
set_option maxHeartbeats 0
open Go.Value renaming cells→aZ,int→O,oneCell'→aS,ownBlock→aR,slice→I,string→bD
open Go.Proofs.Tryz renaming prog→Y,underlying22→aQ
open Option renaming none→X,some→G
open List renaming flatMap_append→aM,getElem?_append_left→aV,getElem?_eq_getElem→aG,getElem?_eq_some_iff→aF,getElem?_take→bF,length_append→aE,length_cons→aA,length_nil→aJ,length_take→aH,map_append→bM,range→aB,range_succ→aI,take_succ_cons→aL
open Go.IntKind renaming i64→J
open Go renaming DataW→aU,MemPlace→bL,TypeId→bA,Value→U,World→Z,maxLen→aX,wpList_append_own_at→bK
open Nat renaming eq_zero_or_pos→bJ,le_refl→bC,lt_of_lt_of_le→bI,lt_or_eq_of_le→bH,lt_succ_self→aC,zero_le→aK
open Go.Value.slice renaming injEq→aD
open Go.RowKit.Below renaming refl→aN
open Go.Result.ok renaming injEq→aO
open List.cons renaming injEq→aP
open Go.DataW renaming trod→aT
open Go.Obj renaming cells→aW
open Go.World renaming cell?→aY,ownsRow_nil→bE
open Go.Builtin renaming zeroCells→bB
open Go.RowKit renaming wrap64→bG
open Go.Ending renaming returned→bN
namespace Go.Proofs.YtocegbpmmiabmaaGreatDoor
section
open Go.RowKit
theorem A6s:(Tryz.prog.info? 32).map (fun i=>(i.zero,i.size,i.bytes))=G (G (.agg #[O J 0,O J 0,I X 0 0]),3,40):=by kernel_rfl
def Pat (cs:List U):Prop:=∀(j:Nat) (u:U),cs[j]?=G u→if j%3=2 then∃a n c,u=I a n c else∃x,u=O J x
theorem Pat.dull {w:Z}{g:Nat}{aa:Array U}{t fr}(hg:w.heap[g]?=G (aW aa t fr))(h:Pat aa.toList):Dull w g:=by
 refine⟨fun o s he=>?_,fun o a a' n c n' c' h1 h2=>?_⟩
 ·simp only[aY,hg]at he;have:=h o (bD s) (by simpa using he);grind
 ·simp only[aY,hg]at h1 h2;have e1:=h o (I a n c) (by simpa using h1);have e2:=h (o+1) (I a' n' c') (by simpa using h2);grind
theorem Pat.append {a b:List U}(ha:Pat a)(hl:a.length%3=0)(hb:Pat b):Pat (a++b):=by
 intro j u hu;rcases Nat.lt_or_ge j a.length with h|h
 ·rw[aV h]at hu;exact ha j u hu
 ·rw[List.getElem?_append_right h]at hu;have:=hb _ u hu;rwa[show(j-a.length)%3=j%3 by omega]at this
theorem Pat.one (x y:Int)(a n c):Pat [O J x,O J y,I a n c]:=by
 intro j u hu
 match j,hu with
 |0,hu=>cases hu;exact⟨x,rfl⟩
 |1,hu=>cases hu;exact⟨y,rfl⟩
 |2,hu=>cases hu;exact⟨a,n,c,rfl⟩
theorem Pat.zero (k):Pat (bB (Value.agg #[O J 0,O J 0,I X 0 0]).cells k).toList:=by
 intro j u hu;simp only[bB,Array.toList_map,List.getElem?_map,Option.map_eq_some_iff]at hu;obtain⟨i,hi,rfl⟩:=hu;have e:j=i:=by
  have:=(aF.1 hi).2;simpa using this
 subst e;show if j%3=2 then _ else _;rcases(by omega:j%3=0∨j%3=1∨j%3=2)with h|h|h
 ·rw[h];exact⟨0,by simp[aZ,h]⟩
 ·rw[h];exact⟨0,by simp[aZ,h]⟩
 ·rw[h];exact⟨X,0,0,by simp[aZ,h]⟩
theorem Pat.part {cs:List U}(h:Pat cs)(k):Pat (cs.take k):=fun j u hu=>by
 rw[bF]at hu;split at hu
 ·exact h j u hu
 ·cases hu
theorem Pat.rest {cs:List U}(h:Pat cs)(k)(hk:k%3=0):Pat (cs.drop k):=fun j u hu=>by
 rw[List.getElem?_drop]at hu;have:=h _ u hu;rwa[show(k+j)%3=j%3 by omega]at this
def A5v (w:Z)(v:U):Prop:=∀g cur t fr,v.ownBlock=G g→w.heap[g]?=G (aW cur t fr)→Pat cur.toList
theorem A6t {w w'}{base n c:Nat}{ty}{i}(hi:Tryz.prog.info? 32=G i)(hz:i.zero=G (.agg #[O J 0,O J 0,I X 0 0]))(aa:i.size=3)
  {v v'}{xs}(ac:w.ownsRow base 32 3 v n xs) (hp:A5v w v) {a}{x y:Int}{so m k}(hx:∀j u,[Value.int J x,O J y,I so m k][j]?=G u→w.cell? (a.add j)=G u) (ag:n+1≤aX) (ah:(n+1) *i.bytes≤140737488355328)
  (hr:(Builtin.append_ #[54,54] ty #[v,I (G a) 1 c]).run Y w=.ok v' w'):A5v w' v':=by
 have al:n+1≤9223372036854775807:=by simp only[aX]at ag;omega
 have ht:=Tryz.underlying54;have hN:=Pat.one x y so m k;rcases ac.2 with⟨rfl,rfl⟩|⟨g,cap,ad,rfl,hbg,hg,hnc,hcm,hcs,htake⟩
 ·have h2:=run_append_nil w _ ty _ i _ ht hi hz a 1 c _ (by rw[aa];rfl) hx (by omega) (by omega) (by omega);rw[hr]at h2;simp only[aO]at h2;obtain⟨rfl,rfl⟩:=h2;intro g ad t' fr hv hg;obtain rfl:w.heap.size=g:=by simpa[aR]using hv
  rw[show w.heap.size=w.drew.heap.size from rfl,Ab]at hg;cases hg;simpa using hN.append (by simp) (Pat.zero _)
 ·have ae:=hp g ad _ _ rfl hg
  by_cases ai:n+1≤cap
  ·have h2:=run_append_room w _ ty _ i ht hi g n cap ad hg a 1 c [O J x,O J y,I so m k] (by rw[aa];rfl) hx (by simp[aS]) ai (by simp only[aa,aA,aJ];grind);rw[hr]at h2;simp only[aO]at h2;obtain⟨rfl,rfl⟩:=h2;intro g' aj t' fr hv ab;obtain rfl:g=g':=by simpa[aR]using hv
   rw[Ao hg]at ab;cases ab;rw[aa];have af:(ad.toList.take (n*3)).length=n*3:=by rw[aH];simp;grind
   exact((ae.part _).append (by rw[af];omega) hN).append (by simp only[aE,af,aA,aJ];omega) (ae.rest _ (by simp only[aA,aJ];omega))
  ·have holds:=ac.cells (g:=g) rfl;have h2:=run_append_grow (P:=Y) w _ ty _ i _ ht hi hz ⟨g,0,X⟩ n cap xs (by rw[aa];exact ac.1) holds a 1 c [O J x,O J y,I so m k] (by rw[aa];rfl) hx (by omega) (by omega) (growslice_fits (by omega) ah);rw[hr]at h2;simp only[aO]at h2;obtain⟨rfl,rfl⟩:=h2;intro g' aj t' fr hv ab;obtain rfl:w.heap.size=g':=by simpa[aR]using hv
   rw[show w.heap.size=w.drew.heap.size from rfl,Ab]at ab;cases ab;have ak:Pat xs:=by rw[←htake];exact ae.part _
   have am:=ac.1;have:=(ak.append (by omega) hN).append (by simp only[aE,aA,aJ];omega) (Pat.zero (grownCap w (n+1) cap 32-(n+1)));simpa using this
theorem A5u {w}{ops}{rest}{o}{a}{Q}(af:o.guard=X)(s x)
  (ho:o.op=.call {callee:=.builtin .append,args:=#[s,x],argTypes:=#[54,54]})
  (base) (i) (hi:Tryz.prog.info? 32=G i) (hz:i.zero=G (.agg #[O J 0,O J 0,I X 0 0])) (aa:i.size=3) (ab:i.bytes=40)
  (v:U) (n:Nat) (xs:List U) (hs:a.eval s=v) (ac:w.ownsRow base 32 3 v n xs) (hp:A5v w v)
  (ad:Addr) (c:Nat) (C N:Int) (so m k) (hx:a.eval x=I (G ad) 1 c) (hy:∀j u,[Value.int J C,O J N,I so m k][j]?=G u→w.cell? (ad.add j)=G u)
  (ah:n+1≤1000000) (ag:base≤w.heap.size)
  (h:∀v' w',w'.ownsRow base 32 3 v' (n+1) (xs++[O J C,O J N,I so m k])→A5v w' v'→w.grownBy w' v.ownBlock→(v'.ownBlock=v.ownBlock∨v'.ownBlock=G w.heap.size)→wpList Y ops Q rest (a.put o.dst v') w'):
  wpList Y ops Q (o::rest) a w:=by
 refine wpList_plain af fun K hK=>?_
 have ae:n+1≤aX:=by simp only[aX];omega
 obtain⟨v',w',hr,h2,h3,_,h5⟩:=run_append_own_at (P:=Y) w base 54 o.type 32 i _ 3 40 Tryz.underlying54 hi hz aa ab rfl (by decide) v n xs ac ad 1 c _ rfl hy (by simp[aS]) ae (by omega) ag;unfold Oper.wp execOp;simp only[ho,resolve,invoke,builtin,Sem.run_bind,Sem.run_pure,Result.andThen_ok,List.map_toArray,List.map_cons,List.map_nil,hs,hx,hr];exact hK _ _ (h v' w' h2 (A6t hi hz aa ac hp hy ae (by rw[ab];omega) hr) h3 h5)
theorem Dt.grown {E}{w w'}{n}{d}{a}{q}(h:Dt E w n d a q){base m:Nat}{v}{xs}(ab:w.ownsRow base 32 3 v m xs)(hp:A5v w v)(hn:n<base)(hg:w.grownBy w' v.ownBlock):Dt E w' n d a q:=by
 obtain⟨T,ac,tc,io,ic,po,pc,h1,h2⟩:=h;refine⟨T,ac,tc,io,ic,po,pc,?_,h2⟩;have hk:=Aaq (n:=0) hg;have hb:w'.heap[n]?=w.heap[n]?:=hg.block n h1.lt fun e=>by have:=(ab.lt n e.symm).1;omega
 cases hv:v.ownBlock with
 |none=>exact h1.keep (hk.mono fun k _=>⟨aK _,by rw[hv];simp⟩) hb
 |some g=>
  have hd:Dull w g:=by
   rcases ab.2 with⟨rfl,rfl⟩|⟨g',cap,cur,rfl,_,hg',_⟩
   ·cases hv
   ·cases hv;exact Pat.dull hg' (hp _ _ _ _ rfl hg')
  have aa:Keeps (fun k=>k∉E∧k≠g) w w':=hk.mono fun k h=>⟨aK _,by rw[hv];intro e;exact h.2 (Option.some.inj e)⟩
  exact⟨hb.trans h1.blk,((Axe hd h1.tabs).keep aa).mono fun k _ h=>h.1,((Axf hd h1.idxs).keep aa).mono fun k _ h=>h.1,((Ats hd h1.pages).keep aa).mono fun k _ h=>h.1,h1.good⟩
def A5t:Elem Rep where
 size:=3
 R F w r c:=∃rv,c=[O J r.code,O J r.n,rv]∧IsL C8 F w rv r.rows
 len h:=by obtain⟨_,rfl,_⟩:=h;rfl
 keep hk h:=by obtain⟨rv,h1,h2⟩:=h;exact⟨rv,h1,h2.keep hk⟩
 mono hk h:=by obtain⟨rv,h1,h2⟩:=h;exact⟨rv,h1,h2.mono hk⟩
def Jg:Db×Int→List Wd→List Rep
 |_,[]=>[]
 |s,t::l=>(doR s.1 s.2 t).1::Jg ((doR s.1 s.2 t).2.1,(doR s.1 s.2 t).2.2) l
theorem A51:∀(l:List Wd) (s:Db×Int) (t:Wd),Jg s (l++[t])=Jg s l++[(doR (I0 s l).1 (I0 s l).2 t).1]
 |[],_,_=>rfl
 |x::l,s,t=>by
  show(doR s.1 s.2 x).1::Jg _ (l++[t])=_;rw[A51 l _ t];rfl
theorem A52:∀(l:List Wd) (s:Db×Int) (t:Wd),I0 s (l++[t])=((doR (I0 s l).1 (I0 s l).2 t).2.1,(doR (I0 s l).1 (I0 s l).2 t).2.2)
 |[],_,_=>rfl
 |x::l,s,t=>by
  show I0 _ (l++[t])=_;rw[A52 l _ t];rfl
theorem A5s:∀(l:List Wd) (s:Db×Int),(Jg s l).length=l.length
 |[],_=>rfl
 |_::l,s=>by rw[Jg,aA,aA,A5s l]
theorem A53:∀(l:List Wd) (s:Db×Int) (k:Nat),Jg s (l.take k)=(Jg s l).take k
 |[],_,_=>by simp[Jg]
 |_::_,_,0=>by simp[Jg]
 |x::l,s,k+1=>by rw[aL,Jg,Jg,aL,A53 l]
def A6h (base:Nat)(z:U)(A:List Rep)(w:Z):Prop:=∃cs,w.ownsRow base 32 3 z A.length cs∧All A5t (FO base z) w A cs
theorem A6h.isL {base}{z}{A}{w}(h:A6h base z A w){F}(hF:∀k,base≤k→F k):IsL A5t F w z A:=by
 obtain⟨cs,h1,h2⟩:=h;exact⟨cs,Bq.of_own h1 hF,h2.mono fun k _ h=>hF k h.1⟩
theorem A6v {base}{z z'}{A}{cs}{r:Rep}{rv}{W w3}(aa:w3.ownsRow base 32 3 z' (A.length+1) (cs++[O J r.code,O J r.n,rv]))(ab:All A5t (FO base z) W A cs)(hL:IsL C8 (FO base z) W rv r.rows)(gr:W.grownBy w3 z.ownBlock)(ac:z'.ownBlock=z.ownBlock∨z'.ownBlock=G W.heap.size):
  A6h base z' (A++[r]) w3:=by
 have h1:All A5t (fun k=>FO base z k∧k<W.heap.size) W _ _:=All.append (ab.mono fun k hk h=>⟨h,hk⟩) (All.one ⟨rv,rfl,hL.mono fun k hk h=>⟨h,hk⟩⟩);refine⟨_,by rw[aE];exact aa,(h1.keep ((Aaq gr).mono fun k h=>h.1)).mono fun k _ h=>Uj ac k h.2 h.1⟩
theorem A5v.but {w w':Z}{v}{base m n:Nat}{xs}(h:A5v w v)(aa:w.ownsRow base 32 3 v m xs)(hb:But n w w')(hn:n<base):A5v w' v:=fun g ab t fr hv hg=>by
 have hl:=aa.lt g hv;exact h g ab t fr hv ((hb.block g hl.2 (by omega)).symm.trans hg)
theorem A68 (L:List Wd)(lo:Option Addr)(lc:Nat)(w:Z)(ag:Env w)(hl:An w (I lo L.length lc) L)(hL:L.length≤150):
  Calls Y 16 #[I lo L.length lc] w fun e w'=>∃rv,e=bN (.tuple #[rv,O J 0])∧IsL A5t (fun k=>w.heap.size≤k) w' rv (Jg (Ge,0) L)∧Below w.heap.size w w':=by
 have bd:Br [] w:=fun n hn=>by cases hn
 have HN:=Ari w;obtain⟨ah,af⟩:=Arj bd;have ar:=Aq w (aW #[I X 0 0,I X 0 0,I X 0 0,O J 0] 67);obtain⟨i0,be,bf,bg,bh⟩:=info_parts A6s;have h8:8≤w.heap.size:=ag.low;generalize w.alloc (aW #[I X 0 0,I X 0 0,I X 0 0,O J 0] 67)=W1 at HN ah af ar;generalize hn:w.heap.size=n at HN ah af h8;have cf:n<W1.heap.size:=af.lt;have bi:Hid _:=ag;have HL:Hid _:=hl;have hc:¬((150:Int)<(L.length:Int)):=by omega
 clear hl ag;go_enter Tryz.func16,Tryz.ntmps16;go_wp2_with(go_fit HN;rintro e w2 ⟨rfl,rfl⟩)
 go_loopw[5,14] (fun zv i wr=>∃(k:Nat) (d:Db) (a:Int),k≤L.length∧i=O J k∧Hid (A6h (n+1) zv (Jg (Ge,0) (L.take k)) wr∧A5v wr zv)∧Hid (I0 (Ge,0) (L.take k)=(d,a))∧Hid (Dt [n] wr n d a false)∧Hid (DbOk d)∧Hid (0≤a)∧Hid (Br [n] wr)∧Below w.heap.size w wr) (fun _ i _=>L.length-(intOf i).toNat)
 case atStart=>exact⟨0,Ge,0,aK _,rfl,⟨⟨[],bE _ _ _ _,rfl⟩,fun g cg t fr h=>by cases h⟩,rfl,af.weak,Aml,Int.le_refl _,ah,ar⟩
 case round=>
  obtain⟨k,d,a,hk,rfl,ai,au,av,bj,HA,bk,ac⟩:=hrel
  by_cases bl:k<L.length
  ·obtain⟨t,hx⟩:∃t,L[k]?=G t:=⟨_,aG bl⟩;obtain⟨ab,ao,ch,bm,bn,_,_,aw⟩:=An.at HL.out (by omega);cases bm;have y0:=aw k t hx;have y1:=(ac.cell bn).trans y0;obtain⟨ad,bX,-⟩:=al1 wr (aW #[bD t] 28);have x0:=Aa bX (j:=0) rfl;have aj:=U6 (hE:=Br.below bk.out ad) (show n∈[n] by simp) false (av.out.below ad) bj.out HA.out (bi.out.next (Ac ac ad)) (by omega) t;have ak:L.take (k+1)=L.take k++[t]:=by rw[List.take_add_one,hx];rfl
   have al:Hid (I0 (Ge,0) (L.take (k+1))=((doR d a t).2.1,(doR d a t).2.2)):=by show _=_;rw[ak,A52,au.out]
   have am:Hid (Jg (Ge,0) (L.take (k+1))=Jg (Ge,0) (L.take k)++[(doR d a t).1]):=by show _=_;rw[ak,A51,au.out]
   have an:Hid (0≤(doR d a t).2.2):=A3i t HA.out;have cj:(Jg (Ge,0) (L.take k)).length≤150:=by rw[A5s,aH];omega
   obtain⟨⟨cs,ae,ax⟩,ay⟩:=ai.out;have az:=ae.lt;have bo:Hid _:=ax;generalize doQ d a t false=q2 at aj;generalize doR d a t=p at aj al am an;obtain⟨⟨C,N,rows⟩,d2,a2⟩:=p;simp only at al am an;have v0:(0:Int)≤k:=by omega
   have v1:k<(L.length:Int):=by omega
   have ck:=ad.size;have cl:=av.out.lt;clear hx aw ak ax ai;go_wp2_with(first
    |(go_fit aj;rintro e w5 ⟨⟨rv,rfl,ba⟩,bp,bb,bq⟩;obtain⟨vo,vc,rfl⟩:=ba.shape;have ap:=Aq w5 (aW [O J C,O J N,I vo rows.length vc].toArray 32);have aa:=((But.of_below ad).trans bq).trans (But.of_below ap);have bt:n+1≤(w5.alloc (aW [O J C,O J N,I vo rows.length vc].toArray 32)).heap.size:=(by have:=aa.size;omega))
    |(at_builtin;go_must(refine A5u rfl _ _ rfl (n+1) i0 be bf bg bh _ _ _ rfl (U5 ae aa (aC n)) (ay.but ae aa (aC n)) _ 1 C N _ _ _ rfl (Cb w5 [O J C,O J N,I vo rows.length vc] 32) (by omega) bt ?h2)))
   case h2=>
    intro z2 w6 bu bv aq bw;have bx:=(ba.isL (F:=FO (n+1) u5) fun k hk=>⟨by omega,fun e=>by have:=(az k e.symm).2;omega⟩).keep (Ai ap);have bz:=All.keep (aa.keeps fun h=>by have:=h.1;omega) bo.out;have ca:=A6v (r:=⟨C,N,rows⟩) bu bz bx aq (by rw[World.size_alloc];exact bw);have bc:=(bp.weak.below ap).grown (U5 ae aa (aC n)) (ay.but ae aa (aC n)) (aC n) aq;have cb:Br [n] w6:=fun m hm=>by
     obtain rfl:m=n:=by simpa using hm
     obtain⟨T,cm,tc,io,ic,po,pc,h1,_⟩:=bc;exact⟨_,_,_,_,_,_,h1,bb.cat⟩
    have cc:Below w.heap.size w w6:=(ac.trans (aa.below (by omega) ac.size)).grown aq (by omega) fun k hk=>by have:=(az k hk).1;omega
    go_wp2_with fail;go_roundw
    case rel=>exact⟨k+1,d2,a2,by omega,by rfl,⟨by rw[am.out];exact ca,bv⟩,al.out,bc,bb,an.out,cb,cc⟩
    case measure=>simp[intOf];omega
  ·have cd:k=L.length:=by omega
   subst cd;have v1:¬(L.length<(L.length:Int)):=by omega
   obtain⟨h1,_⟩:=ai.out;rw[List.take_length]at h1;have ce:=h1.isL (F:=fun k=>n≤k) fun k hk=>by omega
   go_wp2;go_ret2;exact⟨_,rfl,ce,hn▸ac⟩
theorem A62:(Tryz.prog.info? 28).map (fun i=>(i.zero,i.size,i.bytes))=G (G (.agg #[bD ⟨#[]⟩]),1,16):=by kernel_rfl
theorem A5r {w}{ops}{rest}{o}{a}{Q}(ab:o.guard=X)(s x)
  (ho:o.op=.call {callee:=.builtin .append,args:=#[s,x],argTypes:=#[22,22]}) (hs:a.eval s=I X 0 0) (lo:Option Addr) (c:Nat) (M:List Wd) (hx:a.eval x=I lo M.length c) (hM:An w (I lo M.length c) M) (hl:M.length≤1000000)
  (h:∀ao c' w',An w' (I ao M.length c') M→Below w.heap.size w w'→wpList Y ops Q rest (a.put o.dst (I ao M.length c')) w'):wpList Y ops Q (o::rest) a w:=by
 obtain⟨i0,ac,ae,af,ag⟩:=info_parts A62;have aa:w.ownsRow w.heap.size 28 1 (I X 0 0) 0 []:=bE _ _ _ _;have fin:∀v' w',w'.ownsRow w.heap.size 28 1 v' M.length (M.map bD)→w.grownBy w' X→wpList Y ops Q rest (a.put o.dst v') w':=fun v' w' h1 h2=>by
  have h3:An w' v' M:=Ex.of_own h1;obtain⟨ao,c',rfl⟩:=Ex.shape h3;exact h ao c' w' h3 ((aN _ _).grown h2 (bC _) fun _ e=>by cases e)
 have ah:0+M.length≤aX:=by simp only[aX];omega
 rcases hM.2 with⟨h0,ao,cap,he,hnil⟩|⟨h0,b,off,cap,he,hb,_,_,hc⟩
 ·obtain rfl:M=[]:=List.eq_nil_of_length_eq_zero h0;cases he;cases lo with
  |none=>
   obtain rfl:=hnil rfl;exact wpList_append_own_none ab s x _ ho w.heap.size _ i0 1 aQ ac _ 0 [] hs aa hx (fin _ _ aa (Cm _ (aN _ _)))
  |some ad=>exact bK w ab s x _ ho w.heap.size _ i0 _ 1 16 aQ ac ae af ag rfl (by simp) _ 0 [] hs aa ad 0 c [] hx rfl (by simp) (by simp) (by simp[aX]) (by simp) (bC _) fun v' w' h1 h2 _ _=>fin v' w' (by simpa using h1) h2
 ·cases he;exact bK w ab s x _ ho w.heap.size _ i0 _ 1 16 aQ ac ae af ag rfl (by simp) _ 0 [] hs aa ⟨b,off,X⟩ M.length c (M.map .string) hx (by simp) (fun j u hj=>by rw[Addr.add_lit];exact hc j u hj) (by simp[aS]) ah (by omega) (bC _) fun v' w' h1 h2 _ _=>fin v' w' (by simpa using h1) h2
theorem A6w {w}{lo}{n c:Nat}{L:List Wd}(h:An w (I lo n c) L)(k:Nat)(hk:k≤L.length):An w (I lo (L.take k).length c) (L.take k):=by
 have hl:(L.take k).length=k:=by rw[aH];omega
 rw[hl];refine⟨by simp,?_⟩;rw[hl];rcases h.2 with⟨h0,ao,cap,he,hnil⟩|⟨h0,b,off,cap,he,hb,h1,h2,hc⟩
 ·simp only[aD]at he;obtain⟨rfl,_,rfl⟩:=he;exact .inl ⟨by omega,lo,c,by rw[show k=0 by omega],hnil⟩
 ·simp only[aD]at he;obtain⟨rfl,_,rfl⟩:=he;rcases bJ k with rfl|hp
  ·exact .inl ⟨rfl,_,_,rfl,fun e=>by cases e⟩
  ·refine .inr ⟨hp,b,off,c,rfl,hb,by omega,h2,fun j u hj=>hc j u ?_⟩;rw[List.map_take,bF]at hj;split at hj
   ·exact hj
   ·cases hj
theorem A7b (n:Nat)(h:n≤40)(q:Int):∃k:Nat,(bG (bG (q.tmod (n+1)+n)+1)).tmod (n+1)=k∧k≤n:=by
 have h1:=Int.tmod_lt_of_pos q (show(0:Int)<n+1 by omega);have h2:=Int.lt_tmod_of_pos q (show(0:Int)<n+1 by omega);have e1:bG (q.tmod (n+1)+n)=q.tmod (n+1)+n:=by unfold bG;omega
 have e2:bG (q.tmod (n+1)+n+1)=q.tmod (n+1)+n+1:=by unfold bG;omega
 rw[e1,e2];have h4:=Int.tmod_lt_of_pos (q.tmod (n+1)+n+1) (show(0:Int)<n+1 by omega);have h5:=Int.tmod_nonneg (n+1) (show(0:Int)≤q.tmod (n+1)+n+1 by omega);exact⟨((q.tmod (n+1)+n+1).tmod (n+1)).toNat,by omega,by omega⟩
theorem A6p (L:List Wd)(lo:Option Addr)(lc:Nat)(w:Z)(aa:Env w)(hl:An w (I lo L.length lc) L)(hL:L.length≤150):
  Calls Y 16 #[I lo L.length lc] w fun e w'=>∃ro rc,e=bN (.tuple #[I ro L.length rc,O J 0])∧IsL A5t (fun k=>w.heap.size≤k) w' (I ro L.length rc) (Jg (Ge,0) L)∧Below w.heap.size w w':=
 (A68 L lo lc w aa hl hL).mono fun e w' ⟨rv,he,h1,h2⟩=>by
  obtain⟨ro,rc,rfl⟩:=h1.shape;rw[A5s]at he h1;exact⟨ro,rc,he,h1,h2⟩
theorem A6m (L:List Wd)(lo:Option Addr)(lc:Nat)(q:Int)(w:Z)(ag:Env w)(hl:An w (I lo L.length lc) L)(cb:L.length≤9223372036854775807):
  Calls Y 5 #[I lo L.length lc,O J q] w fun e w'=>e=bN (.bool true)∧Below w.heap.size w w':=by
 have al:=Ax4 w ag;have am:Hid _:=ag
 by_cases cc:40<L.length
 ·have bl:(40:Int)<(L.length:Int):=by omega
  clear hl ag;go_enter Tryz.func5,Tryz.ntmps5;go_wp2_with(first
   |(go_fit al;rintro e w1 ⟨rfl,ac⟩;have bm:=Ax4 w1 (am.out.next ac))
   |(go_fit bm;rintro e w2 ⟨rfl,an⟩))
  go_ret;exact⟨rfl,Ac ac an⟩
 ·have bl:¬((40:Int)<(L.length:Int)):=by omega
  obtain⟨k,hk,bn⟩:=A7b L.length (by omega) q;have hM:=A6w hl k bn;have aw:(L.take k).length=k:=by rw[aH];omega
  have ap:Hid (Jg (Ge,0) (L.take k)=(Jg (Ge,0) L).take k):=A53 _ _ _;generalize L.take k=M at hM aw ap;subst aw;have HL:Hid _:=hl;have HM:Hid _:=hM;have ax:lo=X∧L.length=0∧lc=0∨∃ad,lo=G ad∧L.length≤lc:=by
   rcases hl.2 with⟨h0,ao,cap,he,hnil⟩|⟨h0,b,ah,cap,he,hb,h1,h2,hc⟩
   ·simp only[aD]at he;obtain⟨rfl,_,rfl⟩:=he;cases lo with
    |none=>exact .inl ⟨rfl,h0,hnil rfl⟩
    |some ad=>exact .inr ⟨ad,rfl,by omega⟩
   ·simp only[aD]at he;obtain⟨rfl,_,rfl⟩:=he;exact .inr ⟨_,rfl,h1⟩
  have k0:(0:Int)≤M.length:=by omega
  have k1:(M.length:Int)≤lc:=by rcases ax with⟨_,h1,h2⟩|⟨_,_,h1⟩<;>omega
  clear hl ag hM;go_enter Tryz.func5,Tryz.ntmps5;go_upto_region 4 with(go_fit al;rintro e w1 ⟨rfl,ac⟩)
  try rw[hk]
  clear hk al;go_upto_region 5 with(first
   |(at_builtin;go_must(refine A5r rfl _ _ rfl rfl lo lc L rfl (An.below HL.out ac) (by omega) ?_;intro bo c2 w2 ay an;have az:=Ac ac an;have ba:=A6p L bo c2 w2 (am.out.next az) ay (by omega)))
   |(go_fit ba;rintro e w3 ⟨r1,c1,rfl,bb,bp⟩))
  have bc:=Ac az bp;have bd:Hid (IsL A5t (fun k=>w2.heap.size≤k) w3 (I r1 L.length c1) (Jg (Ge,0) L)):=bb;clear ba bb ay;rcases ax with⟨rfl,h0,rfl⟩|⟨ad,rfl,hcl⟩
  all_goals
   go_upto_region 6 with(first
    |(at_builtin;go_must(refine A5r rfl _ _ rfl rfl _ _ M rfl (An.below HM.out bc) (by omega) ?_;intro bq c4 w4 be bf;have bg:=Ac bc bf;have bh:=A6p M bq c4 w4 (am.out.next bg) be (by omega)))
    |(go_fit bh;rintro e w5 ⟨r2,c5,rfl,bi,bj⟩))
   have bk:=Ac bg bj;have HA:Hid (IsL A5t (fun k=>w2.heap.size≤k) w5 (I r1 L.length c1) (Jg (Ge,0) L)):=IsL.keep bd.out (Ai (Ac bf bj));have HB:Hid (IsL A5t (fun k=>w4.heap.size≤k) w5 (I r2 M.length c5) ((Jg (Ge,0) L).take M.length)):=by rw[←ap.out];exact bi
   have bt:(Jg (Ge,0) L).length=L.length:=A5s _ _;clear bh bi be bd ap HL HM;generalize Jg (Ge,0) L=R at HA HB bt;go_wp2
   go_loopw[9] (fun i wr=>∃k:Nat,k≤M.length∧i=O J k∧Below w5.heap.size w5 wr) (fun i _=>M.length-(intOf i).toNat)
   case atStart=>exact⟨0,aK _,rfl,aN _ _⟩
   case round=>
    obtain⟨k,hk,rfl,aa⟩:=hrel
    by_cases bu:k<M.length
    ·first
     |(exfalso;omega)
     |(
       obtain⟨r,hr⟩:∃r,R[k]?=G r:=⟨_,aG (by omega)⟩;obtain⟨b,ah,cs,aq,_,ai,⟨rv,rfl,hv⟩,ae⟩:=At HA.out hr;cases aq;obtain⟨b2,ar,cd,aq,_,aj,⟨ce,rfl,ak⟩,af⟩:=At HB.out (show(R.take M.length)[k]?=G r by rw[List.getElem?_take_of_lt bu];exact hr);cases aq;obtain⟨vo,vc,rfl⟩:=hv.shape;obtain⟨bv,bw,rfl⟩:=ak.shape;obtain⟨C,N,rows⟩:=r;simp only at hv ak ae af;have d0:=(aa.cell ai).trans (ae 0 _ rfl);have d1:=(aa.cell ai).trans (ae 1 _ rfl);have d2:=(aa.cell ai).trans (ae 2 _ rfl);have e0:=(aa.cell aj).trans (af 0 _ rfl);have e1:=(aa.cell aj).trans (af 1 _ rfl);have e2:=(aa.cell aj).trans (af 2 _ rfl);simp only[A5t,Nat.add_zero]at d0 d1 d2 e0 e1 e2;have au:=bI ai aa.size;have av:=bI aj aa.size;have bx:=fun W (h:Below wr.heap.size wr W)=>Yb C N rows _ _ _ _ W ((hv.keep (Ai aa)).keep (Ai h)) ((ak.keep (Ai aa)).keep (Ai h))
       have v0:(0:Int)≤k:=by omega
       have v1:(k:Int)<(M.length:Int):=by omega
       have v2:(k:Int)<(L.length:Int):=by omega
       have cf:=Ac bk aa;clear ae af hr hv ak;go_upto_region 11 with fail;refine wp_region_held_drew (S:=(fun W=>W.cell? ⟨b,ah+k*3,X⟩=G (O J C)∧W.cell? ⟨b,ah+k*3+1,X⟩=G (O J N)∧W.cell? ⟨b,ah+k*3+2,X⟩=G (I vo rows.length vc)∧W.cell? ⟨b2,ar+k*3,X⟩=G (O J C)∧W.cell? ⟨b2,ar+k*3+1,X⟩=G (O J N)∧W.cell? ⟨b2,ar+k*3+2,X⟩=G (I bv rows.length bw))) (by rfl) ?_ (fun hHeld=>?_)
       ·simp_all
       refine tk 0 ?_;refine tk 1 ?_;refine tk 2 ?_;refine tk 3 ?_;refine tk 4 ?_;refine tk 5 ?_;refine tk 6 ?_;refine tk 7 ?_;refine Bi 8 (fun K hK=>?_);go_simp;refine(bx _ (aN _ _).drew).mono ?_;rintro e w7 ⟨rfl,bz⟩;have ab:=Ac (aN _ _).drew bz;go_wp2_with fail;refine hK.out _ _ ?_ (fun hHeld=>?_)
       ·exact⟨(ab.cell au).trans d0,(ab.cell au).trans d1,(ab.cell au).trans d2,(ab.cell av).trans e0,(ab.cell av).trans e1,(ab.cell av).trans e2⟩
       clear hK K;refine tk 9 ?_;refine wpAnyH_done (by kernel_rfl) ?_ _;go_wp2_with fail;go_roundw
       case rel=>exact⟨k+1,by omega,by rfl,Ac aa ab⟩
       case measure=>simp[intOf];omega)
    ·have ca:k=M.length:=by omega
     subst ca;have v1:¬(M.length<(M.length:Int)):=by omega
     go_wp2;go_ret;exact⟨rfl,Ac bk aa⟩
end
section
open Go.RowKit Go.Deep
section
variable {H:Type}{enc:bA×U→H}{w:Z}{base:Nat}{spare:Nat→Bool}{held:Bool}
end
end
section
theorem A04 {H}(d:aU H):1≤Rows.uptoBulk d:=by
 cases d with
 |lit l=>cases l<;>simp[Rows.uptoBulk]
 |nil=>simp[Rows.uptoBulk]
 |ptr d=>simp[Rows.uptoBulk]
 |slice elems spare=>simp[Rows.uptoBulk]
 |agg parts=>simp[Rows.uptoBulk]
 |iface t d=>simp[Rows.uptoBulk]
 |map entries=>simp[Rows.uptoBulk]
 |held h=>simp[Rows.uptoBulk]
theorem Ap8 {H}(l:List (aU H)):l.length≤Rows.uptoBulkAll l:=by
 induction l with
 |nil=>simp
 |cons x r ih=>have:=A04 x;simp only[Rows.uptoBulkAll,aA];omega
end
section
open Go.RowKit Go.Deep Go.ChangeShapes
section
variable {H:Type}{enc:bA×U→H}{w:Z}{base:Nat}{spare:Nat→Bool}{held:Bool}
theorem A05 (a b:List (aU H)):Rows.uptoBulkAll (a++b)=Rows.uptoBulkAll a+Rows.uptoBulkAll b:=by
 induction a with
 |nil=>simp[Rows.uptoBulkAll]
 |cons x r ih=>simp only[List.cons_append,Rows.uptoBulkAll,ih];omega
theorem Arm {D:Nat→aU H}:∀(n i:Nat),i<n→Rows.uptoBulk (D i)≤Rows.uptoBulkAll ((aB n).map D)
 |n+1,i,h=>by
  rw[aI,bM,A05];rcases bH (Nat.lt_succ_iff.1 h)with h1|h1
  ·have:=Arm (D:=D) n i h1;omega
  ·subst h1;simp[Rows.uptoBulkAll]
theorem Ai0 {α:Type}{K:Elem α}{F:Nat→Prop}{f:Nat→α}{g:Nat→List U}:∀n:Nat,(∀i,i<n→K.R F w (f i) (g i))→All K F w ((aB n).map f) ((aB n).flatMap g)
 |0,_=>rfl
 |n+1,h=>by
  rw[aI,bM,aM];refine All.append (Ai0 n fun i hi=>h i (by omega)) ?_;have:=All.one (h n (by omega));grind
theorem Xb {g:Nat→List U}{s}:∀(n:Nat),(∀i,i<n→(g i).length=s)→((aB n).flatMap g).length=n*s
 |0,_=>by simp
 |n+1,h=>by
  rw[aI,aM,aE,Xb n fun i hi=>h i (by omega)];grind
theorem Ant {g:Nat→List U}{s:Nat}:∀(n i:Nat),(∀i,i<n→(g i).length=s)→i<n→∀j,j<s→((aB n).flatMap g)[i*s+j]?=(g i)[j]?
 |n+1,i,h,hi,j,hj=>by
  have hl:=Xb (g:=g) n fun i hi=>h i (by omega)
  rw[aI,aM];rcases bH (Nat.lt_succ_iff.1 hi)with h1|h1
  ·rw[aV (by rw[hl];have:=Nat.mul_le_mul_right s (show i+1≤n from h1);grind)];exact Ant n i (fun i hi=>h i (by omega)) h1 j hj
  simp_all
theorem Ai1 {α:Type}(d0:α)(K:Elem α)(t et:bA)(hu:Tryz.prog.underlying t=G (.slice et))(hc:Tryz.prog.cellsOf et=K.size)(hK:0<K.size)(B:Nat)(Q:α→Prop)
  (ah:∀(ab:Nat) (cs:List U) (x:aU H×List bL),Rows.uptoBulk x.1≤B→aT enc Y w base spare held ab et cs=G x→∃a,K.R (fun k=>k<w.heap.size) w a cs∧Q a)
  {ab:Nat}{sv:U}{x:aU H×List bL}(hB:Rows.uptoBulk x.1≤B) (h:aT enc Y w base spare held ab t [sv]=G x):
  ∃l:List α,IsL K (fun k=>k<w.heap.size) w sv l∧(∀a∈l,Q a)∧l.length≤Rows.uptoBulk x.1:=by
 rcases open_slice hu h with⟨hcs,rfl⟩|⟨ad,len,cap,m,n5,D,Pl,hcs,hb,hlc,hm,hmm,rfl,hxx⟩
 ·simp only[aP,and_true]at hcs;subst hcs;exact⟨[],IsL.nil K _ w,by simp,aK _⟩
 ·simp only[aP,and_true]at hcs;subst hcs;have ap:len≤m:=by rw[hmm];split<;>omega
  have ai:Rows.uptoBulkAll ((aB len).map D)≤B:=by simp only[Rows.uptoBulk]at hB;omega
  have aq:len≤Rows.uptoBulkAll ((aB len).map D):=by have:=Ap8 ((aB len).map D);simpa using this
  have e1:∀i,i<len→∃r:α×List U,K.R (fun k=>k<w.heap.size) w r.1 r.2∧Q r.1∧∀j u,r.2[j]?=G u→w.cell? (ad.add (i*K.size+j))=G u:=by
   intro i hi;obtain⟨ae,h1,h2⟩:=hxx i (by omega);rw[hc]at h1;obtain⟨_,ar,aj⟩:=World.cells?_some h1;obtain⟨a,ha,hq⟩:=ah n5 ae (D i,Pl i) (Nat.le_trans (Arm len i hi) ai) h2;refine⟨(a,ae),ha,hq,fun j u hj=>?_⟩;have ac:=(aF.1 hj).1;simp only at ac;have:=aj j (by omega);rw[add_add]at this;rw[this];exact hj
  have:Inhabited (α×List U):=⟨(d0,[])⟩;obtain⟨f,hf⟩:=choose_lt e1;refine⟨(aB len).map fun i=>(f i).1,⟨(aB len).flatMap fun i=>(f i).2,?_,Ai0 len fun i hi=>(hf i hi).1⟩,?_,?_⟩
  ·have aa:∀i,i<len→(f i).2.length=K.size:=fun i hi=>K.len (hf i hi).1
   refine⟨by rw[Xb len aa];simp,?_⟩;rcases bJ len with rfl|hpos
   ·grind
   ·obtain⟨b,ak,au⟩:=ad;obtain⟨u0,al⟩:∃u,(f 0).2[0]?=G u:=⟨_,aG (by rw[aa 0 hpos];exact hK)⟩;have af:=(hf 0 hpos).2.2 0 u0 al;have am:=by simpa[Addr.add]using World.cell?_spot af
    subst am;have ag:=by have:=block_lt_of_cell af;simpa[Addr.add]using this
    refine .inr ⟨by simpa using hpos,b,ak,cap,by simp,ag,ag,by simpa using hlc,hm,fun j u hj=>?_⟩;have ac:=(aF.1 hj).1;rw[Xb len aa]at ac;have hi:j/K.size<len:=Nat.div_lt_of_lt_mul (by grind);have an:j%K.size<K.size:=Nat.mod_lt _ hK;have ej:j/K.size*K.size+j%K.size=j:=by rw[Nat.mul_comm];exact Nat.div_add_mod j K.size
    rw[←ej,Ant len _ aa hi _ an]at hj;have:=(hf _ hi).2.2 _ u hj;rw[Addr.add_lit,ej]at this;omega
  ·grind
  ·simp only[Rows.uptoBulk,List.length_map,List.length_range];omega
end
end
section
open Go.ChangeShapes Go.WideShapes Go.ChangeAt Go.RowKit Go.Joins
theorem Tp:Tryz.prog.cellsOf 28=1:=by kernel_rfl
theorem Aff:Tryz.prog.cellsOf 9=1:=by kernel_rfl
theorem Arn:∃f0:Field,Tryz.prog.underlying 28=G (.struct #[f0])∧f0.offset=0∧f0.type=9:=
 ⟨_,Tryz.underlying28,rfl,rfl⟩
theorem Ai2 {H:Type}{enc:bA×U→H}{w:Z}{base:Nat}{aa:Nat→Bool}{held:Bool}{ab:Nat}{cs:List U}{x:aU H×List bL}
  (hf:aT enc Y w base aa held ab 28 cs=G x):∃t:Wd,Nz.R (fun k=>k<w.heap.size) w t cs∧True:=by
 obtain⟨d,p⟩:=x;obtain⟨f0,hu,o0,t0⟩:=Arn;obtain⟨y0,n,_,hl,h0⟩:=trod_struct1 hu hf;rw[Tp]at hl;rw[o0,t0,Aff]at h0
 match cs,hl with
 |[c0],_=>
  simp only[List.drop_zero,aL,List.take_zero]at h0;obtain⟨s,e2,_,hs⟩:=DataW.trod_string Tryz.underlying9 h0;simp only[aP,and_true]at e2;subst e2;exact⟨s,rfl,trivial⟩
theorem Aro {F:Nat→Prop}{w:Z}{sv:U}{l:List Wd}(h:IsL Nz F w sv l):An w sv l:=by
 obtain⟨cs,h1,h2⟩:=h;have e:∀{l:List Wd}{cs:List U},All Nz F w l cs→cs=l.map bD:=by
  intro l
  induction l with
  |nil=>intro cs h;exact h
  |cons a l ih=>
   rintro cs ⟨c,rest,rfl,h3,h4⟩;obtain rfl:c=_:=h3;rw[ih h4];rfl
 have:=h1.row;rw[e h2]at this;exact this
theorem Zq {w:Z}{g:Nat}{t:bA}{zero:Array U}(h:w.ShapedOpen Y)(hg:g<Tryz.prog.globals.size)
  (h0:((begin Y (fun _ _=>0) default).world.heap[g]?).bind Obj.row? =G (zero,t)) (hz:zero.size=1)
  (hb:Tryz.prog.buildable t=true) (hc:Tryz.prog.cellTypes Tryz.prog.depth t=G [t]) (hu:Tryz.prog.underlying t=G (.int .i64)):∃m,w.cell? ⟨g,0,X⟩=G (.int .i64 m):=by
 obtain⟨cs,hh,hs,hr⟩:=h.1 g zero t hg h0;obtain⟨ts,ab,_,ac⟩:=hr hb;rw[hc]at ab;cases ab;have h1:0<cs.size:=by omega
 obtain⟨u,ad,aa⟩:=ac 0 cs[0] (by simp[h1]);have:u=t:=by simpa using ad.symm
 subst this;have ae:w.cell? ⟨g,0,X⟩=G cs[0]:=by simp[aY,hh,h1]
 rw[ae];unfold Cell.ok at aa;rw[hu]at aa;cases hv:cs[0]<;>rw[hv]at aa<;>first|(simp at aa;obtain⟨rfl,_⟩:=aa;exact⟨_,rfl⟩)|simp at aa
theorem Rh {W:Z}{n:String}{nm:String}{d:aU Unit}{g:Nat}{t:bA}{ms:Array (String×bA)}{cs:Array U}{aa:Nat}{p:List bL}(hg:Tryz.prog.globalNamed n=G g)(hi:Tryz.prog.underlying t=G (.interface ms))
  (ab:W.var? Y n=G cs) (hd:aT (fun _=>()) Y W 0 (fun _=>true) false aa t cs.toList=G (.iface nm d,p)):∃u v,W.cell? ⟨g,0,X⟩=G (.iface u v):=by
 obtain⟨f',u,v,e,_⟩:=iface_of_trod hi hd;have hc:=World.var?_cell hg ab 0;have:cs[0]?=G (.iface u v):=by rw[←Array.getElem?_toList,e];rfl
 rw[this]at hc;exact⟨u,v,hc⟩
def A5n:aU Unit→U
 |.lit (.int k n)=>.int k n
 |_=>undef
def Cu:aU Unit→List U
 |.agg l=>l.map A5n
 |_=>[]
def Nt:aU Unit→List U
 |.agg l=>l.flatMap Cu
 |_=>[]
end
end Go.Proofs.YtocegbpmmiabmaaGreatDoor

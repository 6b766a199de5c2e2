/-
  2 texts of this proof in one, in build order: BSame, BFit.
-/
import Derived.Deep.RegionHeld3
import Derived.Deep.LoopGhost
import Derived.Deep.Cut
import Derived.Deep.CutRange
import Derived.Test.YtmgkcjiejmhgcaaGreatDoorJ02
import Derived.Test.YtmgkcjiejmhgcaaGreatDoorJ27
import Derived.Test.YtmgkcjiejmhgcaaGreatDoorJ28
set_option linter.unusedSimpArgs false
set_option linter.unusedVariables false
namespace Go.Proofs.YtmgkcjiejmhgcaaGreatDoor
open Go.RowKit
def Qn (e :E) :Prop := ∀ (F F' :Nat→Prop) (w :World) (v v' :Value),IsE F w e v→IsE F' w e v'→Calls Tryz.prog 31 #[v,v'] w fun r w'=>r= .returned (.bool true) ∧Below w.heap.size w w'
def Rw (l :List E) :Prop := ∀ (F F' :Nat→Prop) (w :World) (v v' :Value),Gj F w v l→Gj F' w v' l→Calls Tryz.prog 30 #[v,v'] w fun r w'=>r= .returned (.bool true) ∧Below w.heap.size w w'
set_option maxRecDepth 100000 in
set_option maxHeartbeats 2000000 in
theorem Td (op :Int) (x :V) (s name :Wd) (n :Int) (l :List E) (hl :Rw l) :Qn (.mk op x s name n l) :=by
 intro F F' w v v' h1 h2
 obtain ⟨sv,rfl,h3⟩ :=h1.open
 obtain ⟨sv',rfl,h4⟩ :=h2.open
 obtain ⟨ao,cap,rfl⟩ :=h3.shape
 obtain ⟨ao',cap',rfl⟩ :=h4.shape
 obtain ⟨xk,xn,xs⟩ :=x
 have hb :Below w.heap.size w ((w.alloc (.cells (Ad op ⟨xk,xn,xs⟩ s name n (.slice ao l.length cap)) 34)).alloc (.cells (Ad op ⟨xk,xn,xs⟩ s name n (.slice ao' l.length cap')) 34)) :=Bz _ _ _
 have SE :=hl F F' _ _ _ (h3.keep (Ar hb)) (h4.keep (Ar hb))
 go_enter Tryz.func31,Tryz.ntmps31
 go_wp2_with (go_at_call 30;go_must (go_fit SE;rintro e w1 ⟨rfl,hb1⟩))
 go_ret
 exact ⟨rfl,hb.trans (hb1.mono hb.size)⟩
set_option maxRecDepth 100000 in
set_option maxHeartbeats 4000000 in
theorem L3 (l :List E) (h : ∀e∈l,Qn e) :Rw l :=by
 intro F F' w v v' ⟨cs,hr,ha⟩ ⟨cs',hr',ha'⟩
 obtain ⟨ao,cap,rfl⟩ :=hr.shape
 obtain ⟨ao',cap',rfl⟩ :=hr'.shape
 have hlen :l.length≤maxLen :=by
  rcases hr.2 with ⟨h1,_⟩ | ⟨_,b',o',c',he,_,_,h5,h6,_⟩
  ·rw [h1];exact Nat.zero_le _
  ·omega
 unfold maxLen at hlen
 have q0 : ((l.length :Int) == (l.length :Int)) =true :=by simp
 go_enter Tryz.func30,Tryz.ntmps30
 go_wp2_with fail
 go_loopg [13] l.length (fun f i wr=> ∃k :Nat,i= .int .i64 k∧k+f=l.length∧Below w.heap.size w wr)
 case atStart=>exact ⟨0,rfl,by simp,Below.refl _ _⟩
 case round=>
  obtain ⟨k,rfl,hkf,hB⟩ :=hrel
  by_cases hlt :k<l.length
  ·obtain ⟨e,he⟩ : ∃e,l[k]? =some e := ⟨_,List.getElem?_eq_getElem hlt⟩
   obtain ⟨b,off,hceq⟩ : ∃b off,ao=some ⟨b,off,none⟩ :=by
    rcases hr.2 with ⟨h1,_⟩ | ⟨_,b',o',c',he',_⟩
    ·omega
    ·cases he';exact ⟨b',o',rfl⟩
   obtain ⟨b1,off1,hceq1⟩ : ∃b off,ao'=some ⟨b,off,none⟩ :=by
    rcases hr'.2 with ⟨h1,_⟩ | ⟨_,b',o',c',he',_⟩
    ·omega
    ·cases he';exact ⟨b',o',rfl⟩
   subst hceq hceq1
   obtain ⟨xo,xk,xn,xs2,xs,xm,xi,xa,xl,xc,hx,kx⟩ :=Qq hr ha he
   obtain ⟨yo,yk,yn,ys2,ys,ym,yi,ya,yl,yc,hy,ky⟩ :=Qq hr' ha' he
   have SE :=h e (List.mem_of_getElem? he) F F' wr.drew _ _ (IsE.keep (Ar hB.drew) _ _ hx) (IsE.keep (Ar hB.drew) _ _ hy)
   have KS :Hid (∀V,Below w.heap.size w V→V.cell? ⟨b,off+k*8,none⟩ =some (.int .i64 xo) ∧V.cell? ⟨b,off+k*8+1,none⟩ =some (.int .i64 xk) ∧V.cell? ⟨b,off+k*8+2,none⟩ =some (.int .i64 xn) ∧V.cell? ⟨b,off+k*8+3,none⟩ =some (.string xs2) ∧V.cell? ⟨b,off+k*8+4,none⟩ =some (.string xs) ∧V.cell? ⟨b,off+k*8+5,none⟩ =some (.string xm) ∧V.cell? ⟨b,off+k*8+6,none⟩ =some (.int .i64 xi) ∧V.cell? ⟨b,off+k*8+7,none⟩ =some (.slice xa xl xc) ∧V.cell? ⟨b1,off1+k*8,none⟩ =some (.int .i64 yo) ∧V.cell? ⟨b1,off1+k*8+1,none⟩ =some (.int .i64 yk) ∧V.cell? ⟨b1,off1+k*8+2,none⟩ =some (.int .i64 yn) ∧V.cell? ⟨b1,off1+k*8+3,none⟩ =some (.string ys2) ∧V.cell? ⟨b1,off1+k*8+4,none⟩ =some (.string ys) ∧V.cell? ⟨b1,off1+k*8+5,none⟩ =some (.string ym) ∧V.cell? ⟨b1,off1+k*8+6,none⟩ =some (.int .i64 yi) ∧V.cell? ⟨b1,off1+k*8+7,none⟩ =some (.slice ya yl yc)) :=fun V hV=>by
    obtain ⟨a0,a1,a2,a3,a4,a5,a6,a7⟩ :=kx V hV
    exact ⟨a0,a1,a2,a3,a4,a5,a6,a7,ky V hV⟩
   have j0 : (0 :Int) ≤ (k :Int) :=by omega
   have j1 : (k :Int) < (l.length :Int) :=by omega
   clear hx hy kx ky hr ha hr' ha' he h
   generalize l.length=nn at*
   clear l
   go_upto_region 6 with fail
   go_region_held3 (fun V=>V.cell? ⟨b,off+k*8,none⟩ =some (.int .i64 xo) ∧V.cell? ⟨b,off+k*8+1,none⟩ =some (.int .i64 xk) ∧V.cell? ⟨b,off+k*8+2,none⟩ =some (.int .i64 xn) ∧V.cell? ⟨b,off+k*8+3,none⟩ =some (.string xs2) ∧V.cell? ⟨b,off+k*8+4,none⟩ =some (.string xs) ∧V.cell? ⟨b,off+k*8+5,none⟩ =some (.string xm) ∧V.cell? ⟨b,off+k*8+6,none⟩ =some (.int .i64 xi) ∧V.cell? ⟨b,off+k*8+7,none⟩ =some (.slice xa xl xc) ∧V.cell? ⟨b1,off1+k*8,none⟩ =some (.int .i64 yo) ∧V.cell? ⟨b1,off1+k*8+1,none⟩ =some (.int .i64 yk) ∧V.cell? ⟨b1,off1+k*8+2,none⟩ =some (.int .i64 yn) ∧V.cell? ⟨b1,off1+k*8+3,none⟩ =some (.string ys2) ∧V.cell? ⟨b1,off1+k*8+4,none⟩ =some (.string ys) ∧V.cell? ⟨b1,off1+k*8+5,none⟩ =some (.string ym) ∧V.cell? ⟨b1,off1+k*8+6,none⟩ =some (.int .i64 yi) ∧V.cell? ⟨b1,off1+k*8+7,none⟩ =some (.slice ya yl yc))
    (with_reducible first | exact KS.out _ hB.drew | exact KS.out _ hz)
    ((go_at_call 31;refine (SE).mono ?_;rintro e w2 ⟨rfl,hb2⟩;have hz :Below w.heap.size w w2 :=hB.drew.trans (hb2.mono hB.size)))
   go_wp2_with fail
   go_roundg (gk - 1)
   case measure=>omega
   case rel=>exact ⟨k+1,by go_num,by omega,hz⟩
  ·have j1 : ¬ (k :Int) < (l.length :Int) :=by omega
   clear hr ha hr' ha' h
   go_wp2_with fail
   go_ret
   exact ⟨rfl,hB⟩
mutual
theorem Ni : ∀e :E,Qn e
 | .mk op x s name n l=>Td op x s name n l (L3 l (L4 l))
theorem L4 : ∀ (l :List E),∀e∈l,Qn e
 | [],_,h=>absurd h (by simp)
 | a ::l,e,h=> (List.mem_cons.1 h).elim (fun he=>he▸Ni a) (fun h=>L4 l e h)
end
theorem Ur (l :List E) :Rw l :=L3 l (L4 l)
theorem Fo {α :Type} {K :Elem α} {F :Nat→Prop} {w :World} {ao :Option Addr} {n cap :Nat} {l :List α} (h :IsL K F w (.slice ao n cap) l) {k :Nat} {x :α} (hk :l[k]? =some x) :
  ∃b off c,ao=some ⟨b,off,none⟩ ∧K.R F w x c∧ ∀V,Below w.heap.size w V→ ∀j u,c[j]? =some u→V.cell? ⟨b,off+k*K.size+j,none⟩ =some u :=by
 obtain ⟨cs,hr,ha⟩ :=h
 obtain ⟨c,c2,c3⟩ :=L9 ha hk
 have h0 :0<l.length :=by have := (List.getElem?_eq_some_iff.1 hk).1;omega
 rcases hr.2 with ⟨h1,_⟩ | ⟨_,b',o',c',he,_,hlt,_,_,hcell⟩
 ·omega
 ·cases he
  refine ⟨b',o',c,rfl,c2,fun V hV j u hj=> ?_⟩
  rw [Nat.add_assoc]
  exact (hV.cell (p := ⟨b',o'+ (k*K.size+j),none⟩) hlt).trans (hcell _ u (c3 j u hj))
theorem Mh {α :Type} {K :Elem α} {F :Nat→Prop} {w :World} {sv :Value} {l :List α} (h :IsL K F w sv l) :l.length≤maxLen :=by
 obtain ⟨cs,hr,_⟩ :=h
 rcases hr.2 with ⟨h1,_⟩ | ⟨_,b',o',c',he,_,_,h5,h6,_⟩
 ·rw [h1];exact Nat.zero_le _
 ·omega
set_option maxRecDepth 100000 in
set_option maxHeartbeats 4000000 in
theorem Rx (F F' :Nat→Prop) (w :World) (st :Stm) (c c' :List Value) (h :Abs.R F w st c) (h' :Abs.R F' w st c') :
  Calls Tryz.prog 8 #[.agg c.toArray, .agg c'.toArray] w fun r w'=>r= .returned (.bool true) ∧Below w.heap.size w w' :=by
 obtain ⟨cols,rows,sets,frm,out,w8,order,rfl,h8,k1,k2,k3,k4,k5,k6,k7⟩ :=h.is
 obtain ⟨cols',rows',sets',frm',out',w8',order',rfl,h8',k1',k2',k3',k4',k5',k6',k7'⟩ :=h'.is
 obtain ⟨kind,name,table,col,lc,lr,ls,lf,lo,ew,lo2,down,n⟩ :=st
 simp only at k1 k2 k3 k4 k5 k6 k7 k1' k2' k3' k4' k5' k6' k7'⊢
 obtain ⟨a0,p0,rfl⟩ :=k1.shape
 obtain ⟨b0,q0,rfl⟩ :=k1'.shape
 obtain ⟨a1,p1,rfl⟩ :=k2.shape
 obtain ⟨b1,q1,rfl⟩ :=k2'.shape
 obtain ⟨a2,p2,rfl⟩ :=k3.shape
 obtain ⟨b2,q2,rfl⟩ :=k3'.shape
 obtain ⟨a3,p3,rfl⟩ :=k4.shape
 obtain ⟨b3,q3,rfl⟩ :=k4'.shape
 obtain ⟨a4,p4,rfl⟩ :=k5.shape
 obtain ⟨b4,q4,rfl⟩ :=k5'.shape
 obtain ⟨a6,p6,rfl⟩ :=k7.shape
 obtain ⟨b6,q6,rfl⟩ :=k7'.shape
 obtain ⟨op,⟨xk,xn,xs⟩,s2,nmv,n8,a5,l5,p5,hw⟩ :=k6.shape
 obtain ⟨op',⟨xk',xn',xs'⟩,s2',nmv',n8',b5,l5',q5,hw'⟩ :=k6'.shape
 have e8 :w8= [.int .i64 op, .int .i64 xk, .int .i64 xn, .string xs, .string s2, .string nmv, .int .i64 n8, .slice a5 l5 p5] :=by have :=congrArg Array.toList (Value.agg.inj hw);simpa using this
 have e8' :w8'= [.int .i64 op', .int .i64 xk', .int .i64 xn', .string xs', .string s2', .string nmv', .int .i64 n8', .slice b5 l5' q5] :=by have :=congrArg Array.toList (Value.agg.inj hw');simpa using this
 subst e8 e8'
 clear hw hw' h8 h8'
 simp only [T3,List.cons_append,List.nil_append]
 generalize hW : (w.alloc (.cells #[.int .i64 kind, .string name, .string table, .string col, .slice a0 lc.length p0, .slice a1 lr.length p1, .slice a2 ls.length p2, .slice a3 lf.length p3, .slice a4 lo.length p4, .int .i64 op, .int .i64 xk, .int .i64 xn, .string xs, .string s2, .string nmv, .int .i64 n8, .slice a5 l5 p5, .slice a6 lo2.length p6, .bool down, .int .i64 n] 36)).alloc (.cells #[.int .i64 kind, .string name, .string table, .string col, .slice b0 lc.length q0, .slice b1 lr.length q1, .slice b2 ls.length q2, .slice b3 lf.length q3, .slice b4 lo.length q4, .int .i64 op', .int .i64 xk', .int .i64 xn', .string xs', .string s2', .string nmv', .int .i64 n8', .slice b5 l5' q5, .slice b6 lo2.length q6, .bool down, .int .i64 n] 36) =W
 have HW :Hid _ :=hW
 have hb0 :Below w.heap.size w W :=by rw [←hW];exact Bz _ _ _
 have bA :W.heap[w.heap.size]? =some (.cells #[.int .i64 kind, .string name, .string table, .string col, .slice a0 lc.length p0, .slice a1 lr.length p1, .slice a2 ls.length p2, .slice a3 lf.length p3, .slice a4 lo.length p4, .int .i64 op, .int .i64 xk, .int .i64 xn, .string xs, .string s2, .string nmv, .int .i64 n8, .slice a5 l5 p5, .slice a6 lo2.length p6, .bool down, .int .i64 n] 36) :=by rw [←hW];exact Ae (Ab w _) _
 have bB :W.heap[w.heap.size+1]? =some (.cells #[.int .i64 kind, .string name, .string table, .string col, .slice b0 lc.length q0, .slice b1 lr.length q1, .slice b2 ls.length q2, .slice b3 lf.length q3, .slice b4 lo.length q4, .int .i64 op', .int .i64 xk', .int .i64 xn', .string xs', .string s2', .string nmv', .int .i64 n8', .slice b5 l5' q5, .slice b6 lo2.length q6, .bool down, .int .i64 n] 36) :=by rw [←hW];exact A0 w _ _
 clear hW
 have HA :Hid (∀V,Below W.heap.size W V→V.heap[w.heap.size]? =some (.cells #[.int .i64 kind, .string name, .string table, .string col, .slice a0 lc.length p0, .slice a1 lr.length p1, .slice a2 ls.length p2, .slice a3 lf.length p3, .slice a4 lo.length p4, .int .i64 op, .int .i64 xk, .int .i64 xn, .string xs, .string s2, .string nmv, .int .i64 n8, .slice a5 l5 p5, .slice a6 lo2.length p6, .bool down, .int .i64 n] 36)) :=fun V hV=> (hV.block _ (lt_of_block bA)).trans bA
 have HB :Hid (∀V,Below W.heap.size W V→V.heap[w.heap.size+1]? =some (.cells #[.int .i64 kind, .string name, .string table, .string col, .slice b0 lc.length q0, .slice b1 lr.length q1, .slice b2 ls.length q2, .slice b3 lf.length q3, .slice b4 lo.length q4, .int .i64 op', .int .i64 xk', .int .i64 xn', .string xs', .string s2', .string nmv', .int .i64 n8', .slice b5 l5' q5, .slice b6 lo2.length q6, .bool down, .int .i64 n] 36)) :=fun V hV=> (hV.block _ (lt_of_block bB)).trans bB
 have ca0 :W.cell? ⟨w.heap.size,0,none⟩ =some (.int .i64 kind) :=Aa bA rfl
 have cb0 :W.cell? ⟨w.heap.size+1,0,none⟩ =some (.int .i64 kind) :=Aa bB rfl
 have ca1 :W.cell? ⟨w.heap.size,1,none⟩ =some (.string name) :=Aa bA rfl
 have cb1 :W.cell? ⟨w.heap.size+1,1,none⟩ =some (.string name) :=Aa bB rfl
 have ca2 :W.cell? ⟨w.heap.size,2,none⟩ =some (.string table) :=Aa bA rfl
 have cb2 :W.cell? ⟨w.heap.size+1,2,none⟩ =some (.string table) :=Aa bB rfl
 have ca3 :W.cell? ⟨w.heap.size,3,none⟩ =some (.string col) :=Aa bA rfl
 have cb3 :W.cell? ⟨w.heap.size+1,3,none⟩ =some (.string col) :=Aa bB rfl
 have ca4 :W.cell? ⟨w.heap.size,4,none⟩ =some (.slice a0 lc.length p0) :=Aa bA rfl
 have cb4 :W.cell? ⟨w.heap.size+1,4,none⟩ =some (.slice b0 lc.length q0) :=Aa bB rfl
 have ca5 :W.cell? ⟨w.heap.size,5,none⟩ =some (.slice a1 lr.length p1) :=Aa bA rfl
 have cb5 :W.cell? ⟨w.heap.size+1,5,none⟩ =some (.slice b1 lr.length q1) :=Aa bB rfl
 have ca6 :W.cell? ⟨w.heap.size,6,none⟩ =some (.slice a2 ls.length p2) :=Aa bA rfl
 have cb6 :W.cell? ⟨w.heap.size+1,6,none⟩ =some (.slice b2 ls.length q2) :=Aa bB rfl
 have ca7 :W.cell? ⟨w.heap.size,7,none⟩ =some (.slice a3 lf.length p3) :=Aa bA rfl
 have cb7 :W.cell? ⟨w.heap.size+1,7,none⟩ =some (.slice b3 lf.length q3) :=Aa bB rfl
 have ca8 :W.cell? ⟨w.heap.size,8,none⟩ =some (.slice a4 lo.length p4) :=Aa bA rfl
 have cb8 :W.cell? ⟨w.heap.size+1,8,none⟩ =some (.slice b4 lo.length q4) :=Aa bB rfl
 have ca9 :W.cell? ⟨w.heap.size,9,none⟩ =some (.int .i64 op) :=Aa bA rfl
 have cb9 :W.cell? ⟨w.heap.size+1,9,none⟩ =some (.int .i64 op') :=Aa bB rfl
 have ca10 :W.cell? ⟨w.heap.size,10,none⟩ =some (.int .i64 xk) :=Aa bA rfl
 have cb10 :W.cell? ⟨w.heap.size+1,10,none⟩ =some (.int .i64 xk') :=Aa bB rfl
 have ca11 :W.cell? ⟨w.heap.size,11,none⟩ =some (.int .i64 xn) :=Aa bA rfl
 have cb11 :W.cell? ⟨w.heap.size+1,11,none⟩ =some (.int .i64 xn') :=Aa bB rfl
 have ca12 :W.cell? ⟨w.heap.size,12,none⟩ =some (.string xs) :=Aa bA rfl
 have cb12 :W.cell? ⟨w.heap.size+1,12,none⟩ =some (.string xs') :=Aa bB rfl
 have ca13 :W.cell? ⟨w.heap.size,13,none⟩ =some (.string s2) :=Aa bA rfl
 have cb13 :W.cell? ⟨w.heap.size+1,13,none⟩ =some (.string s2') :=Aa bB rfl
 have ca14 :W.cell? ⟨w.heap.size,14,none⟩ =some (.string nmv) :=Aa bA rfl
 have cb14 :W.cell? ⟨w.heap.size+1,14,none⟩ =some (.string nmv') :=Aa bB rfl
 have ca15 :W.cell? ⟨w.heap.size,15,none⟩ =some (.int .i64 n8) :=Aa bA rfl
 have cb15 :W.cell? ⟨w.heap.size+1,15,none⟩ =some (.int .i64 n8') :=Aa bB rfl
 have ca16 :W.cell? ⟨w.heap.size,16,none⟩ =some (.slice a5 l5 p5) :=Aa bA rfl
 have cb16 :W.cell? ⟨w.heap.size+1,16,none⟩ =some (.slice b5 l5' q5) :=Aa bB rfl
 have ca17 :W.cell? ⟨w.heap.size,17,none⟩ =some (.slice a6 lo2.length p6) :=Aa bA rfl
 have cb17 :W.cell? ⟨w.heap.size+1,17,none⟩ =some (.slice b6 lo2.length q6) :=Aa bB rfl
 have ca18 :W.cell? ⟨w.heap.size,18,none⟩ =some (.bool down) :=Aa bA rfl
 have cb18 :W.cell? ⟨w.heap.size+1,18,none⟩ =some (.bool down) :=Aa bB rfl
 have ca19 :W.cell? ⟨w.heap.size,19,none⟩ =some (.int .i64 n) :=Aa bA rfl
 have cb19 :W.cell? ⟨w.heap.size+1,19,none⟩ =some (.int .i64 n) :=Aa bB rfl
 go_enter Tryz.func8,Tryz.ntmps8
 go_upto_region 1 with fail
 rw [HW.out]
 go_wp2_with fail
 go_loopg [88] lc.length (fun f ix wr=> ∃k :Nat,ix= .int .i64 k∧k+f=lc.length∧Below W.heap.size W wr)
 case atStart=>exact ⟨0,rfl,by simp,Below.refl _ _⟩
 case round=>
  obtain ⟨k,rfl,hkf,hB⟩ :=hrel
  have hBw :Below w.heap.size w wr :=hb0.trans (hB.mono hb0.size)
  by_cases hlt :k<lc.length
  ·obtain ⟨y,hy⟩ : ∃y,lc[k]? =some y := ⟨_,List.getElem?_eq_getElem hlt⟩
   have hmx :=Mh k1
   unfold maxLen at hmx
   obtain ⟨bx,ox,cx,hceq,hc,kx⟩ :=Fo k1 hy
   obtain ⟨by1,oy,dx,hceq1,hd,ky⟩ :=Fo k1' hy
   subst hceq hceq1
   subst hc hd
   have KS :Hid (∀V,Below W.heap.size W V→V.cell? ⟨w.heap.size,4,none⟩ =some (.slice (some ⟨bx,ox,none⟩) lc.length p0) ∧V.cell? ⟨w.heap.size+1,4,none⟩ =some (.slice (some ⟨by1,oy,none⟩) lc.length q0) ∧V.cell? ⟨bx,ox+k*3,none⟩ =some (.string y.name) ∧V.cell? ⟨bx,ox+k*3+1,none⟩ =some (.int .i64 y.ty) ∧V.cell? ⟨bx,ox+k*3+2,none⟩ =some (.bool y.must) ∧V.cell? ⟨by1,oy+k*3,none⟩ =some (.string y.name) ∧V.cell? ⟨by1,oy+k*3+1,none⟩ =some (.int .i64 y.ty) ∧V.cell? ⟨by1,oy+k*3+2,none⟩ =some (.bool y.must)) :=fun V hV'=>by
    have hV :Below w.heap.size w V :=hb0.trans (hV'.mono hb0.size)
    exact ⟨Aa (HA.out V hV') rfl,Aa (HB.out V hV') rfl,kx V hV 0 _ rfl,kx V hV 1 _ rfl,kx V hV 2 _ rfl,ky V hV 0 _ rfl,ky V hV 1 _ rfl,ky V hV 2 _ rfl⟩
   have j0 : (0 :Int) ≤ (k :Int) :=by omega
   have j1 : (k :Int) < (lc.length :Int) :=by omega
   clear kx ky hy
   go_upto_region 6 with fail
   go_region_held3 (fun V=>V.cell? ⟨w.heap.size,4,none⟩ =some (.slice (some ⟨bx,ox,none⟩) lc.length p0) ∧V.cell? ⟨w.heap.size+1,4,none⟩ =some (.slice (some ⟨by1,oy,none⟩) lc.length q0) ∧V.cell? ⟨bx,ox+k*3,none⟩ =some (.string y.name) ∧V.cell? ⟨bx,ox+k*3+1,none⟩ =some (.int .i64 y.ty) ∧V.cell? ⟨bx,ox+k*3+2,none⟩ =some (.bool y.must) ∧V.cell? ⟨by1,oy+k*3,none⟩ =some (.string y.name) ∧V.cell? ⟨by1,oy+k*3+1,none⟩ =some (.int .i64 y.ty) ∧V.cell? ⟨by1,oy+k*3+2,none⟩ =some (.bool y.must))
    (with_reducible first | exact KS.out _ hB.drew | exact KS.out _ hz)
    (fail)
   go_wp2_with fail
   go_roundg (gk - 1)
   case measure=>omega
   case rel=>exact ⟨k+1,by go_num,by omega,hB.drew⟩
  ·have j1 : ¬ (k :Int) < (lc.length :Int) :=by omega
   have da5 :wr.cell? ⟨w.heap.size,5,none⟩ =some (.slice a1 lr.length p1) :=Aa (HA.out wr hB) rfl
   have db5 :wr.cell? ⟨w.heap.size+1,5,none⟩ =some (.slice b1 lr.length q1) :=Aa (HB.out wr hB) rfl
   go_wp2_with fail
   go_loopg [106] lr.length (fun f ix wr=> ∃k :Nat,ix= .int .i64 k∧k+f=lr.length∧Below W.heap.size W wr)
   case atStart=>exact ⟨0,rfl,by simp,hB⟩
   case round=>
    clear hB;obtain ⟨k,rfl,hkf,hB⟩ :=hrel
    have hBw :Below w.heap.size w wr :=hb0.trans (hB.mono hb0.size)
    by_cases hlt :k<lr.length
    ·obtain ⟨y,hy⟩ : ∃y,lr[k]? =some y := ⟨_,List.getElem?_eq_getElem hlt⟩
     have hmx :=Mh k2
     unfold maxLen at hmx
     obtain ⟨bx,ox,cx,hceq,hc,kx⟩ :=Fo k2 hy
     obtain ⟨by1,oy,dx,hceq1,hd,ky⟩ :=Fo k2' hy
     subst hceq hceq1
     obtain ⟨sv,rfl,hsv⟩ :=hc
     obtain ⟨sv',rfl,hsv'⟩ :=hd
     obtain ⟨ea,ec,rfl⟩ :=hsv.shape
     obtain ⟨fa,fc,rfl⟩ :=hsv'.shape
     have SE :=Ur y F F' wr.drew _ _ ((Abf.1 hsv).keep (Ar hBw.drew)) ((Abf.1 hsv').keep (Ar hBw.drew))
     clear hsv hsv'
     have KS :Hid (∀V,Below W.heap.size W V→V.cell? ⟨w.heap.size,5,none⟩ =some (.slice (some ⟨bx,ox,none⟩) lr.length p1) ∧V.cell? ⟨w.heap.size+1,5,none⟩ =some (.slice (some ⟨by1,oy,none⟩) lr.length q1) ∧V.cell? ⟨bx,ox+k,none⟩ =some (.slice ea y.length ec) ∧V.cell? ⟨by1,oy+k,none⟩ =some (.slice fa y.length fc)) :=fun V hV'=>by
      have hV :Below w.heap.size w V :=hb0.trans (hV'.mono hb0.size)
      exact ⟨Aa (HA.out V hV') rfl,Aa (HB.out V hV') rfl,(by have g :=kx V hV 0 _ rfl;rw [show Ds.size=1 from rfl,Nat.mul_one,Nat.add_zero] at g;exact g),(by have g :=ky V hV 0 _ rfl;rw [show Ds.size=1 from rfl,Nat.mul_one,Nat.add_zero] at g;exact g)⟩
     have j0 : (0 :Int) ≤ (k :Int) :=by omega
     have j1 : (k :Int) < (lr.length :Int) :=by omega
     clear kx ky hy
     go_upto_region 12 with fail
     go_region_held3 (fun V=>V.cell? ⟨w.heap.size,5,none⟩ =some (.slice (some ⟨bx,ox,none⟩) lr.length p1) ∧V.cell? ⟨w.heap.size+1,5,none⟩ =some (.slice (some ⟨by1,oy,none⟩) lr.length q1) ∧V.cell? ⟨bx,ox+k,none⟩ =some (.slice ea y.length ec) ∧V.cell? ⟨by1,oy+k,none⟩ =some (.slice fa y.length fc))
      (with_reducible first | exact KS.out _ hB.drew | exact KS.out _ hz)
      ((go_at_call 30;refine (SE).mono ?_;rintro e w2 ⟨rfl,hb2⟩;have hz :Below W.heap.size W w2 :=hB.drew.trans (hb2.mono hB.size)))
     go_wp2_with fail
     go_roundg (gk - 1)
     case measure=>omega
     case rel=>exact ⟨k+1,by go_num,by omega,hz⟩
    ·have j1 : ¬ (k :Int) < (lr.length :Int) :=by omega
     have da6 :wr.cell? ⟨w.heap.size,6,none⟩ =some (.slice a2 ls.length p2) :=Aa (HA.out wr hB) rfl
     have db6 :wr.cell? ⟨w.heap.size+1,6,none⟩ =some (.slice b2 ls.length q2) :=Aa (HB.out wr hB) rfl
     go_wp2_with fail
     go_loopg [125] ls.length (fun f ix wr=> ∃k :Nat,ix= .int .i64 k∧k+f=ls.length∧Below W.heap.size W wr)
     case atStart=>exact ⟨0,rfl,by simp,hB⟩
     case round=>
      clear hB;obtain ⟨k,rfl,hkf,hB⟩ :=hrel
      have hBw :Below w.heap.size w wr :=hb0.trans (hB.mono hb0.size)
      by_cases hlt :k<ls.length
      ·obtain ⟨y,hy⟩ : ∃y,ls[k]? =some y := ⟨_,List.getElem?_eq_getElem hlt⟩
       have hmx :=Mh k3
       unfold maxLen at hmx
       obtain ⟨bx,ox,cx,hceq,hc,kx⟩ :=Fo k3 hy
       obtain ⟨by1,oy,dx,hceq1,hd,ky⟩ :=Fo k3' hy
       subst hceq hceq1
       obtain ⟨d1,rfl,hl1,hsv⟩ :=hc
       obtain ⟨d2,rfl,hl2,hsv'⟩ :=hd
       obtain ⟨xo,xk1,xn1,xs3,xs4,xm,xi,xa,xl,xc,rfl⟩ :=Cm (F :=F) (w :=w) (e :=y.2) ⟨hl1,hsv⟩
       obtain ⟨zo,zk1,zn1,zs3,zs4,zm,zi,za,zl,zc,rfl⟩ :=Cm (F :=F') (w :=w) (e :=y.2) ⟨hl2,hsv'⟩
       have SE :=Ni y.2 F F' wr.drew _ _ (IsE.keep (Ar hBw.drew) _ _ hsv) (IsE.keep (Ar hBw.drew) _ _ hsv')
       clear hsv hsv' hl1 hl2
       have KS :Hid (∀V,Below W.heap.size W V→V.cell? ⟨w.heap.size,6,none⟩ =some (.slice (some ⟨bx,ox,none⟩) ls.length p2) ∧V.cell? ⟨w.heap.size+1,6,none⟩ =some (.slice (some ⟨by1,oy,none⟩) ls.length q2) ∧V.cell? ⟨bx,ox+k*9,none⟩ =some (.string y.1) ∧V.cell? ⟨bx,ox+k*9+1,none⟩ =some (.int .i64 xo) ∧V.cell? ⟨bx,ox+k*9+2,none⟩ =some (.int .i64 xk1) ∧V.cell? ⟨bx,ox+k*9+3,none⟩ =some (.int .i64 xn1) ∧V.cell? ⟨bx,ox+k*9+4,none⟩ =some (.string xs3) ∧V.cell? ⟨bx,ox+k*9+5,none⟩ =some (.string xs4) ∧V.cell? ⟨bx,ox+k*9+6,none⟩ =some (.string xm) ∧V.cell? ⟨bx,ox+k*9+7,none⟩ =some (.int .i64 xi) ∧V.cell? ⟨bx,ox+k*9+8,none⟩ =some (.slice xa xl xc) ∧V.cell? ⟨by1,oy+k*9,none⟩ =some (.string y.1) ∧V.cell? ⟨by1,oy+k*9+1,none⟩ =some (.int .i64 zo) ∧V.cell? ⟨by1,oy+k*9+2,none⟩ =some (.int .i64 zk1) ∧V.cell? ⟨by1,oy+k*9+3,none⟩ =some (.int .i64 zn1) ∧V.cell? ⟨by1,oy+k*9+4,none⟩ =some (.string zs3) ∧V.cell? ⟨by1,oy+k*9+5,none⟩ =some (.string zs4) ∧V.cell? ⟨by1,oy+k*9+6,none⟩ =some (.string zm) ∧V.cell? ⟨by1,oy+k*9+7,none⟩ =some (.int .i64 zi) ∧V.cell? ⟨by1,oy+k*9+8,none⟩ =some (.slice za zl zc)) :=fun V hV'=>by
        have hV :Below w.heap.size w V :=hb0.trans (hV'.mono hb0.size)
        exact ⟨Aa (HA.out V hV') rfl,Aa (HB.out V hV') rfl,kx V hV 0 _ rfl,kx V hV 1 _ rfl,kx V hV 2 _ rfl,kx V hV 3 _ rfl,kx V hV 4 _ rfl,kx V hV 5 _ rfl,kx V hV 6 _ rfl,kx V hV 7 _ rfl,kx V hV 8 _ rfl,ky V hV 0 _ rfl,ky V hV 1 _ rfl,ky V hV 2 _ rfl,ky V hV 3 _ rfl,ky V hV 4 _ rfl,ky V hV 5 _ rfl,ky V hV 6 _ rfl,ky V hV 7 _ rfl,ky V hV 8 _ rfl⟩
       have j0 : (0 :Int) ≤ (k :Int) :=by omega
       have j1 : (k :Int) < (ls.length :Int) :=by omega
       clear kx ky hy
       go_upto_region 18 with fail
       go_region_held3 (fun V=>V.cell? ⟨w.heap.size,6,none⟩ =some (.slice (some ⟨bx,ox,none⟩) ls.length p2) ∧V.cell? ⟨w.heap.size+1,6,none⟩ =some (.slice (some ⟨by1,oy,none⟩) ls.length q2) ∧V.cell? ⟨bx,ox+k*9,none⟩ =some (.string y.1) ∧V.cell? ⟨bx,ox+k*9+1,none⟩ =some (.int .i64 xo) ∧V.cell? ⟨bx,ox+k*9+2,none⟩ =some (.int .i64 xk1) ∧V.cell? ⟨bx,ox+k*9+3,none⟩ =some (.int .i64 xn1) ∧V.cell? ⟨bx,ox+k*9+4,none⟩ =some (.string xs3) ∧V.cell? ⟨bx,ox+k*9+5,none⟩ =some (.string xs4) ∧V.cell? ⟨bx,ox+k*9+6,none⟩ =some (.string xm) ∧V.cell? ⟨bx,ox+k*9+7,none⟩ =some (.int .i64 xi) ∧V.cell? ⟨bx,ox+k*9+8,none⟩ =some (.slice xa xl xc) ∧V.cell? ⟨by1,oy+k*9,none⟩ =some (.string y.1) ∧V.cell? ⟨by1,oy+k*9+1,none⟩ =some (.int .i64 zo) ∧V.cell? ⟨by1,oy+k*9+2,none⟩ =some (.int .i64 zk1) ∧V.cell? ⟨by1,oy+k*9+3,none⟩ =some (.int .i64 zn1) ∧V.cell? ⟨by1,oy+k*9+4,none⟩ =some (.string zs3) ∧V.cell? ⟨by1,oy+k*9+5,none⟩ =some (.string zs4) ∧V.cell? ⟨by1,oy+k*9+6,none⟩ =some (.string zm) ∧V.cell? ⟨by1,oy+k*9+7,none⟩ =some (.int .i64 zi) ∧V.cell? ⟨by1,oy+k*9+8,none⟩ =some (.slice za zl zc))
        (with_reducible first | exact KS.out _ hB.drew | exact KS.out _ hz)
        ((go_at_call 31;refine (SE).mono ?_;rintro e w2 ⟨rfl,hb2⟩;have hz :Below W.heap.size W w2 :=hB.drew.trans (hb2.mono hB.size)))
       go_wp2_with fail
       go_roundg (gk - 1)
       case measure=>omega
       case rel=>exact ⟨k+1,by go_num,by omega,hz⟩
      ·have j1 : ¬ (k :Int) < (ls.length :Int) :=by omega
       have da7 :wr.cell? ⟨w.heap.size,7,none⟩ =some (.slice a3 lf.length p3) :=Aa (HA.out wr hB) rfl
       have db7 :wr.cell? ⟨w.heap.size+1,7,none⟩ =some (.slice b3 lf.length q3) :=Aa (HB.out wr hB) rfl
       go_wp2_with fail
       go_loopg [161] lf.length (fun f ix wr=> ∃k :Nat,ix= .int .i64 k∧k+f=lf.length∧Below W.heap.size W wr)
       case atStart=>exact ⟨0,rfl,by simp,hB⟩
       case round=>
        clear hB;obtain ⟨k,rfl,hkf,hB⟩ :=hrel
        have hBw :Below w.heap.size w wr :=hb0.trans (hB.mono hb0.size)
        by_cases hlt :k<lf.length
        ·obtain ⟨y,hy⟩ : ∃y,lf[k]? =some y := ⟨_,List.getElem?_eq_getElem hlt⟩
         have hmx :=Mh k4
         unfold maxLen at hmx
         obtain ⟨bx,ox,cx,hceq,hc,kx⟩ :=Fo k4 hy
         obtain ⟨by1,oy,dx,hceq1,hd,ky⟩ :=Fo k4' hy
         subst hceq hceq1
         have hc2 :cx= [.string y] :=hc
         have hd2 :dx= [.string y] :=hd
         subst hc2 hd2
         have KS :Hid (∀V,Below W.heap.size W V→V.cell? ⟨w.heap.size,7,none⟩ =some (.slice (some ⟨bx,ox,none⟩) lf.length p3) ∧V.cell? ⟨w.heap.size+1,7,none⟩ =some (.slice (some ⟨by1,oy,none⟩) lf.length q3) ∧V.cell? ⟨bx,ox+k,none⟩ =some (.string y) ∧V.cell? ⟨by1,oy+k,none⟩ =some (.string y)) :=fun V hV'=>by
          have hV :Below w.heap.size w V :=hb0.trans (hV'.mono hb0.size)
          exact ⟨Aa (HA.out V hV') rfl,Aa (HB.out V hV') rfl,(by have g :=kx V hV 0 _ rfl;rw [show Fz.size=1 from rfl,Nat.mul_one,Nat.add_zero] at g;exact g),(by have g :=ky V hV 0 _ rfl;rw [show Fz.size=1 from rfl,Nat.mul_one,Nat.add_zero] at g;exact g)⟩
         have j0 : (0 :Int) ≤ (k :Int) :=by omega
         have j1 : (k :Int) < (lf.length :Int) :=by omega
         clear kx ky hy
         go_upto_region 24 with fail
         go_region_held3 (fun V=>V.cell? ⟨w.heap.size,7,none⟩ =some (.slice (some ⟨bx,ox,none⟩) lf.length p3) ∧V.cell? ⟨w.heap.size+1,7,none⟩ =some (.slice (some ⟨by1,oy,none⟩) lf.length q3) ∧V.cell? ⟨bx,ox+k,none⟩ =some (.string y) ∧V.cell? ⟨by1,oy+k,none⟩ =some (.string y))
          (with_reducible first | exact KS.out _ hB.drew | exact KS.out _ hz)
          (fail)
         go_wp2_with fail
         go_roundg (gk - 1)
         case measure=>omega
         case rel=>exact ⟨k+1,by go_num,by omega,hB.drew⟩
        ·have j1 : ¬ (k :Int) < (lf.length :Int) :=by omega
         have da8 :wr.cell? ⟨w.heap.size,8,none⟩ =some (.slice a4 lo.length p4) :=Aa (HA.out wr hB) rfl
         have db8 :wr.cell? ⟨w.heap.size+1,8,none⟩ =some (.slice b4 lo.length q4) :=Aa (HB.out wr hB) rfl
         have da9 :wr.cell? ⟨w.heap.size,9,none⟩ =some (.int .i64 op) :=Aa (HA.out wr hB) rfl
         have db9 :wr.cell? ⟨w.heap.size+1,9,none⟩ =some (.int .i64 op') :=Aa (HB.out wr hB) rfl
         have da10 :wr.cell? ⟨w.heap.size,10,none⟩ =some (.int .i64 xk) :=Aa (HA.out wr hB) rfl
         have db10 :wr.cell? ⟨w.heap.size+1,10,none⟩ =some (.int .i64 xk') :=Aa (HB.out wr hB) rfl
         have da11 :wr.cell? ⟨w.heap.size,11,none⟩ =some (.int .i64 xn) :=Aa (HA.out wr hB) rfl
         have db11 :wr.cell? ⟨w.heap.size+1,11,none⟩ =some (.int .i64 xn') :=Aa (HB.out wr hB) rfl
         have da12 :wr.cell? ⟨w.heap.size,12,none⟩ =some (.string xs) :=Aa (HA.out wr hB) rfl
         have db12 :wr.cell? ⟨w.heap.size+1,12,none⟩ =some (.string xs') :=Aa (HB.out wr hB) rfl
         have da13 :wr.cell? ⟨w.heap.size,13,none⟩ =some (.string s2) :=Aa (HA.out wr hB) rfl
         have db13 :wr.cell? ⟨w.heap.size+1,13,none⟩ =some (.string s2') :=Aa (HB.out wr hB) rfl
         have da14 :wr.cell? ⟨w.heap.size,14,none⟩ =some (.string nmv) :=Aa (HA.out wr hB) rfl
         have db14 :wr.cell? ⟨w.heap.size+1,14,none⟩ =some (.string nmv') :=Aa (HB.out wr hB) rfl
         have da15 :wr.cell? ⟨w.heap.size,15,none⟩ =some (.int .i64 n8) :=Aa (HA.out wr hB) rfl
         have db15 :wr.cell? ⟨w.heap.size+1,15,none⟩ =some (.int .i64 n8') :=Aa (HB.out wr hB) rfl
         have da16 :wr.cell? ⟨w.heap.size,16,none⟩ =some (.slice a5 l5 p5) :=Aa (HA.out wr hB) rfl
         have db16 :wr.cell? ⟨w.heap.size+1,16,none⟩ =some (.slice b5 l5' q5) :=Aa (HB.out wr hB) rfl
         have da17 :wr.cell? ⟨w.heap.size,17,none⟩ =some (.slice a6 lo2.length p6) :=Aa (HA.out wr hB) rfl
         have db17 :wr.cell? ⟨w.heap.size+1,17,none⟩ =some (.slice b6 lo2.length q6) :=Aa (HB.out wr hB) rfl
         have SO :=Ur lo F F' wr _ _ ((Abf.1 k5).keep (Ar hBw)) ((Abf.1 k5').keep (Ar hBw))
         have HSW :Hid (∀V,Below w.heap.size w V→_) :=fun V hV=>Ni ew F F' V _ _ (IsE.keep (Ar hV) _ _ k6) (IsE.keep (Ar hV) _ _ k6')
         have HSR :Hid (∀V,Below w.heap.size w V→_) :=fun V hV=>Ur lo2 F F' V _ _ ((Abf.1 k7).keep (Ar hV)) ((Abf.1 k7').keep (Ar hV))
         go_wp2_with (first
          | (go_at_call 30;go_fit SR;rintro e w4 ⟨rfl,hb4⟩)
          | (go_at_call 30;go_fit SO;rintro e w2 ⟨rfl,hb2⟩;have hB2 :Below W.heap.size W w2 :=hB.trans (hb2.mono hB.size);have da9 :w2.cell? ⟨w.heap.size,9,none⟩ =some (.int .i64 op) :=Aa (HA.out w2 hB2) rfl;have db9 :w2.cell? ⟨w.heap.size+1,9,none⟩ =some (.int .i64 op') :=Aa (HB.out w2 hB2) rfl;have da10 :w2.cell? ⟨w.heap.size,10,none⟩ =some (.int .i64 xk) :=Aa (HA.out w2 hB2) rfl;have db10 :w2.cell? ⟨w.heap.size+1,10,none⟩ =some (.int .i64 xk') :=Aa (HB.out w2 hB2) rfl;have da11 :w2.cell? ⟨w.heap.size,11,none⟩ =some (.int .i64 xn) :=Aa (HA.out w2 hB2) rfl;have db11 :w2.cell? ⟨w.heap.size+1,11,none⟩ =some (.int .i64 xn') :=Aa (HB.out w2 hB2) rfl;have da12 :w2.cell? ⟨w.heap.size,12,none⟩ =some (.string xs) :=Aa (HA.out w2 hB2) rfl;have db12 :w2.cell? ⟨w.heap.size+1,12,none⟩ =some (.string xs') :=Aa (HB.out w2 hB2) rfl;have da13 :w2.cell? ⟨w.heap.size,13,none⟩ =some (.string s2) :=Aa (HA.out w2 hB2) rfl;have db13 :w2.cell? ⟨w.heap.size+1,13,none⟩ =some (.string s2') :=Aa (HB.out w2 hB2) rfl;have da14 :w2.cell? ⟨w.heap.size,14,none⟩ =some (.string nmv) :=Aa (HA.out w2 hB2) rfl;have db14 :w2.cell? ⟨w.heap.size+1,14,none⟩ =some (.string nmv') :=Aa (HB.out w2 hB2) rfl;have da15 :w2.cell? ⟨w.heap.size,15,none⟩ =some (.int .i64 n8) :=Aa (HA.out w2 hB2) rfl;have db15 :w2.cell? ⟨w.heap.size+1,15,none⟩ =some (.int .i64 n8') :=Aa (HB.out w2 hB2) rfl;have da16 :w2.cell? ⟨w.heap.size,16,none⟩ =some (.slice a5 l5 p5) :=Aa (HA.out w2 hB2) rfl;have db16 :w2.cell? ⟨w.heap.size+1,16,none⟩ =some (.slice b5 l5' q5) :=Aa (HB.out w2 hB2) rfl;have SW :=HSW.out w2 (hb0.trans (hB2.mono hb0.size)))
          | (go_at_call 31;go_fit SW;rintro e w3 ⟨rfl,hb3⟩;have hB3 :Below W.heap.size W w3 :=hB2.trans (hb3.mono hB2.size);have da17 :w3.cell? ⟨w.heap.size,17,none⟩ =some (.slice a6 lo2.length p6) :=Aa (HA.out w3 hB3) rfl;have db17 :w3.cell? ⟨w.heap.size+1,17,none⟩ =some (.slice b6 lo2.length q6) :=Aa (HB.out w3 hB3) rfl;have SR :=HSR.out w3 (hb0.trans (hB3.mono hb0.size))))
         go_ret
         have hB4 :=hB3.trans (hb4.mono hB3.size)
         exact ⟨rfl,hb0.trans (hB4.mono hb0.size)⟩
end Go.Proofs.YtmgkcjiejmhgcaaGreatDoor

namespace Go.Proofs.YtmgkcjiejmhgcaaGreatDoor
open Go.RowKit Go.Maps
structure LwFit (ct :CatD) (st :Stm) :Prop where
 fc :Gv ct
 fb :FitB st
 fp :FitP st
 rows :st.rows.flatten.length≤16777216
 tl :ct.tables.length≤16777216
 il :ct.indexes.length≤16777216
 cl : ∀t∈ct.tables,t.cols.length≤16777216
end Go.Proofs.YtmgkcjiejmhgcaaGreatDoor


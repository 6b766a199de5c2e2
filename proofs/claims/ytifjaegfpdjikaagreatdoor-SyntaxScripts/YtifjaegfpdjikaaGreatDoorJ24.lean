/-
  4 texts of this proof in one, in build order: RSame2, RLaw, RStmQ0, RSet.
-/
import Derived.Deep.LoopGhost
import Derived.BigRegion
import Derived.Deep.Cut
import Derived.Deep.RegionHeld3
import Derived.Deep.MidRow
import Derived.Test.YtifjaegfpdjikaaGreatDoorJ04
import Derived.Test.YtifjaegfpdjikaaGreatDoorJ06
import Derived.Test.YtifjaegfpdjikaaGreatDoorJ20
import Derived.Test.YtifjaegfpdjikaaGreatDoorJ23
set_option linter.unusedSimpArgs false
set_option linter.unusedVariables false
namespace Go.Proofs.YtifjaegfpdjikaaGreatDoor
open Go.RowKit
theorem Ww {α :Type} {K :Elem α} {F :Nat→Prop} {w :World} : ∀ {l :List α} {cs :List Value} {k :Nat} {x :α},All K F w l cs→l[k]? =some x→ ∃c,K.R F w x c∧ ∀j u,c[j]? =some u→cs[k*K.size+j]? =some u
 | a ::l,cs,0,x,h,hk=>by
  obtain ⟨c,rest,rfl,h2,_⟩ :=h
  simp at hk;subst hk
  refine ⟨c,h2,fun j u hj=> ?_⟩
  rw [List.getElem?_append_left (by have := (List.getElem?_eq_some_iff.1 hj).1;omega)]
  simpa using hj
 | a ::l,cs,k+1,x,h,hk=>by
  obtain ⟨c,rest,rfl,h2,h3⟩ :=h
  simp only [List.getElem?_cons_succ] at hk
  obtain ⟨d,d2,d3⟩ :=Ww h3 hk
  refine ⟨d,d2,fun j u hj=> ?_⟩
  have hl :=K.len h2
  rw [List.getElem?_append_right (by rw [hl,Nat.add_mul];omega),hl,show (k+1) *K.size+j - K.size=k*K.size+j from by rw [Nat.add_mul];omega]
  exact d3 j u hj
 | [],_,_,_,_,hk=>by simp at hk
theorem Gw {α :Type} {K :Elem α} {F :Nat→Prop} {w :World} {ao :Option Addr} {n cap :Nat} {l :List α} (h :IsL K F w (.slice ao n cap) l) {k :Nat} {x :α} (hk :l[k]? =some x) :
  ∃b off c,ao=some ⟨b,off,none⟩ ∧K.R F w x c∧ ∀V,Below w.heap.size w V→ ∀j u,c[j]? =some u→V.cell? ⟨b,off+k*K.size+j,none⟩ =some u :=by
 obtain ⟨cs,hr,ha⟩ :=h
 obtain ⟨c,c2,c3⟩ :=Ww ha hk
 have h0 :0<l.length :=by have := (List.getElem?_eq_some_iff.1 hk).1;omega
 rcases hr.2 with ⟨h1,_⟩ | ⟨_,b',o',c',he,_,hlt,_,_,hcell⟩
 ·omega
 ·cases he
  refine ⟨b',o',c,rfl,c2,fun V hV j u hj=> ?_⟩
  rw [Nat.add_assoc]
  exact (hV.cell (p := ⟨b',o'+ (k*K.size+j),none⟩) hlt).trans (hcell _ u (c3 j u hj))
theorem Mq {α :Type} {K :Elem α} {F :Nat→Prop} {w :World} {sv :Value} {l :List α} (h :IsL K F w sv l) :l.length≤maxLen :=by
 obtain ⟨cs,hr,_⟩ :=h
 rcases hr.2 with ⟨h1,_⟩ | ⟨_,b',o',c',he,_,_,h5,h6,_⟩
 ·rw [h1];exact Nat.zero_le _
 ·omega
set_option maxRecDepth 100000 in
set_option maxHeartbeats 4000000 in
theorem U6 (F F' :Nat→Prop) (w :World) (st :Stm) (c c' :List Value) (h :Fq.R F w st c) (h' :Fq.R F' w st c') :
  Calls Tryz.prog 9 #[.agg c.toArray, .agg c'.toArray] w fun r w'=>r= .returned (.bool true) ∧Below w.heap.size w w' :=by
 obtain ⟨cols,rows,sets,frm,out,w8,order,rfl,h8,k1,k2,k3,k4,k5,k6,k7⟩ :=h.is
 obtain ⟨cols',rows',sets',frm',out',w8',order',rfl,h8',k1',k2',k3',k4',k5',k6',k7'⟩ :=h'.is
 obtain ⟨kind,name,table,col,lc,lr,ls,lf,lo,ew,lo2,down,n⟩ :=st
 simp only at k1 k2 k3 k4 k5 k6 k7 k1' k2' k3' k4' k5' k6' k7'⊢
 obtain ⟨a0,p0,rfl⟩ :=k1.shape
 obtain ⟨b0,q0,rfl⟩ :=k1'.shape
 obtain ⟨a1,p1,rfl⟩ :=k2.shape
 obtain ⟨b1,q1,rfl⟩ :=k2'.shape
 obtain ⟨a2,p2,rfl⟩ :=k3.shape
 obtain ⟨b2,q2,rfl⟩ :=k3'.shape
 obtain ⟨a3,p3,rfl⟩ :=k4.shape
 obtain ⟨b3,q3,rfl⟩ :=k4'.shape
 obtain ⟨a4,p4,rfl⟩ :=k5.shape
 obtain ⟨b4,q4,rfl⟩ :=k5'.shape
 obtain ⟨a6,p6,rfl⟩ :=k7.shape
 obtain ⟨b6,q6,rfl⟩ :=k7'.shape
 obtain ⟨op,⟨xk,xn,xs⟩,s2,nmv,n8,a5,l5,p5,hw⟩ :=k6.shape
 obtain ⟨op',⟨xk',xn',xs'⟩,s2',nmv',n8',b5,l5',q5,hw'⟩ :=k6'.shape
 have e8 :w8= [.int .i64 op, .int .i64 xk, .int .i64 xn, .string xs, .string s2, .string nmv, .int .i64 n8, .slice a5 l5 p5] :=by have :=congrArg Array.toList (Value.agg.inj hw);simpa using this
 have e8' :w8'= [.int .i64 op', .int .i64 xk', .int .i64 xn', .string xs', .string s2', .string nmv', .int .i64 n8', .slice b5 l5' q5] :=by have :=congrArg Array.toList (Value.agg.inj hw');simpa using this
 subst e8 e8'
 clear hw hw' h8 h8'
 simp only [Xr,List.cons_append,List.nil_append]
 generalize hW : (w.alloc (.cells #[.int .i64 kind, .string name, .string table, .string col, .slice a0 lc.length p0, .slice a1 lr.length p1, .slice a2 ls.length p2, .slice a3 lf.length p3, .slice a4 lo.length p4, .int .i64 op, .int .i64 xk, .int .i64 xn, .string xs, .string s2, .string nmv, .int .i64 n8, .slice a5 l5 p5, .slice a6 lo2.length p6, .bool down, .int .i64 n] 39)).alloc (.cells #[.int .i64 kind, .string name, .string table, .string col, .slice b0 lc.length q0, .slice b1 lr.length q1, .slice b2 ls.length q2, .slice b3 lf.length q3, .slice b4 lo.length q4, .int .i64 op', .int .i64 xk', .int .i64 xn', .string xs', .string s2', .string nmv', .int .i64 n8', .slice b5 l5' q5, .slice b6 lo2.length q6, .bool down, .int .i64 n] 39) =W
 have HW :Hid _ :=hW
 have hb0 :Below w.heap.size w W :=by rw [←hW];exact Kn _ _ _
 have bA :W.heap[w.heap.size]? =some (.cells #[.int .i64 kind, .string name, .string table, .string col, .slice a0 lc.length p0, .slice a1 lr.length p1, .slice a2 ls.length p2, .slice a3 lf.length p3, .slice a4 lo.length p4, .int .i64 op, .int .i64 xk, .int .i64 xn, .string xs, .string s2, .string nmv, .int .i64 n8, .slice a5 l5 p5, .slice a6 lo2.length p6, .bool down, .int .i64 n] 39) :=by rw [←hW];exact Ae (Ad w _) _
 have bB :W.heap[w.heap.size+1]? =some (.cells #[.int .i64 kind, .string name, .string table, .string col, .slice b0 lc.length q0, .slice b1 lr.length q1, .slice b2 ls.length q2, .slice b3 lf.length q3, .slice b4 lo.length q4, .int .i64 op', .int .i64 xk', .int .i64 xn', .string xs', .string s2', .string nmv', .int .i64 n8', .slice b5 l5' q5, .slice b6 lo2.length q6, .bool down, .int .i64 n] 39) :=by rw [←hW];exact Fk w _ _
 clear hW
 have HA :Hid (∀V,Below W.heap.size W V→V.heap[w.heap.size]? =some (.cells #[.int .i64 kind, .string name, .string table, .string col, .slice a0 lc.length p0, .slice a1 lr.length p1, .slice a2 ls.length p2, .slice a3 lf.length p3, .slice a4 lo.length p4, .int .i64 op, .int .i64 xk, .int .i64 xn, .string xs, .string s2, .string nmv, .int .i64 n8, .slice a5 l5 p5, .slice a6 lo2.length p6, .bool down, .int .i64 n] 39)) :=fun V hV=> (hV.block _ (lt_of_block bA)).trans bA
 have HB :Hid (∀V,Below W.heap.size W V→V.heap[w.heap.size+1]? =some (.cells #[.int .i64 kind, .string name, .string table, .string col, .slice b0 lc.length q0, .slice b1 lr.length q1, .slice b2 ls.length q2, .slice b3 lf.length q3, .slice b4 lo.length q4, .int .i64 op', .int .i64 xk', .int .i64 xn', .string xs', .string s2', .string nmv', .int .i64 n8', .slice b5 l5' q5, .slice b6 lo2.length q6, .bool down, .int .i64 n] 39)) :=fun V hV=> (hV.block _ (lt_of_block bB)).trans bB
 have ca0 :W.cell? ⟨w.heap.size,0,none⟩ =some (.int .i64 kind) :=Aa bA rfl
 have cb0 :W.cell? ⟨w.heap.size+1,0,none⟩ =some (.int .i64 kind) :=Aa bB rfl
 have ca1 :W.cell? ⟨w.heap.size,1,none⟩ =some (.string name) :=Aa bA rfl
 have cb1 :W.cell? ⟨w.heap.size+1,1,none⟩ =some (.string name) :=Aa bB rfl
 have ca2 :W.cell? ⟨w.heap.size,2,none⟩ =some (.string table) :=Aa bA rfl
 have cb2 :W.cell? ⟨w.heap.size+1,2,none⟩ =some (.string table) :=Aa bB rfl
 have ca3 :W.cell? ⟨w.heap.size,3,none⟩ =some (.string col) :=Aa bA rfl
 have cb3 :W.cell? ⟨w.heap.size+1,3,none⟩ =some (.string col) :=Aa bB rfl
 have ca4 :W.cell? ⟨w.heap.size,4,none⟩ =some (.slice a0 lc.length p0) :=Aa bA rfl
 have cb4 :W.cell? ⟨w.heap.size+1,4,none⟩ =some (.slice b0 lc.length q0) :=Aa bB rfl
 have ca5 :W.cell? ⟨w.heap.size,5,none⟩ =some (.slice a1 lr.length p1) :=Aa bA rfl
 have cb5 :W.cell? ⟨w.heap.size+1,5,none⟩ =some (.slice b1 lr.length q1) :=Aa bB rfl
 have ca6 :W.cell? ⟨w.heap.size,6,none⟩ =some (.slice a2 ls.length p2) :=Aa bA rfl
 have cb6 :W.cell? ⟨w.heap.size+1,6,none⟩ =some (.slice b2 ls.length q2) :=Aa bB rfl
 have ca7 :W.cell? ⟨w.heap.size,7,none⟩ =some (.slice a3 lf.length p3) :=Aa bA rfl
 have cb7 :W.cell? ⟨w.heap.size+1,7,none⟩ =some (.slice b3 lf.length q3) :=Aa bB rfl
 have ca8 :W.cell? ⟨w.heap.size,8,none⟩ =some (.slice a4 lo.length p4) :=Aa bA rfl
 have cb8 :W.cell? ⟨w.heap.size+1,8,none⟩ =some (.slice b4 lo.length q4) :=Aa bB rfl
 have ca9 :W.cell? ⟨w.heap.size,9,none⟩ =some (.int .i64 op) :=Aa bA rfl
 have cb9 :W.cell? ⟨w.heap.size+1,9,none⟩ =some (.int .i64 op') :=Aa bB rfl
 have ca10 :W.cell? ⟨w.heap.size,10,none⟩ =some (.int .i64 xk) :=Aa bA rfl
 have cb10 :W.cell? ⟨w.heap.size+1,10,none⟩ =some (.int .i64 xk') :=Aa bB rfl
 have ca11 :W.cell? ⟨w.heap.size,11,none⟩ =some (.int .i64 xn) :=Aa bA rfl
 have cb11 :W.cell? ⟨w.heap.size+1,11,none⟩ =some (.int .i64 xn') :=Aa bB rfl
 have ca12 :W.cell? ⟨w.heap.size,12,none⟩ =some (.string xs) :=Aa bA rfl
 have cb12 :W.cell? ⟨w.heap.size+1,12,none⟩ =some (.string xs') :=Aa bB rfl
 have ca13 :W.cell? ⟨w.heap.size,13,none⟩ =some (.string s2) :=Aa bA rfl
 have cb13 :W.cell? ⟨w.heap.size+1,13,none⟩ =some (.string s2') :=Aa bB rfl
 have ca14 :W.cell? ⟨w.heap.size,14,none⟩ =some (.string nmv) :=Aa bA rfl
 have cb14 :W.cell? ⟨w.heap.size+1,14,none⟩ =some (.string nmv') :=Aa bB rfl
 have ca15 :W.cell? ⟨w.heap.size,15,none⟩ =some (.int .i64 n8) :=Aa bA rfl
 have cb15 :W.cell? ⟨w.heap.size+1,15,none⟩ =some (.int .i64 n8') :=Aa bB rfl
 have ca16 :W.cell? ⟨w.heap.size,16,none⟩ =some (.slice a5 l5 p5) :=Aa bA rfl
 have cb16 :W.cell? ⟨w.heap.size+1,16,none⟩ =some (.slice b5 l5' q5) :=Aa bB rfl
 have ca17 :W.cell? ⟨w.heap.size,17,none⟩ =some (.slice a6 lo2.length p6) :=Aa bA rfl
 have cb17 :W.cell? ⟨w.heap.size+1,17,none⟩ =some (.slice b6 lo2.length q6) :=Aa bB rfl
 have ca18 :W.cell? ⟨w.heap.size,18,none⟩ =some (.bool down) :=Aa bA rfl
 have cb18 :W.cell? ⟨w.heap.size+1,18,none⟩ =some (.bool down) :=Aa bB rfl
 have ca19 :W.cell? ⟨w.heap.size,19,none⟩ =some (.int .i64 n) :=Aa bA rfl
 have cb19 :W.cell? ⟨w.heap.size+1,19,none⟩ =some (.int .i64 n) :=Aa bB rfl
 go_enter Tryz.func9,Tryz.ntmps9
 go_upto_region 1 with fail
 rw [HW.out]
 go_wp2_with fail
 go_loopg [88] lc.length (fun f ix wr=> ∃k :Nat,ix= .int .i64 k∧k+f=lc.length∧Below W.heap.size W wr)
 case atStart=>exact ⟨0,rfl,by simp,Below.refl _ _⟩
 case round=>
  obtain ⟨k,rfl,hkf,hB⟩ :=hrel
  have hBw :Below w.heap.size w wr :=hb0.trans (hB.mono hb0.size)
  by_cases hlt :k<lc.length
  ·obtain ⟨y,hy⟩ : ∃y,lc[k]? =some y := ⟨_,List.getElem?_eq_getElem hlt⟩
   have hmx :=Mq k1
   unfold maxLen at hmx
   obtain ⟨bx,ox,cx,hceq,hc,kx⟩ :=Gw k1 hy
   obtain ⟨by1,oy,dx,hceq1,hd,ky⟩ :=Gw k1' hy
   subst hceq hceq1
   subst hc hd
   have KS :Hid (∀V,Below W.heap.size W V→V.cell? ⟨w.heap.size,4,none⟩ =some (.slice (some ⟨bx,ox,none⟩) lc.length p0) ∧V.cell? ⟨w.heap.size+1,4,none⟩ =some (.slice (some ⟨by1,oy,none⟩) lc.length q0) ∧V.cell? ⟨bx,ox+k*3,none⟩ =some (.string y.name) ∧V.cell? ⟨bx,ox+k*3+1,none⟩ =some (.int .i64 y.ty) ∧V.cell? ⟨bx,ox+k*3+2,none⟩ =some (.bool y.must) ∧V.cell? ⟨by1,oy+k*3,none⟩ =some (.string y.name) ∧V.cell? ⟨by1,oy+k*3+1,none⟩ =some (.int .i64 y.ty) ∧V.cell? ⟨by1,oy+k*3+2,none⟩ =some (.bool y.must)) :=fun V hV'=>by
    have hV :Below w.heap.size w V :=hb0.trans (hV'.mono hb0.size)
    exact ⟨Aa (HA.out V hV') rfl,Aa (HB.out V hV') rfl,kx V hV 0 _ rfl,kx V hV 1 _ rfl,kx V hV 2 _ rfl,ky V hV 0 _ rfl,ky V hV 1 _ rfl,ky V hV 2 _ rfl⟩
   have j0 : (0 :Int) ≤ (k :Int) :=by omega
   have j1 : (k :Int) < (lc.length :Int) :=by omega
   clear kx ky hy
   go_upto_region 6 with fail
   go_region_held3 (fun V=>V.cell? ⟨w.heap.size,4,none⟩ =some (.slice (some ⟨bx,ox,none⟩) lc.length p0) ∧V.cell? ⟨w.heap.size+1,4,none⟩ =some (.slice (some ⟨by1,oy,none⟩) lc.length q0) ∧V.cell? ⟨bx,ox+k*3,none⟩ =some (.string y.name) ∧V.cell? ⟨bx,ox+k*3+1,none⟩ =some (.int .i64 y.ty) ∧V.cell? ⟨bx,ox+k*3+2,none⟩ =some (.bool y.must) ∧V.cell? ⟨by1,oy+k*3,none⟩ =some (.string y.name) ∧V.cell? ⟨by1,oy+k*3+1,none⟩ =some (.int .i64 y.ty) ∧V.cell? ⟨by1,oy+k*3+2,none⟩ =some (.bool y.must))
    (with_reducible first | exact KS.out _ hB.drew | exact KS.out _ hz)
    (fail)
   go_wp2_with fail
   go_roundg (gk - 1)
   case measure=>omega
   case rel=>exact ⟨k+1,by go_num,by omega,hB.drew⟩
  ·have j1 : ¬ (k :Int) < (lc.length :Int) :=by omega
   have da5 :wr.cell? ⟨w.heap.size,5,none⟩ =some (.slice a1 lr.length p1) :=Aa (HA.out wr hB) rfl
   have db5 :wr.cell? ⟨w.heap.size+1,5,none⟩ =some (.slice b1 lr.length q1) :=Aa (HB.out wr hB) rfl
   go_wp2_with fail
   go_loopg [106] lr.length (fun f ix wr=> ∃k :Nat,ix= .int .i64 k∧k+f=lr.length∧Below W.heap.size W wr)
   case atStart=>exact ⟨0,rfl,by simp,hB⟩
   case round=>
    clear hB;obtain ⟨k,rfl,hkf,hB⟩ :=hrel
    have hBw :Below w.heap.size w wr :=hb0.trans (hB.mono hb0.size)
    by_cases hlt :k<lr.length
    ·obtain ⟨y,hy⟩ : ∃y,lr[k]? =some y := ⟨_,List.getElem?_eq_getElem hlt⟩
     have hmx :=Mq k2
     unfold maxLen at hmx
     obtain ⟨bx,ox,cx,hceq,hc,kx⟩ :=Gw k2 hy
     obtain ⟨by1,oy,dx,hceq1,hd,ky⟩ :=Gw k2' hy
     subst hceq hceq1
     obtain ⟨sv,rfl,hsv⟩ :=hc
     obtain ⟨sv',rfl,hsv'⟩ :=hd
     obtain ⟨ea,ec,rfl⟩ :=hsv.shape
     obtain ⟨fa,fc,rfl⟩ :=hsv'.shape
     have SE :=Yq y F F' wr.drew _ _ ((Adx.1 hsv).keep (Bb hBw.drew)) ((Adx.1 hsv').keep (Bb hBw.drew))
     clear hsv hsv'
     have KS :Hid (∀V,Below W.heap.size W V→V.cell? ⟨w.heap.size,5,none⟩ =some (.slice (some ⟨bx,ox,none⟩) lr.length p1) ∧V.cell? ⟨w.heap.size+1,5,none⟩ =some (.slice (some ⟨by1,oy,none⟩) lr.length q1) ∧V.cell? ⟨bx,ox+k,none⟩ =some (.slice ea y.length ec) ∧V.cell? ⟨by1,oy+k,none⟩ =some (.slice fa y.length fc)) :=fun V hV'=>by
      have hV :Below w.heap.size w V :=hb0.trans (hV'.mono hb0.size)
      exact ⟨Aa (HA.out V hV') rfl,Aa (HB.out V hV') rfl,(by have g :=kx V hV 0 _ rfl;rw [show Jl.size=1 from rfl,Nat.mul_one,Nat.add_zero] at g;exact g),(by have g :=ky V hV 0 _ rfl;rw [show Jl.size=1 from rfl,Nat.mul_one,Nat.add_zero] at g;exact g)⟩
     have j0 : (0 :Int) ≤ (k :Int) :=by omega
     have j1 : (k :Int) < (lr.length :Int) :=by omega
     clear kx ky hy
     go_upto_region 12 with fail
     go_region_held3 (fun V=>V.cell? ⟨w.heap.size,5,none⟩ =some (.slice (some ⟨bx,ox,none⟩) lr.length p1) ∧V.cell? ⟨w.heap.size+1,5,none⟩ =some (.slice (some ⟨by1,oy,none⟩) lr.length q1) ∧V.cell? ⟨bx,ox+k,none⟩ =some (.slice ea y.length ec) ∧V.cell? ⟨by1,oy+k,none⟩ =some (.slice fa y.length fc))
      (with_reducible first | exact KS.out _ hB.drew | exact KS.out _ hz)
      ((go_at_call 19;refine (SE).mono ?_;rintro e w2 ⟨rfl,hb2⟩;have hz :Below W.heap.size W w2 :=hB.drew.trans (hb2.mono hB.size)))
     go_wp2_with fail
     go_roundg (gk - 1)
     case measure=>omega
     case rel=>exact ⟨k+1,by go_num,by omega,hz⟩
    ·have j1 : ¬ (k :Int) < (lr.length :Int) :=by omega
     have da6 :wr.cell? ⟨w.heap.size,6,none⟩ =some (.slice a2 ls.length p2) :=Aa (HA.out wr hB) rfl
     have db6 :wr.cell? ⟨w.heap.size+1,6,none⟩ =some (.slice b2 ls.length q2) :=Aa (HB.out wr hB) rfl
     go_wp2_with fail
     go_loopg [125] ls.length (fun f ix wr=> ∃k :Nat,ix= .int .i64 k∧k+f=ls.length∧Below W.heap.size W wr)
     case atStart=>exact ⟨0,rfl,by simp,hB⟩
     case round=>
      clear hB;obtain ⟨k,rfl,hkf,hB⟩ :=hrel
      have hBw :Below w.heap.size w wr :=hb0.trans (hB.mono hb0.size)
      by_cases hlt :k<ls.length
      ·obtain ⟨y,hy⟩ : ∃y,ls[k]? =some y := ⟨_,List.getElem?_eq_getElem hlt⟩
       have hmx :=Mq k3
       unfold maxLen at hmx
       obtain ⟨bx,ox,cx,hceq,hc,kx⟩ :=Gw k3 hy
       obtain ⟨by1,oy,dx,hceq1,hd,ky⟩ :=Gw k3' hy
       subst hceq hceq1
       obtain ⟨d1,rfl,hl1,hsv⟩ :=hc
       obtain ⟨d2,rfl,hl2,hsv'⟩ :=hd
       obtain ⟨xo,xk1,xn1,xs3,xs4,xm,xi,xa,xl,xc,rfl⟩ :=G6 (F :=F) (w :=w) (e :=y.2) ⟨hl1,hsv⟩
       obtain ⟨zo,zk1,zn1,zs3,zs4,zm,zi,za,zl,zc,rfl⟩ :=G6 (F :=F') (w :=w) (e :=y.2) ⟨hl2,hsv'⟩
       have SE :=P6 y.2 F F' wr.drew _ _ (IsE.keep (Bb hBw.drew) _ _ hsv) (IsE.keep (Bb hBw.drew) _ _ hsv')
       clear hsv hsv' hl1 hl2
       have KS :Hid (∀V,Below W.heap.size W V→V.cell? ⟨w.heap.size,6,none⟩ =some (.slice (some ⟨bx,ox,none⟩) ls.length p2) ∧V.cell? ⟨w.heap.size+1,6,none⟩ =some (.slice (some ⟨by1,oy,none⟩) ls.length q2) ∧V.cell? ⟨bx,ox+k*9,none⟩ =some (.string y.1) ∧V.cell? ⟨bx,ox+k*9+1,none⟩ =some (.int .i64 xo) ∧V.cell? ⟨bx,ox+k*9+2,none⟩ =some (.int .i64 xk1) ∧V.cell? ⟨bx,ox+k*9+3,none⟩ =some (.int .i64 xn1) ∧V.cell? ⟨bx,ox+k*9+4,none⟩ =some (.string xs3) ∧V.cell? ⟨bx,ox+k*9+5,none⟩ =some (.string xs4) ∧V.cell? ⟨bx,ox+k*9+6,none⟩ =some (.string xm) ∧V.cell? ⟨bx,ox+k*9+7,none⟩ =some (.int .i64 xi) ∧V.cell? ⟨bx,ox+k*9+8,none⟩ =some (.slice xa xl xc) ∧V.cell? ⟨by1,oy+k*9,none⟩ =some (.string y.1) ∧V.cell? ⟨by1,oy+k*9+1,none⟩ =some (.int .i64 zo) ∧V.cell? ⟨by1,oy+k*9+2,none⟩ =some (.int .i64 zk1) ∧V.cell? ⟨by1,oy+k*9+3,none⟩ =some (.int .i64 zn1) ∧V.cell? ⟨by1,oy+k*9+4,none⟩ =some (.string zs3) ∧V.cell? ⟨by1,oy+k*9+5,none⟩ =some (.string zs4) ∧V.cell? ⟨by1,oy+k*9+6,none⟩ =some (.string zm) ∧V.cell? ⟨by1,oy+k*9+7,none⟩ =some (.int .i64 zi) ∧V.cell? ⟨by1,oy+k*9+8,none⟩ =some (.slice za zl zc)) :=fun V hV'=>by
        have hV :Below w.heap.size w V :=hb0.trans (hV'.mono hb0.size)
        exact ⟨Aa (HA.out V hV') rfl,Aa (HB.out V hV') rfl,kx V hV 0 _ rfl,kx V hV 1 _ rfl,kx V hV 2 _ rfl,kx V hV 3 _ rfl,kx V hV 4 _ rfl,kx V hV 5 _ rfl,kx V hV 6 _ rfl,kx V hV 7 _ rfl,kx V hV 8 _ rfl,ky V hV 0 _ rfl,ky V hV 1 _ rfl,ky V hV 2 _ rfl,ky V hV 3 _ rfl,ky V hV 4 _ rfl,ky V hV 5 _ rfl,ky V hV 6 _ rfl,ky V hV 7 _ rfl,ky V hV 8 _ rfl⟩
       have j0 : (0 :Int) ≤ (k :Int) :=by omega
       have j1 : (k :Int) < (ls.length :Int) :=by omega
       clear kx ky hy
       go_upto_region 18 with fail
       go_region_held3 (fun V=>V.cell? ⟨w.heap.size,6,none⟩ =some (.slice (some ⟨bx,ox,none⟩) ls.length p2) ∧V.cell? ⟨w.heap.size+1,6,none⟩ =some (.slice (some ⟨by1,oy,none⟩) ls.length q2) ∧V.cell? ⟨bx,ox+k*9,none⟩ =some (.string y.1) ∧V.cell? ⟨bx,ox+k*9+1,none⟩ =some (.int .i64 xo) ∧V.cell? ⟨bx,ox+k*9+2,none⟩ =some (.int .i64 xk1) ∧V.cell? ⟨bx,ox+k*9+3,none⟩ =some (.int .i64 xn1) ∧V.cell? ⟨bx,ox+k*9+4,none⟩ =some (.string xs3) ∧V.cell? ⟨bx,ox+k*9+5,none⟩ =some (.string xs4) ∧V.cell? ⟨bx,ox+k*9+6,none⟩ =some (.string xm) ∧V.cell? ⟨bx,ox+k*9+7,none⟩ =some (.int .i64 xi) ∧V.cell? ⟨bx,ox+k*9+8,none⟩ =some (.slice xa xl xc) ∧V.cell? ⟨by1,oy+k*9,none⟩ =some (.string y.1) ∧V.cell? ⟨by1,oy+k*9+1,none⟩ =some (.int .i64 zo) ∧V.cell? ⟨by1,oy+k*9+2,none⟩ =some (.int .i64 zk1) ∧V.cell? ⟨by1,oy+k*9+3,none⟩ =some (.int .i64 zn1) ∧V.cell? ⟨by1,oy+k*9+4,none⟩ =some (.string zs3) ∧V.cell? ⟨by1,oy+k*9+5,none⟩ =some (.string zs4) ∧V.cell? ⟨by1,oy+k*9+6,none⟩ =some (.string zm) ∧V.cell? ⟨by1,oy+k*9+7,none⟩ =some (.int .i64 zi) ∧V.cell? ⟨by1,oy+k*9+8,none⟩ =some (.slice za zl zc))
        (with_reducible first | exact KS.out _ hB.drew | exact KS.out _ hz)
        ((go_at_call 20;refine (SE).mono ?_;rintro e w2 ⟨rfl,hb2⟩;have hz :Below W.heap.size W w2 :=hB.drew.trans (hb2.mono hB.size)))
       go_wp2_with fail
       go_roundg (gk - 1)
       case measure=>omega
       case rel=>exact ⟨k+1,by go_num,by omega,hz⟩
      ·have j1 : ¬ (k :Int) < (ls.length :Int) :=by omega
       have da7 :wr.cell? ⟨w.heap.size,7,none⟩ =some (.slice a3 lf.length p3) :=Aa (HA.out wr hB) rfl
       have db7 :wr.cell? ⟨w.heap.size+1,7,none⟩ =some (.slice b3 lf.length q3) :=Aa (HB.out wr hB) rfl
       go_wp2_with fail
       go_loopg [161] lf.length (fun f ix wr=> ∃k :Nat,ix= .int .i64 k∧k+f=lf.length∧Below W.heap.size W wr)
       case atStart=>exact ⟨0,rfl,by simp,hB⟩
       case round=>
        clear hB;obtain ⟨k,rfl,hkf,hB⟩ :=hrel
        have hBw :Below w.heap.size w wr :=hb0.trans (hB.mono hb0.size)
        by_cases hlt :k<lf.length
        ·obtain ⟨y,hy⟩ : ∃y,lf[k]? =some y := ⟨_,List.getElem?_eq_getElem hlt⟩
         have hmx :=Mq k4
         unfold maxLen at hmx
         obtain ⟨bx,ox,cx,hceq,hc,kx⟩ :=Gw k4 hy
         obtain ⟨by1,oy,dx,hceq1,hd,ky⟩ :=Gw k4' hy
         subst hceq hceq1
         have hc2 :cx= [.string y] :=hc
         have hd2 :dx= [.string y] :=hd
         subst hc2 hd2
         have KS :Hid (∀V,Below W.heap.size W V→V.cell? ⟨w.heap.size,7,none⟩ =some (.slice (some ⟨bx,ox,none⟩) lf.length p3) ∧V.cell? ⟨w.heap.size+1,7,none⟩ =some (.slice (some ⟨by1,oy,none⟩) lf.length q3) ∧V.cell? ⟨bx,ox+k,none⟩ =some (.string y) ∧V.cell? ⟨by1,oy+k,none⟩ =some (.string y)) :=fun V hV'=>by
          have hV :Below w.heap.size w V :=hb0.trans (hV'.mono hb0.size)
          exact ⟨Aa (HA.out V hV') rfl,Aa (HB.out V hV') rfl,(by have g :=kx V hV 0 _ rfl;rw [show Hj.size=1 from rfl,Nat.mul_one,Nat.add_zero] at g;exact g),(by have g :=ky V hV 0 _ rfl;rw [show Hj.size=1 from rfl,Nat.mul_one,Nat.add_zero] at g;exact g)⟩
         have j0 : (0 :Int) ≤ (k :Int) :=by omega
         have j1 : (k :Int) < (lf.length :Int) :=by omega
         clear kx ky hy
         go_upto_region 24 with fail
         go_region_held3 (fun V=>V.cell? ⟨w.heap.size,7,none⟩ =some (.slice (some ⟨bx,ox,none⟩) lf.length p3) ∧V.cell? ⟨w.heap.size+1,7,none⟩ =some (.slice (some ⟨by1,oy,none⟩) lf.length q3) ∧V.cell? ⟨bx,ox+k,none⟩ =some (.string y) ∧V.cell? ⟨by1,oy+k,none⟩ =some (.string y))
          (with_reducible first | exact KS.out _ hB.drew | exact KS.out _ hz)
          (fail)
         go_wp2_with fail
         go_roundg (gk - 1)
         case measure=>omega
         case rel=>exact ⟨k+1,by go_num,by omega,hB.drew⟩
        ·have j1 : ¬ (k :Int) < (lf.length :Int) :=by omega
         have da8 :wr.cell? ⟨w.heap.size,8,none⟩ =some (.slice a4 lo.length p4) :=Aa (HA.out wr hB) rfl
         have db8 :wr.cell? ⟨w.heap.size+1,8,none⟩ =some (.slice b4 lo.length q4) :=Aa (HB.out wr hB) rfl
         have da9 :wr.cell? ⟨w.heap.size,9,none⟩ =some (.int .i64 op) :=Aa (HA.out wr hB) rfl
         have db9 :wr.cell? ⟨w.heap.size+1,9,none⟩ =some (.int .i64 op') :=Aa (HB.out wr hB) rfl
         have da10 :wr.cell? ⟨w.heap.size,10,none⟩ =some (.int .i64 xk) :=Aa (HA.out wr hB) rfl
         have db10 :wr.cell? ⟨w.heap.size+1,10,none⟩ =some (.int .i64 xk') :=Aa (HB.out wr hB) rfl
         have da11 :wr.cell? ⟨w.heap.size,11,none⟩ =some (.int .i64 xn) :=Aa (HA.out wr hB) rfl
         have db11 :wr.cell? ⟨w.heap.size+1,11,none⟩ =some (.int .i64 xn') :=Aa (HB.out wr hB) rfl
         have da12 :wr.cell? ⟨w.heap.size,12,none⟩ =some (.string xs) :=Aa (HA.out wr hB) rfl
         have db12 :wr.cell? ⟨w.heap.size+1,12,none⟩ =some (.string xs') :=Aa (HB.out wr hB) rfl
         have da13 :wr.cell? ⟨w.heap.size,13,none⟩ =some (.string s2) :=Aa (HA.out wr hB) rfl
         have db13 :wr.cell? ⟨w.heap.size+1,13,none⟩ =some (.string s2') :=Aa (HB.out wr hB) rfl
         have da14 :wr.cell? ⟨w.heap.size,14,none⟩ =some (.string nmv) :=Aa (HA.out wr hB) rfl
         have db14 :wr.cell? ⟨w.heap.size+1,14,none⟩ =some (.string nmv') :=Aa (HB.out wr hB) rfl
         have da15 :wr.cell? ⟨w.heap.size,15,none⟩ =some (.int .i64 n8) :=Aa (HA.out wr hB) rfl
         have db15 :wr.cell? ⟨w.heap.size+1,15,none⟩ =some (.int .i64 n8') :=Aa (HB.out wr hB) rfl
         have da16 :wr.cell? ⟨w.heap.size,16,none⟩ =some (.slice a5 l5 p5) :=Aa (HA.out wr hB) rfl
         have db16 :wr.cell? ⟨w.heap.size+1,16,none⟩ =some (.slice b5 l5' q5) :=Aa (HB.out wr hB) rfl
         have da17 :wr.cell? ⟨w.heap.size,17,none⟩ =some (.slice a6 lo2.length p6) :=Aa (HA.out wr hB) rfl
         have db17 :wr.cell? ⟨w.heap.size+1,17,none⟩ =some (.slice b6 lo2.length q6) :=Aa (HB.out wr hB) rfl
         have SO :=Yq lo F F' wr _ _ ((Adx.1 k5).keep (Bb hBw)) ((Adx.1 k5').keep (Bb hBw))
         have HSW :Hid (∀V,Below w.heap.size w V→_) :=fun V hV=>P6 ew F F' V _ _ (IsE.keep (Bb hV) _ _ k6) (IsE.keep (Bb hV) _ _ k6')
         have HSR :Hid (∀V,Below w.heap.size w V→_) :=fun V hV=>Yq lo2 F F' V _ _ ((Adx.1 k7).keep (Bb hV)) ((Adx.1 k7').keep (Bb hV))
         go_wp2_with (first
          | (go_at_call 19;go_fit SR;rintro e w4 ⟨rfl,hb4⟩)
          | (go_at_call 19;go_fit SO;rintro e w2 ⟨rfl,hb2⟩;have hB2 :Below W.heap.size W w2 :=hB.trans (hb2.mono hB.size);have da9 :w2.cell? ⟨w.heap.size,9,none⟩ =some (.int .i64 op) :=Aa (HA.out w2 hB2) rfl;have db9 :w2.cell? ⟨w.heap.size+1,9,none⟩ =some (.int .i64 op') :=Aa (HB.out w2 hB2) rfl;have da10 :w2.cell? ⟨w.heap.size,10,none⟩ =some (.int .i64 xk) :=Aa (HA.out w2 hB2) rfl;have db10 :w2.cell? ⟨w.heap.size+1,10,none⟩ =some (.int .i64 xk') :=Aa (HB.out w2 hB2) rfl;have da11 :w2.cell? ⟨w.heap.size,11,none⟩ =some (.int .i64 xn) :=Aa (HA.out w2 hB2) rfl;have db11 :w2.cell? ⟨w.heap.size+1,11,none⟩ =some (.int .i64 xn') :=Aa (HB.out w2 hB2) rfl;have da12 :w2.cell? ⟨w.heap.size,12,none⟩ =some (.string xs) :=Aa (HA.out w2 hB2) rfl;have db12 :w2.cell? ⟨w.heap.size+1,12,none⟩ =some (.string xs') :=Aa (HB.out w2 hB2) rfl;have da13 :w2.cell? ⟨w.heap.size,13,none⟩ =some (.string s2) :=Aa (HA.out w2 hB2) rfl;have db13 :w2.cell? ⟨w.heap.size+1,13,none⟩ =some (.string s2') :=Aa (HB.out w2 hB2) rfl;have da14 :w2.cell? ⟨w.heap.size,14,none⟩ =some (.string nmv) :=Aa (HA.out w2 hB2) rfl;have db14 :w2.cell? ⟨w.heap.size+1,14,none⟩ =some (.string nmv') :=Aa (HB.out w2 hB2) rfl;have da15 :w2.cell? ⟨w.heap.size,15,none⟩ =some (.int .i64 n8) :=Aa (HA.out w2 hB2) rfl;have db15 :w2.cell? ⟨w.heap.size+1,15,none⟩ =some (.int .i64 n8') :=Aa (HB.out w2 hB2) rfl;have da16 :w2.cell? ⟨w.heap.size,16,none⟩ =some (.slice a5 l5 p5) :=Aa (HA.out w2 hB2) rfl;have db16 :w2.cell? ⟨w.heap.size+1,16,none⟩ =some (.slice b5 l5' q5) :=Aa (HB.out w2 hB2) rfl;have SW :=HSW.out w2 (hb0.trans (hB2.mono hb0.size)))
          | (go_at_call 20;go_fit SW;rintro e w3 ⟨rfl,hb3⟩;have hB3 :Below W.heap.size W w3 :=hB2.trans (hb3.mono hB2.size);have da17 :w3.cell? ⟨w.heap.size,17,none⟩ =some (.slice a6 lo2.length p6) :=Aa (HA.out w3 hB3) rfl;have db17 :w3.cell? ⟨w.heap.size+1,17,none⟩ =some (.slice b6 lo2.length q6) :=Aa (HB.out w3 hB3) rfl;have SR :=HSR.out w3 (hb0.trans (hB3.mono hb0.size))))
         go_ret
         have hB4 :=hB3.trans (hb4.mono hB3.size)
         exact ⟨rfl,hb0.trans (hB4.mono hb0.size)⟩
end Go.Proofs.YtifjaegfpdjikaaGreatDoor

namespace Go.Proofs.YtifjaegfpdjikaaGreatDoor
open Go.RowKit
def sT :Wd := ⟨#[115,101,108,101,99,116,32,97,32,102,114,111,109,32,116,32,119,104,101,114,101,32,110,111,116,32,98,32,61,32,39,120,39,59]⟩
def opE :E→Int
 | .mk op _ _ _ _ _=>op
theorem Acl : (Eb sT.data.toList).2=0 :=by kernel_rfl
theorem Adj : ((Eb sT.data.toList).1.map fun s=> (s.kind,opE s.wher)) = [(7,9)] :=by kernel_rfl
theorem Ac3 : ∃st :Stm,Eb sT.data.toList= ([st],0) ∧st.kind=7∧ ∃v s nm n l,st.wher= .mk 9 v s nm n l :=by
 have h1 :=Acl
 have h2 :=Adj
 generalize Eb sT.data.toList=r at h1 h2⊢
 obtain ⟨l,c⟩ :=r
 dsimp only at h1 h2
 subst h1
 obtain ⟨st,rfl⟩ : ∃st,l= [st] :=List.length_eq_one_iff.1 (by have h3 :=congrArg List.length h2;rw [List.length_map] at h3;exact h3)
 simp only [List.map_cons,List.map_nil,List.cons.injEq,and_true,Prod.mk.injEq] at h2
 refine ⟨st,rfl,h2.1, ?_⟩
 have h3 :=h2.2
 cases hw :st.wher with
 | mk op v s nm n l=>
  rw [hw,opE] at h3
  subst h3
  exact ⟨v,s,nm,n,l,rfl⟩
theorem Abn {w8 :List Value} {a :Array Value} (h :Value.agg w8.toArray= .agg a) :w8=a.toList :=by
 injection h with h
 rw [←h]
theorem Acm {F :Nat→Prop} {w :World} {st :Stm} {c :List Value} (h :Fq.R F w st c) {op :Int} {v :V} {s nm :Wd} {n :Int} {l :List E} (hw :st.wher= .mk op v s nm n l) :c[0]? =some (.int .i64 st.kind) ∧c[9]? =some (.int .i64 op) :=by
 obtain ⟨cols,rows,sets,frm,out,w8,order,rfl,h8,k1,k2,k3,k4,k5,k6,k7⟩ :=h.is
 rw [hw] at k6
 obtain ⟨sv,e,_⟩ :=k6.open
 obtain rfl :=Abn e
 exact ⟨rfl,rfl⟩
set_option maxRecDepth 100000 in
set_option maxHeartbeats 2000000 in
theorem We (w :World) (he :Env w) :Calls Tryz.prog 8 #[] w fun e w'=>e= .returned (.bool true) ∧Below w.heap.size w w' :=by
 obtain ⟨st,hst,hk,v,s,nm,n,l,hw⟩ :=Ac3
 have SC :=Rg sT w he
 rw [hst] at SC
 dsimp only at SC
 unfold sT at SC
 clear hst
 go_enter Tryz.func8,Tryz.ntmps8
 go_upto_region 2 with (go_at_call 4;go_must (go_fit SC;rintro e W1 ⟨sv,rfl,hl1,hb1⟩;obtain ⟨a1,p1,rfl⟩ :=hl1.shape))
 obtain ⟨b,off,c,hbeq,hR,hc⟩ :=Gw hl1 (k :=0) (x :=st) rfl
 subst hbeq
 have d :=Acm hR hw
 have d0 :W1.cell? ⟨b,off,none⟩ =some (.int .i64 7) :=by have :=hc W1 (Below.refl _ _) 0 _ d.1;rw [hk] at this;simpa using this
 have d9 :W1.cell? ⟨b,off+9,none⟩ =some (.int .i64 9) :=by have :=hc W1 (Below.refl _ _) 9 _ d.2;simpa using this
 clear hc hR d hw hk hl1 SC
 go_wp2_with fail
 go_ret
 exact ⟨rfl,hb1⟩
set_option maxRecDepth 100000 in
set_option maxHeartbeats 8000000 in
theorem syntaxScripts_any (hsel :Oh) (t :Wd) (w :World) (he :Env w) (hs :t.size≤maxLen) :
  Calls Tryz.prog 3 #[.string t] w fun e w'=>e= .returned (.bool true) ∧Below w.heap.size w w' :=by
 have SC :=Rg t w he
 have SO : ∀V,Below w.heap.size w V→Calls Tryz.prog 5 #[.string t] V (Ov (Eb t.data.toList) V) :=fun V hV=>by
  by_cases hl :1500<t.size
  ·rw [show Eb t.data.toList= ([],2) by rw [Eb,if_pos (by rw [Bi];exact hl)]]
   exact Th t V hl
  ·rw [show Eb t.data.toList=F9 (By t.data.toList) by rw [Eb,if_neg (by rw [Bi];exact hl)];rfl]
   exact U0 (Abl hsel) t V (he.next hV) hl
 have NA : ∀V,Calls Tryz.prog 6 #[.string t] V fun e w'=>e= .returned (.bool (nm t)) ∧w'=V :=fun V=>Sb t V hs
 have IN : ∀V,Below w.heap.size w V→Calls Tryz.prog 7 #[.string t] V fun e w'=>e= .returned (.bool (nm t)) ∧Below V.heap.size V w' :=fun V hV=>Ey t V (he.next hV)
 have SS : ∀V,Below w.heap.size w V→Calls Tryz.prog 8 #[] V fun e w'=>e= .returned (.bool true) ∧Below V.heap.size V w' :=fun V hV=>We V (he.next hV)
 generalize nm t=bn at*
 generalize Eb t.data.toList=r at*
 obtain ⟨l,c⟩ :=r
 unfold Ov at SO
 dsimp only at SC SO
 clear hs hsel
 go_enter Tryz.func3,Tryz.ntmps3
 go_upto_region 3 with (first
  | (go_at_call 4;go_must (go_fit SC;rintro e W1 ⟨sv,rfl,hl1,hb1⟩;obtain ⟨a1,p1,rfl⟩ :=hl1.shape;have SO1 :=SO W1 hb1))
  | (go_at_call 5;go_must (go_fit SO1;rintro e W2 ⟨sv2,rfl,hl2,hb2⟩;obtain ⟨a2,p2,rfl⟩ :=hl2.shape)))
 have hB2 :Below w.heap.size w W2 :=hb1.trans (hb2.mono hb1.size)
 have hm1 :IsL Fq (Fr w.heap.size) W2 (.slice a1 l.length p1) l :=hl1.keep (Bb hb2)
 have hm2 :IsL Fq (Fr w.heap.size) W2 (.slice a2 l.length p2) l :=hl2.mono (fun k _ hk=>Nat.le_trans hb1.size hk)
 have NA2 :=NA W2
 have IN2 :=IN W2 hB2
 have SS2 :Hid _ :=SS
 have hlm :=Mq hm1
 unfold maxLen at hlm
 clear SC SO SO1 NA IN SS hl1 hl2
 go_upto_region 5 with (first
  | (go_at_call 6;go_must (go_fit NA2;rintro e W3 ⟨rfl,rfl⟩))
  | (go_at_call 7;go_must (go_fit IN2;rintro e W4 ⟨rfl,hb4⟩;have hB4 :=hB2.trans (hb4.mono hB2.size);have SS4 :=SS2.out W4 hB4))
  | (go_at_call 8;go_must (go_fit SS4;rintro e W5 ⟨rfl,hb5⟩)))
 have hB5 :Below w.heap.size w W5 :=hB4.trans (hb5.mono hB4.size)
 have hn1 :IsL Fq (Fr w.heap.size) W5 (.slice a1 l.length p1) l := (hm1.keep (Bb hb4)).keep (Bb hb5)
 have hn2 :IsL Fq (Fr w.heap.size) W5 (.slice a2 l.length p2) l := (hm2.keep (Bb hb4)).keep (Bb hb5)
 clear SS4 IN2 NA2 SS2 hm1 hm2
 go_wp2_with fail
 go_loopg [41] l.length (fun f ix wr=> ∃k :Nat,ix= .int .i64 k∧k+f=l.length∧Below W5.heap.size W5 wr)
 case atStart=>exact ⟨0,rfl,by simp,Below.refl _ _⟩
 case round=>
  obtain ⟨k,rfl,hkf,hB⟩ :=hrel
  by_cases hk :k<l.length
  ·obtain ⟨st,hst⟩ : ∃st,l[k]? =some st := ⟨_,List.getElem?_eq_getElem hk⟩
   obtain ⟨b,off,d1,hc1,hR1,kx⟩ :=Gw hn1 hst
   obtain ⟨b1,off1,d2,hc2,hR2,ky⟩ :=Gw hn2 hst
   subst hc1 hc2
   have SE :=U6 _ _ wr.drew st d1 d2 (Fq.keep (Bb hB.drew) hR1) (Fq.keep (Bb hB.drew) hR2)
   have KS :Hid (∀V,Below W5.heap.size W5 V→V.rangeAt b (off+k*20) d1∧V.rangeAt b1 (off1+k*20) d2) :=fun V hV=> ⟨kx V hV,ky V hV⟩
   have hi1 : (Tryz.prog.info? 39).map (·.size) =some d1.length :=by rw [show d1.length=20 from Fq.len hR1];exact Af
   have hi2 : (Tryz.prog.info? 39).map (·.size) =some d2.length :=by rw [show d2.length=20 from Fq.len hR2];exact Af
   have j0 : (0 :Int) ≤ (k :Int) :=by omega
   have j1 : (k :Int) < (l.length :Int) :=by omega
   clear hR1 hR2 kx ky hst hn1 hn2 hk
   generalize l.length=nn at*
   clear l
   go_upto_region 8 with fail
   refine wp_region_held_drew (S :=fun V=>V.rangeAt b (off+k*20) d1∧V.rangeAt b1 (off1+k*20) d2) (by kernel_rfl) ?_ (fun hHeld=> ?_)
   ·with_reducible first | exact KS.out _ hB.drew | exact KS.out _ hz
   refine wpAnyH_take (i :=0) (oi := {dst :=some 44,op :=Go.Op.move (Go.Operand.tmp 3),type :=22,pos := "law.go:136",after := #[],guard :=none}) (v := ?_) rfl (by kernel_rfl) (by kernel_rfl) (by kernel_rfl) (fun _ _ _ h=>h) (Or.inl ⟨by rfl, ?_⟩) (by assumption) ?_
   rotate_left
   ·intro w hSw;(try dsimp only at hSw);go_simp;all_goals (with_reducible rfl)
   try simp only [Act.put,List.setIfInBounds_toArray,List.set_cons_zero,List.set_cons_succ]
   refine wpAnyH_take (i :=1) (oi := {dst :=some 45,op :=Go.Op.move (Go.Operand.tmp 7),type :=3,pos := "law.go:136",after := #[],guard :=none}) (v := ?_) rfl (by kernel_rfl) (by kernel_rfl) (by kernel_rfl) (fun _ _ _ h=>h) (Or.inl ⟨by rfl, ?_⟩) (by assumption) ?_
   rotate_left
   ·intro w hSw;(try dsimp only at hSw);go_simp;all_goals (with_reducible rfl)
   try simp only [Act.put,List.setIfInBounds_toArray,List.set_cons_zero,List.set_cons_succ]
   refine wpAnyH_take (i :=2) (oi := {dst :=some 46,op :=Go.Op.indexAddr 22 (Go.Operand.tmp 44) (Go.Operand.tmp 45),type :=0,pos := "law.go:136",after := #[{on :=0,ground :=Go.Ground.data},{on :=1,ground :=Go.Ground.data}],guard :=none}) (v := ?_) rfl (by kernel_rfl) (by kernel_rfl) (by kernel_rfl) (fun _ _ _ h=>h) (Or.inl ⟨by rfl, ?_⟩) (by assumption) ?_
   rotate_left
   ·intro w hSw;(try dsimp only at hSw);go_simp;all_goals (with_reducible rfl)
   try simp only [Act.put,List.setIfInBounds_toArray,List.set_cons_zero,List.set_cons_succ]
   refine wpAnyH_take (i :=3) (oi := {dst :=some 47,op :=Go.Op.load 39 (Go.Operand.tmp 46),type :=39,pos := "law.go:136",after := #[{on :=2,ground :=Go.Ground.data}],guard :=none}) (v := .agg d1.toArray) rfl (by kernel_rfl) (by kernel_rfl) (by kernel_rfl) (fun _ _ _ h=>h) (yieldsIf_load_mid rfl 39 _ rfl b (off+k*20) rfl d1 _ (fun _ h=>h.1) Tryz.underlying39 rfl hi1) (by assumption) ?_
   try simp only [Act.put,List.setIfInBounds_toArray,List.set_cons_zero,List.set_cons_succ]
   refine wpAnyH_take (i :=4) (oi := {dst :=some 48,op :=Go.Op.move (Go.Operand.tmp 5),type :=22,pos := "law.go:136",after := #[],guard :=none}) (v := ?_) rfl (by kernel_rfl) (by kernel_rfl) (by kernel_rfl) (fun _ _ _ h=>h) (Or.inl ⟨by rfl, ?_⟩) (by assumption) ?_
   rotate_left
   ·intro w hSw;(try dsimp only at hSw);go_simp;all_goals (with_reducible rfl)
   try simp only [Act.put,List.setIfInBounds_toArray,List.set_cons_zero,List.set_cons_succ]
   refine wpAnyH_take (i :=5) (oi := {dst :=some 49,op :=Go.Op.move (Go.Operand.tmp 7),type :=3,pos := "law.go:136",after := #[],guard :=none}) (v := ?_) rfl (by kernel_rfl) (by kernel_rfl) (by kernel_rfl) (fun _ _ _ h=>h) (Or.inl ⟨by rfl, ?_⟩) (by assumption) ?_
   rotate_left
   ·intro w hSw;(try dsimp only at hSw);go_simp;all_goals (with_reducible rfl)
   try simp only [Act.put,List.setIfInBounds_toArray,List.set_cons_zero,List.set_cons_succ]
   refine wpAnyH_take (i :=6) (oi := {dst :=some 50,op :=Go.Op.indexAddr 22 (Go.Operand.tmp 48) (Go.Operand.tmp 49),type :=0,pos := "law.go:136",after := #[{on :=4,ground :=Go.Ground.data},{on :=5,ground :=Go.Ground.data}],guard :=none}) (v := ?_) rfl (by kernel_rfl) (by kernel_rfl) (by kernel_rfl) (fun _ _ _ h=>h) (Or.inl ⟨by rfl, ?_⟩) (by assumption) ?_
   rotate_left
   ·intro w hSw;(try dsimp only at hSw);go_simp;all_goals (with_reducible rfl)
   try simp only [Act.put,List.setIfInBounds_toArray,List.set_cons_zero,List.set_cons_succ]
   refine wpAnyH_take (i :=7) (oi := {dst :=some 51,op :=Go.Op.load 39 (Go.Operand.tmp 50),type :=39,pos := "law.go:136",after := #[{on :=6,ground :=Go.Ground.data}],guard :=none}) (v := .agg d2.toArray) rfl (by kernel_rfl) (by kernel_rfl) (by kernel_rfl) (fun _ _ _ h=>h) (yieldsIf_load_mid rfl 39 _ rfl b1 (off1+k*20) rfl d2 _ (fun _ h=>h.2) Tryz.underlying39 rfl hi2) (by assumption) ?_
   try simp only [Act.put,List.setIfInBounds_toArray,List.set_cons_zero,List.set_cons_succ]
   refine wpAnyH_ready (rs := [8]) (by kernel_rfl) (by simp) ?_
   refine (AllReadyH.cons (o := {dst :=some 52,op :=Go.Op.call {callee :=Go.Callee.value (Go.Operand.func 9),args := #[Go.Operand.tmp 47,Go.Operand.tmp 51],argTypes := #[39,39]},type :=4,pos := "law.go:136",after := #[{on :=3,ground :=Go.Ground.data},{on :=7,ground :=Go.Ground.data}],guard :=none}) rfl (fun K hK=> ?_) AllReadyH.nil)
   go_simp
   go_at_call 9;refine (SE).mono ?_;rintro e w2 ⟨rfl,hb2⟩;have hz :Below W5.heap.size W5 w2 :=hB.drew.trans (hb2.mono hB.size)
   go_wp2_with fail
   refine hK.out _ _ ?_ (fun hHeld=> ?_)
   ·with_reducible first | exact KS.out _ hB.drew | exact KS.out _ hz
   clear hK K
   try simp only [Act.put,List.setIfInBounds_toArray,List.set_cons_zero,List.set_cons_succ]
   refine wpAnyH_take (i :=9) (oi := {dst :=some 53,op :=Go.Op.unOp Go.UnOp.not 4 (Go.Operand.tmp 52),type :=4,pos := "law.go:136",after := #[{on :=8,ground :=Go.Ground.data}],guard :=none}) (v := ?_) rfl (by kernel_rfl) (by kernel_rfl) (by kernel_rfl) (fun _ _ _ h=>h) (Or.inl ⟨by rfl, ?_⟩) (by assumption) ?_
   rotate_left
   ·intro w hSw;(try dsimp only at hSw);go_simp;all_goals (with_reducible rfl)
   try simp only [Act.put,List.setIfInBounds_toArray,List.set_cons_zero,List.set_cons_succ]
   refine wpAnyH_done (by kernel_rfl) ?_ _
   go_wp2_with fail
   go_roundg (gk - 1)
   case measure=>omega
   case rel=>exact ⟨k+1,by go_num,by omega,hz⟩
  ·have j1 : ¬ (k :Int) < (l.length :Int) :=by omega
   go_wp2_with fail
   go_ret
   exact ⟨rfl,hB5.trans (hB.mono hB5.size)⟩
end Go.Proofs.YtifjaegfpdjikaaGreatDoor

namespace Go.Proofs.YtifjaegfpdjikaaGreatDoor
open Go.RowKit
theorem U7 {M :List Wd} (h : ¬1<M.length) :Fl M=some (M, -1) :=by rw [Fl,if_neg (fun c=>h c.1)]
theorem Aah {M :List Wd} {y :Wd} (hy :M[M.length - 2]? =some y) (hn :y≠Cr) :Fl M=some (M, -1) :=by
 rw [Fl,if_neg (fun c=>hn ?_)]
 have :=c.2
 rw [List.head?_drop,hy] at this
 exact Option.some.inj this
theorem Yr {M :List Wd} {x :Wd} (h :1<M.length) (hy :M[M.length - 2]? =some Cr) (hx :M[M.length - 1]? =some x) :Fl M= (Cs x).map fun n=> (M.take (M.length - 2),n) :=by
 rw [Fl,if_pos ⟨h,by rw [List.head?_drop,hy]⟩,List.getLast?_eq_getElem?,hx];rfl
def q3R (L :List Wd) (x :E) (es :List E) (dn :Bool) (N :Int) :Option Stm :=match B1 [Az] 0 0 L with
 | some (i,_) => (Bt Ho (Bf (L.drop (i+1)))).bind fun fs=> (J8 (L.take i)).map fun os=> {Bg 7 with out :=os,frm :=fs,wher :=x,order :=es,down :=dn,n :=N}
 | none=>none
def q2R (L :List Wd) (es :List E) (dn :Bool) (N :Int) :Option Stm := (Ek L).bind fun z=>q3R z.1 z.2 es dn N
def q1R (L :List Wd) (N :Int) :Option Stm := (Fm L).bind fun y=>q2R y.1 y.2.1 y.2.2 N
theorem R5 {M L :List Wd} {N :Int} {ok :Bool} {R :Option Stm} (hR :Jj M=R) (h :Fl M=if ok=true then some (L,N) else none) :R=if ok=true then q1R L N else none :=by
 rw [←hR]
 have :Jj M= (Fl M).bind fun x=>q1R x.1 x.2 :=rfl
 rw [this,h]
 cases ok<;>rfl
theorem Wx {L L2 :List Wd} {N :Int} {es :List E} {dn ok okx :Bool} {R :Option Stm} (hR :R=if ok=true then q1R L N else none) (h :Fm L=if okx=true then some (L2,(es,dn)) else none) :R=if (ok&&okx) =true then q2R L2 es dn N else none :=by
 rw [hR,q1R,h]
 cases ok<;>cases okx<;>rfl
theorem Abo {L :List Wd} {N :Int} {ok :Bool} {R :Option Stm} (hR :R=if ok=true then q1R L N else none) (h :Fm L=none) :R=none :=by
 rw [hR,q1R,h]
 cases ok<;>rfl
theorem Acn {L L3 :List Wd} {N :Int} {es :List E} {dn ok okx :Bool} {x :E} {R :Option Stm} (hR :R=if ok=true then q2R L es dn N else none) (h :Ek L=if okx=true then some (L3,x) else none) :R=if (okx&&ok) =true then q3R L3 x es dn N else none :=by
 rw [hR,q2R,h]
 cases ok<;>cases okx<;>rfl
theorem Abp {L :List Wd} {N :Int} {es :List E} {dn ok :Bool} {x :E} {R :Option Stm} (hR :R=if ok=true then q3R L x es dn N else none) (h :B1 [Az] 0 0 L=none) :R=none :=by
 rw [hR,q3R,h]
 cases ok<;>rfl
theorem Aco {L :List Wd} {N :Int} {es :List E} {dn ok :Bool} {x :E} {R :Option Stm} {i j :Nat} (hR :R=if ok=true then q3R L x es dn N else none) (h :B1 [Az] 0 0 L=some (i,j)) :
  (∀fs,Bt Ho (Bf (L.drop (i+1))) =some fs→R=if ok=true then (J8 (L.take i)).map fun os=> {Bg 7 with out :=os,frm :=fs,wher :=x,order :=es,down :=dn,n :=N} else none) ∧ (Bt Ho (Bf (L.drop (i+1))) =none→R=none) :=by
 refine ⟨fun fs hf=> ?_,fun hf=> ?_⟩
 all_goals
  rw [hR,q3R,h]
  simp only [hf]
 ·rfl
 ·cases ok<;>rfl
theorem Wf {L :List Wd} (h :B1 [Bl] 0 0 L=none) :Fm L=some (L,([],false)) :=by rw [Fm,h]
def Lw (B :List Wd) :List Wd :=if B.getLast? =some Co then B.take (B.length - 1) else B
theorem Ys {L :List Wd} {i j :Nat} (h :B1 [Bl] 0 0 L=some (i,j)) (hb : (Lw (L.drop (i+1))).head? ≠some kBy) :Fm L=none :=by
 rw [Fm,h]
 simp only [decide_eq_true_eq]
 exact if_neg hb
theorem Wg {L m :List Wd} {i j :Nat} (h :B1 [Bl] 0 0 L=some (i,j)) (hb :Lw (L.drop (i+1)) =kBy ::m) :Fm L= (Dn m).map fun e=> (L.take i,([e],decide ((L.drop (i+1)).getLast? =some Co))) :=by
 rw [Fm,h]
 simp only [decide_eq_true_eq]
 have : (if (L.drop (i+1)).getLast? =some Co then (L.drop (i+1)).take ((L.drop (i+1)).length - 1) else L.drop (i+1)) =kBy ::m :=hb
 rw [this]
 rfl
theorem Aai {P :List Wd} (h :P.length≠1) :Ho P=none :=by
 match P,h with
 | [],_=>rfl
 | [_],h=>exact absurd rfl h
 | _ ::_ ::_,_=>rfl
theorem Yt {sl a b :Value} {L :List Wd} {rc :Option (Nat×Nat)} {k :Int} {w :World} (h :Oq sl L rc a b k) (hl :Ak w sl L) : (∃ao n c,a= .slice ao n c) ∧ ∃ao n c,b= .slice ao n c :=by
 cases rc with
 | none=>
  obtain ⟨rfl,rfl,_⟩ :=h
  obtain ⟨ao,n,c,rfl,_⟩ :=Ax hl
  exact ⟨⟨_,_,_,rfl⟩,_,_,_,rfl⟩
 | some ij=>
  obtain ⟨i,j⟩ :=ij
  obtain ⟨h1,_⟩ :=h
  obtain ⟨ha,hb⟩ :=h1 _ hl
  obtain ⟨ao,n,c,rfl,_⟩ :=Ax ha
  obtain ⟨bo,m,d,rfl,_⟩ :=Ax hb
  exact ⟨⟨_,_,_,rfl⟩,_,_,_,rfl⟩
end Go.Proofs.YtifjaegfpdjikaaGreatDoor

namespace Go.Proofs.YtifjaegfpdjikaaGreatDoor
open Go.RowKit
theorem U8 {P :Program} {w :World} {ops :Array Oper} {o :Oper} {a :Act} {K :Act→World→Prop} {Q :Exit→Act→World→Prop} {X :Prop} (hgd :o.guard=none) (ty :TypeId) (x y :Operand) (ho :o.op= .store ty x y)
  (b i :Nat) (cells :Array Value) (hx :a.eval x= .pointer (some ⟨b,i,none⟩)) (hy :a.eval y= .agg cells)
  (ht :w.there b i cells.size) (hi : (P.info? ty).map (·.size) =some cells.size) (h1 :cells.all (·.oneCell') =true)
  (h :K (a.put o.dst undef) (w.setCells b i cells.toList)) :if Region.wanted o (yielded ops a.tmps) =true then Oper.wp P o a w K Q else X :=by
 rw [if_pos (by simp [Region.wanted,hgd])]
 exact wp_store_mid ty x y ho b i cells hx hy ht hi h1 h
theorem Is {P :Program} {w :World} {ops :Array Oper} {o :Oper} {a :Act} {K :Act→World→Prop} {Q :Exit→Act→World→Prop} {X :Prop} (hgd :o.guard=none) (ty :TypeId) (x y :Operand) (ho :o.op= .store ty x y)
  (b i :Nat) (cells :List Value) (V :World) (hV :w.setCells b i cells=V) (hx :a.eval x= .pointer (some ⟨b,i,none⟩)) (hy :a.eval y= .agg cells.toArray)
  (ht :w.there b i cells.length) (hi : (P.info? ty).map (·.size) =some cells.length) (h1 :cells.toArray.all (·.oneCell') =true)
  (h :K (a.put o.dst undef) V) :if Region.wanted o (yielded ops a.tmps) =true then Oper.wp P o a w K Q else X :=by
 subst hV
 exact U8 hgd ty x y ho b i cells.toArray hx hy (by rw [List.size_toArray];exact ht) (by rw [List.size_toArray];exact hi) h1 h
theorem Aaj : (Tryz.prog.info? 37).map (·.size) =some 8 :=by kernel_rfl
theorem Aak {w :World} {B g n cap size :Nat} {t :TypeId} {cs :List Value} (h :w.ownsRow B t size (.slice (some ⟨g,0,none⟩) n cap) n cs) (j :Nat) (v :Value) : (w.setCell ⟨g,j,none⟩ v).ownsRow B t size (.slice (some ⟨g,0,none⟩) n cap) n (cs.set j v) :=by
 obtain ⟨h1,h2⟩ :=h
 refine ⟨by rw [List.length_set];exact h1, ?_⟩
 rcases h2 with ⟨h2,_⟩ | ⟨g',cap',cur,he,hg,hh,hn,hm,hs,ht⟩
 ·cases h2
 ·cases he
  refine .inr ⟨g,cap,_,rfl,hg,upd hh j v,hn,hm,by simp;exact hs, ?_⟩
  rw [←ht,Array.toList_setIfInBounds,List.take_set]
theorem Sq {B g n cap size :Nat} {t :TypeId} : ∀ (vs :List Value) (w :World) (pre mid :List Value),w.ownsRow B t size (.slice (some ⟨g,0,none⟩) n cap) n (pre++mid) →mid.length=vs.length→ (w.setCells g pre.length vs).ownsRow B t size (.slice (some ⟨g,0,none⟩) n cap) n (pre++vs)
 | [],w,pre,mid,h,hm=>by
  have :mid= [] :=List.eq_nil_of_length_eq_zero hm
  subst this
  exact h
 | v ::vs,w,pre,m ::mid,h,hm=>by
  have h1 :=Aak h pre.length v
  rw [List.set_append_right _ _ (Nat.le_refl _),Nat.sub_self,List.set_cons_zero] at h1
  have h2 :=Sq vs (w.setCell ⟨g,pre.length,none⟩ v) (pre++ [v]) mid (by rw [List.append_assoc];exact h1) (by simpa using hm)
  rw [List.length_append,List.length_singleton,List.append_assoc] at h2
  exact h2
 | _ ::_,_,_,[],_,hm=>by simp at hm
theorem E4 {g :Nat} : ∀ (vs :List Value) (o :Nat) (w :World),(w.setCells g o vs).heap.size=w.heap.size∧ (w.setCells g o vs).os=w.os∧ (w.setCells g o vs).tape=w.tape∧ (w.setCells g o vs).output=w.output∧ ∀k,k≠g→ (w.setCells g o vs).heap[k]? =w.heap[k]?
 | [],_,_=> ⟨rfl,rfl,rfl,rfl,fun _ _=>rfl⟩
 | v ::vs,o,w=>by
  obtain ⟨h1,h2,h3,h4,h5⟩ :=E4 vs (o+1) (w.setCell ⟨g,o,none⟩ v)
  exact ⟨h1.trans (by simp [World.setCell]),h2,h3,h4,fun k hk=> (h5 k hk).trans (Below.heap_setCell w ⟨g,o,none⟩ v k hk)⟩
theorem E5.addPut {α :Type} {K :Elem α} {t :TypeId} {base :Nat} {S :Side} {V w4 :World} {z z2 :Value} {acc :List α} {cs c zs :List Value} {x :α}
  (hall :All K (FO base z) V acc cs) (hside :S.P (FO base z) V) (hx :K.R (FO base z) V x c) (hown4 :w4.ownsRow base t K.size z2 (acc.length+1) (cs++zs)) (hz :zs.length=c.length) (hg :V.grownBy w4 z.ownBlock) (hat :z2.ownBlock=z.ownBlock∨z2.ownBlock=some V.heap.size) :
  ∃g cap,z2= .slice (some ⟨g,0,none⟩) (acc.length+1) cap∧base≤g∧w4.there g (acc.length*K.size) c.length∧E5 K t base S (w4.setCells g (acc.length*K.size) c) z2 (acc++ [x]) ∧Below base w4 (w4.setCells g (acc.length*K.size) c) :=by
 have hcs :cs.length=acc.length*K.size :=hall.length
 have hcl :=K.len hx
 obtain ⟨g,cap,hz2,hbg,cur,hh,hsz,hcap⟩ : ∃g cap,z2= .slice (some ⟨g,0,none⟩) (acc.length+1) cap∧base≤g∧ ∃cur,w4.heap[g]? =some (.cells cur t) ∧cur.size=cap*K.size∧acc.length+1≤cap :=by
  rcases hown4.2 with ⟨_,h2⟩ | ⟨g,cap,cur,he,hg,hh,hn,hm,hs,ht⟩
  ·omega
  ·exact ⟨g,cap,he,hg,cur,hh,hs,hn⟩
 subst hz2
 have hle : (acc.length+1) *K.size≤cap*K.size :=Nat.mul_le_mul_right _ hcap
 rw [Nat.add_mul,Nat.one_mul] at hle
 have kk :Keeps (fun k=>base≤k∧some k≠z.ownBlock∧some k≠ (Value.slice (some ⟨g,0,none⟩) (acc.length+1) cap).ownBlock) V (w4.setCells g (acc.length*K.size) c) :=by
  obtain ⟨e1,_,_,_,e5⟩ :=E4 (g :=g) c (acc.length*K.size) w4
  exact ⟨by rw [e1];exact hg.size,fun k hk hl=> (e5 k (by rintro rfl;exact hk.2.2 rfl)).trans (hg.block k hl hk.2.1)⟩
 have mm : ∀k,k<V.heap.size→FO base z k→ (base≤k∧some k≠z.ownBlock∧some k≠ (Value.slice (some ⟨g,0,none⟩) (acc.length+1) cap).ownBlock) :=fun k hk hf=> ⟨hf.1,hf.2,(I7 hat k hk hf).2⟩
 refine ⟨g,cap,rfl,hbg,fun j hj=> ⟨?_,Ab hh _⟩,⟨cs++c, ?_, ?_, ?_⟩, ?_⟩
 ·have hlt :acc.length*K.size+j<cur.size :=by omega
  rw [Aa hh (j :=acc.length*K.size+j) (Array.getElem?_eq_getElem hlt)]
  rfl
 ·rw [List.length_append,List.length_singleton]
  have :=Sq c w4 cs zs hown4 hz
  rw [hcs] at this
  exact this
 ·exact All.mono (fun k _ hf=> ⟨hf.1,hf.2.2⟩) (All.keep kk (All.mono mm (hall.append (All.one hx))))
 ·exact S.mono (fun k _ hf=> ⟨hf.1,hf.2.2⟩) (S.keep kk (S.mono mm hside))
 ·obtain ⟨e1,e2,e3,e4,e5⟩ :=E4 (g :=g) c (acc.length*K.size) w4
  exact ⟨e2,e3,e4,by rw [e1];exact Nat.le_refl _,fun k hk=>e5 k (by omega)⟩
theorem Rh {base g :Nat} (hg :base≤g) (c :List Value) (o :Nat) (w :World) :Below base w (w.setCells g o c) :=by
 obtain ⟨e1,e2,e3,e4,e5⟩ :=E4 (g :=g) c o w
 exact ⟨e2,e3,e4,by rw [e1];exact Nat.le_refl _,fun k hk=>e5 k (by omega)⟩
theorem Sr {g :Nat} : ∀ (vs :List Value) (o :Nat) (u v :World),u.heap[g]? =v.heap[g]? → (u.setCells g o vs).heap[g]? = (v.setCells g o vs).heap[g]?
 | [],_,_,_,h=>h
 | x ::vs,o,u,v,h=>Sr vs (o+1) _ _ (by simp [World.setCell,Array.getElem?_modify,h])
theorem E5.swap {α :Type} {K :Elem α} {t :TypeId} {base :Nat} {S :Side} {w :World} {z :Value} {acc :List α} {g b i :Nat} (o :Nat) (c :List Value) (u :Value) (hb :b<base) (hg :base≤g) (h :E5 K t base S (w.setCells g o c) z acc) :E5 K t base S ((w.setCell ⟨b,i,Option.none⟩ u).setCells g o c) z acc :=by
 have hs : ((w.setCell ⟨b,i,Option.none⟩ u).setCells g o c).heap.size= (w.setCells g o c).heap.size :=by rw [(E4 _ _ _).1,(E4 _ _ _).1];simp [World.setCell]
 refine h.keep (fun k hk _=> ?_) (by rw [hs];exact Nat.le_refl _)
 have e : (w.setCell ⟨b,i,Option.none⟩ u).heap[k]? =w.heap[k]? :=Below.heap_setCell w ⟨b,i,Option.none⟩ u k (show k≠b by omega)
 by_cases hkg :k=g
 ·subst hkg
  exact Sr c o _ _ e
 ·rw [(E4 _ _ _).2.2.2.2 k hkg,(E4 _ _ _).2.2.2.2 k hkg]
  exact e
end Go.Proofs.YtifjaegfpdjikaaGreatDoor


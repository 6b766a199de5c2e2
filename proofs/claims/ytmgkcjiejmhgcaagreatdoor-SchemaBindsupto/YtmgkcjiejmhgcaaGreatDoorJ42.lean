/-
  2 texts of this proof in one, in build order: YSchemas, BSchm.
-/
import Derived.Test.YtmgkcjiejmhgcaaGreatDoorJ27
set_option linter.unusedSimpArgs false
set_option linter.unusedVariables false
namespace Go.Proofs.YtmgkcjiejmhgcaaGreatDoor
open Go.RowKit Go.Maps
abbrev wA :Wd := ⟨#[97]⟩
abbrev wT :Wd := ⟨#[116]⟩
def tT :TabD := ⟨wT,[⟨wA,1,true⟩]⟩
def cT :CatD := ⟨[tT],[]⟩
def sT :Stm := ⟨7,noW,noW,noW,[],[],[],[wT],[], .mk 0 zero noW noW 0 [],[],false, -1⟩
theorem Z2 :Cq cT=true :=by kernel_rfl
theorem Z3 :Bw cT sT= .ok {sT with out := [.mk 2 zero wT wA 0 []]} :=by kernel_rfl
theorem Yk {W :World} {q :Nat} {x :ColD} {ty :TypeId} (hq :W.heap[q]? =some (.cells #[.string x.name, .int .i64 x.ty, .bool x.must] ty)) :IsL Bg (fun k=>k<W.heap.size) W (.slice (some ⟨q,0,none⟩) 1 1) [x] :=by
 refine ⟨[.string x.name, .int .i64 x.ty, .bool x.must],⟨rfl, .inr ⟨Nat.one_pos,q,0,1,rfl,lt_of_block hq,lt_of_block hq,Nat.le_refl _,by decide,fun j u hj=> ?_⟩⟩,All.one rfl⟩
 rw [Nat.zero_add]
 exact Aa hq (by simpa using hj)
theorem Yl {W :World} {q :Nat} {x :Wd} {ty :TypeId} (hq :W.heap[q]? =some (.cells #[.string x] ty)) :IsL Fz (fun k=>k<W.heap.size) W (.slice (some ⟨q,0,none⟩) 1 1) [x] :=by
 refine ⟨[.string x],⟨rfl, .inr ⟨Nat.one_pos,q,0,1,rfl,lt_of_block hq,lt_of_block hq,Nat.le_refl _,by decide,fun j u hj=> ?_⟩⟩,All.one rfl⟩
 rw [Nat.zero_add]
 exact Aa hq (by simpa using hj)
theorem Wv :Gv cT :=by
 refine ⟨fun t ht=> ?_,fun x hx=>by cases hx⟩
 obtain rfl :t=tT :=by simpa [cT] using ht
 exact ⟨by decide,fun x hx=>by
  obtain rfl :x= ⟨wA,1,true⟩ :=by simpa [tT] using hx
  decide⟩
theorem Ww : ∀x∈sT.frm,x.size≤maxLen :=by
 intro x hx
 obtain rfl :x=wT :=by simpa [sT] using hx
 decide
theorem Aay :FitB sT where
 fs := ⟨fun r hr=> (by cases hr),fun r hr=> (by cases hr),trivial,trivial,⟨by decide,by decide,by decide,trivial⟩,by decide,by decide,by decide,fun x hx=> (by cases hx),Ww⟩
 nm :=by decide
 cols :=fun x hx=>by cases hx
 rows :=by decide
 row :=fun r hr=>by cases hr
 sets :=by decide
 set :=fun r hr=>by cases hr
 out :=by decide
 order :=by decide
 frm :=Ww
end Go.Proofs.YtmgkcjiejmhgcaaGreatDoor

namespace Go.Proofs.YtmgkcjiejmhgcaaGreatDoor
open Go.RowKit Go.Maps
set_option maxRecDepth 100000 in
set_option maxHeartbeats 8000000 in
theorem R0 (w :World) :Calls Tryz.prog 12 #[] w fun e w'=>e= .returned (.bool true) ∧Below w.heap.size w w' :=by
 have hb4 :Below w.heap.size w ((((w.alloc (.cells #[.string wA, .int .i64 1, .bool true] 66)).alloc (.cells #[.string wT, .slice (some ⟨w.heap.size,0,none⟩) 1 1] 47)).alloc (.cells #[.slice (some ⟨w.heap.size+1,0,none⟩) 1 1, .slice none 0 0] 25)).alloc (.cells #[.string wT] 9)) := (Fc w _ _ _).alloc (by simp;omega) _
 have B0 : ((((w.alloc (.cells #[.string wA, .int .i64 1, .bool true] 66)).alloc (.cells #[.string wT, .slice (some ⟨w.heap.size,0,none⟩) 1 1] 47)).alloc (.cells #[.slice (some ⟨w.heap.size+1,0,none⟩) 1 1, .slice none 0 0] 25)).alloc (.cells #[.string wT] 9)).heap[w.heap.size]? =some (.cells #[.string wA, .int .i64 1, .bool true] 66) :=Ae (Ae (Ae (Ab _ _) _) _) _
 have B1 : ((((w.alloc (.cells #[.string wA, .int .i64 1, .bool true] 66)).alloc (.cells #[.string wT, .slice (some ⟨w.heap.size,0,none⟩) 1 1] 47)).alloc (.cells #[.slice (some ⟨w.heap.size+1,0,none⟩) 1 1, .slice none 0 0] 25)).alloc (.cells #[.string wT] 9)).heap[w.heap.size+1]? =some (.cells #[.string wT, .slice (some ⟨w.heap.size,0,none⟩) 1 1] 47) :=Ae (Ae (A0 _ _ _) _) _
 have B2 : ((((w.alloc (.cells #[.string wA, .int .i64 1, .bool true] 66)).alloc (.cells #[.string wT, .slice (some ⟨w.heap.size,0,none⟩) 1 1] 47)).alloc (.cells #[.slice (some ⟨w.heap.size+1,0,none⟩) 1 1, .slice none 0 0] 25)).alloc (.cells #[.string wT] 9)).heap[w.heap.size+1+1]? =some (.cells #[.slice (some ⟨w.heap.size+1,0,none⟩) 1 1, .slice none 0 0] 25) :=Ae (Dl _ _ _ _) _
 have B3 : ((((w.alloc (.cells #[.string wA, .int .i64 1, .bool true] 66)).alloc (.cells #[.string wT, .slice (some ⟨w.heap.size,0,none⟩) 1 1] 47)).alloc (.cells #[.slice (some ⟨w.heap.size+1,0,none⟩) 1 1, .slice none 0 0] 25)).alloc (.cells #[.string wT] 9)).heap[w.heap.size+1+1+1]? =some (.cells #[.string wT] 9) :=by
  have h :=Ab (((w.alloc (.cells #[.string wA, .int .i64 1, .bool true] 66)).alloc (.cells #[.string wT, .slice (some ⟨w.heap.size,0,none⟩) 1 1] 47)).alloc (.cells #[.slice (some ⟨w.heap.size+1,0,none⟩) 1 1, .slice none 0 0] 25)) (.cells #[.string wT] 9)
  rwa [show (((w.alloc (.cells #[.string wA, .int .i64 1, .bool true] 66)).alloc (.cells #[.string wT, .slice (some ⟨w.heap.size,0,none⟩) 1 1] 47)).alloc (.cells #[.slice (some ⟨w.heap.size+1,0,none⟩) 1 1, .slice none 0 0] 25)).heap.size=w.heap.size+1+1+1 by simp] at h
 generalize hW : ((((w.alloc (.cells #[.string wA, .int .i64 1, .bool true] 66)).alloc (.cells #[.string wT, .slice (some ⟨w.heap.size,0,none⟩) 1 1] 47)).alloc (.cells #[.slice (some ⟨w.heap.size+1,0,none⟩) 1 1, .slice none 0 0] 25)).alloc (.cells #[.string wT] 9)) =W at hb4 B0 B1 B2 B3
 have hcat :Bh (fun k=>k<W.heap.size) W cT (.agg #[.slice (some ⟨w.heap.size+1,0,none⟩) 1 1, .slice none 0 0]) := ⟨_,_,rfl,Ox B1 (Yk (x := ⟨wA,1,true⟩) B0),IsL.nil _ _ _⟩
 have hstm :Abs.R (fun k=>k<W.heap.size) W sT (sA 7 noW noW noW (.slice none 0 0) (.slice none 0 0) (.slice none 0 0) (.slice (some ⟨w.heap.size+1+1+1,0,none⟩) 1 1) (.slice none 0 0) 0 0 0 noW noW noW 0 (.slice none 0 0) (.slice none 0 0) false (-1)).toList :=I1 (IsL.nil _ _ _) (IsL.nil _ _ _) (IsL.nil _ _ _) (Yl B3) (IsL.nil _ _ _) (Dn (op :=0) (x :=zero) (s :=noW) (name :=noW) (n :=0) (ao :=none) (c :=0) fun _=>rfl) (IsL.nil _ _ _)
 have HB :=Po cT _ sT _ W.heap.size W hcat hstm (Nat.le_refl _) Wv Aay
 have HG :=fun (V :World) (h :Below W.heap.size W V) =>G6 cT _ W.heap.size V (hcat.keep (Ag h)) h.size Wv
 rw [Z2] at HG
 rw [Z3] at HB
 have HB2 :=HB.mono (R' :=fun r w'=> ∃o1 k1 c1 o2 k2 c2 o3 k3 c3 o4 k4 c4 b5 off5 c5 op xk xn xs s nmv n8 o6 k6 c6 o7 k7 c7 d n,r= .returned (.tuple #[.agg (sA 7 noW noW noW (.slice o1 k1 c1) (.slice o2 k2 c2) (.slice o3 k3 c3) (.slice o4 k4 c4) (.slice (some ⟨b5,off5,none⟩) 1 c5) op xk xn xs s nmv n8 (.slice o6 k6 c6) (.slice o7 k7 c7) d n), .int .i64 0]) ∧w'.cell? ⟨b5,off5+5,none⟩ =some (.string wA) ∧b5<w'.heap.size∧Below W.heap.size W w') (by
  rintro r w' ⟨⟨v,rfl,arr,rfl,ha1,ha2,hR⟩,hb'⟩
  obtain ⟨o1,c1,o2,c2,o3,c3,o4,c4,o5,c5,op,xk,xn,xs,s,nmv,n8,o6,k6,c6,o7,c7,harr,i1,i2,i3,i4,i5,i6,i7⟩ :=Cy hR
  obtain rfl :=Array.toList_inj.1 harr
  obtain ⟨b,off,cs,rfl,hbC,hb,hRe,hcell⟩ :=Av i5 (i :=0) rfl
  obtain ⟨hl8,hE⟩ :=hRe
  obtain ⟨op',x',s',name',n',ao',k',c',hq,_⟩ :=Ov hE
  obtain ⟨sv,hq2,_⟩ :=hE.open
  have hcs :cs= (Ad 2 zero wT wA 0 sv).toList :=by
   have :=congrArg Array.toList (Value.agg.inj hq2)
   simpa using this
  subst hcs
  have h5 :=hcell 5 _ rfl
  simp only [As,Nat.zero_mul,Nat.add_zero] at h5
  exact ⟨o1,_,c1,o2,_,c2,o3,_,c3,o4,_,c4,b,off,c5,op,xk,xn,xs,s,nmv,n8,o6,k6,c6,o7,_,c7,_,_,rfl,h5,hb,hb'⟩)
 have HW :Hid _ :=hW
 clear hW HB hcat hstm
 have c20 :=Aa B2 (j :=0) rfl
 have c21 :=Aa B2 (j :=1) rfl
 have hlt2 :=lt_of_block B2
 go_enter Tryz.func12,Tryz.ntmps12
 go_wp2_with (first
  | (go_at_call 6;rw [HW.out];refine HB2.mono ?_;rintro r w1 ⟨o1,k1,c1,o2,k2,c2,o3,k3,c3,o4,k4,c4,b5,off5,c5,op,xk,xn,xs,s,nmv,n8,o6,k6,c6,o7,k7,c7,d,n,rfl,h5,hb5,hb1⟩;have hnew :=Ab w1 (.cells Ah 36);have hone : (sA 7 noW noW noW (.slice o1 k1 c1) (.slice o2 k2 c2) (.slice o3 k3 c3) (.slice o4 k4 c4) (.slice (some ⟨b5,off5,none⟩) 1 c5) op xk xn xs s nmv n8 (.slice o6 k6 c6) (.slice o7 k7 c7) d n).all (·.oneCell') =true :=Dq (Au _ _ _) (Au _ _ _) (Au _ _ _) (Au _ _ _) (Au _ _ _) (Au _ _ _) (Au _ _ _);have hbV :Below W.heap.size W ((w1.alloc (.cells Ah 36)).setRow w1.heap.size (sA 7 noW noW noW (.slice o1 k1 c1) (.slice o2 k2 c2) (.slice o3 k3 c3) (.slice o4 k4 c4) (.slice (some ⟨b5,off5,none⟩) 1 c5) op xk xn xs s nmv n8 (.slice o6 k6 c6) (.slice o7 k7 c7) d n)) :=Below.row (hb1.alloc hb1.size _) hb1.size _;have y0 := (hbV.cell (p := ⟨w.heap.size+1+1,0,none⟩) hlt2).trans c20;have y1 := (hbV.cell (p := ⟨w.heap.size+1+1,1,none⟩) hlt2).trans c21;have hbox :=An (cells := (sA 7 noW noW noW (.slice o1 k1 c1) (.slice o2 k2 c2) (.slice o3 k3 c3) (.slice o4 k4 c4) (.slice (some ⟨b5,off5,none⟩) 1 c5) op xk xn xs s nmv n8 (.slice o6 k6 c6) (.slice o7 k7 c7) d n)) hnew;have hb5' : ((w1.alloc (.cells Ah 36)).setRow w1.heap.size (sA 7 noW noW noW (.slice o1 k1 c1) (.slice o2 k2 c2) (.slice o3 k3 c3) (.slice o4 k4 c4) (.slice (some ⟨b5,off5,none⟩) 1 c5) op xk xn xs s nmv n8 (.slice o6 k6 c6) (.slice o7 k7 c7) d n)).cell? ⟨b5,off5+5,none⟩ =some (.string wA) := ((Below.row ((Below.refl w1.heap.size w1).alloc (Nat.le_refl _) _) (Nat.le_refl _) _).cell (p := ⟨b5,off5+5,none⟩) hb5).trans h5;have HG1 :=HG _ hbV)
  | (refine wpList_store_row rfl 36 _ _ rfl w1.heap.size (sA 7 noW noW noW (.slice o1 k1 c1) (.slice o2 k2 c2) (.slice o3 k3 c3) (.slice o4 k4 c4) (.slice (some ⟨b5,off5,none⟩) 1 c5) op xk xn xs s nmv n8 (.slice o6 k6 c6) (.slice o7 k7 c7) d n) ?_ ?_ 36 Ah ?_ ?_ ?_ ?_ ?_;exact rfl;exact rfl;exact hnew;exact Am;exact rfl;exact hone)
  | (go_at_call 9;go_fit HG1;rintro e w3 ⟨rfl,hb3⟩;have z8 :=Aa ((hb3.block _ (lt_of_block hbox)).trans hbox) (j :=8) rfl;have z5 := (hb3.cell (p := ⟨b5,off5+5,none⟩) (Nat.lt_of_lt_of_le hb5 (by simp [World.setRow]))).trans hb5'))
 go_ret
 exact ⟨rfl,Ak hb4 (Ak hbV hb3)⟩
end Go.Proofs.YtmgkcjiejmhgcaaGreatDoor


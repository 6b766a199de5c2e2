/-
  7 texts of this proof in one, in build order: RStmD, RStmI, RStmJ, RStmK, RStmK2, RWher2, RStmX.
-/
import Derived.BigRegion
import Derived.Deep.Cut
import Derived.Deep.CutRange
import Derived.Deep.RegionHeld3
import Derived.Test.YtifjaegfpdjikaaGreatDoorJ15
set_option linter.unusedSimpArgs false
set_option linter.unusedVariables false
namespace Go.Proofs.YtifjaegfpdjikaaGreatDoor
open Go.RowKit
set_option maxRecDepth 100000 in
set_option maxHeartbeats 4000000 in
theorem Q6 (sl :Value) (L :List Wd) (x :Wd) (hn :nm x=true) (w :World) (he :Env w) (hL :Ak w sl L) (hw :Whole L) (hk0 :L.take 2≠ [Au,A5]) (hk1 :L.take 2≠ [Au,B7]) (hk2 :L.take 2= [Cg,A5]) (hrest :L.drop 2= [x]) :
  Calls Tryz.prog 13 #[sl] w (Cv (some {Bg 3 with name :=x}) w) :=by
 have H0 :=Bz Ch he hL hw hk0 (Ai 0)
 have H1 :=Bz Dh he hL hw hk1 (Ai 0)
 have H2 :=D4 Gi he hL hw hk2 (Ai 0)
 rw [show (L.drop [Cg,A5].length) = [x] from hrest] at H2
 clear hk0 hk1 hk2 hrest hw
 have s1 :=Dj w sl
 have s0 :=Di w sl
 obtain ⟨a0,n0,cap0,rfl,hn0⟩ :=Ax hL
 clear hL hn0
 generalize hW0 : ((((w.alloc (.cells #[.slice a0 n0 cap0] 32)).alloc (.cells Ah 39)).alloc (.cells Ah 39)).setRow (w.heap.size+2) (Ai 0)) =W0 at s0
 have HW0 :Hid _ :=hW0
 clear hW0
 go_enter Tryz.func13,Tryz.ntmps13
 go_upto_region 2 with (refine wpList_store_row rfl 39 _ _ rfl (w.heap.size+2) (Ai 0) rfl rfl 39 Ah s1 Af rfl Fc ?_)
 rw [HW0.out,show w.heap.size+1+1=w.heap.size+2 from rfl]
 have hS :=s0
 clear s0 s1 HW0
 go_upto_region 29 with (first
   | (go_at_call 27;go_fit (H0 _ hS);clear hS;rintro e W ⟨rfl,hS⟩)
   | (go_at_call 27;go_fit (H1 _ hS);clear hS;rintro e W ⟨rfl,hS⟩)
   | (go_at_call 27;go_fit (H2 _ hS);clear hS;rintro e W ⟨rfl,ao,n,c,hS,hl⟩;have c0 :W.cell? ⟨w.heap.size,0,none⟩ =some (.slice ao n c) :=Aa hS.l rfl))
 obtain ⟨b,off,cap,hsl,hcap,hcell⟩ :=A0 (hl.below hS.b) (by simp)
 cases hsl
 have x0 :W.cell? ⟨b,off,none⟩ =some (.string x) :=hcell 0 _ rfl
 obtain ⟨hblw,hq1,hq2,hcw⟩ :=A7 hl (by simp)
 have NA :=Ey x W (he.next hS.b)
 rw [hn] at NA
 have KS :Hid (∀V,Below w.heap.size w V→V.cell? ⟨b,off,none⟩ =some (.string x)) :=fun V h=> (h.cell (p := ⟨b,off,none⟩) hblw).trans (hcw 0 _ rfl)
 clear hcell hcw hq1 hq2 hcap hl
 go_upto_region 31 with (go_at_call 7;go_must (go_fit NA;rintro e W1 ⟨rfl,hb1⟩;have hS1 :=hS.next hb1))
 have c1 :W1.cell? ⟨w.heap.size,0,none⟩ =some (.slice (some ⟨b,off,none⟩) 1 c) :=Aa hS1.l rfl
 have x1 :=KS.out W1 hS1.b
 have s0 :W1.cell? ⟨w.heap.size+2,0,none⟩ =some (.int .i64 0) :=Aa hS1.s rfl
 have s1 :W1.cell? ⟨w.heap.size+2,1,none⟩ =some (.string noW) :=Aa hS1.s rfl
 have f0 :=Ab hS1.s 0
 have f1 :=Ab hS1.s 1
 go_region
 have hS2 := (((hS1).set 0 (.int .i64 3)).set 1 (.string x)).drew
 simp only [List.setIfInBounds_toArray,List.set_cons_zero,List.set_cons_succ] at hS2
 clear c1 x1 s0 s1 f0 f1 KS NA c0 x0
 have hone : (sA 3 x noW noW (.slice none 0 0) (.slice none 0 0) (.slice none 0 0) (.slice none 0 0) (.slice none 0 0) 0 0 0 noW noW noW 0 (.slice none 0 0) (.slice none 0 0) false (-1)).all (·.oneCell') =true :=Bc (sl7 _ _ _ _ _ _ _ _ _ _ _ _ _ _ _ _ _ _ _ _ _)
 go_wp2_with (first
  | refine wpList_load_row rfl 39 _ rfl (w.heap.size+2) rfl 39 _ _ _ hS2.s Tryz.underlying39 rfl Af ?_
  | refine wpList_store_row rfl 39 _ _ rfl (w.heap.size+1) _ rfl rfl 39 Ah hS2.r Af rfl hone ?_)
 exact bodyPost_ret (v := .tuple #[.agg (sA 3 x noW noW (.slice none 0 0) (.slice none 0 0) (.slice none 0 0) (.slice none 0 0) (.slice none 0 0) 0 0 0 noW noW noW 0 (.slice none 0 0) (.slice none 0 0) false (-1)), .bool true]) (Ay Tryz.results13 _ _ (w.heap.size+1) 39 _ _ _ _ rfl rfl (Am hS2.r) Tryz.underlying39 rfl Af) rfl (A4 (ok :=true) hS2 (sl7 _ _ _ _ _ _ _ _ _ _ _ _ _ _ _ _ _ _ _ _ _) ⟨_,rfl,D8 (IsL.nil _ _ _) (IsL.nil _ _ _) (IsL.nil _ _ _) (IsL.nil _ _ _) (IsL.nil _ _ _) (Dy _ _) (IsL.nil _ _ _)⟩)
set_option maxRecDepth 100000 in
set_option maxHeartbeats 4000000 in
theorem Q7 (sl :Value) (L :List Wd) (M :List Wd) (hlen :M.length≠1) (w :World) (he :Env w) (hL :Ak w sl L) (hw :Whole L) (hk0 :L.take 2≠ [Au,A5]) (hk1 :L.take 2≠ [Au,B7]) (hk2 :L.take 2= [Cg,A5]) (hrest :L.drop 2=M) :
  Calls Tryz.prog 13 #[sl] w (Cv (none) w) :=by
 have H0 :=Bz Ch he hL hw hk0 (Ai 0)
 have H1 :=Bz Dh he hL hw hk1 (Ai 0)
 have H2 :=D4 Gi he hL hw hk2 (Ai 0)
 rw [show (L.drop [Cg,A5].length) =M from hrest] at H2
 clear hk0 hk1 hk2 hrest hw
 have s1 :=Dj w sl
 have s0 :=Di w sl
 obtain ⟨a0,n0,cap0,rfl,hn0⟩ :=Ax hL
 clear hL hn0
 generalize hW0 : ((((w.alloc (.cells #[.slice a0 n0 cap0] 32)).alloc (.cells Ah 39)).alloc (.cells Ah 39)).setRow (w.heap.size+2) (Ai 0)) =W0 at s0
 have HW0 :Hid _ :=hW0
 clear hW0
 go_enter Tryz.func13,Tryz.ntmps13
 go_upto_region 2 with (refine wpList_store_row rfl 39 _ _ rfl (w.heap.size+2) (Ai 0) rfl rfl 39 Ah s1 Af rfl Fc ?_)
 rw [HW0.out,show w.heap.size+1+1=w.heap.size+2 from rfl]
 have hS :=s0
 clear s0 s1 HW0
 go_upto_region 29 with (first
   | (go_at_call 27;go_fit (H0 _ hS);clear hS;rintro e W ⟨rfl,hS⟩)
   | (go_at_call 27;go_fit (H1 _ hS);clear hS;rintro e W ⟨rfl,hS⟩)
   | (go_at_call 27;go_fit (H2 _ hS);clear hS;rintro e W ⟨rfl,ao,n,c,hS,hl⟩;have c0 :W.cell? ⟨w.heap.size,0,none⟩ =some (.slice ao n c) :=Aa hS.l rfl))
 obtain ⟨ao1,n1,c1,hsl,hn1⟩ :=Ax hl
 cases hsl
 have q0 : ((n :Int) ==1) =false :=beq_eq_false_iff_ne.2 (by omega)
 have q1 : ((n :Int) !=1) =true :=by rw [bne,q0];rfl
 have q2 : ¬ (n :Int) =1 :=by omega
 clear hn1 hl
 have hone : (sA 0 noW noW noW (.slice none 0 0) (.slice none 0 0) (.slice none 0 0) (.slice none 0 0) (.slice none 0 0) 0 0 0 noW noW noW 0 (.slice none 0 0) (.slice none 0 0) false (-1)).all (·.oneCell') =true :=Bc (sl7 _ _ _ _ _ _ _ _ _ _ _ _ _ _ _ _ _ _ _ _ _)
 go_wp2_with (first
  | refine wpList_load_row rfl 39 _ rfl (w.heap.size+2) rfl 39 _ _ _ hS.s Tryz.underlying39 rfl Af ?_
  | refine wpList_store_row rfl 39 _ _ rfl (w.heap.size+1) _ rfl rfl 39 Ah hS.r Af rfl hone ?_)
 exact bodyPost_ret (v := .tuple #[.agg (sA 0 noW noW noW (.slice none 0 0) (.slice none 0 0) (.slice none 0 0) (.slice none 0 0) (.slice none 0 0) 0 0 0 noW noW noW 0 (.slice none 0 0) (.slice none 0 0) false (-1)), .bool false]) (Ay Tryz.results13 _ _ (w.heap.size+1) 39 _ _ _ _ rfl rfl (Am hS.r) Tryz.underlying39 rfl Af) rfl (A4 (ok :=false) hS (sl7 _ _ _ _ _ _ _ _ _ _ _ _ _ _ _ _ _ _ _ _ _) rfl)
set_option maxRecDepth 100000 in
set_option maxHeartbeats 4000000 in
theorem Q8 (sl :Value) (L :List Wd) (x :Wd) (hn :nm x=false) (w :World) (he :Env w) (hL :Ak w sl L) (hw :Whole L) (hk0 :L.take 2≠ [Au,A5]) (hk1 :L.take 2≠ [Au,B7]) (hk2 :L.take 2= [Cg,A5]) (hrest :L.drop 2= [x]) :
  Calls Tryz.prog 13 #[sl] w (Cv (none) w) :=by
 have H0 :=Bz Ch he hL hw hk0 (Ai 0)
 have H1 :=Bz Dh he hL hw hk1 (Ai 0)
 have H2 :=D4 Gi he hL hw hk2 (Ai 0)
 rw [show (L.drop [Cg,A5].length) = [x] from hrest] at H2
 clear hk0 hk1 hk2 hrest hw
 have s1 :=Dj w sl
 have s0 :=Di w sl
 obtain ⟨a0,n0,cap0,rfl,hn0⟩ :=Ax hL
 clear hL hn0
 generalize hW0 : ((((w.alloc (.cells #[.slice a0 n0 cap0] 32)).alloc (.cells Ah 39)).alloc (.cells Ah 39)).setRow (w.heap.size+2) (Ai 0)) =W0 at s0
 have HW0 :Hid _ :=hW0
 clear hW0
 go_enter Tryz.func13,Tryz.ntmps13
 go_upto_region 2 with (refine wpList_store_row rfl 39 _ _ rfl (w.heap.size+2) (Ai 0) rfl rfl 39 Ah s1 Af rfl Fc ?_)
 rw [HW0.out,show w.heap.size+1+1=w.heap.size+2 from rfl]
 have hS :=s0
 clear s0 s1 HW0
 go_upto_region 29 with (first
   | (go_at_call 27;go_fit (H0 _ hS);clear hS;rintro e W ⟨rfl,hS⟩)
   | (go_at_call 27;go_fit (H1 _ hS);clear hS;rintro e W ⟨rfl,hS⟩)
   | (go_at_call 27;go_fit (H2 _ hS);clear hS;rintro e W ⟨rfl,ao,n,c,hS,hl⟩;have c0 :W.cell? ⟨w.heap.size,0,none⟩ =some (.slice ao n c) :=Aa hS.l rfl))
 obtain ⟨b,off,cap,hsl,hcap,hcell⟩ :=A0 (hl.below hS.b) (by simp)
 cases hsl
 have x0 :W.cell? ⟨b,off,none⟩ =some (.string x) :=hcell 0 _ rfl
 obtain ⟨hblw,hq1,hq2,hcw⟩ :=A7 hl (by simp)
 have NA :=Ey x W (he.next hS.b)
 rw [hn] at NA
 clear hcell hcw hq1 hq2 hcap hl hblw
 go_upto_region 30 with (go_at_call 7;go_must (go_fit NA;rintro e W1 ⟨rfl,hb1⟩;have hS1 :=hS.next hb1))
 have hone : (sA 0 noW noW noW (.slice none 0 0) (.slice none 0 0) (.slice none 0 0) (.slice none 0 0) (.slice none 0 0) 0 0 0 noW noW noW 0 (.slice none 0 0) (.slice none 0 0) false (-1)).all (·.oneCell') =true :=Bc (sl7 _ _ _ _ _ _ _ _ _ _ _ _ _ _ _ _ _ _ _ _ _)
 go_wp2_with (first
  | refine wpList_load_row rfl 39 _ rfl (w.heap.size+2) rfl 39 _ _ _ hS1.s Tryz.underlying39 rfl Af ?_
  | refine wpList_store_row rfl 39 _ _ rfl (w.heap.size+1) _ rfl rfl 39 Ah hS1.r Af rfl hone ?_)
 exact bodyPost_ret (v := .tuple #[.agg (sA 0 noW noW noW (.slice none 0 0) (.slice none 0 0) (.slice none 0 0) (.slice none 0 0) (.slice none 0 0) 0 0 0 noW noW noW 0 (.slice none 0 0) (.slice none 0 0) false (-1)), .bool false]) (Ay Tryz.results13 _ _ (w.heap.size+1) 39 _ _ _ _ rfl rfl (Am hS1.r) Tryz.underlying39 rfl Af) rfl (A4 (ok :=false) hS1 (sl7 _ _ _ _ _ _ _ _ _ _ _ _ _ _ _ _ _ _ _ _ _) rfl)
end Go.Proofs.YtifjaegfpdjikaaGreatDoor

namespace Go.Proofs.YtifjaegfpdjikaaGreatDoor
open Go.RowKit
set_option maxRecDepth 100000 in
set_option maxHeartbeats 4000000 in
theorem P0 (sl :Value) (L :List Wd) (a k1 b1 k2 c1 k3 :Wd) (hc0 :k1=kOn) (hc1 :k2=As) (hc2 :k3=Aq) (hc3 :nm a=true) (hc4 :nm b1=true) (hc5 :nm c1=true) (w :World) (he :Env w) (hL :Ak w sl L) (hw :Whole L) (hk0 :L.take 2≠ [Au,A5]) (hk1 :L.take 2= [Au,B7]) (hrest :L.drop 2= [a,k1,b1,k2,c1,k3]) :
  Calls Tryz.prog 13 #[sl] w (Cv (some {Bg 2 with name :=a,table :=b1,col :=c1}) w) :=by
 have H0 :=Bz Ch he hL hw hk0 (Ai 0)
 have H1 :=D4 Dh he hL hw hk1 (Ai 0)
 rw [show (L.drop [Au,B7].length) = [a,k1,b1,k2,c1,k3] from hrest] at H1
 clear hk0 hk1 hrest hw
 have s1 :=Dj w sl
 have s0 :=Di w sl
 obtain ⟨a0,n0,cap0,rfl,hn0⟩ :=Ax hL
 clear hL hn0
 generalize hW0 : ((((w.alloc (.cells #[.slice a0 n0 cap0] 32)).alloc (.cells Ah 39)).alloc (.cells Ah 39)).setRow (w.heap.size+2) (Ai 0)) =W0 at s0
 have HW0 :Hid _ :=hW0
 clear hW0
 go_enter Tryz.func13,Tryz.ntmps13
 go_upto_region 2 with (refine wpList_store_row rfl 39 _ _ rfl (w.heap.size+2) (Ai 0) rfl rfl 39 Ah s1 Af rfl Fc ?_)
 rw [HW0.out,show w.heap.size+1+1=w.heap.size+2 from rfl]
 have hS :=s0
 clear s0 s1 HW0
 go_upto_region 25 with (first
   | (go_at_call 27;go_fit (H0 _ hS);clear hS;rintro e W ⟨rfl,hS⟩)
   | (go_at_call 27;go_fit (H1 _ hS);clear hS;rintro e W ⟨rfl,ao,n,c,hS,hl⟩;have c0 :W.cell? ⟨w.heap.size,0,none⟩ =some (.slice ao n c) :=Aa hS.l rfl))
 obtain ⟨b,off,cap,hsl,hcap,hcell⟩ :=A0 (hl.below hS.b) (by simp)
 cases hsl
 have x0 :W.cell? ⟨b,off,none⟩ =some (.string a) :=hcell 0 _ rfl
 have x1 :W.cell? ⟨b,off+1,none⟩ =some (.string k1) :=hcell 1 _ rfl
 have x2 :W.cell? ⟨b,off+2,none⟩ =some (.string b1) :=hcell 2 _ rfl
 have x3 :W.cell? ⟨b,off+3,none⟩ =some (.string k2) :=hcell 3 _ rfl
 have x4 :W.cell? ⟨b,off+4,none⟩ =some (.string c1) :=hcell 4 _ rfl
 have x5 :W.cell? ⟨b,off+5,none⟩ =some (.string k3) :=hcell 5 _ rfl
 obtain ⟨hblw,hq1,hq2,hcw⟩ :=A7 hl (by simp)
 have KS :Hid (∀V,Below w.heap.size w V→V.cell? ⟨b,off,none⟩ =some (.string a) ∧V.cell? ⟨b,off+1,none⟩ =some (.string k1) ∧V.cell? ⟨b,off+2,none⟩ =some (.string b1) ∧V.cell? ⟨b,off+3,none⟩ =some (.string k2) ∧V.cell? ⟨b,off+4,none⟩ =some (.string c1) ∧V.cell? ⟨b,off+5,none⟩ =some (.string k3)) :=fun V h=> ⟨(h.cell (p := ⟨b,off,none⟩) hblw).trans (hcw 0 _ rfl),(h.cell (p := ⟨b,off+1,none⟩) hblw).trans (hcw 1 _ rfl),(h.cell (p := ⟨b,off+2,none⟩) hblw).trans (hcw 2 _ rfl),(h.cell (p := ⟨b,off+3,none⟩) hblw).trans (hcw 3 _ rfl),(h.cell (p := ⟨b,off+4,none⟩) hblw).trans (hcw 4 _ rfl),(h.cell (p := ⟨b,off+5,none⟩) hblw).trans (hcw 5 _ rfl)⟩
 clear hcell hcw hq1 hq2 hcap hl
 have hb0 : (k1.toList== [111,110]) =true :=by rw [An];simpa using hc0
 have hb1 : (k2.toList== [40]) =true :=by rw [An];simpa using hc1
 have hb2 : (k3.toList== [41]) =true :=by rw [An];simpa using hc2
 have NM3 :=Da he hc3
 have NM4 :=Da he hc4
 have NM5 :=Da he hc5
 have hbne :b≠w.heap.size+2 :=by omega
 go_upto_region 27 with (first
  | (go_at_call 7;go_fit (NM3 _ hS.b);rintro e W ⟨rfl,hb⟩;have hS :=hS.next hb;clear hb;obtain ⟨y0,y1,y2,y3,y4,y5⟩ :=KS.out W hS.b;have c0 :W.cell? ⟨w.heap.size,0,none⟩ =some (.slice (some ⟨b,off,none⟩) 6 c) :=Aa hS.l rfl)
  | (go_at_call 7;go_fit (NM4 _ hS.b);rintro e W ⟨rfl,hb⟩;have hS :=hS.next hb;clear hb;obtain ⟨y0,y1,y2,y3,y4,y5⟩ :=KS.out W hS.b;have c0 :W.cell? ⟨w.heap.size,0,none⟩ =some (.slice (some ⟨b,off,none⟩) 6 c) :=Aa hS.l rfl)
  | (go_at_call 7;go_fit (NM5 _ hS.b);rintro e W ⟨rfl,hb⟩;have hS :=hS.next hb;clear hb;obtain ⟨y0,y1,y2,y3,y4,y5⟩ :=KS.out W hS.b;have c0 :W.cell? ⟨w.heap.size,0,none⟩ =some (.slice (some ⟨b,off,none⟩) 6 c) :=Aa hS.l rfl))
 obtain ⟨W1,hW1⟩ : ∃V,V=W := ⟨_,rfl⟩
 have hS1 :=hS
 rw [←hW1] at hS1
 rw [←hW1]
 clear hW1 hS c0 x0 x1 x2 x3 x4 x5 NM3 NM4 NM5 y0 y1 y2 y3 y4 y5
 obtain ⟨y0,y1,y2,y3,y4,y5⟩ :=KS.out W1 hS1.b
 have c0 :W1.cell? ⟨w.heap.size,0,none⟩ =some (.slice (some ⟨b,off,none⟩) 6 c) :=Aa hS1.l rfl
 have s0 :W1.cell? ⟨w.heap.size+2,0,none⟩ =some (.int .i64 0) :=Aa hS1.s rfl
 have s1 :W1.cell? ⟨w.heap.size+2,1,none⟩ =some (.string noW) :=Aa hS1.s rfl
 have s2 :W1.cell? ⟨w.heap.size+2,2,none⟩ =some (.string noW) :=Aa hS1.s rfl
 have s3 :W1.cell? ⟨w.heap.size+2,3,none⟩ =some (.string noW) :=Aa hS1.s rfl
 have f0 :=Ab hS1.s 0
 have f1 :=Ab hS1.s 1
 have f2 :=Ab hS1.s 2
 have f3 :=Ab hS1.s 3
 go_region
 have hS2 := (((((hS1).set 0 (.int .i64 2)).set 1 (.string a)).set 2 (.string b1)).set 3 (.string c1)).drew
 simp only [List.setIfInBounds_toArray,List.set_cons_zero,List.set_cons_succ] at hS2
 clear c0 y0 y1 y2 y3 y4 y5 s0 s1 s2 s3 f0 f1 f2 f3 KS
 have hone : (sA 2 a b1 c1 (.slice none 0 0) (.slice none 0 0) (.slice none 0 0) (.slice none 0 0) (.slice none 0 0) 0 0 0 noW noW noW 0 (.slice none 0 0) (.slice none 0 0) false (-1)).all (·.oneCell') =true :=Bc (sl7 _ _ _ _ _ _ _ _ _ _ _ _ _ _ _ _ _ _ _ _ _)
 go_wp2_with (first
  | refine wpList_load_row rfl 39 _ rfl (w.heap.size+2) rfl 39 _ _ _ hS2.s Tryz.underlying39 rfl Af ?_
  | refine wpList_store_row rfl 39 _ _ rfl (w.heap.size+1) _ rfl rfl 39 Ah hS2.r Af rfl hone ?_)
 exact bodyPost_ret (v := .tuple #[.agg (sA 2 a b1 c1 (.slice none 0 0) (.slice none 0 0) (.slice none 0 0) (.slice none 0 0) (.slice none 0 0) 0 0 0 noW noW noW 0 (.slice none 0 0) (.slice none 0 0) false (-1)), .bool true]) (Ay Tryz.results13 _ _ (w.heap.size+1) 39 _ _ _ _ rfl rfl (Am hS2.r) Tryz.underlying39 rfl Af) rfl (A4 (ok :=true) hS2 (sl7 _ _ _ _ _ _ _ _ _ _ _ _ _ _ _ _ _ _ _ _ _) ⟨_,rfl,D8 (IsL.nil _ _ _) (IsL.nil _ _ _) (IsL.nil _ _ _) (IsL.nil _ _ _) (IsL.nil _ _ _) (Dy _ _) (IsL.nil _ _ _)⟩)
end Go.Proofs.YtifjaegfpdjikaaGreatDoor

namespace Go.Proofs.YtifjaegfpdjikaaGreatDoor
open Go.RowKit
set_option maxRecDepth 100000 in
set_option maxHeartbeats 4000000 in
theorem P3 (sl :Value) (L :List Wd) (M :List Wd) (hlen :M.length≠6) (w :World) (he :Env w) (hL :Ak w sl L) (hw :Whole L) (hk0 :L.take 2≠ [Au,A5]) (hk1 :L.take 2= [Au,B7]) (hrest :L.drop 2=M) :
  Calls Tryz.prog 13 #[sl] w (Cv (none) w) :=by
 have H0 :=Bz Ch he hL hw hk0 (Ai 0)
 have H1 :=D4 Dh he hL hw hk1 (Ai 0)
 rw [show (L.drop [Au,B7].length) =M from hrest] at H1
 clear hk0 hk1 hrest hw
 have s1 :=Dj w sl
 have s0 :=Di w sl
 obtain ⟨a0,n0,cap0,rfl,hn0⟩ :=Ax hL
 clear hL hn0
 generalize hW0 : ((((w.alloc (.cells #[.slice a0 n0 cap0] 32)).alloc (.cells Ah 39)).alloc (.cells Ah 39)).setRow (w.heap.size+2) (Ai 0)) =W0 at s0
 have HW0 :Hid _ :=hW0
 clear hW0
 go_enter Tryz.func13,Tryz.ntmps13
 go_upto_region 2 with (refine wpList_store_row rfl 39 _ _ rfl (w.heap.size+2) (Ai 0) rfl rfl 39 Ah s1 Af rfl Fc ?_)
 rw [HW0.out,show w.heap.size+1+1=w.heap.size+2 from rfl]
 have hS :=s0
 clear s0 s1 HW0
 go_upto_region 25 with (first
   | (go_at_call 27;go_fit (H0 _ hS);clear hS;rintro e W ⟨rfl,hS⟩)
   | (go_at_call 27;go_fit (H1 _ hS);clear hS;rintro e W ⟨rfl,ao,n,c,hS,hl⟩;have c0 :W.cell? ⟨w.heap.size,0,none⟩ =some (.slice ao n c) :=Aa hS.l rfl))
 obtain ⟨ao1,n1,c1,hsl,hn1⟩ :=Ax hl
 cases hsl
 have q0 : ((n :Int) ==6) =false :=beq_eq_false_iff_ne.2 (by omega)
 have q1 : ((n :Int) !=6) =true :=by rw [bne,q0];rfl
 have q2 : ¬ (n :Int) =6 :=by omega
 clear hn1 hl
 have hone : (sA 0 noW noW noW (.slice none 0 0) (.slice none 0 0) (.slice none 0 0) (.slice none 0 0) (.slice none 0 0) 0 0 0 noW noW noW 0 (.slice none 0 0) (.slice none 0 0) false (-1)).all (·.oneCell') =true :=Bc (sl7 _ _ _ _ _ _ _ _ _ _ _ _ _ _ _ _ _ _ _ _ _)
 go_wp2_with (first
  | refine wpList_load_row rfl 39 _ rfl (w.heap.size+2) rfl 39 _ _ _ hS.s Tryz.underlying39 rfl Af ?_
  | refine wpList_store_row rfl 39 _ _ rfl (w.heap.size+1) _ rfl rfl 39 Ah hS.r Af rfl hone ?_)
 exact bodyPost_ret (v := .tuple #[.agg (sA 0 noW noW noW (.slice none 0 0) (.slice none 0 0) (.slice none 0 0) (.slice none 0 0) (.slice none 0 0) 0 0 0 noW noW noW 0 (.slice none 0 0) (.slice none 0 0) false (-1)), .bool false]) (Ay Tryz.results13 _ _ (w.heap.size+1) 39 _ _ _ _ rfl rfl (Am hS.r) Tryz.underlying39 rfl Af) rfl (A4 (ok :=false) hS (sl7 _ _ _ _ _ _ _ _ _ _ _ _ _ _ _ _ _ _ _ _ _) rfl)
end Go.Proofs.YtifjaegfpdjikaaGreatDoor

namespace Go.Proofs.YtifjaegfpdjikaaGreatDoor
open Go.RowKit
set_option maxRecDepth 100000 in
set_option maxHeartbeats 4000000 in
theorem Oy (sl :Value) (L :List Wd) (a k1 b1 k2 c1 k3 :Wd) (hc0 :k1≠kOn) (w :World) (he :Env w) (hL :Ak w sl L) (hw :Whole L) (hk0 :L.take 2≠ [Au,A5]) (hk1 :L.take 2= [Au,B7]) (hrest :L.drop 2= [a,k1,b1,k2,c1,k3]) :
  Calls Tryz.prog 13 #[sl] w (Cv (none) w) :=by
 have H0 :=Bz Ch he hL hw hk0 (Ai 0)
 have H1 :=D4 Dh he hL hw hk1 (Ai 0)
 rw [show (L.drop [Au,B7].length) = [a,k1,b1,k2,c1,k3] from hrest] at H1
 clear hk0 hk1 hrest hw
 have s1 :=Dj w sl
 have s0 :=Di w sl
 obtain ⟨a0,n0,cap0,rfl,hn0⟩ :=Ax hL
 clear hL hn0
 generalize hW0 : ((((w.alloc (.cells #[.slice a0 n0 cap0] 32)).alloc (.cells Ah 39)).alloc (.cells Ah 39)).setRow (w.heap.size+2) (Ai 0)) =W0 at s0
 have HW0 :Hid _ :=hW0
 clear hW0
 go_enter Tryz.func13,Tryz.ntmps13
 go_upto_region 2 with (refine wpList_store_row rfl 39 _ _ rfl (w.heap.size+2) (Ai 0) rfl rfl 39 Ah s1 Af rfl Fc ?_)
 rw [HW0.out,show w.heap.size+1+1=w.heap.size+2 from rfl]
 have hS :=s0
 clear s0 s1 HW0
 go_upto_region 25 with (first
   | (go_at_call 27;go_fit (H0 _ hS);clear hS;rintro e W ⟨rfl,hS⟩)
   | (go_at_call 27;go_fit (H1 _ hS);clear hS;rintro e W ⟨rfl,ao,n,c,hS,hl⟩;have c0 :W.cell? ⟨w.heap.size,0,none⟩ =some (.slice ao n c) :=Aa hS.l rfl))
 obtain ⟨b,off,cap,hsl,hcap,hcell⟩ :=A0 (hl.below hS.b) (by simp)
 cases hsl
 have x0 :W.cell? ⟨b,off,none⟩ =some (.string a) :=hcell 0 _ rfl
 have x1 :W.cell? ⟨b,off+1,none⟩ =some (.string k1) :=hcell 1 _ rfl
 have x2 :W.cell? ⟨b,off+2,none⟩ =some (.string b1) :=hcell 2 _ rfl
 have x3 :W.cell? ⟨b,off+3,none⟩ =some (.string k2) :=hcell 3 _ rfl
 have x4 :W.cell? ⟨b,off+4,none⟩ =some (.string c1) :=hcell 4 _ rfl
 have x5 :W.cell? ⟨b,off+5,none⟩ =some (.string k3) :=hcell 5 _ rfl
 obtain ⟨hblw,hq1,hq2,hcw⟩ :=A7 hl (by simp)
 have KS :Hid (∀V,Below w.heap.size w V→V.cell? ⟨b,off,none⟩ =some (.string a) ∧V.cell? ⟨b,off+1,none⟩ =some (.string k1) ∧V.cell? ⟨b,off+2,none⟩ =some (.string b1) ∧V.cell? ⟨b,off+3,none⟩ =some (.string k2) ∧V.cell? ⟨b,off+4,none⟩ =some (.string c1) ∧V.cell? ⟨b,off+5,none⟩ =some (.string k3)) :=fun V h=> ⟨(h.cell (p := ⟨b,off,none⟩) hblw).trans (hcw 0 _ rfl),(h.cell (p := ⟨b,off+1,none⟩) hblw).trans (hcw 1 _ rfl),(h.cell (p := ⟨b,off+2,none⟩) hblw).trans (hcw 2 _ rfl),(h.cell (p := ⟨b,off+3,none⟩) hblw).trans (hcw 3 _ rfl),(h.cell (p := ⟨b,off+4,none⟩) hblw).trans (hcw 4 _ rfl),(h.cell (p := ⟨b,off+5,none⟩) hblw).trans (hcw 5 _ rfl)⟩
 clear hcell hcw hq1 hq2 hcap hl
 have hb0 : (k1.toList== [111,110]) =false :=by rw [An];simpa using hc0
 go_upto_region 26 with fail
 have hone : (sA 0 noW noW noW (.slice none 0 0) (.slice none 0 0) (.slice none 0 0) (.slice none 0 0) (.slice none 0 0) 0 0 0 noW noW noW 0 (.slice none 0 0) (.slice none 0 0) false (-1)).all (·.oneCell') =true :=Bc (sl7 _ _ _ _ _ _ _ _ _ _ _ _ _ _ _ _ _ _ _ _ _)
 go_wp2_with (first
  | refine wpList_load_row rfl 39 _ rfl (w.heap.size+2) rfl 39 _ _ _ hS.s Tryz.underlying39 rfl Af ?_
  | refine wpList_store_row rfl 39 _ _ rfl (w.heap.size+1) _ rfl rfl 39 Ah hS.r Af rfl hone ?_)
 exact bodyPost_ret (v := .tuple #[.agg (sA 0 noW noW noW (.slice none 0 0) (.slice none 0 0) (.slice none 0 0) (.slice none 0 0) (.slice none 0 0) 0 0 0 noW noW noW 0 (.slice none 0 0) (.slice none 0 0) false (-1)), .bool false]) (Ay Tryz.results13 _ _ (w.heap.size+1) 39 _ _ _ _ rfl rfl (Am hS.r) Tryz.underlying39 rfl Af) rfl (A4 (ok :=false) hS (sl7 _ _ _ _ _ _ _ _ _ _ _ _ _ _ _ _ _ _ _ _ _) rfl)
set_option maxRecDepth 100000 in
set_option maxHeartbeats 4000000 in
theorem Oz (sl :Value) (L :List Wd) (a k1 b1 k2 c1 k3 :Wd) (hc0 :k1=kOn) (hc1 :k2≠As) (w :World) (he :Env w) (hL :Ak w sl L) (hw :Whole L) (hk0 :L.take 2≠ [Au,A5]) (hk1 :L.take 2= [Au,B7]) (hrest :L.drop 2= [a,k1,b1,k2,c1,k3]) :
  Calls Tryz.prog 13 #[sl] w (Cv (none) w) :=by
 have H0 :=Bz Ch he hL hw hk0 (Ai 0)
 have H1 :=D4 Dh he hL hw hk1 (Ai 0)
 rw [show (L.drop [Au,B7].length) = [a,k1,b1,k2,c1,k3] from hrest] at H1
 clear hk0 hk1 hrest hw
 have s1 :=Dj w sl
 have s0 :=Di w sl
 obtain ⟨a0,n0,cap0,rfl,hn0⟩ :=Ax hL
 clear hL hn0
 generalize hW0 : ((((w.alloc (.cells #[.slice a0 n0 cap0] 32)).alloc (.cells Ah 39)).alloc (.cells Ah 39)).setRow (w.heap.size+2) (Ai 0)) =W0 at s0
 have HW0 :Hid _ :=hW0
 clear hW0
 go_enter Tryz.func13,Tryz.ntmps13
 go_upto_region 2 with (refine wpList_store_row rfl 39 _ _ rfl (w.heap.size+2) (Ai 0) rfl rfl 39 Ah s1 Af rfl Fc ?_)
 rw [HW0.out,show w.heap.size+1+1=w.heap.size+2 from rfl]
 have hS :=s0
 clear s0 s1 HW0
 go_upto_region 25 with (first
   | (go_at_call 27;go_fit (H0 _ hS);clear hS;rintro e W ⟨rfl,hS⟩)
   | (go_at_call 27;go_fit (H1 _ hS);clear hS;rintro e W ⟨rfl,ao,n,c,hS,hl⟩;have c0 :W.cell? ⟨w.heap.size,0,none⟩ =some (.slice ao n c) :=Aa hS.l rfl))
 obtain ⟨b,off,cap,hsl,hcap,hcell⟩ :=A0 (hl.below hS.b) (by simp)
 cases hsl
 have x0 :W.cell? ⟨b,off,none⟩ =some (.string a) :=hcell 0 _ rfl
 have x1 :W.cell? ⟨b,off+1,none⟩ =some (.string k1) :=hcell 1 _ rfl
 have x2 :W.cell? ⟨b,off+2,none⟩ =some (.string b1) :=hcell 2 _ rfl
 have x3 :W.cell? ⟨b,off+3,none⟩ =some (.string k2) :=hcell 3 _ rfl
 have x4 :W.cell? ⟨b,off+4,none⟩ =some (.string c1) :=hcell 4 _ rfl
 have x5 :W.cell? ⟨b,off+5,none⟩ =some (.string k3) :=hcell 5 _ rfl
 obtain ⟨hblw,hq1,hq2,hcw⟩ :=A7 hl (by simp)
 have KS :Hid (∀V,Below w.heap.size w V→V.cell? ⟨b,off,none⟩ =some (.string a) ∧V.cell? ⟨b,off+1,none⟩ =some (.string k1) ∧V.cell? ⟨b,off+2,none⟩ =some (.string b1) ∧V.cell? ⟨b,off+3,none⟩ =some (.string k2) ∧V.cell? ⟨b,off+4,none⟩ =some (.string c1) ∧V.cell? ⟨b,off+5,none⟩ =some (.string k3)) :=fun V h=> ⟨(h.cell (p := ⟨b,off,none⟩) hblw).trans (hcw 0 _ rfl),(h.cell (p := ⟨b,off+1,none⟩) hblw).trans (hcw 1 _ rfl),(h.cell (p := ⟨b,off+2,none⟩) hblw).trans (hcw 2 _ rfl),(h.cell (p := ⟨b,off+3,none⟩) hblw).trans (hcw 3 _ rfl),(h.cell (p := ⟨b,off+4,none⟩) hblw).trans (hcw 4 _ rfl),(h.cell (p := ⟨b,off+5,none⟩) hblw).trans (hcw 5 _ rfl)⟩
 clear hcell hcw hq1 hq2 hcap hl
 have hb0 : (k1.toList== [111,110]) =true :=by rw [An];simpa using hc0
 have hb1 : (k2.toList== [40]) =false :=by rw [An];simpa using hc1
 go_upto_region 26 with fail
 have hone : (sA 0 noW noW noW (.slice none 0 0) (.slice none 0 0) (.slice none 0 0) (.slice none 0 0) (.slice none 0 0) 0 0 0 noW noW noW 0 (.slice none 0 0) (.slice none 0 0) false (-1)).all (·.oneCell') =true :=Bc (sl7 _ _ _ _ _ _ _ _ _ _ _ _ _ _ _ _ _ _ _ _ _)
 go_wp2_with (first
  | refine wpList_load_row rfl 39 _ rfl (w.heap.size+2) rfl 39 _ _ _ hS.s Tryz.underlying39 rfl Af ?_
  | refine wpList_store_row rfl 39 _ _ rfl (w.heap.size+1) _ rfl rfl 39 Ah hS.r Af rfl hone ?_)
 exact bodyPost_ret (v := .tuple #[.agg (sA 0 noW noW noW (.slice none 0 0) (.slice none 0 0) (.slice none 0 0) (.slice none 0 0) (.slice none 0 0) 0 0 0 noW noW noW 0 (.slice none 0 0) (.slice none 0 0) false (-1)), .bool false]) (Ay Tryz.results13 _ _ (w.heap.size+1) 39 _ _ _ _ rfl rfl (Am hS.r) Tryz.underlying39 rfl Af) rfl (A4 (ok :=false) hS (sl7 _ _ _ _ _ _ _ _ _ _ _ _ _ _ _ _ _ _ _ _ _) rfl)
set_option maxRecDepth 100000 in
set_option maxHeartbeats 4000000 in
theorem O0 (sl :Value) (L :List Wd) (a k1 b1 k2 c1 k3 :Wd) (hc0 :k1=kOn) (hc1 :k2=As) (hc2 :k3≠Aq) (w :World) (he :Env w) (hL :Ak w sl L) (hw :Whole L) (hk0 :L.take 2≠ [Au,A5]) (hk1 :L.take 2= [Au,B7]) (hrest :L.drop 2= [a,k1,b1,k2,c1,k3]) :
  Calls Tryz.prog 13 #[sl] w (Cv (none) w) :=by
 have H0 :=Bz Ch he hL hw hk0 (Ai 0)
 have H1 :=D4 Dh he hL hw hk1 (Ai 0)
 rw [show (L.drop [Au,B7].length) = [a,k1,b1,k2,c1,k3] from hrest] at H1
 clear hk0 hk1 hrest hw
 have s1 :=Dj w sl
 have s0 :=Di w sl
 obtain ⟨a0,n0,cap0,rfl,hn0⟩ :=Ax hL
 clear hL hn0
 generalize hW0 : ((((w.alloc (.cells #[.slice a0 n0 cap0] 32)).alloc (.cells Ah 39)).alloc (.cells Ah 39)).setRow (w.heap.size+2) (Ai 0)) =W0 at s0
 have HW0 :Hid _ :=hW0
 clear hW0
 go_enter Tryz.func13,Tryz.ntmps13
 go_upto_region 2 with (refine wpList_store_row rfl 39 _ _ rfl (w.heap.size+2) (Ai 0) rfl rfl 39 Ah s1 Af rfl Fc ?_)
 rw [HW0.out,show w.heap.size+1+1=w.heap.size+2 from rfl]
 have hS :=s0
 clear s0 s1 HW0
 go_upto_region 25 with (first
   | (go_at_call 27;go_fit (H0 _ hS);clear hS;rintro e W ⟨rfl,hS⟩)
   | (go_at_call 27;go_fit (H1 _ hS);clear hS;rintro e W ⟨rfl,ao,n,c,hS,hl⟩;have c0 :W.cell? ⟨w.heap.size,0,none⟩ =some (.slice ao n c) :=Aa hS.l rfl))
 obtain ⟨b,off,cap,hsl,hcap,hcell⟩ :=A0 (hl.below hS.b) (by simp)
 cases hsl
 have x0 :W.cell? ⟨b,off,none⟩ =some (.string a) :=hcell 0 _ rfl
 have x1 :W.cell? ⟨b,off+1,none⟩ =some (.string k1) :=hcell 1 _ rfl
 have x2 :W.cell? ⟨b,off+2,none⟩ =some (.string b1) :=hcell 2 _ rfl
 have x3 :W.cell? ⟨b,off+3,none⟩ =some (.string k2) :=hcell 3 _ rfl
 have x4 :W.cell? ⟨b,off+4,none⟩ =some (.string c1) :=hcell 4 _ rfl
 have x5 :W.cell? ⟨b,off+5,none⟩ =some (.string k3) :=hcell 5 _ rfl
 obtain ⟨hblw,hq1,hq2,hcw⟩ :=A7 hl (by simp)
 have KS :Hid (∀V,Below w.heap.size w V→V.cell? ⟨b,off,none⟩ =some (.string a) ∧V.cell? ⟨b,off+1,none⟩ =some (.string k1) ∧V.cell? ⟨b,off+2,none⟩ =some (.string b1) ∧V.cell? ⟨b,off+3,none⟩ =some (.string k2) ∧V.cell? ⟨b,off+4,none⟩ =some (.string c1) ∧V.cell? ⟨b,off+5,none⟩ =some (.string k3)) :=fun V h=> ⟨(h.cell (p := ⟨b,off,none⟩) hblw).trans (hcw 0 _ rfl),(h.cell (p := ⟨b,off+1,none⟩) hblw).trans (hcw 1 _ rfl),(h.cell (p := ⟨b,off+2,none⟩) hblw).trans (hcw 2 _ rfl),(h.cell (p := ⟨b,off+3,none⟩) hblw).trans (hcw 3 _ rfl),(h.cell (p := ⟨b,off+4,none⟩) hblw).trans (hcw 4 _ rfl),(h.cell (p := ⟨b,off+5,none⟩) hblw).trans (hcw 5 _ rfl)⟩
 clear hcell hcw hq1 hq2 hcap hl
 have hb0 : (k1.toList== [111,110]) =true :=by rw [An];simpa using hc0
 have hb1 : (k2.toList== [40]) =true :=by rw [An];simpa using hc1
 have hb2 : (k3.toList== [41]) =false :=by rw [An];simpa using hc2
 go_upto_region 26 with fail
 have hone : (sA 0 noW noW noW (.slice none 0 0) (.slice none 0 0) (.slice none 0 0) (.slice none 0 0) (.slice none 0 0) 0 0 0 noW noW noW 0 (.slice none 0 0) (.slice none 0 0) false (-1)).all (·.oneCell') =true :=Bc (sl7 _ _ _ _ _ _ _ _ _ _ _ _ _ _ _ _ _ _ _ _ _)
 go_wp2_with (first
  | refine wpList_load_row rfl 39 _ rfl (w.heap.size+2) rfl 39 _ _ _ hS.s Tryz.underlying39 rfl Af ?_
  | refine wpList_store_row rfl 39 _ _ rfl (w.heap.size+1) _ rfl rfl 39 Ah hS.r Af rfl hone ?_)
 exact bodyPost_ret (v := .tuple #[.agg (sA 0 noW noW noW (.slice none 0 0) (.slice none 0 0) (.slice none 0 0) (.slice none 0 0) (.slice none 0 0) 0 0 0 noW noW noW 0 (.slice none 0 0) (.slice none 0 0) false (-1)), .bool false]) (Ay Tryz.results13 _ _ (w.heap.size+1) 39 _ _ _ _ rfl rfl (Am hS.r) Tryz.underlying39 rfl Af) rfl (A4 (ok :=false) hS (sl7 _ _ _ _ _ _ _ _ _ _ _ _ _ _ _ _ _ _ _ _ _) rfl)
end Go.Proofs.YtifjaegfpdjikaaGreatDoor

namespace Go.Proofs.YtifjaegfpdjikaaGreatDoor
open Go.RowKit
set_option maxRecDepth 100000 in
set_option maxHeartbeats 4000000 in
theorem O1 (sl :Value) (L :List Wd) (a k1 b1 k2 c1 k3 :Wd) (hc0 :k1=kOn) (hc1 :k2=As) (hc2 :k3=Aq) (hc3 :nm a=false) (w :World) (he :Env w) (hL :Ak w sl L) (hw :Whole L) (hk0 :L.take 2≠ [Au,A5]) (hk1 :L.take 2= [Au,B7]) (hrest :L.drop 2= [a,k1,b1,k2,c1,k3]) :
  Calls Tryz.prog 13 #[sl] w (Cv (none) w) :=by
 have H0 :=Bz Ch he hL hw hk0 (Ai 0)
 have H1 :=D4 Dh he hL hw hk1 (Ai 0)
 rw [show (L.drop [Au,B7].length) = [a,k1,b1,k2,c1,k3] from hrest] at H1
 clear hk0 hk1 hrest hw
 have s1 :=Dj w sl
 have s0 :=Di w sl
 obtain ⟨a0,n0,cap0,rfl,hn0⟩ :=Ax hL
 clear hL hn0
 generalize hW0 : ((((w.alloc (.cells #[.slice a0 n0 cap0] 32)).alloc (.cells Ah 39)).alloc (.cells Ah 39)).setRow (w.heap.size+2) (Ai 0)) =W0 at s0
 have HW0 :Hid _ :=hW0
 clear hW0
 go_enter Tryz.func13,Tryz.ntmps13
 go_upto_region 2 with (refine wpList_store_row rfl 39 _ _ rfl (w.heap.size+2) (Ai 0) rfl rfl 39 Ah s1 Af rfl Fc ?_)
 rw [HW0.out,show w.heap.size+1+1=w.heap.size+2 from rfl]
 have hS :=s0
 clear s0 s1 HW0
 go_upto_region 25 with (first
   | (go_at_call 27;go_fit (H0 _ hS);clear hS;rintro e W ⟨rfl,hS⟩)
   | (go_at_call 27;go_fit (H1 _ hS);clear hS;rintro e W ⟨rfl,ao,n,c,hS,hl⟩;have c0 :W.cell? ⟨w.heap.size,0,none⟩ =some (.slice ao n c) :=Aa hS.l rfl))
 obtain ⟨b,off,cap,hsl,hcap,hcell⟩ :=A0 (hl.below hS.b) (by simp)
 cases hsl
 have x0 :W.cell? ⟨b,off,none⟩ =some (.string a) :=hcell 0 _ rfl
 have x1 :W.cell? ⟨b,off+1,none⟩ =some (.string k1) :=hcell 1 _ rfl
 have x2 :W.cell? ⟨b,off+2,none⟩ =some (.string b1) :=hcell 2 _ rfl
 have x3 :W.cell? ⟨b,off+3,none⟩ =some (.string k2) :=hcell 3 _ rfl
 have x4 :W.cell? ⟨b,off+4,none⟩ =some (.string c1) :=hcell 4 _ rfl
 have x5 :W.cell? ⟨b,off+5,none⟩ =some (.string k3) :=hcell 5 _ rfl
 obtain ⟨hblw,hq1,hq2,hcw⟩ :=A7 hl (by simp)
 have KS :Hid (∀V,Below w.heap.size w V→V.cell? ⟨b,off,none⟩ =some (.string a) ∧V.cell? ⟨b,off+1,none⟩ =some (.string k1) ∧V.cell? ⟨b,off+2,none⟩ =some (.string b1) ∧V.cell? ⟨b,off+3,none⟩ =some (.string k2) ∧V.cell? ⟨b,off+4,none⟩ =some (.string c1) ∧V.cell? ⟨b,off+5,none⟩ =some (.string k3)) :=fun V h=> ⟨(h.cell (p := ⟨b,off,none⟩) hblw).trans (hcw 0 _ rfl),(h.cell (p := ⟨b,off+1,none⟩) hblw).trans (hcw 1 _ rfl),(h.cell (p := ⟨b,off+2,none⟩) hblw).trans (hcw 2 _ rfl),(h.cell (p := ⟨b,off+3,none⟩) hblw).trans (hcw 3 _ rfl),(h.cell (p := ⟨b,off+4,none⟩) hblw).trans (hcw 4 _ rfl),(h.cell (p := ⟨b,off+5,none⟩) hblw).trans (hcw 5 _ rfl)⟩
 clear hcell hcw hq1 hq2 hcap hl
 have hb0 : (k1.toList== [111,110]) =true :=by rw [An];simpa using hc0
 have hb1 : (k2.toList== [40]) =true :=by rw [An];simpa using hc1
 have hb2 : (k3.toList== [41]) =true :=by rw [An];simpa using hc2
 have NM3 :=Da he hc3
 go_upto_region 26 with (first
  | (go_at_call 7;go_fit (NM3 _ hS.b);rintro e W ⟨rfl,hb⟩;have hS :=hS.next hb;clear hb;obtain ⟨y0,y1,y2,y3,y4,y5⟩ :=KS.out W hS.b;have c0 :W.cell? ⟨w.heap.size,0,none⟩ =some (.slice (some ⟨b,off,none⟩) 6 c) :=Aa hS.l rfl))
 have hone : (sA 0 noW noW noW (.slice none 0 0) (.slice none 0 0) (.slice none 0 0) (.slice none 0 0) (.slice none 0 0) 0 0 0 noW noW noW 0 (.slice none 0 0) (.slice none 0 0) false (-1)).all (·.oneCell') =true :=Bc (sl7 _ _ _ _ _ _ _ _ _ _ _ _ _ _ _ _ _ _ _ _ _)
 go_wp2_with (first
  | refine wpList_load_row rfl 39 _ rfl (w.heap.size+2) rfl 39 _ _ _ hS.s Tryz.underlying39 rfl Af ?_
  | refine wpList_store_row rfl 39 _ _ rfl (w.heap.size+1) _ rfl rfl 39 Ah hS.r Af rfl hone ?_)
 exact bodyPost_ret (v := .tuple #[.agg (sA 0 noW noW noW (.slice none 0 0) (.slice none 0 0) (.slice none 0 0) (.slice none 0 0) (.slice none 0 0) 0 0 0 noW noW noW 0 (.slice none 0 0) (.slice none 0 0) false (-1)), .bool false]) (Ay Tryz.results13 _ _ (w.heap.size+1) 39 _ _ _ _ rfl rfl (Am hS.r) Tryz.underlying39 rfl Af) rfl (A4 (ok :=false) hS (sl7 _ _ _ _ _ _ _ _ _ _ _ _ _ _ _ _ _ _ _ _ _) rfl)
set_option maxRecDepth 100000 in
set_option maxHeartbeats 4000000 in
theorem O2 (sl :Value) (L :List Wd) (a k1 b1 k2 c1 k3 :Wd) (hc0 :k1=kOn) (hc1 :k2=As) (hc2 :k3=Aq) (hc3 :nm a=true) (hc4 :nm b1=false) (w :World) (he :Env w) (hL :Ak w sl L) (hw :Whole L) (hk0 :L.take 2≠ [Au,A5]) (hk1 :L.take 2= [Au,B7]) (hrest :L.drop 2= [a,k1,b1,k2,c1,k3]) :
  Calls Tryz.prog 13 #[sl] w (Cv (none) w) :=by
 have H0 :=Bz Ch he hL hw hk0 (Ai 0)
 have H1 :=D4 Dh he hL hw hk1 (Ai 0)
 rw [show (L.drop [Au,B7].length) = [a,k1,b1,k2,c1,k3] from hrest] at H1
 clear hk0 hk1 hrest hw
 have s1 :=Dj w sl
 have s0 :=Di w sl
 obtain ⟨a0,n0,cap0,rfl,hn0⟩ :=Ax hL
 clear hL hn0
 generalize hW0 : ((((w.alloc (.cells #[.slice a0 n0 cap0] 32)).alloc (.cells Ah 39)).alloc (.cells Ah 39)).setRow (w.heap.size+2) (Ai 0)) =W0 at s0
 have HW0 :Hid _ :=hW0
 clear hW0
 go_enter Tryz.func13,Tryz.ntmps13
 go_upto_region 2 with (refine wpList_store_row rfl 39 _ _ rfl (w.heap.size+2) (Ai 0) rfl rfl 39 Ah s1 Af rfl Fc ?_)
 rw [HW0.out,show w.heap.size+1+1=w.heap.size+2 from rfl]
 have hS :=s0
 clear s0 s1 HW0
 go_upto_region 25 with (first
   | (go_at_call 27;go_fit (H0 _ hS);clear hS;rintro e W ⟨rfl,hS⟩)
   | (go_at_call 27;go_fit (H1 _ hS);clear hS;rintro e W ⟨rfl,ao,n,c,hS,hl⟩;have c0 :W.cell? ⟨w.heap.size,0,none⟩ =some (.slice ao n c) :=Aa hS.l rfl))
 obtain ⟨b,off,cap,hsl,hcap,hcell⟩ :=A0 (hl.below hS.b) (by simp)
 cases hsl
 have x0 :W.cell? ⟨b,off,none⟩ =some (.string a) :=hcell 0 _ rfl
 have x1 :W.cell? ⟨b,off+1,none⟩ =some (.string k1) :=hcell 1 _ rfl
 have x2 :W.cell? ⟨b,off+2,none⟩ =some (.string b1) :=hcell 2 _ rfl
 have x3 :W.cell? ⟨b,off+3,none⟩ =some (.string k2) :=hcell 3 _ rfl
 have x4 :W.cell? ⟨b,off+4,none⟩ =some (.string c1) :=hcell 4 _ rfl
 have x5 :W.cell? ⟨b,off+5,none⟩ =some (.string k3) :=hcell 5 _ rfl
 obtain ⟨hblw,hq1,hq2,hcw⟩ :=A7 hl (by simp)
 have KS :Hid (∀V,Below w.heap.size w V→V.cell? ⟨b,off,none⟩ =some (.string a) ∧V.cell? ⟨b,off+1,none⟩ =some (.string k1) ∧V.cell? ⟨b,off+2,none⟩ =some (.string b1) ∧V.cell? ⟨b,off+3,none⟩ =some (.string k2) ∧V.cell? ⟨b,off+4,none⟩ =some (.string c1) ∧V.cell? ⟨b,off+5,none⟩ =some (.string k3)) :=fun V h=> ⟨(h.cell (p := ⟨b,off,none⟩) hblw).trans (hcw 0 _ rfl),(h.cell (p := ⟨b,off+1,none⟩) hblw).trans (hcw 1 _ rfl),(h.cell (p := ⟨b,off+2,none⟩) hblw).trans (hcw 2 _ rfl),(h.cell (p := ⟨b,off+3,none⟩) hblw).trans (hcw 3 _ rfl),(h.cell (p := ⟨b,off+4,none⟩) hblw).trans (hcw 4 _ rfl),(h.cell (p := ⟨b,off+5,none⟩) hblw).trans (hcw 5 _ rfl)⟩
 clear hcell hcw hq1 hq2 hcap hl
 have hb0 : (k1.toList== [111,110]) =true :=by rw [An];simpa using hc0
 have hb1 : (k2.toList== [40]) =true :=by rw [An];simpa using hc1
 have hb2 : (k3.toList== [41]) =true :=by rw [An];simpa using hc2
 have NM3 :=Da he hc3
 have NM4 :=Da he hc4
 go_upto_region 26 with (first
  | (go_at_call 7;go_fit (NM3 _ hS.b);rintro e W ⟨rfl,hb⟩;have hS :=hS.next hb;clear hb;obtain ⟨y0,y1,y2,y3,y4,y5⟩ :=KS.out W hS.b;have c0 :W.cell? ⟨w.heap.size,0,none⟩ =some (.slice (some ⟨b,off,none⟩) 6 c) :=Aa hS.l rfl)
  | (go_at_call 7;go_fit (NM4 _ hS.b);rintro e W ⟨rfl,hb⟩;have hS :=hS.next hb;clear hb;obtain ⟨y0,y1,y2,y3,y4,y5⟩ :=KS.out W hS.b;have c0 :W.cell? ⟨w.heap.size,0,none⟩ =some (.slice (some ⟨b,off,none⟩) 6 c) :=Aa hS.l rfl))
 have hone : (sA 0 noW noW noW (.slice none 0 0) (.slice none 0 0) (.slice none 0 0) (.slice none 0 0) (.slice none 0 0) 0 0 0 noW noW noW 0 (.slice none 0 0) (.slice none 0 0) false (-1)).all (·.oneCell') =true :=Bc (sl7 _ _ _ _ _ _ _ _ _ _ _ _ _ _ _ _ _ _ _ _ _)
 go_wp2_with (first
  | refine wpList_load_row rfl 39 _ rfl (w.heap.size+2) rfl 39 _ _ _ hS.s Tryz.underlying39 rfl Af ?_
  | refine wpList_store_row rfl 39 _ _ rfl (w.heap.size+1) _ rfl rfl 39 Ah hS.r Af rfl hone ?_)
 exact bodyPost_ret (v := .tuple #[.agg (sA 0 noW noW noW (.slice none 0 0) (.slice none 0 0) (.slice none 0 0) (.slice none 0 0) (.slice none 0 0) 0 0 0 noW noW noW 0 (.slice none 0 0) (.slice none 0 0) false (-1)), .bool false]) (Ay Tryz.results13 _ _ (w.heap.size+1) 39 _ _ _ _ rfl rfl (Am hS.r) Tryz.underlying39 rfl Af) rfl (A4 (ok :=false) hS (sl7 _ _ _ _ _ _ _ _ _ _ _ _ _ _ _ _ _ _ _ _ _) rfl)
set_option maxRecDepth 100000 in
set_option maxHeartbeats 4000000 in
theorem O3 (sl :Value) (L :List Wd) (a k1 b1 k2 c1 k3 :Wd) (hc0 :k1=kOn) (hc1 :k2=As) (hc2 :k3=Aq) (hc3 :nm a=true) (hc4 :nm b1=true) (hc5 :nm c1=false) (w :World) (he :Env w) (hL :Ak w sl L) (hw :Whole L) (hk0 :L.take 2≠ [Au,A5]) (hk1 :L.take 2= [Au,B7]) (hrest :L.drop 2= [a,k1,b1,k2,c1,k3]) :
  Calls Tryz.prog 13 #[sl] w (Cv (none) w) :=by
 have H0 :=Bz Ch he hL hw hk0 (Ai 0)
 have H1 :=D4 Dh he hL hw hk1 (Ai 0)
 rw [show (L.drop [Au,B7].length) = [a,k1,b1,k2,c1,k3] from hrest] at H1
 clear hk0 hk1 hrest hw
 have s1 :=Dj w sl
 have s0 :=Di w sl
 obtain ⟨a0,n0,cap0,rfl,hn0⟩ :=Ax hL
 clear hL hn0
 generalize hW0 : ((((w.alloc (.cells #[.slice a0 n0 cap0] 32)).alloc (.cells Ah 39)).alloc (.cells Ah 39)).setRow (w.heap.size+2) (Ai 0)) =W0 at s0
 have HW0 :Hid _ :=hW0
 clear hW0
 go_enter Tryz.func13,Tryz.ntmps13
 go_upto_region 2 with (refine wpList_store_row rfl 39 _ _ rfl (w.heap.size+2) (Ai 0) rfl rfl 39 Ah s1 Af rfl Fc ?_)
 rw [HW0.out,show w.heap.size+1+1=w.heap.size+2 from rfl]
 have hS :=s0
 clear s0 s1 HW0
 go_upto_region 25 with (first
   | (go_at_call 27;go_fit (H0 _ hS);clear hS;rintro e W ⟨rfl,hS⟩)
   | (go_at_call 27;go_fit (H1 _ hS);clear hS;rintro e W ⟨rfl,ao,n,c,hS,hl⟩;have c0 :W.cell? ⟨w.heap.size,0,none⟩ =some (.slice ao n c) :=Aa hS.l rfl))
 obtain ⟨b,off,cap,hsl,hcap,hcell⟩ :=A0 (hl.below hS.b) (by simp)
 cases hsl
 have x0 :W.cell? ⟨b,off,none⟩ =some (.string a) :=hcell 0 _ rfl
 have x1 :W.cell? ⟨b,off+1,none⟩ =some (.string k1) :=hcell 1 _ rfl
 have x2 :W.cell? ⟨b,off+2,none⟩ =some (.string b1) :=hcell 2 _ rfl
 have x3 :W.cell? ⟨b,off+3,none⟩ =some (.string k2) :=hcell 3 _ rfl
 have x4 :W.cell? ⟨b,off+4,none⟩ =some (.string c1) :=hcell 4 _ rfl
 have x5 :W.cell? ⟨b,off+5,none⟩ =some (.string k3) :=hcell 5 _ rfl
 obtain ⟨hblw,hq1,hq2,hcw⟩ :=A7 hl (by simp)
 have KS :Hid (∀V,Below w.heap.size w V→V.cell? ⟨b,off,none⟩ =some (.string a) ∧V.cell? ⟨b,off+1,none⟩ =some (.string k1) ∧V.cell? ⟨b,off+2,none⟩ =some (.string b1) ∧V.cell? ⟨b,off+3,none⟩ =some (.string k2) ∧V.cell? ⟨b,off+4,none⟩ =some (.string c1) ∧V.cell? ⟨b,off+5,none⟩ =some (.string k3)) :=fun V h=> ⟨(h.cell (p := ⟨b,off,none⟩) hblw).trans (hcw 0 _ rfl),(h.cell (p := ⟨b,off+1,none⟩) hblw).trans (hcw 1 _ rfl),(h.cell (p := ⟨b,off+2,none⟩) hblw).trans (hcw 2 _ rfl),(h.cell (p := ⟨b,off+3,none⟩) hblw).trans (hcw 3 _ rfl),(h.cell (p := ⟨b,off+4,none⟩) hblw).trans (hcw 4 _ rfl),(h.cell (p := ⟨b,off+5,none⟩) hblw).trans (hcw 5 _ rfl)⟩
 clear hcell hcw hq1 hq2 hcap hl
 have hb0 : (k1.toList== [111,110]) =true :=by rw [An];simpa using hc0
 have hb1 : (k2.toList== [40]) =true :=by rw [An];simpa using hc1
 have hb2 : (k3.toList== [41]) =true :=by rw [An];simpa using hc2
 have NM3 :=Da he hc3
 have NM4 :=Da he hc4
 have NM5 :=Da he hc5
 go_upto_region 26 with (first
  | (go_at_call 7;go_fit (NM3 _ hS.b);rintro e W ⟨rfl,hb⟩;have hS :=hS.next hb;clear hb;obtain ⟨y0,y1,y2,y3,y4,y5⟩ :=KS.out W hS.b;have c0 :W.cell? ⟨w.heap.size,0,none⟩ =some (.slice (some ⟨b,off,none⟩) 6 c) :=Aa hS.l rfl)
  | (go_at_call 7;go_fit (NM4 _ hS.b);rintro e W ⟨rfl,hb⟩;have hS :=hS.next hb;clear hb;obtain ⟨y0,y1,y2,y3,y4,y5⟩ :=KS.out W hS.b;have c0 :W.cell? ⟨w.heap.size,0,none⟩ =some (.slice (some ⟨b,off,none⟩) 6 c) :=Aa hS.l rfl)
  | (go_at_call 7;go_fit (NM5 _ hS.b);rintro e W ⟨rfl,hb⟩;have hS :=hS.next hb;clear hb;obtain ⟨y0,y1,y2,y3,y4,y5⟩ :=KS.out W hS.b;have c0 :W.cell? ⟨w.heap.size,0,none⟩ =some (.slice (some ⟨b,off,none⟩) 6 c) :=Aa hS.l rfl))
 have hone : (sA 0 noW noW noW (.slice none 0 0) (.slice none 0 0) (.slice none 0 0) (.slice none 0 0) (.slice none 0 0) 0 0 0 noW noW noW 0 (.slice none 0 0) (.slice none 0 0) false (-1)).all (·.oneCell') =true :=Bc (sl7 _ _ _ _ _ _ _ _ _ _ _ _ _ _ _ _ _ _ _ _ _)
 go_wp2_with (first
  | refine wpList_load_row rfl 39 _ rfl (w.heap.size+2) rfl 39 _ _ _ hS.s Tryz.underlying39 rfl Af ?_
  | refine wpList_store_row rfl 39 _ _ rfl (w.heap.size+1) _ rfl rfl 39 Ah hS.r Af rfl hone ?_)
 exact bodyPost_ret (v := .tuple #[.agg (sA 0 noW noW noW (.slice none 0 0) (.slice none 0 0) (.slice none 0 0) (.slice none 0 0) (.slice none 0 0) 0 0 0 noW noW noW 0 (.slice none 0 0) (.slice none 0 0) false (-1)), .bool false]) (Ay Tryz.results13 _ _ (w.heap.size+1) 39 _ _ _ _ rfl rfl (Am hS.r) Tryz.underlying39 rfl Af) rfl (A4 (ok :=false) hS (sl7 _ _ _ _ _ _ _ _ _ _ _ _ _ _ _ _ _ _ _ _ _) rfl)
end Go.Proofs.YtifjaegfpdjikaaGreatDoor

namespace Go.Proofs.YtifjaegfpdjikaaGreatDoor
open Go.RowKit
def Z0 (L :List Wd) (kind :Int) (name table col :Wd) (cols rows sets frm out order :Value) (down :Bool) (m :Int) (w W :World) (e :Ending) (w' :World) :Prop :=
 ∃ok x L1 op xk xn xs s nmv n8 ao kk c ao' n' c',e= .returned (.bool ok) ∧S3 w w' (.slice ao' n' c') (sA kind name table col cols rows sets frm out op xk xn xs s nmv n8 (.slice ao kk c) order down m) ∧Ak w (.slice ao' n' c') L1∧IsE (Fr W.heap.size) w' x (.agg (A2 op ⟨xk,xn,xs⟩ s nmv n8 (.slice ao kk c))) ∧Ek L= (if ok=true then some (L1,x) else none) ∧ (L1.length≤L.length∧Whole L1) ∧But2 w.heap.size (w.heap.size+2) W w'
theorem Na (sl :Value) (kind :Int) (name table col :Wd) (cols rows sets frm out order :Value) (down :Bool) (m :Int) (L :List Wd) (w W :World) (he :Env w) (hl :L.length≤1600) (hL :Ak w sl L) (hw :Whole L) (hS :S3 w W sl (sA kind name table col cols rows sets frm out 0 0 0 noW noW noW 0 (.slice none 0 0) order down m)) :
  Calls Tryz.prog 30 #[.pointer (some ⟨w.heap.size,0,none⟩), .pointer (some ⟨w.heap.size+2,0,none⟩)] W (Z0 L kind name table col cols rows sets frm out order down m w W) :=by
 cases hc :B1 [Db] 0 0 L with
 | none=>
  obtain ⟨ao,n,cap,rfl,hn⟩ :=Ax hL
  refine (Yb _ _ L w W hl hL hS hc).mono ?_
  rintro e w' ⟨rfl,hb⟩
  exact ⟨true,E.nil,L,0,0,0,noW,noW,noW,0,none,0,0,ao,n,cap,rfl,hS.next hb,hL,Dy _ _,by rw [Ek,hc];rfl,⟨Nat.le_refl _,hw⟩, .of_below hb⟩
 | some r=>
  obtain ⟨i,j⟩ :=r
  refine (Yc (Dn (L.drop (i+1))) sl kind name table col cols rows sets frm out order down m L w W hl hL hS i j hc (fun V v h1 h2=>Gy v _ V (by simp;omega) (by simp;omega) (he.next h1) h2 (hw.drop _))).mono ?_
  rintro e w' ⟨ok,x,op,xk,xn,xs,s,nmv,n8,ao,kk,c,ao',n',c',rfl,h1,h2,h3,h4,h5⟩
  refine ⟨ok,x,L.take i,op,xk,xn,xs,s,nmv,n8,ao,kk,c,ao',n',c',rfl,h1,h2,h3, ?_,⟨by simp;omega,hw.take _⟩,h5⟩
  rw [Ek,hc]
  simp only [h4]
  cases ok<;>rfl
theorem Pk {L L1 :List Wd} {ok :Bool} {x :E} (h :Ek L=if ok=true then some (L1,x) else none) (hb : ∀t,L1= [t] →nm t=false) :Id L=none :=by
 rw [Id,h]
 cases ok
 ·rfl
 ·simp only [if_true,Option.bind_some]
  match L1,hb with
  | [],_=>rfl
  | [t],hb=>simp [hb t rfl]
  | _ ::_ ::_,_=>rfl
theorem Vz {L :List Wd} {t :Wd} {ok :Bool} {x :E} (h :Ek L=if ok=true then some ([t],x) else none) (hn :nm t=true) :Id L=if ok=true then some {Bg 5 with table :=t,wher :=x} else none :=by
 rw [Id,h]
 cases ok
 ·rfl
 ·simp [hn]
end Go.Proofs.YtifjaegfpdjikaaGreatDoor

namespace Go.Proofs.YtifjaegfpdjikaaGreatDoor
open Go.RowKit
theorem Q9 {R :Option Stm} {ok :Bool} {st :Stm} {F :Nat→Prop} {w :World} {cs :List Value} (h :R=if ok=true then some st else none) (hs :Fq.R F w st cs) :if ok=true then∃st,R=some st∧Fq.R F w st cs else R=none :=by
 cases ok
 ·exact h
 ·exact ⟨st,h,hs⟩
set_option maxRecDepth 100000 in
set_option maxHeartbeats 4000000 in
theorem O4 (sl :Value) (L :List Wd) (M :List Wd) (hM :M.length≤1600) (hwM :Whole M) (w :World) (he :Env w) (hL :Ak w sl L) (hw :Whole L) (hk0 :L.take 2≠ [Au,A5]) (hk1 :L.take 2≠ [Au,B7]) (hk2 :L.take 2≠ [Cg,A5]) (hk3 :L.take 2≠ [Bv,E6]) (hk4 :L.take 2= [Cb,Az]) (hrest :L.drop 2=M) :
  Calls Tryz.prog 13 #[sl] w (Cv (Id M) w) :=by
 have H0 :=Bz Ch he hL hw hk0 (Ai 0)
 have H1 :=Bz Dh he hL hw hk1 (Ai 0)
 have H2 :=Bz Gi he hL hw hk2 (Ai 0)
 have H3 :=Bz Hg he hL hw hk3 (Ai 0)
 have H4 :=D4 Ke he hL hw hk4 (Ai 0)
 rw [show (L.drop [Cb,Az].length) =M from hrest] at H4
 clear hk0 hk1 hk2 hk3 hk4 hrest hw
 generalize hRd :Id M=R
 have HRD :Hid _ :=hRd
 clear hRd
 have s1 :=Dj w sl
 have s0 :=Di w sl
 obtain ⟨a0,n0,cap0,rfl,hn0⟩ :=Ax hL
 clear hL hn0
 generalize hW0 : ((((w.alloc (.cells #[.slice a0 n0 cap0] 32)).alloc (.cells Ah 39)).alloc (.cells Ah 39)).setRow (w.heap.size+2) (Ai 0)) =W0 at s0
 have HW0 :Hid _ :=hW0
 clear hW0
 go_enter Tryz.func13,Tryz.ntmps13
 go_upto_region 2 with (refine wpList_store_row rfl 39 _ _ rfl (w.heap.size+2) (Ai 0) rfl rfl 39 Ah s1 Af rfl Fc ?_)
 rw [HW0.out,show w.heap.size+1+1=w.heap.size+2 from rfl]
 have hS :=s0
 clear s0 s1 HW0
 go_upto_region 53 with (first
   | (go_at_call 27;go_fit (H0 _ hS);clear hS;rintro e W ⟨rfl,hS⟩)
   | (go_at_call 27;go_fit (H1 _ hS);clear hS;rintro e W ⟨rfl,hS⟩)
   | (go_at_call 27;go_fit (H2 _ hS);clear hS;rintro e W ⟨rfl,hS⟩)
   | (go_at_call 27;go_fit (H3 _ hS);clear hS;rintro e W ⟨rfl,hS⟩)
   | (go_at_call 27;go_fit (H4 _ hS);clear hS;rintro e W ⟨rfl,ao,n,c,hS,hl⟩;have c0 :W.cell? ⟨w.heap.size,0,none⟩ =some (.slice ao n c) :=Aa hS.l rfl))
 have s0 :W.cell? ⟨w.heap.size+2,0,none⟩ =some (.int .i64 0) :=Aa hS.s rfl
 have f0 :=Ab hS.s 0
 have hS0 :=hS.set 0 (.int .i64 5)
 simp only [List.setIfInBounds_toArray,List.set_cons_zero] at hS0
 have WH :=Na (.slice ao n c) 5 noW noW noW (.slice none 0 0) (.slice none 0 0) (.slice none 0 0) (.slice none 0 0) (.slice none 0 0) (.slice none 0 0) false (-1) M w _ he hM hl hwM hS0
 clear hl hwM hM
 go_upto_region 55 with (go_at_call 30;go_must (go_fit WH;rintro e W1 ⟨ok,x,L1,op,xk,xn,xs,s,nmv,n8,ao2,kk,c2,ao1,n1,c1,rfl,hS1,hl1,hE,hwr,⟨hle,hw1⟩,hB⟩;have c0 :W1.cell? ⟨w.heap.size,0,none⟩ =some (.slice ao1 n1 c1) :=Aa hS1.l rfl))
 have hE1 :IsE (Fr (w.heap.size+3)) W1 x (.agg (A2 op ⟨xk,xn,xs⟩ s nmv n8 (.slice ao2 kk c2))) :=IsE.mono (fun k _ hk=>Nat.le_trans hS0.size hk) _ _ hE
 clear WH s0 f0 hS0 hS hE hB
 by_cases h1 :L1.length=1
 ·match L1,h1,hl1,hwr,hw1 with
  | [t],_,hl1,hwr,_=>
   obtain ⟨b,off,cap,hsl,hcap,hcell⟩ :=A0 (hl1.below hS1.b) (by simp)
   cases hsl
   have x0 :W1.cell? ⟨b,off,none⟩ =some (.string t) :=hcell 0 _ rfl
   obtain ⟨hblw,hq1,hq2,hcw⟩ :=A7 hl1 (by simp)
   have KS :Hid (∀V,Below w.heap.size w V→V.cell? ⟨b,off,none⟩ =some (.string t)) :=fun V h=> (h.cell (p := ⟨b,off,none⟩) hblw).trans (hcw 0 _ rfl)
   clear hcell hcw hq1 hq2 hcap hl1 hblw
   by_cases hn :nm t=true
   ·have NM :=Da he hn W1 hS1.b
    have HG :Hid _ :=HRD.out.symm.trans (Vz hwr hn)
    clear hwr HRD
    go_upto_region 57 with (go_at_call 7;go_must (go_fit NM;rintro e W2 ⟨rfl,hb2⟩;have hS2 :=hS1.next hb2;have k0 :=KS.out W2 hS2.b;have c3 :W2.cell? ⟨w.heap.size,0,none⟩ =some (.slice (some ⟨b,off,none⟩) 1 c1) :=Aa hS2.l rfl;have s2 :W2.cell? ⟨w.heap.size+2,2,none⟩ =some (.string noW) :=Aa hS2.s rfl;have f2 :=Ab hS2.s 2))
    have hS3 :=hS2.set 2 (.string t)
    simp only [List.setIfInBounds_toArray,List.set_cons_zero,List.set_cons_succ] at hS3
    have hE2 :IsE (Fr (w.heap.size+3)) (W2.setCell ⟨w.heap.size+2,2,none⟩ (.string t)) x (.agg (A2 op ⟨xk,xn,xs⟩ s nmv n8 (.slice ao2 kk c2))) :=IsE.keep ((Bb hb2).set (show ¬w.heap.size+3≤w.heap.size+2 by omega) _ _) _ _ hE1
    clear NM KS hE1 hS1 c0 x0
    have hone : (sA 5 noW t noW (.slice none 0 0) (.slice none 0 0) (.slice none 0 0) (.slice none 0 0) (.slice none 0 0) op xk xn xs s nmv n8 (.slice ao2 kk c2) (.slice none 0 0) false (-1)).all (·.oneCell') =true :=Bc (sl7 _ _ _ _ _ _ _ _ _ _ _ _ _ _ _ _ _ _ _ _ _)
    go_wp2_with (first
     | refine wpList_load_row rfl 39 _ rfl (w.heap.size+2) rfl 39 _ _ _ hS3.s Tryz.underlying39 rfl Af ?_
     | refine wpList_store_row rfl 39 _ _ rfl (w.heap.size+1) _ rfl rfl 39 Ah hS3.r Af rfl hone ?_)
    exact bodyPost_ret (v := .tuple #[.agg (sA 5 noW t noW (.slice none 0 0) (.slice none 0 0) (.slice none 0 0) (.slice none 0 0) (.slice none 0 0) op xk xn xs s nmv n8 (.slice ao2 kk c2) (.slice none 0 0) false (-1)), .bool ok]) (Ay Tryz.results13 _ _ (w.heap.size+1) 39 _ _ _ _ rfl rfl (Am hS3.r) Tryz.underlying39 rfl Af) rfl (A4 (ok :=ok) hS3 (sl7 _ _ _ _ _ _ _ _ _ _ _ _ _ _ _ _ _ _ _ _ _) (Q9 HG.out (D8 (IsL.nil _ _ _) (IsL.nil _ _ _) (IsL.nil _ _ _) (IsL.nil _ _ _) (IsL.nil _ _ _) hE2 (IsL.nil _ _ _))))
   ·have NM :=Da he (Bool.eq_false_iff.2 hn) W1 hS1.b
    have HG :Hid (R=none) :=HRD.out.symm.trans (Pk hwr (fun t' e=>by cases e;exact Bool.eq_false_iff.2 hn))
    clear hwr HRD
    go_upto_region 56 with (go_at_call 7;go_must (go_fit NM;rintro e W2 ⟨rfl,hb2⟩;have hS2 :=hS1.next hb2))
    have hone : (sA 5 noW noW noW (.slice none 0 0) (.slice none 0 0) (.slice none 0 0) (.slice none 0 0) (.slice none 0 0) op xk xn xs s nmv n8 (.slice ao2 kk c2) (.slice none 0 0) false (-1)).all (·.oneCell') =true :=Bc (sl7 _ _ _ _ _ _ _ _ _ _ _ _ _ _ _ _ _ _ _ _ _)
    go_wp2_with (first
     | refine wpList_load_row rfl 39 _ rfl (w.heap.size+2) rfl 39 _ _ _ hS2.s Tryz.underlying39 rfl Af ?_
     | refine wpList_store_row rfl 39 _ _ rfl (w.heap.size+1) _ rfl rfl 39 Ah hS2.r Af rfl hone ?_)
    exact bodyPost_ret (v := .tuple #[.agg (sA 5 noW noW noW (.slice none 0 0) (.slice none 0 0) (.slice none 0 0) (.slice none 0 0) (.slice none 0 0) op xk xn xs s nmv n8 (.slice ao2 kk c2) (.slice none 0 0) false (-1)), .bool false]) (Ay Tryz.results13 _ _ (w.heap.size+1) 39 _ _ _ _ rfl rfl (Am hS2.r) Tryz.underlying39 rfl Af) rfl (A4 (ok :=false) hS2 (sl7 _ _ _ _ _ _ _ _ _ _ _ _ _ _ _ _ _ _ _ _ _) HG.out)
 ·have HG :Hid (R=none) :=HRD.out.symm.trans (Pk hwr (fun t' e=>absurd (by rw [e];rfl) h1))
  obtain ⟨ao3,n3,c3,hsl,hn1⟩ :=Ax hl1
  cases hsl
  have q0 : ((n1 :Int) ==1) =false :=beq_eq_false_iff_ne.2 (by omega)
  have q1 : ((n1 :Int) !=1) =true :=by rw [bne,q0];rfl
  have q2 : ¬ (n1 :Int) =1 :=by omega
  clear hn1 hl1 hwr HRD hw1 hle
  have hone : (sA 5 noW noW noW (.slice none 0 0) (.slice none 0 0) (.slice none 0 0) (.slice none 0 0) (.slice none 0 0) op xk xn xs s nmv n8 (.slice ao2 kk c2) (.slice none 0 0) false (-1)).all (·.oneCell') =true :=Bc (sl7 _ _ _ _ _ _ _ _ _ _ _ _ _ _ _ _ _ _ _ _ _)
  go_wp2_with (first
   | refine wpList_load_row rfl 39 _ rfl (w.heap.size+2) rfl 39 _ _ _ hS1.s Tryz.underlying39 rfl Af ?_
   | refine wpList_store_row rfl 39 _ _ rfl (w.heap.size+1) _ rfl rfl 39 Ah hS1.r Af rfl hone ?_)
  exact bodyPost_ret (v := .tuple #[.agg (sA 5 noW noW noW (.slice none 0 0) (.slice none 0 0) (.slice none 0 0) (.slice none 0 0) (.slice none 0 0) op xk xn xs s nmv n8 (.slice ao2 kk c2) (.slice none 0 0) false (-1)), .bool false]) (Ay Tryz.results13 _ _ (w.heap.size+1) 39 _ _ _ _ rfl rfl (Am hS1.r) Tryz.underlying39 rfl Af) rfl (A4 (ok :=false) hS1 (sl7 _ _ _ _ _ _ _ _ _ _ _ _ _ _ _ _ _ _ _ _ _) HG.out)
end Go.Proofs.YtifjaegfpdjikaaGreatDoor


/-
  2 texts of this proof in one, in build order: QWhere3, QWhere4.
-/
import Derived.Test.YthehiijgnepcfaaGreatJ13
set_option linter.unusedSimpArgs false
set_option linter.unusedVariables false
namespace Go.Proofs.YthehiijgnepcfaaGreat
open Go.RowKit
theorem Aeg (w :World) (o1 o2 o3 o4 :Obj) :Below w.heap.size w ((((w.alloc o1).alloc o2).alloc o3).alloc o4) := (Cb w o1 o2 o3).alloc (by simp;omega) _
theorem Wj (w :World) (o1 o2 o3 o4 :Obj) : ((((w.alloc o1).alloc o2).alloc o3).alloc o4).heap[w.heap.size+3]? =some o4 :=by
 have h :=Ab (((w.alloc o1).alloc o2).alloc o3) o4
 rwa [show (((w.alloc o1).alloc o2).alloc o3).heap.size=w.heap.size+3 by simp] at h
theorem Jx (w :World) (o1 o2 o3 o4 :Obj) : ((((w.alloc o1).alloc o2).alloc o3).alloc o4).heap[w.heap.size]? =some o1∧ ((((w.alloc o1).alloc o2).alloc o3).alloc o4).heap[w.heap.size+1]? =some o2∧ ((((w.alloc o1).alloc o2).alloc o3).alloc o4).heap[w.heap.size+2]? =some o3∧ ((((w.alloc o1).alloc o2).alloc o3).alloc o4).heap[w.heap.size+3]? =some o4∧Below w.heap.size w ((((w.alloc o1).alloc o2).alloc o3).alloc o4) :=
 ⟨Ac (Ac (Ac (Ab _ _) _) _) _,Ac (Ac (Aq _ _ _) _) _,Ac (A6 _ _ _ _) _,Wj _ _ _ _ _,Aeg _ _ _ _ _⟩
theorem Ba {W V :World} {g :Nat} {t0 t1 t2 t3 :TypeId} {a0 a1 p0 p1 p2 p3 p4 p5 p6 p7 q0 q1 q2 q3 q4 q5 q6 q7 z0 z1 :Value} (B0 :W.heap[g]? =some (.cells #[a0,a1] t0)) (B1 :W.heap[g+1]? =some (.cells #[p0,p1,p2,p3,p4,p5,p6,p7] t1)) (B2 :W.heap[g+2]? =some (.cells #[q0,q1,q2,q3,q4,q5,q6,q7] t2)) (B3 :W.heap[g+3]? =some (.cells #[z0,z1] t3)) (zz :Below W.heap.size W V) :
  V.heap[g+3]? =some (.cells #[z0,z1] t3) ∧V.cell? ⟨g+3,0,none⟩ =some z0∧V.cell? ⟨g+3,1,none⟩ =some z1∧V.frozen? ⟨g+3,0,none⟩ =false∧V.frozen? ⟨g+3,1,none⟩ =false∧V.cell? ⟨g,0,none⟩ =some a0∧V.cell? ⟨g,1,none⟩ =some a1∧V.cell? ⟨g+1,0,none⟩ =some p0∧V.cell? ⟨g+1,1,none⟩ =some p1∧V.cell? ⟨g+1,2,none⟩ =some p2∧V.cell? ⟨g+1,3,none⟩ =some p3∧V.cell? ⟨g+1,4,none⟩ =some p4∧V.cell? ⟨g+1,5,none⟩ =some p5∧V.cell? ⟨g+1,6,none⟩ =some p6∧V.cell? ⟨g+1,7,none⟩ =some p7∧V.cell? ⟨g+2,0,none⟩ =some q0∧V.cell? ⟨g+2,1,none⟩ =some q1∧V.cell? ⟨g+2,2,none⟩ =some q2∧V.cell? ⟨g+2,3,none⟩ =some q3∧V.cell? ⟨g+2,4,none⟩ =some q4∧V.cell? ⟨g+2,5,none⟩ =some q5∧V.cell? ⟨g+2,6,none⟩ =some q6∧V.cell? ⟨g+2,7,none⟩ =some q7 :=by
 obtain ⟨r0,r1,r2,r3,r4⟩ :=Am B3 zz
 have D0 := (zz.block _ (lt_of_block B0)).trans B0
 have D1 := (zz.block _ (lt_of_block B1)).trans B1
 have D2 := (zz.block _ (lt_of_block B2)).trans B2
 exact ⟨r0,r1,r2,r3,r4,Aa D0 (j :=0) rfl,Aa D0 (j :=1) rfl,Aa D1 (j :=0) rfl,Aa D1 (j :=1) rfl,Aa D1 (j :=2) rfl,Aa D1 (j :=3) rfl,Aa D1 (j :=4) rfl,Aa D1 (j :=5) rfl,Aa D1 (j :=6) rfl,Aa D1 (j :=7) rfl,Aa D2 (j :=0) rfl,Aa D2 (j :=1) rfl,Aa D2 (j :=2) rfl,Aa D2 (j :=3) rfl,Aa D2 (j :=4) rfl,Aa D2 (j :=5) rfl,Aa D2 (j :=6) rfl,Aa D2 (j :=7) rfl⟩
def Wk (op :Int) (v :V) (n :Int) :Prop := (op=1→good v=true) ∧v.s.size≤maxLen∧ (op=2→n≤9223372036854775807)
set_option maxRecDepth 100000 in
set_option maxHeartbeats 8000000 in
theorem Ahp (at' col :Int) (op :Int) (pop pk pn :Int) (px ps pm :Wd) (pi :Int) (pa :Option Addr) (pl pc :Nat) (qop qk qn :Int) (qx qs qm :Wd) (qi :Int) (qa :Option Addr) (ql qc :Nat) (yes :Bool) (w :World) (HNa : ∀W,Calls Tryz.prog 116 #[.agg #[.int .i64 pop, .int .i64 pk, .int .i64 pn, .string px, .string ps, .string pm, .int .i64 pi, .slice pa pl pc]] W fun e w'=>e= .returned (.bool true) ∧Below W.heap.size W w') :
  Calls Tryz.prog 70 #[.agg #[.int .i64 at', .int .i64 col], .int .i64 op, .agg #[.int .i64 pop, .int .i64 pk, .int .i64 pn, .string px, .string ps, .string pm, .int .i64 pi, .slice pa pl pc], .agg #[.int .i64 qop, .int .i64 qk, .int .i64 qn, .string qx, .string qs, .string qm, .int .i64 qi, .slice qa ql qc], .bool yes] w fun e w'=>e= .returned (.agg #[.string noW, .string noW]) ∧Below w.heap.size w w' :=by
 obtain ⟨B0,B1,B2,B3,hbW⟩ :=Jx w (.cells #[.int .i64 at', .int .i64 col] 83) (.cells #[.int .i64 pop, .int .i64 pk, .int .i64 pn, .string px, .string ps, .string pm, .int .i64 pi, .slice pa pl pc] 34) (.cells #[.int .i64 qop, .int .i64 qk, .int .i64 qn, .string qx, .string qs, .string qm, .int .i64 qi, .slice qa ql qc] 34) (.cells #[.string noW, .string noW] 81)
 generalize hW : (((w.alloc (.cells #[.int .i64 at', .int .i64 col] 83)).alloc (.cells #[.int .i64 pop, .int .i64 pk, .int .i64 pn, .string px, .string ps, .string pm, .int .i64 pi, .slice pa pl pc] 34)).alloc (.cells #[.int .i64 qop, .int .i64 qk, .int .i64 qn, .string qx, .string qs, .string qm, .int .i64 qi, .slice qa ql qc] 34)).alloc (.cells #[.string noW, .string noW] 81) =W at B0 B1 B2 B3 hbW
 have HW :Hid _ :=hW
 clear hW
 have zz :=Below.refl W.heap.size W
 obtain ⟨r0,r1,r2,r3,r4,c0,c1,e0,e1,e2,e3,e4,e5,e6,e7,g0,g1,g2,g3,g4,g5,g6,g7⟩ :=Ba B0 B1 B2 B3 zz
 skip
 go_enter Tryz.func70,Tryz.ntmps70
 go_upto_region 1 with fail
 rw [HW.out]
 go_wp2_with (first
    | (go_at_call_of 116 (Value.agg #[.int .i64 pop, .int .i64 pk, .int .i64 pn, .string px, .string ps, .string pm, .int .i64 pi, .slice pa pl pc]);go_must (go_fit (HNa _);rintro e w1 ⟨rfl,hb1⟩;have zz :=Ad zz hb1;obtain ⟨r0,r1,r2,r3,r4,c0,c1,e0,e1,e2,e3,e4,e5,e6,e7,g0,g1,g2,g3,g4,g5,g6,g7⟩ :=Ba B0 B1 B2 B3 zz)))
 exact A7 _ _ Tryz.results70 rfl rfl r0 (Ad hbW zz) (by omega) Tryz.underlying81 (by kernel_rfl)
set_option maxRecDepth 100000 in
set_option maxHeartbeats 8000000 in
theorem Ahq (at' col :Int) (op :Int) (pop pk pn :Int) (px ps pm :Wd) (pi :Int) (pa :Option Addr) (pl pc :Nat) (qop qk qn :Int) (qx qs qm :Wd) (qi :Int) (qa :Option Addr) (ql qc :Nat) (yes :Bool) (w :World) (HNa : ∀W,Calls Tryz.prog 116 #[.agg #[.int .i64 pop, .int .i64 pk, .int .i64 pn, .string px, .string ps, .string pm, .int .i64 pi, .slice pa pl pc]] W fun e w'=>e= .returned (.bool false) ∧Below W.heap.size W w') (HNb : ∀W,Calls Tryz.prog 116 #[.agg #[.int .i64 qop, .int .i64 qk, .int .i64 qn, .string qx, .string qs, .string qm, .int .i64 qi, .slice qa ql qc]] W fun e w'=>e= .returned (.bool true) ∧Below W.heap.size W w') :
  Calls Tryz.prog 70 #[.agg #[.int .i64 at', .int .i64 col], .int .i64 op, .agg #[.int .i64 pop, .int .i64 pk, .int .i64 pn, .string px, .string ps, .string pm, .int .i64 pi, .slice pa pl pc], .agg #[.int .i64 qop, .int .i64 qk, .int .i64 qn, .string qx, .string qs, .string qm, .int .i64 qi, .slice qa ql qc], .bool yes] w fun e w'=>e= .returned (.agg #[.string noW, .string noW]) ∧Below w.heap.size w w' :=by
 obtain ⟨B0,B1,B2,B3,hbW⟩ :=Jx w (.cells #[.int .i64 at', .int .i64 col] 83) (.cells #[.int .i64 pop, .int .i64 pk, .int .i64 pn, .string px, .string ps, .string pm, .int .i64 pi, .slice pa pl pc] 34) (.cells #[.int .i64 qop, .int .i64 qk, .int .i64 qn, .string qx, .string qs, .string qm, .int .i64 qi, .slice qa ql qc] 34) (.cells #[.string noW, .string noW] 81)
 generalize hW : (((w.alloc (.cells #[.int .i64 at', .int .i64 col] 83)).alloc (.cells #[.int .i64 pop, .int .i64 pk, .int .i64 pn, .string px, .string ps, .string pm, .int .i64 pi, .slice pa pl pc] 34)).alloc (.cells #[.int .i64 qop, .int .i64 qk, .int .i64 qn, .string qx, .string qs, .string qm, .int .i64 qi, .slice qa ql qc] 34)).alloc (.cells #[.string noW, .string noW] 81) =W at B0 B1 B2 B3 hbW
 have HW :Hid _ :=hW
 clear hW
 have zz :=Below.refl W.heap.size W
 obtain ⟨r0,r1,r2,r3,r4,c0,c1,e0,e1,e2,e3,e4,e5,e6,e7,g0,g1,g2,g3,g4,g5,g6,g7⟩ :=Ba B0 B1 B2 B3 zz
 skip
 go_enter Tryz.func70,Tryz.ntmps70
 go_upto_region 1 with fail
 rw [HW.out]
 go_wp2_with (first
    | (go_at_call_of 116 (Value.agg #[.int .i64 pop, .int .i64 pk, .int .i64 pn, .string px, .string ps, .string pm, .int .i64 pi, .slice pa pl pc]);go_must (go_fit (HNa _);rintro e w1 ⟨rfl,hb1⟩;have zz :=Ad zz hb1;obtain ⟨r0,r1,r2,r3,r4,c0,c1,e0,e1,e2,e3,e4,e5,e6,e7,g0,g1,g2,g3,g4,g5,g6,g7⟩ :=Ba B0 B1 B2 B3 zz))
    | (go_at_call_of 116 (Value.agg #[.int .i64 qop, .int .i64 qk, .int .i64 qn, .string qx, .string qs, .string qm, .int .i64 qi, .slice qa ql qc]);go_must (go_fit (HNb _);rintro e w2 ⟨rfl,hb2⟩;have zz :=Ad zz hb2;obtain ⟨r0,r1,r2,r3,r4,c0,c1,e0,e1,e2,e3,e4,e5,e6,e7,g0,g1,g2,g3,g4,g5,g6,g7⟩ :=Ba B0 B1 B2 B3 zz)))
 exact A7 _ _ Tryz.results70 rfl rfl r0 (Ad hbW zz) (by omega) Tryz.underlying81 (by kernel_rfl)
set_option maxRecDepth 100000 in
set_option maxHeartbeats 8000000 in
theorem Ahr (at' col :Int) (pop pk pn :Int) (px ps pm :Wd) (pi :Int) (pa :Option Addr) (pl pc :Nat) (qk qn :Int) (qx qs qm :Wd) (qi :Int) (qa :Option Addr) (ql qc :Nat) (yes :Bool) (lo hi :Wd) (w :World) (HNa : ∀W,Calls Tryz.prog 116 #[.agg #[.int .i64 pop, .int .i64 pk, .int .i64 pn, .string px, .string ps, .string pm, .int .i64 pi, .slice pa pl pc]] W fun e w'=>e= .returned (.bool false) ∧Below W.heap.size W w') (HNb : ∀W,Calls Tryz.prog 116 #[.agg #[.int .i64 1, .int .i64 qk, .int .i64 qn, .string qx, .string qs, .string qm, .int .i64 qi, .slice qa ql qc]] W fun e w'=>e= .returned (.bool false) ∧Below W.heap.size W w') (HIa : ∀W,Calls Tryz.prog 115 #[.agg #[.int .i64 at', .int .i64 col], .agg #[.int .i64 pop, .int .i64 pk, .int .i64 pn, .string px, .string ps, .string pm, .int .i64 pi, .slice pa pl pc]] W fun e w'=>e= .returned (.bool true) ∧Below W.heap.size W w') (HL : ∀W,Calls Tryz.prog 117 #[.agg #[.int .i64 qk, .int .i64 qn, .string qx], .bool yes] W fun e w'=>e= .returned (.agg #[.string lo, .string hi]) ∧Below W.heap.size W w') :
  Calls Tryz.prog 70 #[.agg #[.int .i64 at', .int .i64 col], .int .i64 5, .agg #[.int .i64 pop, .int .i64 pk, .int .i64 pn, .string px, .string ps, .string pm, .int .i64 pi, .slice pa pl pc], .agg #[.int .i64 1, .int .i64 qk, .int .i64 qn, .string qx, .string qs, .string qm, .int .i64 qi, .slice qa ql qc], .bool yes] w fun e w'=>e= .returned (.agg #[.string lo, .string hi]) ∧Below w.heap.size w w' :=by
 obtain ⟨B0,B1,B2,B3,hbW⟩ :=Jx w (.cells #[.int .i64 at', .int .i64 col] 83) (.cells #[.int .i64 pop, .int .i64 pk, .int .i64 pn, .string px, .string ps, .string pm, .int .i64 pi, .slice pa pl pc] 34) (.cells #[.int .i64 1, .int .i64 qk, .int .i64 qn, .string qx, .string qs, .string qm, .int .i64 qi, .slice qa ql qc] 34) (.cells #[.string noW, .string noW] 81)
 generalize hW : (((w.alloc (.cells #[.int .i64 at', .int .i64 col] 83)).alloc (.cells #[.int .i64 pop, .int .i64 pk, .int .i64 pn, .string px, .string ps, .string pm, .int .i64 pi, .slice pa pl pc] 34)).alloc (.cells #[.int .i64 1, .int .i64 qk, .int .i64 qn, .string qx, .string qs, .string qm, .int .i64 qi, .slice qa ql qc] 34)).alloc (.cells #[.string noW, .string noW] 81) =W at B0 B1 B2 B3 hbW
 have HW :Hid _ :=hW
 clear hW
 have zz :=Below.refl W.heap.size W
 obtain ⟨r0,r1,r2,r3,r4,c0,c1,e0,e1,e2,e3,e4,e5,e6,e7,g0,g1,g2,g3,g4,g5,g6,g7⟩ :=Ba B0 B1 B2 B3 zz
 skip
 go_enter Tryz.func70,Tryz.ntmps70
 go_upto_region 1 with fail
 rw [HW.out]
 go_wp2_with (first
    | (go_at_call_of 116 (Value.agg #[.int .i64 pop, .int .i64 pk, .int .i64 pn, .string px, .string ps, .string pm, .int .i64 pi, .slice pa pl pc]);go_must (go_fit (HNa _);rintro e w1 ⟨rfl,hb1⟩;have zz :=Ad zz hb1;obtain ⟨r0,r1,r2,r3,r4,c0,c1,e0,e1,e2,e3,e4,e5,e6,e7,g0,g1,g2,g3,g4,g5,g6,g7⟩ :=Ba B0 B1 B2 B3 zz))
    | (go_at_call_of 116 (Value.agg #[.int .i64 1, .int .i64 qk, .int .i64 qn, .string qx, .string qs, .string qm, .int .i64 qi, .slice qa ql qc]);go_must (go_fit (HNb _);rintro e w2 ⟨rfl,hb2⟩;have zz :=Ad zz hb2;obtain ⟨r0,r1,r2,r3,r4,c0,c1,e0,e1,e2,e3,e4,e5,e6,e7,g0,g1,g2,g3,g4,g5,g6,g7⟩ :=Ba B0 B1 B2 B3 zz))
    | (go_at_call_of 115 (Value.agg #[.int .i64 pop, .int .i64 pk, .int .i64 pn, .string px, .string ps, .string pm, .int .i64 pi, .slice pa pl pc]);go_must (go_fit (HIa _);rintro e w3 ⟨rfl,hb3⟩;have zz :=Ad zz hb3;obtain ⟨r0,r1,r2,r3,r4,c0,c1,e0,e1,e2,e3,e4,e5,e6,e7,g0,g1,g2,g3,g4,g5,g6,g7⟩ :=Ba B0 B1 B2 B3 zz))
    | (go_at_call 117;go_must (go_fit (HL _);rintro e w5 ⟨rfl,hb5⟩;have zz :=Ad zz hb5;obtain ⟨r0,r1,r2,r3,r4,c0,c1,e0,e1,e2,e3,e4,e5,e6,e7,g0,g1,g2,g3,g4,g5,g6,g7⟩ :=Ba B0 B1 B2 B3 zz)))
 exact A7 _ _ Tryz.results70 rfl rfl r0 (Ad hbW zz) (by omega) Tryz.underlying81 (by kernel_rfl)
set_option maxRecDepth 100000 in
set_option maxHeartbeats 8000000 in
theorem Ahs (at' col :Int) (pk pn :Int) (px ps pm :Wd) (pi :Int) (pa :Option Addr) (pl pc :Nat) (qop qk qn :Int) (qx qs qm :Wd) (qi :Int) (qa :Option Addr) (ql qc :Nat) (yes :Bool) (lo hi :Wd) (w :World) (HNa : ∀W,Calls Tryz.prog 116 #[.agg #[.int .i64 2, .int .i64 pk, .int .i64 pn, .string px, .string ps, .string pm, .int .i64 pi, .slice pa pl pc]] W fun e w'=>e= .returned (.bool false) ∧Below W.heap.size W w') (HNb : ∀W,Calls Tryz.prog 116 #[.agg #[.int .i64 qop, .int .i64 qk, .int .i64 qn, .string qx, .string qs, .string qm, .int .i64 qi, .slice qa ql qc]] W fun e w'=>e= .returned (.bool false) ∧Below W.heap.size W w') (HIa : ∀W,Calls Tryz.prog 115 #[.agg #[.int .i64 at', .int .i64 col], .agg #[.int .i64 2, .int .i64 pk, .int .i64 pn, .string px, .string ps, .string pm, .int .i64 pi, .slice pa pl pc]] W fun e w'=>e= .returned (.bool true) ∧Below W.heap.size W w') (h2 : ¬qop=1) (H0 : ∀W,Calls Tryz.prog 54 #[.string ⟨#[]⟩] W fun e w'=>e= .returned (.agg #[.string lo, .string hi]) ∧Below W.heap.size W w') :
  Calls Tryz.prog 70 #[.agg #[.int .i64 at', .int .i64 col], .int .i64 5, .agg #[.int .i64 2, .int .i64 pk, .int .i64 pn, .string px, .string ps, .string pm, .int .i64 pi, .slice pa pl pc], .agg #[.int .i64 qop, .int .i64 qk, .int .i64 qn, .string qx, .string qs, .string qm, .int .i64 qi, .slice qa ql qc], .bool yes] w fun e w'=>e= .returned (.agg #[.string lo, .string hi]) ∧Below w.heap.size w w' :=by
 obtain ⟨B0,B1,B2,B3,hbW⟩ :=Jx w (.cells #[.int .i64 at', .int .i64 col] 83) (.cells #[.int .i64 2, .int .i64 pk, .int .i64 pn, .string px, .string ps, .string pm, .int .i64 pi, .slice pa pl pc] 34) (.cells #[.int .i64 qop, .int .i64 qk, .int .i64 qn, .string qx, .string qs, .string qm, .int .i64 qi, .slice qa ql qc] 34) (.cells #[.string noW, .string noW] 81)
 generalize hW : (((w.alloc (.cells #[.int .i64 at', .int .i64 col] 83)).alloc (.cells #[.int .i64 2, .int .i64 pk, .int .i64 pn, .string px, .string ps, .string pm, .int .i64 pi, .slice pa pl pc] 34)).alloc (.cells #[.int .i64 qop, .int .i64 qk, .int .i64 qn, .string qx, .string qs, .string qm, .int .i64 qi, .slice qa ql qc] 34)).alloc (.cells #[.string noW, .string noW] 81) =W at B0 B1 B2 B3 hbW
 have HW :Hid _ :=hW
 clear hW
 have zz :=Below.refl W.heap.size W
 obtain ⟨r0,r1,r2,r3,r4,c0,c1,e0,e1,e2,e3,e4,e5,e6,e7,g0,g1,g2,g3,g4,g5,g6,g7⟩ :=Ba B0 B1 B2 B3 zz
 skip
 go_enter Tryz.func70,Tryz.ntmps70
 go_upto_region 1 with fail
 rw [HW.out]
 go_wp2_with (first
    | (go_at_call_of 116 (Value.agg #[.int .i64 2, .int .i64 pk, .int .i64 pn, .string px, .string ps, .string pm, .int .i64 pi, .slice pa pl pc]);go_must (go_fit (HNa _);rintro e w1 ⟨rfl,hb1⟩;have zz :=Ad zz hb1;obtain ⟨r0,r1,r2,r3,r4,c0,c1,e0,e1,e2,e3,e4,e5,e6,e7,g0,g1,g2,g3,g4,g5,g6,g7⟩ :=Ba B0 B1 B2 B3 zz))
    | (go_at_call_of 116 (Value.agg #[.int .i64 qop, .int .i64 qk, .int .i64 qn, .string qx, .string qs, .string qm, .int .i64 qi, .slice qa ql qc]);go_must (go_fit (HNb _);rintro e w2 ⟨rfl,hb2⟩;have zz :=Ad zz hb2;obtain ⟨r0,r1,r2,r3,r4,c0,c1,e0,e1,e2,e3,e4,e5,e6,e7,g0,g1,g2,g3,g4,g5,g6,g7⟩ :=Ba B0 B1 B2 B3 zz))
    | (go_at_call_of 115 (Value.agg #[.int .i64 2, .int .i64 pk, .int .i64 pn, .string px, .string ps, .string pm, .int .i64 pi, .slice pa pl pc]);go_must (go_fit (HIa _);rintro e w3 ⟨rfl,hb3⟩;have zz :=Ad zz hb3;obtain ⟨r0,r1,r2,r3,r4,c0,c1,e0,e1,e2,e3,e4,e5,e6,e7,g0,g1,g2,g3,g4,g5,g6,g7⟩ :=Ba B0 B1 B2 B3 zz))
    | (go_at_call 54;go_must (go_fit (H0 _);rintro e w8 ⟨rfl,hb8⟩;have zz :=Ad zz hb8;obtain ⟨r0,r1,r2,r3,r4,c0,c1,e0,e1,e2,e3,e4,e5,e6,e7,g0,g1,g2,g3,g4,g5,g6,g7⟩ :=Ba B0 B1 B2 B3 zz)))
 exact A7 _ _ Tryz.results70 rfl rfl r0 (Ad hbW zz) (by omega) Tryz.underlying81 (by kernel_rfl)
set_option maxRecDepth 100000 in
set_option maxHeartbeats 8000000 in
theorem Aht (at' col :Int) (pop pk pn :Int) (px ps pm :Wd) (pi :Int) (pa :Option Addr) (pl pc :Nat) (qop qk qn :Int) (qx qs qm :Wd) (qi :Int) (qa :Option Addr) (ql qc :Nat) (yes :Bool) (lo hi :Wd) (w :World) (HNa : ∀W,Calls Tryz.prog 116 #[.agg #[.int .i64 pop, .int .i64 pk, .int .i64 pn, .string px, .string ps, .string pm, .int .i64 pi, .slice pa pl pc]] W fun e w'=>e= .returned (.bool false) ∧Below W.heap.size W w') (HNb : ∀W,Calls Tryz.prog 116 #[.agg #[.int .i64 qop, .int .i64 qk, .int .i64 qn, .string qx, .string qs, .string qm, .int .i64 qi, .slice qa ql qc]] W fun e w'=>e= .returned (.bool false) ∧Below W.heap.size W w') (HIa : ∀W,Calls Tryz.prog 115 #[.agg #[.int .i64 at', .int .i64 col], .agg #[.int .i64 pop, .int .i64 pk, .int .i64 pn, .string px, .string ps, .string pm, .int .i64 pi, .slice pa pl pc]] W fun e w'=>e= .returned (.bool false) ∧Below W.heap.size W w') (h1 : ¬pop=1) (H0 : ∀W,Calls Tryz.prog 54 #[.string ⟨#[]⟩] W fun e w'=>e= .returned (.agg #[.string lo, .string hi]) ∧Below W.heap.size W w') :
  Calls Tryz.prog 70 #[.agg #[.int .i64 at', .int .i64 col], .int .i64 5, .agg #[.int .i64 pop, .int .i64 pk, .int .i64 pn, .string px, .string ps, .string pm, .int .i64 pi, .slice pa pl pc], .agg #[.int .i64 qop, .int .i64 qk, .int .i64 qn, .string qx, .string qs, .string qm, .int .i64 qi, .slice qa ql qc], .bool yes] w fun e w'=>e= .returned (.agg #[.string lo, .string hi]) ∧Below w.heap.size w w' :=by
 obtain ⟨B0,B1,B2,B3,hbW⟩ :=Jx w (.cells #[.int .i64 at', .int .i64 col] 83) (.cells #[.int .i64 pop, .int .i64 pk, .int .i64 pn, .string px, .string ps, .string pm, .int .i64 pi, .slice pa pl pc] 34) (.cells #[.int .i64 qop, .int .i64 qk, .int .i64 qn, .string qx, .string qs, .string qm, .int .i64 qi, .slice qa ql qc] 34) (.cells #[.string noW, .string noW] 81)
 generalize hW : (((w.alloc (.cells #[.int .i64 at', .int .i64 col] 83)).alloc (.cells #[.int .i64 pop, .int .i64 pk, .int .i64 pn, .string px, .string ps, .string pm, .int .i64 pi, .slice pa pl pc] 34)).alloc (.cells #[.int .i64 qop, .int .i64 qk, .int .i64 qn, .string qx, .string qs, .string qm, .int .i64 qi, .slice qa ql qc] 34)).alloc (.cells #[.string noW, .string noW] 81) =W at B0 B1 B2 B3 hbW
 have HW :Hid _ :=hW
 clear hW
 have zz :=Below.refl W.heap.size W
 obtain ⟨r0,r1,r2,r3,r4,c0,c1,e0,e1,e2,e3,e4,e5,e6,e7,g0,g1,g2,g3,g4,g5,g6,g7⟩ :=Ba B0 B1 B2 B3 zz
 skip
 go_enter Tryz.func70,Tryz.ntmps70
 go_upto_region 1 with fail
 rw [HW.out]
 go_wp2_with (first
    | (go_at_call_of 116 (Value.agg #[.int .i64 pop, .int .i64 pk, .int .i64 pn, .string px, .string ps, .string pm, .int .i64 pi, .slice pa pl pc]);go_must (go_fit (HNa _);rintro e w1 ⟨rfl,hb1⟩;have zz :=Ad zz hb1;obtain ⟨r0,r1,r2,r3,r4,c0,c1,e0,e1,e2,e3,e4,e5,e6,e7,g0,g1,g2,g3,g4,g5,g6,g7⟩ :=Ba B0 B1 B2 B3 zz))
    | (go_at_call_of 116 (Value.agg #[.int .i64 qop, .int .i64 qk, .int .i64 qn, .string qx, .string qs, .string qm, .int .i64 qi, .slice qa ql qc]);go_must (go_fit (HNb _);rintro e w2 ⟨rfl,hb2⟩;have zz :=Ad zz hb2;obtain ⟨r0,r1,r2,r3,r4,c0,c1,e0,e1,e2,e3,e4,e5,e6,e7,g0,g1,g2,g3,g4,g5,g6,g7⟩ :=Ba B0 B1 B2 B3 zz))
    | (go_at_call_of 115 (Value.agg #[.int .i64 pop, .int .i64 pk, .int .i64 pn, .string px, .string ps, .string pm, .int .i64 pi, .slice pa pl pc]);go_must (go_fit (HIa _);rintro e w3 ⟨rfl,hb3⟩;have zz :=Ad zz hb3;obtain ⟨r0,r1,r2,r3,r4,c0,c1,e0,e1,e2,e3,e4,e5,e6,e7,g0,g1,g2,g3,g4,g5,g6,g7⟩ :=Ba B0 B1 B2 B3 zz))
    | (go_at_call 54;go_must (go_fit (H0 _);rintro e w8 ⟨rfl,hb8⟩;have zz :=Ad zz hb8;obtain ⟨r0,r1,r2,r3,r4,c0,c1,e0,e1,e2,e3,e4,e5,e6,e7,g0,g1,g2,g3,g4,g5,g6,g7⟩ :=Ba B0 B1 B2 B3 zz)))
 exact A7 _ _ Tryz.results70 rfl rfl r0 (Ad hbW zz) (by omega) Tryz.underlying81 (by kernel_rfl)
set_option maxRecDepth 100000 in
set_option maxHeartbeats 8000000 in
theorem Ahu (at' col :Int) (pk pn :Int) (px ps pm :Wd) (pi :Int) (pa :Option Addr) (pl pc :Nat) (qop qk qn :Int) (qx qs qm :Wd) (qi :Int) (qa :Option Addr) (ql qc :Nat) (yes :Bool) (lo hi :Wd) (w :World) (HNa : ∀W,Calls Tryz.prog 116 #[.agg #[.int .i64 1, .int .i64 pk, .int .i64 pn, .string px, .string ps, .string pm, .int .i64 pi, .slice pa pl pc]] W fun e w'=>e= .returned (.bool false) ∧Below W.heap.size W w') (HNb : ∀W,Calls Tryz.prog 116 #[.agg #[.int .i64 qop, .int .i64 qk, .int .i64 qn, .string qx, .string qs, .string qm, .int .i64 qi, .slice qa ql qc]] W fun e w'=>e= .returned (.bool false) ∧Below W.heap.size W w') (HIa : ∀W,Calls Tryz.prog 115 #[.agg #[.int .i64 at', .int .i64 col], .agg #[.int .i64 1, .int .i64 pk, .int .i64 pn, .string px, .string ps, .string pm, .int .i64 pi, .slice pa pl pc]] W fun e w'=>e= .returned (.bool false) ∧Below W.heap.size W w') (HIb : ∀W,Calls Tryz.prog 115 #[.agg #[.int .i64 at', .int .i64 col], .agg #[.int .i64 qop, .int .i64 qk, .int .i64 qn, .string qx, .string qs, .string qm, .int .i64 qi, .slice qa ql qc]] W fun e w'=>e= .returned (.bool true) ∧Below W.heap.size W w') (HL : ∀W,Calls Tryz.prog 117 #[.agg #[.int .i64 pk, .int .i64 pn, .string px], .bool yes] W fun e w'=>e= .returned (.agg #[.string lo, .string hi]) ∧Below W.heap.size W w') :
  Calls Tryz.prog 70 #[.agg #[.int .i64 at', .int .i64 col], .int .i64 5, .agg #[.int .i64 1, .int .i64 pk, .int .i64 pn, .string px, .string ps, .string pm, .int .i64 pi, .slice pa pl pc], .agg #[.int .i64 qop, .int .i64 qk, .int .i64 qn, .string qx, .string qs, .string qm, .int .i64 qi, .slice qa ql qc], .bool yes] w fun e w'=>e= .returned (.agg #[.string lo, .string hi]) ∧Below w.heap.size w w' :=by
 obtain ⟨B0,B1,B2,B3,hbW⟩ :=Jx w (.cells #[.int .i64 at', .int .i64 col] 83) (.cells #[.int .i64 1, .int .i64 pk, .int .i64 pn, .string px, .string ps, .string pm, .int .i64 pi, .slice pa pl pc] 34) (.cells #[.int .i64 qop, .int .i64 qk, .int .i64 qn, .string qx, .string qs, .string qm, .int .i64 qi, .slice qa ql qc] 34) (.cells #[.string noW, .string noW] 81)
 generalize hW : (((w.alloc (.cells #[.int .i64 at', .int .i64 col] 83)).alloc (.cells #[.int .i64 1, .int .i64 pk, .int .i64 pn, .string px, .string ps, .string pm, .int .i64 pi, .slice pa pl pc] 34)).alloc (.cells #[.int .i64 qop, .int .i64 qk, .int .i64 qn, .string qx, .string qs, .string qm, .int .i64 qi, .slice qa ql qc] 34)).alloc (.cells #[.string noW, .string noW] 81) =W at B0 B1 B2 B3 hbW
 have HW :Hid _ :=hW
 clear hW
 have zz :=Below.refl W.heap.size W
 obtain ⟨r0,r1,r2,r3,r4,c0,c1,e0,e1,e2,e3,e4,e5,e6,e7,g0,g1,g2,g3,g4,g5,g6,g7⟩ :=Ba B0 B1 B2 B3 zz
 skip
 go_enter Tryz.func70,Tryz.ntmps70
 go_upto_region 1 with fail
 rw [HW.out]
 go_wp2_with (first
    | (go_at_call_of 116 (Value.agg #[.int .i64 1, .int .i64 pk, .int .i64 pn, .string px, .string ps, .string pm, .int .i64 pi, .slice pa pl pc]);go_must (go_fit (HNa _);rintro e w1 ⟨rfl,hb1⟩;have zz :=Ad zz hb1;obtain ⟨r0,r1,r2,r3,r4,c0,c1,e0,e1,e2,e3,e4,e5,e6,e7,g0,g1,g2,g3,g4,g5,g6,g7⟩ :=Ba B0 B1 B2 B3 zz))
    | (go_at_call_of 116 (Value.agg #[.int .i64 qop, .int .i64 qk, .int .i64 qn, .string qx, .string qs, .string qm, .int .i64 qi, .slice qa ql qc]);go_must (go_fit (HNb _);rintro e w2 ⟨rfl,hb2⟩;have zz :=Ad zz hb2;obtain ⟨r0,r1,r2,r3,r4,c0,c1,e0,e1,e2,e3,e4,e5,e6,e7,g0,g1,g2,g3,g4,g5,g6,g7⟩ :=Ba B0 B1 B2 B3 zz))
    | (go_at_call_of 115 (Value.agg #[.int .i64 1, .int .i64 pk, .int .i64 pn, .string px, .string ps, .string pm, .int .i64 pi, .slice pa pl pc]);go_must (go_fit (HIa _);rintro e w3 ⟨rfl,hb3⟩;have zz :=Ad zz hb3;obtain ⟨r0,r1,r2,r3,r4,c0,c1,e0,e1,e2,e3,e4,e5,e6,e7,g0,g1,g2,g3,g4,g5,g6,g7⟩ :=Ba B0 B1 B2 B3 zz))
    | (go_at_call_of 115 (Value.agg #[.int .i64 qop, .int .i64 qk, .int .i64 qn, .string qx, .string qs, .string qm, .int .i64 qi, .slice qa ql qc]);go_must (go_fit (HIb _);rintro e w4 ⟨rfl,hb4⟩;have zz :=Ad zz hb4;obtain ⟨r0,r1,r2,r3,r4,c0,c1,e0,e1,e2,e3,e4,e5,e6,e7,g0,g1,g2,g3,g4,g5,g6,g7⟩ :=Ba B0 B1 B2 B3 zz))
    | (go_at_call 117;go_must (go_fit (HL _);rintro e w5 ⟨rfl,hb5⟩;have zz :=Ad zz hb5;obtain ⟨r0,r1,r2,r3,r4,c0,c1,e0,e1,e2,e3,e4,e5,e6,e7,g0,g1,g2,g3,g4,g5,g6,g7⟩ :=Ba B0 B1 B2 B3 zz)))
 exact A7 _ _ Tryz.results70 rfl rfl r0 (Ad hbW zz) (by omega) Tryz.underlying81 (by kernel_rfl)
set_option maxRecDepth 100000 in
set_option maxHeartbeats 8000000 in
theorem Ahv (at' col :Int) (pk pn :Int) (px ps pm :Wd) (pi :Int) (pa :Option Addr) (pl pc :Nat) (qop qk qn :Int) (qx qs qm :Wd) (qi :Int) (qa :Option Addr) (ql qc :Nat) (yes :Bool) (lo hi :Wd) (w :World) (HNa : ∀W,Calls Tryz.prog 116 #[.agg #[.int .i64 1, .int .i64 pk, .int .i64 pn, .string px, .string ps, .string pm, .int .i64 pi, .slice pa pl pc]] W fun e w'=>e= .returned (.bool false) ∧Below W.heap.size W w') (HNb : ∀W,Calls Tryz.prog 116 #[.agg #[.int .i64 qop, .int .i64 qk, .int .i64 qn, .string qx, .string qs, .string qm, .int .i64 qi, .slice qa ql qc]] W fun e w'=>e= .returned (.bool false) ∧Below W.heap.size W w') (HIa : ∀W,Calls Tryz.prog 115 #[.agg #[.int .i64 at', .int .i64 col], .agg #[.int .i64 1, .int .i64 pk, .int .i64 pn, .string px, .string ps, .string pm, .int .i64 pi, .slice pa pl pc]] W fun e w'=>e= .returned (.bool false) ∧Below W.heap.size W w') (HIb : ∀W,Calls Tryz.prog 115 #[.agg #[.int .i64 at', .int .i64 col], .agg #[.int .i64 qop, .int .i64 qk, .int .i64 qn, .string qx, .string qs, .string qm, .int .i64 qi, .slice qa ql qc]] W fun e w'=>e= .returned (.bool false) ∧Below W.heap.size W w') (H0 : ∀W,Calls Tryz.prog 54 #[.string ⟨#[]⟩] W fun e w'=>e= .returned (.agg #[.string lo, .string hi]) ∧Below W.heap.size W w') :
  Calls Tryz.prog 70 #[.agg #[.int .i64 at', .int .i64 col], .int .i64 5, .agg #[.int .i64 1, .int .i64 pk, .int .i64 pn, .string px, .string ps, .string pm, .int .i64 pi, .slice pa pl pc], .agg #[.int .i64 qop, .int .i64 qk, .int .i64 qn, .string qx, .string qs, .string qm, .int .i64 qi, .slice qa ql qc], .bool yes] w fun e w'=>e= .returned (.agg #[.string lo, .string hi]) ∧Below w.heap.size w w' :=by
 obtain ⟨B0,B1,B2,B3,hbW⟩ :=Jx w (.cells #[.int .i64 at', .int .i64 col] 83) (.cells #[.int .i64 1, .int .i64 pk, .int .i64 pn, .string px, .string ps, .string pm, .int .i64 pi, .slice pa pl pc] 34) (.cells #[.int .i64 qop, .int .i64 qk, .int .i64 qn, .string qx, .string qs, .string qm, .int .i64 qi, .slice qa ql qc] 34) (.cells #[.string noW, .string noW] 81)
 generalize hW : (((w.alloc (.cells #[.int .i64 at', .int .i64 col] 83)).alloc (.cells #[.int .i64 1, .int .i64 pk, .int .i64 pn, .string px, .string ps, .string pm, .int .i64 pi, .slice pa pl pc] 34)).alloc (.cells #[.int .i64 qop, .int .i64 qk, .int .i64 qn, .string qx, .string qs, .string qm, .int .i64 qi, .slice qa ql qc] 34)).alloc (.cells #[.string noW, .string noW] 81) =W at B0 B1 B2 B3 hbW
 have HW :Hid _ :=hW
 clear hW
 have zz :=Below.refl W.heap.size W
 obtain ⟨r0,r1,r2,r3,r4,c0,c1,e0,e1,e2,e3,e4,e5,e6,e7,g0,g1,g2,g3,g4,g5,g6,g7⟩ :=Ba B0 B1 B2 B3 zz
 skip
 go_enter Tryz.func70,Tryz.ntmps70
 go_upto_region 1 with fail
 rw [HW.out]
 go_wp2_with (first
    | (go_at_call_of 116 (Value.agg #[.int .i64 1, .int .i64 pk, .int .i64 pn, .string px, .string ps, .string pm, .int .i64 pi, .slice pa pl pc]);go_must (go_fit (HNa _);rintro e w1 ⟨rfl,hb1⟩;have zz :=Ad zz hb1;obtain ⟨r0,r1,r2,r3,r4,c0,c1,e0,e1,e2,e3,e4,e5,e6,e7,g0,g1,g2,g3,g4,g5,g6,g7⟩ :=Ba B0 B1 B2 B3 zz))
    | (go_at_call_of 116 (Value.agg #[.int .i64 qop, .int .i64 qk, .int .i64 qn, .string qx, .string qs, .string qm, .int .i64 qi, .slice qa ql qc]);go_must (go_fit (HNb _);rintro e w2 ⟨rfl,hb2⟩;have zz :=Ad zz hb2;obtain ⟨r0,r1,r2,r3,r4,c0,c1,e0,e1,e2,e3,e4,e5,e6,e7,g0,g1,g2,g3,g4,g5,g6,g7⟩ :=Ba B0 B1 B2 B3 zz))
    | (go_at_call_of 115 (Value.agg #[.int .i64 1, .int .i64 pk, .int .i64 pn, .string px, .string ps, .string pm, .int .i64 pi, .slice pa pl pc]);go_must (go_fit (HIa _);rintro e w3 ⟨rfl,hb3⟩;have zz :=Ad zz hb3;obtain ⟨r0,r1,r2,r3,r4,c0,c1,e0,e1,e2,e3,e4,e5,e6,e7,g0,g1,g2,g3,g4,g5,g6,g7⟩ :=Ba B0 B1 B2 B3 zz))
    | (go_at_call_of 115 (Value.agg #[.int .i64 qop, .int .i64 qk, .int .i64 qn, .string qx, .string qs, .string qm, .int .i64 qi, .slice qa ql qc]);go_must (go_fit (HIb _);rintro e w4 ⟨rfl,hb4⟩;have zz :=Ad zz hb4;obtain ⟨r0,r1,r2,r3,r4,c0,c1,e0,e1,e2,e3,e4,e5,e6,e7,g0,g1,g2,g3,g4,g5,g6,g7⟩ :=Ba B0 B1 B2 B3 zz))
    | (go_at_call 54;go_must (go_fit (H0 _);rintro e w8 ⟨rfl,hb8⟩;have zz :=Ad zz hb8;obtain ⟨r0,r1,r2,r3,r4,c0,c1,e0,e1,e2,e3,e4,e5,e6,e7,g0,g1,g2,g3,g4,g5,g6,g7⟩ :=Ba B0 B1 B2 B3 zz)))
 exact A7 _ _ Tryz.results70 rfl rfl r0 (Ad hbW zz) (by omega) Tryz.underlying81 (by kernel_rfl)
set_option maxRecDepth 100000 in
set_option maxHeartbeats 8000000 in
theorem Ahw (at' col :Int) (pop pk pn :Int) (px ps pm :Wd) (pi :Int) (pa :Option Addr) (pl pc :Nat) (qk qn :Int) (qx qs qm :Wd) (qi :Int) (qa :Option Addr) (ql qc :Nat) (yes :Bool) (lo hi :Wd) (w :World) (HNa : ∀W,Calls Tryz.prog 116 #[.agg #[.int .i64 pop, .int .i64 pk, .int .i64 pn, .string px, .string ps, .string pm, .int .i64 pi, .slice pa pl pc]] W fun e w'=>e= .returned (.bool false) ∧Below W.heap.size W w') (HNb : ∀W,Calls Tryz.prog 116 #[.agg #[.int .i64 1, .int .i64 qk, .int .i64 qn, .string qx, .string qs, .string qm, .int .i64 qi, .slice qa ql qc]] W fun e w'=>e= .returned (.bool false) ∧Below W.heap.size W w') (HIa : ∀W,Calls Tryz.prog 115 #[.agg #[.int .i64 at', .int .i64 col], .agg #[.int .i64 pop, .int .i64 pk, .int .i64 pn, .string px, .string ps, .string pm, .int .i64 pi, .slice pa pl pc]] W fun e w'=>e= .returned (.bool true) ∧Below W.heap.size W w') (HL : ∀W,Calls Tryz.prog 118 #[.agg #[.int .i64 qk, .int .i64 qn, .string qx], .bool yes] W fun e w'=>e= .returned (.agg #[.string lo, .string hi]) ∧Below W.heap.size W w') :
  Calls Tryz.prog 70 #[.agg #[.int .i64 at', .int .i64 col], .int .i64 6, .agg #[.int .i64 pop, .int .i64 pk, .int .i64 pn, .string px, .string ps, .string pm, .int .i64 pi, .slice pa pl pc], .agg #[.int .i64 1, .int .i64 qk, .int .i64 qn, .string qx, .string qs, .string qm, .int .i64 qi, .slice qa ql qc], .bool yes] w fun e w'=>e= .returned (.agg #[.string lo, .string hi]) ∧Below w.heap.size w w' :=by
 obtain ⟨B0,B1,B2,B3,hbW⟩ :=Jx w (.cells #[.int .i64 at', .int .i64 col] 83) (.cells #[.int .i64 pop, .int .i64 pk, .int .i64 pn, .string px, .string ps, .string pm, .int .i64 pi, .slice pa pl pc] 34) (.cells #[.int .i64 1, .int .i64 qk, .int .i64 qn, .string qx, .string qs, .string qm, .int .i64 qi, .slice qa ql qc] 34) (.cells #[.string noW, .string noW] 81)
 generalize hW : (((w.alloc (.cells #[.int .i64 at', .int .i64 col] 83)).alloc (.cells #[.int .i64 pop, .int .i64 pk, .int .i64 pn, .string px, .string ps, .string pm, .int .i64 pi, .slice pa pl pc] 34)).alloc (.cells #[.int .i64 1, .int .i64 qk, .int .i64 qn, .string qx, .string qs, .string qm, .int .i64 qi, .slice qa ql qc] 34)).alloc (.cells #[.string noW, .string noW] 81) =W at B0 B1 B2 B3 hbW
 have HW :Hid _ :=hW
 clear hW
 have zz :=Below.refl W.heap.size W
 obtain ⟨r0,r1,r2,r3,r4,c0,c1,e0,e1,e2,e3,e4,e5,e6,e7,g0,g1,g2,g3,g4,g5,g6,g7⟩ :=Ba B0 B1 B2 B3 zz
 skip
 go_enter Tryz.func70,Tryz.ntmps70
 go_upto_region 1 with fail
 rw [HW.out]
 go_wp2_with (first
    | (go_at_call_of 116 (Value.agg #[.int .i64 pop, .int .i64 pk, .int .i64 pn, .string px, .string ps, .string pm, .int .i64 pi, .slice pa pl pc]);go_must (go_fit (HNa _);rintro e w1 ⟨rfl,hb1⟩;have zz :=Ad zz hb1;obtain ⟨r0,r1,r2,r3,r4,c0,c1,e0,e1,e2,e3,e4,e5,e6,e7,g0,g1,g2,g3,g4,g5,g6,g7⟩ :=Ba B0 B1 B2 B3 zz))
    | (go_at_call_of 116 (Value.agg #[.int .i64 1, .int .i64 qk, .int .i64 qn, .string qx, .string qs, .string qm, .int .i64 qi, .slice qa ql qc]);go_must (go_fit (HNb _);rintro e w2 ⟨rfl,hb2⟩;have zz :=Ad zz hb2;obtain ⟨r0,r1,r2,r3,r4,c0,c1,e0,e1,e2,e3,e4,e5,e6,e7,g0,g1,g2,g3,g4,g5,g6,g7⟩ :=Ba B0 B1 B2 B3 zz))
    | (go_at_call_of 115 (Value.agg #[.int .i64 pop, .int .i64 pk, .int .i64 pn, .string px, .string ps, .string pm, .int .i64 pi, .slice pa pl pc]);go_must (go_fit (HIa _);rintro e w3 ⟨rfl,hb3⟩;have zz :=Ad zz hb3;obtain ⟨r0,r1,r2,r3,r4,c0,c1,e0,e1,e2,e3,e4,e5,e6,e7,g0,g1,g2,g3,g4,g5,g6,g7⟩ :=Ba B0 B1 B2 B3 zz))
    | (go_at_call 118;go_must (go_fit (HL _);rintro e w6 ⟨rfl,hb6⟩;have zz :=Ad zz hb6;obtain ⟨r0,r1,r2,r3,r4,c0,c1,e0,e1,e2,e3,e4,e5,e6,e7,g0,g1,g2,g3,g4,g5,g6,g7⟩ :=Ba B0 B1 B2 B3 zz)))
 exact A7 _ _ Tryz.results70 rfl rfl r0 (Ad hbW zz) (by omega) Tryz.underlying81 (by kernel_rfl)
set_option maxRecDepth 100000 in
set_option maxHeartbeats 8000000 in
theorem Ahx (at' col :Int) (pk pn :Int) (px ps pm :Wd) (pi :Int) (pa :Option Addr) (pl pc :Nat) (qop qk qn :Int) (qx qs qm :Wd) (qi :Int) (qa :Option Addr) (ql qc :Nat) (yes :Bool) (lo hi :Wd) (w :World) (HNa : ∀W,Calls Tryz.prog 116 #[.agg #[.int .i64 2, .int .i64 pk, .int .i64 pn, .string px, .string ps, .string pm, .int .i64 pi, .slice pa pl pc]] W fun e w'=>e= .returned (.bool false) ∧Below W.heap.size W w') (HNb : ∀W,Calls Tryz.prog 116 #[.agg #[.int .i64 qop, .int .i64 qk, .int .i64 qn, .string qx, .string qs, .string qm, .int .i64 qi, .slice qa ql qc]] W fun e w'=>e= .returned (.bool false) ∧Below W.heap.size W w') (HIa : ∀W,Calls Tryz.prog 115 #[.agg #[.int .i64 at', .int .i64 col], .agg #[.int .i64 2, .int .i64 pk, .int .i64 pn, .string px, .string ps, .string pm, .int .i64 pi, .slice pa pl pc]] W fun e w'=>e= .returned (.bool true) ∧Below W.heap.size W w') (h2 : ¬qop=1) (H0 : ∀W,Calls Tryz.prog 54 #[.string ⟨#[]⟩] W fun e w'=>e= .returned (.agg #[.string lo, .string hi]) ∧Below W.heap.size W w') :
  Calls Tryz.prog 70 #[.agg #[.int .i64 at', .int .i64 col], .int .i64 6, .agg #[.int .i64 2, .int .i64 pk, .int .i64 pn, .string px, .string ps, .string pm, .int .i64 pi, .slice pa pl pc], .agg #[.int .i64 qop, .int .i64 qk, .int .i64 qn, .string qx, .string qs, .string qm, .int .i64 qi, .slice qa ql qc], .bool yes] w fun e w'=>e= .returned (.agg #[.string lo, .string hi]) ∧Below w.heap.size w w' :=by
 obtain ⟨B0,B1,B2,B3,hbW⟩ :=Jx w (.cells #[.int .i64 at', .int .i64 col] 83) (.cells #[.int .i64 2, .int .i64 pk, .int .i64 pn, .string px, .string ps, .string pm, .int .i64 pi, .slice pa pl pc] 34) (.cells #[.int .i64 qop, .int .i64 qk, .int .i64 qn, .string qx, .string qs, .string qm, .int .i64 qi, .slice qa ql qc] 34) (.cells #[.string noW, .string noW] 81)
 generalize hW : (((w.alloc (.cells #[.int .i64 at', .int .i64 col] 83)).alloc (.cells #[.int .i64 2, .int .i64 pk, .int .i64 pn, .string px, .string ps, .string pm, .int .i64 pi, .slice pa pl pc] 34)).alloc (.cells #[.int .i64 qop, .int .i64 qk, .int .i64 qn, .string qx, .string qs, .string qm, .int .i64 qi, .slice qa ql qc] 34)).alloc (.cells #[.string noW, .string noW] 81) =W at B0 B1 B2 B3 hbW
 have HW :Hid _ :=hW
 clear hW
 have zz :=Below.refl W.heap.size W
 obtain ⟨r0,r1,r2,r3,r4,c0,c1,e0,e1,e2,e3,e4,e5,e6,e7,g0,g1,g2,g3,g4,g5,g6,g7⟩ :=Ba B0 B1 B2 B3 zz
 skip
 go_enter Tryz.func70,Tryz.ntmps70
 go_upto_region 1 with fail
 rw [HW.out]
 go_wp2_with (first
    | (go_at_call_of 116 (Value.agg #[.int .i64 2, .int .i64 pk, .int .i64 pn, .string px, .string ps, .string pm, .int .i64 pi, .slice pa pl pc]);go_must (go_fit (HNa _);rintro e w1 ⟨rfl,hb1⟩;have zz :=Ad zz hb1;obtain ⟨r0,r1,r2,r3,r4,c0,c1,e0,e1,e2,e3,e4,e5,e6,e7,g0,g1,g2,g3,g4,g5,g6,g7⟩ :=Ba B0 B1 B2 B3 zz))
    | (go_at_call_of 116 (Value.agg #[.int .i64 qop, .int .i64 qk, .int .i64 qn, .string qx, .string qs, .string qm, .int .i64 qi, .slice qa ql qc]);go_must (go_fit (HNb _);rintro e w2 ⟨rfl,hb2⟩;have zz :=Ad zz hb2;obtain ⟨r0,r1,r2,r3,r4,c0,c1,e0,e1,e2,e3,e4,e5,e6,e7,g0,g1,g2,g3,g4,g5,g6,g7⟩ :=Ba B0 B1 B2 B3 zz))
    | (go_at_call_of 115 (Value.agg #[.int .i64 2, .int .i64 pk, .int .i64 pn, .string px, .string ps, .string pm, .int .i64 pi, .slice pa pl pc]);go_must (go_fit (HIa _);rintro e w3 ⟨rfl,hb3⟩;have zz :=Ad zz hb3;obtain ⟨r0,r1,r2,r3,r4,c0,c1,e0,e1,e2,e3,e4,e5,e6,e7,g0,g1,g2,g3,g4,g5,g6,g7⟩ :=Ba B0 B1 B2 B3 zz))
    | (go_at_call 54;go_must (go_fit (H0 _);rintro e w8 ⟨rfl,hb8⟩;have zz :=Ad zz hb8;obtain ⟨r0,r1,r2,r3,r4,c0,c1,e0,e1,e2,e3,e4,e5,e6,e7,g0,g1,g2,g3,g4,g5,g6,g7⟩ :=Ba B0 B1 B2 B3 zz)))
 exact A7 _ _ Tryz.results70 rfl rfl r0 (Ad hbW zz) (by omega) Tryz.underlying81 (by kernel_rfl)
set_option maxRecDepth 100000 in
set_option maxHeartbeats 8000000 in
theorem Ahy (at' col :Int) (pop pk pn :Int) (px ps pm :Wd) (pi :Int) (pa :Option Addr) (pl pc :Nat) (qop qk qn :Int) (qx qs qm :Wd) (qi :Int) (qa :Option Addr) (ql qc :Nat) (yes :Bool) (lo hi :Wd) (w :World) (HNa : ∀W,Calls Tryz.prog 116 #[.agg #[.int .i64 pop, .int .i64 pk, .int .i64 pn, .string px, .string ps, .string pm, .int .i64 pi, .slice pa pl pc]] W fun e w'=>e= .returned (.bool false) ∧Below W.heap.size W w') (HNb : ∀W,Calls Tryz.prog 116 #[.agg #[.int .i64 qop, .int .i64 qk, .int .i64 qn, .string qx, .string qs, .string qm, .int .i64 qi, .slice qa ql qc]] W fun e w'=>e= .returned (.bool false) ∧Below W.heap.size W w') (HIa : ∀W,Calls Tryz.prog 115 #[.agg #[.int .i64 at', .int .i64 col], .agg #[.int .i64 pop, .int .i64 pk, .int .i64 pn, .string px, .string ps, .string pm, .int .i64 pi, .slice pa pl pc]] W fun e w'=>e= .returned (.bool false) ∧Below W.heap.size W w') (h1 : ¬pop=1) (H0 : ∀W,Calls Tryz.prog 54 #[.string ⟨#[]⟩] W fun e w'=>e= .returned (.agg #[.string lo, .string hi]) ∧Below W.heap.size W w') :
  Calls Tryz.prog 70 #[.agg #[.int .i64 at', .int .i64 col], .int .i64 6, .agg #[.int .i64 pop, .int .i64 pk, .int .i64 pn, .string px, .string ps, .string pm, .int .i64 pi, .slice pa pl pc], .agg #[.int .i64 qop, .int .i64 qk, .int .i64 qn, .string qx, .string qs, .string qm, .int .i64 qi, .slice qa ql qc], .bool yes] w fun e w'=>e= .returned (.agg #[.string lo, .string hi]) ∧Below w.heap.size w w' :=by
 obtain ⟨B0,B1,B2,B3,hbW⟩ :=Jx w (.cells #[.int .i64 at', .int .i64 col] 83) (.cells #[.int .i64 pop, .int .i64 pk, .int .i64 pn, .string px, .string ps, .string pm, .int .i64 pi, .slice pa pl pc] 34) (.cells #[.int .i64 qop, .int .i64 qk, .int .i64 qn, .string qx, .string qs, .string qm, .int .i64 qi, .slice qa ql qc] 34) (.cells #[.string noW, .string noW] 81)
 generalize hW : (((w.alloc (.cells #[.int .i64 at', .int .i64 col] 83)).alloc (.cells #[.int .i64 pop, .int .i64 pk, .int .i64 pn, .string px, .string ps, .string pm, .int .i64 pi, .slice pa pl pc] 34)).alloc (.cells #[.int .i64 qop, .int .i64 qk, .int .i64 qn, .string qx, .string qs, .string qm, .int .i64 qi, .slice qa ql qc] 34)).alloc (.cells #[.string noW, .string noW] 81) =W at B0 B1 B2 B3 hbW
 have HW :Hid _ :=hW
 clear hW
 have zz :=Below.refl W.heap.size W
 obtain ⟨r0,r1,r2,r3,r4,c0,c1,e0,e1,e2,e3,e4,e5,e6,e7,g0,g1,g2,g3,g4,g5,g6,g7⟩ :=Ba B0 B1 B2 B3 zz
 skip
 go_enter Tryz.func70,Tryz.ntmps70
 go_upto_region 1 with fail
 rw [HW.out]
 go_wp2_with (first
    | (go_at_call_of 116 (Value.agg #[.int .i64 pop, .int .i64 pk, .int .i64 pn, .string px, .string ps, .string pm, .int .i64 pi, .slice pa pl pc]);go_must (go_fit (HNa _);rintro e w1 ⟨rfl,hb1⟩;have zz :=Ad zz hb1;obtain ⟨r0,r1,r2,r3,r4,c0,c1,e0,e1,e2,e3,e4,e5,e6,e7,g0,g1,g2,g3,g4,g5,g6,g7⟩ :=Ba B0 B1 B2 B3 zz))
    | (go_at_call_of 116 (Value.agg #[.int .i64 qop, .int .i64 qk, .int .i64 qn, .string qx, .string qs, .string qm, .int .i64 qi, .slice qa ql qc]);go_must (go_fit (HNb _);rintro e w2 ⟨rfl,hb2⟩;have zz :=Ad zz hb2;obtain ⟨r0,r1,r2,r3,r4,c0,c1,e0,e1,e2,e3,e4,e5,e6,e7,g0,g1,g2,g3,g4,g5,g6,g7⟩ :=Ba B0 B1 B2 B3 zz))
    | (go_at_call_of 115 (Value.agg #[.int .i64 pop, .int .i64 pk, .int .i64 pn, .string px, .string ps, .string pm, .int .i64 pi, .slice pa pl pc]);go_must (go_fit (HIa _);rintro e w3 ⟨rfl,hb3⟩;have zz :=Ad zz hb3;obtain ⟨r0,r1,r2,r3,r4,c0,c1,e0,e1,e2,e3,e4,e5,e6,e7,g0,g1,g2,g3,g4,g5,g6,g7⟩ :=Ba B0 B1 B2 B3 zz))
    | (go_at_call 54;go_must (go_fit (H0 _);rintro e w8 ⟨rfl,hb8⟩;have zz :=Ad zz hb8;obtain ⟨r0,r1,r2,r3,r4,c0,c1,e0,e1,e2,e3,e4,e5,e6,e7,g0,g1,g2,g3,g4,g5,g6,g7⟩ :=Ba B0 B1 B2 B3 zz)))
 exact A7 _ _ Tryz.results70 rfl rfl r0 (Ad hbW zz) (by omega) Tryz.underlying81 (by kernel_rfl)
set_option maxRecDepth 100000 in
set_option maxHeartbeats 8000000 in
theorem Ahz (at' col :Int) (pk pn :Int) (px ps pm :Wd) (pi :Int) (pa :Option Addr) (pl pc :Nat) (qop qk qn :Int) (qx qs qm :Wd) (qi :Int) (qa :Option Addr) (ql qc :Nat) (yes :Bool) (lo hi :Wd) (w :World) (HNa : ∀W,Calls Tryz.prog 116 #[.agg #[.int .i64 1, .int .i64 pk, .int .i64 pn, .string px, .string ps, .string pm, .int .i64 pi, .slice pa pl pc]] W fun e w'=>e= .returned (.bool false) ∧Below W.heap.size W w') (HNb : ∀W,Calls Tryz.prog 116 #[.agg #[.int .i64 qop, .int .i64 qk, .int .i64 qn, .string qx, .string qs, .string qm, .int .i64 qi, .slice qa ql qc]] W fun e w'=>e= .returned (.bool false) ∧Below W.heap.size W w') (HIa : ∀W,Calls Tryz.prog 115 #[.agg #[.int .i64 at', .int .i64 col], .agg #[.int .i64 1, .int .i64 pk, .int .i64 pn, .string px, .string ps, .string pm, .int .i64 pi, .slice pa pl pc]] W fun e w'=>e= .returned (.bool false) ∧Below W.heap.size W w') (HIb : ∀W,Calls Tryz.prog 115 #[.agg #[.int .i64 at', .int .i64 col], .agg #[.int .i64 qop, .int .i64 qk, .int .i64 qn, .string qx, .string qs, .string qm, .int .i64 qi, .slice qa ql qc]] W fun e w'=>e= .returned (.bool true) ∧Below W.heap.size W w') (HL : ∀W,Calls Tryz.prog 119 #[.agg #[.int .i64 pk, .int .i64 pn, .string px], .bool yes] W fun e w'=>e= .returned (.agg #[.string lo, .string hi]) ∧Below W.heap.size W w') :
  Calls Tryz.prog 70 #[.agg #[.int .i64 at', .int .i64 col], .int .i64 6, .agg #[.int .i64 1, .int .i64 pk, .int .i64 pn, .string px, .string ps, .string pm, .int .i64 pi, .slice pa pl pc], .agg #[.int .i64 qop, .int .i64 qk, .int .i64 qn, .string qx, .string qs, .string qm, .int .i64 qi, .slice qa ql qc], .bool yes] w fun e w'=>e= .returned (.agg #[.string lo, .string hi]) ∧Below w.heap.size w w' :=by
 obtain ⟨B0,B1,B2,B3,hbW⟩ :=Jx w (.cells #[.int .i64 at', .int .i64 col] 83) (.cells #[.int .i64 1, .int .i64 pk, .int .i64 pn, .string px, .string ps, .string pm, .int .i64 pi, .slice pa pl pc] 34) (.cells #[.int .i64 qop, .int .i64 qk, .int .i64 qn, .string qx, .string qs, .string qm, .int .i64 qi, .slice qa ql qc] 34) (.cells #[.string noW, .string noW] 81)
 generalize hW : (((w.alloc (.cells #[.int .i64 at', .int .i64 col] 83)).alloc (.cells #[.int .i64 1, .int .i64 pk, .int .i64 pn, .string px, .string ps, .string pm, .int .i64 pi, .slice pa pl pc] 34)).alloc (.cells #[.int .i64 qop, .int .i64 qk, .int .i64 qn, .string qx, .string qs, .string qm, .int .i64 qi, .slice qa ql qc] 34)).alloc (.cells #[.string noW, .string noW] 81) =W at B0 B1 B2 B3 hbW
 have HW :Hid _ :=hW
 clear hW
 have zz :=Below.refl W.heap.size W
 obtain ⟨r0,r1,r2,r3,r4,c0,c1,e0,e1,e2,e3,e4,e5,e6,e7,g0,g1,g2,g3,g4,g5,g6,g7⟩ :=Ba B0 B1 B2 B3 zz
 skip
 go_enter Tryz.func70,Tryz.ntmps70
 go_upto_region 1 with fail
 rw [HW.out]
 go_wp2_with (first
    | (go_at_call_of 116 (Value.agg #[.int .i64 1, .int .i64 pk, .int .i64 pn, .string px, .string ps, .string pm, .int .i64 pi, .slice pa pl pc]);go_must (go_fit (HNa _);rintro e w1 ⟨rfl,hb1⟩;have zz :=Ad zz hb1;obtain ⟨r0,r1,r2,r3,r4,c0,c1,e0,e1,e2,e3,e4,e5,e6,e7,g0,g1,g2,g3,g4,g5,g6,g7⟩ :=Ba B0 B1 B2 B3 zz))
    | (go_at_call_of 116 (Value.agg #[.int .i64 qop, .int .i64 qk, .int .i64 qn, .string qx, .string qs, .string qm, .int .i64 qi, .slice qa ql qc]);go_must (go_fit (HNb _);rintro e w2 ⟨rfl,hb2⟩;have zz :=Ad zz hb2;obtain ⟨r0,r1,r2,r3,r4,c0,c1,e0,e1,e2,e3,e4,e5,e6,e7,g0,g1,g2,g3,g4,g5,g6,g7⟩ :=Ba B0 B1 B2 B3 zz))
    | (go_at_call_of 115 (Value.agg #[.int .i64 1, .int .i64 pk, .int .i64 pn, .string px, .string ps, .string pm, .int .i64 pi, .slice pa pl pc]);go_must (go_fit (HIa _);rintro e w3 ⟨rfl,hb3⟩;have zz :=Ad zz hb3;obtain ⟨r0,r1,r2,r3,r4,c0,c1,e0,e1,e2,e3,e4,e5,e6,e7,g0,g1,g2,g3,g4,g5,g6,g7⟩ :=Ba B0 B1 B2 B3 zz))
    | (go_at_call_of 115 (Value.agg #[.int .i64 qop, .int .i64 qk, .int .i64 qn, .string qx, .string qs, .string qm, .int .i64 qi, .slice qa ql qc]);go_must (go_fit (HIb _);rintro e w4 ⟨rfl,hb4⟩;have zz :=Ad zz hb4;obtain ⟨r0,r1,r2,r3,r4,c0,c1,e0,e1,e2,e3,e4,e5,e6,e7,g0,g1,g2,g3,g4,g5,g6,g7⟩ :=Ba B0 B1 B2 B3 zz))
    | (go_at_call 119;go_must (go_fit (HL _);rintro e w7 ⟨rfl,hb7⟩;have zz :=Ad zz hb7;obtain ⟨r0,r1,r2,r3,r4,c0,c1,e0,e1,e2,e3,e4,e5,e6,e7,g0,g1,g2,g3,g4,g5,g6,g7⟩ :=Ba B0 B1 B2 B3 zz)))
 exact A7 _ _ Tryz.results70 rfl rfl r0 (Ad hbW zz) (by omega) Tryz.underlying81 (by kernel_rfl)
set_option maxRecDepth 100000 in
set_option maxHeartbeats 8000000 in
theorem Ah0 (at' col :Int) (pk pn :Int) (px ps pm :Wd) (pi :Int) (pa :Option Addr) (pl pc :Nat) (qop qk qn :Int) (qx qs qm :Wd) (qi :Int) (qa :Option Addr) (ql qc :Nat) (yes :Bool) (lo hi :Wd) (w :World) (HNa : ∀W,Calls Tryz.prog 116 #[.agg #[.int .i64 1, .int .i64 pk, .int .i64 pn, .string px, .string ps, .string pm, .int .i64 pi, .slice pa pl pc]] W fun e w'=>e= .returned (.bool false) ∧Below W.heap.size W w') (HNb : ∀W,Calls Tryz.prog 116 #[.agg #[.int .i64 qop, .int .i64 qk, .int .i64 qn, .string qx, .string qs, .string qm, .int .i64 qi, .slice qa ql qc]] W fun e w'=>e= .returned (.bool false) ∧Below W.heap.size W w') (HIa : ∀W,Calls Tryz.prog 115 #[.agg #[.int .i64 at', .int .i64 col], .agg #[.int .i64 1, .int .i64 pk, .int .i64 pn, .string px, .string ps, .string pm, .int .i64 pi, .slice pa pl pc]] W fun e w'=>e= .returned (.bool false) ∧Below W.heap.size W w') (HIb : ∀W,Calls Tryz.prog 115 #[.agg #[.int .i64 at', .int .i64 col], .agg #[.int .i64 qop, .int .i64 qk, .int .i64 qn, .string qx, .string qs, .string qm, .int .i64 qi, .slice qa ql qc]] W fun e w'=>e= .returned (.bool false) ∧Below W.heap.size W w') (H0 : ∀W,Calls Tryz.prog 54 #[.string ⟨#[]⟩] W fun e w'=>e= .returned (.agg #[.string lo, .string hi]) ∧Below W.heap.size W w') :
  Calls Tryz.prog 70 #[.agg #[.int .i64 at', .int .i64 col], .int .i64 6, .agg #[.int .i64 1, .int .i64 pk, .int .i64 pn, .string px, .string ps, .string pm, .int .i64 pi, .slice pa pl pc], .agg #[.int .i64 qop, .int .i64 qk, .int .i64 qn, .string qx, .string qs, .string qm, .int .i64 qi, .slice qa ql qc], .bool yes] w fun e w'=>e= .returned (.agg #[.string lo, .string hi]) ∧Below w.heap.size w w' :=by
 obtain ⟨B0,B1,B2,B3,hbW⟩ :=Jx w (.cells #[.int .i64 at', .int .i64 col] 83) (.cells #[.int .i64 1, .int .i64 pk, .int .i64 pn, .string px, .string ps, .string pm, .int .i64 pi, .slice pa pl pc] 34) (.cells #[.int .i64 qop, .int .i64 qk, .int .i64 qn, .string qx, .string qs, .string qm, .int .i64 qi, .slice qa ql qc] 34) (.cells #[.string noW, .string noW] 81)
 generalize hW : (((w.alloc (.cells #[.int .i64 at', .int .i64 col] 83)).alloc (.cells #[.int .i64 1, .int .i64 pk, .int .i64 pn, .string px, .string ps, .string pm, .int .i64 pi, .slice pa pl pc] 34)).alloc (.cells #[.int .i64 qop, .int .i64 qk, .int .i64 qn, .string qx, .string qs, .string qm, .int .i64 qi, .slice qa ql qc] 34)).alloc (.cells #[.string noW, .string noW] 81) =W at B0 B1 B2 B3 hbW
 have HW :Hid _ :=hW
 clear hW
 have zz :=Below.refl W.heap.size W
 obtain ⟨r0,r1,r2,r3,r4,c0,c1,e0,e1,e2,e3,e4,e5,e6,e7,g0,g1,g2,g3,g4,g5,g6,g7⟩ :=Ba B0 B1 B2 B3 zz
 skip
 go_enter Tryz.func70,Tryz.ntmps70
 go_upto_region 1 with fail
 rw [HW.out]
 go_wp2_with (first
    | (go_at_call_of 116 (Value.agg #[.int .i64 1, .int .i64 pk, .int .i64 pn, .string px, .string ps, .string pm, .int .i64 pi, .slice pa pl pc]);go_must (go_fit (HNa _);rintro e w1 ⟨rfl,hb1⟩;have zz :=Ad zz hb1;obtain ⟨r0,r1,r2,r3,r4,c0,c1,e0,e1,e2,e3,e4,e5,e6,e7,g0,g1,g2,g3,g4,g5,g6,g7⟩ :=Ba B0 B1 B2 B3 zz))
    | (go_at_call_of 116 (Value.agg #[.int .i64 qop, .int .i64 qk, .int .i64 qn, .string qx, .string qs, .string qm, .int .i64 qi, .slice qa ql qc]);go_must (go_fit (HNb _);rintro e w2 ⟨rfl,hb2⟩;have zz :=Ad zz hb2;obtain ⟨r0,r1,r2,r3,r4,c0,c1,e0,e1,e2,e3,e4,e5,e6,e7,g0,g1,g2,g3,g4,g5,g6,g7⟩ :=Ba B0 B1 B2 B3 zz))
    | (go_at_call_of 115 (Value.agg #[.int .i64 1, .int .i64 pk, .int .i64 pn, .string px, .string ps, .string pm, .int .i64 pi, .slice pa pl pc]);go_must (go_fit (HIa _);rintro e w3 ⟨rfl,hb3⟩;have zz :=Ad zz hb3;obtain ⟨r0,r1,r2,r3,r4,c0,c1,e0,e1,e2,e3,e4,e5,e6,e7,g0,g1,g2,g3,g4,g5,g6,g7⟩ :=Ba B0 B1 B2 B3 zz))
    | (go_at_call_of 115 (Value.agg #[.int .i64 qop, .int .i64 qk, .int .i64 qn, .string qx, .string qs, .string qm, .int .i64 qi, .slice qa ql qc]);go_must (go_fit (HIb _);rintro e w4 ⟨rfl,hb4⟩;have zz :=Ad zz hb4;obtain ⟨r0,r1,r2,r3,r4,c0,c1,e0,e1,e2,e3,e4,e5,e6,e7,g0,g1,g2,g3,g4,g5,g6,g7⟩ :=Ba B0 B1 B2 B3 zz))
    | (go_at_call 54;go_must (go_fit (H0 _);rintro e w8 ⟨rfl,hb8⟩;have zz :=Ad zz hb8;obtain ⟨r0,r1,r2,r3,r4,c0,c1,e0,e1,e2,e3,e4,e5,e6,e7,g0,g1,g2,g3,g4,g5,g6,g7⟩ :=Ba B0 B1 B2 B3 zz)))
 exact A7 _ _ Tryz.results70 rfl rfl r0 (Ad hbW zz) (by omega) Tryz.underlying81 (by kernel_rfl)
end Go.Proofs.YthehiijgnepcfaaGreat

namespace Go.Proofs.YthehiijgnepcfaaGreat
open Go.RowKit
theorem J2 (at' col :Int) (op :Int) (pop pk pn :Int) (px ps pm :Wd) (pi :Int) (pa :Option Addr) (pl pc :Nat) (qop qk qn :Int) (qx qs qm :Wd) (qi :Int) (qa :Option Addr) (ql qc :Nat) (yes :Bool) (w :World) (hop :op=5∨op=6) (hp :Wk pop ⟨pk,pn,px⟩ pi) (hq :Wk qop ⟨qk,qn,qx⟩ qi) :
  Calls Tryz.prog 70 #[.agg #[.int .i64 at', .int .i64 col], .int .i64 op, .agg #[.int .i64 pop, .int .i64 pk, .int .i64 pn, .string px, .string ps, .string pm, .int .i64 pi, .slice pa pl pc], .agg #[.int .i64 qop, .int .i64 qk, .int .i64 qn, .string qx, .string qs, .string qm, .int .i64 qi, .slice qa ql qc], .bool yes] w fun e w'=>e= .returned (Ch at' col op pop ⟨pk,pn,px⟩ pi qop ⟨qk,qn,qx⟩ qi yes).val∧Below w.heap.size w w' :=by
 have HNa :=fun W=>Nc pop ⟨pk,pn,px⟩ ps pm pi pa pl pc W
 have HNb :=fun W=>Nc qop ⟨qk,qn,qx⟩ qs qm qi qa ql qc W
 have HIa :=fun W=>N9 at' col pop ⟨pk,pn,px⟩ ps pm pi pa pl pc W hp.2.2
 have HIb :=fun W=>N9 at' col qop ⟨qk,qn,qx⟩ qs qm qi qa ql qc W hq.2.2
 cases n1 :I6 pop pk with
 | true=>
  rw [n1] at HNa
  rw [show Ch at' col op pop ⟨pk,pn,px⟩ pi qop ⟨qk,qn,qx⟩ qi yes=noS from by unfold Ch;simp [n1]]
  exact Ahp at' col op pop pk pn px ps pm pi pa pl pc qop qk qn qx qs qm qi qa ql qc yes w HNa
 | false=>
 rw [n1] at HNa
 cases n2 :I6 qop qk with
 | true=>
  rw [n2] at HNb
  rw [show Ch at' col op pop ⟨pk,pn,px⟩ pi qop ⟨qk,qn,qx⟩ qi yes=noS from by unfold Ch;simp [n2]]
  exact Ahq at' col op pop pk pn px ps pm pi pa pl pc qop qk qn qx qs qm qi qa ql qc yes w HNa HNb
 | false=>
 rw [n2] at HNb
 rcases hop with rfl | rfl
 ·cases i1 :isC at' col pop pi with
  | true=>
   rw [i1] at HIa
   have h2 :=Acg i1
   by_cases q1 :qop=1
   ·rw [show Ch at' col 5 pop ⟨pk,pn,px⟩ pi qop ⟨qk,qn,qx⟩ qi yes=Kd ⟨qk,qn,qx⟩ yes from by unfold Ch;simp_all]
    subst q1
    exact Ahr at' col pop pk pn px ps pm pi pa pl pc qk qn qx qs qm qi qa ql qc yes _ _ w HNa HNb HIa (fun W=>Wg ⟨qk,qn,qx⟩ yes W (hq.1 rfl) hq.2.1)
   ·rw [show Ch at' col 5 pop ⟨pk,pn,px⟩ pi qop ⟨qk,qn,qx⟩ qi yes=Ey noW from by unfold Ch;simp_all]
    subst h2
    exact Ahs at' col pk pn px ps pm pi pa pl pc qop qk qn qx qs qm qi qa ql qc yes _ _ w HNa HNb HIa q1 Fc
  | false=>
   rw [i1] at HIa
   by_cases p1 :pop=1
   ·cases i2 :isC at' col qop qi with
    | true=>
     rw [i2] at HIb
     rw [show Ch at' col 5 pop ⟨pk,pn,px⟩ pi qop ⟨qk,qn,qx⟩ qi yes=Kd ⟨pk,pn,px⟩ yes from by unfold Ch;simp_all]
     subst p1
     exact Ahu at' col pk pn px ps pm pi pa pl pc qop qk qn qx qs qm qi qa ql qc yes _ _ w HNa HNb HIa HIb (fun W=>Wg ⟨pk,pn,px⟩ yes W (hp.1 rfl) hp.2.1)
    | false=>
     rw [i2] at HIb
     rw [show Ch at' col 5 pop ⟨pk,pn,px⟩ pi qop ⟨qk,qn,qx⟩ qi yes=Ey noW from by unfold Ch;simp_all]
     subst p1
     exact Ahv at' col pk pn px ps pm pi pa pl pc qop qk qn qx qs qm qi qa ql qc yes _ _ w HNa HNb HIa HIb Fc
   ·rw [show Ch at' col 5 pop ⟨pk,pn,px⟩ pi qop ⟨qk,qn,qx⟩ qi yes=Ey noW from by unfold Ch;simp_all]
    exact Aht at' col pop pk pn px ps pm pi pa pl pc qop qk qn qx qs qm qi qa ql qc yes _ _ w HNa HNb HIa p1 Fc
 ·cases i1 :isC at' col pop pi with
  | true=>
   rw [i1] at HIa
   have h2 :=Acg i1
   by_cases q1 :qop=1
   ·rw [show Ch at' col 6 pop ⟨pk,pn,px⟩ pi qop ⟨qk,qn,qx⟩ qi yes=Kv ⟨qk,qn,qx⟩ yes from by unfold Ch;simp_all]
    subst q1
    exact Ahw at' col pop pk pn px ps pm pi pa pl pc qk qn qx qs qm qi qa ql qc yes _ _ w HNa HNb HIa (fun W=>Ace ⟨qk,qn,qx⟩ yes W (hq.1 rfl) hq.2.1)
   ·rw [show Ch at' col 6 pop ⟨pk,pn,px⟩ pi qop ⟨qk,qn,qx⟩ qi yes=Ey noW from by unfold Ch;simp_all]
    subst h2
    exact Ahx at' col pk pn px ps pm pi pa pl pc qop qk qn qx qs qm qi qa ql qc yes _ _ w HNa HNb HIa q1 Fc
  | false=>
   rw [i1] at HIa
   by_cases p1 :pop=1
   ·cases i2 :isC at' col qop qi with
    | true=>
     rw [i2] at HIb
     rw [show Ch at' col 6 pop ⟨pk,pn,px⟩ pi qop ⟨qk,qn,qx⟩ qi yes=I4 ⟨pk,pn,px⟩ yes from by unfold Ch;simp_all]
     subst p1
     exact Ahz at' col pk pn px ps pm pi pa pl pc qop qk qn qx qs qm qi qa ql qc yes _ _ w HNa HNb HIa HIb (fun W=>Aaj ⟨pk,pn,px⟩ yes W (hp.1 rfl) hp.2.1)
    | false=>
     rw [i2] at HIb
     rw [show Ch at' col 6 pop ⟨pk,pn,px⟩ pi qop ⟨qk,qn,qx⟩ qi yes=Ey noW from by unfold Ch;simp_all]
     subst p1
     exact Ah0 at' col pk pn px ps pm pi pa pl pc qop qk qn qx qs qm qi qa ql qc yes _ _ w HNa HNb HIa HIb Fc
   ·rw [show Ch at' col 6 pop ⟨pk,pn,px⟩ pi qop ⟨qk,qn,qx⟩ qi yes=Ey noW from by unfold Ch;simp_all]
    exact Ahy at' col pop pk pn px ps pm pi pa pl pc qop qk qn qx qs qm qi qa ql qc yes _ _ w HNa HNb HIa p1 Fc
end Go.Proofs.YthehiijgnepcfaaGreat


/-
  2 texts of this proof in one, in build order: QWhere7, QWhere8.
-/
import Derived.Test.YthehiijgnepcfaaGreatJ15
set_option linter.unusedSimpArgs false
set_option linter.unusedVariables false
namespace Go.Proofs.YthehiijgnepcfaaGreat
open Go.RowKit
set_option maxRecDepth 100000 in
set_option maxHeartbeats 40000000 in
theorem Aao (at' col :Int) (pk pn :Int) (px ps pm :Wd) (pi :Int) (b off pc :Nat) (pl :Nat) (qop qk qn :Int) (qx qs qm :Wd) (qi :Int) (qa :Option Addr) (ql qc :Nat) (top tk tn :Int) (tx ts tm :Wd) (ti :Int) (ta :Option Addr) (tl tc :Nat) (yes :Bool) (s1 s2 :Sp) (w :World) (hl :2≤pl) (hb :b<w.heap.size)
  (h1 :w.cell? ⟨b,off,none⟩ =some (.int .i64 qop) ∧w.cell? ⟨b,off+1,none⟩ =some (.int .i64 qk) ∧w.cell? ⟨b,off+2,none⟩ =some (.int .i64 qn) ∧w.cell? ⟨b,off+3,none⟩ =some (.string qx) ∧w.cell? ⟨b,off+4,none⟩ =some (.string qs) ∧w.cell? ⟨b,off+5,none⟩ =some (.string qm) ∧w.cell? ⟨b,off+6,none⟩ =some (.int .i64 qi) ∧w.cell? ⟨b,off+7,none⟩ =some (.slice qa ql qc)) (h2 :w.cell? ⟨b,off+8,none⟩ =some (.int .i64 top) ∧w.cell? ⟨b,off+8+1,none⟩ =some (.int .i64 tk) ∧w.cell? ⟨b,off+8+2,none⟩ =some (.int .i64 tn) ∧w.cell? ⟨b,off+8+3,none⟩ =some (.string tx) ∧w.cell? ⟨b,off+8+4,none⟩ =some (.string ts) ∧w.cell? ⟨b,off+8+5,none⟩ =some (.string tm) ∧w.cell? ⟨b,off+8+6,none⟩ =some (.int .i64 ti) ∧w.cell? ⟨b,off+8+7,none⟩ =some (.slice ta tl tc))
  (HA : ∀W,Below w.heap.size w W→Calls Tryz.prog 30 #[.agg #[.int .i64 at', .int .i64 col], .agg #[.int .i64 qop, .int .i64 qk, .int .i64 qn, .string qx, .string qs, .string qm, .int .i64 qi, .slice qa ql qc], .bool yes] W fun e w'=>e= .returned s1.val∧Below W.heap.size W w')
  (HB : ∀W,Below w.heap.size w W→Calls Tryz.prog 30 #[.agg #[.int .i64 at', .int .i64 col], .agg #[.int .i64 top, .int .i64 tk, .int .i64 tn, .string tx, .string ts, .string tm, .int .i64 ti, .slice ta tl tc], .bool yes] W fun e w'=>e= .returned s2.val∧Below W.heap.size W w') :
  Calls Tryz.prog 30 #[.agg #[.int .i64 at', .int .i64 col], .agg #[.int .i64 8, .int .i64 pk, .int .i64 pn, .string px, .string ps, .string pm, .int .i64 pi, .slice (some ⟨b,off,none⟩) pl pc], .bool yes] w fun e w'=>e= .returned (if yes then s1.either s2 else s1.both s2).val∧Below w.heap.size w w' :=by
 have HBo :=fun W=>Rp s1 s2 W
 have HEi :=fun W=>N8 s1 s2 W
 have l0 : (0 :Int) < (pl :Int) :=by omega
 have l1 : (1 :Int) < (pl :Int) :=by omega
 have n0 :0<pl :=by omega
 have n1 :1<pl :=by omega
 have B0 : (((w.alloc (.cells #[.int .i64 at', .int .i64 col] 83)).alloc (.cells #[.int .i64 8, .int .i64 pk, .int .i64 pn, .string px, .string ps, .string pm, .int .i64 pi, .slice (some ⟨b,off,none⟩) pl pc] 34)).alloc (.cells #[.string noW, .string noW] 81)).heap[w.heap.size]? =some (.cells #[.int .i64 at', .int .i64 col] 83) :=Ac (Ac (Ab _ _) _) _
 have B1 : (((w.alloc (.cells #[.int .i64 at', .int .i64 col] 83)).alloc (.cells #[.int .i64 8, .int .i64 pk, .int .i64 pn, .string px, .string ps, .string pm, .int .i64 pi, .slice (some ⟨b,off,none⟩) pl pc] 34)).alloc (.cells #[.string noW, .string noW] 81)).heap[w.heap.size+1]? =some (.cells #[.int .i64 8, .int .i64 pk, .int .i64 pn, .string px, .string ps, .string pm, .int .i64 pi, .slice (some ⟨b,off,none⟩) pl pc] 34) :=Ac (Aq _ _ _) _
 have B2 : (((w.alloc (.cells #[.int .i64 at', .int .i64 col] 83)).alloc (.cells #[.int .i64 8, .int .i64 pk, .int .i64 pn, .string px, .string ps, .string pm, .int .i64 pi, .slice (some ⟨b,off,none⟩) pl pc] 34)).alloc (.cells #[.string noW, .string noW] 81)).heap[w.heap.size+2]? =some (.cells #[.string noW, .string noW] 81) :=A6 _ _ _ _
 have hb3 :=Cb w (.cells #[.int .i64 at', .int .i64 col] 83) (.cells #[.int .i64 8, .int .i64 pk, .int .i64 pn, .string px, .string ps, .string pm, .int .i64 pi, .slice (some ⟨b,off,none⟩) pl pc] 34) (.cells #[.string noW, .string noW] 81)
 generalize hW : ((w.alloc (.cells #[.int .i64 at', .int .i64 col] 83)).alloc (.cells #[.int .i64 8, .int .i64 pk, .int .i64 pn, .string px, .string ps, .string pm, .int .i64 pi, .slice (some ⟨b,off,none⟩) pl pc] 34)).alloc (.cells #[.string noW, .string noW] 81) =V at B0 B1 B2 hb3
 have HW :Hid _ :=hW
 clear hW
 have cop :=Aa B1 (j :=0) (u := .int .i64 8) rfl
 have KS :Hid (∀W,Below V.heap.size V W→ (W.cell? ⟨w.heap.size,0,none⟩ =some (.int .i64 at') ∧W.cell? ⟨w.heap.size,1,none⟩ =some (.int .i64 col) ∧W.cell? ⟨w.heap.size+1,7,none⟩ =some (.slice (some ⟨b,off,none⟩) pl pc) ∧W.cell? ⟨b,off,none⟩ =some (.int .i64 qop) ∧W.cell? ⟨b,off+1,none⟩ =some (.int .i64 qk) ∧W.cell? ⟨b,off+2,none⟩ =some (.int .i64 qn) ∧W.cell? ⟨b,off+3,none⟩ =some (.string qx) ∧W.cell? ⟨b,off+4,none⟩ =some (.string qs) ∧W.cell? ⟨b,off+5,none⟩ =some (.string qm) ∧W.cell? ⟨b,off+6,none⟩ =some (.int .i64 qi) ∧W.cell? ⟨b,off+7,none⟩ =some (.slice qa ql qc) ∧W.cell? ⟨b,off+8,none⟩ =some (.int .i64 top) ∧W.cell? ⟨b,off+8+1,none⟩ =some (.int .i64 tk) ∧W.cell? ⟨b,off+8+2,none⟩ =some (.int .i64 tn) ∧W.cell? ⟨b,off+8+3,none⟩ =some (.string tx) ∧W.cell? ⟨b,off+8+4,none⟩ =some (.string ts) ∧W.cell? ⟨b,off+8+5,none⟩ =some (.string tm) ∧W.cell? ⟨b,off+8+6,none⟩ =some (.int .i64 ti) ∧W.cell? ⟨b,off+8+7,none⟩ =some (.slice ta tl tc))) :=fun W hW=>by
  have D0 := (hW.block _ (lt_of_block B0)).trans B0
  have D1 := (hW.block _ (lt_of_block B1)).trans B1
  have hbw :Below w.heap.size w W :=Ad hb3 hW
  have kc : ∀o,W.cell? ⟨b,o,none⟩ =w.cell? ⟨b,o,none⟩ :=fun o=>hbw.cell (p := ⟨b,o,none⟩) hb
  obtain ⟨x0,x1,x2,x3,x4,x5,x6,x7⟩ :=h1
  obtain ⟨y0,y1,y2,y3,y4,y5,y6,y7⟩ :=h2
  exact ⟨Aa D0 (j :=0) rfl,Aa D0 (j :=1) rfl,Aa D1 (j :=7) rfl,(kc _).trans x0,(kc _).trans x1,(kc _).trans x2,(kc _).trans x3,(kc _).trans x4,(kc _).trans x5,(kc _).trans x6,(kc _).trans x7,(kc _).trans y0,(kc _).trans y1,(kc _).trans y2,(kc _).trans y3,(kc _).trans y4,(kc _).trans y5,(kc _).trans y6,(kc _).trans y7⟩
 have pc' :=fun W (hW :Below V.heap.size V W) =>HA W (Ad hb3 hW)
 have dc' :=fun W (hW :Below V.heap.size V W) =>HB W (Ad hb3 hW)
 have BV :Hid _ :=And.intro B1 B2
 clear HA HB h1 h2 B0
 obtain ⟨lo1,hi1⟩ :=s1
 obtain ⟨lo2,hi2⟩ :=s2
 simp only [Sp.val] at pc' dc' HBo HEi
 generalize hbo : (Sp.mk lo1 hi1).both (Sp.mk lo2 hi2) =bo at HBo⊢
 generalize hei : (Sp.mk lo1 hi1).either (Sp.mk lo2 hi2) =ei at HEi⊢
 clear hbo hei
 have hin :V.heap.size=V.heap.size :=rfl
 go_enter Tryz.func30,Tryz.ntmps30
 go_upto_region 6 with fail
 rw [HW.out]
 go_cut [7,8] from 9 to 79 (fun s7 s8 wx=> ∃pa pb,s7= .pointer (some ⟨pa,0,none⟩) ∧s8= .pointer (some ⟨pb,0,none⟩) ∧Ke V wx pa pb lo1 hi1 lo2 hi2)
 case first=>
  have ks :=KS.out
  go_region_held3 (fun W=> (W.cell? ⟨w.heap.size,0,none⟩ =some (.int .i64 at') ∧W.cell? ⟨w.heap.size,1,none⟩ =some (.int .i64 col) ∧W.cell? ⟨w.heap.size+1,7,none⟩ =some (.slice (some ⟨b,off,none⟩) pl pc) ∧W.cell? ⟨b,off,none⟩ =some (.int .i64 qop) ∧W.cell? ⟨b,off+1,none⟩ =some (.int .i64 qk) ∧W.cell? ⟨b,off+2,none⟩ =some (.int .i64 qn) ∧W.cell? ⟨b,off+3,none⟩ =some (.string qx) ∧W.cell? ⟨b,off+4,none⟩ =some (.string qs) ∧W.cell? ⟨b,off+5,none⟩ =some (.string qm) ∧W.cell? ⟨b,off+6,none⟩ =some (.int .i64 qi) ∧W.cell? ⟨b,off+7,none⟩ =some (.slice qa ql qc) ∧W.cell? ⟨b,off+8,none⟩ =some (.int .i64 top) ∧W.cell? ⟨b,off+8+1,none⟩ =some (.int .i64 tk) ∧W.cell? ⟨b,off+8+2,none⟩ =some (.int .i64 tn) ∧W.cell? ⟨b,off+8+3,none⟩ =some (.string tx) ∧W.cell? ⟨b,off+8+4,none⟩ =some (.string ts) ∧W.cell? ⟨b,off+8+5,none⟩ =some (.string tm) ∧W.cell? ⟨b,off+8+6,none⟩ =some (.int .i64 ti) ∧W.cell? ⟨b,off+8+7,none⟩ =some (.slice ta tl tc)))
   (with_reducible first | exact ks _ (hz2) | exact ks _ (At hz2 _) | exact ks _ (At (At hz2 _) _) | exact ks _ (hz1) | exact ks _ (At hz1 _) | exact ks _ (At (At hz1 _) _) | exact ks _ ((Below.refl _ _).drew) | exact ks _ ((At (Below.refl _ _) _).drew) | exact ks _ ((At (At (Below.refl _ _) _) _).drew) | exact ks _ (Cs (Cs hz2 (by simp only;omega) _) (by simp only;omega) _) | exact ks _ (Cs (Cs (Cs (Cs hz2 (by simp only;omega) _) (by simp only;omega) _) (by simp only;omega) _) (by simp only;omega) _) | exact ks _ (Cs (Cs (At hz2 _) (by simp only;omega) _) (by simp only;omega) _) | exact ks _ (Cs (Cs (At (At hz2 _) _) (by simp only;omega) _) (by simp only;omega) _) | exact ks _ (At (Cs (Cs hz2 (by simp only;omega) _) (by simp only;omega) _) _) | go_keep)
   (first
    | (go_at_call_of 30 (Value.agg #[.int .i64 qop, .int .i64 qk, .int .i64 qn, .string qx, .string qs, .string qm, .int .i64 qi, .slice qa ql qc]);refine (pc' _ (by with_reducible first | exact (Below.refl _ _).drew | exact (At (Below.refl _ _) _).drew | exact (At (At (Below.refl _ _) _) _).drew)).mono ?_;rintro e w1 ⟨rfl,hb1⟩;have hz1 :Below V.heap.size V w1 :=Ad (by with_reducible first | exact (Below.refl _ _).drew | exact (At (Below.refl _ _) _).drew | exact (At (At (Below.refl _ _) _) _).drew) hb1;have hs1 :=hb1.size;simp only [World.size_alloc,A8] at hs1;have hs1l :=hz1.size)
    | (go_at_call_of 30 (Value.agg #[.int .i64 top, .int .i64 tk, .int .i64 tn, .string tx, .string ts, .string tm, .int .i64 ti, .slice ta tl tc]);refine (dc' _ (by with_reducible first | exact hz1 | exact At hz1 _ | exact At (At hz1 _) _)).mono ?_;rintro e w2 ⟨rfl,hb2⟩;have hz2 :Below V.heap.size V w2 :=Ad (by with_reducible first | exact hz1 | exact At hz1 _ | exact At (At hz1 _) _) hb2;have hs2 :=hb2.size;(try simp only [World.size_alloc] at hs2);(first | (have pA :w2.heap[V.heap.size]? =some (.cells #[.string noW, .string noW] 81) := (by with_reducible first | exact (hb2.block _ (by first | omega | (simp only [World.size_alloc];omega))).trans ((hb1.block _ (by first | (rw [A8,Bf];omega) | (rw [A8,Be];omega))).trans (Db (A0 (by with_reducible first | exact rfl | exact Be _ _ | exact Bf _ _ _) _))) | exact (hb2.block _ (by first | omega | (simp only [World.size_alloc];omega))).trans ((hb1.block _ (by first | (rw [A8,Bf];omega) | (rw [A8,Be];omega))).trans (Db (Ac (A0 (by with_reducible first | exact rfl | exact Be _ _ | exact Bf _ _ _) _) _))) | exact (hb2.block _ (by first | omega | (simp only [World.size_alloc];omega))).trans (Ac ((hb1.block _ (by first | (rw [A8,Bf];omega) | (rw [A8,Be];omega))).trans (Db (A0 (by with_reducible first | exact rfl | exact Be _ _ | exact Bf _ _ _) _))) _) | exact (hb2.block _ (by first | omega | (simp only [World.size_alloc];omega))).trans (Ac ((hb1.block _ (by first | (rw [A8,Bf];omega) | (rw [A8,Be];omega))).trans (Db (Ac (A0 (by with_reducible first | exact rfl | exact Be _ _ | exact Bf _ _ _) _) _))) _));have pA0 :w2.cell? ⟨V.heap.size,0,none⟩ =some (.string noW) :=Aa pA (j :=0) rfl;have pA1 :w2.cell? ⟨V.heap.size,1,none⟩ =some (.string noW) :=Aa pA (j :=1) rfl;have pAg :w2.frozen? ⟨V.heap.size,1,none⟩ =false := (by simp [World.frozen?,pA]);have pAf :w2.frozen? ⟨V.heap.size,0,none⟩ =false := (by simp [World.frozen?,pA]);have pAl :V.heap.size<w2.heap.size :=lt_of_block pA) | skip);(first | (have pB :w2.heap[V.heap.size+1]? =some (.cells #[.string noW, .string noW] 81) := (by with_reducible first | exact (hb2.block _ (by first | omega | (simp only [World.size_alloc];omega))).trans ((hb1.block _ (by first | (rw [A8,Bf];omega) | (rw [A8,Be];omega))).trans (Db (A0 (by with_reducible first | exact rfl | exact Be _ _ | exact Bf _ _ _) _))) | exact (hb2.block _ (by first | omega | (simp only [World.size_alloc];omega))).trans (Ac ((hb1.block _ (by first | (rw [A8,Bf];omega) | (rw [A8,Be];omega))).trans (Db (A0 (by with_reducible first | exact rfl | exact Be _ _ | exact Bf _ _ _) _))) _));have pB0 :w2.cell? ⟨V.heap.size+1,0,none⟩ =some (.string noW) :=Aa pB (j :=0) rfl;have pB1 :w2.cell? ⟨V.heap.size+1,1,none⟩ =some (.string noW) :=Aa pB (j :=1) rfl;have pBg :w2.frozen? ⟨V.heap.size+1,1,none⟩ =false := (by simp [World.frozen?,pB]);have pBf :w2.frozen? ⟨V.heap.size+1,0,none⟩ =false := (by simp [World.frozen?,pB]);have pBl :V.heap.size+1<w2.heap.size :=lt_of_block pB) | skip);(first | (have pC :w2.heap[w1.heap.size]? =some (.cells #[.string noW, .string noW] 81) := (by with_reducible first | exact (hb2.block _ (by first | omega | (simp only [World.size_alloc];omega))).trans (A0 (by with_reducible first | exact rfl | exact Be _ _ | exact Bf _ _ _) _) | exact (hb2.block _ (by first | omega | (simp only [World.size_alloc];omega))).trans (Ac (A0 (by with_reducible first | exact rfl | exact Be _ _ | exact Bf _ _ _) _) _));have pC0 :w2.cell? ⟨w1.heap.size,0,none⟩ =some (.string noW) :=Aa pC (j :=0) rfl;have pC1 :w2.cell? ⟨w1.heap.size,1,none⟩ =some (.string noW) :=Aa pC (j :=1) rfl;have pCg :w2.frozen? ⟨w1.heap.size,1,none⟩ =false := (by simp [World.frozen?,pC]);have pCf :w2.frozen? ⟨w1.heap.size,0,none⟩ =false := (by simp [World.frozen?,pC]);have pCl :w1.heap.size<w2.heap.size :=lt_of_block pC) | skip);(first | (have pD :w2.heap[w1.heap.size+1]? =some (.cells #[.string noW, .string noW] 81) := (by with_reducible first | exact (hb2.block _ (by first | omega | (simp only [World.size_alloc];omega))).trans (A0 (by with_reducible first | exact rfl | exact Be _ _ | exact Bf _ _ _) _));have pD0 :w2.cell? ⟨w1.heap.size+1,0,none⟩ =some (.string noW) :=Aa pD (j :=0) rfl;have pD1 :w2.cell? ⟨w1.heap.size+1,1,none⟩ =some (.string noW) :=Aa pD (j :=1) rfl;have pDg :w2.frozen? ⟨w1.heap.size+1,1,none⟩ =false := (by simp [World.frozen?,pD]);have pDf :w2.frozen? ⟨w1.heap.size+1,0,none⟩ =false := (by simp [World.frozen?,pD]);have pDl :w1.heap.size+1<w2.heap.size :=lt_of_block pD) | skip);(try have hne1 : ¬ (w1.heap.size=V.heap.size) := (by omega));(try have hne2 : ¬ (V.heap.size=w1.heap.size) := (by omega))))
  all_goals go_wp2_with fail
  all_goals go_meet
  all_goals
   refine ⟨_,_,rfl,rfl, ?_⟩
   with_reducible first
    | exact Wl hz2
    | exact Zh hz2
    | exact G7 hz2 pA (by omega)
    | exact G7 hz2 pB (by omega)
    | exact G7 hz2 pC (by omega)
    | exact G7 hz2 pD (by omega)
    | exact Gx hz2 pA (by omega)
    | exact Gx hz2 pB (by omega)
    | exact Gx hz2 pC (by omega)
    | exact Gx hz2 pD (by omega)
    | exact F7 hz2 pA (by omega)
    | exact F7 hz2 pB (by omega)
    | exact F7 hz2 pC (by omega)
    | exact F7 hz2 pD (by omega)
    | exact Fu hz2 pA (by omega)
    | exact Fu hz2 pB (by omega)
    | exact Fu hz2 pC (by omega)
    | exact Fu hz2 pD (by omega)
    | exact Bz hz2 pA pB (by omega) (by omega) (by omega)
    | exact Bz hz2 pA pC (by omega) (by omega) (by omega)
    | exact Bz hz2 pA pD (by omega) (by omega) (by omega)
    | exact Bz hz2 pB pA (by omega) (by omega) (by omega)
    | exact Bz hz2 pB pC (by omega) (by omega) (by omega)
    | exact Bz hz2 pB pD (by omega) (by omega) (by omega)
    | exact Bz hz2 pC pA (by omega) (by omega) (by omega)
    | exact Bz hz2 pC pB (by omega) (by omega) (by omega)
    | exact Bz hz2 pC pD (by omega) (by omega) (by omega)
    | exact Bz hz2 pD pA (by omega) (by omega) (by omega)
    | exact Bz hz2 pD pB (by omega) (by omega) (by omega)
    | exact Bz hz2 pD pC (by omega) (by omega) (by omega)
 case rest=>
  obtain ⟨pa,pb,rfl,rfl,hpa,hpb,hbx⟩ :=hcut
  have D1 := (hbx.block _ (lt_of_block BV.out.1)).trans BV.out.1
  obtain ⟨r0,r1,r2,r3,r4⟩ :=Am BV.out.2 hbx
  have dop :=Aa D1 (j :=0) (u := .int .i64 8) rfl
  have a0 :=Aa hpa (j :=0) (u := .string lo1) rfl
  have a1 :=Aa hpa (j :=1) (u := .string hi1) rfl
  have b0 :=Aa hpb (j :=0) (u := .string lo2) rfl
  have b1 :=Aa hpb (j :=1) (u := .string hi2) rfl
  cases yes
  ·go_wp2_with (go_at_call 67;go_must (go_fit (HBo _);rintro e w5 ⟨rfl,hb5⟩;obtain ⟨r0,r1,r2,r3,r4⟩ :=Am r0 hb5))
   exact A7 _ _ Tryz.results30 rfl rfl r0 (Ad hb3 (Ad hbx hb5)) (by omega) Tryz.underlying81 (by kernel_rfl)
  ·go_wp2_with (go_at_call 68;go_must (go_fit (HEi _);rintro e w5 ⟨rfl,hb5⟩;obtain ⟨r0,r1,r2,r3,r4⟩ :=Am r0 hb5))
   exact A7 _ _ Tryz.results30 rfl rfl r0 (Ad hb3 (Ad hbx hb5)) (by omega) Tryz.underlying81 (by kernel_rfl)
end Go.Proofs.YthehiijgnepcfaaGreat

namespace Go.Proofs.YthehiijgnepcfaaGreat
open Go.RowKit
set_option maxRecDepth 100000 in
set_option maxHeartbeats 8000000 in
theorem Acn (at' col :Int) (pk pn :Int) (px ps pm :Wd) (pi :Int) (b off pc :Nat) (pl :Nat) (qop qk qn :Int) (qx qs qm :Wd) (qi :Int) (qa :Option Addr) (ql qc :Nat) (yes :Bool) (s1 :Sp) (w :World) (hl :1≤pl) (hb :b<w.heap.size)
  (h1 :w.cell? ⟨b,off,none⟩ =some (.int .i64 qop) ∧w.cell? ⟨b,off+1,none⟩ =some (.int .i64 qk) ∧w.cell? ⟨b,off+2,none⟩ =some (.int .i64 qn) ∧w.cell? ⟨b,off+3,none⟩ =some (.string qx) ∧w.cell? ⟨b,off+4,none⟩ =some (.string qs) ∧w.cell? ⟨b,off+5,none⟩ =some (.string qm) ∧w.cell? ⟨b,off+6,none⟩ =some (.int .i64 qi) ∧w.cell? ⟨b,off+7,none⟩ =some (.slice qa ql qc))
  (HA : ∀W,Below w.heap.size w W→Calls Tryz.prog 30 #[.agg #[.int .i64 at', .int .i64 col], .agg #[.int .i64 qop, .int .i64 qk, .int .i64 qn, .string qx, .string qs, .string qm, .int .i64 qi, .slice qa ql qc], .bool (!yes)] W fun e w'=>e= .returned s1.val∧Below W.heap.size W w') :
  Calls Tryz.prog 30 #[.agg #[.int .i64 at', .int .i64 col], .agg #[.int .i64 9, .int .i64 pk, .int .i64 pn, .string px, .string ps, .string pm, .int .i64 pi, .slice (some ⟨b,off,none⟩) pl pc], .bool yes] w fun e w'=>e= .returned s1.val∧Below w.heap.size w w' :=by
 have l0 : (0 :Int) < (pl :Int) :=by omega
 have n0 :0<pl :=by omega
 have B0 : (((w.alloc (.cells #[.int .i64 at', .int .i64 col] 83)).alloc (.cells #[.int .i64 9, .int .i64 pk, .int .i64 pn, .string px, .string ps, .string pm, .int .i64 pi, .slice (some ⟨b,off,none⟩) pl pc] 34)).alloc (.cells #[.string noW, .string noW] 81)).heap[w.heap.size]? =some (.cells #[.int .i64 at', .int .i64 col] 83) :=Ac (Ac (Ab _ _) _) _
 have B1 : (((w.alloc (.cells #[.int .i64 at', .int .i64 col] 83)).alloc (.cells #[.int .i64 9, .int .i64 pk, .int .i64 pn, .string px, .string ps, .string pm, .int .i64 pi, .slice (some ⟨b,off,none⟩) pl pc] 34)).alloc (.cells #[.string noW, .string noW] 81)).heap[w.heap.size+1]? =some (.cells #[.int .i64 9, .int .i64 pk, .int .i64 pn, .string px, .string ps, .string pm, .int .i64 pi, .slice (some ⟨b,off,none⟩) pl pc] 34) :=Ac (Aq _ _ _) _
 have B2 : (((w.alloc (.cells #[.int .i64 at', .int .i64 col] 83)).alloc (.cells #[.int .i64 9, .int .i64 pk, .int .i64 pn, .string px, .string ps, .string pm, .int .i64 pi, .slice (some ⟨b,off,none⟩) pl pc] 34)).alloc (.cells #[.string noW, .string noW] 81)).heap[w.heap.size+2]? =some (.cells #[.string noW, .string noW] 81) :=A6 _ _ _ _
 have hb3 :=Cb w (.cells #[.int .i64 at', .int .i64 col] 83) (.cells #[.int .i64 9, .int .i64 pk, .int .i64 pn, .string px, .string ps, .string pm, .int .i64 pi, .slice (some ⟨b,off,none⟩) pl pc] 34) (.cells #[.string noW, .string noW] 81)
 generalize hW : ((w.alloc (.cells #[.int .i64 at', .int .i64 col] 83)).alloc (.cells #[.int .i64 9, .int .i64 pk, .int .i64 pn, .string px, .string ps, .string pm, .int .i64 pi, .slice (some ⟨b,off,none⟩) pl pc] 34)).alloc (.cells #[.string noW, .string noW] 81) =V at B0 B1 B2 hb3
 have HW :Hid _ :=hW
 clear hW
 have cop :=Aa B1 (j :=0) (u := .int .i64 9) rfl
 have KS :Hid (∀W,Below (w.heap.size+2) V W→ (W.cell? ⟨w.heap.size,0,none⟩ =some (.int .i64 at') ∧W.cell? ⟨w.heap.size,1,none⟩ =some (.int .i64 col) ∧W.cell? ⟨w.heap.size+1,7,none⟩ =some (.slice (some ⟨b,off,none⟩) pl pc) ∧W.cell? ⟨b,off,none⟩ =some (.int .i64 qop) ∧W.cell? ⟨b,off+1,none⟩ =some (.int .i64 qk) ∧W.cell? ⟨b,off+2,none⟩ =some (.int .i64 qn) ∧W.cell? ⟨b,off+3,none⟩ =some (.string qx) ∧W.cell? ⟨b,off+4,none⟩ =some (.string qs) ∧W.cell? ⟨b,off+5,none⟩ =some (.string qm) ∧W.cell? ⟨b,off+6,none⟩ =some (.int .i64 qi) ∧W.cell? ⟨b,off+7,none⟩ =some (.slice qa ql qc))) :=fun W hW=>by
  have D0 := (hW.block _ (by omega)).trans B0
  have D1 := (hW.block _ (by omega)).trans B1
  have hbw :Below w.heap.size w W :=hb3.trans (hW.mono (by omega))
  have kc : ∀o,W.cell? ⟨b,o,none⟩ =w.cell? ⟨b,o,none⟩ :=fun o=>hbw.cell (p := ⟨b,o,none⟩) hb
  obtain ⟨x0,x1,x2,x3,x4,x5,x6,x7⟩ :=h1
  exact ⟨Aa D0 (j :=0) rfl,Aa D0 (j :=1) rfl,Aa D1 (j :=7) rfl,(kc _).trans x0,(kc _).trans x1,(kc _).trans x2,(kc _).trans x3,(kc _).trans x4,(kc _).trans x5,(kc _).trans x6,(kc _).trans x7⟩
 have lV :w.heap.size+2<V.heap.size :=lt_of_block B2
 have HC :=fun W (hW :Below V.heap.size V W) =>HA W (Ad hb3 hW)
 have y0 :=KS.out V.drew ((Below.refl _ V).drew)
 clear HA h1 B0
 obtain ⟨lo1,hi1⟩ :=s1
 simp only [Sp.val] at HC⊢
 go_enter Tryz.func30,Tryz.ntmps30
 go_upto_region 3 with fail
 rw [HW.out]
 go_region_held3 (fun W=> (W.cell? ⟨w.heap.size,0,none⟩ =some (.int .i64 at') ∧W.cell? ⟨w.heap.size,1,none⟩ =some (.int .i64 col) ∧W.cell? ⟨w.heap.size+1,7,none⟩ =some (.slice (some ⟨b,off,none⟩) pl pc) ∧W.cell? ⟨b,off,none⟩ =some (.int .i64 qop) ∧W.cell? ⟨b,off+1,none⟩ =some (.int .i64 qk) ∧W.cell? ⟨b,off+2,none⟩ =some (.int .i64 qn) ∧W.cell? ⟨b,off+3,none⟩ =some (.string qx) ∧W.cell? ⟨b,off+4,none⟩ =some (.string qs) ∧W.cell? ⟨b,off+5,none⟩ =some (.string qm) ∧W.cell? ⟨b,off+6,none⟩ =some (.int .i64 qi) ∧W.cell? ⟨b,off+7,none⟩ =some (.slice qa ql qc)))
  (with_reducible first | exact y0 | exact y1 | exact KS.out _ ((zz.mono (Nat.le_of_lt lV)).setCell (Nat.le_refl _) _ |>.setCell (Nat.le_refl _) _))
  (first | (go_at_call 30;refine (HC _ ((Below.refl _ V).drew)).mono ?_;rintro e w1 ⟨rfl,hb1⟩;have zz :Below V.heap.size V w1 :=Ad (Below.refl _ V).drew hb1;have y1 :=KS.out _ (zz.mono (Nat.le_of_lt lV));obtain ⟨r0,r1,r2,r3,r4⟩ :=Am B2 zz))
 go_wp2
 exact A7 _ _ Tryz.results30 rfl rfl r0 (Ad hb3 zz) (by omega) Tryz.underlying81 (by kernel_rfl)
set_option maxRecDepth 100000 in
set_option maxHeartbeats 8000000 in
theorem Aek (at' col :Int) (pk pn :Int) (px ps pm :Wd) (pi :Int) (b off pc :Nat) (pl :Nat) (qop qk qn :Int) (qx qs qm :Wd) (qi :Int) (qa :Option Addr) (ql qc :Nat) (yes :Bool) (s1 :Sp) (w :World) (hl :1≤pl) (hb :b<w.heap.size)
  (h1 :w.cell? ⟨b,off,none⟩ =some (.int .i64 qop) ∧w.cell? ⟨b,off+1,none⟩ =some (.int .i64 qk) ∧w.cell? ⟨b,off+2,none⟩ =some (.int .i64 qn) ∧w.cell? ⟨b,off+3,none⟩ =some (.string qx) ∧w.cell? ⟨b,off+4,none⟩ =some (.string qs) ∧w.cell? ⟨b,off+5,none⟩ =some (.string qm) ∧w.cell? ⟨b,off+6,none⟩ =some (.int .i64 qi) ∧w.cell? ⟨b,off+7,none⟩ =some (.slice qa ql qc))
  (HA : ∀W,Below w.heap.size w W→Calls Tryz.prog 69 #[.agg #[.int .i64 at', .int .i64 col], .agg #[.int .i64 qop, .int .i64 qk, .int .i64 qn, .string qx, .string qs, .string qm, .int .i64 qi, .slice qa ql qc], .bool (yes)] W fun e w'=>e= .returned s1.val∧Below W.heap.size W w') :
  Calls Tryz.prog 30 #[.agg #[.int .i64 at', .int .i64 col], .agg #[.int .i64 10, .int .i64 pk, .int .i64 pn, .string px, .string ps, .string pm, .int .i64 pi, .slice (some ⟨b,off,none⟩) pl pc], .bool yes] w fun e w'=>e= .returned s1.val∧Below w.heap.size w w' :=by
 have l0 : (0 :Int) < (pl :Int) :=by omega
 have n0 :0<pl :=by omega
 have B0 : (((w.alloc (.cells #[.int .i64 at', .int .i64 col] 83)).alloc (.cells #[.int .i64 10, .int .i64 pk, .int .i64 pn, .string px, .string ps, .string pm, .int .i64 pi, .slice (some ⟨b,off,none⟩) pl pc] 34)).alloc (.cells #[.string noW, .string noW] 81)).heap[w.heap.size]? =some (.cells #[.int .i64 at', .int .i64 col] 83) :=Ac (Ac (Ab _ _) _) _
 have B1 : (((w.alloc (.cells #[.int .i64 at', .int .i64 col] 83)).alloc (.cells #[.int .i64 10, .int .i64 pk, .int .i64 pn, .string px, .string ps, .string pm, .int .i64 pi, .slice (some ⟨b,off,none⟩) pl pc] 34)).alloc (.cells #[.string noW, .string noW] 81)).heap[w.heap.size+1]? =some (.cells #[.int .i64 10, .int .i64 pk, .int .i64 pn, .string px, .string ps, .string pm, .int .i64 pi, .slice (some ⟨b,off,none⟩) pl pc] 34) :=Ac (Aq _ _ _) _
 have B2 : (((w.alloc (.cells #[.int .i64 at', .int .i64 col] 83)).alloc (.cells #[.int .i64 10, .int .i64 pk, .int .i64 pn, .string px, .string ps, .string pm, .int .i64 pi, .slice (some ⟨b,off,none⟩) pl pc] 34)).alloc (.cells #[.string noW, .string noW] 81)).heap[w.heap.size+2]? =some (.cells #[.string noW, .string noW] 81) :=A6 _ _ _ _
 have hb3 :=Cb w (.cells #[.int .i64 at', .int .i64 col] 83) (.cells #[.int .i64 10, .int .i64 pk, .int .i64 pn, .string px, .string ps, .string pm, .int .i64 pi, .slice (some ⟨b,off,none⟩) pl pc] 34) (.cells #[.string noW, .string noW] 81)
 generalize hW : ((w.alloc (.cells #[.int .i64 at', .int .i64 col] 83)).alloc (.cells #[.int .i64 10, .int .i64 pk, .int .i64 pn, .string px, .string ps, .string pm, .int .i64 pi, .slice (some ⟨b,off,none⟩) pl pc] 34)).alloc (.cells #[.string noW, .string noW] 81) =V at B0 B1 B2 hb3
 have HW :Hid _ :=hW
 clear hW
 have cop :=Aa B1 (j :=0) (u := .int .i64 10) rfl
 have KS :Hid (∀W,Below (w.heap.size+2) V W→ (W.cell? ⟨w.heap.size,0,none⟩ =some (.int .i64 at') ∧W.cell? ⟨w.heap.size,1,none⟩ =some (.int .i64 col) ∧W.cell? ⟨w.heap.size+1,7,none⟩ =some (.slice (some ⟨b,off,none⟩) pl pc) ∧W.cell? ⟨b,off,none⟩ =some (.int .i64 qop) ∧W.cell? ⟨b,off+1,none⟩ =some (.int .i64 qk) ∧W.cell? ⟨b,off+2,none⟩ =some (.int .i64 qn) ∧W.cell? ⟨b,off+3,none⟩ =some (.string qx) ∧W.cell? ⟨b,off+4,none⟩ =some (.string qs) ∧W.cell? ⟨b,off+5,none⟩ =some (.string qm) ∧W.cell? ⟨b,off+6,none⟩ =some (.int .i64 qi) ∧W.cell? ⟨b,off+7,none⟩ =some (.slice qa ql qc))) :=fun W hW=>by
  have D0 := (hW.block _ (by omega)).trans B0
  have D1 := (hW.block _ (by omega)).trans B1
  have hbw :Below w.heap.size w W :=hb3.trans (hW.mono (by omega))
  have kc : ∀o,W.cell? ⟨b,o,none⟩ =w.cell? ⟨b,o,none⟩ :=fun o=>hbw.cell (p := ⟨b,o,none⟩) hb
  obtain ⟨x0,x1,x2,x3,x4,x5,x6,x7⟩ :=h1
  exact ⟨Aa D0 (j :=0) rfl,Aa D0 (j :=1) rfl,Aa D1 (j :=7) rfl,(kc _).trans x0,(kc _).trans x1,(kc _).trans x2,(kc _).trans x3,(kc _).trans x4,(kc _).trans x5,(kc _).trans x6,(kc _).trans x7⟩
 have lV :w.heap.size+2<V.heap.size :=lt_of_block B2
 have HC :=fun W (hW :Below V.heap.size V W) =>HA W (Ad hb3 hW)
 have y0 :=KS.out V.drew ((Below.refl _ V).drew)
 clear HA h1 B0
 obtain ⟨lo1,hi1⟩ :=s1
 simp only [Sp.val] at HC⊢
 go_enter Tryz.func30,Tryz.ntmps30
 go_upto_region 11 with fail
 rw [HW.out]
 go_region_held3 (fun W=> (W.cell? ⟨w.heap.size,0,none⟩ =some (.int .i64 at') ∧W.cell? ⟨w.heap.size,1,none⟩ =some (.int .i64 col) ∧W.cell? ⟨w.heap.size+1,7,none⟩ =some (.slice (some ⟨b,off,none⟩) pl pc) ∧W.cell? ⟨b,off,none⟩ =some (.int .i64 qop) ∧W.cell? ⟨b,off+1,none⟩ =some (.int .i64 qk) ∧W.cell? ⟨b,off+2,none⟩ =some (.int .i64 qn) ∧W.cell? ⟨b,off+3,none⟩ =some (.string qx) ∧W.cell? ⟨b,off+4,none⟩ =some (.string qs) ∧W.cell? ⟨b,off+5,none⟩ =some (.string qm) ∧W.cell? ⟨b,off+6,none⟩ =some (.int .i64 qi) ∧W.cell? ⟨b,off+7,none⟩ =some (.slice qa ql qc)))
  (with_reducible first | exact y0 | exact y1 | exact KS.out _ ((zz.mono (Nat.le_of_lt lV)).setCell (Nat.le_refl _) _ |>.setCell (Nat.le_refl _) _))
  (first | (go_at_call 69;refine (HC _ ((Below.refl _ V).drew)).mono ?_;rintro e w1 ⟨rfl,hb1⟩;have zz :Below V.heap.size V w1 :=Ad (Below.refl _ V).drew hb1;have y1 :=KS.out _ (zz.mono (Nat.le_of_lt lV));obtain ⟨r0,r1,r2,r3,r4⟩ :=Am B2 zz))
 go_wp2
 exact A7 _ _ Tryz.results30 rfl rfl r0 (Ad hb3 zz) (by omega) Tryz.underlying81 (by kernel_rfl)
set_option maxRecDepth 100000 in
set_option maxHeartbeats 8000000 in
theorem Aap (at' col :Int) (pk pn :Int) (px ps pm :Wd) (pi :Int) (b off pc :Nat) (pl :Nat) (qop qk qn :Int) (qx qs qm :Wd) (qi :Int) (qa :Option Addr) (ql qc :Nat) (top tk tn :Int) (tx ts tm :Wd) (ti :Int) (ta :Option Addr) (tl tc :Nat) (yes :Bool) (s1 :Sp) (w :World) (hl :2≤pl) (hb :b<w.heap.size)
  (h1 :w.cell? ⟨b,off,none⟩ =some (.int .i64 qop) ∧w.cell? ⟨b,off+1,none⟩ =some (.int .i64 qk) ∧w.cell? ⟨b,off+2,none⟩ =some (.int .i64 qn) ∧w.cell? ⟨b,off+3,none⟩ =some (.string qx) ∧w.cell? ⟨b,off+4,none⟩ =some (.string qs) ∧w.cell? ⟨b,off+5,none⟩ =some (.string qm) ∧w.cell? ⟨b,off+6,none⟩ =some (.int .i64 qi) ∧w.cell? ⟨b,off+7,none⟩ =some (.slice qa ql qc)) (h2 :w.cell? ⟨b,off+8,none⟩ =some (.int .i64 top) ∧w.cell? ⟨b,off+8+1,none⟩ =some (.int .i64 tk) ∧w.cell? ⟨b,off+8+2,none⟩ =some (.int .i64 tn) ∧w.cell? ⟨b,off+8+3,none⟩ =some (.string tx) ∧w.cell? ⟨b,off+8+4,none⟩ =some (.string ts) ∧w.cell? ⟨b,off+8+5,none⟩ =some (.string tm) ∧w.cell? ⟨b,off+8+6,none⟩ =some (.int .i64 ti) ∧w.cell? ⟨b,off+8+7,none⟩ =some (.slice ta tl tc))
  (HA : ∀W,Below w.heap.size w W→Calls Tryz.prog 70 #[.agg #[.int .i64 at', .int .i64 col], .int .i64 5, .agg #[.int .i64 qop, .int .i64 qk, .int .i64 qn, .string qx, .string qs, .string qm, .int .i64 qi, .slice qa ql qc], .agg #[.int .i64 top, .int .i64 tk, .int .i64 tn, .string tx, .string ts, .string tm, .int .i64 ti, .slice ta tl tc], .bool yes] W fun e w'=>e= .returned s1.val∧Below W.heap.size W w') :
  Calls Tryz.prog 30 #[.agg #[.int .i64 at', .int .i64 col], .agg #[.int .i64 5, .int .i64 pk, .int .i64 pn, .string px, .string ps, .string pm, .int .i64 pi, .slice (some ⟨b,off,none⟩) pl pc], .bool yes] w fun e w'=>e= .returned s1.val∧Below w.heap.size w w' :=by
 have l0 : (0 :Int) < (pl :Int) :=by omega
 have n0 :0<pl :=by omega
 have l1 : (1 :Int) < (pl :Int) :=by omega
 have n1 :1<pl :=by omega
 have B0 : (((w.alloc (.cells #[.int .i64 at', .int .i64 col] 83)).alloc (.cells #[.int .i64 5, .int .i64 pk, .int .i64 pn, .string px, .string ps, .string pm, .int .i64 pi, .slice (some ⟨b,off,none⟩) pl pc] 34)).alloc (.cells #[.string noW, .string noW] 81)).heap[w.heap.size]? =some (.cells #[.int .i64 at', .int .i64 col] 83) :=Ac (Ac (Ab _ _) _) _
 have B1 : (((w.alloc (.cells #[.int .i64 at', .int .i64 col] 83)).alloc (.cells #[.int .i64 5, .int .i64 pk, .int .i64 pn, .string px, .string ps, .string pm, .int .i64 pi, .slice (some ⟨b,off,none⟩) pl pc] 34)).alloc (.cells #[.string noW, .string noW] 81)).heap[w.heap.size+1]? =some (.cells #[.int .i64 5, .int .i64 pk, .int .i64 pn, .string px, .string ps, .string pm, .int .i64 pi, .slice (some ⟨b,off,none⟩) pl pc] 34) :=Ac (Aq _ _ _) _
 have B2 : (((w.alloc (.cells #[.int .i64 at', .int .i64 col] 83)).alloc (.cells #[.int .i64 5, .int .i64 pk, .int .i64 pn, .string px, .string ps, .string pm, .int .i64 pi, .slice (some ⟨b,off,none⟩) pl pc] 34)).alloc (.cells #[.string noW, .string noW] 81)).heap[w.heap.size+2]? =some (.cells #[.string noW, .string noW] 81) :=A6 _ _ _ _
 have hb3 :=Cb w (.cells #[.int .i64 at', .int .i64 col] 83) (.cells #[.int .i64 5, .int .i64 pk, .int .i64 pn, .string px, .string ps, .string pm, .int .i64 pi, .slice (some ⟨b,off,none⟩) pl pc] 34) (.cells #[.string noW, .string noW] 81)
 generalize hW : ((w.alloc (.cells #[.int .i64 at', .int .i64 col] 83)).alloc (.cells #[.int .i64 5, .int .i64 pk, .int .i64 pn, .string px, .string ps, .string pm, .int .i64 pi, .slice (some ⟨b,off,none⟩) pl pc] 34)).alloc (.cells #[.string noW, .string noW] 81) =V at B0 B1 B2 hb3
 have HW :Hid _ :=hW
 clear hW
 have cop :=Aa B1 (j :=0) (u := .int .i64 5) rfl
 have KS :Hid (∀W,Below (w.heap.size+2) V W→ (W.cell? ⟨w.heap.size,0,none⟩ =some (.int .i64 at') ∧W.cell? ⟨w.heap.size,1,none⟩ =some (.int .i64 col) ∧W.cell? ⟨w.heap.size+1,0,none⟩ =some (.int .i64 5) ∧W.cell? ⟨w.heap.size+1,7,none⟩ =some (.slice (some ⟨b,off,none⟩) pl pc) ∧W.cell? ⟨b,off,none⟩ =some (.int .i64 qop) ∧W.cell? ⟨b,off+1,none⟩ =some (.int .i64 qk) ∧W.cell? ⟨b,off+2,none⟩ =some (.int .i64 qn) ∧W.cell? ⟨b,off+3,none⟩ =some (.string qx) ∧W.cell? ⟨b,off+4,none⟩ =some (.string qs) ∧W.cell? ⟨b,off+5,none⟩ =some (.string qm) ∧W.cell? ⟨b,off+6,none⟩ =some (.int .i64 qi) ∧W.cell? ⟨b,off+7,none⟩ =some (.slice qa ql qc) ∧W.cell? ⟨b,off+8,none⟩ =some (.int .i64 top) ∧W.cell? ⟨b,off+8+1,none⟩ =some (.int .i64 tk) ∧W.cell? ⟨b,off+8+2,none⟩ =some (.int .i64 tn) ∧W.cell? ⟨b,off+8+3,none⟩ =some (.string tx) ∧W.cell? ⟨b,off+8+4,none⟩ =some (.string ts) ∧W.cell? ⟨b,off+8+5,none⟩ =some (.string tm) ∧W.cell? ⟨b,off+8+6,none⟩ =some (.int .i64 ti) ∧W.cell? ⟨b,off+8+7,none⟩ =some (.slice ta tl tc))) :=fun W hW=>by
  have D0 := (hW.block _ (by omega)).trans B0
  have D1 := (hW.block _ (by omega)).trans B1
  have hbw :Below w.heap.size w W :=hb3.trans (hW.mono (by omega))
  have kc : ∀o,W.cell? ⟨b,o,none⟩ =w.cell? ⟨b,o,none⟩ :=fun o=>hbw.cell (p := ⟨b,o,none⟩) hb
  obtain ⟨x0,x1,x2,x3,x4,x5,x6,x7⟩ :=h1
  obtain ⟨y0,y1,y2,y3,y4,y5,y6,y7⟩ :=h2
  exact ⟨Aa D0 (j :=0) rfl,Aa D0 (j :=1) rfl,Aa D1 (j :=0) rfl,Aa D1 (j :=7) rfl,(kc _).trans x0,(kc _).trans x1,(kc _).trans x2,(kc _).trans x3,(kc _).trans x4,(kc _).trans x5,(kc _).trans x6,(kc _).trans x7,(kc _).trans y0,(kc _).trans y1,(kc _).trans y2,(kc _).trans y3,(kc _).trans y4,(kc _).trans y5,(kc _).trans y6,(kc _).trans y7⟩
 have lV :w.heap.size+2<V.heap.size :=lt_of_block B2
 have HC :=fun W (hW :Below V.heap.size V W) =>HA W (Ad hb3 hW)
 have y0 :=KS.out V.drew ((Below.refl _ V).drew)
 clear HA h1 h2 B0
 obtain ⟨lo1,hi1⟩ :=s1
 simp only [Sp.val] at HC⊢
 go_enter Tryz.func30,Tryz.ntmps30
 go_upto_region 14 with fail
 rw [HW.out]
 go_region_held3 (fun W=> (W.cell? ⟨w.heap.size,0,none⟩ =some (.int .i64 at') ∧W.cell? ⟨w.heap.size,1,none⟩ =some (.int .i64 col) ∧W.cell? ⟨w.heap.size+1,0,none⟩ =some (.int .i64 5) ∧W.cell? ⟨w.heap.size+1,7,none⟩ =some (.slice (some ⟨b,off,none⟩) pl pc) ∧W.cell? ⟨b,off,none⟩ =some (.int .i64 qop) ∧W.cell? ⟨b,off+1,none⟩ =some (.int .i64 qk) ∧W.cell? ⟨b,off+2,none⟩ =some (.int .i64 qn) ∧W.cell? ⟨b,off+3,none⟩ =some (.string qx) ∧W.cell? ⟨b,off+4,none⟩ =some (.string qs) ∧W.cell? ⟨b,off+5,none⟩ =some (.string qm) ∧W.cell? ⟨b,off+6,none⟩ =some (.int .i64 qi) ∧W.cell? ⟨b,off+7,none⟩ =some (.slice qa ql qc) ∧W.cell? ⟨b,off+8,none⟩ =some (.int .i64 top) ∧W.cell? ⟨b,off+8+1,none⟩ =some (.int .i64 tk) ∧W.cell? ⟨b,off+8+2,none⟩ =some (.int .i64 tn) ∧W.cell? ⟨b,off+8+3,none⟩ =some (.string tx) ∧W.cell? ⟨b,off+8+4,none⟩ =some (.string ts) ∧W.cell? ⟨b,off+8+5,none⟩ =some (.string tm) ∧W.cell? ⟨b,off+8+6,none⟩ =some (.int .i64 ti) ∧W.cell? ⟨b,off+8+7,none⟩ =some (.slice ta tl tc)))
  (with_reducible first | exact y0 | exact y1 | exact KS.out _ ((zz.mono (Nat.le_of_lt lV)).setCell (Nat.le_refl _) _ |>.setCell (Nat.le_refl _) _))
  (first | (go_at_call 70;refine (HC _ ((Below.refl _ V).drew)).mono ?_;rintro e w1 ⟨rfl,hb1⟩;have zz :Below V.heap.size V w1 :=Ad (Below.refl _ V).drew hb1;have y1 :=KS.out _ (zz.mono (Nat.le_of_lt lV));obtain ⟨r0,r1,r2,r3,r4⟩ :=Am B2 zz))
 go_wp2
 exact A7 _ _ Tryz.results30 rfl rfl r0 (Ad hb3 zz) (by omega) Tryz.underlying81 (by kernel_rfl)
set_option maxRecDepth 100000 in
set_option maxHeartbeats 8000000 in
theorem Aaq (at' col :Int) (pk pn :Int) (px ps pm :Wd) (pi :Int) (b off pc :Nat) (pl :Nat) (qop qk qn :Int) (qx qs qm :Wd) (qi :Int) (qa :Option Addr) (ql qc :Nat) (top tk tn :Int) (tx ts tm :Wd) (ti :Int) (ta :Option Addr) (tl tc :Nat) (yes :Bool) (s1 :Sp) (w :World) (hl :2≤pl) (hb :b<w.heap.size)
  (h1 :w.cell? ⟨b,off,none⟩ =some (.int .i64 qop) ∧w.cell? ⟨b,off+1,none⟩ =some (.int .i64 qk) ∧w.cell? ⟨b,off+2,none⟩ =some (.int .i64 qn) ∧w.cell? ⟨b,off+3,none⟩ =some (.string qx) ∧w.cell? ⟨b,off+4,none⟩ =some (.string qs) ∧w.cell? ⟨b,off+5,none⟩ =some (.string qm) ∧w.cell? ⟨b,off+6,none⟩ =some (.int .i64 qi) ∧w.cell? ⟨b,off+7,none⟩ =some (.slice qa ql qc)) (h2 :w.cell? ⟨b,off+8,none⟩ =some (.int .i64 top) ∧w.cell? ⟨b,off+8+1,none⟩ =some (.int .i64 tk) ∧w.cell? ⟨b,off+8+2,none⟩ =some (.int .i64 tn) ∧w.cell? ⟨b,off+8+3,none⟩ =some (.string tx) ∧w.cell? ⟨b,off+8+4,none⟩ =some (.string ts) ∧w.cell? ⟨b,off+8+5,none⟩ =some (.string tm) ∧w.cell? ⟨b,off+8+6,none⟩ =some (.int .i64 ti) ∧w.cell? ⟨b,off+8+7,none⟩ =some (.slice ta tl tc))
  (HA : ∀W,Below w.heap.size w W→Calls Tryz.prog 70 #[.agg #[.int .i64 at', .int .i64 col], .int .i64 6, .agg #[.int .i64 qop, .int .i64 qk, .int .i64 qn, .string qx, .string qs, .string qm, .int .i64 qi, .slice qa ql qc], .agg #[.int .i64 top, .int .i64 tk, .int .i64 tn, .string tx, .string ts, .string tm, .int .i64 ti, .slice ta tl tc], .bool yes] W fun e w'=>e= .returned s1.val∧Below W.heap.size W w') :
  Calls Tryz.prog 30 #[.agg #[.int .i64 at', .int .i64 col], .agg #[.int .i64 6, .int .i64 pk, .int .i64 pn, .string px, .string ps, .string pm, .int .i64 pi, .slice (some ⟨b,off,none⟩) pl pc], .bool yes] w fun e w'=>e= .returned s1.val∧Below w.heap.size w w' :=by
 have l0 : (0 :Int) < (pl :Int) :=by omega
 have n0 :0<pl :=by omega
 have l1 : (1 :Int) < (pl :Int) :=by omega
 have n1 :1<pl :=by omega
 have B0 : (((w.alloc (.cells #[.int .i64 at', .int .i64 col] 83)).alloc (.cells #[.int .i64 6, .int .i64 pk, .int .i64 pn, .string px, .string ps, .string pm, .int .i64 pi, .slice (some ⟨b,off,none⟩) pl pc] 34)).alloc (.cells #[.string noW, .string noW] 81)).heap[w.heap.size]? =some (.cells #[.int .i64 at', .int .i64 col] 83) :=Ac (Ac (Ab _ _) _) _
 have B1 : (((w.alloc (.cells #[.int .i64 at', .int .i64 col] 83)).alloc (.cells #[.int .i64 6, .int .i64 pk, .int .i64 pn, .string px, .string ps, .string pm, .int .i64 pi, .slice (some ⟨b,off,none⟩) pl pc] 34)).alloc (.cells #[.string noW, .string noW] 81)).heap[w.heap.size+1]? =some (.cells #[.int .i64 6, .int .i64 pk, .int .i64 pn, .string px, .string ps, .string pm, .int .i64 pi, .slice (some ⟨b,off,none⟩) pl pc] 34) :=Ac (Aq _ _ _) _
 have B2 : (((w.alloc (.cells #[.int .i64 at', .int .i64 col] 83)).alloc (.cells #[.int .i64 6, .int .i64 pk, .int .i64 pn, .string px, .string ps, .string pm, .int .i64 pi, .slice (some ⟨b,off,none⟩) pl pc] 34)).alloc (.cells #[.string noW, .string noW] 81)).heap[w.heap.size+2]? =some (.cells #[.string noW, .string noW] 81) :=A6 _ _ _ _
 have hb3 :=Cb w (.cells #[.int .i64 at', .int .i64 col] 83) (.cells #[.int .i64 6, .int .i64 pk, .int .i64 pn, .string px, .string ps, .string pm, .int .i64 pi, .slice (some ⟨b,off,none⟩) pl pc] 34) (.cells #[.string noW, .string noW] 81)
 generalize hW : ((w.alloc (.cells #[.int .i64 at', .int .i64 col] 83)).alloc (.cells #[.int .i64 6, .int .i64 pk, .int .i64 pn, .string px, .string ps, .string pm, .int .i64 pi, .slice (some ⟨b,off,none⟩) pl pc] 34)).alloc (.cells #[.string noW, .string noW] 81) =V at B0 B1 B2 hb3
 have HW :Hid _ :=hW
 clear hW
 have cop :=Aa B1 (j :=0) (u := .int .i64 6) rfl
 have KS :Hid (∀W,Below (w.heap.size+2) V W→ (W.cell? ⟨w.heap.size,0,none⟩ =some (.int .i64 at') ∧W.cell? ⟨w.heap.size,1,none⟩ =some (.int .i64 col) ∧W.cell? ⟨w.heap.size+1,0,none⟩ =some (.int .i64 6) ∧W.cell? ⟨w.heap.size+1,7,none⟩ =some (.slice (some ⟨b,off,none⟩) pl pc) ∧W.cell? ⟨b,off,none⟩ =some (.int .i64 qop) ∧W.cell? ⟨b,off+1,none⟩ =some (.int .i64 qk) ∧W.cell? ⟨b,off+2,none⟩ =some (.int .i64 qn) ∧W.cell? ⟨b,off+3,none⟩ =some (.string qx) ∧W.cell? ⟨b,off+4,none⟩ =some (.string qs) ∧W.cell? ⟨b,off+5,none⟩ =some (.string qm) ∧W.cell? ⟨b,off+6,none⟩ =some (.int .i64 qi) ∧W.cell? ⟨b,off+7,none⟩ =some (.slice qa ql qc) ∧W.cell? ⟨b,off+8,none⟩ =some (.int .i64 top) ∧W.cell? ⟨b,off+8+1,none⟩ =some (.int .i64 tk) ∧W.cell? ⟨b,off+8+2,none⟩ =some (.int .i64 tn) ∧W.cell? ⟨b,off+8+3,none⟩ =some (.string tx) ∧W.cell? ⟨b,off+8+4,none⟩ =some (.string ts) ∧W.cell? ⟨b,off+8+5,none⟩ =some (.string tm) ∧W.cell? ⟨b,off+8+6,none⟩ =some (.int .i64 ti) ∧W.cell? ⟨b,off+8+7,none⟩ =some (.slice ta tl tc))) :=fun W hW=>by
  have D0 := (hW.block _ (by omega)).trans B0
  have D1 := (hW.block _ (by omega)).trans B1
  have hbw :Below w.heap.size w W :=hb3.trans (hW.mono (by omega))
  have kc : ∀o,W.cell? ⟨b,o,none⟩ =w.cell? ⟨b,o,none⟩ :=fun o=>hbw.cell (p := ⟨b,o,none⟩) hb
  obtain ⟨x0,x1,x2,x3,x4,x5,x6,x7⟩ :=h1
  obtain ⟨y0,y1,y2,y3,y4,y5,y6,y7⟩ :=h2
  exact ⟨Aa D0 (j :=0) rfl,Aa D0 (j :=1) rfl,Aa D1 (j :=0) rfl,Aa D1 (j :=7) rfl,(kc _).trans x0,(kc _).trans x1,(kc _).trans x2,(kc _).trans x3,(kc _).trans x4,(kc _).trans x5,(kc _).trans x6,(kc _).trans x7,(kc _).trans y0,(kc _).trans y1,(kc _).trans y2,(kc _).trans y3,(kc _).trans y4,(kc _).trans y5,(kc _).trans y6,(kc _).trans y7⟩
 have lV :w.heap.size+2<V.heap.size :=lt_of_block B2
 have HC :=fun W (hW :Below V.heap.size V W) =>HA W (Ad hb3 hW)
 have y0 :=KS.out V.drew ((Below.refl _ V).drew)
 clear HA h1 h2 B0
 obtain ⟨lo1,hi1⟩ :=s1
 simp only [Sp.val] at HC⊢
 go_enter Tryz.func30,Tryz.ntmps30
 go_upto_region 14 with fail
 rw [HW.out]
 go_region_held3 (fun W=> (W.cell? ⟨w.heap.size,0,none⟩ =some (.int .i64 at') ∧W.cell? ⟨w.heap.size,1,none⟩ =some (.int .i64 col) ∧W.cell? ⟨w.heap.size+1,0,none⟩ =some (.int .i64 6) ∧W.cell? ⟨w.heap.size+1,7,none⟩ =some (.slice (some ⟨b,off,none⟩) pl pc) ∧W.cell? ⟨b,off,none⟩ =some (.int .i64 qop) ∧W.cell? ⟨b,off+1,none⟩ =some (.int .i64 qk) ∧W.cell? ⟨b,off+2,none⟩ =some (.int .i64 qn) ∧W.cell? ⟨b,off+3,none⟩ =some (.string qx) ∧W.cell? ⟨b,off+4,none⟩ =some (.string qs) ∧W.cell? ⟨b,off+5,none⟩ =some (.string qm) ∧W.cell? ⟨b,off+6,none⟩ =some (.int .i64 qi) ∧W.cell? ⟨b,off+7,none⟩ =some (.slice qa ql qc) ∧W.cell? ⟨b,off+8,none⟩ =some (.int .i64 top) ∧W.cell? ⟨b,off+8+1,none⟩ =some (.int .i64 tk) ∧W.cell? ⟨b,off+8+2,none⟩ =some (.int .i64 tn) ∧W.cell? ⟨b,off+8+3,none⟩ =some (.string tx) ∧W.cell? ⟨b,off+8+4,none⟩ =some (.string ts) ∧W.cell? ⟨b,off+8+5,none⟩ =some (.string tm) ∧W.cell? ⟨b,off+8+6,none⟩ =some (.int .i64 ti) ∧W.cell? ⟨b,off+8+7,none⟩ =some (.slice ta tl tc)))
  (with_reducible first | exact y0 | exact y1 | exact KS.out _ ((zz.mono (Nat.le_of_lt lV)).setCell (Nat.le_refl _) _ |>.setCell (Nat.le_refl _) _))
  (first | (go_at_call 70;refine (HC _ ((Below.refl _ V).drew)).mono ?_;rintro e w1 ⟨rfl,hb1⟩;have zz :Below V.heap.size V w1 :=Ad (Below.refl _ V).drew hb1;have y1 :=KS.out _ (zz.mono (Nat.le_of_lt lV));obtain ⟨r0,r1,r2,r3,r4⟩ :=Am B2 zz))
 go_wp2
 exact A7 _ _ Tryz.results30 rfl rfl r0 (Ad hb3 zz) (by omega) Tryz.underlying81 (by kernel_rfl)
set_option maxRecDepth 100000 in
set_option maxHeartbeats 4000000 in
theorem Aco (at' col :Int) (pk pn :Int) (px ps pm :Wd) (pi :Int) (pa :Option Addr) (pl pc :Nat) (yes :Bool) (w :World) :
  Calls Tryz.prog 30 #[.agg #[.int .i64 at', .int .i64 col], .agg #[.int .i64 1, .int .i64 pk, .int .i64 pn, .string px, .string ps, .string pm, .int .i64 pi, .slice pa pl pc], .bool yes] w fun e w'=>e= .returned noS.val∧Below w.heap.size w w' :=by
 simp only [Sp.val,noS]
 go_enter Tryz.func30,Tryz.ntmps30
 go_wp2
 exact bodyPost_ret (results_cell_row Tryz.results30 _ _ (w.heap.size+2) 81 #[.string noW, .string noW] (0,0) _ rfl (A6 w _ _ _) Tryz.underlying81 rfl (by kernel_rfl)) rfl ⟨rfl,Cb w _ _ _⟩
set_option maxRecDepth 100000 in
set_option maxHeartbeats 4000000 in
theorem Aar (at' col :Int) (pop pk pn :Int) (px ps pm :Wd) (pi :Int) (pa :Option Addr) (pl pc :Nat) (yes :Bool) (w :World) (h1 : ¬pop=1) (h5 : ¬pop=5) (h6 : ¬pop=6) (h7 : ¬pop=7) (h8 : ¬pop=8) (h9 : ¬pop=9) (h10 : ¬pop=10) :
  Calls Tryz.prog 30 #[.agg #[.int .i64 at', .int .i64 col], .agg #[.int .i64 pop, .int .i64 pk, .int .i64 pn, .string px, .string ps, .string pm, .int .i64 pi, .slice pa pl pc], .bool yes] w fun e w'=>e= .returned (Ey noW).val∧Below w.heap.size w w' :=by
 have H0 :=Fc
 simp only [Sp.val,Ey]
 generalize (noW++ffW :Wd) =f1 at H0
 have B2 : (((w.alloc (.cells #[.int .i64 at', .int .i64 col] 83)).alloc (.cells #[.int .i64 pop, .int .i64 pk, .int .i64 pn, .string px, .string ps, .string pm, .int .i64 pi, .slice pa pl pc] 34)).alloc (.cells #[.string noW, .string noW] 81)).heap[w.heap.size+2]? =some (.cells #[.string noW, .string noW] 81) :=A6 _ _ _ _
 have hb3 :=Cb w (.cells #[.int .i64 at', .int .i64 col] 83) (.cells #[.int .i64 pop, .int .i64 pk, .int .i64 pn, .string px, .string ps, .string pm, .int .i64 pi, .slice pa pl pc] 34) (.cells #[.string noW, .string noW] 81)
 go_enter Tryz.func30,Tryz.ntmps30
 go_wp2_with (go_at_call 54;go_must (go_fit (H0 _);rintro e w1 ⟨rfl,hb1⟩;obtain ⟨r0,r1,r2,r3,r4⟩ :=Am B2 hb1))
 exact A7 _ _ Tryz.results30 rfl rfl r0 (Ad hb3 hb1) (by omega) Tryz.underlying81 (by kernel_rfl)
end Go.Proofs.YthehiijgnepcfaaGreat


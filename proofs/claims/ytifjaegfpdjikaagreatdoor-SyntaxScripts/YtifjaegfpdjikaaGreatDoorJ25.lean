/-
  1 texts of this proof in one, in build order: RStmQ.
-/
import Derived.BigRegion
import Derived.Deep.Cut
import Derived.Deep.LoopGhost
import Derived.Deep.CutRange
import Derived.Deep.RegionHeld3
import Derived.Test.YtifjaegfpdjikaaGreatDoorJ16
import Derived.Test.YtifjaegfpdjikaaGreatDoorJ20
import Derived.Test.YtifjaegfpdjikaaGreatDoorJ24
set_option linter.unusedSimpArgs false
set_option linter.unusedVariables false
namespace Go.Proofs.YtifjaegfpdjikaaGreatDoor
open Go.RowKit
set_option maxRecDepth 100000 in
set_option maxHeartbeats 60000000 in
theorem O7 (sl :Value) (L :List Wd) (M :List Wd) (hM :M.length≤1600) (hwM :Whole M) (w :World) (he :Env w) (hL :Ak w sl L) (hw :Whole L) (hk0 :L.take 2≠ [Au,A5]) (hk1 :L.take 2≠ [Au,B7]) (hk2 :L.take 2≠ [Cg,A5]) (hk3 :L.take 2≠ [Bv,E6]) (hk4 :L.take 2≠ [Cb,Az]) (hk5 :L.take 1≠ [Cc]) (hk6 :L.take 1= [Ck]) (hrest :L.drop 1=M) :
  Calls Tryz.prog 13 #[sl] w (Cv (Jj M) w) :=by
 have H0 :=Bz Ch he hL hw hk0 (Ai 0)
 have H1 :=Bz Dh he hL hw hk1 (Ai 0)
 have H2 :=Bz Gi he hL hw hk2 (Ai 0)
 have H3 :=Bz Hg he hL hw hk3 (Ai 0)
 have H4 :=Bz Ke he hL hw hk4 (Ai 0)
 have H5 :=Bz Me he hL hw hk5 (Ai 0)
 have H6 :=D4 Pg he hL hw hk6 (Ai 0)
 rw [show (L.drop [Ck].length) =M from hrest] at H6
 clear hk0 hk1 hk2 hk3 hk4 hk5 hk6 hrest hw
 generalize hRd :Jj M=R
 have HRD :Hid _ :=hRd
 clear hRd
 have s1 :=Dj w sl
 have s0 :=Di w sl
 obtain ⟨a0,n0,cap0,rfl,hn0⟩ :=Ax hL
 clear hL hn0
 generalize hW0 : ((((w.alloc (.cells #[.slice a0 n0 cap0] 32)).alloc (.cells Ah 39)).alloc (.cells Ah 39)).setRow (w.heap.size+2) (Ai 0)) =W0 at s0
 have HW0 :Hid _ :=hW0
 clear hW0
 go_enter Tryz.func13,Tryz.ntmps13
 go_upto_region 2 with (refine wpList_store_row rfl 39 _ _ rfl (w.heap.size+2) (Ai 0) rfl rfl 39 Ah s1 Af rfl Fc ?_)
 rw [HW0.out,show w.heap.size+1+1=w.heap.size+2 from rfl]
 have hS :=s0
 clear s0 s1 HW0
 go_upto_region 74 with (first
   | (go_at_call 27;go_fit (H0 _ hS);clear hS;rintro e W ⟨rfl,hS⟩)
   | (go_at_call 27;go_fit (H1 _ hS);clear hS;rintro e W ⟨rfl,hS⟩)
   | (go_at_call 27;go_fit (H2 _ hS);clear hS;rintro e W ⟨rfl,hS⟩)
   | (go_at_call 27;go_fit (H3 _ hS);clear hS;rintro e W ⟨rfl,hS⟩)
   | (go_at_call 27;go_fit (H4 _ hS);clear hS;rintro e W ⟨rfl,hS⟩)
   | (go_at_call 27;go_fit (H5 _ hS);clear hS;rintro e W ⟨rfl,hS⟩)
   | (go_at_call 27;go_fit (H6 _ hS);clear hS;rintro e W ⟨rfl,ao,n,c,hS,hl⟩;have c0 :W.cell? ⟨w.heap.size,0,none⟩ =some (.slice ao n c) :=Aa hS.l rfl))
 have s0 :W.cell? ⟨w.heap.size+2,0,none⟩ =some (.int .i64 0) :=Aa hS.s rfl
 have f0 :=Ab hS.s 0
 have hS0 :=hS.set 0 (.int .i64 7)
 simp only [List.setIfInBounds_toArray,List.set_cons_zero] at hS0
 clear H0 H1 H2 H3 H4 H5 H6
 go_cut [7] from 381 to 381 (fun s7 wx=>s7= .bool true∧wx=W.setCell ⟨w.heap.size+2,0,none⟩ (.int .i64 7))
 case first=>
  as_aux_lemma=>
   go_wp2_with fail
   go_meet
   case rel=>exact ⟨rfl,rfl⟩
 case rest=>
  obtain ⟨rfl,hwc⟩ :=hcut
  rw [hwc]
  clear hwc
  rename_i hrest0
  refine hrest0 _ _ (wp_seq_k fun K1 hK1=> ?_)
  generalize W.setCell ⟨w.heap.size+2,0,none⟩ (.int .i64 7) =W0' at*
  clear s0 f0 hS c0
  have c0 :W0'.cell? ⟨w.heap.size,0,none⟩ =some (.slice ao n c) :=Aa hS0.l rfl
  go_cut [7,27,28,29] from 382 to 412 (fun s7 _ _ _ wx=> ∃ok1 N1 L1 ao1 n1 c1,s7= .bool ok1∧Hid (R=if ok1=true then q1R L1 N1 else none) ∧Ak w (.slice ao1 n1 c1) L1∧L1.length≤1600∧Whole L1∧S3 w wx (.slice ao1 n1 c1) (sA 7 noW noW noW (.slice none 0 0) (.slice none 0 0) (.slice none 0 0) (.slice none 0 0) (.slice none 0 0) 0 0 0 noW noW noW 0 (.slice none 0 0) (.slice none 0 0) false N1))
  case first=>
   as_aux_lemma=>
    obtain ⟨ao3,n3,c3,hsl,hnM⟩ :=Ax hl
    cases hsl
    by_cases h1 :1<M.length
    ·obtain ⟨b,off,hveq,hcw⟩ : ∃b off,ao=some ⟨b,off,none⟩ ∧ ∀V,Below w.heap.size w V→ ∀j y,M[j]? =some y→V.cell? ⟨b,off+j,none⟩ =some (.string y) :=by
      obtain ⟨b',o',c',g0,_,_⟩ :=A0 hl (by omega)
      cases g0
      obtain ⟨g1,_,_,g2⟩ :=A7 hl (by omega)
      exact ⟨b',o',rfl,fun V h j y hj=> (h.cell (p := ⟨b',o'+j,none⟩) g1).trans (g2 j y hj)⟩
     subst hveq
     obtain ⟨y1,hy1⟩ : ∃y,M[M.length - 2]? =some y := ⟨_,List.getElem?_eq_getElem (by omega)⟩
     obtain ⟨y2,hy2⟩ : ∃y,M[M.length - 1]? =some y := ⟨_,List.getElem?_eq_getElem (by omega)⟩
     have d1 :=hcw W0' hS0.b _ _ hy1
     have d2 :=hcw W0' hS0.b _ _ hy2
     subst hnM
     obtain ⟨p1,p2,p3,p4⟩ :=A7 hl (by omega)
     have HTK :Hid (Ak w (.slice (some ⟨b,off,none⟩) (M.length - 2) c) (M.take (M.length - 2))) :=Gh p4 p1 (by omega) p2 p3
     have HLM :Hid _ :=hl
     have HLE :Hid ((M.take (M.length - 2)).length≤1600∧Whole (M.take (M.length - 2))) := ⟨by simp;omega,hwM.take _⟩
     have HMM :Hid (M.length≤1600) :=hM
     by_cases hlm :y1=Cr
     ·have hb1 : (y1.toList== [108,105,109,105,116]) =true :=by rw [An];simpa using hlm
      have HLI :Hid _ :=Yr h1 (by rw [←hlm];exact hy1) hy2
      have NU :=Lu y2 W0'
      have q1 : (1 :Int) < (M.length :Int) :=by omega
      clear hcw hl hy1 hy2 hlm p3 p4
      generalize M.take (M.length - 2) =MT at*
      generalize Cs y2=RN at*
      generalize M.length=nn at*
      go_upto_region 78 with (go_at_call 35;go_must (go_fit NU;rintro e W1 ⟨N1,okn,rfl,hRN,hb1'⟩;have HRN :Hid _ :=hRN;clear hRN;have hS1 :=hS0.next hb1'))
      have c1 :W1.cell? ⟨w.heap.size,0,none⟩ =some (.slice (some ⟨b,off,none⟩) nn c) :=Aa hS1.l rfl
      have fl :=Ab hS1.l 0
      have s19 :W1.cell? ⟨w.heap.size+2,19,none⟩ =some (.int .i64 (-1)) :=Aa hS1.s rfl
      have f19 :=Ab hS1.s 19
      have HQ :Hid (R=if okn=true then q1R MT N1 else none) :=R5 HRD.out (by rw [HLI.out,HRN.out];cases okn<;>rfl)
      go_region
      all_goals
       go_wp2_with fail
       go_meet
       case rel=>
        refine ⟨okn,N1,MT,_,_,_,rfl,HQ.out,HTK.out,HLE.out.1,HLE.out.2, ?_⟩
        first
         | (have hs := ((hS1.set 19 (.int .i64 N1)).cut (.slice (some ⟨b,off,none⟩) (nn - 2) c)).drew;simp only [List.setIfInBounds_toArray,List.set_cons_zero,List.set_cons_succ] at hs;exact hs)
         | (have hs := ((hS1.cut (.slice (some ⟨b,off,none⟩) (nn - 2) c)).set 19 (.int .i64 N1)).drew;simp only [List.setIfInBounds_toArray,List.set_cons_zero,List.set_cons_succ] at hs;exact hs)
     ·have hb1 : (y1.toList== [108,105,109,105,116]) =false :=by rw [An];simpa using hlm
      have HQ :Hid (R=if true=true then q1R M (-1) else none) :=R5 HRD.out (Aah hy1 hlm)
      have q1 : (1 :Int) < (M.length :Int) :=by omega
      clear hcw hl hy1 hy2 p3 p4
      generalize M.take (M.length - 2) =MT at*
      generalize hnn :M.length=nn at*
      have HNN :Hid _ :=hnn
      clear hnn
      go_wp2_with fail
      go_meet
      case rel=>
       have e :=HNN.out
       subst e
       exact ⟨true, -1,M,_,_,_,rfl,HQ.out,HLM.out,HMM.out,hwM,hS0⟩
    ·have q1 : ¬ (1 :Int) < (n :Int) :=by omega
     have HQ :Hid (R=if true=true then q1R M (-1) else none) :=R5 HRD.out (U7 h1)
     have HLM :Hid _ :=hl
     have HMM :Hid _ :=hM
     clear hl hnM h1 hM
     go_wp2_with fail
     go_meet
     case rel=>exact ⟨true, -1,M,_,_,_,rfl,HQ.out,HLM.out,HMM.out,hwM,hS0⟩
  case rest=>
   obtain ⟨ok1,N1,L1,ao1,n1,c1,rfl,HQ1,hl1,hL1,hw1,hS1⟩ :=hcut
   obtain ⟨W1,hW1⟩ : ∃V,V=wc := ⟨_,rfl⟩
   subst hW1
   clear hS0 c0 HRD hl hM hwM
   have CU :=Gu (.slice ao1 n1 c1) _ L1 [Bl] _ hL1 (hl1.below (hS1.alloc (.cells #[.string Bl] 9)).b) (Gv W1 Bl)
   have c0 :W1.cell? ⟨w.heap.size,0,none⟩ =some (.slice ao1 n1 c1) :=Aa hS1.l rfl
   go_upto_region 79 with fail
   generalize hcc :B1 [Bl] 0 0 L1=rc at*
   have HCC :Hid _ :=hcc
   clear hcc
   go_cut [30,31,32] from 413 to 419 (fun s30 s31 s32 wx=> ∃ao2 n2 c2 bo bn bc,∃k :Int,s30= .slice ao2 n2 c2∧s31= .slice bo bn bc∧s32= .int .i64 k∧Hid (Oq (.slice ao1 n1 c1) L1 rc (.slice ao2 n2 c2) (.slice bo bn bc) k) ∧Below W1.heap.size W1 wx)
   case first=>
    as_aux_lemma=>
     have HL :Hid _ :=hl1
     clear hl1 hL1
     go_wp2_with (go_at_call 31;go_must (go_fit CU;rintro e w2 ⟨a,b,k,rfl,hcs,hb2⟩;obtain ⟨⟨ao2,n2,c2,rfl⟩,bo,bn,bc,rfl⟩ :=Yt hcs HL.out;have HCS :Hid _ :=hcs;clear hcs))
     go_meet
     case rel=>exact ⟨_,_,_,_,_,_,_,rfl,rfl,rfl,HCS.out,((Below.refl _ _).alloc (Nat.le_refl _) _).trans (hb2.mono (by simp))⟩
   case rest=>
    obtain ⟨ao2,n2,c2,bo,bn,bc,k,rfl,rfl,rfl,HCS,hb1⟩ :=hcut
    obtain ⟨W2,hW2⟩ : ∃V,V=wc := ⟨_,rfl⟩
    subst hW2
    have hS2 :=hS1.next hb1
    clear CU c0 hb1 hS1
    rename_i hrest1
    refine hrest1 _ _ (wp_seq_k fun K2 hK2=> ?_)
    have c0 :W2.cell? ⟨w.heap.size,0,none⟩ =some (.slice ao1 n1 c1) :=Aa hS2.l rfl
    have fl :=Ab hS2.l 0
    go_cut [7,31,33,34,35] from 420 to 462 (fun s7 _ _ _ _ wx=> ∃ok2 es dn L2 ao2 n2 c2 oo oc,s7= .bool ok2∧Hid (R=if ok2=true then q2R L2 es dn N1 else none) ∧Ak w (.slice ao2 n2 c2) L2∧L2.length≤1600∧Whole L2∧S3 w wx (.slice ao2 n2 c2) (sA 7 noW noW noW (.slice none 0 0) (.slice none 0 0) (.slice none 0 0) (.slice none 0 0) (.slice none 0 0) 0 0 0 noW noW noW 0 (.slice none 0 0) (.slice oo es.length oc) dn N1) ∧IsL Dc (Fr (w.heap.size+3)) wx (.slice oo es.length oc) es)
    case first=>
     cases rc with
     | none=>
      obtain ⟨e1,e2,rfl⟩ :=HCS.out
      cases e1
      cases e2
      have HQ :Hid _ :=Wx (okx :=true) HQ1.out (Wf HCC.out)
      have hS3 :=hS2.cut (.slice ao1 n1 c1)
      have HL :Hid _ :=hl1
      have HL1 :Hid _ :=hL1
      clear HCS hl1 hL1
      go_wp2_with fail
      go_meet
      case rel=>exact ⟨ok1,[],false,L1,_,_,_,none,0,rfl,by have :=HQ.out;rwa [Bool.and_true] at this,HL.out,HL1.out,hw1,hS3,IsL.nil _ _ _⟩
     | some ij=>
      obtain ⟨i,j⟩ :=ij
      obtain ⟨hsl,rfl,hil⟩ :=HCS.out
      obtain ⟨hA,hB⟩ :=hsl _ hl1
      have q0 : (0 :Int) ≤ (j :Int) :=by omega
      have hS3 :=hS2.cut (.slice ao2 n2 c2)
      have HA :Hid _ :=hA
      have HAL :Hid ((L1.take i).length≤1600∧Whole (L1.take i)) := ⟨by simp;omega,hw1.take _⟩
      have HON :Hid ((Lw (L1.drop (i+1))).head? ≠some kBy→R=none) :=fun h=>Abo HQ1.out (Ys HCC.out h)
      have HOY :Hid (∀m,Lw (L1.drop (i+1)) =kBy ::m→ ∀okx y,Dn m= (if okx=true then some y else none) →R=if (ok1&&okx) =true then q2R (L1.take i) [y] (decide ((L1.drop (i+1)).getLast? =some Co)) N1 else none) :=fun m hm okx y hx=>Wx HQ1.out (by rw [Wg HCC.out hm,hx];cases okx<;>rfl)
      have hwB :Hid (Whole (L1.drop (i+1)) ∧ (L1.drop (i+1)).length≤1600) := ⟨hw1.drop _,by simp;omega⟩
      clear HCS hsl hil hl1 hL1 hw1 hA HQ1 HCC
      generalize L1.drop (i+1) =B at*
      generalize L1.take i=A at*
      obtain ⟨bo',bn',bc',hsh,hbn⟩ :=Ax hB
      cases hsh
      go_upto_region 82 with fail
      generalize W2.setCell ⟨w.heap.size,0,none⟩ (.slice ao2 n2 c2) =W3 at*
      clear hS2 c0 fl
      by_cases hB0 :B= []
      ·subst hB0
       have HB0 :Hid (R=none) :=HON.out (by simp [Lw])
       have hbn' :bn=0 :=hbn
       clear hbn
       subst hbn'
       clear HON HOY hwB hB
       have hone : (sA 7 noW noW noW (.slice none 0 0) (.slice none 0 0) (.slice none 0 0) (.slice none 0 0) (.slice none 0 0) 0 0 0 noW noW noW 0 (.slice none 0 0) (.slice none 0 0) false N1).all (·.oneCell') =true :=Bc (sl7 _ _ _ _ _ _ _ _ _ _ _ _ _ _ _ _ _ _ _ _ _)
       go_wp2_with (first
        | refine wpList_load_row rfl 39 _ rfl (w.heap.size+2) rfl 39 _ _ _ hS3.s Tryz.underlying39 rfl Af ?_
        | refine wpList_store_row rfl 39 _ _ rfl (w.heap.size+1) _ rfl rfl 39 Ah hS3.r Af rfl hone ?_)
       exact bodyPost_ret (v := .tuple #[.agg (sA 7 noW noW noW (.slice none 0 0) (.slice none 0 0) (.slice none 0 0) (.slice none 0 0) (.slice none 0 0) 0 0 0 noW noW noW 0 (.slice none 0 0) (.slice none 0 0) false N1), .bool false]) (Ay Tryz.results13 _ _ (w.heap.size+1) 39 _ _ _ _ rfl rfl (Am hS3.r) Tryz.underlying39 rfl Af) rfl (A4 (ok :=false) hS3 (sl7 _ _ _ _ _ _ _ _ _ _ _ _ _ _ _ _ _ _ _ _ _) HB0.out)
      ·obtain ⟨bb,ob,hveq,hcw⟩ : ∃b off,bo=some ⟨b,off,none⟩ ∧ ∀V,Below w.heap.size w V→ ∀j y,B[j]? =some y→V.cell? ⟨b,off+j,none⟩ =some (.string y) :=by
        obtain ⟨b',o',c',g0,_,_⟩ :=A0 hB (List.length_pos_iff.2 hB0)
        cases g0
        obtain ⟨g1,_,_,g2⟩ :=A7 hB (List.length_pos_iff.2 hB0)
        exact ⟨b',o',rfl,fun V h j y hj=> (h.cell (p := ⟨b',o'+j,none⟩) g1).trans (g2 j y hj)⟩
       subst hveq
       have hpos :0<B.length :=List.length_pos_iff.2 hB0
       obtain ⟨y1,hy1⟩ : ∃y,B[B.length - 1]? =some y := ⟨_,List.getElem?_eq_getElem (by omega)⟩
       have d1 :=hcw W3 hS3.b _ _ hy1
       have HCW :Hid _ :=hcw
       subst hbn
       obtain ⟨p1,p2,p3,p4⟩ :=A7 hB hpos
       have HB1 :Hid (Ak w (.slice (some ⟨bb,ob,none⟩) B.length bc) B) :=hB
       have HB2 :Hid (Ak w (.slice (some ⟨bb,ob,none⟩) (B.length - 1) bc) (B.take (B.length - 1))) :=Gh p4 p1 (by omega) p2 p3
       have hBl :B.length≤1600 :=hwB.out.2
       have q1 : (0 :Int) < (B.length :Int) :=by omega
       have hlast :B.getLast? =some y1 :=by rw [List.getLast?_eq_getElem?];exact hy1
       have HLS :Hid _ :=hlast
       have HTK :Hid (Whole (B.take (B.length - 1)) ∧ (B.take (B.length - 1)).length≤1600∧ (B.take (B.length - 1)).length=B.length - 1) := ⟨hwB.out.1.take _,by simp;omega,by simp⟩
       have HTG :Hid (∀ (j :Nat) (y :Wd),(B.take (B.length - 1))[j]? =some y→B[j]? =some y) :=fun j y hj=>by
        rw [List.getElem?_take] at hj
        split at hj
        ·exact hj
        ·cases hj
       have hcap :B.length≤bc :=p2
       clear hcw hB hy1 p1 p2 p3 p4 hB0 hpos hlast
       by_cases hd :y1=Co
       ·have hb1 : (y1.toList== [100,101,115,99]) =true :=by rw [An];simpa using hd
        have HO5 :Hid (Lw B=B.take (B.length - 1)) :=by show Lw B=_;rw [Lw,if_pos (by rw [HLS.out,hd])]
        have HD5 :Hid (decide (B.getLast? =some Co) =true) :=by show decide _=true;rw [HLS.out,hd];simp
        have s18 :W3.cell? ⟨w.heap.size+2,18,none⟩ =some (.bool false) :=Aa hS3.s rfl
        have f18 :=Ab hS3.s 18
        generalize B.take (B.length - 1) =B5 at*
        generalize hnn :B.length=bn at*
        clear hnn
        go_upto_region 84 with fail
        go_region
        have hS5 := (hS3.set 18 (.bool true)).drew
        simp only [List.setIfInBounds_toArray,List.set_cons_zero,List.set_cons_succ] at hS5
        generalize (W3.setCell ⟨w.heap.size+2,18,none⟩ (.bool true)).drew=W5 at hS5⊢
        have HB5 :Hid _ :=HB2.out
        have HW5 :Hid _ :=HTK.out
        have HG5 :Hid _ :=HTG.out
        have hn5 :bn - 1≤bc :=by omega
        clear s18 f18 hS3 d1 hcap HB1 HB2 HTK HTG hwB q1 hBl hb1 hd HLS
        generalize bn - 1=n5 at*
        cases B5 with
        | nil=>
         have HR0 :Hid (R=none) :=HON.out (by rw [HO5.out];simp)
         have hz :n5=0 :=HW5.out.2.2.symm
         subst hz
         clear HON HOY HB5 HW5 HG5 HO5 HD5 HCW
         have hone : (sA 7 noW noW noW (.slice none 0 0) (.slice none 0 0) (.slice none 0 0) (.slice none 0 0) (.slice none 0 0) 0 0 0 noW noW noW 0 (.slice none 0 0) (.slice none 0 0) true N1).all (·.oneCell') =true :=Bc (sl7 _ _ _ _ _ _ _ _ _ _ _ _ _ _ _ _ _ _ _ _ _)
         go_wp2_with (first
          | refine wpList_load_row rfl 39 _ rfl (w.heap.size+2) rfl 39 _ _ _ hS5.s Tryz.underlying39 rfl Af ?_
          | refine wpList_store_row rfl 39 _ _ rfl (w.heap.size+1) _ rfl rfl 39 Ah hS5.r Af rfl hone ?_)
         exact bodyPost_ret (v := .tuple #[.agg (sA 7 noW noW noW (.slice none 0 0) (.slice none 0 0) (.slice none 0 0) (.slice none 0 0) (.slice none 0 0) 0 0 0 noW noW noW 0 (.slice none 0 0) (.slice none 0 0) true N1), .bool false]) (Ay Tryz.results13 _ _ (w.heap.size+1) 39 _ _ _ _ rfl rfl (Am hS5.r) Tryz.underlying39 rfl Af) rfl (A4 (ok :=false) hS5 (sl7 _ _ _ _ _ _ _ _ _ _ _ _ _ _ _ _ _ _ _ _ _) HR0.out)
        | cons x m=>
         have e0 :=HCW.out W5 hS5.b 0 x (HG5.out 0 x rfl)
         simp only [Nat.add_zero] at e0
         have hn1 :n5=m.length+1 :=HW5.out.2.2.symm
         have q2 : ((n5 :Int) ==0) =false :=beq_eq_false_iff_ne.2 (by omega)
         have q3 : (0 :Int) < (n5 :Int) :=by omega
         have q4 : (1 :Int) ≤ (n5 :Int) :=by omega
         have q5 : (n5 :Int) ≤ (bc :Int) :=by omega
         have HN1 :Hid _ :=hn1
         clear hn1
         by_cases hby :x=kBy
         rotate_left
         ·have hb2 : (x.toList== [98,121]) =false :=by rw [An];simpa using hby
          have HR0 :Hid (R=none) :=HON.out (by rw [HO5.out];simpa using hby)
          clear HON HOY HB5 HW5 HG5 HO5 HD5 HCW hby
          have hone : (sA 7 noW noW noW (.slice none 0 0) (.slice none 0 0) (.slice none 0 0) (.slice none 0 0) (.slice none 0 0) 0 0 0 noW noW noW 0 (.slice none 0 0) (.slice none 0 0) true N1).all (·.oneCell') =true :=Bc (sl7 _ _ _ _ _ _ _ _ _ _ _ _ _ _ _ _ _ _ _ _ _)
          go_wp2_with (first
           | refine wpList_load_row rfl 39 _ rfl (w.heap.size+2) rfl 39 _ _ _ hS5.s Tryz.underlying39 rfl Af ?_
           | refine wpList_store_row rfl 39 _ _ rfl (w.heap.size+1) _ rfl rfl 39 Ah hS5.r Af rfl hone ?_)
          exact bodyPost_ret (v := .tuple #[.agg (sA 7 noW noW noW (.slice none 0 0) (.slice none 0 0) (.slice none 0 0) (.slice none 0 0) (.slice none 0 0) 0 0 0 noW noW noW 0 (.slice none 0 0) (.slice none 0 0) true N1), .bool false]) (Ay Tryz.results13 _ _ (w.heap.size+1) 39 _ _ _ _ rfl rfl (Am hS5.r) Tryz.underlying39 rfl Af) rfl (A4 (ok :=false) hS5 (sl7 _ _ _ _ _ _ _ _ _ _ _ _ _ _ _ _ _ _ _ _ _) HR0.out)
         ·have hb2 : (x.toList== [98,121]) =true :=by rw [An];simpa using hby
          have HOO :Hid _ :=HOY.out m (by rw [HO5.out,hby])
          have hml :m.length≤1600 :=by have :=HW5.out.2.1;simp at this;omega
          have hwm :Whole m :=fun z hz=>HW5.out.1 z (by simp [hz])
          have hB6 :Ak w (.slice (some ⟨bb,ob,none⟩) (x ::m).length bc) (x ::m) :=by have :=HB5.out;rw [HN1.out] at this;exact this
          have hex : ∀V,Below w.heap.size w V→ (bc=1∧Calls Tryz.prog 32 #[.slice (some ⟨bb,ob,none⟩) (n5 - 1) 0, .int .i64 6] V (Bj (Dn m) V)) ∨ (¬bc=1∧Calls Tryz.prog 32 #[.slice (some ⟨bb,ob+1,none⟩) (n5 - 1) (bc - 1), .int .i64 6] V (Bj (Dn m) V)) :=fun V h=>by
           rcases Gz (b :=bb) (off :=ob) (cap :=bc) (k :=1) (L :=x ::m) (by omega) (by simp) with ⟨h1,h2⟩ | ⟨h1,h2⟩
           ·have h3 :=h2 V (hB6.below h)
            rw [show (x ::m).length=n5 by rw [HN1.out];rfl] at h3
            exact .inl ⟨h1,Gy _ m V hml hml (he.next h) h3 hwm⟩
           ·have h3 :=h2 V (hB6.below h)
            rw [show (x ::m).length=n5 by rw [HN1.out];rfl] at h3
            exact .inr ⟨h1,Gy _ m V hml hml (he.next h) h3 hwm⟩
          have hEX :=hex W5 hS5.b
          clear hex HON HOY HB5 HW5 HG5 HO5 HCW hby hwm hB6 hml
          generalize Dn m=RX at*
          rcases hEX with ⟨hc1,EX⟩ | ⟨hc1,EX⟩
          all_goals
           go_upto_region 88 with (go_at_call 32;go_must (go_fit EX;rintro e W6 ⟨ve,okx,y,rfl,hEy,hRy,hbe⟩;have HRY :Hid _ :=hRy;clear hRy;obtain ⟨yop,yv,ys,ynm,yn,yao,ykk,yc,rfl⟩ :=hEy.shape;obtain ⟨yk,yi,ys2⟩ :=yv))
           have hS6 :=hS5.next hbe
           have hSV :=hS6.alloc (.cells #[.int .i64 yop, .int .i64 yk, .int .i64 yi, .string ys2, .string ys, .string ynm, .int .i64 yn, .slice yao ykk yc] 37)
           have bE :=Ad W6 (.cells #[.int .i64 yop, .int .i64 yk, .int .i64 yi, .string ys2, .string ys, .string ynm, .int .i64 yn, .slice yao ykk yc] 37)
           have hEV :IsE (Fr (w.heap.size+3)) (W6.alloc (.cells #[.int .i64 yop, .int .i64 yk, .int .i64 yi, .string ys2, .string ys, .string ynm, .int .i64 yn, .slice yao ykk yc] 37)) y (.agg (A2 yop ⟨yk,yi,ys2⟩ ys ynm yn (.slice yao ykk yc))) :=IsE.keep ((Keeps.refl _ _).alloc _) _ _ (IsE.mono (fun k' _ hk'=>Nat.le_trans hS5.size hk') _ _ hEy)
           generalize W6.alloc (.cells #[.int .i64 yop, .int .i64 yk, .int .i64 yi, .string ys2, .string ys, .string ynm, .int .i64 yn, .slice yao ykk yc] 37) =V at*
           generalize W6.heap.size=pe at*
           clear hS5 hS6 hbe hEy EX e0
           obtain ⟨l0,l1,l2,l3,l4,l5,l6,l7⟩ :=Cq bE rfl
           have hSU :=hSV.alloc (.cells #[.int .i64 yop, .int .i64 yk, .int .i64 yi, .string ys2, .string ys, .string ynm, .int .i64 yn, .slice yao ykk yc] 37)
           have s17 : (V.alloc (.cells #[.int .i64 yop, .int .i64 yk, .int .i64 yi, .string ys2, .string ys, .string ynm, .int .i64 yn, .slice yao ykk yc] 37)).cell? ⟨w.heap.size+2,17,none⟩ =some (.slice none 0 0) :=Aa hSU.s rfl
           have f17 :=Ab hSU.s 17
           have hL :=Adx.2 (G4 hEV (show w.heap.size+3≤V.heap.size from hSV.size))
           have hST :=hSU.set 17 (.slice (some ⟨V.heap.size,0,none⟩) 1 1)
           simp only [List.setIfInBounds_toArray,List.set_cons_zero,List.set_cons_succ] at hST
           have HQQ :Hid _ :=HOO.out okx y HRY.out
           rw [HD5.out] at HQQ
           clear HOO HRY hSU hSV bE
           cases ok1
           all_goals
            go_wp2_with fail
            go_meet
            case rel=>exact ⟨_,[y],true,A,_,_,_,_,_,rfl,HQQ.out,HA.out,HAL.out.1,HAL.out.2,hST,hL.keep ((Keeps.refl _ _).set (show ¬w.heap.size+3≤w.heap.size+2 by omega) _ _)⟩
       ·have hb1 : (y1.toList== [100,101,115,99]) =false :=by rw [An];simpa using hd
        have HD5 :Hid (decide (B.getLast? =some Co) =false) :=by show decide _=false;rw [HLS.out];simp [hd]
        obtain ⟨B5,HB5,HW5,HG5,HO5⟩ : ∃B5 :List Wd,Hid (Ak w (.slice (some ⟨bb,ob,none⟩) B.length bc) B5) ∧Hid (Whole B5∧B5.length≤1600∧B5.length=B.length) ∧Hid (∀ (j :Nat) (y :Wd),B5[j]? =some y→B[j]? =some y) ∧Hid (Lw B=B5) := ⟨B,HB1.out,⟨hwB.out.1,hwB.out.2,rfl⟩,(fun _ _ h=>h),by show Lw B=_;rw [Lw,if_neg (by rw [HLS.out];simp [hd])]⟩
        have hn5 :=hcap
        clear HB1 HB2 HTK HTG hwB hd HLS hcap
        generalize B.length=n5 at*
        go_upto_region 85 with fail
        have hS5 :=hS3
        clear hS3
        obtain ⟨W5,hW5⟩ : ∃V,V=W3 := ⟨_,rfl⟩
        subst hW5
        clear d1 q1 hb1 hBl
        cases B5 with
        | nil=>
         have HR0 :Hid (R=none) :=HON.out (by rw [HO5.out];simp)
         have hz :n5=0 :=HW5.out.2.2.symm
         subst hz
         clear HON HOY HB5 HW5 HG5 HO5 HD5 HCW
         have hone : (sA 7 noW noW noW (.slice none 0 0) (.slice none 0 0) (.slice none 0 0) (.slice none 0 0) (.slice none 0 0) 0 0 0 noW noW noW 0 (.slice none 0 0) (.slice none 0 0) false N1).all (·.oneCell') =true :=Bc (sl7 _ _ _ _ _ _ _ _ _ _ _ _ _ _ _ _ _ _ _ _ _)
         go_wp2_with (first
          | refine wpList_load_row rfl 39 _ rfl (w.heap.size+2) rfl 39 _ _ _ hS5.s Tryz.underlying39 rfl Af ?_
          | refine wpList_store_row rfl 39 _ _ rfl (w.heap.size+1) _ rfl rfl 39 Ah hS5.r Af rfl hone ?_)
         exact bodyPost_ret (v := .tuple #[.agg (sA 7 noW noW noW (.slice none 0 0) (.slice none 0 0) (.slice none 0 0) (.slice none 0 0) (.slice none 0 0) 0 0 0 noW noW noW 0 (.slice none 0 0) (.slice none 0 0) false N1), .bool false]) (Ay Tryz.results13 _ _ (w.heap.size+1) 39 _ _ _ _ rfl rfl (Am hS5.r) Tryz.underlying39 rfl Af) rfl (A4 (ok :=false) hS5 (sl7 _ _ _ _ _ _ _ _ _ _ _ _ _ _ _ _ _ _ _ _ _) HR0.out)
        | cons x m=>
         have e0 :=HCW.out W5 hS5.b 0 x (HG5.out 0 x rfl)
         simp only [Nat.add_zero] at e0
         have hn1 :n5=m.length+1 :=HW5.out.2.2.symm
         have q2 : ((n5 :Int) ==0) =false :=beq_eq_false_iff_ne.2 (by omega)
         have q3 : (0 :Int) < (n5 :Int) :=by omega
         have q4 : (1 :Int) ≤ (n5 :Int) :=by omega
         have q5 : (n5 :Int) ≤ (bc :Int) :=by omega
         have HN1 :Hid _ :=hn1
         clear hn1
         by_cases hby :x=kBy
         rotate_left
         ·have hb2 : (x.toList== [98,121]) =false :=by rw [An];simpa using hby
          have HR0 :Hid (R=none) :=HON.out (by rw [HO5.out];simpa using hby)
          clear HON HOY HB5 HW5 HG5 HO5 HD5 HCW hby
          have hone : (sA 7 noW noW noW (.slice none 0 0) (.slice none 0 0) (.slice none 0 0) (.slice none 0 0) (.slice none 0 0) 0 0 0 noW noW noW 0 (.slice none 0 0) (.slice none 0 0) false N1).all (·.oneCell') =true :=Bc (sl7 _ _ _ _ _ _ _ _ _ _ _ _ _ _ _ _ _ _ _ _ _)
          go_wp2_with (first
           | refine wpList_load_row rfl 39 _ rfl (w.heap.size+2) rfl 39 _ _ _ hS5.s Tryz.underlying39 rfl Af ?_
           | refine wpList_store_row rfl 39 _ _ rfl (w.heap.size+1) _ rfl rfl 39 Ah hS5.r Af rfl hone ?_)
          exact bodyPost_ret (v := .tuple #[.agg (sA 7 noW noW noW (.slice none 0 0) (.slice none 0 0) (.slice none 0 0) (.slice none 0 0) (.slice none 0 0) 0 0 0 noW noW noW 0 (.slice none 0 0) (.slice none 0 0) false N1), .bool false]) (Ay Tryz.results13 _ _ (w.heap.size+1) 39 _ _ _ _ rfl rfl (Am hS5.r) Tryz.underlying39 rfl Af) rfl (A4 (ok :=false) hS5 (sl7 _ _ _ _ _ _ _ _ _ _ _ _ _ _ _ _ _ _ _ _ _) HR0.out)
         ·have hb2 : (x.toList== [98,121]) =true :=by rw [An];simpa using hby
          have HOO :Hid _ :=HOY.out m (by rw [HO5.out,hby])
          have hml :m.length≤1600 :=by have :=HW5.out.2.1;simp at this;omega
          have hwm :Whole m :=fun z hz=>HW5.out.1 z (by simp [hz])
          have hB6 :Ak w (.slice (some ⟨bb,ob,none⟩) (x ::m).length bc) (x ::m) :=by have :=HB5.out;rw [HN1.out] at this;exact this
          have hex : ∀V,Below w.heap.size w V→ (bc=1∧Calls Tryz.prog 32 #[.slice (some ⟨bb,ob,none⟩) (n5 - 1) 0, .int .i64 6] V (Bj (Dn m) V)) ∨ (¬bc=1∧Calls Tryz.prog 32 #[.slice (some ⟨bb,ob+1,none⟩) (n5 - 1) (bc - 1), .int .i64 6] V (Bj (Dn m) V)) :=fun V h=>by
           rcases Gz (b :=bb) (off :=ob) (cap :=bc) (k :=1) (L :=x ::m) (by omega) (by simp) with ⟨h1,h2⟩ | ⟨h1,h2⟩
           ·have h3 :=h2 V (hB6.below h)
            rw [show (x ::m).length=n5 by rw [HN1.out];rfl] at h3
            exact .inl ⟨h1,Gy _ m V hml hml (he.next h) h3 hwm⟩
           ·have h3 :=h2 V (hB6.below h)
            rw [show (x ::m).length=n5 by rw [HN1.out];rfl] at h3
            exact .inr ⟨h1,Gy _ m V hml hml (he.next h) h3 hwm⟩
          have hEX :=hex W5 hS5.b
          clear hex HON HOY HB5 HW5 HG5 HO5 HCW hby hwm hB6 hml
          generalize Dn m=RX at*
          rcases hEX with ⟨hc1,EX⟩ | ⟨hc1,EX⟩
          all_goals
           go_upto_region 88 with (go_at_call 32;go_must (go_fit EX;rintro e W6 ⟨ve,okx,y,rfl,hEy,hRy,hbe⟩;have HRY :Hid _ :=hRy;clear hRy;obtain ⟨yop,yv,ys,ynm,yn,yao,ykk,yc,rfl⟩ :=hEy.shape;obtain ⟨yk,yi,ys2⟩ :=yv))
           have hS6 :=hS5.next hbe
           have hSV :=hS6.alloc (.cells #[.int .i64 yop, .int .i64 yk, .int .i64 yi, .string ys2, .string ys, .string ynm, .int .i64 yn, .slice yao ykk yc] 37)
           have bE :=Ad W6 (.cells #[.int .i64 yop, .int .i64 yk, .int .i64 yi, .string ys2, .string ys, .string ynm, .int .i64 yn, .slice yao ykk yc] 37)
           have hEV :IsE (Fr (w.heap.size+3)) (W6.alloc (.cells #[.int .i64 yop, .int .i64 yk, .int .i64 yi, .string ys2, .string ys, .string ynm, .int .i64 yn, .slice yao ykk yc] 37)) y (.agg (A2 yop ⟨yk,yi,ys2⟩ ys ynm yn (.slice yao ykk yc))) :=IsE.keep ((Keeps.refl _ _).alloc _) _ _ (IsE.mono (fun k' _ hk'=>Nat.le_trans hS5.size hk') _ _ hEy)
           generalize W6.alloc (.cells #[.int .i64 yop, .int .i64 yk, .int .i64 yi, .string ys2, .string ys, .string ynm, .int .i64 yn, .slice yao ykk yc] 37) =V at*
           generalize W6.heap.size=pe at*
           clear hS5 hS6 hbe hEy EX e0
           obtain ⟨l0,l1,l2,l3,l4,l5,l6,l7⟩ :=Cq bE rfl
           have hSU :=hSV.alloc (.cells #[.int .i64 yop, .int .i64 yk, .int .i64 yi, .string ys2, .string ys, .string ynm, .int .i64 yn, .slice yao ykk yc] 37)
           have s17 : (V.alloc (.cells #[.int .i64 yop, .int .i64 yk, .int .i64 yi, .string ys2, .string ys, .string ynm, .int .i64 yn, .slice yao ykk yc] 37)).cell? ⟨w.heap.size+2,17,none⟩ =some (.slice none 0 0) :=Aa hSU.s rfl
           have f17 :=Ab hSU.s 17
           have hL :=Adx.2 (G4 hEV (show w.heap.size+3≤V.heap.size from hSV.size))
           have hST :=hSU.set 17 (.slice (some ⟨V.heap.size,0,none⟩) 1 1)
           simp only [List.setIfInBounds_toArray,List.set_cons_zero,List.set_cons_succ] at hST
           have HQQ :Hid _ :=HOO.out okx y HRY.out
           rw [HD5.out] at HQQ
           clear HOO HRY hSU hSV bE
           cases ok1
           all_goals
            go_wp2_with fail
            go_meet
            case rel=>exact ⟨_,[y],false,A,_,_,_,_,_,rfl,HQQ.out,HA.out,HAL.out.1,HAL.out.2,hST,hL.keep ((Keeps.refl _ _).set (show ¬w.heap.size+3≤w.heap.size+2 by omega) _ _)⟩
    case rest=>
     clear hS2 c0 fl HCS HQ1 HCC hl1 hL1 hw1
     obtain ⟨ok2,es,dn,L2,ao3,n3,c3,oo,oc,rfl,HQ2,hl2,hL2,hw2,hS3,hO3⟩ :=hcut
     obtain ⟨W3,hW3⟩ : ∃V,V=wc := ⟨_,rfl⟩
     subst hW3
     have WH :=Na (.slice ao3 n3 c3) 7 noW noW noW (.slice none 0 0) (.slice none 0 0) (.slice none 0 0) (.slice none 0 0) (.slice none 0 0) (.slice oo es.length oc) dn N1 L2 w W3 he hL2 hl2 hw2 hS3
     have hsz3 :=hS3.size
     have HO3 :Hid _ :=hO3
     clear hO3 hS3
     go_upto_region 90 with fail
     go_cut [7] from 463 to 467 (fun s7 wx=> ∃ok3 x L3 op xk xn xs s nmv n8 ao4 kk c4 ao5 n5 c5,s7= .bool ok3∧Hid (R=if ok3=true then q3R L3 x es dn N1 else none) ∧Ak w (.slice ao5 n5 c5) L3∧L3.length≤1600∧Whole L3∧S3 w wx (.slice ao5 n5 c5) (sA 7 noW noW noW (.slice none 0 0) (.slice none 0 0) (.slice none 0 0) (.slice none 0 0) (.slice none 0 0) op xk xn xs s nmv n8 (.slice ao4 kk c4) (.slice oo es.length oc) dn N1) ∧IsE (Fr (w.heap.size+3)) wx x (.agg (A2 op ⟨xk,xn,xs⟩ s nmv n8 (.slice ao4 kk c4))) ∧IsL Dc (Fr (w.heap.size+3)) wx (.slice oo es.length oc) es)
     case first=>
      as_aux_lemma=>
       have HL2 :Hid _ :=hL2
       clear hL2 hl2 hw2
       cases ok2
       all_goals
        go_wp2_with (go_at_call 30;go_must (go_fit WH;rintro e W4 ⟨okw,x,L3,op,xk,xn,xs,s,nmv,n8,ao4,kk,c4,ao5,n5,c5,rfl,hS4,hl4,hE4,hwr,⟨hle,hw4⟩,hB4⟩;have HLE :Hid _ :=Nat.le_trans hle HL2.out;have HQ3 :Hid _ :=Acn HQ2.out hwr;have HL4 :Hid _ :=hl4;clear hwr hle hl4;cases okw))
        all_goals
         go_meet
         case rel=>exact ⟨_,x,L3,op,xk,xn,xs,s,nmv,n8,ao4,kk,c4,ao5,n5,c5,rfl,HQ3.out,HL4.out,HLE.out,hw4,hS4,IsE.mono (fun k' _ hk'=>Nat.le_trans hsz3 hk') _ _ hE4,IsL.keep HO3.out (hB4.keeps (show ¬w.heap.size+3≤w.heap.size by omega) (show ¬w.heap.size+3≤w.heap.size+2 by omega))⟩
     case rest=>
      clear WH HO3 HQ2 hl2 hL2 hw2 hsz3
      obtain ⟨ok3,x,L3,op,xk,xn,xs,s,nmv,n8,ao4,kk,c4,ao5,n5,c5,rfl,HQ3,hl3,hL3,hw3,hS4,hE4,hO4⟩ :=hcut
      obtain ⟨W4,hW4⟩ : ∃V,V=wc := ⟨_,rfl⟩
      subst hW4
      have CU :=Gu (.slice ao5 n5 c5) _ L3 [Az] _ hL3 (hl3.below (hS4.alloc (.cells #[.string Az] 9)).b) (Gv W4 Az)
      have c0 :W4.cell? ⟨w.heap.size,0,none⟩ =some (.slice ao5 n5 c5) :=Aa hS4.l rfl
      have hS4a :=hS4.alloc (.cells #[.string Az] 9)
      cases hc :B1 [Az] 0 0 L3 with
      | none=>
       rw [hc] at CU
       have HR0 :Hid (R=none) :=Abp HQ3.out hc
       clear hc HQ3 hl3 hL3 hw3 hE4 hO4 hS4
       have hone : (sA 7 noW noW noW (.slice none 0 0) (.slice none 0 0) (.slice none 0 0) (.slice none 0 0) (.slice none 0 0) op xk xn xs s nmv n8 (.slice ao4 kk c4) (.slice oo es.length oc) dn N1).all (·.oneCell') =true :=Bc (sl7 _ _ _ _ _ _ _ _ _ _ _ _ _ _ _ _ _ _ _ _ _)
       go_wp2_with (first
        | (go_at_call 31;go_must (go_fit CU;rintro e W5 ⟨a,b,k,rfl,⟨rfl,rfl,rfl⟩,hb5⟩;have hS5 :=hS4a.next hb5))
        | refine wpList_load_row rfl 39 _ rfl (w.heap.size+2) rfl 39 _ _ _ hS5.s Tryz.underlying39 rfl Af ?_
        | refine wpList_store_row rfl 39 _ _ rfl (w.heap.size+1) _ rfl rfl 39 Ah hS5.r Af rfl hone ?_)
       exact bodyPost_ret (v := .tuple #[.agg (sA 7 noW noW noW (.slice none 0 0) (.slice none 0 0) (.slice none 0 0) (.slice none 0 0) (.slice none 0 0) op xk xn xs s nmv n8 (.slice ao4 kk c4) (.slice oo es.length oc) dn N1), .bool false]) (Ay Tryz.results13 _ _ (w.heap.size+1) 39 _ _ _ _ rfl rfl (Am hS5.r) Tryz.underlying39 rfl Af) rfl (A4 (ok :=false) hS5 (sl7 _ _ _ _ _ _ _ _ _ _ _ _ _ _ _ _ _ _ _ _ _) HR0.out)
      | some ij=>
       obtain ⟨i,j⟩ :=ij
       rw [hc] at CU
       obtain ⟨hRF,hRN⟩ :=Aco HQ3.out hc
       have HRF :Hid _ :=hRF
       have HRN :Hid _ :=hRN
       have HWA :Hid (Whole (L3.take i) ∧ (L3.take i).length≤1600) := ⟨hw3.take _,by simp;omega⟩
       have HWB :Hid (Whole (L3.drop (i+1)) ∧ (L3.drop (i+1)).length≤1600) := ⟨hw3.drop _,by simp;omega⟩
       have HL3 :Hid _ :=hl3
       clear hc HQ3 hRF hRN hl3 hw3 hL3
       have q0 : ¬ (j :Int) <0 :=by omega
       have HSD :Hid (IsE (Fr (w.heap.size+3)) W4 x (.agg (A2 op ⟨xk,xn,xs⟩ s nmv n8 (.slice ao4 kk c4))) ∧IsL Dc (Fr (w.heap.size+3)) W4 (.slice oo es.length oc) es) := ⟨hE4,hO4⟩
       clear hE4 hO4
       have hsz4 :=hS4.size
       go_upto_region 94 with (go_at_call 31;go_must (go_fit CU;rintro e W5 ⟨a,b,k,rfl,⟨hsl,rfl,hil⟩,hb5⟩;have hS5 :=hS4a.next hb5;obtain ⟨hA,hB⟩ :=hsl _ HL3.out;have HA :Hid _ :=hA;have HB :Hid _ :=hB;obtain ⟨aoa,na,ca,rfl,hna⟩ :=Ax hA;obtain ⟨aob,nb,cb,rfl,hnb⟩ :=Ax hB;clear hsl hA hB hna hnb hil))
       have hb45 :Below W4.heap.size W4 W5 := ((Below.refl _ _).alloc (Nat.le_refl _) _).trans (hb5.mono (by simp))
       have HSE :Hid (IsE (Fr (w.heap.size+3)) W5 x (.agg (A2 op ⟨xk,xn,xs⟩ s nmv n8 (.slice ao4 kk c4))) ∧IsL Dc (Fr (w.heap.size+3)) W5 (.slice oo es.length oc) es) := ⟨IsE.keep (Bb hb45) _ _ HSD.out.1,IsL.keep HSD.out.2 (Bb hb45)⟩
       clear CU c0 hS4 hS4a HSD HL3 hb5 hb45 hsz4
       generalize L3.take i=A at*
       generalize L3.drop (i+1) =B at*
       have PB :=Ii (.slice aob nb cb) B w W5 HWB.out.2 HB.out hS5.b
       have hpl : (Bf B).length≤1601 :=Nat.le_trans (Ij B) (by have :=HWB.out.2;omega)
       have HWI :Hid (∀P∈Bf B,Whole P∧P.length≤1600) :=fun P hP=>by have h :=Hh HWB.out.1 P hP;exact ⟨h.1,Nat.le_trans h.2 HWB.out.2⟩
       clear HWB HB
       generalize Bf B=Ls at*
       go_wp2_with (go_at_call 34;go_must (go_fit PB;rintro e W6 ⟨sv,vs,rfl,hrow,hparts,hb6⟩;obtain ⟨aop,cp,rfl⟩ :=hrow.shape))
       have hS6 :=hS5.next hb6
       have hsz5 :=hS5.size
       have hG0 :E5 Hj 9 (w.heap.size+3) ((Side.row 1 (.slice aop Ls.length cp) Ls.length vs).and ((Side.expr x (.agg (A2 op ⟨xk,xn,xs⟩ s nmv n8 (.slice ao4 kk c4)))).and (Side.list Dc (.slice oo es.length oc) es))) W6 (.slice none 0 0) [] :=E5.nil ⟨hrow.mono fun k _ hk=>Nat.le_trans hsz5 hk,IsE.keep (Bb hb6) _ _ HSE.out.1,IsL.keep HSE.out.2 (Bb hb6)⟩
       clear hrow hb6 hS5 hsz5 HSE PB
       go_loopg [481] Ls.length (fun f ix wr=> ∃ (k :Nat) (acc :List Wd) (z :Value),ix= .int .i64 k∧k+f=Ls.length∧S3 w wr (.slice ao5 n5 c5) (sA 7 noW noW noW (.slice none 0 0) (.slice none 0 0) (.slice none 0 0) z (.slice none 0 0) op xk xn xs s nmv n8 (.slice ao4 kk c4) (.slice oo es.length oc) dn N1) ∧E5 Hj 9 (w.heap.size+3) ((Side.row 1 (.slice aop Ls.length cp) Ls.length vs).and ((Side.expr x (.agg (A2 op ⟨xk,xn,xs⟩ s nmv n8 (.slice ao4 kk c4)))).and (Side.list Dc (.slice oo es.length oc) es))) wr z acc∧Hid (Bt Ho (Ls.take k) =some acc∧acc.length=k))
       case atStart=>exact ⟨0,[],_,rfl,by simp,hS6,hG0,rfl,rfl⟩
       case round=>
        clear hG0 hS6
        obtain ⟨k,acc,z,rfl,hkf,hS,hG,HAC⟩ :=hrel
        obtain ⟨az,cz,hz⟩ :=hG.isL.shape
        subst hz
        by_cases hlt :k<Ls.length
        ·obtain ⟨P,hP⟩ : ∃P,Ls[k]? =some P := ⟨_,List.getElem?_eq_getElem hlt⟩
         obtain ⟨v,hv,hvP⟩ :=H8 hparts hP
         obtain ⟨br,or',hceq,hcv⟩ : ∃br or',aop=some ⟨br,or',none⟩ ∧wr.cell? ⟨br,or'+k,none⟩ =some v :=by
          rcases (hG.side).1.2 with ⟨h0,_⟩ | ⟨_,b',o',c',he',_,_,_,_,hc⟩
          ·omega
          ·cases he';exact ⟨b',o',rfl,hc k v hv⟩
         subst hceq
         have HBAD :Hid (Ho P=none→R=none) :=fun h=>HRN.out (I0 hP h)
         have HNX :Hid (∀y,Ho P=some y→Bt Ho (Ls.take (k+1)) =some (acc++ [y])) :=fun y hy=>by rw [H9 hP,HAC.out.1,hy];rfl
         have HACC :Hid (acc.length=k) :=HAC.out.2
         have hab :acc.length≤1601 :=by have :=HAC.out.2;omega
         obtain ⟨av,nv,cv,rfl,hnv⟩ :=Ax hvP
         have j1 : (k :Int) < (Ls.length :Int) :=by omega
         have j0 : (0 :Int) ≤ (k :Int) :=by omega
         have HVP :Hid _ :=hvP
         clear hv hP hparts HAC HWI HRF HRN hvP HWA HA
         by_cases hl1 :P.length=1
         rotate_left
         ·have j2 : ((nv :Int) !=1) =true :=by simp;omega
          have HR0 :Hid (R=none) :=HBAD.out (Aai hl1)
          clear hnv hl1 HBAD HNX HVP
          have hone : (sA 7 noW noW noW (.slice none 0 0) (.slice none 0 0) (.slice none 0 0) (.slice az acc.length cz) (.slice none 0 0) op xk xn xs s nmv n8 (.slice ao4 kk c4) (.slice oo es.length oc) dn N1).all (·.oneCell') =true :=Bc (sl7 _ _ _ _ _ _ _ _ _ _ _ _ _ _ _ _ _ _ _ _ _)
          go_wp2_with (first
           | refine wpList_load_row rfl 39 _ rfl (w.heap.size+2) rfl 39 _ _ _ hS.s Tryz.underlying39 rfl Af ?_
           | refine wpList_store_row rfl 39 _ _ rfl (w.heap.size+1) _ rfl rfl 39 Ah hS.r Af rfl hone ?_)
          exact bodyPost_ret (v := .tuple #[.agg (sA 7 noW noW noW (.slice none 0 0) (.slice none 0 0) (.slice none 0 0) (.slice az acc.length cz) (.slice none 0 0) op xk xn xs s nmv n8 (.slice ao4 kk c4) (.slice oo es.length oc) dn N1), .bool false]) (Ay Tryz.results13 _ _ (w.heap.size+1) 39 _ _ _ _ rfl rfl (Am hS.r) Tryz.underlying39 rfl Af) rfl (A4 (ok :=false) hS (sl7 _ _ _ _ _ _ _ _ _ _ _ _ _ _ _ _ _ _ _ _ _) HR0.out)
         ·obtain ⟨x0,hx0⟩ :=List.length_eq_one_iff.1 hl1
          subst hx0
          have hnv1 :nv=1 :=hnv
          clear hnv hl1
          subst hnv1
          obtain ⟨b2,o2,hveq,hcw⟩ : ∃b2 o2,av=some ⟨b2,o2,none⟩ ∧ ∀V,Below w.heap.size w V→V.cell? ⟨b2,o2,none⟩ =some (.string x0) :=by
           obtain ⟨b',o',c',h1,_,_⟩ :=A0 HVP.out (by simp)
           cases h1
           obtain ⟨g1,_,_,g2⟩ :=A7 HVP.out (by simp)
           exact ⟨b',o',rfl,fun V h=> (h.cell (p := ⟨b',o',none⟩) g1).trans (g2 0 x0 rfl)⟩
          subst hveq
          have KC :Hid _ :=hcw
          have y0 :=hcw wr hS.b
          clear hcw HVP
          by_cases hna :nm x0=true
          rotate_left
          ·have NM :=Da he (Bool.eq_false_iff.2 hna)
           have HR0 :Hid (R=none) :=HBAD.out (if_neg hna)
           clear HBAD HNX hna
           have hone : (sA 7 noW noW noW (.slice none 0 0) (.slice none 0 0) (.slice none 0 0) (.slice az acc.length cz) (.slice none 0 0) op xk xn xs s nmv n8 (.slice ao4 kk c4) (.slice oo es.length oc) dn N1).all (·.oneCell') =true :=Bc (sl7 _ _ _ _ _ _ _ _ _ _ _ _ _ _ _ _ _ _ _ _ _)
           go_wp2_with (first
            | (go_at_call 7;go_fit (NM _ hS.b);rintro e W ⟨rfl,hb⟩;have hS :=hS.next hb)
            | refine wpList_load_row rfl 39 _ rfl (w.heap.size+2) rfl 39 _ _ _ hS.s Tryz.underlying39 rfl Af ?_
            | refine wpList_store_row rfl 39 _ _ rfl (w.heap.size+1) _ rfl rfl 39 Ah hS.r Af rfl hone ?_)
           exact bodyPost_ret (v := .tuple #[.agg (sA 7 noW noW noW (.slice none 0 0) (.slice none 0 0) (.slice none 0 0) (.slice az acc.length cz) (.slice none 0 0) op xk xn xs s nmv n8 (.slice ao4 kk c4) (.slice oo es.length oc) dn N1), .bool false]) (Ay Tryz.results13 _ _ (w.heap.size+1) 39 _ _ _ _ rfl rfl (Am hS.r) Tryz.underlying39 rfl Af) rfl (A4 (ok :=false) hS (sl7 _ _ _ _ _ _ _ _ _ _ _ _ _ _ _ _ _ _ _ _ _) HR0.out)
          ·have NM :=Da he hna
           have HNXT :Hid _ :=HNX.out x0 (if_pos hna)
           clear HBAD HNX hna
           go_upto_region 99 with (go_at_call 7;go_fit (NM _ hS.b);rintro e V ⟨rfl,hb⟩;have hSV :=hS.next hb;have hGV :=hG.below hb;clear hb)
           have s7 :V.cell? ⟨w.heap.size+2,7,none⟩ =some (.slice az acc.length cz) :=Aa hSV.s rfl
           have s7a : ∀o,(V.alloc o).cell? ⟨w.heap.size+2,7,none⟩ =some (.slice az acc.length cz) :=fun o=>Aa (hSV.alloc o).s rfl
           obtain ⟨cs,hown,hall,hside⟩ :=hGV.below ((Below.refl _ _).alloc (Nat.le_refl _) (.cells [.string x0].toArray 9))
           have hnew :=B2 V [.string x0] 9
           have hbase :w.heap.size+3≤ (V.alloc (.cells [.string x0].toArray 9)).heap.size :=Nat.le_trans hSV.size (by simp)
           have kd :Keeps (FO (w.heap.size+3) (.slice az acc.length cz)) (V.alloc (.cells [.string x0].toArray 9)) (V.alloc (.cells [.string x0].toArray 9)).drew := (Keeps.refl _ _).drew
           have HALL :Hid _ :=All.keep kd hall
           have HSIDE :Hid _ :=Side.keep _ kd hside
           have HXY :Hid (Hj.R (FO (w.heap.size+3) (.slice az acc.length cz)) (V.alloc (.cells [.string x0].toArray 9)).drew x0 [.string x0]) :=rfl
           obtain ⟨i0,hi,hz0,hz1,hz2⟩ :=info_parts Od
           have h1c : ∀u∈ ([.string x0] :List Value),u.oneCell'=true :=by simp [Value.oneCell']
           have hownD : (V.alloc (.cells [.string x0].toArray 9)).drew.ownsRow (w.heap.size+3) 9 1 (.slice az acc.length cz) acc.length cs :=hown
           have hbaseD :w.heap.size+3≤ (V.alloc (.cells [.string x0].toArray 9)).drew.heap.size :=hbase
           clear hall hside hGV hG hS kd y0
           refine wp_region_held_drew (S :=fun V'=>V'.cell? ⟨b2,o2,none⟩ =some (.string x0)) (by kernel_rfl) ?_ (fun hHeld=> ?_)
           ·with_reducible first | exact KC.out _ hSV.b.drew | exact KC.out _ (hSV.alloc _).b.drew | exact KC.out _ hS4.b | exact KC.out _ (hS4.set _ _).b
           refine wpAnyH_take (i :=0) (v := ?_) rfl (by kernel_rfl) (by kernel_rfl) (by kernel_rfl) (fun _ _ _ h=>h) (Or.inl ⟨by rfl, ?_⟩) (by assumption) ?_
           rotate_left
           ·intro w hSw;(try dsimp only at hSw);go_simp;all_goals (with_reducible rfl)
           try simp only [Act.put,List.setIfInBounds_toArray,List.set_cons_zero,List.set_cons_succ]
           refine wpAnyH_take (i :=2) (v := ?_) rfl (by kernel_rfl) (by kernel_rfl) (by kernel_rfl) (fun _ _ _ h=>h) (Or.inl ⟨by rfl, ?_⟩) (by assumption) ?_
           rotate_left
           ·intro w hSw;(try dsimp only at hSw);go_simp;all_goals (with_reducible rfl)
           try simp only [Act.put,List.setIfInBounds_toArray,List.set_cons_zero,List.set_cons_succ]
           refine wpAnyH_take (i :=3) (v := ?_) rfl (by kernel_rfl) (by kernel_rfl) (by kernel_rfl) (fun _ _ _ h=>h) (Or.inl ⟨by rfl, ?_⟩) (by assumption) ?_
           rotate_left
           ·intro w hSw;(try dsimp only at hSw);go_simp;all_goals (with_reducible rfl)
           try simp only [Act.put,List.setIfInBounds_toArray,List.set_cons_zero,List.set_cons_succ]
           refine wpAnyH_take (i :=4) (v := ?_) rfl (by kernel_rfl) (by kernel_rfl) (by kernel_rfl) (fun _ _ _ h=>h) (Or.inl ⟨by rfl, ?_⟩) (by assumption) ?_
           rotate_left
           ·intro w hSw;(try dsimp only at hSw);go_simp;all_goals (with_reducible rfl)
           try simp only [Act.put,List.setIfInBounds_toArray,List.set_cons_zero,List.set_cons_succ]
           refine wpAnyH_ready (rs := [1,5]) (by kernel_rfl) (by simp) ?_
           refine (AllReadyH.cons rfl (fun K hK=> ?_) (AllReadyH.cons rfl (fun K hK=> ?_) AllReadyH.nil))
           ·go_simp
            go_wp2_with fail
            refine hK.out _ _ ?_ (fun hHeld=> ?_)
            ·with_reducible first | exact KC.out _ hSV.b.drew | exact KC.out _ (hSV.alloc _).b.drew | exact KC.out _ hS4.b | exact KC.out _ (hS4.set _ _).b
            clear hK K
            try simp only [Act.put,List.setIfInBounds_toArray,List.set_cons_zero,List.set_cons_succ]
            refine wpAnyH_ready (rs := [5]) (by kernel_rfl) (by simp) ?_
            refine (AllReadyH.cons rfl (fun K hK=> ?_) AllReadyH.nil)
            go_simp
            go_wp2_with fail
            refine hK.out _ _ ?_ (fun hHeld=> ?_)
            ·with_reducible first | exact KC.out _ hSV.b.drew | exact KC.out _ (hSV.alloc _).b.drew | exact KC.out _ hS4.b | exact KC.out _ (hS4.set _ _).b
            clear hK K
            try simp only [Act.put,List.setIfInBounds_toArray,List.set_cons_zero,List.set_cons_succ]
            refine wpAnyH_ready (rs := [6]) (by kernel_rfl) (by simp) ?_
            refine (AllReadyH.cons rfl (fun K hK=> ?_) AllReadyH.nil)
            refine Es (by rfl) _ _ 32 (by rfl) (w.heap.size+3) 9 i0 _ 1 16 Tryz.underlying32 hi hz0 hz1 hz2 rfl (by decide) (.slice az acc.length cz) acc.length cs (by rfl) hownD ⟨V.heap.size,0,none⟩ 1 1 [.string x0] (by rfl) rfl hnew h1c (by simp only [maxLen];omega) (by omega) hbaseD ?_;intro z2 w4 hown4 hg4 hat;have hS4 := ((hSV.alloc (.cells [.string x0].toArray 9)).drew).low (Bn hownD hbaseD hg4);have hG4 :=E5.add (K :=Hj) (x :=x0) (V := (V.alloc (.cells [.string x0].toArray 9)).drew) HALL.out HSIDE.out HXY.out hown4 hg4 hat;obtain ⟨az2,cz2,hz⟩ :=hG4.isL.shape;rw [List.length_append,List.length_singleton] at hz;subst hz;have s74 :w4.cell? ⟨w.heap.size+2,7,none⟩ =some (.slice az acc.length cz) :=Aa hS4.s rfl;have f74 :=Ab hS4.s 7;have hS5 :=hS4.set 7 (.slice az2 (acc.length+1) cz2);simp only [List.setIfInBounds_toArray,List.set_cons_zero,List.set_cons_succ] at hS5;have hG5 :=hG4.set (show w.heap.size+2<w.heap.size+3 by omega) 7 (.slice az2 (acc.length+1) cz2)
            refine hK.out _ _ ?_ (fun hHeld=> ?_)
            ·with_reducible first | exact KC.out _ hSV.b.drew | exact KC.out _ (hSV.alloc _).b.drew | exact KC.out _ hS4.b | exact KC.out _ (hS4.set _ _).b
            clear hK K
            try simp only [Act.put,List.setIfInBounds_toArray,List.set_cons_zero,List.set_cons_succ]
            refine wpAnyH_take (i :=7) (v := ?_) rfl (by kernel_rfl) (by kernel_rfl) (by kernel_rfl) (fun _ _ _ h=>h) (Or.inl ⟨by rfl, ?_⟩) (by assumption) ?_
            rotate_left
            ·intro w hSw;(try dsimp only at hSw);go_simp;all_goals (with_reducible rfl)
            try simp only [Act.put,List.setIfInBounds_toArray,List.set_cons_zero,List.set_cons_succ]
            refine wpAnyH_ready (rs := [8]) (by kernel_rfl) (by simp) ?_
            refine (AllReadyH.cons rfl (fun K hK=> ?_) AllReadyH.nil)
            go_simp
            go_wp2_with fail
            refine hK.out _ _ ?_ (fun hHeld=> ?_)
            ·with_reducible first | exact KC.out _ hSV.b.drew | exact KC.out _ (hSV.alloc _).b.drew | exact KC.out _ hS4.b | exact KC.out _ (hS4.set _ _).b
            clear hK K
            try simp only [Act.put,List.setIfInBounds_toArray,List.set_cons_zero,List.set_cons_succ]
            refine wpAnyH_done (by kernel_rfl) ?_ _
            go_wp2_with fail
            go_roundg (gk - 1)
            case measure=>omega
            case rel=>exact ⟨k+1,acc++ [x0],_,by go_num,by omega,hS5,hG5,HNXT.out,by rw [List.length_append,HACC.out];rfl⟩
           ·go_simp
            go_wp2_with fail
            refine hK.out _ _ ?_ (fun hHeld=> ?_)
            ·with_reducible first | exact KC.out _ hSV.b.drew | exact KC.out _ (hSV.alloc _).b.drew | exact KC.out _ hS4.b | exact KC.out _ (hS4.set _ _).b
            clear hK K
            try simp only [Act.put,List.setIfInBounds_toArray,List.set_cons_zero,List.set_cons_succ]
            refine wpAnyH_ready (rs := [1]) (by kernel_rfl) (by simp) ?_
            refine (AllReadyH.cons rfl (fun K hK=> ?_) AllReadyH.nil)
            go_simp
            go_wp2_with fail
            refine hK.out _ _ ?_ (fun hHeld=> ?_)
            ·with_reducible first | exact KC.out _ hSV.b.drew | exact KC.out _ (hSV.alloc _).b.drew | exact KC.out _ hS4.b | exact KC.out _ (hS4.set _ _).b
            clear hK K
            try simp only [Act.put,List.setIfInBounds_toArray,List.set_cons_zero,List.set_cons_succ]
            refine wpAnyH_ready (rs := [6]) (by kernel_rfl) (by simp) ?_
            refine (AllReadyH.cons rfl (fun K hK=> ?_) AllReadyH.nil)
            refine Es (by rfl) _ _ 32 (by rfl) (w.heap.size+3) 9 i0 _ 1 16 Tryz.underlying32 hi hz0 hz1 hz2 rfl (by decide) (.slice az acc.length cz) acc.length cs (by rfl) hownD ⟨V.heap.size,0,none⟩ 1 1 [.string x0] (by rfl) rfl hnew h1c (by simp only [maxLen];omega) (by omega) hbaseD ?_;intro z2 w4 hown4 hg4 hat;have hS4 := ((hSV.alloc (.cells [.string x0].toArray 9)).drew).low (Bn hownD hbaseD hg4);have hG4 :=E5.add (K :=Hj) (x :=x0) (V := (V.alloc (.cells [.string x0].toArray 9)).drew) HALL.out HSIDE.out HXY.out hown4 hg4 hat;obtain ⟨az2,cz2,hz⟩ :=hG4.isL.shape;rw [List.length_append,List.length_singleton] at hz;subst hz;have s74 :w4.cell? ⟨w.heap.size+2,7,none⟩ =some (.slice az acc.length cz) :=Aa hS4.s rfl;have f74 :=Ab hS4.s 7;have hS5 :=hS4.set 7 (.slice az2 (acc.length+1) cz2);simp only [List.setIfInBounds_toArray,List.set_cons_zero,List.set_cons_succ] at hS5;have hG5 :=hG4.set (show w.heap.size+2<w.heap.size+3 by omega) 7 (.slice az2 (acc.length+1) cz2)
            refine hK.out _ _ ?_ (fun hHeld=> ?_)
            ·with_reducible first | exact KC.out _ hSV.b.drew | exact KC.out _ (hSV.alloc _).b.drew | exact KC.out _ hS4.b | exact KC.out _ (hS4.set _ _).b
            clear hK K
            try simp only [Act.put,List.setIfInBounds_toArray,List.set_cons_zero,List.set_cons_succ]
            refine wpAnyH_take (i :=7) (v := ?_) rfl (by kernel_rfl) (by kernel_rfl) (by kernel_rfl) (fun _ _ _ h=>h) (Or.inl ⟨by rfl, ?_⟩) (by assumption) ?_
            rotate_left
            ·intro w hSw;(try dsimp only at hSw);go_simp;all_goals (with_reducible rfl)
            try simp only [Act.put,List.setIfInBounds_toArray,List.set_cons_zero,List.set_cons_succ]
            refine wpAnyH_ready (rs := [8]) (by kernel_rfl) (by simp) ?_
            refine (AllReadyH.cons rfl (fun K hK=> ?_) AllReadyH.nil)
            go_simp
            go_wp2_with fail
            refine hK.out _ _ ?_ (fun hHeld=> ?_)
            ·with_reducible first | exact KC.out _ hSV.b.drew | exact KC.out _ (hSV.alloc _).b.drew | exact KC.out _ hS4.b | exact KC.out _ (hS4.set _ _).b
            clear hK K
            try simp only [Act.put,List.setIfInBounds_toArray,List.set_cons_zero,List.set_cons_succ]
            refine wpAnyH_done (by kernel_rfl) ?_ _
            go_wp2_with fail
            go_roundg (gk - 1)
            case measure=>omega
            case rel=>exact ⟨k+1,acc++ [x0],_,by go_num,by omega,hS5,hG5,HNXT.out,by rw [List.length_append,HACC.out];rfl⟩
        ·have j1 : ¬ (k :Int) < (Ls.length :Int) :=by omega
         have HR5 :Hid (R=if ok3=true then (J8 A).map fun os=> {Bg 7 with out :=os,frm :=acc,wher :=x,order :=es,down :=dn,n :=N1} else none) :=HRF.out acc (by have :=HAC.out.1;rwa [List.take_of_length_le (show Ls.length≤k by omega)] at this)
         have hF :=hG.isL
         have hsd :=hG.side.2
         obtain ⟨W7,hW7⟩ : ∃V,V=wr := ⟨_,rfl⟩
         subst hW7
         have HA2 :=HA.out
         obtain ⟨aoa',na',ca',hsh,hna⟩ :=Ax HA2
         cases hsh
         clear HRF HRN HAC hG hparts HWI
         by_cases hst :A= [A9]
         ·have HG :Hid (R=if ok3=true then some {Bg 7 with out := [],frm :=acc,wher :=x,order :=es,down :=dn,n :=N1} else none) :=by show R=_;rw [HR5.out,hst];rfl
          subst hst
          have hna1 :na=1 :=hna
          clear hna
          subst hna1
          obtain ⟨b2,o2,hveq,y0⟩ : ∃b2 o2,aoa=some ⟨b2,o2,none⟩ ∧W7.cell? ⟨b2,o2,none⟩ =some (.string A9) :=by
           obtain ⟨b',o',c',h1,_,_⟩ :=A0 HA2 (by simp)
           cases h1
           obtain ⟨g1,_,_,g2⟩ :=A7 HA2 (by simp)
           exact ⟨b',o',rfl,(hS.b.cell (p := ⟨b',o',none⟩) g1).trans (g2 0 A9 rfl)⟩
          subst hveq
          clear HR5 HA HA2 HWA
          have hone : (sA 7 noW noW noW (.slice none 0 0) (.slice none 0 0) (.slice none 0 0) (.slice az acc.length cz) (.slice none 0 0) op xk xn xs s nmv n8 (.slice ao4 kk c4) (.slice oo es.length oc) dn N1).all (·.oneCell') =true :=Bc (sl7 _ _ _ _ _ _ _ _ _ _ _ _ _ _ _ _ _ _ _ _ _)
          go_wp2_with (first
           | refine wpList_load_row rfl 39 _ rfl (w.heap.size+2) rfl 39 _ _ _ hS.s Tryz.underlying39 rfl Af ?_
           | refine wpList_store_row rfl 39 _ _ rfl (w.heap.size+1) _ rfl rfl 39 Ah hS.r Af rfl hone ?_)
          exact bodyPost_ret (v := .tuple #[.agg (sA 7 noW noW noW (.slice none 0 0) (.slice none 0 0) (.slice none 0 0) (.slice az acc.length cz) (.slice none 0 0) op xk xn xs s nmv n8 (.slice ao4 kk c4) (.slice oo es.length oc) dn N1), .bool ok3]) (Ay Tryz.results13 _ _ (w.heap.size+1) 39 _ _ _ _ rfl rfl (Am hS.r) Tryz.underlying39 rfl Af) rfl (A4 (ok :=ok3) hS (sl7 _ _ _ _ _ _ _ _ _ _ _ _ _ _ _ _ _ _ _ _ _) (Q9 HG.out (D8 (IsL.nil _ _ _) (IsL.nil _ _ _) (IsL.nil _ _ _) hF (IsL.nil _ _ _) hsd.1 hsd.2)))
         ·have HR6 :Hid (R=if ok3=true then (Bt Dn (Bf A)).map fun os=> {Bg 7 with out :=os,frm :=acc,wher :=x,order :=es,down :=dn,n :=N1} else none) :=by show R=_;rw [HR5.out,J8,if_neg hst]
          have PA :=Ii (.slice aoa na ca) A w W7 HWA.out.2 HA2 hS.b
          have hpl2 : (Bf A).length≤1601 :=Nat.le_trans (Ij A) (by have :=HWA.out.2;omega)
          have HWI :Hid (∀P∈Bf A,Whole P∧P.length≤1600) :=fun P hP=>by have h :=Hh HWA.out.1 P hP;exact ⟨h.1,Nat.le_trans h.2 HWA.out.2⟩
          have key : ((na :Int) ==1) =false∨ ∃x1 b2 o2,na=1∧aoa=some ⟨b2,o2,none⟩ ∧W7.cell? ⟨b2,o2,none⟩ =some (.string x1) ∧ (x1.toList== [42]) =false :=by
           by_cases h1 :A.length=1
           ·obtain ⟨x1,rfl⟩ :=List.length_eq_one_iff.1 h1
            obtain ⟨b',o',c',h2,_,_⟩ :=A0 HA2 (by simp)
            cases h2
            obtain ⟨g1,_,_,g2⟩ :=A7 HA2 (by simp)
            refine .inr ⟨x1,b',o',hna,rfl,(hS.b.cell (p := ⟨b',o',none⟩) g1).trans (g2 0 x1 rfl), ?_⟩
            rw [An]
            simpa using hst
           ·exact .inl (beq_eq_false_iff_ne.2 (by omega))
          clear HR5 HA HA2 HWA hna hst
          generalize Bf A=Ps at*
          have HSF :Hid (IsL Hj (Fr (w.heap.size+3)) W7 (.slice az acc.length cz) acc) :=hF
          have HSG :Hid (IsE (Fr (w.heap.size+3)) W7 x (.agg (A2 op ⟨xk,xn,xs⟩ s nmv n8 (.slice ao4 kk c4))) ∧IsL Dc (Fr (w.heap.size+3)) W7 (.slice oo es.length oc) es) :=hsd
          clear hF hsd
          go_upto_region 101 with fail
          go_cut [513] from 505 to 512 (fun s513 wx=>s513= .bool false∧wx=W7)
          case first=>
           as_aux_lemma=>
            clear PA HWI HR6 HSF HSG
            rcases key with j2 | ⟨x1,b2,o2,rfl,rfl,y0,j2⟩
            all_goals
             go_wp2_with fail
             go_meet
             case rel=>exact ⟨rfl,rfl⟩
          case rest=>
           obtain ⟨rfl,hwc⟩ :=hcut
           rw [hwc]
           clear hwc key
           go_wp2_with (go_at_call 34;go_must (go_fit PA;rintro e W8 ⟨sv,vq,rfl,hrow,hparts,hb8⟩;obtain ⟨ap,cq,rfl⟩ :=hrow.shape))
           have hS8 :=hS.next hb8
           have hsz7 :=hS.size
           have hG0 :E5 Dc 37 (w.heap.size+3) ((Side.row 1 (.slice ap Ps.length cq) Ps.length vq).and ((Side.expr x (.agg (A2 op ⟨xk,xn,xs⟩ s nmv n8 (.slice ao4 kk c4)))).and ((Side.list Dc (.slice oo es.length oc) es).and (Side.list Hj (.slice az acc.length cz) acc)))) W8 (.slice none 0 0) [] :=E5.nil ⟨hrow.mono fun k _ hk=>Nat.le_trans hsz7 hk,IsE.keep (Bb hb8) _ _ HSG.out.1,IsL.keep HSG.out.2 (Bb hb8),IsL.keep HSF.out (Bb hb8)⟩
           clear hrow hb8 hS hsz7 HSF HSG PA
           go_loopg [7,519] Ps.length (fun f okv ix wr=> ∃ (k2 :Nat) (out :List E) (z :Value) (okk :Bool),ix= .int .i64 k2∧okv= .bool okk∧k2+f=Ps.length∧S3 w wr (.slice ao5 n5 c5) (sA 7 noW noW noW (.slice none 0 0) (.slice none 0 0) (.slice none 0 0) (.slice az acc.length cz) z op xk xn xs s nmv n8 (.slice ao4 kk c4) (.slice oo es.length oc) dn N1) ∧E5 Dc 37 (w.heap.size+3) ((Side.row 1 (.slice ap Ps.length cq) Ps.length vq).and ((Side.expr x (.agg (A2 op ⟨xk,xn,xs⟩ s nmv n8 (.slice ao4 kk c4)))).and ((Side.list Dc (.slice oo es.length oc) es).and (Side.list Hj (.slice az acc.length cz) acc)))) wr z out∧Hid ((okk=true→ok3=true∧Bt Dn (Ps.take k2) =some out) ∧ (okk=false→R=none) ∧out.length=k2))
           case atStart=>exact ⟨0,[],_,ok3,rfl,rfl,by simp,hS8,hG0,(fun h=> ⟨h,rfl⟩),(fun h=>by rw [HR6.out,h];rfl),rfl⟩
           case round=>
            clear hG0 hS8
            obtain ⟨k2,out,z,okk,rfl,rfl,hkf2,hS,hG,HAC⟩ :=hrel
            obtain ⟨bz,dz,hz⟩ :=hG.isL.shape
            subst hz
            by_cases hlt2 :k2<Ps.length
            ·obtain ⟨P,hP⟩ : ∃P,Ps[k2]? =some P := ⟨_,List.getElem?_eq_getElem hlt2⟩
             obtain ⟨v,hv,hvP⟩ :=H8 hparts hP
             obtain ⟨br,or',hceq,hcv⟩ : ∃br or',ap=some ⟨br,or',none⟩ ∧wr.cell? ⟨br,or'+k2,none⟩ =some v :=by
              rcases (hG.side).1.2 with ⟨h0,_⟩ | ⟨_,b',o',c',he',_,_,_,_,hc⟩
              ·omega
              ·cases he';exact ⟨b',o',rfl,hc k2 v hv⟩
             subst hceq
             have hwP :=HWI.out P (List.mem_of_getElem? hP)
             have HBAD :Hid (Dn P=none→R=none) :=fun h=>by rw [HR6.out,I0 hP h];cases ok3<;>rfl
             have HNXT :Hid (∀y,okk=true→Dn P=some y→ok3=true∧Bt Dn (Ps.take (k2+1)) =some (out++ [y])) :=fun y h1 hy=> ⟨(HAC.out.1 h1).1,by rw [H9 hP,(HAC.out.1 h1).2,hy];rfl⟩
             have HOFF :Hid (okk=false→R=none) :=HAC.out.2.1
             have HACC :Hid (out.length=k2) :=HAC.out.2.2
             have hab :out.length≤1601 :=by have :=HAC.out.2.2;omega
             have EX :=Gy v P wr hwP.2 hwP.2 (he.next hS.b) (hvP.below hS.b) hwP.1
             obtain ⟨av,nv,cv,rfl,hnv⟩ :=Ax hvP
             have i1 : (k2 :Int) < (Ps.length :Int) :=by omega
             have i0 : (0 :Int) ≤ (k2 :Int) :=by omega
             clear hv hP hparts HAC HWI HR6 hvP hnv hwP
             generalize Dn P=RX at*
             have hyF :=I2 hG hS.size
             go_upto_region 107 with (go_at_call 32;go_must (go_fit EX;rintro e W ⟨ve,okx,y,rfl,hEy,hRy,hbe⟩;have HRY :Hid _ :=hRy;clear hRy;obtain ⟨yop,yv,ys,ynm,yn,yao,ykk,yc,rfl⟩ :=hEy.shape;obtain ⟨yk,yi,ys2⟩ :=yv))
             have hSW :=hS.next hbe
             have hGW :=hG.below hbe
             have hbV :Below W.heap.size W (W.alloc (.cells #[.int .i64 yop, .int .i64 yk, .int .i64 yi, .string ys2, .string ys, .string ynm, .int .i64 yn, .slice yao ykk yc] 37)) := (Below.refl _ _).alloc (Nat.le_refl _) _
             have bE : (W.alloc (.cells #[.int .i64 yop, .int .i64 yk, .int .i64 yi, .string ys2, .string ys, .string ynm, .int .i64 yn, .slice yao ykk yc] 37)).heap[W.heap.size]? =some (.cells #[.int .i64 yop, .int .i64 yk, .int .i64 yi, .string ys2, .string ys, .string ynm, .int .i64 yn, .slice yao ykk yc] 37) :=Ad W _
             have hSV :=hSW.next hbV
             have hGV :=hGW.below hbV
             have hpe0 :w.heap.size+3≤W.heap.size :=hSW.size
             have hpe :some W.heap.size≠ (Value.slice bz out.length dz).ownBlock := (I2 hGW hSW.size _ (Nat.le_refl _)).2
             have hpl3 :W.heap.size< (W.alloc (.cells #[.int .i64 yop, .int .i64 yk, .int .i64 yi, .string ys2, .string ys, .string ynm, .int .i64 yn, .slice yao ykk yc] 37)).heap.size :=by simp
             have hEV :=IsE.keep (Bb hbV) _ _ (IsE.mono (fun k _ hk=>hyF k hk) _ _ hEy)
             generalize hV :W.alloc (.cells #[.int .i64 yop, .int .i64 yk, .int .i64 yi, .string ys2, .string ys, .string ynm, .int .i64 yn, .slice yao ykk yc] 37) =V at*
             go_cut [7] from 528 to 531 (fun s7 wx=>s7= .bool (okk&&okx) ∧wx=V)
             case first=>
              as_aux_lemma=>
               cases okk
               all_goals
                go_wp2_with fail
                go_meet
                case rel=>exact ⟨rfl,rfl⟩
             case rest=>
              obtain ⟨rfl,hwc⟩ :=hcut
              rw [hwc]
              clear hwc hV hbV hyF hEy EX hS hG hSW hGW hbe
              generalize W.heap.size=pe at*
              have HPG :Hid (∀g,((Value.slice (some ⟨g,0,none⟩) (out.length+1) 0).ownBlock= (Value.slice bz out.length dz).ownBlock∨ (Value.slice (some ⟨g,0,none⟩) (out.length+1) 0).ownBlock=some (V.alloc (.cells [.int .i64 0, .int .i64 0, .int .i64 0, .string ⟨#[]⟩, .string ⟨#[]⟩, .string ⟨#[]⟩, .int .i64 0, .slice none 0 0].toArray 37)).drew.heap.size) →pe≠g) :=fun g h e=>by
               subst e
               rcases h with h | h
               ·exact hpe h
               ·have h2 :pe= (V.alloc (.cells [.int .i64 0, .int .i64 0, .int .i64 0, .string ⟨#[]⟩, .string ⟨#[]⟩, .string ⟨#[]⟩, .int .i64 0, .slice none 0 0].toArray 37)).drew.heap.size :=Option.some.inj h
                have h3 : (V.alloc (.cells [.int .i64 0, .int .i64 0, .int .i64 0, .string ⟨#[]⟩, .string ⟨#[]⟩, .string ⟨#[]⟩, .int .i64 0, .slice none 0 0].toArray 37)).drew.heap.size=V.heap.size+1 :=by show (V.alloc (.cells [.int .i64 0, .int .i64 0, .int .i64 0, .string ⟨#[]⟩, .string ⟨#[]⟩, .string ⟨#[]⟩, .int .i64 0, .slice none 0 0].toArray 37)).heap.size=_;simp
                omega
              have KE :Hid (∀V' :World,V'.heap[pe]? =some (.cells #[.int .i64 yop, .int .i64 yk, .int .i64 yi, .string ys2, .string ys, .string ynm, .int .i64 yn, .slice yao ykk yc] 37) →_) :=fun V' h=>Cq h rfl
              have s8 :V.cell? ⟨w.heap.size+2,8,none⟩ =some (.slice bz out.length dz) :=Aa hSV.s rfl
              have s8a : ∀o,(V.alloc o).cell? ⟨w.heap.size+2,8,none⟩ =some (.slice bz out.length dz) :=fun o=>Aa (hSV.alloc o).s rfl
              obtain ⟨cs,hown,hall,hside⟩ :=hGV.below ((Below.refl _ _).alloc (Nat.le_refl _) (.cells [.int .i64 0, .int .i64 0, .int .i64 0, .string ⟨#[]⟩, .string ⟨#[]⟩, .string ⟨#[]⟩, .int .i64 0, .slice none 0 0].toArray 37))
              have hnew :=B2 V [.int .i64 0, .int .i64 0, .int .i64 0, .string ⟨#[]⟩, .string ⟨#[]⟩, .string ⟨#[]⟩, .int .i64 0, .slice none 0 0] 37
              have hbase :w.heap.size+3≤ (V.alloc (.cells [.int .i64 0, .int .i64 0, .int .i64 0, .string ⟨#[]⟩, .string ⟨#[]⟩, .string ⟨#[]⟩, .int .i64 0, .slice none 0 0].toArray 37)).heap.size :=Nat.le_trans hSV.size (by simp)
              have kd :Keeps (FO (w.heap.size+3) (.slice bz out.length dz)) (V.alloc (.cells [.int .i64 0, .int .i64 0, .int .i64 0, .string ⟨#[]⟩, .string ⟨#[]⟩, .string ⟨#[]⟩, .int .i64 0, .slice none 0 0].toArray 37)) (V.alloc (.cells [.int .i64 0, .int .i64 0, .int .i64 0, .string ⟨#[]⟩, .string ⟨#[]⟩, .string ⟨#[]⟩, .int .i64 0, .slice none 0 0].toArray 37)).drew := (Keeps.refl _ _).drew
              have HALL :Hid _ :=All.keep kd hall
              have HSIDE :Hid _ :=Side.keep _ kd hside
              have HXY :Hid (Dc.R (FO (w.heap.size+3) (.slice bz out.length dz)) (V.alloc (.cells [.int .i64 0, .int .i64 0, .int .i64 0, .string ⟨#[]⟩, .string ⟨#[]⟩, .string ⟨#[]⟩, .int .i64 0, .slice none 0 0].toArray 37)).drew y [.int .i64 yop, .int .i64 yk, .int .i64 yi, .string ys2, .string ys, .string ynm, .int .i64 yn, .slice yao ykk yc]) := ⟨rfl,IsE.keep kd _ _ (IsE.keep ((Keeps.refl _ _).alloc _) _ _ hEV)⟩
              obtain ⟨i9,hi,hz0,hz1,hz2⟩ :=info_parts M6
              have h1c : ∀u∈ ([.int .i64 0, .int .i64 0, .int .i64 0, .string ⟨#[]⟩, .string ⟨#[]⟩, .string ⟨#[]⟩, .int .i64 0, .slice none 0 0] :List Value),u.oneCell'=true :=by simp only [List.forall_mem_cons];repeat (first | exact fun _ h=>absurd h List.not_mem_nil | refine ⟨rfl, ?_⟩)
              have hone8 : (#[.int .i64 yop, .int .i64 yk, .int .i64 yi, .string ys2, .string ys, .string ynm, .int .i64 yn, .slice yao ykk yc] :Array Value).all (·.oneCell') =true :=by simp [Value.oneCell']
              have hownD : (V.alloc (.cells [.int .i64 0, .int .i64 0, .int .i64 0, .string ⟨#[]⟩, .string ⟨#[]⟩, .string ⟨#[]⟩, .int .i64 0, .slice none 0 0].toArray 37)).drew.ownsRow (w.heap.size+3) 37 8 (.slice bz out.length dz) out.length cs :=hown
              have hbaseD :w.heap.size+3≤ (V.alloc (.cells [.int .i64 0, .int .i64 0, .int .i64 0, .string ⟨#[]⟩, .string ⟨#[]⟩, .string ⟨#[]⟩, .int .i64 0, .slice none 0 0].toArray 37)).drew.heap.size :=hbase
              have u1 : (out.length :Int) < (out.length :Int) +1 :=by omega
              have u0 : (0 :Int) ≤ (out.length :Int) :=by omega
              clear hall hside hGV hEV kd
              go_upto_region 108 with fail
              refine wp_region_held_drew (S :=fun V'=>V'.cell? ⟨pe,0,none⟩ =some (.int .i64 yop) ∧V'.cell? ⟨pe,1,none⟩ =some (.int .i64 yk) ∧V'.cell? ⟨pe,2,none⟩ =some (.int .i64 yi) ∧V'.cell? ⟨pe,3,none⟩ =some (.string ys2) ∧V'.cell? ⟨pe,4,none⟩ =some (.string ys) ∧V'.cell? ⟨pe,5,none⟩ =some (.string ynm) ∧V'.cell? ⟨pe,6,none⟩ =some (.int .i64 yn) ∧V'.cell? ⟨pe,7,none⟩ =some (.slice yao ykk yc)) (by kernel_rfl) ?_ (fun hHeld=> ?_)
              ·with_reducible first | exact KE.out _ (A8 bE) | exact KE.out _ (A8 (Ae bE _)) | exact KE.out _ hbE4 | exact KE.out _ (Aj hbE4 (by omega) _ _) | exact KE.out _ hbE5 | exact KE.out _ (Aj hbE5 (by omega) _ _) | exact KE.out _ hbE7
              refine wpAnyH_take (i :=0) (oi := {dst :=some 532,op :=Go.Op.fieldAddr 39 (Go.Operand.tmp 4) 8,type :=0,pos := "low.go:524",after := #[],guard :=none}) (v := ?_) rfl (by kernel_rfl) (by kernel_rfl) (by kernel_rfl) (fun _ _ _ h=>h) (Or.inl ⟨by rfl, ?_⟩) (by assumption) ?_
              rotate_left
              ·intro w hSw;(try dsimp only at hSw);go_simp;all_goals (with_reducible rfl)
              try simp only [Act.put,List.setIfInBounds_toArray,List.set_cons_zero,List.set_cons_succ]
              refine wpAnyH_take (i :=2) (oi := {dst :=some 534,op :=Go.Op.load 37 (Go.Operand.tmp 40),type :=37,pos := "low.go:524",after := #[],guard :=none}) (v := ?_) rfl (by kernel_rfl) (by kernel_rfl) (by kernel_rfl) (fun _ _ _ h=>h) (Or.inl ⟨by rfl, ?_⟩) (by assumption) ?_
              rotate_left
              ·intro w hSw;(try dsimp only at hSw);go_simp;all_goals (with_reducible rfl)
              try simp only [Act.put,List.setIfInBounds_toArray,List.set_cons_zero,List.set_cons_succ]
              refine wpAnyH_ready (rs := [1,4]) (by kernel_rfl) (by simp) ?_
              refine (AllReadyH.cons (o := {dst :=some 533,op :=Go.Op.load 33 (Go.Operand.tmp 532),type :=33,pos := "low.go:524",after := #[{on :=0,ground :=Go.Ground.data}],guard :=none}) rfl (fun K hK=> ?_) (AllReadyH.cons (o := {dst :=some 536,op :=Go.Op.buildSlice 33 1 #[(0,Go.Operand.const (Go.Value.agg #[Go.Value.int Go.IntKind.i64 0,Go.Value.int Go.IntKind.i64 0,Go.Value.int Go.IntKind.i64 0,Go.Value.string {data := #[]},Go.Value.string {data := #[]},Go.Value.string {data := #[]},Go.Value.int Go.IntKind.i64 0,Go.Value.slice none 0 0]))],type :=33,pos := "low.go:524",after := #[],guard :=none}) rfl (fun K hK=> ?_) AllReadyH.nil))
              ·go_simp
               go_wp2_with fail
               refine hK.out _ _ ?_ (fun hHeld=> ?_)
               ·with_reducible first | exact KE.out _ (A8 bE) | exact KE.out _ (A8 (Ae bE _)) | exact KE.out _ hbE4 | exact KE.out _ (Aj hbE4 (by omega) _ _) | exact KE.out _ hbE5 | exact KE.out _ (Aj hbE5 (by omega) _ _) | exact KE.out _ hbE7
               clear hK K
               try simp only [Act.put,List.setIfInBounds_toArray,List.set_cons_zero,List.set_cons_succ]
               refine wpAnyH_take (i :=3) (oi := {dst :=some 535,op :=Go.Op.call {callee :=Go.Callee.builtin Go.Builtin.len,args := #[Go.Operand.tmp 533],argTypes := #[33]},type :=3,pos := "low.go:524",after := #[{on :=1,ground :=Go.Ground.data}],guard :=none}) (v := ?_) rfl (by kernel_rfl) (by kernel_rfl) (by kernel_rfl) (fun _ _ _ h=>h) (Or.inl ⟨by rfl, ?_⟩) (by assumption) ?_
               rotate_left
               ·intro w hSw;(try dsimp only at hSw);go_simp;all_goals (with_reducible rfl)
               try simp only [Act.put,List.setIfInBounds_toArray,List.set_cons_zero,List.set_cons_succ]
               refine wpAnyH_ready (rs := [4]) (by kernel_rfl) (by simp) ?_
               refine (AllReadyH.cons (o := {dst :=some 536,op :=Go.Op.buildSlice 33 1 #[(0,Go.Operand.const (Go.Value.agg #[Go.Value.int Go.IntKind.i64 0,Go.Value.int Go.IntKind.i64 0,Go.Value.int Go.IntKind.i64 0,Go.Value.string {data := #[]},Go.Value.string {data := #[]},Go.Value.string {data := #[]},Go.Value.int Go.IntKind.i64 0,Go.Value.slice none 0 0]))],type :=33,pos := "low.go:524",after := #[],guard :=none}) rfl (fun K hK=> ?_) AllReadyH.nil)
               go_simp
               go_wp2_with fail
               refine hK.out _ _ ?_ (fun hHeld=> ?_)
               ·with_reducible first | exact KE.out _ (A8 bE) | exact KE.out _ (A8 (Ae bE _)) | exact KE.out _ hbE4 | exact KE.out _ (Aj hbE4 (by omega) _ _) | exact KE.out _ hbE5 | exact KE.out _ (Aj hbE5 (by omega) _ _) | exact KE.out _ hbE7
               clear hK K
               try simp only [Act.put,List.setIfInBounds_toArray,List.set_cons_zero,List.set_cons_succ]
               refine wpAnyH_ready (rs := [5]) (by kernel_rfl) (by simp) ?_
               refine (AllReadyH.cons (o := {dst :=some 537,op :=Go.Op.call {callee :=Go.Callee.builtin Go.Builtin.append,args := #[Go.Operand.tmp 533,Go.Operand.tmp 536],argTypes := #[33,33]},type :=33,pos := "low.go:524",after := #[{on :=1,ground :=Go.Ground.data},{on :=4,ground :=Go.Ground.data},{on :=0,ground :=Go.Ground.phase},{on :=1,ground :=Go.Ground.phase},{on :=2,ground :=Go.Ground.phase},{on :=3,ground :=Go.Ground.phase},{on :=4,ground :=Go.Ground.phase}],guard :=none}) rfl (fun K hK=> ?_) AllReadyH.nil)
               refine Es (by rfl) _ _ 33 (by rfl) (w.heap.size+3) 37 i9 _ 8 104 Tryz.underlying33 hi hz0 hz1 hz2 rfl (by decide) (.slice bz out.length dz) out.length cs (by rfl) hownD ⟨V.heap.size,0,none⟩ 1 1 [.int .i64 0, .int .i64 0, .int .i64 0, .string ⟨#[]⟩, .string ⟨#[]⟩, .string ⟨#[]⟩, .int .i64 0, .slice none 0 0] (by rfl) rfl hnew h1c (by simp only [maxLen];omega) (by omega) hbaseD ?_;intro z2 w4 hown4 hg4 hat;have hS4 := ((hSV.alloc (.cells [.int .i64 0, .int .i64 0, .int .i64 0, .string ⟨#[]⟩, .string ⟨#[]⟩, .string ⟨#[]⟩, .int .i64 0, .slice none 0 0].toArray 37)).drew).low (Bn hownD hbaseD hg4);have hbE4 :w4.heap[pe]? =some (.cells #[.int .i64 yop, .int .i64 yk, .int .i64 yi, .string ys2, .string ys, .string ynm, .int .i64 yn, .slice yao ykk yc] 37) :=Kb hg4 (w := (V.alloc (.cells [.int .i64 0, .int .i64 0, .int .i64 0, .string ⟨#[]⟩, .string ⟨#[]⟩, .string ⟨#[]⟩, .int .i64 0, .slice none 0 0].toArray 37)).drew) (Ae bE _) hpe;obtain ⟨g2,dz2,hz,hbg,hth,hG5,hb5⟩ :=E5.addPut (K :=Dc) (x :=y) (c := [.int .i64 yop, .int .i64 yk, .int .i64 yi, .string ys2, .string ys, .string ynm, .int .i64 yn, .slice yao ykk yc]) (zs := [.int .i64 0, .int .i64 0, .int .i64 0, .string ⟨#[]⟩, .string ⟨#[]⟩, .string ⟨#[]⟩, .int .i64 0, .slice none 0 0]) (V := (V.alloc (.cells [.int .i64 0, .int .i64 0, .int .i64 0, .string ⟨#[]⟩, .string ⟨#[]⟩, .string ⟨#[]⟩, .int .i64 0, .slice none 0 0].toArray 37)).drew) HALL.out HSIDE.out HXY.out hown4 rfl hg4 hat;subst hz;have hpg :pe≠g2 :=HPG.out g2 (by first | exact hat | simpa [Value.ownBlock] using hat)
               refine hK.out _ _ ?_ (fun hHeld=> ?_)
               ·with_reducible first | exact KE.out _ (A8 bE) | exact KE.out _ (A8 (Ae bE _)) | exact KE.out _ hbE4 | exact KE.out _ (Aj hbE4 (by omega) _ _) | exact KE.out _ hbE5 | exact KE.out _ (Aj hbE5 (by omega) _ _) | exact KE.out _ hbE7
               clear hK K
               try simp only [Act.put,List.setIfInBounds_toArray,List.set_cons_zero,List.set_cons_succ]
               refine wpAnyH_take (i :=6) (oi := {dst :=some 538,op :=Go.Op.indexAddr 33 (Go.Operand.tmp 537) (Go.Operand.tmp 535),type :=0,pos := "low.go:524",after := #[{on :=5,ground :=Go.Ground.data},{on :=3,ground :=Go.Ground.data},{on :=0,ground :=Go.Ground.phase},{on :=1,ground :=Go.Ground.phase},{on :=2,ground :=Go.Ground.phase},{on :=3,ground :=Go.Ground.phase},{on :=4,ground :=Go.Ground.phase},{on :=5,ground :=Go.Ground.phase},{on :=9,ground :=Go.Ground.gcOnly Go.Departure.appendInPlace}],guard :=none}) (v := ?_) rfl (by kernel_rfl) (by kernel_rfl) (by kernel_rfl) (fun _ _ _ h=>h) (Or.inl ⟨by rfl, ?_⟩) (by assumption) ?_
               rotate_left
               ·intro w hSw;(try dsimp only at hSw);go_simp;all_goals (with_reducible rfl)
               try simp only [Act.put,List.setIfInBounds_toArray,List.set_cons_zero,List.set_cons_succ]
               refine wpAnyH_take (i :=8) (oi := {dst :=some 539,op :=Go.Op.fieldAddr 39 (Go.Operand.tmp 4) 8,type :=0,pos := "low.go:524",after := #[{on :=0,ground :=Go.Ground.phase},{on :=1,ground :=Go.Ground.phase},{on :=2,ground :=Go.Ground.phase},{on :=3,ground :=Go.Ground.phase},{on :=4,ground :=Go.Ground.phase},{on :=5,ground :=Go.Ground.phase},{on :=6,ground :=Go.Ground.textOnly Go.Departure.appendInPlace},{on :=7,ground :=Go.Ground.textOnly Go.Departure.appendInPlace}],guard :=none}) (v := ?_) rfl (by kernel_rfl) (by kernel_rfl) (by kernel_rfl) (fun _ _ _ h=>h) (Or.inl ⟨by rfl, ?_⟩) (by assumption) ?_
               rotate_left
               ·intro w hSw;(try dsimp only at hSw);go_simp;all_goals (with_reducible rfl)
               try simp only [Act.put,List.setIfInBounds_toArray,List.set_cons_zero,List.set_cons_succ]
               have s84 :w4.cell? ⟨w.heap.size+2,8,none⟩ =some (.slice bz out.length dz) :=Aa hS4.s rfl
               have f84 :=Ab hS4.s 8
               have hS5 :=hS4.set 8 (.slice (some ⟨g2,0,none⟩) (out.length+1) dz2)
               simp only [List.setIfInBounds_toArray,List.set_cons_zero,List.set_cons_succ] at hS5
               obtain ⟨w5,hw5⟩ : ∃V,w4.setCells g2 (out.length*8) [.int .i64 yop, .int .i64 yk, .int .i64 yi, .string ys2, .string ys, .string ynm, .int .i64 yn, .slice yao ykk yc] =V := ⟨_,rfl⟩
               obtain ⟨w7,hw7⟩ : ∃V,(w4.setCell ⟨w.heap.size+2,8,none⟩ (.slice (some ⟨g2,0,none⟩) (out.length+1) dz2)).setCells g2 (out.length*8) [.int .i64 yop, .int .i64 yk, .int .i64 yi, .string ys2, .string ys, .string ynm, .int .i64 yn, .slice yao ykk yc] =V := ⟨_,rfl⟩
               have hth8 :w4.there g2 (out.length*8) ([.int .i64 yop, .int .i64 yk, .int .i64 yi, .string ys2, .string ys, .string ynm, .int .i64 yn, .slice yao ykk yc] :List Value).length :=hth
               have hth9 : (w4.setCell ⟨w.heap.size+2,8,none⟩ (.slice (some ⟨g2,0,none⟩) (out.length+1) dz2)).there g2 (out.length*8) ([.int .i64 yop, .int .i64 yk, .int .i64 yi, .string ys2, .string ys, .string ynm, .int .i64 yn, .slice yao ykk yc] :List Value).length :=World.there_setCells hth8 (w.heap.size+2) 8 [(.slice (some ⟨g2,0,none⟩) (out.length+1) dz2)]
               have hsz8 : (Tryz.prog.info? 37).map (·.size) =some ([.int .i64 yop, .int .i64 yk, .int .i64 yi, .string ys2, .string ys, .string ynm, .int .i64 yn, .slice yao ykk yc] :List Value).length :=Aaj
               have hb5w :Below (w.heap.size+3) w4 w5 :=by rw [←hw5];exact hb5
               have hG5w :=hG5
               rw [show (out.length*Dc.size) =out.length*8 from rfl] at hG5w
               have hG7 :=hG5w.swap (i :=8) (out.length*8) [.int .i64 yop, .int .i64 yk, .int .i64 yi, .string ys2, .string ys, .string ynm, .int .i64 yn, .slice yao ykk yc] (.slice (some ⟨g2,0,none⟩) (out.length+1) dz2) (show w.heap.size+2<w.heap.size+3 by omega) hbg
               rw [hw7] at hG7
               rw [hw5] at hG5w
               have hbE5 :w5.heap[pe]? =some (.cells #[.int .i64 yop, .int .i64 yk, .int .i64 yi, .string ys2, .string ys, .string ynm, .int .i64 yn, .slice yao ykk yc] 37) :=by rw [←hw5];exact ((E4 _ _ _).2.2.2.2 pe hpg).trans hbE4
               have hbE7 :w7.heap[pe]? =some (.cells #[.int .i64 yop, .int .i64 yk, .int .i64 yi, .string ys2, .string ys, .string ynm, .int .i64 yn, .slice yao ykk yc] 37) :=by rw [←hw7];exact ((E4 _ _ _).2.2.2.2 pe hpg).trans (Aj hbE4 (by omega) _ _)
               have hS5w :=hS4.low hb5w
               have hb7 :Below (w.heap.size+3) (w4.setCell ⟨w.heap.size+2,8,none⟩ (.slice (some ⟨g2,0,none⟩) (out.length+1) dz2)) w7 :=by rw [←hw7];exact Rh hbg [.int .i64 yop, .int .i64 yk, .int .i64 yi, .string ys2, .string ys, .string ynm, .int .i64 yn, .slice yao ykk yc] (out.length*8) _
               have hS7 :=hS5.low hb7
               have s85 :w5.cell? ⟨w.heap.size+2,8,none⟩ =some (.slice bz out.length dz) :=Aa hS5w.s rfl
               have f85 :=Ab hS5w.s 8
               have hS5w8 :=hS5w.set 8 (.slice (some ⟨g2,0,none⟩) (out.length+1) dz2)
               simp only [List.setIfInBounds_toArray,List.set_cons_zero,List.set_cons_succ] at hS5w8
               have hG5w8 :=hG5w.set (show w.heap.size+2<w.heap.size+3 by omega) 8 (.slice (some ⟨g2,0,none⟩) (out.length+1) dz2)
               clear hb5 hG5 hb5w hb7 hG5w hth
               refine wpAnyH_ready (rs := [7,9]) (by kernel_rfl) (by simp) ?_
               refine (AllReadyH.cons (o := {dst :=none,op :=Go.Op.store 37 (Go.Operand.tmp 538) (Go.Operand.tmp 534),type :=0,pos := "low.go:524",after := #[{on :=6,ground :=Go.Ground.data},{on :=2,ground :=Go.Ground.data},{on :=5,ground :=Go.Ground.chain},{on :=0,ground :=Go.Ground.phase},{on :=1,ground :=Go.Ground.phase},{on :=2,ground :=Go.Ground.phase},{on :=3,ground :=Go.Ground.phase},{on :=4,ground :=Go.Ground.phase},{on :=5,ground :=Go.Ground.phase},{on :=9,ground :=Go.Ground.gcOnly Go.Departure.appendInPlace}],guard :=none}) rfl (fun K hK=> ?_) (AllReadyH.cons (o := {dst :=none,op :=Go.Op.store 33 (Go.Operand.tmp 539) (Go.Operand.tmp 537),type :=0,pos := "low.go:524",after := #[{on :=8,ground :=Go.Ground.data},{on :=5,ground :=Go.Ground.data},{on :=5,ground :=Go.Ground.chain},{on :=7,ground :=Go.Ground.textOnly Go.Departure.appendInPlace},{on :=0,ground :=Go.Ground.phase},{on :=1,ground :=Go.Ground.phase},{on :=2,ground :=Go.Ground.phase},{on :=3,ground :=Go.Ground.phase},{on :=4,ground :=Go.Ground.phase},{on :=5,ground :=Go.Ground.phase},{on :=6,ground :=Go.Ground.textOnly Go.Departure.appendInPlace},{on :=7,ground :=Go.Ground.textOnly Go.Departure.appendInPlace}],guard :=none}) rfl (fun K hK=> ?_) AllReadyH.nil))
               ·refine Is (o := {dst :=none,op :=Go.Op.store 37 (Go.Operand.tmp 538) (Go.Operand.tmp 534),type :=0,pos := "low.go:524",after := #[{on :=6,ground :=Go.Ground.data},{on :=2,ground :=Go.Ground.data},{on :=5,ground :=Go.Ground.chain},{on :=0,ground :=Go.Ground.phase},{on :=1,ground :=Go.Ground.phase},{on :=2,ground :=Go.Ground.phase},{on :=3,ground :=Go.Ground.phase},{on :=4,ground :=Go.Ground.phase},{on :=5,ground :=Go.Ground.phase},{on :=9,ground :=Go.Ground.gcOnly Go.Departure.appendInPlace}],guard :=none}) (w :=w4) ?_ 37 (.tmp 538) (.tmp 534) ?_ g2 (out.length*8) [.int .i64 yop, .int .i64 yk, .int .i64 yi, .string ys2, .string ys, .string ynm, .int .i64 yn, .slice yao ykk yc] w5 ?_ ?_ ?_ ?_ ?_ ?_ ?_;exact rfl;exact rfl;exact hw5;exact rfl;exact rfl;exact hth8;exact hsz8;exact hone8;have hS6 :=hS5w8;have hG6 :=hG5w8
                refine hK.out _ _ ?_ (fun hHeld=> ?_)
                ·with_reducible first | exact KE.out _ (A8 bE) | exact KE.out _ (A8 (Ae bE _)) | exact KE.out _ hbE4 | exact KE.out _ (Aj hbE4 (by omega) _ _) | exact KE.out _ hbE5 | exact KE.out _ (Aj hbE5 (by omega) _ _) | exact KE.out _ hbE7
                clear hK K
                try simp only [Act.put]
                refine wpAnyH_ready (rs := [9]) (by kernel_rfl) (by simp) ?_
                refine (AllReadyH.cons (o := {dst :=none,op :=Go.Op.store 33 (Go.Operand.tmp 539) (Go.Operand.tmp 537),type :=0,pos := "low.go:524",after := #[{on :=8,ground :=Go.Ground.data},{on :=5,ground :=Go.Ground.data},{on :=5,ground :=Go.Ground.chain},{on :=7,ground :=Go.Ground.textOnly Go.Departure.appendInPlace},{on :=0,ground :=Go.Ground.phase},{on :=1,ground :=Go.Ground.phase},{on :=2,ground :=Go.Ground.phase},{on :=3,ground :=Go.Ground.phase},{on :=4,ground :=Go.Ground.phase},{on :=5,ground :=Go.Ground.phase},{on :=6,ground :=Go.Ground.textOnly Go.Departure.appendInPlace},{on :=7,ground :=Go.Ground.textOnly Go.Departure.appendInPlace}],guard :=none}) rfl (fun K hK=> ?_) AllReadyH.nil)
                go_simp
                go_wp2_with fail
                refine hK.out _ _ ?_ (fun hHeld=> ?_)
                ·with_reducible first | exact KE.out _ (A8 bE) | exact KE.out _ (A8 (Ae bE _)) | exact KE.out _ hbE4 | exact KE.out _ (Aj hbE4 (by omega) _ _) | exact KE.out _ hbE5 | exact KE.out _ (Aj hbE5 (by omega) _ _) | exact KE.out _ hbE7
                clear hK K
                try simp only [Act.put,List.setIfInBounds_toArray,List.set_cons_zero,List.set_cons_succ]
                refine wpAnyH_done (by kernel_rfl) ?_ _
                go_wp2_with fail
                go_roundg (gk - 1)
                case measure=>omega
                case rel=>exact ⟨k2+1,out++ [y],_,okk&&okx,by go_num,rfl,by omega,hS6,hG6,fun h=>HNXT.out y (Fu HRY.out h).1 (Fu HRY.out h).2,fun h=> (Lv HRY.out h).elim HOFF.out HBAD.out,by rw [List.length_append,HACC.out];rfl⟩
               ·go_simp
                go_wp2_with fail
                refine hK.out _ _ ?_ (fun hHeld=> ?_)
                ·with_reducible first | exact KE.out _ (A8 bE) | exact KE.out _ (A8 (Ae bE _)) | exact KE.out _ hbE4 | exact KE.out _ (Aj hbE4 (by omega) _ _) | exact KE.out _ hbE5 | exact KE.out _ (Aj hbE5 (by omega) _ _) | exact KE.out _ hbE7
                clear hK K
                try simp only [Act.put,List.setIfInBounds_toArray,List.set_cons_zero,List.set_cons_succ]
                refine wpAnyH_ready (rs := [7]) (by kernel_rfl) (by simp) ?_
                refine (AllReadyH.cons (o := {dst :=none,op :=Go.Op.store 37 (Go.Operand.tmp 538) (Go.Operand.tmp 534),type :=0,pos := "low.go:524",after := #[{on :=6,ground :=Go.Ground.data},{on :=2,ground :=Go.Ground.data},{on :=5,ground :=Go.Ground.chain},{on :=0,ground :=Go.Ground.phase},{on :=1,ground :=Go.Ground.phase},{on :=2,ground :=Go.Ground.phase},{on :=3,ground :=Go.Ground.phase},{on :=4,ground :=Go.Ground.phase},{on :=5,ground :=Go.Ground.phase},{on :=9,ground :=Go.Ground.gcOnly Go.Departure.appendInPlace}],guard :=none}) rfl (fun K hK=> ?_) AllReadyH.nil)
                refine Is (o := {dst :=none,op :=Go.Op.store 37 (Go.Operand.tmp 538) (Go.Operand.tmp 534),type :=0,pos := "low.go:524",after := #[{on :=6,ground :=Go.Ground.data},{on :=2,ground :=Go.Ground.data},{on :=5,ground :=Go.Ground.chain},{on :=0,ground :=Go.Ground.phase},{on :=1,ground :=Go.Ground.phase},{on :=2,ground :=Go.Ground.phase},{on :=3,ground :=Go.Ground.phase},{on :=4,ground :=Go.Ground.phase},{on :=5,ground :=Go.Ground.phase},{on :=9,ground :=Go.Ground.gcOnly Go.Departure.appendInPlace}],guard :=none}) (w := (w4.setCell ⟨w.heap.size+2,8,none⟩ (.slice (some ⟨g2,0,none⟩) (out.length+1) dz2))) ?_ 37 (.tmp 538) (.tmp 534) ?_ g2 (out.length*8) [.int .i64 yop, .int .i64 yk, .int .i64 yi, .string ys2, .string ys, .string ynm, .int .i64 yn, .slice yao ykk yc] w7 ?_ ?_ ?_ ?_ ?_ ?_ ?_;exact rfl;exact rfl;exact hw7;exact rfl;exact rfl;exact hth9;exact hsz8;exact hone8;have hS6 :=hS7;have hG6 :=hG7
                refine hK.out _ _ ?_ (fun hHeld=> ?_)
                ·with_reducible first | exact KE.out _ (A8 bE) | exact KE.out _ (A8 (Ae bE _)) | exact KE.out _ hbE4 | exact KE.out _ (Aj hbE4 (by omega) _ _) | exact KE.out _ hbE5 | exact KE.out _ (Aj hbE5 (by omega) _ _) | exact KE.out _ hbE7
                clear hK K
                try simp only [Act.put]
                refine wpAnyH_done (by kernel_rfl) ?_ _
                go_wp2_with fail
                go_roundg (gk - 1)
                case measure=>omega
                case rel=>exact ⟨k2+1,out++ [y],_,okk&&okx,by go_num,rfl,by omega,hS6,hG6,fun h=>HNXT.out y (Fu HRY.out h).1 (Fu HRY.out h).2,fun h=> (Lv HRY.out h).elim HOFF.out HBAD.out,by rw [List.length_append,HACC.out];rfl⟩
              ·go_simp
               go_wp2_with fail
               refine hK.out _ _ ?_ (fun hHeld=> ?_)
               ·with_reducible first | exact KE.out _ (A8 bE) | exact KE.out _ (A8 (Ae bE _)) | exact KE.out _ hbE4 | exact KE.out _ (Aj hbE4 (by omega) _ _) | exact KE.out _ hbE5 | exact KE.out _ (Aj hbE5 (by omega) _ _) | exact KE.out _ hbE7
               clear hK K
               try simp only [Act.put,List.setIfInBounds_toArray,List.set_cons_zero,List.set_cons_succ]
               refine wpAnyH_ready (rs := [1]) (by kernel_rfl) (by simp) ?_
               refine (AllReadyH.cons (o := {dst :=some 533,op :=Go.Op.load 33 (Go.Operand.tmp 532),type :=33,pos := "low.go:524",after := #[{on :=0,ground :=Go.Ground.data}],guard :=none}) rfl (fun K hK=> ?_) AllReadyH.nil)
               go_simp
               go_wp2_with fail
               refine hK.out _ _ ?_ (fun hHeld=> ?_)
               ·with_reducible first | exact KE.out _ (A8 bE) | exact KE.out _ (A8 (Ae bE _)) | exact KE.out _ hbE4 | exact KE.out _ (Aj hbE4 (by omega) _ _) | exact KE.out _ hbE5 | exact KE.out _ (Aj hbE5 (by omega) _ _) | exact KE.out _ hbE7
               clear hK K
               try simp only [Act.put,List.setIfInBounds_toArray,List.set_cons_zero,List.set_cons_succ]
               refine wpAnyH_take (i :=3) (oi := {dst :=some 535,op :=Go.Op.call {callee :=Go.Callee.builtin Go.Builtin.len,args := #[Go.Operand.tmp 533],argTypes := #[33]},type :=3,pos := "low.go:524",after := #[{on :=1,ground :=Go.Ground.data}],guard :=none}) (v := ?_) rfl (by kernel_rfl) (by kernel_rfl) (by kernel_rfl) (fun _ _ _ h=>h) (Or.inl ⟨by rfl, ?_⟩) (by assumption) ?_
               rotate_left
               ·intro w hSw;(try dsimp only at hSw);go_simp;all_goals (with_reducible rfl)
               try simp only [Act.put,List.setIfInBounds_toArray,List.set_cons_zero,List.set_cons_succ]
               refine wpAnyH_ready (rs := [5]) (by kernel_rfl) (by simp) ?_
               refine (AllReadyH.cons (o := {dst :=some 537,op :=Go.Op.call {callee :=Go.Callee.builtin Go.Builtin.append,args := #[Go.Operand.tmp 533,Go.Operand.tmp 536],argTypes := #[33,33]},type :=33,pos := "low.go:524",after := #[{on :=1,ground :=Go.Ground.data},{on :=4,ground :=Go.Ground.data},{on :=0,ground :=Go.Ground.phase},{on :=1,ground :=Go.Ground.phase},{on :=2,ground :=Go.Ground.phase},{on :=3,ground :=Go.Ground.phase},{on :=4,ground :=Go.Ground.phase}],guard :=none}) rfl (fun K hK=> ?_) AllReadyH.nil)
               refine Es (by rfl) _ _ 33 (by rfl) (w.heap.size+3) 37 i9 _ 8 104 Tryz.underlying33 hi hz0 hz1 hz2 rfl (by decide) (.slice bz out.length dz) out.length cs (by rfl) hownD ⟨V.heap.size,0,none⟩ 1 1 [.int .i64 0, .int .i64 0, .int .i64 0, .string ⟨#[]⟩, .string ⟨#[]⟩, .string ⟨#[]⟩, .int .i64 0, .slice none 0 0] (by rfl) rfl hnew h1c (by simp only [maxLen];omega) (by omega) hbaseD ?_;intro z2 w4 hown4 hg4 hat;have hS4 := ((hSV.alloc (.cells [.int .i64 0, .int .i64 0, .int .i64 0, .string ⟨#[]⟩, .string ⟨#[]⟩, .string ⟨#[]⟩, .int .i64 0, .slice none 0 0].toArray 37)).drew).low (Bn hownD hbaseD hg4);have hbE4 :w4.heap[pe]? =some (.cells #[.int .i64 yop, .int .i64 yk, .int .i64 yi, .string ys2, .string ys, .string ynm, .int .i64 yn, .slice yao ykk yc] 37) :=Kb hg4 (w := (V.alloc (.cells [.int .i64 0, .int .i64 0, .int .i64 0, .string ⟨#[]⟩, .string ⟨#[]⟩, .string ⟨#[]⟩, .int .i64 0, .slice none 0 0].toArray 37)).drew) (Ae bE _) hpe;obtain ⟨g2,dz2,hz,hbg,hth,hG5,hb5⟩ :=E5.addPut (K :=Dc) (x :=y) (c := [.int .i64 yop, .int .i64 yk, .int .i64 yi, .string ys2, .string ys, .string ynm, .int .i64 yn, .slice yao ykk yc]) (zs := [.int .i64 0, .int .i64 0, .int .i64 0, .string ⟨#[]⟩, .string ⟨#[]⟩, .string ⟨#[]⟩, .int .i64 0, .slice none 0 0]) (V := (V.alloc (.cells [.int .i64 0, .int .i64 0, .int .i64 0, .string ⟨#[]⟩, .string ⟨#[]⟩, .string ⟨#[]⟩, .int .i64 0, .slice none 0 0].toArray 37)).drew) HALL.out HSIDE.out HXY.out hown4 rfl hg4 hat;subst hz;have hpg :pe≠g2 :=HPG.out g2 (by first | exact hat | simpa [Value.ownBlock] using hat)
               refine hK.out _ _ ?_ (fun hHeld=> ?_)
               ·with_reducible first | exact KE.out _ (A8 bE) | exact KE.out _ (A8 (Ae bE _)) | exact KE.out _ hbE4 | exact KE.out _ (Aj hbE4 (by omega) _ _) | exact KE.out _ hbE5 | exact KE.out _ (Aj hbE5 (by omega) _ _) | exact KE.out _ hbE7
               clear hK K
               try simp only [Act.put,List.setIfInBounds_toArray,List.set_cons_zero,List.set_cons_succ]
               refine wpAnyH_take (i :=6) (oi := {dst :=some 538,op :=Go.Op.indexAddr 33 (Go.Operand.tmp 537) (Go.Operand.tmp 535),type :=0,pos := "low.go:524",after := #[{on :=5,ground :=Go.Ground.data},{on :=3,ground :=Go.Ground.data},{on :=0,ground :=Go.Ground.phase},{on :=1,ground :=Go.Ground.phase},{on :=2,ground :=Go.Ground.phase},{on :=3,ground :=Go.Ground.phase},{on :=4,ground :=Go.Ground.phase},{on :=5,ground :=Go.Ground.phase},{on :=9,ground :=Go.Ground.gcOnly Go.Departure.appendInPlace}],guard :=none}) (v := ?_) rfl (by kernel_rfl) (by kernel_rfl) (by kernel_rfl) (fun _ _ _ h=>h) (Or.inl ⟨by rfl, ?_⟩) (by assumption) ?_
               rotate_left
               ·intro w hSw;(try dsimp only at hSw);go_simp;all_goals (with_reducible rfl)
               try simp only [Act.put,List.setIfInBounds_toArray,List.set_cons_zero,List.set_cons_succ]
               refine wpAnyH_take (i :=8) (oi := {dst :=some 539,op :=Go.Op.fieldAddr 39 (Go.Operand.tmp 4) 8,type :=0,pos := "low.go:524",after := #[{on :=0,ground :=Go.Ground.phase},{on :=1,ground :=Go.Ground.phase},{on :=2,ground :=Go.Ground.phase},{on :=3,ground :=Go.Ground.phase},{on :=4,ground :=Go.Ground.phase},{on :=5,ground :=Go.Ground.phase},{on :=6,ground :=Go.Ground.textOnly Go.Departure.appendInPlace},{on :=7,ground :=Go.Ground.textOnly Go.Departure.appendInPlace}],guard :=none}) (v := ?_) rfl (by kernel_rfl) (by kernel_rfl) (by kernel_rfl) (fun _ _ _ h=>h) (Or.inl ⟨by rfl, ?_⟩) (by assumption) ?_
               rotate_left
               ·intro w hSw;(try dsimp only at hSw);go_simp;all_goals (with_reducible rfl)
               try simp only [Act.put,List.setIfInBounds_toArray,List.set_cons_zero,List.set_cons_succ]
               have s84 :w4.cell? ⟨w.heap.size+2,8,none⟩ =some (.slice bz out.length dz) :=Aa hS4.s rfl
               have f84 :=Ab hS4.s 8
               have hS5 :=hS4.set 8 (.slice (some ⟨g2,0,none⟩) (out.length+1) dz2)
               simp only [List.setIfInBounds_toArray,List.set_cons_zero,List.set_cons_succ] at hS5
               obtain ⟨w5,hw5⟩ : ∃V,w4.setCells g2 (out.length*8) [.int .i64 yop, .int .i64 yk, .int .i64 yi, .string ys2, .string ys, .string ynm, .int .i64 yn, .slice yao ykk yc] =V := ⟨_,rfl⟩
               obtain ⟨w7,hw7⟩ : ∃V,(w4.setCell ⟨w.heap.size+2,8,none⟩ (.slice (some ⟨g2,0,none⟩) (out.length+1) dz2)).setCells g2 (out.length*8) [.int .i64 yop, .int .i64 yk, .int .i64 yi, .string ys2, .string ys, .string ynm, .int .i64 yn, .slice yao ykk yc] =V := ⟨_,rfl⟩
               have hth8 :w4.there g2 (out.length*8) ([.int .i64 yop, .int .i64 yk, .int .i64 yi, .string ys2, .string ys, .string ynm, .int .i64 yn, .slice yao ykk yc] :List Value).length :=hth
               have hth9 : (w4.setCell ⟨w.heap.size+2,8,none⟩ (.slice (some ⟨g2,0,none⟩) (out.length+1) dz2)).there g2 (out.length*8) ([.int .i64 yop, .int .i64 yk, .int .i64 yi, .string ys2, .string ys, .string ynm, .int .i64 yn, .slice yao ykk yc] :List Value).length :=World.there_setCells hth8 (w.heap.size+2) 8 [(.slice (some ⟨g2,0,none⟩) (out.length+1) dz2)]
               have hsz8 : (Tryz.prog.info? 37).map (·.size) =some ([.int .i64 yop, .int .i64 yk, .int .i64 yi, .string ys2, .string ys, .string ynm, .int .i64 yn, .slice yao ykk yc] :List Value).length :=Aaj
               have hb5w :Below (w.heap.size+3) w4 w5 :=by rw [←hw5];exact hb5
               have hG5w :=hG5
               rw [show (out.length*Dc.size) =out.length*8 from rfl] at hG5w
               have hG7 :=hG5w.swap (i :=8) (out.length*8) [.int .i64 yop, .int .i64 yk, .int .i64 yi, .string ys2, .string ys, .string ynm, .int .i64 yn, .slice yao ykk yc] (.slice (some ⟨g2,0,none⟩) (out.length+1) dz2) (show w.heap.size+2<w.heap.size+3 by omega) hbg
               rw [hw7] at hG7
               rw [hw5] at hG5w
               have hbE5 :w5.heap[pe]? =some (.cells #[.int .i64 yop, .int .i64 yk, .int .i64 yi, .string ys2, .string ys, .string ynm, .int .i64 yn, .slice yao ykk yc] 37) :=by rw [←hw5];exact ((E4 _ _ _).2.2.2.2 pe hpg).trans hbE4
               have hbE7 :w7.heap[pe]? =some (.cells #[.int .i64 yop, .int .i64 yk, .int .i64 yi, .string ys2, .string ys, .string ynm, .int .i64 yn, .slice yao ykk yc] 37) :=by rw [←hw7];exact ((E4 _ _ _).2.2.2.2 pe hpg).trans (Aj hbE4 (by omega) _ _)
               have hS5w :=hS4.low hb5w
               have hb7 :Below (w.heap.size+3) (w4.setCell ⟨w.heap.size+2,8,none⟩ (.slice (some ⟨g2,0,none⟩) (out.length+1) dz2)) w7 :=by rw [←hw7];exact Rh hbg [.int .i64 yop, .int .i64 yk, .int .i64 yi, .string ys2, .string ys, .string ynm, .int .i64 yn, .slice yao ykk yc] (out.length*8) _
               have hS7 :=hS5.low hb7
               have s85 :w5.cell? ⟨w.heap.size+2,8,none⟩ =some (.slice bz out.length dz) :=Aa hS5w.s rfl
               have f85 :=Ab hS5w.s 8
               have hS5w8 :=hS5w.set 8 (.slice (some ⟨g2,0,none⟩) (out.length+1) dz2)
               simp only [List.setIfInBounds_toArray,List.set_cons_zero,List.set_cons_succ] at hS5w8
               have hG5w8 :=hG5w.set (show w.heap.size+2<w.heap.size+3 by omega) 8 (.slice (some ⟨g2,0,none⟩) (out.length+1) dz2)
               clear hb5 hG5 hb5w hb7 hG5w hth
               refine wpAnyH_ready (rs := [7,9]) (by kernel_rfl) (by simp) ?_
               refine (AllReadyH.cons (o := {dst :=none,op :=Go.Op.store 37 (Go.Operand.tmp 538) (Go.Operand.tmp 534),type :=0,pos := "low.go:524",after := #[{on :=6,ground :=Go.Ground.data},{on :=2,ground :=Go.Ground.data},{on :=5,ground :=Go.Ground.chain},{on :=0,ground :=Go.Ground.phase},{on :=1,ground :=Go.Ground.phase},{on :=2,ground :=Go.Ground.phase},{on :=3,ground :=Go.Ground.phase},{on :=4,ground :=Go.Ground.phase},{on :=5,ground :=Go.Ground.phase},{on :=9,ground :=Go.Ground.gcOnly Go.Departure.appendInPlace}],guard :=none}) rfl (fun K hK=> ?_) (AllReadyH.cons (o := {dst :=none,op :=Go.Op.store 33 (Go.Operand.tmp 539) (Go.Operand.tmp 537),type :=0,pos := "low.go:524",after := #[{on :=8,ground :=Go.Ground.data},{on :=5,ground :=Go.Ground.data},{on :=5,ground :=Go.Ground.chain},{on :=7,ground :=Go.Ground.textOnly Go.Departure.appendInPlace},{on :=0,ground :=Go.Ground.phase},{on :=1,ground :=Go.Ground.phase},{on :=2,ground :=Go.Ground.phase},{on :=3,ground :=Go.Ground.phase},{on :=4,ground :=Go.Ground.phase},{on :=5,ground :=Go.Ground.phase},{on :=6,ground :=Go.Ground.textOnly Go.Departure.appendInPlace},{on :=7,ground :=Go.Ground.textOnly Go.Departure.appendInPlace}],guard :=none}) rfl (fun K hK=> ?_) AllReadyH.nil))
               ·refine Is (o := {dst :=none,op :=Go.Op.store 37 (Go.Operand.tmp 538) (Go.Operand.tmp 534),type :=0,pos := "low.go:524",after := #[{on :=6,ground :=Go.Ground.data},{on :=2,ground :=Go.Ground.data},{on :=5,ground :=Go.Ground.chain},{on :=0,ground :=Go.Ground.phase},{on :=1,ground :=Go.Ground.phase},{on :=2,ground :=Go.Ground.phase},{on :=3,ground :=Go.Ground.phase},{on :=4,ground :=Go.Ground.phase},{on :=5,ground :=Go.Ground.phase},{on :=9,ground :=Go.Ground.gcOnly Go.Departure.appendInPlace}],guard :=none}) (w :=w4) ?_ 37 (.tmp 538) (.tmp 534) ?_ g2 (out.length*8) [.int .i64 yop, .int .i64 yk, .int .i64 yi, .string ys2, .string ys, .string ynm, .int .i64 yn, .slice yao ykk yc] w5 ?_ ?_ ?_ ?_ ?_ ?_ ?_;exact rfl;exact rfl;exact hw5;exact rfl;exact rfl;exact hth8;exact hsz8;exact hone8;have hS6 :=hS5w8;have hG6 :=hG5w8
                refine hK.out _ _ ?_ (fun hHeld=> ?_)
                ·with_reducible first | exact KE.out _ (A8 bE) | exact KE.out _ (A8 (Ae bE _)) | exact KE.out _ hbE4 | exact KE.out _ (Aj hbE4 (by omega) _ _) | exact KE.out _ hbE5 | exact KE.out _ (Aj hbE5 (by omega) _ _) | exact KE.out _ hbE7
                clear hK K
                try simp only [Act.put]
                refine wpAnyH_ready (rs := [9]) (by kernel_rfl) (by simp) ?_
                refine (AllReadyH.cons (o := {dst :=none,op :=Go.Op.store 33 (Go.Operand.tmp 539) (Go.Operand.tmp 537),type :=0,pos := "low.go:524",after := #[{on :=8,ground :=Go.Ground.data},{on :=5,ground :=Go.Ground.data},{on :=5,ground :=Go.Ground.chain},{on :=7,ground :=Go.Ground.textOnly Go.Departure.appendInPlace},{on :=0,ground :=Go.Ground.phase},{on :=1,ground :=Go.Ground.phase},{on :=2,ground :=Go.Ground.phase},{on :=3,ground :=Go.Ground.phase},{on :=4,ground :=Go.Ground.phase},{on :=5,ground :=Go.Ground.phase},{on :=6,ground :=Go.Ground.textOnly Go.Departure.appendInPlace},{on :=7,ground :=Go.Ground.textOnly Go.Departure.appendInPlace}],guard :=none}) rfl (fun K hK=> ?_) AllReadyH.nil)
                go_simp
                go_wp2_with fail
                refine hK.out _ _ ?_ (fun hHeld=> ?_)
                ·with_reducible first | exact KE.out _ (A8 bE) | exact KE.out _ (A8 (Ae bE _)) | exact KE.out _ hbE4 | exact KE.out _ (Aj hbE4 (by omega) _ _) | exact KE.out _ hbE5 | exact KE.out _ (Aj hbE5 (by omega) _ _) | exact KE.out _ hbE7
                clear hK K
                try simp only [Act.put,List.setIfInBounds_toArray,List.set_cons_zero,List.set_cons_succ]
                refine wpAnyH_done (by kernel_rfl) ?_ _
                go_wp2_with fail
                go_roundg (gk - 1)
                case measure=>omega
                case rel=>exact ⟨k2+1,out++ [y],_,okk&&okx,by go_num,rfl,by omega,hS6,hG6,fun h=>HNXT.out y (Fu HRY.out h).1 (Fu HRY.out h).2,fun h=> (Lv HRY.out h).elim HOFF.out HBAD.out,by rw [List.length_append,HACC.out];rfl⟩
               ·go_simp
                go_wp2_with fail
                refine hK.out _ _ ?_ (fun hHeld=> ?_)
                ·with_reducible first | exact KE.out _ (A8 bE) | exact KE.out _ (A8 (Ae bE _)) | exact KE.out _ hbE4 | exact KE.out _ (Aj hbE4 (by omega) _ _) | exact KE.out _ hbE5 | exact KE.out _ (Aj hbE5 (by omega) _ _) | exact KE.out _ hbE7
                clear hK K
                try simp only [Act.put,List.setIfInBounds_toArray,List.set_cons_zero,List.set_cons_succ]
                refine wpAnyH_ready (rs := [7]) (by kernel_rfl) (by simp) ?_
                refine (AllReadyH.cons (o := {dst :=none,op :=Go.Op.store 37 (Go.Operand.tmp 538) (Go.Operand.tmp 534),type :=0,pos := "low.go:524",after := #[{on :=6,ground :=Go.Ground.data},{on :=2,ground :=Go.Ground.data},{on :=5,ground :=Go.Ground.chain},{on :=0,ground :=Go.Ground.phase},{on :=1,ground :=Go.Ground.phase},{on :=2,ground :=Go.Ground.phase},{on :=3,ground :=Go.Ground.phase},{on :=4,ground :=Go.Ground.phase},{on :=5,ground :=Go.Ground.phase},{on :=9,ground :=Go.Ground.gcOnly Go.Departure.appendInPlace}],guard :=none}) rfl (fun K hK=> ?_) AllReadyH.nil)
                refine Is (o := {dst :=none,op :=Go.Op.store 37 (Go.Operand.tmp 538) (Go.Operand.tmp 534),type :=0,pos := "low.go:524",after := #[{on :=6,ground :=Go.Ground.data},{on :=2,ground :=Go.Ground.data},{on :=5,ground :=Go.Ground.chain},{on :=0,ground :=Go.Ground.phase},{on :=1,ground :=Go.Ground.phase},{on :=2,ground :=Go.Ground.phase},{on :=3,ground :=Go.Ground.phase},{on :=4,ground :=Go.Ground.phase},{on :=5,ground :=Go.Ground.phase},{on :=9,ground :=Go.Ground.gcOnly Go.Departure.appendInPlace}],guard :=none}) (w := (w4.setCell ⟨w.heap.size+2,8,none⟩ (.slice (some ⟨g2,0,none⟩) (out.length+1) dz2))) ?_ 37 (.tmp 538) (.tmp 534) ?_ g2 (out.length*8) [.int .i64 yop, .int .i64 yk, .int .i64 yi, .string ys2, .string ys, .string ynm, .int .i64 yn, .slice yao ykk yc] w7 ?_ ?_ ?_ ?_ ?_ ?_ ?_;exact rfl;exact rfl;exact hw7;exact rfl;exact rfl;exact hth9;exact hsz8;exact hone8;have hS6 :=hS7;have hG6 :=hG7
                refine hK.out _ _ ?_ (fun hHeld=> ?_)
                ·with_reducible first | exact KE.out _ (A8 bE) | exact KE.out _ (A8 (Ae bE _)) | exact KE.out _ hbE4 | exact KE.out _ (Aj hbE4 (by omega) _ _) | exact KE.out _ hbE5 | exact KE.out _ (Aj hbE5 (by omega) _ _) | exact KE.out _ hbE7
                clear hK K
                try simp only [Act.put]
                refine wpAnyH_done (by kernel_rfl) ?_ _
                go_wp2_with fail
                go_roundg (gk - 1)
                case measure=>omega
                case rel=>exact ⟨k2+1,out++ [y],_,okk&&okx,by go_num,rfl,by omega,hS6,hG6,fun h=>HNXT.out y (Fu HRY.out h).1 (Fu HRY.out h).2,fun h=> (Lv HRY.out h).elim HOFF.out HBAD.out,by rw [List.length_append,HACC.out];rfl⟩
            ·have i1 : ¬ (k2 :Int) < (Ps.length :Int) :=by omega
             have HG :Hid (R=if okk=true then some {Bg 7 with out :=out,frm :=acc,wher :=x,order :=es,down :=dn,n :=N1} else none) :=by
              show R=_
              cases okk
              ·exact HAC.out.2.1 rfl
              ·obtain ⟨g1,g2⟩ :=HAC.out.1 rfl
               rw [List.take_of_length_le (show Ps.length≤k2 by omega)] at g2
               rw [HR6.out,g1,g2]
               rfl
             have hC :=hG.isL
             have hsd :=hG.side.2
             clear HR6 HAC hG hparts HWI
             have hone : (sA 7 noW noW noW (.slice none 0 0) (.slice none 0 0) (.slice none 0 0) (.slice az acc.length cz) (.slice bz out.length dz) op xk xn xs s nmv n8 (.slice ao4 kk c4) (.slice oo es.length oc) dn N1).all (·.oneCell') =true :=Bc (sl7 _ _ _ _ _ _ _ _ _ _ _ _ _ _ _ _ _ _ _ _ _)
             go_wp2_with (first
              | refine wpList_load_row rfl 39 _ rfl (w.heap.size+2) rfl 39 _ _ _ hS.s Tryz.underlying39 rfl Af ?_
              | refine wpList_store_row rfl 39 _ _ rfl (w.heap.size+1) _ rfl rfl 39 Ah hS.r Af rfl hone ?_)
             exact bodyPost_ret (v := .tuple #[.agg (sA 7 noW noW noW (.slice none 0 0) (.slice none 0 0) (.slice none 0 0) (.slice az acc.length cz) (.slice bz out.length dz) op xk xn xs s nmv n8 (.slice ao4 kk c4) (.slice oo es.length oc) dn N1), .bool okk]) (Ay Tryz.results13 _ _ (w.heap.size+1) 39 _ _ _ _ rfl rfl (Am hS.r) Tryz.underlying39 rfl Af) rfl (A4 (ok :=okk) hS (sl7 _ _ _ _ _ _ _ _ _ _ _ _ _ _ _ _ _ _ _ _ _) (Q9 HG.out (D8 (IsL.nil _ _ _) (IsL.nil _ _ _) (IsL.nil _ _ _) hsd.2.2 hC hsd.1 hsd.2.1)))
end Go.Proofs.YtifjaegfpdjikaaGreatDoor


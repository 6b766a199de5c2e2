/-
  3 texts of this proof in one, in build order: RStmU, RStmN, RStmV.
-/
import Derived.BigRegion
import Derived.Deep.Cut
import Derived.Deep.LoopGhost
import Derived.Deep.CutRange
import Derived.Deep.RegionHeld3
import Derived.Test.YtifjaegfpdjikaaGreatDoorJ15
import Derived.Test.YtifjaegfpdjikaaGreatDoorJ16
import Derived.Test.YtifjaegfpdjikaaGreatDoorJ18
set_option linter.unusedSimpArgs false
set_option linter.unusedVariables false
namespace Go.Proofs.YtifjaegfpdjikaaGreatDoor
open Go.RowKit
set_option maxRecDepth 100000 in
set_option maxHeartbeats 4000000 in
theorem O6 (sl :Value) (L :List Wd) (M :List Wd) (hM :M.length≤1600) (hwM :Whole M) (w :World) (he :Env w) (hL :Ak w sl L) (hw :Whole L) (hk0 :L.take 2≠ [Au,A5]) (hk1 :L.take 2≠ [Au,B7]) (hk2 :L.take 2≠ [Cg,A5]) (hk3 :L.take 2≠ [Bv,E6]) (hk4 :L.take 2≠ [Cb,Az]) (hk5 :L.take 1= [Cc]) (hrest :L.drop 1=M) :
  Calls Tryz.prog 13 #[sl] w (Cv (Gs M) w) :=by
 have H0 :=Bz Ch he hL hw hk0 (Ai 0)
 have H1 :=Bz Dh he hL hw hk1 (Ai 0)
 have H2 :=Bz Gi he hL hw hk2 (Ai 0)
 have H3 :=Bz Hg he hL hw hk3 (Ai 0)
 have H4 :=Bz Ke he hL hw hk4 (Ai 0)
 have H5 :=D4 Me he hL hw hk5 (Ai 0)
 rw [show (L.drop [Cc].length) =M from hrest] at H5
 clear hk0 hk1 hk2 hk3 hk4 hk5 hrest hw
 generalize hRd :Gs M=R
 have HRD :Hid _ :=hRd
 clear hRd
 have s1 :=Dj w sl
 have s0 :=Di w sl
 obtain ⟨a0,n0,cap0,rfl,hn0⟩ :=Ax hL
 clear hL hn0
 generalize hW0 : ((((w.alloc (.cells #[.slice a0 n0 cap0] 32)).alloc (.cells Ah 39)).alloc (.cells Ah 39)).setRow (w.heap.size+2) (Ai 0)) =W0 at s0
 have HW0 :Hid _ :=hW0
 clear hW0
 go_enter Tryz.func13,Tryz.ntmps13
 go_upto_region 2 with (refine wpList_store_row rfl 39 _ _ rfl (w.heap.size+2) (Ai 0) rfl rfl 39 Ah s1 Af rfl Fc ?_)
 rw [HW0.out,show w.heap.size+1+1=w.heap.size+2 from rfl]
 have hS :=s0
 clear s0 s1 HW0
 go_upto_region 59 with (first
   | (go_at_call 27;go_fit (H0 _ hS);clear hS;rintro e W ⟨rfl,hS⟩)
   | (go_at_call 27;go_fit (H1 _ hS);clear hS;rintro e W ⟨rfl,hS⟩)
   | (go_at_call 27;go_fit (H2 _ hS);clear hS;rintro e W ⟨rfl,hS⟩)
   | (go_at_call 27;go_fit (H3 _ hS);clear hS;rintro e W ⟨rfl,hS⟩)
   | (go_at_call 27;go_fit (H4 _ hS);clear hS;rintro e W ⟨rfl,hS⟩)
   | (go_at_call 27;go_fit (H5 _ hS);clear hS;rintro e W ⟨rfl,ao,n,c,hS,hl⟩;have c0 :W.cell? ⟨w.heap.size,0,none⟩ =some (.slice ao n c) :=Aa hS.l rfl))
 have s0 :W.cell? ⟨w.heap.size+2,0,none⟩ =some (.int .i64 0) :=Aa hS.s rfl
 have f0 :=Ab hS.s 0
 have hS0 :=hS.set 0 (.int .i64 6)
 simp only [List.setIfInBounds_toArray,List.set_cons_zero] at hS0
 have WH :=Na (.slice ao n c) 6 noW noW noW (.slice none 0 0) (.slice none 0 0) (.slice none 0 0) (.slice none 0 0) (.slice none 0 0) (.slice none 0 0) false (-1) M w _ he hM hl hwM hS0
 go_upto_region 61 with (go_at_call 30;go_must (go_fit WH;rintro e W1 ⟨ok,x,L1,op,xk,xn,xs,s,nmv,n8,ao2,kk,c2,ao1,n1,c1,rfl,hS1,hl1,hE,hwr,⟨hle,hw1⟩,hB⟩;have c0 :W1.cell? ⟨w.heap.size,0,none⟩ =some (.slice ao1 n1 c1) :=Aa hS1.l rfl))
 have hE1 :IsE (Fr (w.heap.size+3)) W1 x (.agg (A2 op ⟨xk,xn,xs⟩ s nmv n8 (.slice ao2 kk c2))) :=IsE.mono (fun k _ hk=>Nat.le_trans hS0.size hk) _ _ hE
 have hL1 :L1.length≤1600 :=Nat.le_trans hle hM
 clear WH s0 f0 hS0 hS hE hB hle hl hwM hM
 have HWR :Hid _ :=hwr
 have HW1 :Hid _ :=hw1
 clear hwr hw1
 by_cases h2 :L1.length<2
 ·have HG :Hid (R=none) :=HRD.out.symm.trans (K7 HWR.out (fun t k m e=>absurd (by rw [e];simp) (show ¬2≤L1.length by omega)))
  obtain ⟨ao3,n3,c3,hsl,hn1⟩ :=Ax hl1
  cases hsl
  have q0 : (n1 :Int) <2 :=by omega
  clear hn1 hl1 HRD HWR HW1
  have hone : (sA 6 noW noW noW (.slice none 0 0) (.slice none 0 0) (.slice none 0 0) (.slice none 0 0) (.slice none 0 0) op xk xn xs s nmv n8 (.slice ao2 kk c2) (.slice none 0 0) false (-1)).all (·.oneCell') =true :=Bc (sl7 _ _ _ _ _ _ _ _ _ _ _ _ _ _ _ _ _ _ _ _ _)
  go_wp2_with (first
   | refine wpList_load_row rfl 39 _ rfl (w.heap.size+2) rfl 39 _ _ _ hS1.s Tryz.underlying39 rfl Af ?_
   | refine wpList_store_row rfl 39 _ _ rfl (w.heap.size+1) _ rfl rfl 39 Ah hS1.r Af rfl hone ?_)
  exact bodyPost_ret (v := .tuple #[.agg (sA 6 noW noW noW (.slice none 0 0) (.slice none 0 0) (.slice none 0 0) (.slice none 0 0) (.slice none 0 0) op xk xn xs s nmv n8 (.slice ao2 kk c2) (.slice none 0 0) false (-1)), .bool false]) (Ay Tryz.results13 _ _ (w.heap.size+1) 39 _ _ _ _ rfl rfl (Am hS1.r) Tryz.underlying39 rfl Af) rfl (A4 (ok :=false) hS1 (sl7 _ _ _ _ _ _ _ _ _ _ _ _ _ _ _ _ _ _ _ _ _) HG.out)
 obtain ⟨t,k1,m,rfl⟩ : ∃t k1 m,L1=t ::k1 ::m :=by
  match L1,h2 with
  | t ::k1 ::m,_=>exact ⟨t,k1,m,rfl⟩
  | [_],h=>exact absurd (show 1<2 by omega) h
  | [],h=>exact absurd (show 0<2 by omega) h
 obtain ⟨b,off,cap,hsl,hcap,hcell⟩ :=A0 (hl1.below hS1.b) (by simp)
 cases hsl
 obtain ⟨hblw,hq1,hq2,hcw⟩ :=A7 hl1 (by simp)
 have KS :Hid (∀V,Below w.heap.size w V→V.cell? ⟨b,off,none⟩ =some (.string t) ∧V.cell? ⟨b,off+1,none⟩ =some (.string k1)) :=fun V h=> ⟨(h.cell (p := ⟨b,off,none⟩) hblw).trans (hcw 0 _ rfl),(h.cell (p := ⟨b,off+1,none⟩) hblw).trans (hcw 1 _ rfl)⟩
 have HL1 :Hid (Ak w (.slice (some ⟨b,off,none⟩) (t ::k1 ::m).length c1) (t ::k1 ::m)) :=hl1
 have q0 : ¬ ((t ::k1 ::m).length :Int) <2 :=by omega
 have q1 : (0 :Int) < ((t ::k1 ::m).length :Int) :=by omega
 have q2 : (1 :Int) < ((t ::k1 ::m).length :Int) :=by omega
 have q3 : (2 :Int) ≤ ((t ::k1 ::m).length :Int) :=by omega
 have hml :m.length≤1600 :=by simp only [List.length_cons] at hL1;omega
 have hwm :Hid (Whole m) :=fun y hy=>HW1.out y (by simp [hy])
 have key :Hid _ :=Gz (b :=b) (off :=off) (cap :=c1) (k :=2) (L :=t ::k1 ::m) (by omega) (by simp)
 clear hcell hcw hq1 hq2 hcap hl1 hblw h2 hL1
 obtain ⟨x0,x1⟩ :=KS.out W1 hS1.b
 generalize hnn : (t ::k1 ::m).length=nn at*
 by_cases hn :nm t=true
 rotate_left
 ·have NM :=Da he (Bool.eq_false_iff.2 hn) W1 hS1.b
  have HG :Hid (R=none) :=HRD.out.symm.trans (K7 HWR.out (fun t' k' m' e h1 _=>by cases e;exact absurd h1 hn))
  clear HRD HWR HW1 key HL1
  go_upto_region 62 with (go_at_call 7;go_must (go_fit NM;rintro e W2 ⟨rfl,hb2⟩;have hS2 :=hS1.next hb2))
  have hone : (sA 6 noW noW noW (.slice none 0 0) (.slice none 0 0) (.slice none 0 0) (.slice none 0 0) (.slice none 0 0) op xk xn xs s nmv n8 (.slice ao2 kk c2) (.slice none 0 0) false (-1)).all (·.oneCell') =true :=Bc (sl7 _ _ _ _ _ _ _ _ _ _ _ _ _ _ _ _ _ _ _ _ _)
  go_wp2_with (first
   | refine wpList_load_row rfl 39 _ rfl (w.heap.size+2) rfl 39 _ _ _ hS2.s Tryz.underlying39 rfl Af ?_
   | refine wpList_store_row rfl 39 _ _ rfl (w.heap.size+1) _ rfl rfl 39 Ah hS2.r Af rfl hone ?_)
  exact bodyPost_ret (v := .tuple #[.agg (sA 6 noW noW noW (.slice none 0 0) (.slice none 0 0) (.slice none 0 0) (.slice none 0 0) (.slice none 0 0) op xk xn xs s nmv n8 (.slice ao2 kk c2) (.slice none 0 0) false (-1)), .bool false]) (Ay Tryz.results13 _ _ (w.heap.size+1) 39 _ _ _ _ rfl rfl (Am hS2.r) Tryz.underlying39 rfl Af) rfl (A4 (ok :=false) hS2 (sl7 _ _ _ _ _ _ _ _ _ _ _ _ _ _ _ _ _ _ _ _ _) HG.out)
 have NM :=Da he hn W1 hS1.b
 by_cases hk :k1=F6
 rotate_left
 ·have hb1 : (k1.toList== [115,101,116]) =false :=by rw [An];simpa using hk
  have HG :Hid (R=none) :=HRD.out.symm.trans (K7 HWR.out (fun t' k' m' e _ h1=>by cases e;exact absurd h1 hk))
  clear HRD HWR HW1 key HL1
  go_upto_region 62 with (go_at_call 7;go_must (go_fit NM;rintro e W2 ⟨rfl,hb2⟩;have hS2 :=hS1.next hb2;obtain ⟨x0,x1⟩ :=KS.out W2 hS2.b;have c3 :W2.cell? ⟨w.heap.size,0,none⟩ =some (.slice (some ⟨b,off,none⟩) nn c1) :=Aa hS2.l rfl))
  have hone : (sA 6 noW noW noW (.slice none 0 0) (.slice none 0 0) (.slice none 0 0) (.slice none 0 0) (.slice none 0 0) op xk xn xs s nmv n8 (.slice ao2 kk c2) (.slice none 0 0) false (-1)).all (·.oneCell') =true :=Bc (sl7 _ _ _ _ _ _ _ _ _ _ _ _ _ _ _ _ _ _ _ _ _)
  go_wp2_with (first
   | refine wpList_load_row rfl 39 _ rfl (w.heap.size+2) rfl 39 _ _ _ hS2.s Tryz.underlying39 rfl Af ?_
   | refine wpList_store_row rfl 39 _ _ rfl (w.heap.size+1) _ rfl rfl 39 Ah hS2.r Af rfl hone ?_)
  exact bodyPost_ret (v := .tuple #[.agg (sA 6 noW noW noW (.slice none 0 0) (.slice none 0 0) (.slice none 0 0) (.slice none 0 0) (.slice none 0 0) op xk xn xs s nmv n8 (.slice ao2 kk c2) (.slice none 0 0) false (-1)), .bool false]) (Ay Tryz.results13 _ _ (w.heap.size+1) 39 _ _ _ _ rfl rfl (Am hS2.r) Tryz.underlying39 rfl Af) rfl (A4 (ok :=false) hS2 (sl7 _ _ _ _ _ _ _ _ _ _ _ _ _ _ _ _ _ _ _ _ _) HG.out)
 subst hk
 go_upto_region 63 with (go_at_call 7;go_must (go_fit NM;rintro e W2 ⟨rfl,hb2⟩;have hS2 :=hS1.next hb2;obtain ⟨x0,x1⟩ :=KS.out W2 hS2.b;have c3 :W2.cell? ⟨w.heap.size,0,none⟩ =some (.slice (some ⟨b,off,none⟩) nn c1) :=Aa hS2.l rfl;have s2 :W2.cell? ⟨w.heap.size+2,2,none⟩ =some (.string noW) :=Aa hS2.s rfl;have f2 :=Ab hS2.s 2))
 go_upto_region 64 with fail
 have hS3 :=hS2.set 2 (.string t)
 simp only [List.setIfInBounds_toArray,List.set_cons_zero,List.set_cons_succ] at hS3
 have hE2 :IsE (Fr (w.heap.size+3)) (W2.setCell ⟨w.heap.size+2,2,none⟩ (.string t)) x (.agg (A2 op ⟨xk,xn,xs⟩ s nmv n8 (.slice ao2 kk c2))) :=IsE.keep ((Bb hb2).set (show ¬w.heap.size+3≤w.heap.size+2 by omega) _ _) _ _ hE1
 generalize W2.setCell ⟨w.heap.size+2,2,none⟩ (.string t) =W3 at*
 clear NM hE1 hS1 hS2 c0 x0 x1 c3 s2 f2 hb2 KS
 have c3 :W3.cell? ⟨w.heap.size,0,none⟩ =some (.slice (some ⟨b,off,none⟩) nn c1) :=Aa hS3.l rfl
 have PB :=fun v (h :Ak w v m) =>Ii v m w W3 hml h hS3.b
 have hpl :=Ij m
 have HWI :Hid (∀P∈Bf m,Whole P∧P.length≤1600) :=fun P hP=>by have h :=Hh hwm.out P hP;exact ⟨h.1,by omega⟩
 have HRG :Hid (∀ss,ok=true→Bt Fp (Bf m) =some ss→R=some {Bg 6 with table :=t,sets :=ss,wher :=x}) :=fun ss h1 h2=>HRD.out.symm.trans (V0 (by rw [HWR.out,h1];rfl) hn h2)
 have HRB :Hid (Bt Fp (Bf m) =none→R=none) :=fun h=>HRD.out.symm.trans (K7 HWR.out (fun t' k' m' e _ _=>by cases e;exact h))
 have HRO :Hid (ok=false→R=none) :=fun h=>HRD.out.symm.trans (Yk (by rw [HWR.out,h];rfl))
 have key2 :=key.out
 subst hnn
 have HLL :=HL1.out
 clear key HL1 HRD HWR HW1 hwm
 go_cut [334,335,336] from 332 to 336 (fun s334 s335 s336 wx=> ∃aop cp vs,s334= .slice aop (Bf m).length cp∧s335= .int .i64 (Bf m).length∧s336= .int .i64 0∧E8 (Fr W3.heap.size) 1 wx (.slice aop (Bf m).length cp) (Bf m).length vs∧Ig w vs (Bf m) ∧Below W3.heap.size W3 wx)
 case first=>
  rcases key2 with ⟨rfl,hdr⟩ | ⟨hcc,hdr⟩
  all_goals
   have PB2 :=PB _ (hdr w HLL)
   clear hdr PB HLL HWI HRG HRB HRO
   generalize Bf m=Ls at*
   generalize (t ::F6 ::m).length=nn at*
   go_wp2_with (go_at_call 34;go_must (go_fit PB2;rintro e W4 ⟨sv,vs,rfl,hrow,hparts,hb4⟩;obtain ⟨aop,cp,rfl⟩ :=hrow.shape))
   go_meet
   case rel=>exact ⟨_,_,_,rfl,rfl,rfl,hrow,hparts,hb4⟩
 case rest=>
  obtain ⟨aop,cp,vs,rfl,rfl,rfl,hrow,hparts,hb4⟩ :=hcut
  obtain ⟨W4,hW4⟩ : ∃V,V=wc := ⟨_,rfl⟩
  subst hW4
  clear key2 PB HLL
  generalize Bf m=Ls at*
  generalize (t ::F6 ::m).length=nn at*
  have hS4 :=hS3.next hb4
  have hsz3 :=hS3.size
  have hG0 :E5 G5 55 (w.heap.size+3) ((Side.row 1 (.slice aop Ls.length cp) Ls.length vs).and (Side.expr x (.agg (A2 op ⟨xk,xn,xs⟩ s nmv n8 (.slice ao2 kk c2))))) W4 (.slice none 0 0) [] :=E5.nil ⟨hrow.mono fun k _ hk=>Nat.le_trans hsz3 hk,IsE.keep (Bb hb4) _ _ hE2⟩
  clear hrow hb4 hS3 hsz3 hE2 c3
  go_wp2_with fail
  go_loopg [7,336] Ls.length (fun f okv ix wr=> ∃ (k :Nat) (acc :List (Wd×E)) (z :Value) (okk :Bool),ix= .int .i64 k∧okv= .bool okk∧k+f=Ls.length∧S3 w wr (.slice (some ⟨b,off,none⟩) nn c1) (sA 6 noW t noW (.slice none 0 0) (.slice none 0 0) z (.slice none 0 0) (.slice none 0 0) op xk xn xs s nmv n8 (.slice ao2 kk c2) (.slice none 0 0) false (-1)) ∧E5 G5 55 (w.heap.size+3) ((Side.row 1 (.slice aop Ls.length cp) Ls.length vs).and (Side.expr x (.agg (A2 op ⟨xk,xn,xs⟩ s nmv n8 (.slice ao2 kk c2))))) wr z acc∧Hid ((okk=true→ok=true∧Bt Fp (Ls.take k) =some acc) ∧ (okk=false→R=none) ∧acc.length=k))
  case atStart=>exact ⟨0,[],_,ok,rfl,rfl,by simp,hS4,hG0,fun h=> ⟨h,rfl⟩,HRO.out,rfl⟩
  case round=>
   clear hG0 hS4
   obtain ⟨k,acc,z,okk,rfl,rfl,hkf,hS,hG,HA⟩ :=hrel
   obtain ⟨az,cz,hz⟩ :=hG.isL.shape
   subst hz
   by_cases hlt :k<Ls.length
   ·obtain ⟨P,hP⟩ : ∃P,Ls[k]? =some P := ⟨_,List.getElem?_eq_getElem hlt⟩
    obtain ⟨v,hv,hvP⟩ :=H8 hparts hP
    obtain ⟨br,or',hceq,hcv⟩ : ∃br or',aop=some ⟨br,or',none⟩ ∧wr.cell? ⟨br,or'+k,none⟩ =some v :=by
     rcases (hG.side).1.2 with ⟨h0,_⟩ | ⟨_,b',o',c',he',_,_,_,_,hc⟩
     ·omega
     ·cases he';exact ⟨b',o',rfl,hc k v hv⟩
    subst hceq
    have hwP := (HWI.out P (List.mem_of_getElem? hP)).1
    have hlP := (HWI.out P (List.mem_of_getElem? hP)).2
    have HBAD :Hid (Fp P=none→R=none) :=fun h=>HRB.out (I0 hP h)
    obtain ⟨av,nv,cv,rfl,hnv⟩ :=Ax hvP
    have j1 : (k :Int) < (Ls.length :Int) :=by omega
    have j0 : (0 :Int) ≤ (k :Int) :=by omega
    have HNXT :Hid (∀y,okk=true→Fp P=some y→ok=true∧Bt Fp (Ls.take (k+1)) =some (acc++ [y])) :=fun y h1 hy=> ⟨(HA.out.1 h1).1,by rw [H9 hP,(HA.out.1 h1).2,hy];rfl⟩
    have HOFF :Hid (okk=false→R=none) :=HA.out.2.1
    have HACC :Hid (acc.length=k) :=HA.out.2.2
    have hLs :Ls.length≤1601 :=by omega
    have hab :acc.length≤1601 :=by have :=HA.out.2.2;omega
    clear hv hP hparts HA HWI HRG HRB HRO
    by_cases hl2 :P.length<3
    ·have j2 : (nv :Int) <3 :=by omega
     have HB :Hid (R=none) :=HBAD.out (Yl hl2)
     clear hnv hvP hl2 HBAD HNXT hwP
     have hone : (sA 6 noW t noW (.slice none 0 0) (.slice none 0 0) (.slice az acc.length cz) (.slice none 0 0) (.slice none 0 0) op xk xn xs s nmv n8 (.slice ao2 kk c2) (.slice none 0 0) false (-1)).all (·.oneCell') =true :=Bc (sl7 _ _ _ _ _ _ _ _ _ _ _ _ _ _ _ _ _ _ _ _ _)
     go_wp2_with (first
      | refine wpList_load_row rfl 39 _ rfl (w.heap.size+2) rfl 39 _ _ _ hS.s Tryz.underlying39 rfl Af ?_
      | refine wpList_store_row rfl 39 _ _ rfl (w.heap.size+1) _ rfl rfl 39 Ah hS.r Af rfl hone ?_)
     exact bodyPost_ret (v := .tuple #[.agg (sA 6 noW t noW (.slice none 0 0) (.slice none 0 0) (.slice az acc.length cz) (.slice none 0 0) (.slice none 0 0) op xk xn xs s nmv n8 (.slice ao2 kk c2) (.slice none 0 0) false (-1)), .bool false]) (Ay Tryz.results13 _ _ (w.heap.size+1) 39 _ _ _ _ rfl rfl (Am hS.r) Tryz.underlying39 rfl Af) rfl (A4 (ok :=false) hS (sl7 _ _ _ _ _ _ _ _ _ _ _ _ _ _ _ _ _ _ _ _ _) HB.out)
    obtain ⟨b2,o2,hveq,hcw⟩ : ∃b2 o2,av=some ⟨b2,o2,none⟩ ∧ ∀V,Below w.heap.size w V→ ∀j y,P[j]? =some y→V.cell? ⟨b2,o2+j,none⟩ =some (.string y) :=by
     obtain ⟨b',o',c',h1,_,_⟩ :=A0 hvP (by omega)
     cases h1
     obtain ⟨g1,_,_,g2⟩ :=A7 hvP (by omega)
     exact ⟨b',o',rfl,fun V h j y hj=> (h.cell (p := ⟨b',o'+j,none⟩) g1).trans (g2 j y hj)⟩
    subst hveq
    have HCW :Hid _ :=hcw
    clear hcw
    obtain ⟨cc,q,mm,rfl⟩ : ∃cc q mm,P=cc ::q ::mm :=by
     match P,hl2 with
     | cc ::q ::mm,_=>exact ⟨cc,q,mm,rfl⟩
     | [_],h=>exact absurd (show 1<3 by omega) h
     | [],h=>exact absurd (show 0<3 by omega) h
    have hmm :mm≠ [] :=by rintro rfl;simp at hl2
    have hcap : (cc ::q ::mm).length≤cv :=by rw [hnv] at hvP;exact (A7 hvP (by omega)).2.1
    have hcv2 : ¬cv=2 :=by omega
    have HX :Hid (∀V,Below w.heap.size w V→Calls Tryz.prog 32 #[.slice (some ⟨b2,o2+2,none⟩) (nv - 2) (cv - 2), .int .i64 6] V (Bj (Dn mm) V)) :=fun V h=>by
     have h3 :=hvP
     rw [hnv] at h3
     rcases Gz (b :=b2) (off :=o2) (cap :=cv) (k :=2) (L :=cc ::q ::mm) (by omega) (by omega) with ⟨e,_⟩ | ⟨_,h4⟩
     ·exact absurd e hcv2
     ·have h5 :=h4 V (h3.below h)
      rw [←hnv] at h5
      simp only [List.length_cons] at hlP
      exact Gy _ mm V (by omega) (by omega) (he.next h) h5 (fun y hy=>hwP y (by simp [hy]))
    have j2 : ¬ (nv :Int) <3 :=by omega
    have j3 : (0 :Int) < (nv :Int) :=by omega
    have j4 : (1 :Int) < (nv :Int) :=by omega
    have j5 : (2 :Int) ≤ (nv :Int) :=by omega
    have j6 : (nv :Int) ≤ (cv :Int) :=by omega
    have j7 :0<nv :=by omega
    have y0 :=HCW.out wr hS.b 0 cc rfl
    have y1 :=HCW.out wr hS.b 1 q rfl
    simp only [Nat.add_zero] at y0
    have HSA :Hid _ :=Ack (c :=cc) (q :=q) hmm
    have HNV :Hid _ :=hnv
    clear hnv hvP hl2 hcap hwP hlP hmm
    by_cases hna :nm cc=true
    rotate_left
    ·have NM :=Da he (Bool.eq_false_iff.2 hna)
     have HB :Hid (R=none) :=HBAD.out (HSA.out.trans (if_neg (fun h=>hna h.1)))
     clear HBAD HNXT HX HSA
     have hone : (sA 6 noW t noW (.slice none 0 0) (.slice none 0 0) (.slice az acc.length cz) (.slice none 0 0) (.slice none 0 0) op xk xn xs s nmv n8 (.slice ao2 kk c2) (.slice none 0 0) false (-1)).all (·.oneCell') =true :=Bc (sl7 _ _ _ _ _ _ _ _ _ _ _ _ _ _ _ _ _ _ _ _ _)
     have hone : (sA 6 noW t noW (.slice none 0 0) (.slice none 0 0) (.slice az acc.length cz) (.slice none 0 0) (.slice none 0 0) op xk xn xs s nmv n8 (.slice ao2 kk c2) (.slice none 0 0) false (-1)).all (·.oneCell') =true :=Bc (sl7 _ _ _ _ _ _ _ _ _ _ _ _ _ _ _ _ _ _ _ _ _)
     go_wp2_with (first
      | (go_at_call 7;go_fit (NM _ hS.b);rintro e W ⟨rfl,hb⟩;have hS :=hS.next hb;have hG :=hG.below hb;clear hb;have y0 :=HCW.out W hS.b 0 cc rfl;have y1 :=HCW.out W hS.b 1 q rfl;simp only [Nat.add_zero] at y0)
      | refine wpList_load_row rfl 39 _ rfl (w.heap.size+2) rfl 39 _ _ _ hS.s Tryz.underlying39 rfl Af ?_
      | refine wpList_store_row rfl 39 _ _ rfl (w.heap.size+1) _ rfl rfl 39 Ah hS.r Af rfl hone ?_)
     exact bodyPost_ret (v := .tuple #[.agg (sA 6 noW t noW (.slice none 0 0) (.slice none 0 0) (.slice az acc.length cz) (.slice none 0 0) (.slice none 0 0) op xk xn xs s nmv n8 (.slice ao2 kk c2) (.slice none 0 0) false (-1)), .bool false]) (Ay Tryz.results13 _ _ (w.heap.size+1) 39 _ _ _ _ rfl rfl (Am hS.r) Tryz.underlying39 rfl Af) rfl (A4 (ok :=false) hS (sl7 _ _ _ _ _ _ _ _ _ _ _ _ _ _ _ _ _ _ _ _ _) HB.out)
    have NM :=Da he hna
    by_cases hqe :q=kEq
    rotate_left
    ·have hb1 : (q.toList== [61]) =false :=by rw [An];simpa using hqe
     have HB :Hid (R=none) :=HBAD.out (HSA.out.trans (if_neg (fun h=>hqe h.2)))
     clear HBAD HNXT HX HSA
     have hone : (sA 6 noW t noW (.slice none 0 0) (.slice none 0 0) (.slice az acc.length cz) (.slice none 0 0) (.slice none 0 0) op xk xn xs s nmv n8 (.slice ao2 kk c2) (.slice none 0 0) false (-1)).all (·.oneCell') =true :=Bc (sl7 _ _ _ _ _ _ _ _ _ _ _ _ _ _ _ _ _ _ _ _ _)
     go_wp2_with (first
      | (go_at_call 7;go_fit (NM _ hS.b);rintro e W ⟨rfl,hb⟩;have hS :=hS.next hb;have hG :=hG.below hb;clear hb;have y0 :=HCW.out W hS.b 0 cc rfl;have y1 :=HCW.out W hS.b 1 q rfl;simp only [Nat.add_zero] at y0)
      | refine wpList_load_row rfl 39 _ rfl (w.heap.size+2) rfl 39 _ _ _ hS.s Tryz.underlying39 rfl Af ?_
      | refine wpList_store_row rfl 39 _ _ rfl (w.heap.size+1) _ rfl rfl 39 Ah hS.r Af rfl hone ?_)
     exact bodyPost_ret (v := .tuple #[.agg (sA 6 noW t noW (.slice none 0 0) (.slice none 0 0) (.slice az acc.length cz) (.slice none 0 0) (.slice none 0 0) op xk xn xs s nmv n8 (.slice ao2 kk c2) (.slice none 0 0) false (-1)), .bool false]) (Ay Tryz.results13 _ _ (w.heap.size+1) 39 _ _ _ _ rfl rfl (Am hS.r) Tryz.underlying39 rfl Af) rfl (A4 (ok :=false) hS (sl7 _ _ _ _ _ _ _ _ _ _ _ _ _ _ _ _ _ _ _ _ _) HB.out)
    have hb1 : (q.toList== [61]) =true :=by rw [An];simpa using hqe
    have HSB :Hid (Fp (cc ::q ::mm) = (Dn mm).map fun e=> (cc,e)) :=HSA.out.trans (if_pos ⟨hna,hqe⟩)
    clear HSA hqe hna
    go_upto_region 70 with (first
     | (go_at_call 7;go_fit (NM _ hS.b);rintro e W ⟨rfl,hb⟩;have hS :=hS.next hb;have hG :=hG.below hb;clear hb;have y0 :=HCW.out W hS.b 0 cc rfl;have y1 :=HCW.out W hS.b 1 q rfl;simp only [Nat.add_zero] at y0)
     | (go_at_call 32;go_fit (HX.out _ hS.b);have hyF :=I2 hG hS.size;rintro e W ⟨ve,okx,y,rfl,hEy,hRy,hbe⟩;have hS :=hS.next hbe;have hG :=hG.below hbe;have HRY :Hid _ :=hRy;clear hRy;obtain ⟨yop,yv,ys,ynm,yn,yao,ykk,yc,rfl⟩ :=hEy.shape;obtain ⟨yk,yi,ys2⟩ :=yv))
    have hbV :Below W.heap.size W (W.alloc (.cells #[.int .i64 yop, .int .i64 yk, .int .i64 yi, .string ys2, .string ys, .string ynm, .int .i64 yn, .slice yao ykk yc] 37)) := (Below.refl _ _).alloc (Nat.le_refl _) _
    have bE : (W.alloc (.cells #[.int .i64 yop, .int .i64 yk, .int .i64 yi, .string ys2, .string ys, .string ynm, .int .i64 yn, .slice yao ykk yc] 37)).heap[W.heap.size]? =some (.cells #[.int .i64 yop, .int .i64 yk, .int .i64 yi, .string ys2, .string ys, .string ynm, .int .i64 yn, .slice yao ykk yc] 37) :=Ad W _
    have hSV :=hS.next hbV
    have hGV :=hG.below hbV
    have hpe0 :w.heap.size+3≤W.heap.size :=hS.size
    have hpe :some W.heap.size≠ (Value.slice az acc.length cz).ownBlock := (I2 hG hS.size _ (Nat.le_refl _)).2
    have hEV :=IsE.keep (Bb hbV) _ _ (IsE.mono (fun k _ hk=>hyF k hk) _ _ hEy)
    generalize hV :W.alloc (.cells #[.int .i64 yop, .int .i64 yk, .int .i64 yi, .string ys2, .string ys, .string ynm, .int .i64 yn, .slice yao ykk yc] 37) =V at*
    go_cut [7] from 363 to 366 (fun s7 wx=>s7= .bool (okk&&okx) ∧wx=V)
    case first=>
     cases okk
     all_goals
      go_wp2_with fail
      go_meet
      case rel=>exact ⟨rfl,rfl⟩
    case rest=>
     obtain ⟨rfl,hwc⟩ :=hcut
     rw [hwc]
     clear hwc hV hbV hyF hEy HX
     generalize W.heap.size=pe at*
     have KE :Hid (∀V',V'.heap[pe]? =some (.cells #[.int .i64 yop, .int .i64 yk, .int .i64 yi, .string ys2, .string ys, .string ynm, .int .i64 yn, .slice yao ykk yc] 37) →Below w.heap.size w V'→V'.cell? ⟨b2,o2,none⟩ =some (.string cc) ∧V'.cell? ⟨pe,0,none⟩ =some (.int .i64 yop) ∧V'.cell? ⟨pe,1,none⟩ =some (.int .i64 yk) ∧V'.cell? ⟨pe,2,none⟩ =some (.int .i64 yi) ∧V'.cell? ⟨pe,3,none⟩ =some (.string ys2) ∧V'.cell? ⟨pe,4,none⟩ =some (.string ys) ∧V'.cell? ⟨pe,5,none⟩ =some (.string ynm) ∧V'.cell? ⟨pe,6,none⟩ =some (.int .i64 yn) ∧V'.cell? ⟨pe,7,none⟩ =some (.slice yao ykk yc)) :=fun V' h1 h2=>by
      have e0 :=HCW.out V' h2 0 cc rfl
      simp only [Nat.add_zero] at e0
      exact ⟨e0,Cq h1 rfl⟩
     have s6 :V.cell? ⟨w.heap.size+2,6,none⟩ =some (.slice az acc.length cz) :=Aa hSV.s rfl
     have s6a : ∀o,(V.alloc o).cell? ⟨w.heap.size+2,6,none⟩ =some (.slice az acc.length cz) :=fun o=>Aa (hSV.alloc o).s rfl
     obtain ⟨cs,hown,hall,hside⟩ :=hGV.below ((Below.refl _ _).alloc (Nat.le_refl _) (.cells [.string cc, .int .i64 yop, .int .i64 yk, .int .i64 yi, .string ys2, .string ys, .string ynm, .int .i64 yn, .slice yao ykk yc].toArray 55))
     have hnew :=B2 V [.string cc, .int .i64 yop, .int .i64 yk, .int .i64 yi, .string ys2, .string ys, .string ynm, .int .i64 yn, .slice yao ykk yc] 55
     have hbase :w.heap.size+3≤ (V.alloc (.cells [.string cc, .int .i64 yop, .int .i64 yk, .int .i64 yi, .string ys2, .string ys, .string ynm, .int .i64 yn, .slice yao ykk yc].toArray 55)).heap.size :=Nat.le_trans hSV.size (by simp)
     have kd :Keeps (FO (w.heap.size+3) (.slice az acc.length cz)) (V.alloc (.cells [.string cc, .int .i64 yop, .int .i64 yk, .int .i64 yi, .string ys2, .string ys, .string ynm, .int .i64 yn, .slice yao ykk yc].toArray 55)) (V.alloc (.cells [.string cc, .int .i64 yop, .int .i64 yk, .int .i64 yi, .string ys2, .string ys, .string ynm, .int .i64 yn, .slice yao ykk yc].toArray 55)).drew := (Keeps.refl _ _).drew
     have HALL :Hid _ :=All.keep kd hall
     have HSIDE :Hid _ :=Side.keep _ kd hside
     have HXY :Hid (G5.R (FO (w.heap.size+3) (.slice az acc.length cz)) (V.alloc (.cells [.string cc, .int .i64 yop, .int .i64 yk, .int .i64 yi, .string ys2, .string ys, .string ynm, .int .i64 yn, .slice yao ykk yc].toArray 55)).drew (cc,y) [.string cc, .int .i64 yop, .int .i64 yk, .int .i64 yi, .string ys2, .string ys, .string ynm, .int .i64 yn, .slice yao ykk yc]) := ⟨_,rfl,rfl,IsE.keep (((Keeps.refl _ _).alloc _).drew) _ _ hEV⟩
     obtain ⟨i0,hi,hz0,hz1,hz2⟩ :=info_parts Sj
     have h1c : ∀u∈ ([.string cc, .int .i64 yop, .int .i64 yk, .int .i64 yi, .string ys2, .string ys, .string ynm, .int .i64 yn, .slice yao ykk yc] :List Value),u.oneCell'=true :=by simp only [List.forall_mem_cons];repeat (first | exact fun _ h=>absurd h List.not_mem_nil | refine ⟨rfl, ?_⟩)
     have hownD : (V.alloc (.cells [.string cc, .int .i64 yop, .int .i64 yk, .int .i64 yi, .string ys2, .string ys, .string ynm, .int .i64 yn, .slice yao ykk yc].toArray 55)).drew.ownsRow (w.heap.size+3) 55 9 (.slice az acc.length cz) acc.length cs :=hown
     have hbaseD :w.heap.size+3≤ (V.alloc (.cells [.string cc, .int .i64 yop, .int .i64 yk, .int .i64 yi, .string ys2, .string ys, .string ynm, .int .i64 yn, .slice yao ykk yc].toArray 55)).drew.heap.size :=hbase
     clear hall hside hGV hG hS hEV kd
     go_upto_region 71 with fail
     refine wp_region_held_drew (S :=fun V'=>V'.cell? ⟨b2,o2,none⟩ =some (.string cc) ∧V'.cell? ⟨pe,0,none⟩ =some (.int .i64 yop) ∧V'.cell? ⟨pe,1,none⟩ =some (.int .i64 yk) ∧V'.cell? ⟨pe,2,none⟩ =some (.int .i64 yi) ∧V'.cell? ⟨pe,3,none⟩ =some (.string ys2) ∧V'.cell? ⟨pe,4,none⟩ =some (.string ys) ∧V'.cell? ⟨pe,5,none⟩ =some (.string ynm) ∧V'.cell? ⟨pe,6,none⟩ =some (.int .i64 yn) ∧V'.cell? ⟨pe,7,none⟩ =some (.slice yao ykk yc)) (by kernel_rfl) ?_ (fun hHeld=> ?_)
     ·with_reducible first | exact KE.out _ (A8 bE) hSV.b.drew | exact KE.out _ (A8 (Ae bE _)) (hSV.alloc _).b.drew | exact KE.out _ hbE4 hS4.b | exact KE.out _ (Aj hbE4 (by omega) _ _) (hS4.set _ _).b
     refine wpAnyH_take (i :=0) (oi := {dst :=some 367,op :=Go.Op.fieldAddr 39 (Go.Operand.tmp 4) 6,type :=0,pos := "low.go:487",after := #[],guard :=none}) (v := ?_) rfl (by kernel_rfl) (by kernel_rfl) (by kernel_rfl) (fun _ _ _ h=>h) (Or.inl ⟨by rfl, ?_⟩) (by assumption) ?_
     rotate_left
     ·intro w hSw;(try dsimp only at hSw);go_simp;all_goals (with_reducible rfl)
     try simp only [Act.put,List.setIfInBounds_toArray,List.set_cons_zero,List.set_cons_succ]
     refine wpAnyH_take (i :=2) (oi := {dst :=some 369,op :=Go.Op.move (Go.Operand.tmp 24),type :=32,pos := "low.go:487",after := #[],guard :=none}) (v := ?_) rfl (by kernel_rfl) (by kernel_rfl) (by kernel_rfl) (fun _ _ _ h=>h) (Or.inl ⟨by rfl, ?_⟩) (by assumption) ?_
     rotate_left
     ·intro w hSw;(try dsimp only at hSw);go_simp;all_goals (with_reducible rfl)
     try simp only [Act.put,List.setIfInBounds_toArray,List.set_cons_zero,List.set_cons_succ]
     refine wpAnyH_take (i :=3) (oi := {dst :=some 370,op :=Go.Op.indexAddr 32 (Go.Operand.tmp 369) (Go.Operand.const (Go.Value.int Go.IntKind.i64 0)),type :=0,pos := "low.go:487",after := #[{on :=2,ground :=Go.Ground.data}],guard :=none}) (v := ?_) rfl (by kernel_rfl) (by kernel_rfl) (by kernel_rfl) (fun _ _ _ h=>h) (Or.inl ⟨by rfl, ?_⟩) (by assumption) ?_
     rotate_left
     ·intro w hSw;(try dsimp only at hSw);go_simp;all_goals (with_reducible rfl)
     try simp only [Act.put,List.setIfInBounds_toArray,List.set_cons_zero,List.set_cons_succ]
     refine wpAnyH_take (i :=4) (oi := {dst :=some 371,op :=Go.Op.load 9 (Go.Operand.tmp 370),type :=9,pos := "low.go:487",after := #[{on :=3,ground :=Go.Ground.data}],guard :=none}) (v := ?_) rfl (by kernel_rfl) (by kernel_rfl) (by kernel_rfl) (fun _ _ _ h=>h) (Or.inl ⟨by rfl, ?_⟩) (by assumption) ?_
     rotate_left
     ·intro w hSw;(try dsimp only at hSw);go_simp;all_goals (with_reducible rfl)
     try simp only [Act.put,List.setIfInBounds_toArray,List.set_cons_zero,List.set_cons_succ]
     refine wpAnyH_take (i :=5) (oi := {dst :=some 372,op :=Go.Op.load 37 (Go.Operand.tmp 25),type :=37,pos := "low.go:487",after := #[],guard :=none}) (v := ?_) rfl (by kernel_rfl) (by kernel_rfl) (by kernel_rfl) (fun _ _ _ h=>h) (Or.inl ⟨by rfl, ?_⟩) (by assumption) ?_
     rotate_left
     ·intro w hSw;(try dsimp only at hSw);go_simp;all_goals (with_reducible rfl)
     try simp only [Act.put,List.setIfInBounds_toArray,List.set_cons_zero,List.set_cons_succ]
     refine wpAnyH_take (i :=6) (oi := {dst :=some 373,op :=Go.Op.build 55 #[(0,Go.Operand.tmp 371),(1,Go.Operand.tmp 372)],type :=55,pos := "low.go:487",after := #[{on :=4,ground :=Go.Ground.data},{on :=5,ground :=Go.Ground.data}],guard :=none}) (v := ?_) rfl (by kernel_rfl) (by kernel_rfl) (by kernel_rfl) (fun _ _ _ h=>h) (Or.inl ⟨by rfl, ?_⟩) (by assumption) ?_
     rotate_left
     ·intro w hSw;(try dsimp only at hSw);go_simp;all_goals (with_reducible rfl)
     try simp only [Act.put,List.setIfInBounds_toArray,List.set_cons_zero,List.set_cons_succ]
     refine wpAnyH_ready (rs := [1,7]) (by kernel_rfl) (by simp) ?_
     refine (AllReadyH.cons (o := {dst :=some 368,op :=Go.Op.load 31 (Go.Operand.tmp 367),type :=31,pos := "low.go:487",after := #[{on :=0,ground :=Go.Ground.data}],guard :=none}) rfl (fun K hK=> ?_) (AllReadyH.cons (o := {dst :=some 374,op :=Go.Op.buildSlice 31 1 #[(0,Go.Operand.tmp 373)],type :=31,pos := "low.go:487",after := #[{on :=6,ground :=Go.Ground.data}],guard :=none}) rfl (fun K hK=> ?_) AllReadyH.nil))
     ·go_simp
      go_wp2_with fail
      refine hK.out _ _ ?_ (fun hHeld=> ?_)
      ·with_reducible first | exact KE.out _ (A8 bE) hSV.b.drew | exact KE.out _ (A8 (Ae bE _)) (hSV.alloc _).b.drew | exact KE.out _ hbE4 hS4.b | exact KE.out _ (Aj hbE4 (by omega) _ _) (hS4.set _ _).b
      clear hK K
      try simp only [Act.put,List.setIfInBounds_toArray,List.set_cons_zero,List.set_cons_succ]
      refine wpAnyH_ready (rs := [7]) (by kernel_rfl) (by simp) ?_
      refine (AllReadyH.cons (o := {dst :=some 374,op :=Go.Op.buildSlice 31 1 #[(0,Go.Operand.tmp 373)],type :=31,pos := "low.go:487",after := #[{on :=6,ground :=Go.Ground.data}],guard :=none}) rfl (fun K hK=> ?_) AllReadyH.nil)
      go_simp
      go_wp2_with fail
      refine hK.out _ _ ?_ (fun hHeld=> ?_)
      ·with_reducible first | exact KE.out _ (A8 bE) hSV.b.drew | exact KE.out _ (A8 (Ae bE _)) (hSV.alloc _).b.drew | exact KE.out _ hbE4 hS4.b | exact KE.out _ (Aj hbE4 (by omega) _ _) (hS4.set _ _).b
      clear hK K
      try simp only [Act.put,List.setIfInBounds_toArray,List.set_cons_zero,List.set_cons_succ]
      refine wpAnyH_ready (rs := [8]) (by kernel_rfl) (by simp) ?_
      refine (AllReadyH.cons (o := {dst :=some 375,op :=Go.Op.call {callee :=Go.Callee.builtin Go.Builtin.append,args := #[Go.Operand.tmp 368,Go.Operand.tmp 374],argTypes := #[31,31]},type :=31,pos := "low.go:487",after := #[{on :=1,ground :=Go.Ground.data},{on :=7,ground :=Go.Ground.data}],guard :=none}) rfl (fun K hK=> ?_) AllReadyH.nil)
      refine Es (by rfl) _ _ 31 (by rfl) (w.heap.size+3) 55 i0 _ 9 120 Tryz.underlying31 hi hz0 hz1 hz2 rfl (by decide) (.slice az acc.length cz) acc.length cs (by rfl) hownD ⟨V.heap.size,0,none⟩ 1 1 [.string cc, .int .i64 yop, .int .i64 yk, .int .i64 yi, .string ys2, .string ys, .string ynm, .int .i64 yn, .slice yao ykk yc] (by rfl) rfl hnew h1c (by simp only [maxLen];omega) (by omega) hbaseD ?_;intro z2 w4 hown4 hg4 hat;have hS4 := ((hSV.alloc (.cells [.string cc, .int .i64 yop, .int .i64 yk, .int .i64 yi, .string ys2, .string ys, .string ynm, .int .i64 yn, .slice yao ykk yc].toArray 55)).drew).low (Bn hownD hbaseD hg4);have hbE4 :w4.heap[pe]? =some (.cells #[.int .i64 yop, .int .i64 yk, .int .i64 yi, .string ys2, .string ys, .string ynm, .int .i64 yn, .slice yao ykk yc] 37) :=Kb hg4 (w := (V.alloc (.cells [.string cc, .int .i64 yop, .int .i64 yk, .int .i64 yi, .string ys2, .string ys, .string ynm, .int .i64 yn, .slice yao ykk yc].toArray 55)).drew) (Ae bE _) hpe;have hG4 :=E5.add (K :=G5) (x := (cc,y)) (V := (V.alloc (.cells [.string cc, .int .i64 yop, .int .i64 yk, .int .i64 yi, .string ys2, .string ys, .string ynm, .int .i64 yn, .slice yao ykk yc].toArray 55)).drew) HALL.out HSIDE.out HXY.out hown4 hg4 hat;obtain ⟨az2,cz2,hz⟩ :=hG4.isL.shape;rw [List.length_append,List.length_singleton] at hz;subst hz;have s64 :w4.cell? ⟨w.heap.size+2,6,none⟩ =some (.slice az acc.length cz) :=Aa hS4.s rfl;have f64 :=Ab hS4.s 6;have hS5 :=hS4.set 6 (.slice az2 (acc.length+1) cz2);simp only [List.setIfInBounds_toArray,List.set_cons_zero,List.set_cons_succ] at hS5;have hG5 :=hG4.set (show w.heap.size+2<w.heap.size+3 by omega) 6 (.slice az2 (acc.length+1) cz2)
      refine hK.out _ _ ?_ (fun hHeld=> ?_)
      ·with_reducible first | exact KE.out _ (A8 bE) hSV.b.drew | exact KE.out _ (A8 (Ae bE _)) (hSV.alloc _).b.drew | exact KE.out _ hbE4 hS4.b | exact KE.out _ (Aj hbE4 (by omega) _ _) (hS4.set _ _).b
      clear hK K
      try simp only [Act.put,List.setIfInBounds_toArray,List.set_cons_zero,List.set_cons_succ]
      refine wpAnyH_take (i :=9) (oi := {dst :=some 376,op :=Go.Op.fieldAddr 39 (Go.Operand.tmp 4) 6,type :=0,pos := "low.go:487",after := #[{on :=0,ground :=Go.Ground.phase},{on :=1,ground :=Go.Ground.phase},{on :=2,ground :=Go.Ground.phase},{on :=3,ground :=Go.Ground.phase},{on :=4,ground :=Go.Ground.phase},{on :=5,ground :=Go.Ground.phase},{on :=6,ground :=Go.Ground.phase},{on :=7,ground :=Go.Ground.phase},{on :=8,ground :=Go.Ground.phase}],guard :=none}) (v := ?_) rfl (by kernel_rfl) (by kernel_rfl) (by kernel_rfl) (fun _ _ _ h=>h) (Or.inl ⟨by rfl, ?_⟩) (by assumption) ?_
      rotate_left
      ·intro w hSw;(try dsimp only at hSw);go_simp;all_goals (with_reducible rfl)
      try simp only [Act.put,List.setIfInBounds_toArray,List.set_cons_zero,List.set_cons_succ]
      refine wpAnyH_ready (rs := [10]) (by kernel_rfl) (by simp) ?_
      refine (AllReadyH.cons (o := {dst :=none,op :=Go.Op.store 31 (Go.Operand.tmp 376) (Go.Operand.tmp 375),type :=0,pos := "low.go:487",after := #[{on :=9,ground :=Go.Ground.data},{on :=8,ground :=Go.Ground.data},{on :=8,ground :=Go.Ground.chain},{on :=0,ground :=Go.Ground.phase},{on :=1,ground :=Go.Ground.phase},{on :=2,ground :=Go.Ground.phase},{on :=3,ground :=Go.Ground.phase},{on :=4,ground :=Go.Ground.phase},{on :=5,ground :=Go.Ground.phase},{on :=6,ground :=Go.Ground.phase},{on :=7,ground :=Go.Ground.phase},{on :=8,ground :=Go.Ground.phase}],guard :=none}) rfl (fun K hK=> ?_) AllReadyH.nil)
      go_simp
      go_wp2_with fail
      refine hK.out _ _ ?_ (fun hHeld=> ?_)
      ·with_reducible first | exact KE.out _ (A8 bE) hSV.b.drew | exact KE.out _ (A8 (Ae bE _)) (hSV.alloc _).b.drew | exact KE.out _ hbE4 hS4.b | exact KE.out _ (Aj hbE4 (by omega) _ _) (hS4.set _ _).b
      clear hK K
      try simp only [Act.put,List.setIfInBounds_toArray,List.set_cons_zero,List.set_cons_succ]
      refine wpAnyH_done (by kernel_rfl) ?_ _
      go_wp2_with fail
      go_roundg (gk - 1)
      case measure=>omega
      case rel=>exact ⟨k+1,acc++ [(cc,y)],_,okk&&okx,by go_num,rfl,by omega,hS5,hG5,fun h=>HNXT.out (cc,y) (Nb HRY.out HSB.out h).1 (Nb HRY.out HSB.out h).2,fun h=> (Wt HRY.out HSB.out h).elim HOFF.out HBAD.out,by rw [List.length_append,HACC.out];rfl⟩
     ·go_simp
      go_wp2_with fail
      refine hK.out _ _ ?_ (fun hHeld=> ?_)
      ·with_reducible first | exact KE.out _ (A8 bE) hSV.b.drew | exact KE.out _ (A8 (Ae bE _)) (hSV.alloc _).b.drew | exact KE.out _ hbE4 hS4.b | exact KE.out _ (Aj hbE4 (by omega) _ _) (hS4.set _ _).b
      clear hK K
      try simp only [Act.put,List.setIfInBounds_toArray,List.set_cons_zero,List.set_cons_succ]
      refine wpAnyH_ready (rs := [1]) (by kernel_rfl) (by simp) ?_
      refine (AllReadyH.cons (o := {dst :=some 368,op :=Go.Op.load 31 (Go.Operand.tmp 367),type :=31,pos := "low.go:487",after := #[{on :=0,ground :=Go.Ground.data}],guard :=none}) rfl (fun K hK=> ?_) AllReadyH.nil)
      go_simp
      go_wp2_with fail
      refine hK.out _ _ ?_ (fun hHeld=> ?_)
      ·with_reducible first | exact KE.out _ (A8 bE) hSV.b.drew | exact KE.out _ (A8 (Ae bE _)) (hSV.alloc _).b.drew | exact KE.out _ hbE4 hS4.b | exact KE.out _ (Aj hbE4 (by omega) _ _) (hS4.set _ _).b
      clear hK K
      try simp only [Act.put,List.setIfInBounds_toArray,List.set_cons_zero,List.set_cons_succ]
      refine wpAnyH_ready (rs := [8]) (by kernel_rfl) (by simp) ?_
      refine (AllReadyH.cons (o := {dst :=some 375,op :=Go.Op.call {callee :=Go.Callee.builtin Go.Builtin.append,args := #[Go.Operand.tmp 368,Go.Operand.tmp 374],argTypes := #[31,31]},type :=31,pos := "low.go:487",after := #[{on :=1,ground :=Go.Ground.data},{on :=7,ground :=Go.Ground.data}],guard :=none}) rfl (fun K hK=> ?_) AllReadyH.nil)
      refine Es (by rfl) _ _ 31 (by rfl) (w.heap.size+3) 55 i0 _ 9 120 Tryz.underlying31 hi hz0 hz1 hz2 rfl (by decide) (.slice az acc.length cz) acc.length cs (by rfl) hownD ⟨V.heap.size,0,none⟩ 1 1 [.string cc, .int .i64 yop, .int .i64 yk, .int .i64 yi, .string ys2, .string ys, .string ynm, .int .i64 yn, .slice yao ykk yc] (by rfl) rfl hnew h1c (by simp only [maxLen];omega) (by omega) hbaseD ?_;intro z2 w4 hown4 hg4 hat;have hS4 := ((hSV.alloc (.cells [.string cc, .int .i64 yop, .int .i64 yk, .int .i64 yi, .string ys2, .string ys, .string ynm, .int .i64 yn, .slice yao ykk yc].toArray 55)).drew).low (Bn hownD hbaseD hg4);have hbE4 :w4.heap[pe]? =some (.cells #[.int .i64 yop, .int .i64 yk, .int .i64 yi, .string ys2, .string ys, .string ynm, .int .i64 yn, .slice yao ykk yc] 37) :=Kb hg4 (w := (V.alloc (.cells [.string cc, .int .i64 yop, .int .i64 yk, .int .i64 yi, .string ys2, .string ys, .string ynm, .int .i64 yn, .slice yao ykk yc].toArray 55)).drew) (Ae bE _) hpe;have hG4 :=E5.add (K :=G5) (x := (cc,y)) (V := (V.alloc (.cells [.string cc, .int .i64 yop, .int .i64 yk, .int .i64 yi, .string ys2, .string ys, .string ynm, .int .i64 yn, .slice yao ykk yc].toArray 55)).drew) HALL.out HSIDE.out HXY.out hown4 hg4 hat;obtain ⟨az2,cz2,hz⟩ :=hG4.isL.shape;rw [List.length_append,List.length_singleton] at hz;subst hz;have s64 :w4.cell? ⟨w.heap.size+2,6,none⟩ =some (.slice az acc.length cz) :=Aa hS4.s rfl;have f64 :=Ab hS4.s 6;have hS5 :=hS4.set 6 (.slice az2 (acc.length+1) cz2);simp only [List.setIfInBounds_toArray,List.set_cons_zero,List.set_cons_succ] at hS5;have hG5 :=hG4.set (show w.heap.size+2<w.heap.size+3 by omega) 6 (.slice az2 (acc.length+1) cz2)
      refine hK.out _ _ ?_ (fun hHeld=> ?_)
      ·with_reducible first | exact KE.out _ (A8 bE) hSV.b.drew | exact KE.out _ (A8 (Ae bE _)) (hSV.alloc _).b.drew | exact KE.out _ hbE4 hS4.b | exact KE.out _ (Aj hbE4 (by omega) _ _) (hS4.set _ _).b
      clear hK K
      try simp only [Act.put,List.setIfInBounds_toArray,List.set_cons_zero,List.set_cons_succ]
      refine wpAnyH_take (i :=9) (oi := {dst :=some 376,op :=Go.Op.fieldAddr 39 (Go.Operand.tmp 4) 6,type :=0,pos := "low.go:487",after := #[{on :=0,ground :=Go.Ground.phase},{on :=1,ground :=Go.Ground.phase},{on :=2,ground :=Go.Ground.phase},{on :=3,ground :=Go.Ground.phase},{on :=4,ground :=Go.Ground.phase},{on :=5,ground :=Go.Ground.phase},{on :=6,ground :=Go.Ground.phase},{on :=7,ground :=Go.Ground.phase},{on :=8,ground :=Go.Ground.phase}],guard :=none}) (v := ?_) rfl (by kernel_rfl) (by kernel_rfl) (by kernel_rfl) (fun _ _ _ h=>h) (Or.inl ⟨by rfl, ?_⟩) (by assumption) ?_
      rotate_left
      ·intro w hSw;(try dsimp only at hSw);go_simp;all_goals (with_reducible rfl)
      try simp only [Act.put,List.setIfInBounds_toArray,List.set_cons_zero,List.set_cons_succ]
      refine wpAnyH_ready (rs := [10]) (by kernel_rfl) (by simp) ?_
      refine (AllReadyH.cons (o := {dst :=none,op :=Go.Op.store 31 (Go.Operand.tmp 376) (Go.Operand.tmp 375),type :=0,pos := "low.go:487",after := #[{on :=9,ground :=Go.Ground.data},{on :=8,ground :=Go.Ground.data},{on :=8,ground :=Go.Ground.chain},{on :=0,ground :=Go.Ground.phase},{on :=1,ground :=Go.Ground.phase},{on :=2,ground :=Go.Ground.phase},{on :=3,ground :=Go.Ground.phase},{on :=4,ground :=Go.Ground.phase},{on :=5,ground :=Go.Ground.phase},{on :=6,ground :=Go.Ground.phase},{on :=7,ground :=Go.Ground.phase},{on :=8,ground :=Go.Ground.phase}],guard :=none}) rfl (fun K hK=> ?_) AllReadyH.nil)
      go_simp
      go_wp2_with fail
      refine hK.out _ _ ?_ (fun hHeld=> ?_)
      ·with_reducible first | exact KE.out _ (A8 bE) hSV.b.drew | exact KE.out _ (A8 (Ae bE _)) (hSV.alloc _).b.drew | exact KE.out _ hbE4 hS4.b | exact KE.out _ (Aj hbE4 (by omega) _ _) (hS4.set _ _).b
      clear hK K
      try simp only [Act.put,List.setIfInBounds_toArray,List.set_cons_zero,List.set_cons_succ]
      refine wpAnyH_done (by kernel_rfl) ?_ _
      go_wp2_with fail
      go_roundg (gk - 1)
      case measure=>omega
      case rel=>exact ⟨k+1,acc++ [(cc,y)],_,okk&&okx,by go_num,rfl,by omega,hS5,hG5,fun h=>HNXT.out (cc,y) (Nb HRY.out HSB.out h).1 (Nb HRY.out HSB.out h).2,fun h=> (Wt HRY.out HSB.out h).elim HOFF.out HBAD.out,by rw [List.length_append,HACC.out];rfl⟩
   ·have j1 : ¬ (k :Int) < (Ls.length :Int) :=by omega
    have HG :Hid (R=if okk=true then some {Bg 6 with table :=t,sets :=acc,wher :=x} else none) :=by
     show R=_
     cases okk
     ·exact HA.out.2.1 rfl
     ·obtain ⟨g1,g2⟩ :=HA.out.1 rfl
      rw [List.take_of_length_le (show Ls.length≤k by omega)] at g2
      exact HRG.out acc g1 g2
    have hC :IsL G5 (Fr (w.heap.size+3)) wr (.slice az acc.length cz) acc :=hG.isL
    have hEx :IsE (Fr (w.heap.size+3)) wr x (.agg (A2 op ⟨xk,xn,xs⟩ s nmv n8 (.slice ao2 kk c2))) :=hG.side.2
    clear HRG HRB HRO HA hG hparts HWI
    have hone : (sA 6 noW t noW (.slice none 0 0) (.slice none 0 0) (.slice az acc.length cz) (.slice none 0 0) (.slice none 0 0) op xk xn xs s nmv n8 (.slice ao2 kk c2) (.slice none 0 0) false (-1)).all (·.oneCell') =true :=Bc (sl7 _ _ _ _ _ _ _ _ _ _ _ _ _ _ _ _ _ _ _ _ _)
    go_wp2_with (first
     | refine wpList_load_row rfl 39 _ rfl (w.heap.size+2) rfl 39 _ _ _ hS.s Tryz.underlying39 rfl Af ?_
     | refine wpList_store_row rfl 39 _ _ rfl (w.heap.size+1) _ rfl rfl 39 Ah hS.r Af rfl hone ?_)
    exact bodyPost_ret (v := .tuple #[.agg (sA 6 noW t noW (.slice none 0 0) (.slice none 0 0) (.slice az acc.length cz) (.slice none 0 0) (.slice none 0 0) op xk xn xs s nmv n8 (.slice ao2 kk c2) (.slice none 0 0) false (-1)), .bool okk]) (Ay Tryz.results13 _ _ (w.heap.size+1) 39 _ _ _ _ rfl rfl (Am hS.r) Tryz.underlying39 rfl Af) rfl (A4 (ok :=okk) hS (sl7 _ _ _ _ _ _ _ _ _ _ _ _ _ _ _ _ _ _ _ _ _) (Q9 HG.out (D8 (IsL.nil _ _ _) (IsL.nil _ _ _) hC (IsL.nil _ _ _) (IsL.nil _ _ _) hEx (IsL.nil _ _ _))))
end Go.Proofs.YtifjaegfpdjikaaGreatDoor

namespace Go.Proofs.YtifjaegfpdjikaaGreatDoor
open Go.RowKit
set_option maxRecDepth 100000 in
set_option maxHeartbeats 4000000 in
theorem V3 (sl :Value) (L :List Wd) (w :World) (he :Env w) (hL :Ak w sl L) (hw :Whole L) (hk0 :L.take 2≠ [Au,A5]) (hk1 :L.take 2≠ [Au,B7]) (hk2 :L.take 2≠ [Cg,A5]) (hk3 :L.take 2≠ [Bv,E6]) (hk4 :L.take 2≠ [Cb,Az]) (hk5 :L.take 1≠ [Cc]) (hk6 :L.take 1≠ [Ck]) :
  Calls Tryz.prog 13 #[sl] w (Cv none w) :=by
 have H0 :=Bz Ch he hL hw hk0 (Ai 0)
 have H1 :=Bz Dh he hL hw hk1 (Ai 0)
 have H2 :=Bz Gi he hL hw hk2 (Ai 0)
 have H3 :=Bz Hg he hL hw hk3 (Ai 0)
 have H4 :=Bz Ke he hL hw hk4 (Ai 0)
 have H5 :=Bz Me he hL hw hk5 (Ai 0)
 have H6 :=Bz Pg he hL hw hk6 (Ai 0)
 clear hk0 hk1 hk2 hk3 hk4 hk5 hk6 hw
 have s1 :=Dj w sl
 have s0 :=Di w sl
 obtain ⟨a0,n0,cap0,rfl,hn0⟩ :=Ax hL
 clear hL hn0
 generalize hW0 : ((((w.alloc (.cells #[.slice a0 n0 cap0] 32)).alloc (.cells Ah 39)).alloc (.cells Ah 39)).setRow (w.heap.size+2) (Ai 0)) =W0 at s0
 have HW0 :Hid _ :=hW0
 clear hW0
 go_enter Tryz.func13,Tryz.ntmps13
 go_upto_region 2 with (refine wpList_store_row rfl 39 _ _ rfl (w.heap.size+2) (Ai 0) rfl rfl 39 Ah s1 Af rfl Fc ?_)
 rw [HW0.out,show w.heap.size+1+1=w.heap.size+2 from rfl]
 have hS :=s0
 clear s0 s1 HW0
 go_upto_region 5 with (first
   | (go_at_call 27;go_fit (H0 _ hS);clear hS;rintro e W ⟨rfl,hS⟩)
   | (go_at_call 27;go_fit (H1 _ hS);clear hS;rintro e W ⟨rfl,hS⟩)
   | (go_at_call 27;go_fit (H2 _ hS);clear hS;rintro e W ⟨rfl,hS⟩)
   | (go_at_call 27;go_fit (H3 _ hS);clear hS;rintro e W ⟨rfl,hS⟩)
   | (go_at_call 27;go_fit (H4 _ hS);clear hS;rintro e W ⟨rfl,hS⟩)
   | (go_at_call 27;go_fit (H5 _ hS);clear hS;rintro e W ⟨rfl,hS⟩)
   | (go_at_call 27;go_fit (H6 _ hS);clear hS;rintro e W ⟨rfl,hS⟩))
 have hone : (sA 0 noW noW noW (.slice none 0 0) (.slice none 0 0) (.slice none 0 0) (.slice none 0 0) (.slice none 0 0) 0 0 0 noW noW noW 0 (.slice none 0 0) (.slice none 0 0) false (-1)).all (·.oneCell') =true :=Bc (sl7 _ _ _ _ _ _ _ _ _ _ _ _ _ _ _ _ _ _ _ _ _)
 go_wp2_with (first
  | refine wpList_load_row rfl 39 _ rfl (w.heap.size+2) rfl 39 _ _ _ hS.s Tryz.underlying39 rfl Af ?_
  | refine wpList_store_row rfl 39 _ _ rfl (w.heap.size+1) _ rfl rfl 39 Ah hS.r Af rfl hone ?_)
 exact bodyPost_ret (v := .tuple #[.agg (sA 0 noW noW noW (.slice none 0 0) (.slice none 0 0) (.slice none 0 0) (.slice none 0 0) (.slice none 0 0) 0 0 0 noW noW noW 0 (.slice none 0 0) (.slice none 0 0) false (-1)), .bool false]) (Ay Tryz.results13 _ _ (w.heap.size+1) 39 _ _ _ _ rfl rfl (Am hS.r) Tryz.underlying39 rfl Af) rfl (A4 (ok :=false) hS (sl7 _ _ _ _ _ _ _ _ _ _ _ _ _ _ _ _ _ _ _ _ _) rfl)
end Go.Proofs.YtifjaegfpdjikaaGreatDoor

namespace Go.Proofs.YtifjaegfpdjikaaGreatDoor
open Go.RowKit
theorem Tg {M :List Wd} (h :M.length<3) :Jt M=none :=by
 match M,h with
 | [],_=>rfl
 | [_],_=>rfl
 | [_,_],_=>simp [Jt]
theorem Ym {t k :Wd} {m :List Wd} (hm :m≠ []) :Jt (t ::k ::m) =if nm t=true∧k=Ct then (Bt F5 (Bf m)).map fun rs=> {Bg 4 with table :=t,rows :=rs} else none :=by
 unfold Jt
 dsimp only
 by_cases h :nm t=true∧k=Ct
 ·rw [if_pos ⟨hm,h⟩,if_pos h]
 ·rw [if_neg (fun g=>h g.2),if_neg h]
set_option maxRecDepth 100000 in
set_option maxHeartbeats 4000000 in
theorem Kw (sl :Value) (L :List Wd) (M :List Wd) (hbad :M.length<3∨ ∃t k m,M=t ::k ::m∧m≠ [] ∧ ¬ (nm t=true∧k=Ct)) (w :World) (he :Env w) (hL :Ak w sl L) (hw :Whole L) (hk0 :L.take 2≠ [Au,A5]) (hk1 :L.take 2≠ [Au,B7]) (hk2 :L.take 2≠ [Cg,A5]) (hk3 :L.take 2= [Bv,E6]) (hrest :L.drop 2=M) :
  Calls Tryz.prog 13 #[sl] w (Cv (none) w) :=by
 have H0 :=Bz Ch he hL hw hk0 (Ai 0)
 have H1 :=Bz Dh he hL hw hk1 (Ai 0)
 have H2 :=Bz Gi he hL hw hk2 (Ai 0)
 have H3 :=D4 Hg he hL hw hk3 (Ai 0)
 rw [show (L.drop [Bv,E6].length) =M from hrest] at H3
 clear hk0 hk1 hk2 hk3 hrest hw
 have s1 :=Dj w sl
 have s0 :=Di w sl
 obtain ⟨a0,n0,cap0,rfl,hn0⟩ :=Ax hL
 clear hL hn0
 generalize hW0 : ((((w.alloc (.cells #[.slice a0 n0 cap0] 32)).alloc (.cells Ah 39)).alloc (.cells Ah 39)).setRow (w.heap.size+2) (Ai 0)) =W0 at s0
 have HW0 :Hid _ :=hW0
 clear hW0
 go_enter Tryz.func13,Tryz.ntmps13
 go_upto_region 2 with (refine wpList_store_row rfl 39 _ _ rfl (w.heap.size+2) (Ai 0) rfl rfl 39 Ah s1 Af rfl Fc ?_)
 rw [HW0.out,show w.heap.size+1+1=w.heap.size+2 from rfl]
 have hS :=s0
 clear s0 s1 HW0
 go_upto_region 33 with (first
   | (go_at_call 27;go_fit (H0 _ hS);clear hS;rintro e W ⟨rfl,hS⟩)
   | (go_at_call 27;go_fit (H1 _ hS);clear hS;rintro e W ⟨rfl,hS⟩)
   | (go_at_call 27;go_fit (H2 _ hS);clear hS;rintro e W ⟨rfl,hS⟩)
   | (go_at_call 27;go_fit (H3 _ hS);clear hS;rintro e W ⟨rfl,ao,n,c,hS,hl⟩;have c0 :W.cell? ⟨w.heap.size,0,none⟩ =some (.slice ao n c) :=Aa hS.l rfl))
 rcases hbad with h2 | ⟨t,k1,m,rfl,hm,hb⟩
 ·obtain ⟨ao3,n3,c3,hsl,hn1⟩ :=Ax hl
  cases hsl
  have q0 : (n :Int) <3 :=by omega
  clear hn1 hl
  have hone : (sA 0 noW noW noW (.slice none 0 0) (.slice none 0 0) (.slice none 0 0) (.slice none 0 0) (.slice none 0 0) 0 0 0 noW noW noW 0 (.slice none 0 0) (.slice none 0 0) false (-1)).all (·.oneCell') =true :=Bc (sl7 _ _ _ _ _ _ _ _ _ _ _ _ _ _ _ _ _ _ _ _ _)
  go_wp2_with (first
   | refine wpList_load_row rfl 39 _ rfl (w.heap.size+2) rfl 39 _ _ _ hS.s Tryz.underlying39 rfl Af ?_
   | refine wpList_store_row rfl 39 _ _ rfl (w.heap.size+1) _ rfl rfl 39 Ah hS.r Af rfl hone ?_)
  exact bodyPost_ret (v := .tuple #[.agg (sA 0 noW noW noW (.slice none 0 0) (.slice none 0 0) (.slice none 0 0) (.slice none 0 0) (.slice none 0 0) 0 0 0 noW noW noW 0 (.slice none 0 0) (.slice none 0 0) false (-1)), .bool false]) (Ay Tryz.results13 _ _ (w.heap.size+1) 39 _ _ _ _ rfl rfl (Am hS.r) Tryz.underlying39 rfl Af) rfl (A4 (ok :=false) hS (sl7 _ _ _ _ _ _ _ _ _ _ _ _ _ _ _ _ _ _ _ _ _) rfl)
 ·have hml :0<m.length :=by cases m with | nil=>exact absurd rfl hm | cons=>simp
  obtain ⟨b,off,cap,hsl,hcap,hcell⟩ :=A0 (hl.below hS.b) (by simp)
  cases hsl
  obtain ⟨hblw,hq1,hq2,hcw⟩ :=A7 hl (by simp)
  have KS :Hid (∀V,Below w.heap.size w V→V.cell? ⟨b,off,none⟩ =some (.string t) ∧V.cell? ⟨b,off+1,none⟩ =some (.string k1)) :=fun V h=> ⟨(h.cell (p := ⟨b,off,none⟩) hblw).trans (hcw 0 _ rfl),(h.cell (p := ⟨b,off+1,none⟩) hblw).trans (hcw 1 _ rfl)⟩
  have q0 : ¬ ((t ::k1 ::m).length :Int) <3 :=by simp only [List.length_cons];omega
  have q1 : (0 :Int) < ((t ::k1 ::m).length :Int) :=by simp only [List.length_cons];omega
  have q2 : (1 :Int) < ((t ::k1 ::m).length :Int) :=by simp only [List.length_cons];omega
  clear hcell hcw hq1 hq2 hcap hl hblw
  obtain ⟨x0,x1⟩ :=KS.out W hS.b
  generalize (t ::k1 ::m).length=nn at*
  by_cases hn :nm t=true
  ·have NM :=Da he hn W hS.b
   have hb1 : (k1.toList== [118,97,108,117,101,115]) =false :=by rw [An];simpa using fun e=>hb ⟨hn,e⟩
   go_upto_region 34 with (go_at_call 7;go_must (go_fit NM;rintro e W2 ⟨rfl,hb2⟩;have hS2 :=hS.next hb2;obtain ⟨x0,x1⟩ :=KS.out W2 hS2.b;have c3 :W2.cell? ⟨w.heap.size,0,none⟩ =some (.slice (some ⟨b,off,none⟩) nn c) :=Aa hS2.l rfl))
   have hone : (sA 0 noW noW noW (.slice none 0 0) (.slice none 0 0) (.slice none 0 0) (.slice none 0 0) (.slice none 0 0) 0 0 0 noW noW noW 0 (.slice none 0 0) (.slice none 0 0) false (-1)).all (·.oneCell') =true :=Bc (sl7 _ _ _ _ _ _ _ _ _ _ _ _ _ _ _ _ _ _ _ _ _)
   go_wp2_with (first
    | refine wpList_load_row rfl 39 _ rfl (w.heap.size+2) rfl 39 _ _ _ hS2.s Tryz.underlying39 rfl Af ?_
    | refine wpList_store_row rfl 39 _ _ rfl (w.heap.size+1) _ rfl rfl 39 Ah hS2.r Af rfl hone ?_)
   exact bodyPost_ret (v := .tuple #[.agg (sA 0 noW noW noW (.slice none 0 0) (.slice none 0 0) (.slice none 0 0) (.slice none 0 0) (.slice none 0 0) 0 0 0 noW noW noW 0 (.slice none 0 0) (.slice none 0 0) false (-1)), .bool false]) (Ay Tryz.results13 _ _ (w.heap.size+1) 39 _ _ _ _ rfl rfl (Am hS2.r) Tryz.underlying39 rfl Af) rfl (A4 (ok :=false) hS2 (sl7 _ _ _ _ _ _ _ _ _ _ _ _ _ _ _ _ _ _ _ _ _) rfl)
  ·have NM :=Da he (Bool.eq_false_iff.2 hn) W hS.b
   go_upto_region 34 with (go_at_call 7;go_must (go_fit NM;rintro e W2 ⟨rfl,hb2⟩;have hS2 :=hS.next hb2))
   have hone : (sA 0 noW noW noW (.slice none 0 0) (.slice none 0 0) (.slice none 0 0) (.slice none 0 0) (.slice none 0 0) 0 0 0 noW noW noW 0 (.slice none 0 0) (.slice none 0 0) false (-1)).all (·.oneCell') =true :=Bc (sl7 _ _ _ _ _ _ _ _ _ _ _ _ _ _ _ _ _ _ _ _ _)
   go_wp2_with (first
    | refine wpList_load_row rfl 39 _ rfl (w.heap.size+2) rfl 39 _ _ _ hS2.s Tryz.underlying39 rfl Af ?_
    | refine wpList_store_row rfl 39 _ _ rfl (w.heap.size+1) _ rfl rfl 39 Ah hS2.r Af rfl hone ?_)
   exact bodyPost_ret (v := .tuple #[.agg (sA 0 noW noW noW (.slice none 0 0) (.slice none 0 0) (.slice none 0 0) (.slice none 0 0) (.slice none 0 0) 0 0 0 noW noW noW 0 (.slice none 0 0) (.slice none 0 0) false (-1)), .bool false]) (Ay Tryz.results13 _ _ (w.heap.size+1) 39 _ _ _ _ rfl rfl (Am hS2.r) Tryz.underlying39 rfl Af) rfl (A4 (ok :=false) hS2 (sl7 _ _ _ _ _ _ _ _ _ _ _ _ _ _ _ _ _ _ _ _ _) rfl)
end Go.Proofs.YtifjaegfpdjikaaGreatDoor


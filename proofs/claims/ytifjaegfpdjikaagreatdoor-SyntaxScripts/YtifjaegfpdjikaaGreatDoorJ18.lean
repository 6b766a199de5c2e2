/-
  2 texts of this proof in one, in build order: RStmT1, RStep.
-/
import Derived.BigRegion
import Derived.Deep.Cut
import Derived.Deep.LoopGhost
import Derived.Deep.CutRange
import Derived.Deep.RegionHeld3
import Derived.Deep.RegionLaw
import Derived.Laws.AppendOwnNone
import Derived.Test.YtifjaegfpdjikaaGreatDoorJ17
set_option linter.unusedSimpArgs false
set_option linter.unusedVariables false
namespace Go.Proofs.YtifjaegfpdjikaaGreatDoor
open Go.RowKit
theorem Yj {m i :List Wd} (h :D3 m=some i) :i=Ez m :=by
 unfold D3 at h
 split at h
 ·cases h;rfl
 ·cases h
theorem Ux {a t :Wd} (h : ¬ (nm a=true∧ (t=Gl∨t=F2))) :Ew [a,t] =none :=if_neg h
theorem K6 {a t m :Wd} (h : ¬ (nm a=true∧ (t=Gl∨t=F2) ∧m=Ga)) :Ew [a,t,m] =none :=if_neg h
theorem Uy {P :List Wd} (h :P.length<2∨3<P.length) :Ew P=none :=by
 match P,h with
 | [],_=>rfl
 | [_],_=>rfl
 | [_,_],h=>simp at h
 | [_,_,_],h=>simp at h
 | _ ::_ ::_ ::_ ::_,_=>rfl
theorem Z1 {x :Wd} {Ls :List (List Wd)} {R :Option Stm} (hR : ((Bt Ew Ls).map fun cs=> {Bg 1 with name :=x,cols :=cs}) =R) {k :Nat} {P :List Wd} (hP :Ls[k]? =some P) (hc :Ew P=none) :R=none :=by
 rw [←hR,I0 hP hc];rfl
set_option maxRecDepth 100000 in
set_option maxHeartbeats 4000000 in
theorem O5 (sl :Value) (L :List Wd) (x :Wd) (m i :List Wd) (hn :nm x=true) (hml :m.length≤1600) (hwm :Whole m) (hin :D3 m=some i) (w :World) (he :Env w) (hL :Ak w sl L) (hw :Whole L) (hk0 :L.take 2= [Au,A5]) (hrest :L.drop 2= (x ::m)) :
  Calls Tryz.prog 13 #[sl] w (Cv ((Bt Ew (Bf i)).map fun cs=> {Bg 1 with name :=x,cols :=cs}) w) :=by
 have H0 :=D4 Ch he hL hw hk0 (Ai 0)
 rw [show (L.drop [Au,A5].length) = (x ::m) from hrest] at H0
 clear hk0 hrest hw
 generalize hRd : ((Bt Ew (Bf i)).map fun cs=> {Bg 1 with name :=x,cols :=cs}) =R
 have HRD :Hid _ :=hRd
 clear hRd
 have s1 :=Dj w sl
 have s0 :=Di w sl
 obtain ⟨a0,n0,cap0,rfl,hn0⟩ :=Ax hL
 clear hL hn0
 generalize hW0 : ((((w.alloc (.cells #[.slice a0 n0 cap0] 32)).alloc (.cells Ah 39)).alloc (.cells Ah 39)).setRow (w.heap.size+2) (Ai 0)) =W0 at s0
 have HW0 :Hid _ :=hW0
 clear hW0
 go_enter Tryz.func13,Tryz.ntmps13
 go_upto_region 2 with (refine wpList_store_row rfl 39 _ _ rfl (w.heap.size+2) (Ai 0) rfl rfl 39 Ah s1 Af rfl Fc ?_)
 rw [HW0.out,show w.heap.size+1+1=w.heap.size+2 from rfl]
 have hS :=s0
 clear s0 s1 HW0
 go_upto_region 7 with (first
   | (go_at_call 27;go_fit (H0 _ hS);clear hS;rintro e W ⟨rfl,ao,n,c,hS,hl⟩;have c0 :W.cell? ⟨w.heap.size,0,none⟩ =some (.slice ao n c) :=Aa hS.l rfl))
 obtain ⟨b,off,cap,hsl,hcap,hcell⟩ :=A0 (hl.below hS.b) (by simp)
 cases hsl
 have x0 :W.cell? ⟨b,off,none⟩ =some (.string x) :=hcell 0 _ rfl
 obtain ⟨hblw,hq1,hq2,hcw⟩ :=A7 hl (by simp)
 have KS :Hid (∀V,Below w.heap.size w V→V.cell? ⟨b,off,none⟩ =some (.string x)) :=fun V h=> (h.cell (p := ⟨b,off,none⟩) hblw).trans (hcw 0 _ rfl)
 have q0 : (((x ::m).length :Int) ==0) =false :=beq_eq_false_iff_ne.2 (by simp only [List.length_cons];omega)
 have q1 : (0 :Int) < ((x ::m).length :Int) :=by simp only [List.length_cons];omega
 have NM :=Da he hn W hS.b
 have HL1 :Hid (Ak w (.slice (some ⟨b,off,none⟩) (x ::m).length c) (x ::m)) :=hl
 have key :Hid _ :=Gz (b :=b) (off :=off) (cap :=c) (k :=1) (L :=x ::m) (by omega) (by simp)
 have q2 : (1 :Int) ≤ ((x ::m).length :Int) :=by simp only [List.length_cons];omega
 have q3 :0< (x ::m).length :=by simp
 have hbne :b≠w.heap.size+2 :=by omega
 clear hcell hcw hq1 hq2 hcap hl
 generalize hnn : (x ::m).length=nn at*
 go_upto_region 9 with (go_at_call 7;go_must (go_fit NM;rintro e W1 ⟨rfl,hb1⟩;have hS1 :=hS.next hb1))
 have c1 :W1.cell? ⟨w.heap.size,0,none⟩ =some (.slice (some ⟨b,off,none⟩) nn c) :=Aa hS1.l rfl
 have x1 :=KS.out W1 hS1.b
 have s0 :W1.cell? ⟨w.heap.size+2,0,none⟩ =some (.int .i64 0) :=Aa hS1.s rfl
 have s1 :W1.cell? ⟨w.heap.size+2,1,none⟩ =some (.string noW) :=Aa hS1.s rfl
 have f0 :=Ab hS1.s 0
 have f1 :=Ab hS1.s 1
 go_region
 have hS2 := (((hS1).set 0 (.int .i64 1)).set 1 (.string x)).drew
 simp only [List.setIfInBounds_toArray,List.set_cons_zero,List.set_cons_succ] at hS2
 clear c1 x1 s0 s1 f0 f1 NM c0 x0 hS hb1
 generalize ((W1.setCell ⟨w.heap.size+2,0,none⟩ (.int .i64 1)).setCell ⟨w.heap.size+2,1,none⟩ (.string x)).drew=W2 at hS2⊢
 clear hS1 KS
 have c2 :W2.cell? ⟨w.heap.size,0,none⟩ =some (.slice (some ⟨b,off,none⟩) nn c) :=Aa hS2.l rfl
 have IN :=fun v (h :Ak W2 v m) =>M7 v m W2 hml h
 rw [hin] at IN
 have hsz2 :=hS2.size
 go_upto_region 10 with fail
 go_cut [8,9] from 65 to 70 (fun s8 s9 wx=> ∃ao n c',s8= .slice ao n c'∧s9= .bool true∧Ak w (.slice ao n c') i∧i.length≤1600∧S3 w wx (.slice (some ⟨b,off,none⟩) nn c) (sA 1 x noW noW (.slice none 0 0) (.slice none 0 0) (.slice none 0 0) (.slice none 0 0) (.slice none 0 0) 0 0 0 noW noW noW 0 (.slice none 0 0) (.slice none 0 0) false (-1)))
 case first=>
  subst hnn
  have key2 :=key.out
  rcases key2 with ⟨rfl,hdr⟩ | ⟨hcc,hdr⟩
  all_goals
   have IN2 :=IN _ (hdr W2 (HL1.out.below hS2.b))
   have HD :Hid _ :=hdr w HL1.out
   have HM :Hid _ :=hml
   clear hdr IN key HL1 hin hml
   generalize (x ::m).length=nn at*
   go_wp2_with (go_at_call 33;go_must (go_fit IN2;rintro e W3 ⟨ao3,n3,c3,ok3,rfl,hok,hb3⟩;have hS3 :=hS2.next hb3;obtain rfl :ok3=true := (by cases ok3 with | true=>rfl | false=>simp at hok);simp only [if_true] at hok;have HOK :Hid _ :=hok;clear hok))
   go_meet
   case rel=>
    obtain ⟨e1,e2⟩ :=HOK.out
    cases e1
    exact ⟨_,_,_,rfl,rfl,e2 w HD.out,by have :=HM.out;simp [Ez];omega,hS3⟩
 case rest=>
  obtain ⟨ao,n,c',rfl,rfl,hi,hil,hS3⟩ :=hcut
  clear hS2 IN key HL1 c2 hbne q0 q1 q2 q3 hblw
  obtain ⟨W3,hW3⟩ : ∃V,V=wc := ⟨_,rfl⟩
  subst hW3
  have PB :=Ii (.slice ao n c') i w W3 hil hi hS3.b
  have hpl :=Ij i
  have HWI :Hid (∀P∈Bf i,Whole P∧P.length≤1600) :=fun P hP=>by
   have hwi :Whole i :=by
    rw [Yj hin];exact (hwm.drop 1).take _
   have h :=Hh hwi P hP
   exact ⟨h.1,by omega⟩
  clear hin hwm hml hi
  generalize Bf i=Ls at*
  go_wp2_with (go_at_call 34;go_must (go_fit PB;rintro e W4 ⟨sv,vs,rfl,hrow,hparts,hb4⟩;have hS4 :=hS3.next hb4;have hsz3 :=hS3.size;obtain ⟨aop,cp,rfl⟩ :=hrow.shape))
  have hG0 :E5 Iy 52 (w.heap.size+3) (Side.row 1 (.slice aop Ls.length cp) Ls.length vs) W4 (.slice none 0 0) [] :=E5.nil (hrow.mono fun k _ hk=>Nat.le_trans hsz3 hk)
  clear PB hrow hb4 hS3 hsz3
  go_loopg [77] Ls.length (fun f ix wr=> ∃ (k :Nat) (acc :List ColD) (z :Value),ix= .int .i64 k∧k+f=Ls.length∧S3 w wr (.slice (some ⟨b,off,none⟩) nn c) (sA 1 x noW noW z (.slice none 0 0) (.slice none 0 0) (.slice none 0 0) (.slice none 0 0) 0 0 0 noW noW noW 0 (.slice none 0 0) (.slice none 0 0) false (-1)) ∧E5 Iy 52 (w.heap.size+3) (Side.row 1 (.slice aop Ls.length cp) Ls.length vs) wr z acc∧Hid (Bt Ew (Ls.take k) =some acc∧acc.length=k))
  case atStart=>exact ⟨0,[],_,rfl,by simp,hS4,hG0,rfl,rfl⟩
  case round=>
   clear hG0 hS4
   obtain ⟨k,acc,z,rfl,hkf,hS,hG,HA⟩ :=hrel
   obtain ⟨az,cz,hz⟩ :=hG.isL.shape
   subst hz
   by_cases hlt :k<Ls.length
   ·obtain ⟨P,hP⟩ : ∃P,Ls[k]? =some P := ⟨_,List.getElem?_eq_getElem hlt⟩
    obtain ⟨v,hv,hvP⟩ :=H8 hparts hP
    obtain ⟨br,or',hceq,hcv⟩ : ∃br or',aop=some ⟨br,or',none⟩ ∧wr.cell? ⟨br,or'+k,none⟩ =some v :=by
     rcases (hG.side).2 with ⟨h0,_⟩ | ⟨_,b',o',c',he',_,_,_,_,hc⟩
     ·omega
     ·cases he';exact ⟨b',o',rfl,hc k v hv⟩
    subst hceq
    have hwP := (HWI.out P (List.mem_of_getElem? hP)).1
    have HBAD :Hid (Ew P=none→R=none) :=fun h=>Z1 HRD.out hP h
    obtain ⟨av,nv,cv,rfl,hnv⟩ :=Ax hvP
    have j1 : (k :Int) < (Ls.length :Int) :=by omega
    have j0 : (0 :Int) ≤ (k :Int) :=by omega
    have HNXT :Hid (∀y,Ew P=some y→Bt Ew (Ls.take (k+1)) =some (acc++ [y])) :=fun y hy=>by rw [H9 hP,HA.out.1,hy];rfl
    have HACC :Hid (acc.length=k) :=HA.out.2
    have hLs :Ls.length≤1601 :=by omega
    have hab :acc.length≤1601 :=by have :=HA.out.2;omega
    clear hv hP hparts HRD HA HWI
    by_cases hl2 :P.length<2
    ·have j2 : (nv :Int) <2 :=by omega
     have HB :Hid (R=none) :=HBAD.out (Uy (.inl hl2))
     clear hnv hvP hl2 HBAD HNXT hwP
     have hone : (sA 1 x noW noW (.slice az acc.length cz) (.slice none 0 0) (.slice none 0 0) (.slice none 0 0) (.slice none 0 0) 0 0 0 noW noW noW 0 (.slice none 0 0) (.slice none 0 0) false (-1)).all (·.oneCell') =true :=Bc (sl7 _ _ _ _ _ _ _ _ _ _ _ _ _ _ _ _ _ _ _ _ _)
     go_wp2_with (first
      | refine wpList_load_row rfl 39 _ rfl (w.heap.size+2) rfl 39 _ _ _ hS.s Tryz.underlying39 rfl Af ?_
      | refine wpList_store_row rfl 39 _ _ rfl (w.heap.size+1) _ rfl rfl 39 Ah hS.r Af rfl hone ?_)
     exact bodyPost_ret (v := .tuple #[.agg (sA 1 x noW noW (.slice az acc.length cz) (.slice none 0 0) (.slice none 0 0) (.slice none 0 0) (.slice none 0 0) 0 0 0 noW noW noW 0 (.slice none 0 0) (.slice none 0 0) false (-1)), .bool false]) (Ay Tryz.results13 _ _ (w.heap.size+1) 39 _ _ _ _ rfl rfl (Am hS.r) Tryz.underlying39 rfl Af) rfl (A4 (ok :=false) hS (sl7 _ _ _ _ _ _ _ _ _ _ _ _ _ _ _ _ _ _ _ _ _) HB.out)
    by_cases hl3 :3<P.length
    ·have j2 : ¬ (nv :Int) <2 :=by omega
     have j3 : (3 :Int) < (nv :Int) :=by omega
     have HB :Hid (R=none) :=HBAD.out (Uy (.inr hl3))
     clear hnv hvP hl2 hl3 HBAD HNXT hwP
     have hone : (sA 1 x noW noW (.slice az acc.length cz) (.slice none 0 0) (.slice none 0 0) (.slice none 0 0) (.slice none 0 0) 0 0 0 noW noW noW 0 (.slice none 0 0) (.slice none 0 0) false (-1)).all (·.oneCell') =true :=Bc (sl7 _ _ _ _ _ _ _ _ _ _ _ _ _ _ _ _ _ _ _ _ _)
     go_wp2_with (first
      | refine wpList_load_row rfl 39 _ rfl (w.heap.size+2) rfl 39 _ _ _ hS.s Tryz.underlying39 rfl Af ?_
      | refine wpList_store_row rfl 39 _ _ rfl (w.heap.size+1) _ rfl rfl 39 Ah hS.r Af rfl hone ?_)
     exact bodyPost_ret (v := .tuple #[.agg (sA 1 x noW noW (.slice az acc.length cz) (.slice none 0 0) (.slice none 0 0) (.slice none 0 0) (.slice none 0 0) 0 0 0 noW noW noW 0 (.slice none 0 0) (.slice none 0 0) false (-1)), .bool false]) (Ay Tryz.results13 _ _ (w.heap.size+1) 39 _ _ _ _ rfl rfl (Am hS.r) Tryz.underlying39 rfl Af) rfl (A4 (ok :=false) hS (sl7 _ _ _ _ _ _ _ _ _ _ _ _ _ _ _ _ _ _ _ _ _) HB.out)
    have hS' :=hS
    obtain ⟨b2,o2,hveq,hcw⟩ : ∃b2 o2,av=some ⟨b2,o2,none⟩ ∧ ∀V,Below w.heap.size w V→ ∀j y,P[j]? =some y→V.cell? ⟨b2,o2+j,none⟩ =some (.string y) :=by
     obtain ⟨b',o',c',h1,_,_⟩ :=A0 hvP (by omega)
     cases h1
     obtain ⟨g1,_,_,g2⟩ :=A7 hvP (by omega)
     exact ⟨b',o',rfl,fun V h j y hj=> (h.cell (p := ⟨b',o'+j,none⟩) g1).trans (g2 j y hj)⟩
    subst hveq
    have HCW :Hid _ :=hcw
    clear hcw hvP
    have hshape : (∃a t,P= [a,t]) ∨ (∃a t mm,P= [a,t,mm]) :=by
     match P,hl2,hl3 with
     | [a,t],_,_=>exact .inl ⟨a,t,rfl⟩
     | [a,t,mm],_,_=>exact .inr ⟨a,t,mm,rfl⟩
     | [],h,_=>exact absurd h (by simp)
     | [_],h,_=>exact absurd h (by simp)
     | _ ::_ ::_ ::_ ::_,_,h=>exact absurd (show 3<_ by simp) h
    clear hl2 hl3
    rcases hshape with ⟨a,t,rfl⟩ | ⟨a,t,mm,rfl⟩
    ·simp only [List.length_cons,List.length_nil,Nat.zero_add,Nat.reduceAdd] at hnv
     subst hnv
     by_cases hna :nm a=true
     ·have NM :=Da he hna
      by_cases hti :t=Gl
      ·have ht1 : (t.toList== [105,110,116]) =true :=by rw [An];simpa using hti
       have ht2 : (t.toList== [116,101,120,116]) =false :=by rw [An,hti];decide
       have HC :Hid (Ew [a,t] =some ⟨a,1,false⟩) :=by show Ew _=_;rw [Ew,if_pos ⟨hna, .inl hti⟩];simp [hti]
       have y0 :=HCW.out wr hS.b 0 a rfl
       have y1 :=HCW.out wr hS.b 1 t rfl
       simp only [Nat.add_zero] at y0
       go_upto_region 22 with (go_at_call 7;go_fit (NM _ hS.b);rintro e W ⟨rfl,hb⟩;have hS :=hS.next hb;have hG :=hG.below hb;have y0 :=HCW.out W hS.b 0 a rfl;have y1 :=HCW.out W hS.b 1 t rfl;simp only [Nat.add_zero] at y0;have y1a : ∀o,(W.alloc o).cell? ⟨b2,o2+1,none⟩ =some (.string t) :=fun o=>HCW.out _ (hS.b.alloc hS.b.size o) 1 t rfl)
       have hbV :Below W.heap.size W (W.alloc (.cells #[.string a, .int .i64 1, .bool false] 52)) := (Below.refl _ _).alloc (Nat.le_refl _) _
       have bC : (W.alloc (.cells #[.string a, .int .i64 1, .bool false] 52)).heap[W.heap.size]? =some (.cells #[.string a, .int .i64 1, .bool false] 52) :=Ad W _
       have hSV :=hS.next hbV
       have hGV :=hG.below hbV
       generalize hV :W.alloc (.cells #[.string a, .int .i64 1, .bool false] 52) =V at*
       clear hV hbV hS' NM
       generalize W.heap.size=pc at*
       have m0 :V.cell? ⟨pc,0,none⟩ =some (.string a) :=Aa bC rfl
       have m1 :V.cell? ⟨pc,1,none⟩ =some (.int .i64 1) :=Aa bC rfl
       have m2 :V.cell? ⟨pc,2,none⟩ =some (.bool false) :=Aa bC rfl
       have s4 :V.cell? ⟨w.heap.size+2,4,none⟩ =some (.slice az acc.length cz) :=Aa hSV.s rfl
       obtain ⟨cs,hown,hall,hside⟩ :=hGV.below ((Below.refl _ _).alloc (Nat.le_refl _) (.cells [.string a, .int .i64 1, .bool false].toArray 52))
       have hnew :=B2 V [.string a, .int .i64 1, .bool false] 52
       have hbase :w.heap.size+3≤ (V.alloc (.cells [.string a, .int .i64 1, .bool false].toArray 52)).heap.size :=Nat.le_trans hSV.size (by simp)
       have HALL :Hid _ :=hall
       have HSIDE :Hid _ :=hside
       obtain ⟨i0,hi,hz0,hz1,hz2⟩ :=info_parts Kp
       clear hall hside hGV hG hS
       go_wp2_with (at_builtin;refine wpList_append_own_at _ rfl _ _ 29 rfl (w.heap.size+3) 52 i0 (.agg #[.string ⟨#[]⟩, .int .i64 0, .bool false]) 3 32 Tryz.underlying29 hi hz0 hz1 hz2 rfl (by decide) _ _ _ rfl hown ⟨V.heap.size,0,none⟩ 1 1 [.string a, .int .i64 1, .bool false] rfl rfl hnew ?h1 (by simp only [maxLen];omega) (by omega) hbase ?h2)
       case h1=>simp only [List.forall_mem_cons];repeat (first | exact fun _ h=>absurd h List.not_mem_nil | refine ⟨rfl, ?_⟩)
       case h2=>
        intro z2 w4 hown4 hg4 _ hat
        have hS4 := (hSV.alloc _).low (Bn hown hbase hg4)
        have hG4 :=E5.add (x := (⟨a,1,false⟩ :ColD)) HALL.out HSIDE.out rfl hown4 hg4 (by rw [World.size_alloc];exact hat)
        obtain ⟨az2,cz2,hz⟩ :=hG4.isL.shape
        rw [List.length_append,List.length_singleton] at hz
        subst hz
        have s4 :w4.cell? ⟨w.heap.size+2,4,none⟩ =some (.slice az acc.length cz) :=Aa hS4.s rfl
        have f4 :=Ab hS4.s 4
        have hS5 :=hS4.set 4 (.slice az2 (acc.length+1) cz2)
        simp only [List.setIfInBounds_toArray,List.set_cons_zero,List.set_cons_succ] at hS5
        have hG5 :=hG4.set (show w.heap.size+2<w.heap.size+3 by omega) 4 (.slice az2 (acc.length+1) cz2)
        clear hown4 hg4 hat hown hnew HALL HSIDE hG4
        go_wp2_with fail
        go_roundg (gk - 1)
        case measure=>omega
        case rel=>exact ⟨k+1,_,_,by go_num,by omega,hS5,hG5,HNXT.out _ HC.out,by rw [List.length_append,HACC.out];rfl⟩
      have ht1 : (t.toList== [105,110,116]) =false :=by rw [An];simpa using hti
      by_cases htt :t=F2
      ·have ht2 : (t.toList== [116,101,120,116]) =true :=by rw [An];simpa using htt
       have HC :Hid (Ew [a,t] =some ⟨a,2,false⟩) :=by show Ew _=_;rw [Ew,if_pos ⟨hna, .inr htt⟩];simp [htt]
       have y0 :=HCW.out wr hS.b 0 a rfl
       have y1 :=HCW.out wr hS.b 1 t rfl
       simp only [Nat.add_zero] at y0
       go_upto_region 22 with (go_at_call 7;go_fit (NM _ hS.b);rintro e W ⟨rfl,hb⟩;have hS :=hS.next hb;have hG :=hG.below hb;have y0 :=HCW.out W hS.b 0 a rfl;have y1 :=HCW.out W hS.b 1 t rfl;simp only [Nat.add_zero] at y0;have y1a : ∀o,(W.alloc o).cell? ⟨b2,o2+1,none⟩ =some (.string t) :=fun o=>HCW.out _ (hS.b.alloc hS.b.size o) 1 t rfl)
       have hbV :Below W.heap.size W (W.alloc (.cells #[.string a, .int .i64 2, .bool false] 52)) := (Below.refl _ _).alloc (Nat.le_refl _) _
       have bC : (W.alloc (.cells #[.string a, .int .i64 2, .bool false] 52)).heap[W.heap.size]? =some (.cells #[.string a, .int .i64 2, .bool false] 52) :=Ad W _
       have hSV :=hS.next hbV
       have hGV :=hG.below hbV
       generalize hV :W.alloc (.cells #[.string a, .int .i64 2, .bool false] 52) =V at*
       clear hV hbV hS' NM
       generalize W.heap.size=pc at*
       have m0 :V.cell? ⟨pc,0,none⟩ =some (.string a) :=Aa bC rfl
       have m1 :V.cell? ⟨pc,1,none⟩ =some (.int .i64 2) :=Aa bC rfl
       have m2 :V.cell? ⟨pc,2,none⟩ =some (.bool false) :=Aa bC rfl
       have s4 :V.cell? ⟨w.heap.size+2,4,none⟩ =some (.slice az acc.length cz) :=Aa hSV.s rfl
       obtain ⟨cs,hown,hall,hside⟩ :=hGV.below ((Below.refl _ _).alloc (Nat.le_refl _) (.cells [.string a, .int .i64 2, .bool false].toArray 52))
       have hnew :=B2 V [.string a, .int .i64 2, .bool false] 52
       have hbase :w.heap.size+3≤ (V.alloc (.cells [.string a, .int .i64 2, .bool false].toArray 52)).heap.size :=Nat.le_trans hSV.size (by simp)
       have HALL :Hid _ :=hall
       have HSIDE :Hid _ :=hside
       obtain ⟨i0,hi,hz0,hz1,hz2⟩ :=info_parts Kp
       clear hall hside hGV hG hS
       go_wp2_with (at_builtin;refine wpList_append_own_at _ rfl _ _ 29 rfl (w.heap.size+3) 52 i0 (.agg #[.string ⟨#[]⟩, .int .i64 0, .bool false]) 3 32 Tryz.underlying29 hi hz0 hz1 hz2 rfl (by decide) _ _ _ rfl hown ⟨V.heap.size,0,none⟩ 1 1 [.string a, .int .i64 2, .bool false] rfl rfl hnew ?h1 (by simp only [maxLen];omega) (by omega) hbase ?h2)
       case h1=>simp only [List.forall_mem_cons];repeat (first | exact fun _ h=>absurd h List.not_mem_nil | refine ⟨rfl, ?_⟩)
       case h2=>
        intro z2 w4 hown4 hg4 _ hat
        have hS4 := (hSV.alloc _).low (Bn hown hbase hg4)
        have hG4 :=E5.add (x := (⟨a,2,false⟩ :ColD)) HALL.out HSIDE.out rfl hown4 hg4 (by rw [World.size_alloc];exact hat)
        obtain ⟨az2,cz2,hz⟩ :=hG4.isL.shape
        rw [List.length_append,List.length_singleton] at hz
        subst hz
        have s4 :w4.cell? ⟨w.heap.size+2,4,none⟩ =some (.slice az acc.length cz) :=Aa hS4.s rfl
        have f4 :=Ab hS4.s 4
        have hS5 :=hS4.set 4 (.slice az2 (acc.length+1) cz2)
        simp only [List.setIfInBounds_toArray,List.set_cons_zero,List.set_cons_succ] at hS5
        have hG5 :=hG4.set (show w.heap.size+2<w.heap.size+3 by omega) 4 (.slice az2 (acc.length+1) cz2)
        clear hown4 hg4 hat hown hnew HALL HSIDE hG4
        go_wp2_with fail
        go_roundg (gk - 1)
        case measure=>omega
        case rel=>exact ⟨k+1,_,_,by go_num,by omega,hS5,hG5,HNXT.out _ HC.out,by rw [List.length_append,HACC.out];rfl⟩
      have ht2 : (t.toList== [116,101,120,116]) =false :=by rw [An];simpa using htt
      have HB :Hid (R=none) :=HBAD.out (Ux (fun h=>h.2.elim hti htt))
      have y0 :=HCW.out wr hS.b 0 a rfl
      have y1 :=HCW.out wr hS.b 1 t rfl
      simp only [Nat.add_zero] at y0
      clear HBAD HNXT
      have hone : (sA 1 x noW noW (.slice az acc.length cz) (.slice none 0 0) (.slice none 0 0) (.slice none 0 0) (.slice none 0 0) 0 0 0 noW noW noW 0 (.slice none 0 0) (.slice none 0 0) false (-1)).all (·.oneCell') =true :=Bc (sl7 _ _ _ _ _ _ _ _ _ _ _ _ _ _ _ _ _ _ _ _ _)
      go_wp2_with (first
       | (go_at_call 7;go_fit (NM _ hS.b);rintro e W ⟨rfl,hb⟩;have hS :=hS.next hb;have hG :=hG.below hb;have y0 :=HCW.out W hS.b 0 a rfl;have y1 :=HCW.out W hS.b 1 t rfl;simp only [Nat.add_zero] at y0;have y1a : ∀o,(W.alloc o).cell? ⟨b2,o2+1,none⟩ =some (.string t) :=fun o=>HCW.out _ (hS.b.alloc hS.b.size o) 1 t rfl)
       | refine wpList_load_row rfl 39 _ rfl (w.heap.size+2) rfl 39 _ _ _ hS.s Tryz.underlying39 rfl Af ?_
       | refine wpList_store_row rfl 39 _ _ rfl (w.heap.size+1) _ rfl rfl 39 Ah hS.r Af rfl hone ?_)
      exact bodyPost_ret (v := .tuple #[.agg (sA 1 x noW noW (.slice az acc.length cz) (.slice none 0 0) (.slice none 0 0) (.slice none 0 0) (.slice none 0 0) 0 0 0 noW noW noW 0 (.slice none 0 0) (.slice none 0 0) false (-1)), .bool false]) (Ay Tryz.results13 _ _ (w.heap.size+1) 39 _ _ _ _ rfl rfl (Am hS.r) Tryz.underlying39 rfl Af) rfl (A4 (ok :=false) hS (sl7 _ _ _ _ _ _ _ _ _ _ _ _ _ _ _ _ _ _ _ _ _) HB.out)
     ·have NM :=Da he (Bool.eq_false_iff.2 hna)
      have HB :Hid (R=none) :=HBAD.out (Ux (fun h=>hna h.1))
      have y0 :=HCW.out wr hS.b 0 a rfl
      have y1 :=HCW.out wr hS.b 1 t rfl
      simp only [Nat.add_zero] at y0
      clear HBAD HNXT
      have hone : (sA 1 x noW noW (.slice az acc.length cz) (.slice none 0 0) (.slice none 0 0) (.slice none 0 0) (.slice none 0 0) 0 0 0 noW noW noW 0 (.slice none 0 0) (.slice none 0 0) false (-1)).all (·.oneCell') =true :=Bc (sl7 _ _ _ _ _ _ _ _ _ _ _ _ _ _ _ _ _ _ _ _ _)
      go_wp2_with (first
       | (go_at_call 7;go_fit (NM _ hS.b);rintro e W ⟨rfl,hb⟩;have hS :=hS.next hb;have hG :=hG.below hb;have y0 :=HCW.out W hS.b 0 a rfl;have y1 :=HCW.out W hS.b 1 t rfl;simp only [Nat.add_zero] at y0;have y1a : ∀o,(W.alloc o).cell? ⟨b2,o2+1,none⟩ =some (.string t) :=fun o=>HCW.out _ (hS.b.alloc hS.b.size o) 1 t rfl)
       | refine wpList_load_row rfl 39 _ rfl (w.heap.size+2) rfl 39 _ _ _ hS.s Tryz.underlying39 rfl Af ?_
       | refine wpList_store_row rfl 39 _ _ rfl (w.heap.size+1) _ rfl rfl 39 Ah hS.r Af rfl hone ?_)
      exact bodyPost_ret (v := .tuple #[.agg (sA 1 x noW noW (.slice az acc.length cz) (.slice none 0 0) (.slice none 0 0) (.slice none 0 0) (.slice none 0 0) 0 0 0 noW noW noW 0 (.slice none 0 0) (.slice none 0 0) false (-1)), .bool false]) (Ay Tryz.results13 _ _ (w.heap.size+1) 39 _ _ _ _ rfl rfl (Am hS.r) Tryz.underlying39 rfl Af) rfl (A4 (ok :=false) hS (sl7 _ _ _ _ _ _ _ _ _ _ _ _ _ _ _ _ _ _ _ _ _) HB.out)
    ·simp only [List.length_cons,List.length_nil,Nat.zero_add,Nat.reduceAdd] at hnv
     subst hnv
     by_cases hna :nm a=true
     ·have NM :=Da he hna
      by_cases hti :t=Gl
      ·have ht1 : (t.toList== [105,110,116]) =true :=by rw [An];simpa using hti
       have ht2 : (t.toList== [116,101,120,116]) =false :=by rw [An,hti];decide
       by_cases hmu :mm=Ga
       ·have hm1 : (mm.toList== [109,117,115,116]) =true :=by rw [An];simpa using hmu
        have HC :Hid (Ew [a,t,mm] =some ⟨a,1,true⟩) :=by show Ew _=_;rw [Ew,if_pos ⟨hna, .inl hti,hmu⟩];simp [hti]
        have y0 :=HCW.out wr hS.b 0 a rfl
        have y1 :=HCW.out wr hS.b 1 t rfl
        have y2 :=HCW.out wr hS.b 2 mm rfl
        simp only [Nat.add_zero] at y0
        go_upto_region 22 with (go_at_call 7;go_fit (NM _ hS.b);rintro e W ⟨rfl,hb⟩;have hS :=hS.next hb;have hG :=hG.below hb;have y0 :=HCW.out W hS.b 0 a rfl;have y1 :=HCW.out W hS.b 1 t rfl;have y2 :=HCW.out W hS.b 2 mm rfl;simp only [Nat.add_zero] at y0;have y1a : ∀o,(W.alloc o).cell? ⟨b2,o2+1,none⟩ =some (.string t) :=fun o=>HCW.out _ (hS.b.alloc hS.b.size o) 1 t rfl)
        have hbV :Below W.heap.size W (W.alloc (.cells #[.string a, .int .i64 1, .bool true] 52)) := (Below.refl _ _).alloc (Nat.le_refl _) _
        have bC : (W.alloc (.cells #[.string a, .int .i64 1, .bool true] 52)).heap[W.heap.size]? =some (.cells #[.string a, .int .i64 1, .bool true] 52) :=Ad W _
        have hSV :=hS.next hbV
        have hGV :=hG.below hbV
        generalize hV :W.alloc (.cells #[.string a, .int .i64 1, .bool true] 52) =V at*
        clear hV hbV hS' NM
        generalize W.heap.size=pc at*
        have m0 :V.cell? ⟨pc,0,none⟩ =some (.string a) :=Aa bC rfl
        have m1 :V.cell? ⟨pc,1,none⟩ =some (.int .i64 1) :=Aa bC rfl
        have m2 :V.cell? ⟨pc,2,none⟩ =some (.bool true) :=Aa bC rfl
        have s4 :V.cell? ⟨w.heap.size+2,4,none⟩ =some (.slice az acc.length cz) :=Aa hSV.s rfl
        obtain ⟨cs,hown,hall,hside⟩ :=hGV.below ((Below.refl _ _).alloc (Nat.le_refl _) (.cells [.string a, .int .i64 1, .bool true].toArray 52))
        have hnew :=B2 V [.string a, .int .i64 1, .bool true] 52
        have hbase :w.heap.size+3≤ (V.alloc (.cells [.string a, .int .i64 1, .bool true].toArray 52)).heap.size :=Nat.le_trans hSV.size (by simp)
        have HALL :Hid _ :=hall
        have HSIDE :Hid _ :=hside
        obtain ⟨i0,hi,hz0,hz1,hz2⟩ :=info_parts Kp
        clear hall hside hGV hG hS
        go_wp2_with (at_builtin;refine wpList_append_own_at _ rfl _ _ 29 rfl (w.heap.size+3) 52 i0 (.agg #[.string ⟨#[]⟩, .int .i64 0, .bool false]) 3 32 Tryz.underlying29 hi hz0 hz1 hz2 rfl (by decide) _ _ _ rfl hown ⟨V.heap.size,0,none⟩ 1 1 [.string a, .int .i64 1, .bool true] rfl rfl hnew ?h1 (by simp only [maxLen];omega) (by omega) hbase ?h2)
        case h1=>simp only [List.forall_mem_cons];repeat (first | exact fun _ h=>absurd h List.not_mem_nil | refine ⟨rfl, ?_⟩)
        case h2=>
         intro z2 w4 hown4 hg4 _ hat
         have hS4 := (hSV.alloc _).low (Bn hown hbase hg4)
         have hG4 :=E5.add (x := (⟨a,1,true⟩ :ColD)) HALL.out HSIDE.out rfl hown4 hg4 (by rw [World.size_alloc];exact hat)
         obtain ⟨az2,cz2,hz⟩ :=hG4.isL.shape
         rw [List.length_append,List.length_singleton] at hz
         subst hz
         have s4 :w4.cell? ⟨w.heap.size+2,4,none⟩ =some (.slice az acc.length cz) :=Aa hS4.s rfl
         have f4 :=Ab hS4.s 4
         have hS5 :=hS4.set 4 (.slice az2 (acc.length+1) cz2)
         simp only [List.setIfInBounds_toArray,List.set_cons_zero,List.set_cons_succ] at hS5
         have hG5 :=hG4.set (show w.heap.size+2<w.heap.size+3 by omega) 4 (.slice az2 (acc.length+1) cz2)
         clear hown4 hg4 hat hown hnew HALL HSIDE hG4
         go_wp2_with fail
         go_roundg (gk - 1)
         case measure=>omega
         case rel=>exact ⟨k+1,_,_,by go_num,by omega,hS5,hG5,HNXT.out _ HC.out,by rw [List.length_append,HACC.out];rfl⟩
       ·have hm1 : (mm.toList== [109,117,115,116]) =false :=by rw [An];simpa using hmu
        have HB :Hid (R=none) :=HBAD.out (K6 (fun h=>hmu h.2.2))
        have y0 :=HCW.out wr hS.b 0 a rfl
        have y1 :=HCW.out wr hS.b 1 t rfl
        have y2 :=HCW.out wr hS.b 2 mm rfl
        simp only [Nat.add_zero] at y0
        clear HBAD HNXT
        have hone : (sA 1 x noW noW (.slice az acc.length cz) (.slice none 0 0) (.slice none 0 0) (.slice none 0 0) (.slice none 0 0) 0 0 0 noW noW noW 0 (.slice none 0 0) (.slice none 0 0) false (-1)).all (·.oneCell') =true :=Bc (sl7 _ _ _ _ _ _ _ _ _ _ _ _ _ _ _ _ _ _ _ _ _)
        go_wp2_with (first
         | (go_at_call 7;go_fit (NM _ hS.b);rintro e W ⟨rfl,hb⟩;have hS :=hS.next hb;have hG :=hG.below hb;have y0 :=HCW.out W hS.b 0 a rfl;have y1 :=HCW.out W hS.b 1 t rfl;have y2 :=HCW.out W hS.b 2 mm rfl;simp only [Nat.add_zero] at y0;have y1a : ∀o,(W.alloc o).cell? ⟨b2,o2+1,none⟩ =some (.string t) :=fun o=>HCW.out _ (hS.b.alloc hS.b.size o) 1 t rfl)
         | refine wpList_load_row rfl 39 _ rfl (w.heap.size+2) rfl 39 _ _ _ hS.s Tryz.underlying39 rfl Af ?_
         | refine wpList_store_row rfl 39 _ _ rfl (w.heap.size+1) _ rfl rfl 39 Ah hS.r Af rfl hone ?_)
        exact bodyPost_ret (v := .tuple #[.agg (sA 1 x noW noW (.slice az acc.length cz) (.slice none 0 0) (.slice none 0 0) (.slice none 0 0) (.slice none 0 0) 0 0 0 noW noW noW 0 (.slice none 0 0) (.slice none 0 0) false (-1)), .bool false]) (Ay Tryz.results13 _ _ (w.heap.size+1) 39 _ _ _ _ rfl rfl (Am hS.r) Tryz.underlying39 rfl Af) rfl (A4 (ok :=false) hS (sl7 _ _ _ _ _ _ _ _ _ _ _ _ _ _ _ _ _ _ _ _ _) HB.out)
      have ht1 : (t.toList== [105,110,116]) =false :=by rw [An];simpa using hti
      by_cases htt :t=F2
      ·have ht2 : (t.toList== [116,101,120,116]) =true :=by rw [An];simpa using htt
       by_cases hmu :mm=Ga
       ·have hm1 : (mm.toList== [109,117,115,116]) =true :=by rw [An];simpa using hmu
        have HC :Hid (Ew [a,t,mm] =some ⟨a,2,true⟩) :=by show Ew _=_;rw [Ew,if_pos ⟨hna, .inr htt,hmu⟩];simp [htt]
        have y0 :=HCW.out wr hS.b 0 a rfl
        have y1 :=HCW.out wr hS.b 1 t rfl
        have y2 :=HCW.out wr hS.b 2 mm rfl
        simp only [Nat.add_zero] at y0
        go_upto_region 22 with (go_at_call 7;go_fit (NM _ hS.b);rintro e W ⟨rfl,hb⟩;have hS :=hS.next hb;have hG :=hG.below hb;have y0 :=HCW.out W hS.b 0 a rfl;have y1 :=HCW.out W hS.b 1 t rfl;have y2 :=HCW.out W hS.b 2 mm rfl;simp only [Nat.add_zero] at y0;have y1a : ∀o,(W.alloc o).cell? ⟨b2,o2+1,none⟩ =some (.string t) :=fun o=>HCW.out _ (hS.b.alloc hS.b.size o) 1 t rfl)
        have hbV :Below W.heap.size W (W.alloc (.cells #[.string a, .int .i64 2, .bool true] 52)) := (Below.refl _ _).alloc (Nat.le_refl _) _
        have bC : (W.alloc (.cells #[.string a, .int .i64 2, .bool true] 52)).heap[W.heap.size]? =some (.cells #[.string a, .int .i64 2, .bool true] 52) :=Ad W _
        have hSV :=hS.next hbV
        have hGV :=hG.below hbV
        generalize hV :W.alloc (.cells #[.string a, .int .i64 2, .bool true] 52) =V at*
        clear hV hbV hS' NM
        generalize W.heap.size=pc at*
        have m0 :V.cell? ⟨pc,0,none⟩ =some (.string a) :=Aa bC rfl
        have m1 :V.cell? ⟨pc,1,none⟩ =some (.int .i64 2) :=Aa bC rfl
        have m2 :V.cell? ⟨pc,2,none⟩ =some (.bool true) :=Aa bC rfl
        have s4 :V.cell? ⟨w.heap.size+2,4,none⟩ =some (.slice az acc.length cz) :=Aa hSV.s rfl
        obtain ⟨cs,hown,hall,hside⟩ :=hGV.below ((Below.refl _ _).alloc (Nat.le_refl _) (.cells [.string a, .int .i64 2, .bool true].toArray 52))
        have hnew :=B2 V [.string a, .int .i64 2, .bool true] 52
        have hbase :w.heap.size+3≤ (V.alloc (.cells [.string a, .int .i64 2, .bool true].toArray 52)).heap.size :=Nat.le_trans hSV.size (by simp)
        have HALL :Hid _ :=hall
        have HSIDE :Hid _ :=hside
        obtain ⟨i0,hi,hz0,hz1,hz2⟩ :=info_parts Kp
        clear hall hside hGV hG hS
        go_wp2_with (at_builtin;refine wpList_append_own_at _ rfl _ _ 29 rfl (w.heap.size+3) 52 i0 (.agg #[.string ⟨#[]⟩, .int .i64 0, .bool false]) 3 32 Tryz.underlying29 hi hz0 hz1 hz2 rfl (by decide) _ _ _ rfl hown ⟨V.heap.size,0,none⟩ 1 1 [.string a, .int .i64 2, .bool true] rfl rfl hnew ?h1 (by simp only [maxLen];omega) (by omega) hbase ?h2)
        case h1=>simp only [List.forall_mem_cons];repeat (first | exact fun _ h=>absurd h List.not_mem_nil | refine ⟨rfl, ?_⟩)
        case h2=>
         intro z2 w4 hown4 hg4 _ hat
         have hS4 := (hSV.alloc _).low (Bn hown hbase hg4)
         have hG4 :=E5.add (x := (⟨a,2,true⟩ :ColD)) HALL.out HSIDE.out rfl hown4 hg4 (by rw [World.size_alloc];exact hat)
         obtain ⟨az2,cz2,hz⟩ :=hG4.isL.shape
         rw [List.length_append,List.length_singleton] at hz
         subst hz
         have s4 :w4.cell? ⟨w.heap.size+2,4,none⟩ =some (.slice az acc.length cz) :=Aa hS4.s rfl
         have f4 :=Ab hS4.s 4
         have hS5 :=hS4.set 4 (.slice az2 (acc.length+1) cz2)
         simp only [List.setIfInBounds_toArray,List.set_cons_zero,List.set_cons_succ] at hS5
         have hG5 :=hG4.set (show w.heap.size+2<w.heap.size+3 by omega) 4 (.slice az2 (acc.length+1) cz2)
         clear hown4 hg4 hat hown hnew HALL HSIDE hG4
         go_wp2_with fail
         go_roundg (gk - 1)
         case measure=>omega
         case rel=>exact ⟨k+1,_,_,by go_num,by omega,hS5,hG5,HNXT.out _ HC.out,by rw [List.length_append,HACC.out];rfl⟩
       ·have hm1 : (mm.toList== [109,117,115,116]) =false :=by rw [An];simpa using hmu
        have HB :Hid (R=none) :=HBAD.out (K6 (fun h=>hmu h.2.2))
        have y0 :=HCW.out wr hS.b 0 a rfl
        have y1 :=HCW.out wr hS.b 1 t rfl
        have y2 :=HCW.out wr hS.b 2 mm rfl
        simp only [Nat.add_zero] at y0
        clear HBAD HNXT
        have hone : (sA 1 x noW noW (.slice az acc.length cz) (.slice none 0 0) (.slice none 0 0) (.slice none 0 0) (.slice none 0 0) 0 0 0 noW noW noW 0 (.slice none 0 0) (.slice none 0 0) false (-1)).all (·.oneCell') =true :=Bc (sl7 _ _ _ _ _ _ _ _ _ _ _ _ _ _ _ _ _ _ _ _ _)
        go_wp2_with (first
         | (go_at_call 7;go_fit (NM _ hS.b);rintro e W ⟨rfl,hb⟩;have hS :=hS.next hb;have hG :=hG.below hb;have y0 :=HCW.out W hS.b 0 a rfl;have y1 :=HCW.out W hS.b 1 t rfl;have y2 :=HCW.out W hS.b 2 mm rfl;simp only [Nat.add_zero] at y0;have y1a : ∀o,(W.alloc o).cell? ⟨b2,o2+1,none⟩ =some (.string t) :=fun o=>HCW.out _ (hS.b.alloc hS.b.size o) 1 t rfl)
         | refine wpList_load_row rfl 39 _ rfl (w.heap.size+2) rfl 39 _ _ _ hS.s Tryz.underlying39 rfl Af ?_
         | refine wpList_store_row rfl 39 _ _ rfl (w.heap.size+1) _ rfl rfl 39 Ah hS.r Af rfl hone ?_)
        exact bodyPost_ret (v := .tuple #[.agg (sA 1 x noW noW (.slice az acc.length cz) (.slice none 0 0) (.slice none 0 0) (.slice none 0 0) (.slice none 0 0) 0 0 0 noW noW noW 0 (.slice none 0 0) (.slice none 0 0) false (-1)), .bool false]) (Ay Tryz.results13 _ _ (w.heap.size+1) 39 _ _ _ _ rfl rfl (Am hS.r) Tryz.underlying39 rfl Af) rfl (A4 (ok :=false) hS (sl7 _ _ _ _ _ _ _ _ _ _ _ _ _ _ _ _ _ _ _ _ _) HB.out)
      have ht2 : (t.toList== [116,101,120,116]) =false :=by rw [An];simpa using htt
      have HB :Hid (R=none) :=HBAD.out (K6 (fun h=>h.2.1.elim hti htt))
      have y0 :=HCW.out wr hS.b 0 a rfl
      have y1 :=HCW.out wr hS.b 1 t rfl
      have y2 :=HCW.out wr hS.b 2 mm rfl
      simp only [Nat.add_zero] at y0
      clear HBAD HNXT
      have hone : (sA 1 x noW noW (.slice az acc.length cz) (.slice none 0 0) (.slice none 0 0) (.slice none 0 0) (.slice none 0 0) 0 0 0 noW noW noW 0 (.slice none 0 0) (.slice none 0 0) false (-1)).all (·.oneCell') =true :=Bc (sl7 _ _ _ _ _ _ _ _ _ _ _ _ _ _ _ _ _ _ _ _ _)
      go_wp2_with (first
       | (go_at_call 7;go_fit (NM _ hS.b);rintro e W ⟨rfl,hb⟩;have hS :=hS.next hb;have hG :=hG.below hb;have y0 :=HCW.out W hS.b 0 a rfl;have y1 :=HCW.out W hS.b 1 t rfl;have y2 :=HCW.out W hS.b 2 mm rfl;simp only [Nat.add_zero] at y0;have y1a : ∀o,(W.alloc o).cell? ⟨b2,o2+1,none⟩ =some (.string t) :=fun o=>HCW.out _ (hS.b.alloc hS.b.size o) 1 t rfl)
       | refine wpList_load_row rfl 39 _ rfl (w.heap.size+2) rfl 39 _ _ _ hS.s Tryz.underlying39 rfl Af ?_
       | refine wpList_store_row rfl 39 _ _ rfl (w.heap.size+1) _ rfl rfl 39 Ah hS.r Af rfl hone ?_)
      exact bodyPost_ret (v := .tuple #[.agg (sA 1 x noW noW (.slice az acc.length cz) (.slice none 0 0) (.slice none 0 0) (.slice none 0 0) (.slice none 0 0) 0 0 0 noW noW noW 0 (.slice none 0 0) (.slice none 0 0) false (-1)), .bool false]) (Ay Tryz.results13 _ _ (w.heap.size+1) 39 _ _ _ _ rfl rfl (Am hS.r) Tryz.underlying39 rfl Af) rfl (A4 (ok :=false) hS (sl7 _ _ _ _ _ _ _ _ _ _ _ _ _ _ _ _ _ _ _ _ _) HB.out)
     ·have NM :=Da he (Bool.eq_false_iff.2 hna)
      have HB :Hid (R=none) :=HBAD.out (K6 (fun h=>hna h.1))
      have y0 :=HCW.out wr hS.b 0 a rfl
      have y1 :=HCW.out wr hS.b 1 t rfl
      have y2 :=HCW.out wr hS.b 2 mm rfl
      simp only [Nat.add_zero] at y0
      clear HBAD HNXT
      have hone : (sA 1 x noW noW (.slice az acc.length cz) (.slice none 0 0) (.slice none 0 0) (.slice none 0 0) (.slice none 0 0) 0 0 0 noW noW noW 0 (.slice none 0 0) (.slice none 0 0) false (-1)).all (·.oneCell') =true :=Bc (sl7 _ _ _ _ _ _ _ _ _ _ _ _ _ _ _ _ _ _ _ _ _)
      go_wp2_with (first
       | (go_at_call 7;go_fit (NM _ hS.b);rintro e W ⟨rfl,hb⟩;have hS :=hS.next hb;have hG :=hG.below hb;have y0 :=HCW.out W hS.b 0 a rfl;have y1 :=HCW.out W hS.b 1 t rfl;have y2 :=HCW.out W hS.b 2 mm rfl;simp only [Nat.add_zero] at y0;have y1a : ∀o,(W.alloc o).cell? ⟨b2,o2+1,none⟩ =some (.string t) :=fun o=>HCW.out _ (hS.b.alloc hS.b.size o) 1 t rfl)
       | refine wpList_load_row rfl 39 _ rfl (w.heap.size+2) rfl 39 _ _ _ hS.s Tryz.underlying39 rfl Af ?_
       | refine wpList_store_row rfl 39 _ _ rfl (w.heap.size+1) _ rfl rfl 39 Ah hS.r Af rfl hone ?_)
      exact bodyPost_ret (v := .tuple #[.agg (sA 1 x noW noW (.slice az acc.length cz) (.slice none 0 0) (.slice none 0 0) (.slice none 0 0) (.slice none 0 0) 0 0 0 noW noW noW 0 (.slice none 0 0) (.slice none 0 0) false (-1)), .bool false]) (Ay Tryz.results13 _ _ (w.heap.size+1) 39 _ _ _ _ rfl rfl (Am hS.r) Tryz.underlying39 rfl Af) rfl (A4 (ok :=false) hS (sl7 _ _ _ _ _ _ _ _ _ _ _ _ _ _ _ _ _ _ _ _ _) HB.out)
   ·have j1 : ¬ (k :Int) < (Ls.length :Int) :=by omega
    have HG :Hid (R=some {Bg 1 with name :=x,cols :=acc}) :=by
     show R=_
     rw [←HRD.out,←List.take_of_length_le (show Ls.length≤k by omega),HA.out.1]
     rfl
    have hC :IsL Iy (Fr (w.heap.size+3)) wr (.slice az acc.length cz) acc :=hG.isL
    clear HRD HA hG hparts HWI
    have hone : (sA 1 x noW noW (.slice az acc.length cz) (.slice none 0 0) (.slice none 0 0) (.slice none 0 0) (.slice none 0 0) 0 0 0 noW noW noW 0 (.slice none 0 0) (.slice none 0 0) false (-1)).all (·.oneCell') =true :=Bc (sl7 _ _ _ _ _ _ _ _ _ _ _ _ _ _ _ _ _ _ _ _ _)
    go_wp2_with (first
     | refine wpList_load_row rfl 39 _ rfl (w.heap.size+2) rfl 39 _ _ _ hS.s Tryz.underlying39 rfl Af ?_
     | refine wpList_store_row rfl 39 _ _ rfl (w.heap.size+1) _ rfl rfl 39 Ah hS.r Af rfl hone ?_)
    exact bodyPost_ret (v := .tuple #[.agg (sA 1 x noW noW (.slice az acc.length cz) (.slice none 0 0) (.slice none 0 0) (.slice none 0 0) (.slice none 0 0) 0 0 0 noW noW noW 0 (.slice none 0 0) (.slice none 0 0) false (-1)), .bool true]) (Ay Tryz.results13 _ _ (w.heap.size+1) 39 _ _ _ _ rfl rfl (Am hS.r) Tryz.underlying39 rfl Af) rfl (A4 (ok :=true) hS (sl7 _ _ _ _ _ _ _ _ _ _ _ _ _ _ _ _ _ _ _ _ _) ⟨_,HG.out,D8 hC (IsL.nil _ _ _) (IsL.nil _ _ _) (IsL.nil _ _ _) (IsL.nil _ _ _) (Dy _ _) (IsL.nil _ _ _)⟩)
end Go.Proofs.YtifjaegfpdjikaaGreatDoor

namespace Go.Proofs.YtifjaegfpdjikaaGreatDoor
open Go.RowKit
theorem Es {P :Program} {w :World} {ops :Array Oper} {o :Oper} {a :Act} {K :Act→World→Prop} {Q :Exit→Act→World→Prop} {E :Prop} (hgd :o.guard=none) (s x :Operand) (t :TypeId)
  (ho :o.op= .call {callee := .builtin .append,args := #[s,x],argTypes := #[t,t]})
  (base :Nat) (e :TypeId) (i :TypeInfo) (z :Value) (size bytes :Nat) (ht :P.underlying t=some (.slice e)) (hi :P.info? e=some i) (hz :i.zero=some z)
  (hsize :i.size=size) (hby :i.bytes=bytes) (hzs :z.cells.size=size) (hsz :0<size)
  (v :Value) (n :Nat) (xs :List Value) (hs :a.eval s=v) (hown :w.ownsRow base e size v n xs)
  (ad :Addr) (m c :Nat) (news :List Value) (hx :a.eval x= .slice (some ad) m c) (hl :news.length=m*size) (hnews : ∀j u,news[j]? =some u→w.cell? (ad.add j) =some u) (h1 : ∀u∈news,u.oneCell'=true)
  (h63 :n+m≤maxLen) (hbytes : (n+m) *bytes≤140737488355328) (hbase :base≤w.heap.size)
  (h : ∀v' w',w'.ownsRow base e size v' (n+m) (xs++news) →w.grownBy w' v.ownBlock→ (v'.ownBlock=v.ownBlock∨v'.ownBlock=some w.heap.size) →K (a.put o.dst v') w') :
  if Region.wanted o (yielded ops a.tmps) =true then Oper.wp P o a w K Q else E :=by
 have hw :Region.wanted o (yielded ops a.tmps) =true :=by simp [Region.wanted,hgd]
 rw [if_pos hw]
 obtain ⟨v',w',hr,h2,h3,h4,h5⟩ :=run_append_own_at (P :=P) w base t o.type e i z size bytes ht hi hz hsize hby hzs hsz v n xs hown ad m c news hl hnews h1 h63 hbytes hbase
 unfold Oper.wp execOp
 simp only [ho,resolve,invoke,builtin,Sem.run_bind,Sem.run_pure,Result.andThen_ok,List.map_toArray,List.map_cons,List.map_nil,hs,hx,hr]
 exact h v' w' h2 h3 h5
theorem K7 {M L1 :List Wd} {ok :Bool} {x :E} (h :Ek M=if ok=true then some (L1,x) else none) (hb : ∀t k m,L1=t ::k ::m→nm t=true→k=F6→Bt Fp (Bf m) =none) :Gs M=none :=by
 rw [Gs,h]
 cases ok
 ·rfl
 ·simp only [if_true,Option.bind_some]
  match L1,hb with
  | [],_=>rfl
  | [_],_=>rfl
  | t ::k ::m,hb=>
   by_cases hc :nm t=true∧k=F6
   ·simp only [hc,and_self,if_true,hb t k m rfl hc.1 hc.2];rfl
   ·simp only [hc,if_false]
theorem Yk {M :List Wd} (h :Ek M=none) :Gs M=none :=by rw [Gs,h];rfl
theorem V0 {M m :List Wd} {t :Wd} {x :E} {ss :List (Wd×E)} (h :Ek M=some (t ::F6 ::m,x)) (hn :nm t=true) (ha :Bt Fp (Bf m) =some ss) :Gs M=some {Bg 6 with table :=t,sets :=ss,wher :=x} :=by
 rw [Gs,h]
 simp [hn,ha]
theorem Yl {P :List Wd} (h :P.length<3) :Fp P=none :=by
 match P,h with
 | [],_=>rfl
 | [_],_=>rfl
 | [_,_],_=>simp [Fp]
theorem Ack {c q :Wd} {m :List Wd} (hm :m≠ []) :Fp (c ::q ::m) =if nm c=true∧q=kEq then (Dn m).map fun e=> (c,e) else none :=by
 unfold Fp
 dsimp only
 by_cases h :nm c=true∧q=kEq
 ·rw [if_pos ⟨hm,h⟩,if_pos h]
 ·rw [if_neg (fun g=>h g.2),if_neg h]
theorem A8 {w :World} {b :Nat} {x :Obj} (h :w.heap[b]? =some x) :w.drew.heap[b]? =some x :=h
theorem I2 {α :Type} {K :Elem α} {t :TypeId} {base :Nat} {S :Side} {w :World} {z :Value} {acc :List α} (h :E5 K t base S w z acc) (hb :base≤w.heap.size) : ∀k,w.heap.size≤k→FO base z k :=by
 intro k hk
 obtain ⟨_,h1,_,_⟩ :=h
 exact ⟨Nat.le_trans hb hk,fun e=>by have := (h1.lt _ e.symm).2;omega⟩
theorem Nb {okk okx :Bool} {RX :Option E} {y :E} {S :Option (Wd×E)} {cc :Wd} (h1 :RX=if okx=true then some y else none) (h2 :S=RX.map fun e=> (cc,e)) (h : (okk&&okx) =true) :okk=true∧S=some (cc,y) :=by
 simp only [Bool.and_eq_true] at h
 rw [h2,h1,h.2]
 exact ⟨h.1,rfl⟩
theorem Wt {okk okx :Bool} {RX :Option E} {y :E} {S :Option (Wd×E)} {cc :Wd} (h1 :RX=if okx=true then some y else none) (h2 :S=RX.map fun e=> (cc,e)) (h : (okk&&okx) =false) :okk=false∨S=none :=by
 cases okk
 ·exact .inl rfl
 ·simp only [Bool.true_and] at h
  rw [h2,h1,h]
  exact .inr rfl
end Go.Proofs.YtifjaegfpdjikaaGreatDoor


/-
  3 texts of this proof in one, in build order: SList, RCut, RLast.
-/
import Derived.Test.YtifjaegfpdjikaaGreatDoorJ06
import Derived.Test.YtifjaegfpdjikaaGreatDoorJ09
set_option linter.unusedSimpArgs false
set_option linter.unusedVariables false
namespace Go.Proofs.YtifjaegfpdjikaaGreatDoor
open Go.RowKit
theorem M6 : (Tryz.prog.info? 37).map (fun i=> (i.zero,i.size,i.bytes)) =some (some (.agg #[.int .i64 0, .int .i64 0, .int .i64 0, .string ⟨#[]⟩, .string ⟨#[]⟩, .string ⟨#[]⟩, .int .i64 0, .slice none 0 0]),8,104) :=by kernel_rfl
theorem Si : (Tryz.prog.info? 33).map (fun i=> (i.zero,i.size,i.bytes)) =some (some (.slice none 0 0),1,24) :=by kernel_rfl
theorem Sj : (Tryz.prog.info? 55).map (fun i=> (i.zero,i.size,i.bytes)) =some (some (.agg #[.string ⟨#[]⟩, .int .i64 0, .int .i64 0, .int .i64 0, .string ⟨#[]⟩, .string ⟨#[]⟩, .string ⟨#[]⟩, .int .i64 0, .slice none 0 0]),9,120) :=by kernel_rfl
theorem Od : (Tryz.prog.info? 9).map (fun i=> (i.zero,i.size,i.bytes)) =some (some (.string ⟨#[]⟩),1,16) :=by kernel_rfl
theorem Kp : (Tryz.prog.info? 52).map (fun i=> (i.zero,i.size,i.bytes)) =some (some (.agg #[.string ⟨#[]⟩, .int .i64 0, .bool false]),3,32) :=by kernel_rfl
set_option maxHeartbeats 4000000 in
theorem Sk (p :St→_×St) (d :Int) (hp :Em 80 Dc Dv p d) (hs : ∀s,Aw (p s).2≤Aw s) (a :Nat) (s :St) (w :World) (h :Rd w a s d) (he :Env w) (ha :16≤a) :
  Calls Tryz.prog 79 #[.pointer (some ⟨a,0,none⟩), .func (.func 80) #[.pointer (some ⟨a,0,none⟩)] #[]] w fun e w'=> ∃sv,e= .returned sv∧IsL Dc (Fr w.heap.size) w' sv (A1 p s).1∧Rd w' a (A1 p s).2 d∧But a w w' :=by
 obtain ⟨i0,hi,hz0,hz1,hz2⟩ :=info_parts M6
 have hla :=h.lt
 have P1 :=hp a s w h he ha
 have hli :A1 p s=Dm p (Aw (p s).2) [(p s).1] (p s).2 :=rfl
 have hln :=h.len
 have hss :=hs s
 generalize A1 p s=R at hli⊢
 generalize p s=q at P1 hli hss
 obtain ⟨x1,s1⟩ :=q
 simp only at P1 hli hss
 have HLI :Hid _ :=hli
 have HP :Hid _ :=hp
 have HS :Hid _ :=hs
 clear hli hp hs
 go_enter Tryz.func79,Tryz.ntmps79
 go_wp2_with (go_at_call 80;go_must (go_fit P1;rintro e w1 ⟨c1,rfl,hR1,hr1,hb1⟩;obtain ⟨op,xk,xn,xs,sx,nmx,nx,ao,kx,cap,rfl⟩ :=G6 hR1;simp only [Dv]))
 have hsz1 :=hb1.size
 have own1 :=Mo w1 w.heap.size 37 [.int .i64 op, .int .i64 xk, .int .i64 xn, .string xs, .string sx, .string nmx, .int .i64 nx, .slice ao kx cap] 8 rfl hsz1
 have hbx :Below w1.heap.size w1 (w1.alloc (.cells [.int .i64 op, .int .i64 xk, .int .i64 xn, .string xs, .string sx, .string nmx, .int .i64 nx, .slice ao kx cap].toArray 37)) := (Below.refl _ _).alloc (Nat.le_refl _) _
 have all1 :All Dc (FO w.heap.size (.slice (some ⟨w1.heap.size,0,none⟩) 1 1)) (w1.alloc (.cells [.int .i64 op, .int .i64 xk, .int .i64 xn, .string xs, .string sx, .string nmx, .int .i64 nx, .slice ao kx cap].toArray 37)) [x1] [.int .i64 op, .int .i64 xk, .int .i64 xn, .string xs, .string sx, .string nmx, .int .i64 nx, .slice ao kx cap] :=
  All.keep (Bb hbx) (All.one (Dc.mono (fun k hk hf=> ⟨hf,fun e=>by simp [Value.ownBlock] at e;omega⟩) hR1))
 have hr1' :=hr1.below hbx
 have hB1 :But a w (w1.alloc (.cells [.int .i64 op, .int .i64 xk, .int .i64 xn, .string xs, .string sx, .string nmx, .int .i64 nx, .slice ao kx cap].toArray 37)) :=hb1.alloc _
 clear hR1 hr1 hb1 hbx
 go_loopg [5] (Aw s1) (fun f z wr=> ∃acc cs σ,wr.ownsRow w.heap.size 37 8 z acc.length cs∧All Dc (FO w.heap.size z) wr acc cs∧Rd wr a σ d∧Hid (R=Dm p f acc σ∧Aw σ≤f) ∧acc.length+Aw σ≤1600∧But a w wr)
 case atStart=>exact ⟨[x1],[.int .i64 op, .int .i64 xk, .int .i64 xn, .string xs, .string sx, .string nmx, .int .i64 nx, .slice ao kx cap],s1,own1,all1,hr1',⟨HLI.out,Nat.le_refl _⟩,by simp;omega,hB1⟩
 case round=>
  clear own1 all1 hr1' hB1 HLI hsz1
  obtain ⟨acc,cs,σ,hown,hall,hrd,HF,hlen,hBut⟩ :=hrel
  have HALL :Hid _ :=hall
  clear hall
  cases hc : (Ag Av σ).1
  ·have SK :=Ba a Av σ d wr hrd (by decide) hc
   have HFin :Hid (R= (acc,σ)) :=by show R=_;rw [HF.out.1,Ko hc,Cm hc]
   clear HF hc
   go_wp2_with (go_at_call 47;go_must (go_fit SK;rintro e w2 ⟨rfl,hr2,hb2⟩))
   go_ret
   refine ⟨_,rfl, ?_, ?_,hBut.trans hb2⟩
   ·rw [HFin.out]
    have hown2 :=Er hown hb2 hla
    exact ⟨cs,E8.of_own hown2 (fun k hk=>hk),All.mono (fun k _ hk=>hk.1) (All.keep (hb2.keeps (by intro hf;have :=hf.1;omega)) HALL.out)⟩
   ·rw [HFin.out];exact hr2
  ·have SK :=Du a Av σ d wr hrd (by decide) hc
   obtain ⟨f',hf',HNx⟩ : ∃f',f'<gk∧Hid (R=Dm p f' (acc++ [(p (Ag Av σ).2).1]) (p (Ag Av σ).2).2∧Aw (p (Ag Av σ).2).2≤f'∧Aw (p (Ag Av σ).2).2+1≤Aw σ) :=by
    obtain ⟨f',h1,h2,h3,h4⟩ :=Mp HS.out hc HF.out.2
    exact ⟨f',h1,HF.out.1.trans h2,h3,h4⟩
   clear HF hc
   generalize (Ag Av σ).2=s2 at SK HNx
   have PF :=fun w2 (h2 :Rd w2 a s2 d) (e2 :Env w2) =>HP.out a s2 w2 h2 e2 ha
   generalize p s2=q at PF HNx
   obtain ⟨x2,s3⟩ :=q
   simp only at PF HNx
   have HL2 :Hid (Aw s3+1≤Aw σ) :=HNx.out.2.2
   go_wp2_with (first
    | (go_at_call 47;go_must (go_fit SK;rintro e w2 ⟨rfl,hr2,hb2⟩;have P2 :=PF w2 hr2 (he.but (hBut.trans hb2) ha)))
    | (go_at_call 80;go_must (go_fit P2;rintro e w3 ⟨c3,rfl,hR3,hr3,hb3⟩;obtain ⟨op,xk,xn,xs,sx,nmx,nx,ao,kx,cap,rfl⟩ :=G6 hR3;simp only [Dv];have hown3 := (Er (Er hown hb2 hla) hb3 hla).alloc (.cells [.int .i64 op, .int .i64 xk, .int .i64 xn, .string xs, .string sx, .string nmx, .int .i64 nx, .slice ao kx cap].toArray 37);have hnew :=B2 w3 [.int .i64 op, .int .i64 xk, .int .i64 xn, .string xs, .string sx, .string nmx, .int .i64 nx, .slice ao kx cap] 37;have hbase :w.heap.size≤ (w3.alloc (.cells [.int .i64 op, .int .i64 xk, .int .i64 xn, .string xs, .string sx, .string nmx, .int .i64 nx, .slice ao kx cap].toArray 37)).heap.size :=Nat.le_trans (hBut.trans (hb2.trans hb3)).size (by simp)))
    | (at_builtin;go_must (refine wpList_append_own_at _ rfl _ _ 33 rfl w.heap.size 37 i0 (.agg #[.int .i64 0,.int .i64 0,.int .i64 0,.string ⟨#[]⟩,.string ⟨#[]⟩,.string ⟨#[]⟩,.int .i64 0,.slice none 0 0]) 8 104 Tryz.underlying33 hi hz0 hz1 hz2 rfl (by decide) _ _ _ rfl hown3 ⟨w3.heap.size,0,none⟩ 1 1 [.int .i64 op, .int .i64 xk, .int .i64 xn, .string xs, .string sx, .string nmx, .int .i64 nx, .slice ao kx cap] rfl rfl hnew ?h1 (by simp only [maxLen];omega) (by omega) hbase ?h2)))
   case h1=>simp only [List.forall_mem_cons];repeat (first | exact fun _ h=>absurd h List.not_mem_nil | refine ⟨rfl, ?_⟩)
   case h2=>
    intro z2 w4 hown4 hg4 _ hat
    have hbn :Below w3.heap.size w3 (w3.alloc (.cells [.int .i64 op, .int .i64 xk, .int .i64 xn, .string xs, .string sx, .string nmx, .int .i64 nx, .slice ao kx cap].toArray 37)) := (Below.refl _ _).alloc (Nat.le_refl _) _
    have hr4 :=Rd.grown hown3 hg4 (hr3.below hbn) hla
    have hB4 :But a w w4 :=I8 hown3 hg4 (((hBut.trans hb2).trans hb3).alloc _) (Nat.le_refl _)
    have hall4 :All Dc (FO w.heap.size z2) w4 (acc++ [x2]) (cs++ [.int .i64 op, .int .i64 xk, .int .i64 xn, .string xs, .string sx, .string nmx, .int .i64 nx, .slice ao kx cap]) :=by
     have nFa : ¬FO w.heap.size u5 a :=by intro hf;have :=hf.1;omega
     have h23 :wr.heap.size≤w2.heap.size :=hb2.size
     have g1 :All Dc (FO w.heap.size u5) (w3.alloc (.cells [.int .i64 op, .int .i64 xk, .int .i64 xn, .string xs, .string sx, .string nmx, .int .i64 nx, .slice ao kx cap].toArray 37)) acc cs :=All.keep ((((hb2.keeps nFa).trans (hb3.keeps nFa))).alloc _) HALL.out
     have hat' :z2.ownBlock=u5.ownBlock∨z2.ownBlock=some (w3.alloc (.cells [.int .i64 op, .int .i64 xk, .int .i64 xn, .string xs, .string sx, .string nmx, .int .i64 nx, .slice ao kx cap].toArray 37)).heap.size :=by rw [World.size_alloc];exact hat
     have hzl : ∀k,some k=u5.ownBlock→k<wr.heap.size :=fun k e=> (hown.lt k e.symm).2
     have g2 :All Dc (FO w.heap.size u5) (w3.alloc (.cells [.int .i64 op, .int .i64 xk, .int .i64 xn, .string xs, .string sx, .string nmx, .int .i64 nx, .slice ao kx cap].toArray 37)) [x2] [.int .i64 op, .int .i64 xk, .int .i64 xn, .string xs, .string sx, .string nmx, .int .i64 nx, .slice ao kx cap] :=All.keep (Bb hbn) (All.one (Dc.mono (fun k _ hf=> ⟨by have :w2.heap.size≤k :=hf;have :=hBut.size;omega,fun e=>by have :w2.heap.size≤k :=hf;have :=hzl k e;omega⟩) hR3))
     exact All.mono (fun k hk hf=> ⟨hf.1,hf.2.2⟩) (All.keep (F :=fun k=>w.heap.size≤k∧some k≠u5.ownBlock∧some k≠z2.ownBlock) ⟨hg4.size,fun k hk hl=>hg4.block k hl hk.2.1⟩ (All.mono (fun k hk hf=> ⟨hf.1,hf.2,(I7 hat' k hk hf).2⟩) (g1.append g2)))
    go_wp2_with fail
    go_roundg f'
    case measure=>exact hf'
    case rel=>
     refine ⟨acc++ [x2],cs++ [.int .i64 op, .int .i64 xk, .int .i64 xn, .string xs, .string sx, .string nmx, .int .i64 nx, .slice ao kx cap],s3,by rw [List.length_append];exact hown4,hall4,hr4,⟨HNx.out.1,HNx.out.2.1⟩, ?_,hB4⟩
     have :=HL2.out
     rw [List.length_append,List.length_singleton];omega
set_option maxHeartbeats 4000000 in
theorem Aa4 (p :St→_×St) (d :Int) (hp :Em 75 Jl Oc p d) (hs : ∀s,Aw (p s).2≤Aw s) (a :Nat) (s :St) (w :World) (h :Rd w a s d) (he :Env w) (ha :16≤a) :
  Calls Tryz.prog 74 #[.pointer (some ⟨a,0,none⟩), .func (.func 75) #[.pointer (some ⟨a,0,none⟩)] #[]] w fun e w'=> ∃sv,e= .returned sv∧IsL Jl (Fr w.heap.size) w' sv (A1 p s).1∧Rd w' a (A1 p s).2 d∧But a w w' :=by
 obtain ⟨i0,hi,hz0,hz1,hz2⟩ :=info_parts Si
 have hla :=h.lt
 have P1 :=hp a s w h he ha
 have hli :A1 p s=Dm p (Aw (p s).2) [(p s).1] (p s).2 :=rfl
 have hln :=h.len
 have hss :=hs s
 generalize A1 p s=R at hli⊢
 generalize p s=q at P1 hli hss
 obtain ⟨x1,s1⟩ :=q
 simp only at P1 hli hss
 have HLI :Hid _ :=hli
 have HP :Hid _ :=hp
 have HS :Hid _ :=hs
 clear hli hp hs
 go_enter Tryz.func74,Tryz.ntmps74
 go_wp2_with (go_at_call 75;go_must (go_fit P1;rintro e w1 ⟨c1,rfl,hR1,hr1,hb1⟩;obtain ⟨ao,kx,cap,rfl⟩ :=Se hR1;simp only [Oc,List.headD_cons]))
 have hsz1 :=hb1.size
 have own1 :=Mo w1 w.heap.size 33 [.slice ao kx cap] 1 rfl hsz1
 have hbx :Below w1.heap.size w1 (w1.alloc (.cells [.slice ao kx cap].toArray 33)) := (Below.refl _ _).alloc (Nat.le_refl _) _
 have all1 :All Jl (FO w.heap.size (.slice (some ⟨w1.heap.size,0,none⟩) 1 1)) (w1.alloc (.cells [.slice ao kx cap].toArray 33)) [x1] [.slice ao kx cap] :=
  All.keep (Bb hbx) (All.one (Jl.mono (fun k hk hf=> ⟨hf,fun e=>by simp [Value.ownBlock] at e;omega⟩) hR1))
 have hr1' :=hr1.below hbx
 have hB1 :But a w (w1.alloc (.cells [.slice ao kx cap].toArray 33)) :=hb1.alloc _
 clear hR1 hr1 hb1 hbx
 go_loopg [5] (Aw s1) (fun f z wr=> ∃acc cs σ,wr.ownsRow w.heap.size 33 1 z acc.length cs∧All Jl (FO w.heap.size z) wr acc cs∧Rd wr a σ d∧Hid (R=Dm p f acc σ∧Aw σ≤f) ∧acc.length+Aw σ≤1600∧But a w wr)
 case atStart=>exact ⟨[x1],[.slice ao kx cap],s1,own1,all1,hr1',⟨HLI.out,Nat.le_refl _⟩,by simp;omega,hB1⟩
 case round=>
  clear own1 all1 hr1' hB1 HLI hsz1
  obtain ⟨acc,cs,σ,hown,hall,hrd,HF,hlen,hBut⟩ :=hrel
  have HALL :Hid _ :=hall
  clear hall
  cases hc : (Ag Av σ).1
  ·have SK :=Ba a Av σ d wr hrd (by decide) hc
   have HFin :Hid (R= (acc,σ)) :=by show R=_;rw [HF.out.1,Ko hc,Cm hc]
   clear HF hc
   go_wp2_with (go_at_call 47;go_must (go_fit SK;rintro e w2 ⟨rfl,hr2,hb2⟩))
   go_ret
   refine ⟨_,rfl, ?_, ?_,hBut.trans hb2⟩
   ·rw [HFin.out]
    have hown2 :=Er hown hb2 hla
    exact ⟨cs,E8.of_own hown2 (fun k hk=>hk),All.mono (fun k _ hk=>hk.1) (All.keep (hb2.keeps (by intro hf;have :=hf.1;omega)) HALL.out)⟩
   ·rw [HFin.out];exact hr2
  ·have SK :=Du a Av σ d wr hrd (by decide) hc
   obtain ⟨f',hf',HNx⟩ : ∃f',f'<gk∧Hid (R=Dm p f' (acc++ [(p (Ag Av σ).2).1]) (p (Ag Av σ).2).2∧Aw (p (Ag Av σ).2).2≤f'∧Aw (p (Ag Av σ).2).2+1≤Aw σ) :=by
    obtain ⟨f',h1,h2,h3,h4⟩ :=Mp HS.out hc HF.out.2
    exact ⟨f',h1,HF.out.1.trans h2,h3,h4⟩
   clear HF hc
   generalize (Ag Av σ).2=s2 at SK HNx
   have PF :=fun w2 (h2 :Rd w2 a s2 d) (e2 :Env w2) =>HP.out a s2 w2 h2 e2 ha
   generalize p s2=q at PF HNx
   obtain ⟨x2,s3⟩ :=q
   simp only at PF HNx
   have HL2 :Hid (Aw s3+1≤Aw σ) :=HNx.out.2.2
   go_wp2_with (first
    | (go_at_call 47;go_must (go_fit SK;rintro e w2 ⟨rfl,hr2,hb2⟩;have P2 :=PF w2 hr2 (he.but (hBut.trans hb2) ha)))
    | (go_at_call 75;go_must (go_fit P2;rintro e w3 ⟨c3,rfl,hR3,hr3,hb3⟩;obtain ⟨ao,kx,cap,rfl⟩ :=Se hR3;simp only [Oc,List.headD_cons];have hown3 := (Er (Er hown hb2 hla) hb3 hla).alloc (.cells [.slice ao kx cap].toArray 33);have hnew :=B2 w3 [.slice ao kx cap] 33;have hbase :w.heap.size≤ (w3.alloc (.cells [.slice ao kx cap].toArray 33)).heap.size :=Nat.le_trans (hBut.trans (hb2.trans hb3)).size (by simp)))
    | (at_builtin;go_must (refine wpList_append_own_at _ rfl _ _ 30 rfl w.heap.size 33 i0 (.slice none 0 0) 1 24 Tryz.underlying30 hi hz0 hz1 hz2 rfl (by decide) _ _ _ rfl hown3 ⟨w3.heap.size,0,none⟩ 1 1 [.slice ao kx cap] rfl rfl hnew ?h1 (by simp only [maxLen];omega) (by omega) hbase ?h2)))
   case h1=>simp only [List.forall_mem_cons];repeat (first | exact fun _ h=>absurd h List.not_mem_nil | refine ⟨rfl, ?_⟩)
   case h2=>
    intro z2 w4 hown4 hg4 _ hat
    have hbn :Below w3.heap.size w3 (w3.alloc (.cells [.slice ao kx cap].toArray 33)) := (Below.refl _ _).alloc (Nat.le_refl _) _
    have hr4 :=Rd.grown hown3 hg4 (hr3.below hbn) hla
    have hB4 :But a w w4 :=I8 hown3 hg4 (((hBut.trans hb2).trans hb3).alloc _) (Nat.le_refl _)
    have hall4 :All Jl (FO w.heap.size z2) w4 (acc++ [x2]) (cs++ [.slice ao kx cap]) :=by
     have nFa : ¬FO w.heap.size u5 a :=by intro hf;have :=hf.1;omega
     have h23 :wr.heap.size≤w2.heap.size :=hb2.size
     have g1 :All Jl (FO w.heap.size u5) (w3.alloc (.cells [.slice ao kx cap].toArray 33)) acc cs :=All.keep ((((hb2.keeps nFa).trans (hb3.keeps nFa))).alloc _) HALL.out
     have hat' :z2.ownBlock=u5.ownBlock∨z2.ownBlock=some (w3.alloc (.cells [.slice ao kx cap].toArray 33)).heap.size :=by rw [World.size_alloc];exact hat
     have hzl : ∀k,some k=u5.ownBlock→k<wr.heap.size :=fun k e=> (hown.lt k e.symm).2
     have g2 :All Jl (FO w.heap.size u5) (w3.alloc (.cells [.slice ao kx cap].toArray 33)) [x2] [.slice ao kx cap] :=All.keep (Bb hbn) (All.one (Jl.mono (fun k _ hf=> ⟨by have :w2.heap.size≤k :=hf;have :=hBut.size;omega,fun e=>by have :w2.heap.size≤k :=hf;have :=hzl k e;omega⟩) hR3))
     exact All.mono (fun k hk hf=> ⟨hf.1,hf.2.2⟩) (All.keep (F :=fun k=>w.heap.size≤k∧some k≠u5.ownBlock∧some k≠z2.ownBlock) ⟨hg4.size,fun k hk hl=>hg4.block k hl hk.2.1⟩ (All.mono (fun k hk hf=> ⟨hf.1,hf.2,(I7 hat' k hk hf).2⟩) (g1.append g2)))
    go_wp2_with fail
    go_roundg f'
    case measure=>exact hf'
    case rel=>
     refine ⟨acc++ [x2],cs++ [.slice ao kx cap],s3,by rw [List.length_append];exact hown4,hall4,hr4,⟨HNx.out.1,HNx.out.2.1⟩, ?_,hB4⟩
     have :=HL2.out
     rw [List.length_append,List.length_singleton];omega
set_option maxHeartbeats 4000000 in
theorem Aa5 (p :St→_×St) (d :Int) (hp :Em 78 G5 Dv p d) (hs : ∀s,Aw (p s).2≤Aw s) (a :Nat) (s :St) (w :World) (h :Rd w a s d) (he :Env w) (ha :16≤a) :
  Calls Tryz.prog 77 #[.pointer (some ⟨a,0,none⟩), .func (.func 78) #[.pointer (some ⟨a,0,none⟩)] #[]] w fun e w'=> ∃sv,e= .returned sv∧IsL G5 (Fr w.heap.size) w' sv (A1 p s).1∧Rd w' a (A1 p s).2 d∧But a w w' :=by
 obtain ⟨i0,hi,hz0,hz1,hz2⟩ :=info_parts Sj
 have hla :=h.lt
 have P1 :=hp a s w h he ha
 have hli :A1 p s=Dm p (Aw (p s).2) [(p s).1] (p s).2 :=rfl
 have hln :=h.len
 have hss :=hs s
 generalize A1 p s=R at hli⊢
 generalize p s=q at P1 hli hss
 obtain ⟨x1,s1⟩ :=q
 simp only at P1 hli hss
 have HLI :Hid _ :=hli
 have HP :Hid _ :=hp
 have HS :Hid _ :=hs
 clear hli hp hs
 go_enter Tryz.func77,Tryz.ntmps77
 go_wp2_with (go_at_call 78;go_must (go_fit P1;rintro e w1 ⟨c1,rfl,hR1,hr1,hb1⟩;obtain ⟨cn,op,xk,xn,xs,sx,nmx,nx,ao,kx,cap,rfl⟩ :=Sf hR1;simp only [Dv]))
 have hsz1 :=hb1.size
 have own1 :=Mo w1 w.heap.size 55 [.string cn, .int .i64 op, .int .i64 xk, .int .i64 xn, .string xs, .string sx, .string nmx, .int .i64 nx, .slice ao kx cap] 9 rfl hsz1
 have hbx :Below w1.heap.size w1 (w1.alloc (.cells [.string cn, .int .i64 op, .int .i64 xk, .int .i64 xn, .string xs, .string sx, .string nmx, .int .i64 nx, .slice ao kx cap].toArray 55)) := (Below.refl _ _).alloc (Nat.le_refl _) _
 have all1 :All G5 (FO w.heap.size (.slice (some ⟨w1.heap.size,0,none⟩) 1 1)) (w1.alloc (.cells [.string cn, .int .i64 op, .int .i64 xk, .int .i64 xn, .string xs, .string sx, .string nmx, .int .i64 nx, .slice ao kx cap].toArray 55)) [x1] [.string cn, .int .i64 op, .int .i64 xk, .int .i64 xn, .string xs, .string sx, .string nmx, .int .i64 nx, .slice ao kx cap] :=
  All.keep (Bb hbx) (All.one (G5.mono (fun k hk hf=> ⟨hf,fun e=>by simp [Value.ownBlock] at e;omega⟩) hR1))
 have hr1' :=hr1.below hbx
 have hB1 :But a w (w1.alloc (.cells [.string cn, .int .i64 op, .int .i64 xk, .int .i64 xn, .string xs, .string sx, .string nmx, .int .i64 nx, .slice ao kx cap].toArray 55)) :=hb1.alloc _
 clear hR1 hr1 hb1 hbx
 go_loopg [5] (Aw s1) (fun f z wr=> ∃acc cs σ,wr.ownsRow w.heap.size 55 9 z acc.length cs∧All G5 (FO w.heap.size z) wr acc cs∧Rd wr a σ d∧Hid (R=Dm p f acc σ∧Aw σ≤f) ∧acc.length+Aw σ≤1600∧But a w wr)
 case atStart=>exact ⟨[x1],[.string cn, .int .i64 op, .int .i64 xk, .int .i64 xn, .string xs, .string sx, .string nmx, .int .i64 nx, .slice ao kx cap],s1,own1,all1,hr1',⟨HLI.out,Nat.le_refl _⟩,by simp;omega,hB1⟩
 case round=>
  clear own1 all1 hr1' hB1 HLI hsz1
  obtain ⟨acc,cs,σ,hown,hall,hrd,HF,hlen,hBut⟩ :=hrel
  have HALL :Hid _ :=hall
  clear hall
  cases hc : (Ag Av σ).1
  ·have SK :=Ba a Av σ d wr hrd (by decide) hc
   have HFin :Hid (R= (acc,σ)) :=by show R=_;rw [HF.out.1,Ko hc,Cm hc]
   clear HF hc
   go_wp2_with (go_at_call 47;go_must (go_fit SK;rintro e w2 ⟨rfl,hr2,hb2⟩))
   go_ret
   refine ⟨_,rfl, ?_, ?_,hBut.trans hb2⟩
   ·rw [HFin.out]
    have hown2 :=Er hown hb2 hla
    exact ⟨cs,E8.of_own hown2 (fun k hk=>hk),All.mono (fun k _ hk=>hk.1) (All.keep (hb2.keeps (by intro hf;have :=hf.1;omega)) HALL.out)⟩
   ·rw [HFin.out];exact hr2
  ·have SK :=Du a Av σ d wr hrd (by decide) hc
   obtain ⟨f',hf',HNx⟩ : ∃f',f'<gk∧Hid (R=Dm p f' (acc++ [(p (Ag Av σ).2).1]) (p (Ag Av σ).2).2∧Aw (p (Ag Av σ).2).2≤f'∧Aw (p (Ag Av σ).2).2+1≤Aw σ) :=by
    obtain ⟨f',h1,h2,h3,h4⟩ :=Mp HS.out hc HF.out.2
    exact ⟨f',h1,HF.out.1.trans h2,h3,h4⟩
   clear HF hc
   generalize (Ag Av σ).2=s2 at SK HNx
   have PF :=fun w2 (h2 :Rd w2 a s2 d) (e2 :Env w2) =>HP.out a s2 w2 h2 e2 ha
   generalize p s2=q at PF HNx
   obtain ⟨x2,s3⟩ :=q
   simp only at PF HNx
   have HL2 :Hid (Aw s3+1≤Aw σ) :=HNx.out.2.2
   go_wp2_with (first
    | (go_at_call 47;go_must (go_fit SK;rintro e w2 ⟨rfl,hr2,hb2⟩;have P2 :=PF w2 hr2 (he.but (hBut.trans hb2) ha)))
    | (go_at_call 78;go_must (go_fit P2;rintro e w3 ⟨c3,rfl,hR3,hr3,hb3⟩;obtain ⟨cn,op,xk,xn,xs,sx,nmx,nx,ao,kx,cap,rfl⟩ :=Sf hR3;simp only [Dv];have hown3 := (Er (Er hown hb2 hla) hb3 hla).alloc (.cells [.string cn, .int .i64 op, .int .i64 xk, .int .i64 xn, .string xs, .string sx, .string nmx, .int .i64 nx, .slice ao kx cap].toArray 55);have hnew :=B2 w3 [.string cn, .int .i64 op, .int .i64 xk, .int .i64 xn, .string xs, .string sx, .string nmx, .int .i64 nx, .slice ao kx cap] 55;have hbase :w.heap.size≤ (w3.alloc (.cells [.string cn, .int .i64 op, .int .i64 xk, .int .i64 xn, .string xs, .string sx, .string nmx, .int .i64 nx, .slice ao kx cap].toArray 55)).heap.size :=Nat.le_trans (hBut.trans (hb2.trans hb3)).size (by simp)))
    | (at_builtin;go_must (refine wpList_append_own_at _ rfl _ _ 31 rfl w.heap.size 55 i0 (.agg #[.string ⟨#[]⟩,.int .i64 0,.int .i64 0,.int .i64 0,.string ⟨#[]⟩,.string ⟨#[]⟩,.string ⟨#[]⟩,.int .i64 0,.slice none 0 0]) 9 120 Tryz.underlying31 hi hz0 hz1 hz2 rfl (by decide) _ _ _ rfl hown3 ⟨w3.heap.size,0,none⟩ 1 1 [.string cn, .int .i64 op, .int .i64 xk, .int .i64 xn, .string xs, .string sx, .string nmx, .int .i64 nx, .slice ao kx cap] rfl rfl hnew ?h1 (by simp only [maxLen];omega) (by omega) hbase ?h2)))
   case h1=>simp only [List.forall_mem_cons];repeat (first | exact fun _ h=>absurd h List.not_mem_nil | refine ⟨rfl, ?_⟩)
   case h2=>
    intro z2 w4 hown4 hg4 _ hat
    have hbn :Below w3.heap.size w3 (w3.alloc (.cells [.string cn, .int .i64 op, .int .i64 xk, .int .i64 xn, .string xs, .string sx, .string nmx, .int .i64 nx, .slice ao kx cap].toArray 55)) := (Below.refl _ _).alloc (Nat.le_refl _) _
    have hr4 :=Rd.grown hown3 hg4 (hr3.below hbn) hla
    have hB4 :But a w w4 :=I8 hown3 hg4 (((hBut.trans hb2).trans hb3).alloc _) (Nat.le_refl _)
    have hall4 :All G5 (FO w.heap.size z2) w4 (acc++ [x2]) (cs++ [.string cn, .int .i64 op, .int .i64 xk, .int .i64 xn, .string xs, .string sx, .string nmx, .int .i64 nx, .slice ao kx cap]) :=by
     have nFa : ¬FO w.heap.size u5 a :=by intro hf;have :=hf.1;omega
     have h23 :wr.heap.size≤w2.heap.size :=hb2.size
     have g1 :All G5 (FO w.heap.size u5) (w3.alloc (.cells [.string cn, .int .i64 op, .int .i64 xk, .int .i64 xn, .string xs, .string sx, .string nmx, .int .i64 nx, .slice ao kx cap].toArray 55)) acc cs :=All.keep ((((hb2.keeps nFa).trans (hb3.keeps nFa))).alloc _) HALL.out
     have hat' :z2.ownBlock=u5.ownBlock∨z2.ownBlock=some (w3.alloc (.cells [.string cn, .int .i64 op, .int .i64 xk, .int .i64 xn, .string xs, .string sx, .string nmx, .int .i64 nx, .slice ao kx cap].toArray 55)).heap.size :=by rw [World.size_alloc];exact hat
     have hzl : ∀k,some k=u5.ownBlock→k<wr.heap.size :=fun k e=> (hown.lt k e.symm).2
     have g2 :All G5 (FO w.heap.size u5) (w3.alloc (.cells [.string cn, .int .i64 op, .int .i64 xk, .int .i64 xn, .string xs, .string sx, .string nmx, .int .i64 nx, .slice ao kx cap].toArray 55)) [x2] [.string cn, .int .i64 op, .int .i64 xk, .int .i64 xn, .string xs, .string sx, .string nmx, .int .i64 nx, .slice ao kx cap] :=All.keep (Bb hbn) (All.one (G5.mono (fun k _ hf=> ⟨by have :w2.heap.size≤k :=hf;have :=hBut.size;omega,fun e=>by have :w2.heap.size≤k :=hf;have :=hzl k e;omega⟩) hR3))
     exact All.mono (fun k hk hf=> ⟨hf.1,hf.2.2⟩) (All.keep (F :=fun k=>w.heap.size≤k∧some k≠u5.ownBlock∧some k≠z2.ownBlock) ⟨hg4.size,fun k hk hl=>hg4.block k hl hk.2.1⟩ (All.mono (fun k hk hf=> ⟨hf.1,hf.2,(I7 hat' k hk hf).2⟩) (g1.append g2)))
    go_wp2_with fail
    go_roundg f'
    case measure=>exact hf'
    case rel=>
     refine ⟨acc++ [x2],cs++ [.string cn, .int .i64 op, .int .i64 xk, .int .i64 xn, .string xs, .string sx, .string nmx, .int .i64 nx, .slice ao kx cap],s3,by rw [List.length_append];exact hown4,hall4,hr4,⟨HNx.out.1,HNx.out.2.1⟩, ?_,hB4⟩
     have :=HL2.out
     rw [List.length_append,List.length_singleton];omega
set_option maxHeartbeats 4000000 in
theorem Aa6 (p :St→_×St) (d :Int) (hp :Em 73 Hj Oc p d) (hs : ∀s,Aw (p s).2≤Aw s) (a :Nat) (s :St) (w :World) (h :Rd w a s d) (he :Env w) (ha :16≤a) :
  Calls Tryz.prog 81 #[.pointer (some ⟨a,0,none⟩), .func (.func 73) #[.pointer (some ⟨a,0,none⟩)] #[]] w fun e w'=> ∃sv,e= .returned sv∧IsL Hj (Fr w.heap.size) w' sv (A1 p s).1∧Rd w' a (A1 p s).2 d∧But a w w' :=by
 obtain ⟨i0,hi,hz0,hz1,hz2⟩ :=info_parts Od
 have hla :=h.lt
 have P1 :=hp a s w h he ha
 have hli :A1 p s=Dm p (Aw (p s).2) [(p s).1] (p s).2 :=rfl
 have hln :=h.len
 have hss :=hs s
 generalize A1 p s=R at hli⊢
 generalize p s=q at P1 hli hss
 obtain ⟨x1,s1⟩ :=q
 simp only at P1 hli hss
 have HLI :Hid _ :=hli
 have HP :Hid _ :=hp
 have HS :Hid _ :=hs
 clear hli hp hs
 go_enter Tryz.func81,Tryz.ntmps81
 go_wp2_with (go_at_call 73;go_must (go_fit P1;rintro e w1 ⟨c1,rfl,hR1,hr1,hb1⟩;obtain ⟨sx,rfl⟩ :=Sg hR1;simp only [Oc,List.headD_cons]))
 have hsz1 :=hb1.size
 have own1 :=Mo w1 w.heap.size 9 [.string sx] 1 rfl hsz1
 have hbx :Below w1.heap.size w1 (w1.alloc (.cells [.string sx].toArray 9)) := (Below.refl _ _).alloc (Nat.le_refl _) _
 have all1 :All Hj (FO w.heap.size (.slice (some ⟨w1.heap.size,0,none⟩) 1 1)) (w1.alloc (.cells [.string sx].toArray 9)) [x1] [.string sx] :=
  All.keep (Bb hbx) (All.one (Hj.mono (fun k hk hf=> ⟨hf,fun e=>by simp [Value.ownBlock] at e;omega⟩) hR1))
 have hr1' :=hr1.below hbx
 have hB1 :But a w (w1.alloc (.cells [.string sx].toArray 9)) :=hb1.alloc _
 clear hR1 hr1 hb1 hbx
 go_loopg [5] (Aw s1) (fun f z wr=> ∃acc cs σ,wr.ownsRow w.heap.size 9 1 z acc.length cs∧All Hj (FO w.heap.size z) wr acc cs∧Rd wr a σ d∧Hid (R=Dm p f acc σ∧Aw σ≤f) ∧acc.length+Aw σ≤1600∧But a w wr)
 case atStart=>exact ⟨[x1],[.string sx],s1,own1,all1,hr1',⟨HLI.out,Nat.le_refl _⟩,by simp;omega,hB1⟩
 case round=>
  clear own1 all1 hr1' hB1 HLI hsz1
  obtain ⟨acc,cs,σ,hown,hall,hrd,HF,hlen,hBut⟩ :=hrel
  have HALL :Hid _ :=hall
  clear hall
  cases hc : (Ag Av σ).1
  ·have SK :=Ba a Av σ d wr hrd (by decide) hc
   have HFin :Hid (R= (acc,σ)) :=by show R=_;rw [HF.out.1,Ko hc,Cm hc]
   clear HF hc
   go_wp2_with (go_at_call 47;go_must (go_fit SK;rintro e w2 ⟨rfl,hr2,hb2⟩))
   go_ret
   refine ⟨_,rfl, ?_, ?_,hBut.trans hb2⟩
   ·rw [HFin.out]
    have hown2 :=Er hown hb2 hla
    exact ⟨cs,E8.of_own hown2 (fun k hk=>hk),All.mono (fun k _ hk=>hk.1) (All.keep (hb2.keeps (by intro hf;have :=hf.1;omega)) HALL.out)⟩
   ·rw [HFin.out];exact hr2
  ·have SK :=Du a Av σ d wr hrd (by decide) hc
   obtain ⟨f',hf',HNx⟩ : ∃f',f'<gk∧Hid (R=Dm p f' (acc++ [(p (Ag Av σ).2).1]) (p (Ag Av σ).2).2∧Aw (p (Ag Av σ).2).2≤f'∧Aw (p (Ag Av σ).2).2+1≤Aw σ) :=by
    obtain ⟨f',h1,h2,h3,h4⟩ :=Mp HS.out hc HF.out.2
    exact ⟨f',h1,HF.out.1.trans h2,h3,h4⟩
   clear HF hc
   generalize (Ag Av σ).2=s2 at SK HNx
   have PF :=fun w2 (h2 :Rd w2 a s2 d) (e2 :Env w2) =>HP.out a s2 w2 h2 e2 ha
   generalize p s2=q at PF HNx
   obtain ⟨x2,s3⟩ :=q
   simp only at PF HNx
   have HL2 :Hid (Aw s3+1≤Aw σ) :=HNx.out.2.2
   go_wp2_with (first
    | (go_at_call 47;go_must (go_fit SK;rintro e w2 ⟨rfl,hr2,hb2⟩;have P2 :=PF w2 hr2 (he.but (hBut.trans hb2) ha)))
    | (go_at_call 73;go_must (go_fit P2;rintro e w3 ⟨c3,rfl,hR3,hr3,hb3⟩;obtain ⟨sx,rfl⟩ :=Sg hR3;simp only [Oc,List.headD_cons];have hown3 := (Er (Er hown hb2 hla) hb3 hla).alloc (.cells [.string sx].toArray 9);have hnew :=B2 w3 [.string sx] 9;have hbase :w.heap.size≤ (w3.alloc (.cells [.string sx].toArray 9)).heap.size :=Nat.le_trans (hBut.trans (hb2.trans hb3)).size (by simp)))
    | (at_builtin;go_must (refine wpList_append_own_at _ rfl _ _ 32 rfl w.heap.size 9 i0 (.string ⟨#[]⟩) 1 16 Tryz.underlying32 hi hz0 hz1 hz2 rfl (by decide) _ _ _ rfl hown3 ⟨w3.heap.size,0,none⟩ 1 1 [.string sx] rfl rfl hnew ?h1 (by simp only [maxLen];omega) (by omega) hbase ?h2)))
   case h1=>simp only [List.forall_mem_cons];repeat (first | exact fun _ h=>absurd h List.not_mem_nil | refine ⟨rfl, ?_⟩)
   case h2=>
    intro z2 w4 hown4 hg4 _ hat
    have hbn :Below w3.heap.size w3 (w3.alloc (.cells [.string sx].toArray 9)) := (Below.refl _ _).alloc (Nat.le_refl _) _
    have hr4 :=Rd.grown hown3 hg4 (hr3.below hbn) hla
    have hB4 :But a w w4 :=I8 hown3 hg4 (((hBut.trans hb2).trans hb3).alloc _) (Nat.le_refl _)
    have hall4 :All Hj (FO w.heap.size z2) w4 (acc++ [x2]) (cs++ [.string sx]) :=by
     have nFa : ¬FO w.heap.size u5 a :=by intro hf;have :=hf.1;omega
     have h23 :wr.heap.size≤w2.heap.size :=hb2.size
     have g1 :All Hj (FO w.heap.size u5) (w3.alloc (.cells [.string sx].toArray 9)) acc cs :=All.keep ((((hb2.keeps nFa).trans (hb3.keeps nFa))).alloc _) HALL.out
     have hat' :z2.ownBlock=u5.ownBlock∨z2.ownBlock=some (w3.alloc (.cells [.string sx].toArray 9)).heap.size :=by rw [World.size_alloc];exact hat
     have hzl : ∀k,some k=u5.ownBlock→k<wr.heap.size :=fun k e=> (hown.lt k e.symm).2
     have g2 :All Hj (FO w.heap.size u5) (w3.alloc (.cells [.string sx].toArray 9)) [x2] [.string sx] :=All.keep (Bb hbn) (All.one (Hj.mono (fun k _ hf=> ⟨by have :w2.heap.size≤k :=hf;have :=hBut.size;omega,fun e=>by have :w2.heap.size≤k :=hf;have :=hzl k e;omega⟩) hR3))
     exact All.mono (fun k hk hf=> ⟨hf.1,hf.2.2⟩) (All.keep (F :=fun k=>w.heap.size≤k∧some k≠u5.ownBlock∧some k≠z2.ownBlock) ⟨hg4.size,fun k hk hl=>hg4.block k hl hk.2.1⟩ (All.mono (fun k hk hf=> ⟨hf.1,hf.2,(I7 hat' k hk hf).2⟩) (g1.append g2)))
    go_wp2_with fail
    go_roundg f'
    case measure=>exact hf'
    case rel=>
     refine ⟨acc++ [x2],cs++ [.string sx],s3,by rw [List.length_append];exact hown4,hall4,hr4,⟨HNx.out.1,HNx.out.2.1⟩, ?_,hB4⟩
     have :=HL2.out
     rw [List.length_append,List.length_singleton];omega
set_option maxHeartbeats 4000000 in
theorem Aa7 (p :St→_×St) (d :Int) (hp :Em 95 Iy Dv p d) (hs : ∀s,Aw (p s).2≤Aw s) (a :Nat) (s :St) (w :World) (h :Rd w a s d) (he :Env w) (ha :16≤a) :
  Calls Tryz.prog 107 #[.pointer (some ⟨a,0,none⟩), .func (.func 95) #[.pointer (some ⟨a,0,none⟩)] #[]] w fun e w'=> ∃sv,e= .returned sv∧IsL Iy (Fr w.heap.size) w' sv (A1 p s).1∧Rd w' a (A1 p s).2 d∧But a w w' :=by
 obtain ⟨i0,hi,hz0,hz1,hz2⟩ :=info_parts Kp
 have hla :=h.lt
 have P1 :=hp a s w h he ha
 have hli :A1 p s=Dm p (Aw (p s).2) [(p s).1] (p s).2 :=rfl
 have hln :=h.len
 have hss :=hs s
 generalize A1 p s=R at hli⊢
 generalize p s=q at P1 hli hss
 obtain ⟨x1,s1⟩ :=q
 simp only at P1 hli hss
 have HLI :Hid _ :=hli
 have HP :Hid _ :=hp
 have HS :Hid _ :=hs
 clear hli hp hs
 go_enter Tryz.func107,Tryz.ntmps107
 go_wp2_with (go_at_call 95;go_must (go_fit P1;rintro e w1 ⟨c1,rfl,hR1,hr1,hb1⟩;obtain ⟨sx,tx,mx,rfl⟩ :=Sh hR1;simp only [Dv]))
 have hsz1 :=hb1.size
 have own1 :=Mo w1 w.heap.size 52 [.string sx, .int .i64 tx, .bool mx] 3 rfl hsz1
 have hbx :Below w1.heap.size w1 (w1.alloc (.cells [.string sx, .int .i64 tx, .bool mx].toArray 52)) := (Below.refl _ _).alloc (Nat.le_refl _) _
 have all1 :All Iy (FO w.heap.size (.slice (some ⟨w1.heap.size,0,none⟩) 1 1)) (w1.alloc (.cells [.string sx, .int .i64 tx, .bool mx].toArray 52)) [x1] [.string sx, .int .i64 tx, .bool mx] :=
  All.keep (Bb hbx) (All.one (Iy.mono (fun k hk hf=> ⟨hf,fun e=>by simp [Value.ownBlock] at e;omega⟩) hR1))
 have hr1' :=hr1.below hbx
 have hB1 :But a w (w1.alloc (.cells [.string sx, .int .i64 tx, .bool mx].toArray 52)) :=hb1.alloc _
 clear hR1 hr1 hb1 hbx
 go_loopg [5] (Aw s1) (fun f z wr=> ∃acc cs σ,wr.ownsRow w.heap.size 52 3 z acc.length cs∧All Iy (FO w.heap.size z) wr acc cs∧Rd wr a σ d∧Hid (R=Dm p f acc σ∧Aw σ≤f) ∧acc.length+Aw σ≤1600∧But a w wr)
 case atStart=>exact ⟨[x1],[.string sx, .int .i64 tx, .bool mx],s1,own1,all1,hr1',⟨HLI.out,Nat.le_refl _⟩,by simp;omega,hB1⟩
 case round=>
  clear own1 all1 hr1' hB1 HLI hsz1
  obtain ⟨acc,cs,σ,hown,hall,hrd,HF,hlen,hBut⟩ :=hrel
  have HALL :Hid _ :=hall
  clear hall
  cases hc : (Ag Av σ).1
  ·have SK :=Ba a Av σ d wr hrd (by decide) hc
   have HFin :Hid (R= (acc,σ)) :=by show R=_;rw [HF.out.1,Ko hc,Cm hc]
   clear HF hc
   go_wp2_with (go_at_call 47;go_must (go_fit SK;rintro e w2 ⟨rfl,hr2,hb2⟩))
   go_ret
   refine ⟨_,rfl, ?_, ?_,hBut.trans hb2⟩
   ·rw [HFin.out]
    have hown2 :=Er hown hb2 hla
    exact ⟨cs,E8.of_own hown2 (fun k hk=>hk),All.mono (fun k _ hk=>hk.1) (All.keep (hb2.keeps (by intro hf;have :=hf.1;omega)) HALL.out)⟩
   ·rw [HFin.out];exact hr2
  ·have SK :=Du a Av σ d wr hrd (by decide) hc
   obtain ⟨f',hf',HNx⟩ : ∃f',f'<gk∧Hid (R=Dm p f' (acc++ [(p (Ag Av σ).2).1]) (p (Ag Av σ).2).2∧Aw (p (Ag Av σ).2).2≤f'∧Aw (p (Ag Av σ).2).2+1≤Aw σ) :=by
    obtain ⟨f',h1,h2,h3,h4⟩ :=Mp HS.out hc HF.out.2
    exact ⟨f',h1,HF.out.1.trans h2,h3,h4⟩
   clear HF hc
   generalize (Ag Av σ).2=s2 at SK HNx
   have PF :=fun w2 (h2 :Rd w2 a s2 d) (e2 :Env w2) =>HP.out a s2 w2 h2 e2 ha
   generalize p s2=q at PF HNx
   obtain ⟨x2,s3⟩ :=q
   simp only at PF HNx
   have HL2 :Hid (Aw s3+1≤Aw σ) :=HNx.out.2.2
   go_wp2_with (first
    | (go_at_call 47;go_must (go_fit SK;rintro e w2 ⟨rfl,hr2,hb2⟩;have P2 :=PF w2 hr2 (he.but (hBut.trans hb2) ha)))
    | (go_at_call 95;go_must (go_fit P2;rintro e w3 ⟨c3,rfl,hR3,hr3,hb3⟩;obtain ⟨sx,tx,mx,rfl⟩ :=Sh hR3;simp only [Dv];have hown3 := (Er (Er hown hb2 hla) hb3 hla).alloc (.cells [.string sx, .int .i64 tx, .bool mx].toArray 52);have hnew :=B2 w3 [.string sx, .int .i64 tx, .bool mx] 52;have hbase :w.heap.size≤ (w3.alloc (.cells [.string sx, .int .i64 tx, .bool mx].toArray 52)).heap.size :=Nat.le_trans (hBut.trans (hb2.trans hb3)).size (by simp)))
    | (at_builtin;go_must (refine wpList_append_own_at _ rfl _ _ 29 rfl w.heap.size 52 i0 (.agg #[.string ⟨#[]⟩,.int .i64 0,.bool false]) 3 32 Tryz.underlying29 hi hz0 hz1 hz2 rfl (by decide) _ _ _ rfl hown3 ⟨w3.heap.size,0,none⟩ 1 1 [.string sx, .int .i64 tx, .bool mx] rfl rfl hnew ?h1 (by simp only [maxLen];omega) (by omega) hbase ?h2)))
   case h1=>simp only [List.forall_mem_cons];repeat (first | exact fun _ h=>absurd h List.not_mem_nil | refine ⟨rfl, ?_⟩)
   case h2=>
    intro z2 w4 hown4 hg4 _ hat
    have hbn :Below w3.heap.size w3 (w3.alloc (.cells [.string sx, .int .i64 tx, .bool mx].toArray 52)) := (Below.refl _ _).alloc (Nat.le_refl _) _
    have hr4 :=Rd.grown hown3 hg4 (hr3.below hbn) hla
    have hB4 :But a w w4 :=I8 hown3 hg4 (((hBut.trans hb2).trans hb3).alloc _) (Nat.le_refl _)
    have hall4 :All Iy (FO w.heap.size z2) w4 (acc++ [x2]) (cs++ [.string sx, .int .i64 tx, .bool mx]) :=by
     have nFa : ¬FO w.heap.size u5 a :=by intro hf;have :=hf.1;omega
     have h23 :wr.heap.size≤w2.heap.size :=hb2.size
     have g1 :All Iy (FO w.heap.size u5) (w3.alloc (.cells [.string sx, .int .i64 tx, .bool mx].toArray 52)) acc cs :=All.keep ((((hb2.keeps nFa).trans (hb3.keeps nFa))).alloc _) HALL.out
     have hat' :z2.ownBlock=u5.ownBlock∨z2.ownBlock=some (w3.alloc (.cells [.string sx, .int .i64 tx, .bool mx].toArray 52)).heap.size :=by rw [World.size_alloc];exact hat
     have hzl : ∀k,some k=u5.ownBlock→k<wr.heap.size :=fun k e=> (hown.lt k e.symm).2
     have g2 :All Iy (FO w.heap.size u5) (w3.alloc (.cells [.string sx, .int .i64 tx, .bool mx].toArray 52)) [x2] [.string sx, .int .i64 tx, .bool mx] :=All.keep (Bb hbn) (All.one (Iy.mono (fun k _ hf=> ⟨by have :w2.heap.size≤k :=hf;have :=hBut.size;omega,fun e=>by have :w2.heap.size≤k :=hf;have :=hzl k e;omega⟩) hR3))
     exact All.mono (fun k hk hf=> ⟨hf.1,hf.2.2⟩) (All.keep (F :=fun k=>w.heap.size≤k∧some k≠u5.ownBlock∧some k≠z2.ownBlock) ⟨hg4.size,fun k hk hl=>hg4.block k hl hk.2.1⟩ (All.mono (fun k hk hf=> ⟨hf.1,hf.2,(I7 hat' k hk hf).2⟩) (g1.append g2)))
    go_wp2_with fail
    go_roundg f'
    case measure=>exact hf'
    case rel=>
     refine ⟨acc++ [x2],cs++ [.string sx, .int .i64 tx, .bool mx],s3,by rw [List.length_append];exact hown4,hall4,hr4,⟨HNx.out.1,HNx.out.2.1⟩, ?_,hB4⟩
     have :=HL2.out
     rw [List.length_append,List.length_singleton];omega
end Go.Proofs.YtifjaegfpdjikaaGreatDoor

namespace Go.Proofs.YtifjaegfpdjikaaGreatDoor
open Go.RowKit
theorem Gh {w :World} {b off cap i :Nat} {L :List Wd} (h : ∀i s,L[i]? =some s→w.cell? ⟨b,off+i,none⟩ =some (.string s)) (hb :b<w.heap.size) (hi :i≤L.length) (hc :L.length≤cap) (hm :cap≤maxLen) :Ak w (.slice (some ⟨b,off,none⟩) i cap) (L.take i) :=by
 have hl : (L.take i).length=i :=by simp;omega
 refine ⟨by simp, ?_⟩
 rw [hl]
 rcases Nat.eq_zero_or_pos i with rfl | h0
 ·exact .inl ⟨rfl,_,cap,rfl,fun h=>by cases h⟩
 ·refine .inr ⟨h0,b,off,cap,rfl,hb,by omega,hm,fun j u hj=> ?_⟩
  rw [List.getElem?_map] at hj
  cases hx : (L.take i)[j]? with
  | none=>rw [hx] at hj;cases hj
  | some s=>
   rw [hx] at hj
   cases hj
   rw [List.getElem?_take] at hx
   split at hx
   ·exact h j s hx
   ·cases hx
theorem Oe {w :World} {b off cap i :Nat} {L :List Wd} (h : ∀i s,L[i]? =some s→w.cell? ⟨b,off+i,none⟩ =some (.string s)) (hb :b<w.heap.size) (hi :i≤L.length) (hc :L.length≤cap) (hm :cap≤maxLen) :Ak w (.slice (some ⟨b,off+i,none⟩) (L.length - i) (cap - i)) (L.drop i) :=by
 have hl : (L.drop i).length=L.length - i :=by simp
 refine ⟨by simp, ?_⟩
 rw [hl]
 rcases Nat.eq_zero_or_pos (L.length - i) with h0 | h0
 ·rw [h0];exact .inl ⟨rfl,_,_,rfl,fun h=>by cases h⟩
 ·refine .inr ⟨h0,b,off+i,cap - i,rfl,hb,by omega,by omega,fun j u hj=> ?_⟩
  rw [List.getElem?_map] at hj
  cases hx : (L.drop i)[j]? with
  | none=>rw [hx] at hj;cases hj
  | some s=>
   rw [hx] at hj
   cases hj
   rw [List.getElem?_drop] at hx
   rw [Nat.add_assoc]
   exact h (i+j) s hx
theorem Uh {w :World} {L :List Wd} {i :Nat} (ao :Addr) (cap :Nat) (h :L.length≤i) :Ak w (.slice (some ao) (L.length - i) cap) (L.drop i) :=by
 rw [List.drop_eq_nil_of_le h,show L.length - i=0 from by omega]
 exact ⟨rfl, .inl ⟨rfl,_,cap,rfl,fun h=>by cases h⟩⟩
def Oq (sl :Value) (L :List Wd) (r :Option (Nat×Nat)) (a b :Value) (k :Int) :Prop :=
 match r with
 | none=>a=sl∧b= .slice none 0 0∧k= -1
 | some (i,j) => (∀W,Ak W sl L→Ak W a (L.take i) ∧Ak W b (L.drop (i+1))) ∧k=j∧i<L.length
theorem A7 {w :World} {b off n cap :Nat} {L :List Wd} (h :Ak w (.slice (some ⟨b,off,none⟩) n cap) L) (h0 :0<L.length) :b<w.heap.size∧L.length≤cap∧cap≤maxLen∧ ∀i s,L[i]? =some s→w.cell? ⟨b,off+i,none⟩ =some (.string s) :=by
 obtain ⟨b',off',cap',e',hb',hc',hm',hcell'⟩ :=h.at h0
 cases e'
 exact ⟨hb',hc',hm',hcell'⟩
theorem Kq {L :List Wd} {k :Nat} {x :Wd} (h :L[k]? =some x) :L.drop k=x ::L.drop (k+1) :=by
 obtain ⟨h1,h2⟩ :=List.getElem?_eq_some_iff.1 h
 rw [List.drop_eq_getElem_cons h1,h2]
theorem Xs {X :List Wd} {x y :Wd} {m :Nat} (hy :X[m]? =some y) (hxy :x=y) (h : ∀q z,q<m→X[q]? =some z→x≠z) :X.findIdx? (fun y=>decide (x=y)) =some m :=by
 obtain ⟨h1,h2⟩ :=List.getElem?_eq_some_iff.1 hy
 rw [List.findIdx?_eq_some_iff_getElem]
 exact ⟨h1,by simp [h2,hxy],fun j hj=>by simpa using h j _ hj (List.getElem?_eq_getElem (by omega))⟩
theorem Vr {X :List Wd} {x :Wd} {j :Nat} (h : ∀ (q :Nat) (z :Wd),X[q]? =some z→x≠z) (hj :X.findIdx? (fun y=>decide (x=y)) =some j) :False :=by
 rw [List.findIdx?_eq_some_iff_getElem] at hj
 obtain ⟨h1,h2,_⟩ :=hj
 exact h j _ (List.getElem?_eq_getElem h1) (by simpa using h2)
set_option maxHeartbeats 4000000 in
theorem Acw (b off cap bx ox cx :Nat) (L X :List Wd) (w :World) (h0 :0<L.length) (hl :L.length≤1600) (hx :X.length≤10) (hcap :L.length≤cap)
  (hL : ∀i s,L[i]? =some s→w.cell? ⟨b,off+i,none⟩ =some (.string s)) (hX : ∀i s,X[i]? =some s→w.cell? ⟨bx,ox+i,none⟩ =some (.string s)) :
  Calls Tryz.prog 31 #[.slice (some ⟨b,off,none⟩) L.length cap, .slice (some ⟨bx,ox,none⟩) X.length cx] w fun e w'=> ∃a c k,e= .returned (.tuple #[a,c, .int .i64 k]) ∧Oq (.slice (some ⟨b,off,none⟩) L.length cap) L (B1 X 0 0 L) a c k∧Below w.heap.size w w' :=by
 have HL :Hid _ :=hL
 have HX :Hid _ :=hX
 have HR0 :Hid (B1 X 0 0 L=B1 X 0 0 (L.drop 0)) :=rfl
 generalize B1 X 0 0 L=R at HR0⊢
 generalize hn :L.length=n at*
 generalize hnx :X.length=nx at*
 have HN :Hid _ :=hn
 have HNX :Hid _ :=hnx
 clear hL hX hn hnx
 go_enter Tryz.func31,Tryz.ntmps31
 go_wp2_with fail
 go_loop [7,14] (fun d i=> ∃ (dd :Int) (k :Nat),k≤n∧i= .int .i64 k∧d= .int .i64 dd∧ -(k :Int) ≤dd∧dd≤k∧Hid (R=B1 X dd k (L.drop k))) (fun _ i=>n - (intOf i).toNat)
 case atStart=>exact ⟨0,0,Nat.zero_le _,rfl,rfl,by omega,by omega,HR0⟩
 case round=>
  obtain ⟨dd,k,hk,rfl,rfl,hd1,hd2,HR⟩ :=hrel
  by_cases hlt :k<n
  ·obtain ⟨x,hx⟩ : ∃x,L[k]? =some x := ⟨_,List.getElem?_eq_getElem (by rw [HN.out];exact hlt)⟩
   have hc :=HL.out k x hx
   have j0 : (0 :Int) ≤ (k :Int) :=by omega
   have j1 : (k :Int) < (n :Int) :=by omega
   have HC :Hid (B1 X dd k (L.drop k) =match (if dd=0 then X.findIdx? (fun y=>decide (x=y)) else none) with | some j=>some (k,j) | none=>B1 X (Cp dd x) (k+1) (L.drop (k+1))) :=by
    show _=_
    rw [Kq hx,B1]
    rfl
   go_wp2_with fail
   go_loop [21] (fun j=> ∃m :Nat,m≤nx∧j= .int .i64 m∧Hid (dd=0→ ∀q y,q<m→X[q]? =some y→x≠y)) (fun j=>nx - (intOf j).toNat)
   case atStart=>exact ⟨0,Nat.zero_le _,rfl,fun _ q y hq=>by omega⟩
   case round=>
    obtain ⟨m,hm,rfl,HM⟩ :=hrel
    by_cases hlm :m<nx
    ·obtain ⟨y,hy⟩ : ∃y,X[m]? =some y := ⟨_,List.getElem?_eq_getElem (by rw [HNX.out];exact hlm)⟩
     have hcy :=HX.out m y hy
     have i0 : (0 :Int) ≤ (m :Int) :=by omega
     have i1 : (m :Int) < (nx :Int) :=by omega
     by_cases hdd :dd=0
     ·by_cases hxy :x=y
      ·have hbq : (x.toList==y.toList) =true :=by rw [Jv];simpa using hxy
       have HF :Hid (R=some (k,m)) :=by
        show _=_
        rw [HR.out,HC.out,if_pos hdd,(Xs hy hxy (HM.out hdd))]
       go_wp2_with fail
       go_region
       go_wp2_with fail
       all_goals
        go_ret3
        refine ⟨_,_,_,rfl, ?_,(Below.refl _ _).drew⟩
        rw [HF.out]
        refine ⟨fun W hW=> ?_,rfl,by rw [HN.out];exact hlt⟩
        obtain ⟨p1,p2,p3,p4⟩ :=A7 hW (by rw [HN.out];exact h0)
        refine ⟨Gh p4 p1 (by rw [HN.out];omega) p2 p3, ?_⟩
        rw [←HN.out]
        first
         | exact Oe p4 p1 (by rw [HN.out];omega) p2 p3
         | exact Uh _ _ (by have :=HN.out;omega)
      ·have hbq : (x.toList==y.toList) =false :=by rw [Jv];simpa using hxy
       have HM2 :Hid (dd=0→ ∀q y,q<m+1→X[q]? =some y→x≠y) :=by
        intro _ q z hq hz
        by_cases h :q<m
        ·exact HM.out hdd q z h hz
        ·rw [show q=m from by omega,hy] at hz;cases hz;exact hxy
       go_wp2_with fail
       go_round
       case rel=>exact ⟨m+1,by omega,by go_num,HM2⟩
       case measure=>simp [intOf];omega
     ·have HM2 :Hid (dd=0→ ∀q y,q<m+1→X[q]? =some y→x≠y) :=fun h=>absurd h hdd
      have hdb : (dd==0) =false :=by simpa using hdd
      go_wp2_with fail
      go_round
      case rel=>exact ⟨m+1,by omega,by go_num,HM2⟩
      case measure=>simp [intOf];omega
    ·have i1 : ¬ (m :Int) < (nx :Int) :=by omega
     have HN2 :Hid (R=B1 X (Cp dd x) (k+1) (L.drop (k+1))) :=by
      show _=_
      rw [HR.out,HC.out]
      split
      ·rename_i j hj
       split at hj
       ·rename_i hd0
        exfalso
        exact Vr (fun q z hz=>HM.out hd0 q z (by have := (List.getElem?_eq_some_iff.1 hz).1;rw [HNX.out] at this;omega) hz) hj
       ·cases hj
      ·rfl
     by_cases hop :x=As
     ·have e1 : (x.toList== [40]) =true :=by rw [An];simpa using hop
      have ed :Cp dd x=dd+1 :=by rw [Cp,if_pos hop]
      rw [ed] at HN2
      clear HC HR HM ed hop
      go_wp2_with fail
      go_round
      case rel=>exact ⟨dd+1,k+1,by omega,by go_num,by go_num,by omega,by omega,HN2⟩
      case measure=>simp [intOf];omega
     ·have e1 : (x.toList== [40]) =false :=by rw [An];simpa using hop
      by_cases hcl :x=Aq
      ·have e2 : (x.toList== [41]) =true :=by rw [An];simpa using hcl
       have ed :Cp dd x=dd - 1 :=by rw [Cp,if_neg hop,if_pos hcl]
       rw [ed] at HN2
       clear HC HR HM ed hop hcl
       go_wp2_with fail
       go_round
       case rel=>exact ⟨dd - 1,k+1,by omega,by go_num,by go_num,by omega,by omega,HN2⟩
       case measure=>simp [intOf];omega
      ·have e2 : (x.toList== [41]) =false :=by rw [An];simpa using hcl
       have ed :Cp dd x=dd :=by rw [Cp,if_neg hop,if_neg hcl]
       rw [ed] at HN2
       clear HC HR HM ed hop hcl
       go_wp2_with fail
       go_round
       case rel=>exact ⟨dd,k+1,by omega,by go_num,rfl,by omega,by omega,HN2⟩
       case measure=>simp [intOf];omega
  ·have j1 : ¬ (k :Int) < (n :Int) :=by omega
   have HF :Hid (R=none) :=by
    show _=_
    rw [HR.out,List.drop_eq_nil_of_le (by rw [HN.out];omega),B1]
   go_wp2_with fail
   go_ret3
   refine ⟨_,_,_,rfl, ?_,Below.refl _ _⟩
   rw [HF.out]
   exact ⟨rfl,rfl,rfl⟩
end Go.Proofs.YtifjaegfpdjikaaGreatDoor

namespace Go.Proofs.YtifjaegfpdjikaaGreatDoor
open Go.RowKit
def D9 :Option Nat→Int
 | none=> -1
 | some i=> (i :Int)
theorem Ado {p :Option Nat} {k :Nat} (h : ∀i,p=some i→i<k) : -1≤D9 p∧D9 p≤ (k :Int) :=by
 cases p with
 | none=>simp [D9]
 | some i=>have :=h i rfl;simp [D9];omega
theorem Aa8 {X :List Wd} {m :Nat} {x y :Wd} (hy :X[m]? =some y) :inX (X.take (m+1)) x= (inX (X.take m) x || decide (x=y)) :=by
 rw [List.take_add_one,hy];simp [inX]
set_option maxHeartbeats 4000000 in
theorem Ab6 (b off cap bx ox cx :Nat) (L X :List Wd) (w :World) (hl :L.length≤1600) (hx :X.length≤10)
  (hL : ∀i s,L[i]? =some s→w.cell? ⟨b,off+i,none⟩ =some (.string s)) (hX : ∀i s,X[i]? =some s→w.cell? ⟨bx,ox+i,none⟩ =some (.string s)) :
  Calls Tryz.prog 61 #[.slice (some ⟨b,off,none⟩) L.length cap, .slice (some ⟨bx,ox,none⟩) X.length cx] w fun e w'=>e= .returned (.int .i64 (D9 (Cu X 0 0 none L))) ∧w'=w :=by
 have HL :Hid _ :=hL
 have HX :Hid _ :=hX
 have HR0 :Hid (Cu X 0 0 none L=Cu X 0 0 none (L.drop 0)) :=rfl
 generalize Cu X 0 0 none L=R at HR0⊢
 generalize hn :L.length=n at*
 generalize hnx :X.length=nx at*
 have HN :Hid _ :=hn
 have HNX :Hid _ :=hnx
 clear hL hX hn hnx
 go_enter Tryz.func61,Tryz.ntmps61
 go_wp2_with fail
 go_loop [5,6,13] (fun d p i=> ∃ (dd :Int) (pp :Option Nat) (k :Nat),k≤n∧i= .int .i64 k∧d= .int .i64 dd∧p= .int .i64 (D9 pp) ∧ -(k :Int) ≤dd∧dd≤k∧Hid (R=Cu X dd k pp (L.drop k))) (fun _ _ i=>n - (intOf i).toNat)
 case atStart=>exact ⟨0,none,0,Nat.zero_le _,rfl,rfl,rfl,by omega,by omega,HR0⟩
 case round=>
  obtain ⟨dd,pp,k,hk,rfl,rfl,rfl,hd1,hd2,HR⟩ :=hrel
  by_cases hlt :k<n
  ·obtain ⟨x,hx⟩ : ∃x,L[k]? =some x := ⟨_,List.getElem?_eq_getElem (by rw [HN.out];exact hlt)⟩
   have hc :=HL.out k x hx
   have j0 : (0 :Int) ≤ (k :Int) :=by omega
   have j1 : (k :Int) < (n :Int) :=by omega
   have HC :Hid (Cu X dd k pp (L.drop k) =Cu X (Cp dd x) (k+1) (if dd=0∧inX X x=true then some k else pp) (L.drop (k+1))) :=by
    show _=_
    rw [Kq hx,Cu]
   clear hx
   go_wp2_with fail
   go_loop [6,20] (fun p j=> ∃m :Nat,m≤nx∧j= .int .i64 m∧Hid (p= .int .i64 (D9 (if dd=0∧inX (X.take m) x=true then some k else pp)))) (fun _ j=>nx - (intOf j).toNat)
   case atStart=>exact ⟨0,Nat.zero_le _,rfl,by show _=_;simp [inX]⟩
   case round=>
    obtain ⟨m,hm,rfl,HP⟩ :=hrel
    by_cases hlm :m<nx
    ·obtain ⟨y,hy⟩ : ∃y,X[m]? =some y := ⟨_,List.getElem?_eq_getElem (by rw [HNX.out];exact hlm)⟩
     have hcy :=HX.out m y hy
     have i0 : (0 :Int) ≤ (m :Int) :=by omega
     have i1 : (m :Int) < (nx :Int) :=by omega
     have ht :=Aa8 (x :=x) hy
     by_cases hdd :dd=0
     ·by_cases hxy :x=y
      ·have hbq : (x.toList==y.toList) =true :=by rw [Jv];simpa using hxy
       have HN2 :Hid (.int .i64 (k :Int) =Value.int .i64 (D9 (if dd=0∧inX (X.take (m+1)) x=true then some k else pp))) :=by
        show _=_
        rw [if_pos ⟨hdd,by rw [ht,decide_eq_true hxy,Bool.or_true]⟩];rfl
       clear ht hy
       go_wp2_with fail
       go_round
       case rel=>exact ⟨m+1,by omega,by go_num,HN2⟩
       case measure=>simp [intOf];omega
      ·have hbq : (x.toList==y.toList) =false :=by rw [Jv];simpa using hxy
       rw [decide_eq_false hxy,Bool.or_false] at ht
       have HN2 :Hid (u6=Value.int .i64 (D9 (if dd=0∧inX (X.take (m+1)) x=true then some k else pp))) :=by
        show _=_
        rw [ht];exact HP.out
       clear ht hy
       go_wp2_with fail
       go_round
       case rel=>exact ⟨m+1,by omega,by go_num,HN2⟩
       case measure=>simp [intOf];omega
     ·have hdb : (dd==0) =false :=by simpa using hdd
      have HN2 :Hid (u6=Value.int .i64 (D9 (if dd=0∧inX (X.take (m+1)) x=true then some k else pp))) :=by
       show _=_
       rw [HP.out,if_neg (fun h=>hdd h.1),if_neg (fun h=>hdd h.1)]
      clear ht hy
      go_wp2_with fail
      go_round
      case rel=>exact ⟨m+1,by omega,by go_num,HN2⟩
      case measure=>simp [intOf];omega
    ·have i1 : ¬ (m :Int) < (nx :Int) :=by omega
     have hpv :=HP.out
     rw [List.take_of_length_le (by rw [HNX.out];omega)] at hpv
     have HN2 :Hid (R=Cu X (Cp dd x) (k+1) (if dd=0∧inX X x=true then some k else pp) (L.drop (k+1))) :=HR.out.trans HC.out
     clear HC HP HR
     generalize (if dd=0∧inX X x=true then some k else pp) =p2 at hpv HN2
     subst hpv
     by_cases hop :x=As
     ·have e1 : (x.toList== [40]) =true :=by rw [An];simpa using hop
      have ed :Cp dd x=dd+1 :=by rw [Cp,if_pos hop]
      rw [ed] at HN2
      clear ed hop
      go_wp2_with fail
      go_round
      case rel=>exact ⟨dd+1,p2,k+1,by omega,by go_num,by go_num,rfl,by omega,by omega,HN2⟩
      case measure=>simp [intOf];omega
     ·have e1 : (x.toList== [40]) =false :=by rw [An];simpa using hop
      by_cases hcl :x=Aq
      ·have e2 : (x.toList== [41]) =true :=by rw [An];simpa using hcl
       have ed :Cp dd x=dd - 1 :=by rw [Cp,if_neg hop,if_pos hcl]
       rw [ed] at HN2
       clear ed hop hcl
       go_wp2_with fail
       go_round
       case rel=>exact ⟨dd - 1,p2,k+1,by omega,by go_num,by go_num,rfl,by omega,by omega,HN2⟩
       case measure=>simp [intOf];omega
      ·have e2 : (x.toList== [41]) =false :=by rw [An];simpa using hcl
       have ed :Cp dd x=dd :=by rw [Cp,if_neg hop,if_neg hcl]
       rw [ed] at HN2
       clear ed hop hcl
       go_wp2_with fail
       go_round
       case rel=>exact ⟨dd,p2,k+1,by omega,by go_num,rfl,rfl,by omega,by omega,HN2⟩
       case measure=>simp [intOf];omega
  ·have j1 : ¬ (k :Int) < (n :Int) :=by omega
   have HF :Hid (R=pp) :=by
    show _=_
    rw [HR.out,List.drop_eq_nil_of_le (by rw [HN.out];omega),Cu]
   go_wp2_with fail
   go_ret
   exact ⟨by rw [HF.out];rfl,rfl⟩
set_option maxHeartbeats 1000000 in
theorem Aa9 (ao :Option Addr) (cap :Nat) (xs :Value) (w :World) :
  Calls Tryz.prog 31 #[.slice ao 0 cap,xs] w fun e w'=>e= .returned (.tuple #[.slice ao 0 cap, .slice none 0 0, .int .i64 (-1)]) ∧w'=w :=by
 go_enter Tryz.func31,Tryz.ntmps31
 go_wp2_with fail
 go_loop [14] (fun i=>i= .int .i64 0) (fun _=>0)
 case atStart=>rfl
 case round=>
  subst hrel
  go_wp2_with fail
  go_ret3
  exact ⟨rfl,rfl⟩
set_option maxHeartbeats 1000000 in
theorem Zo (ao :Option Addr) (cap :Nat) (xs :Value) (w :World) :
  Calls Tryz.prog 61 #[.slice ao 0 cap,xs] w fun e w'=>e= .returned (.int .i64 (-1)) ∧w'=w :=by
 go_enter Tryz.func61,Tryz.ntmps61
 go_wp2_with fail
 go_loop [6,13] (fun p i=>p= .int .i64 (-1) ∧i= .int .i64 0) (fun _ _=>0)
 case atStart=>exact ⟨rfl,rfl⟩
 case round=>
  obtain ⟨rfl,rfl⟩ :=hrel
  go_wp2_with fail
  go_ret
  exact ⟨rfl,rfl⟩
def Xt (w :World) (v :Value) (X :List Wd) :Prop :=X.length≤10∧ ∃bx ox cx,v= .slice (some ⟨bx,ox,none⟩) X.length cx∧ ∀i s,X[i]? =some s→w.cell? ⟨bx,ox+i,none⟩ =some (.string s)
theorem Gu (sl xv :Value) (L X :List Wd) (w :World) (hl :L.length≤1600) (hL :Ak w sl L) (hX :Xt w xv X) :
  Calls Tryz.prog 31 #[sl,xv] w fun e w'=> ∃a c k,e= .returned (.tuple #[a,c, .int .i64 k]) ∧Oq sl L (B1 X 0 0 L) a c k∧Below w.heap.size w w' :=by
 obtain ⟨hx,bx,ox,cx,rfl,hc⟩ :=hX
 rcases Nat.eq_zero_or_pos L.length with h0 | h0
 ·have e :L= [] :=List.length_eq_zero_iff.1 h0
  subst e
  obtain ⟨ao,cap,rfl⟩ :=hL.shape
  refine (Aa9 ao cap _ w).mono ?_
  rintro e w' ⟨rfl,rfl⟩
  exact ⟨_,_,_,rfl,⟨rfl,rfl,rfl⟩,Below.refl _ _⟩
 ·obtain ⟨b,off,cap,rfl,hb,hcap,hm,hcell⟩ :=hL.at h0
  exact Acw b off cap bx ox cx L X w h0 hl hx hcap hcell hc
theorem G7 (sl xv :Value) (L X :List Wd) (w :World) (hl :L.length≤1600) (hL :Ak w sl L) (hX :Xt w xv X) :
  Calls Tryz.prog 61 #[sl,xv] w fun e w'=>e= .returned (.int .i64 (D9 (Cu X 0 0 none L))) ∧w'=w :=by
 obtain ⟨hx,bx,ox,cx,rfl,hc⟩ :=hX
 rcases Nat.eq_zero_or_pos L.length with h0 | h0
 ·have e :L= [] :=List.length_eq_zero_iff.1 h0
  subst e
  obtain ⟨ao,cap,rfl⟩ :=hL.shape
  exact Zo ao cap _ w
 ·obtain ⟨b,off,cap,rfl,hb,hcap,hm,hcell⟩ :=hL.at h0
  exact Ab6 b off cap bx ox cx L X w hl hx hcell hc
end Go.Proofs.YtifjaegfpdjikaaGreatDoor


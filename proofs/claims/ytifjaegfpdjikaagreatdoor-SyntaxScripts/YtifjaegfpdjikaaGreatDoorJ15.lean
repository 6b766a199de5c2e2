/-
  6 texts of this proof in one, in build order: RAtom5, RAtom6, RAtom7, RAtom8, RExpr2, RStm1.
-/
import Derived.Deep.Cut
import Derived.Deep.RegionHeld3
import Derived.Test.YtifjaegfpdjikaaGreatDoorJ13
import Derived.Test.YtifjaegfpdjikaaGreatDoorJ14
set_option linter.unusedSimpArgs false
set_option linter.unusedVariables false
namespace Go.Proofs.YtifjaegfpdjikaaGreatDoor
open Go.RowKit
set_option maxRecDepth 100000 in
set_option maxHeartbeats 4000000 in
theorem Uw (d :Int) (hd :d≠0) (a x c :Wd) (hm :x≠D1) (hnb :a=As→c≠Aq) (sl :Value) (w :World) (hL :Ak w sl [a,x,c]) :
  Calls Tryz.prog 114 #[sl, .int .i64 d] w (Bj (none) w) :=by
 have hd0 : (d==0) =false :=by simpa using hd
 generalize hW :w.alloc (.cells Ap 37) =W
 have HW :Hid _ :=hW
 have hb0 :Below w.heap.size w W :=by rw [←hW];exact (Below.refl _ _).alloc (Nat.le_refl _) _
 have b0 :W.heap[w.heap.size]? =some (.cells Ap 37) :=by rw [←hW];exact Ad w _
 have HWs :Hid (W.heap.size=w.heap.size+1) :=by rw [Hid,←hW];exact World.size_alloc _ _
 clear hW
 obtain ⟨b,off,cap,rfl,hcap,hcell⟩ :=A0 (hL.below hb0) (by simp)
 have c0 :W.cell? ⟨b,off,none⟩ =some (.string a) :=hcell 0 _ rfl
 have c1 :W.cell? ⟨b,off+1,none⟩ =some (.string x) :=hcell 1 _ rfl
 have c2 :W.cell? ⟨b,off+2,none⟩ =some (.string c) :=hcell 2 _ rfl
 obtain ⟨hblw,_,_,hcw⟩ :=A7 hL (by simp)
 have _ :Hid (∀V,Below w.heap.size w V→V.cell? ⟨b,off,none⟩ =some (.string a) ∧V.cell? ⟨b,off+1,none⟩ =some (.string x) ∧V.cell? ⟨b,off+2,none⟩ =some (.string c)) :=fun V h=> ⟨(h.cell (p := ⟨b,off,none⟩) hblw).trans (hcw 0 _ rfl),(h.cell (p := ⟨b,off+1,none⟩) hblw).trans (hcw 1 _ rfl),(h.cell (p := ⟨b,off+2,none⟩) hblw).trans (hcw 2 _ rfl)⟩
 clear hcw hblw
 clear hcell hcap
 simp only [List.length_cons,List.length_nil,Nat.zero_add,Nat.reduceAdd] at*
 obtain ⟨⟨r0,r1,r2,r3,r4,r5,r6,r7⟩,f0,f1,f2,f3,f4,f5,f6,f7⟩ :=Ca b0
 have hm0 : (x.toList== [46]) =false :=by rw [An];simpa using hm
 clear hL
 go_enter Tryz.func114,Tryz.ntmps114
 go_upto_region 5 with fail
 rw [HW.out]
 go_cut [24] from 25 (fun s24 wx=>s24= .bool false∧wx=W)
 case first=>
  by_cases hop :a=As
  ·have hbx : (a.toList== [40]) =true :=by rw [An];simpa using hop
   have hby : (c.toList== [41]) =false :=by rw [An];simpa using (hnb hop)
   go_wp2_with fail
   go_meet
   case rel=>exact ⟨rfl,rfl⟩
  ·have hbx : (a.toList== [40]) =false :=by rw [An];simpa using hop
   go_wp2_with fail
   go_meet
   case rel=>exact ⟨rfl,rfl⟩
 case rest=>
  obtain ⟨rfl,hwc⟩ :=hcut
  rw [hwc]
  clear hwc
  go_wp2_with fail
  exact bodyPost_ret (v := .tuple #[.agg (A2 0 zero noW noW 0 (.slice none 0 0)), .bool false]) (by simp [results,Tryz.results114,go_sem,r0,r1,r2,r3,r4,r5,r6,r7];exact ⟨rfl,rfl,rfl⟩) rfl ⟨_,_,_,rfl,Dy _ _,rfl,Bk hb0 (Nat.le_refl _) _ _ _ _ _ _ _ _⟩
set_option maxRecDepth 100000 in
set_option maxHeartbeats 4000000 in
theorem Tb (d :Int) (hd :d≠0) (a c :Wd) (hna :nm a=false) (hnb :a=As→c≠Aq) (sl :Value) (w :World) (he :Env w) (hL :Ak w sl [a,D1,c]) :
  Calls Tryz.prog 114 #[sl, .int .i64 d] w (Bj (none) w) :=by
 have hd0 : (d==0) =false :=by simpa using hd
 generalize hW :w.alloc (.cells Ap 37) =W
 have HW :Hid _ :=hW
 have hb0 :Below w.heap.size w W :=by rw [←hW];exact (Below.refl _ _).alloc (Nat.le_refl _) _
 have b0 :W.heap[w.heap.size]? =some (.cells Ap 37) :=by rw [←hW];exact Ad w _
 have HWs :Hid (W.heap.size=w.heap.size+1) :=by rw [Hid,←hW];exact World.size_alloc _ _
 clear hW
 obtain ⟨b,off,cap,rfl,hcap,hcell⟩ :=A0 (hL.below hb0) (by simp)
 have c0 :W.cell? ⟨b,off,none⟩ =some (.string a) :=hcell 0 _ rfl
 have c1 :W.cell? ⟨b,off+1,none⟩ =some (.string D1) :=hcell 1 _ rfl
 have c2 :W.cell? ⟨b,off+2,none⟩ =some (.string c) :=hcell 2 _ rfl
 obtain ⟨hblw,_,_,hcw⟩ :=A7 hL (by simp)
 have KS :Hid (∀V,Below w.heap.size w V→V.cell? ⟨b,off,none⟩ =some (.string a) ∧V.cell? ⟨b,off+1,none⟩ =some (.string D1) ∧V.cell? ⟨b,off+2,none⟩ =some (.string c)) :=fun V h=> ⟨(h.cell (p := ⟨b,off,none⟩) hblw).trans (hcw 0 _ rfl),(h.cell (p := ⟨b,off+1,none⟩) hblw).trans (hcw 1 _ rfl),(h.cell (p := ⟨b,off+2,none⟩) hblw).trans (hcw 2 _ rfl)⟩
 clear hcw hblw
 clear hcell hcap
 simp only [List.length_cons,List.length_nil,Nat.zero_add,Nat.reduceAdd] at*
 have NA :=Ey a W.drew (he.next hb0.drew)
 rw [hna] at NA
 clear hL
 go_enter Tryz.func114,Tryz.ntmps114
 go_upto_region 5 with fail
 rw [HW.out]
 go_cut [24] from 25 (fun s24 wx=>s24= .bool false∧wx=W)
 case first=>
  by_cases hop :a=As
  ·have hbx : (a.toList== [40]) =true :=by rw [An];simpa using hop
   have hby : (c.toList== [41]) =false :=by rw [An];simpa using (hnb hop)
   go_wp2_with fail
   go_meet
   case rel=>exact ⟨rfl,rfl⟩
  ·have hbx : (a.toList== [40]) =false :=by rw [An];simpa using hop
   go_wp2_with fail
   go_meet
   case rel=>exact ⟨rfl,rfl⟩
 case rest=>
  obtain ⟨rfl,hwc⟩ :=hcut
  rw [hwc]
  clear hwc
  go_upto_region 23 with fail
  refine wp_region_held_drew (S :=fun w'=>w'.cell? ⟨b,off,none⟩ =some (.string a) ∧w'.cell? ⟨b,off+1,none⟩ =some (.string D1) ∧w'.cell? ⟨b,off+2,none⟩ =some (.string c)) (by kernel_rfl) ?_ (fun hHeld=> ?_)
  ·exact KS.out _ hb0.drew
  refine wpAnyH_take (i :=0) (oi := {dst :=some 176,op :=Go.Op.move (Go.Operand.tmp 0),type :=32,pos := "low.go:381",after := #[],guard :=none}) (v := ?_) rfl (by kernel_rfl) (by kernel_rfl) (by kernel_rfl) (fun _ _ _ h=>h) (Or.inl ⟨by rfl, ?_⟩) (by assumption) ?_
  rotate_left
  ·intro w hSw;(try dsimp only at hSw);go_simp;all_goals (with_reducible rfl)
  try simp only [Act.put,List.setIfInBounds_toArray,List.set_cons_zero,List.set_cons_succ]
  refine wpAnyH_take (i :=1) (oi := {dst :=some 177,op :=Go.Op.indexAddr 32 (Go.Operand.tmp 176) (Go.Operand.const (Go.Value.int Go.IntKind.i64 0)),type :=0,pos := "low.go:381",after := #[{on :=0,ground :=Go.Ground.data}],guard :=none}) (v := ?_) rfl (by kernel_rfl) (by kernel_rfl) (by kernel_rfl) (fun _ _ _ h=>h) (Or.inl ⟨by rfl, ?_⟩) (by assumption) ?_
  rotate_left
  ·intro w hSw;(try dsimp only at hSw);go_simp;all_goals (with_reducible rfl)
  try simp only [Act.put,List.setIfInBounds_toArray,List.set_cons_zero,List.set_cons_succ]
  refine wpAnyH_take (i :=2) (oi := {dst :=some 178,op :=Go.Op.load 9 (Go.Operand.tmp 177),type :=9,pos := "low.go:381",after := #[{on :=1,ground :=Go.Ground.data}],guard :=none}) (v := ?_) rfl (by kernel_rfl) (by kernel_rfl) (by kernel_rfl) (fun _ _ _ h=>h) (Or.inl ⟨by rfl, ?_⟩) (by assumption) ?_
  rotate_left
  ·intro w hSw;(try dsimp only at hSw);go_simp;all_goals (with_reducible rfl)
  try simp only [Act.put,List.setIfInBounds_toArray,List.set_cons_zero,List.set_cons_succ]
  refine wpAnyH_take (i :=3) (oi := {dst :=some 179,op :=Go.Op.move (Go.Operand.tmp 0),type :=32,pos := "low.go:381",after := #[],guard :=none}) (v := ?_) rfl (by kernel_rfl) (by kernel_rfl) (by kernel_rfl) (fun _ _ _ h=>h) (Or.inl ⟨by rfl, ?_⟩) (by assumption) ?_
  rotate_left
  ·intro w hSw;(try dsimp only at hSw);go_simp;all_goals (with_reducible rfl)
  try simp only [Act.put,List.setIfInBounds_toArray,List.set_cons_zero,List.set_cons_succ]
  refine wpAnyH_take (i :=4) (oi := {dst :=some 180,op :=Go.Op.indexAddr 32 (Go.Operand.tmp 179) (Go.Operand.const (Go.Value.int Go.IntKind.i64 2)),type :=0,pos := "low.go:381",after := #[{on :=3,ground :=Go.Ground.data}],guard :=none}) (v := ?_) rfl (by kernel_rfl) (by kernel_rfl) (by kernel_rfl) (fun _ _ _ h=>h) (Or.inl ⟨by rfl, ?_⟩) (by assumption) ?_
  rotate_left
  ·intro w hSw;(try dsimp only at hSw);go_simp;all_goals (with_reducible rfl)
  try simp only [Act.put,List.setIfInBounds_toArray,List.set_cons_zero,List.set_cons_succ]
  refine wpAnyH_take (i :=5) (oi := {dst :=some 181,op :=Go.Op.load 9 (Go.Operand.tmp 180),type :=9,pos := "low.go:381",after := #[{on :=4,ground :=Go.Ground.data}],guard :=none}) (v := ?_) rfl (by kernel_rfl) (by kernel_rfl) (by kernel_rfl) (fun _ _ _ h=>h) (Or.inl ⟨by rfl, ?_⟩) (by assumption) ?_
  rotate_left
  ·intro w hSw;(try dsimp only at hSw);go_simp;all_goals (with_reducible rfl)
  try simp only [Act.put,List.setIfInBounds_toArray,List.set_cons_zero,List.set_cons_succ]
  refine wpAnyH_take (i :=6) (oi := {dst :=some 182,op :=Go.Op.build 37 #[(0,Go.Operand.const (Go.Value.int Go.IntKind.i64 2)),(2,Go.Operand.tmp 178),(3,Go.Operand.tmp 181)],type :=37,pos := "low.go:381",after := #[{on :=2,ground :=Go.Ground.data},{on :=5,ground :=Go.Ground.data}],guard :=none}) (v := ?_) rfl (by kernel_rfl) (by kernel_rfl) (by kernel_rfl) (fun _ _ _ h=>h) (Or.inl ⟨by rfl, ?_⟩) (by assumption) ?_
  rotate_left
  ·intro w hSw;(try dsimp only at hSw);go_simp;all_goals (with_reducible rfl)
  try simp only [Act.put,List.setIfInBounds_toArray,List.set_cons_zero,List.set_cons_succ]
  refine wpAnyH_take (i :=7) (oi := {dst :=some 183,op :=Go.Op.move (Go.Operand.tmp 0),type :=32,pos := "low.go:381",after := #[],guard :=none}) (v := ?_) rfl (by kernel_rfl) (by kernel_rfl) (by kernel_rfl) (fun _ _ _ h=>h) (Or.inl ⟨by rfl, ?_⟩) (by assumption) ?_
  rotate_left
  ·intro w hSw;(try dsimp only at hSw);go_simp;all_goals (with_reducible rfl)
  try simp only [Act.put,List.setIfInBounds_toArray,List.set_cons_zero,List.set_cons_succ]
  refine wpAnyH_take (i :=8) (oi := {dst :=some 184,op :=Go.Op.indexAddr 32 (Go.Operand.tmp 183) (Go.Operand.const (Go.Value.int Go.IntKind.i64 0)),type :=0,pos := "low.go:381",after := #[{on :=7,ground :=Go.Ground.data}],guard :=none}) (v := ?_) rfl (by kernel_rfl) (by kernel_rfl) (by kernel_rfl) (fun _ _ _ h=>h) (Or.inl ⟨by rfl, ?_⟩) (by assumption) ?_
  rotate_left
  ·intro w hSw;(try dsimp only at hSw);go_simp;all_goals (with_reducible rfl)
  try simp only [Act.put,List.setIfInBounds_toArray,List.set_cons_zero,List.set_cons_succ]
  refine wpAnyH_take (i :=9) (oi := {dst :=some 185,op :=Go.Op.load 9 (Go.Operand.tmp 184),type :=9,pos := "low.go:381",after := #[{on :=8,ground :=Go.Ground.data}],guard :=none}) (v := ?_) rfl (by kernel_rfl) (by kernel_rfl) (by kernel_rfl) (fun _ _ _ h=>h) (Or.inl ⟨by rfl, ?_⟩) (by assumption) ?_
  rotate_left
  ·intro w hSw;(try dsimp only at hSw);go_simp;all_goals (with_reducible rfl)
  try simp only [Act.put,List.setIfInBounds_toArray,List.set_cons_zero,List.set_cons_succ]
  refine wpAnyH_ready (rs := [10]) (by kernel_rfl) (by simp) ?_
  refine AllReadyH.cons (o := {dst :=some 186,op :=Go.Op.call {callee :=Go.Callee.value (Go.Operand.func 7),args := #[Go.Operand.tmp 185],argTypes := #[9]},type :=4,pos := "low.go:381",after := #[{on :=9,ground :=Go.Ground.data}],guard :=none}) rfl (fun K hK=> ?_) AllReadyH.nil
  go_simp
  (go_at_call 7;refine (NA).mono ?_;rintro e w1 ⟨rfl,hb1⟩;have b1 := (hb1.block _ (lt_of_block (w :=W.drew) b0)).trans b0;obtain ⟨⟨r0,r1,r2,r3,r4,r5,r6,r7⟩,f0,f1,f2,f3,f4,f5,f6,f7⟩ :=Ca b1;have hz :Below w.heap.size w w1 :=hb0.drew.trans (hb1.mono hb0.size))
  go_wp2_with fail
  refine hK.out _ _ ?_ (fun hHeld=> ?_)
  ·exact KS.out _ hz
  clear hK K
  try simp only [Act.put,List.setIfInBounds_toArray,List.set_cons_zero,List.set_cons_succ]
  refine wpAnyH_take (i :=11) (oi := {dst :=some 187,op :=Go.Op.move (Go.Operand.tmp 186),type :=4,pos := "low.go:381",after := #[{on :=10,ground :=Go.Ground.data},{on :=10,ground :=Go.Ground.chain}],guard :=none}) (v := ?_) rfl (by kernel_rfl) (by kernel_rfl) (by kernel_rfl) (fun _ _ _ h=>h) (Or.inl ⟨by rfl, ?_⟩) (by assumption) ?_
  rotate_left
  ·intro w hSw;(try dsimp only at hSw);go_simp;all_goals (with_reducible rfl)
  try simp only [Act.put,List.setIfInBounds_toArray,List.set_cons_zero,List.set_cons_succ]
  refine wpAnyH_take (i :=12) (oi := {dst :=some 188,op :=Go.Op.move (Go.Operand.tmp 0),type :=32,pos := "low.go:381",after := #[{on :=11,ground :=Go.Ground.guard}],guard :=some (11,true)}) (v :=undef) rfl (by kernel_rfl) (by kernel_rfl) (by kernel_rfl) (fun _ _ _ h=>h) (Or.inr ⟨by rfl,rfl⟩) (by assumption) ?_
  try simp only [Act.put,List.setIfInBounds_toArray,List.set_cons_zero,List.set_cons_succ]
  refine wpAnyH_take (i :=13) (oi := {dst :=some 189,op :=Go.Op.indexAddr 32 (Go.Operand.tmp 188) (Go.Operand.const (Go.Value.int Go.IntKind.i64 2)),type :=0,pos := "low.go:381",after := #[{on :=12,ground :=Go.Ground.data},{on :=11,ground :=Go.Ground.guard}],guard :=some (11,true)}) (v :=undef) rfl (by kernel_rfl) (by kernel_rfl) (by kernel_rfl) (fun _ _ _ h=>h) (Or.inr ⟨by rfl,rfl⟩) (by assumption) ?_
  try simp only [Act.put,List.setIfInBounds_toArray,List.set_cons_zero,List.set_cons_succ]
  refine wpAnyH_take (i :=14) (oi := {dst :=some 190,op :=Go.Op.load 9 (Go.Operand.tmp 189),type :=9,pos := "low.go:381",after := #[{on :=13,ground :=Go.Ground.data},{on :=11,ground :=Go.Ground.guard}],guard :=some (11,true)}) (v :=undef) rfl (by kernel_rfl) (by kernel_rfl) (by kernel_rfl) (fun _ _ _ h=>h) (Or.inr ⟨by rfl,rfl⟩) (by assumption) ?_
  try simp only [Act.put,List.setIfInBounds_toArray,List.set_cons_zero,List.set_cons_succ]
  refine wpAnyH_take (i :=15) (oi := {dst :=some 191,op :=Go.Op.call {callee :=Go.Callee.value (Go.Operand.func 7),args := #[Go.Operand.tmp 190],argTypes := #[9]},type :=4,pos := "low.go:381",after := #[{on :=14,ground :=Go.Ground.data},{on :=11,ground :=Go.Ground.chain},{on :=11,ground :=Go.Ground.guard}],guard :=some (11,true)}) (v :=undef) rfl (by kernel_rfl) (by kernel_rfl) (by kernel_rfl) (fun _ _ _ h=>h) (Or.inr ⟨by rfl,rfl⟩) (by assumption) ?_
  try simp only [Act.put,List.setIfInBounds_toArray,List.set_cons_zero,List.set_cons_succ]
  refine wpAnyH_take (i :=16) (oi := {dst :=some 192,op :=Go.Op.pick (Go.Operand.tmp 187) (Go.Operand.tmp 191) (Go.Operand.const (Go.Value.bool false)),type :=4,pos := "low.go:381",after := #[{on :=11,ground :=Go.Ground.data},{on :=15,ground :=Go.Ground.data},{on :=17,ground :=Go.Ground.gcOnly Go.Departure.lateStores}],guard :=none}) (v := ?_) rfl (by kernel_rfl) (by kernel_rfl) (by kernel_rfl) (fun _ _ _ h=>h) (Or.inl ⟨by rfl, ?_⟩) (by assumption) ?_
  rotate_left
  ·intro w hSw;(try dsimp only at hSw);go_simp;all_goals (with_reducible rfl)
  try simp only [Act.put,List.setIfInBounds_toArray,List.set_cons_zero,List.set_cons_succ]
  refine wpAnyH_ready (rs := [17]) (by kernel_rfl) (by simp) ?_
  refine AllReadyH.cons (o := {dst :=none,op :=Go.Op.store 37 (Go.Operand.tmp 4) (Go.Operand.tmp 182),type :=0,pos := "low.go:381",after := #[{on :=6,ground :=Go.Ground.data},{on :=15,ground :=Go.Ground.chain},{on :=0,ground :=Go.Ground.phase},{on :=1,ground :=Go.Ground.phase},{on :=2,ground :=Go.Ground.phase},{on :=3,ground :=Go.Ground.phase},{on :=4,ground :=Go.Ground.phase},{on :=5,ground :=Go.Ground.phase},{on :=6,ground :=Go.Ground.phase},{on :=7,ground :=Go.Ground.textOnly Go.Departure.lateStores},{on :=8,ground :=Go.Ground.textOnly Go.Departure.lateStores},{on :=9,ground :=Go.Ground.textOnly Go.Departure.lateStores},{on :=10,ground :=Go.Ground.textOnly Go.Departure.lateStoresUnsure},{on :=11,ground :=Go.Ground.textOnly Go.Departure.lateStores},{on :=12,ground :=Go.Ground.textOnly Go.Departure.lateStores},{on :=13,ground :=Go.Ground.textOnly Go.Departure.lateStores},{on :=14,ground :=Go.Ground.textOnly Go.Departure.lateStores},{on :=15,ground :=Go.Ground.textOnly Go.Departure.lateStoresUnsure},{on :=16,ground :=Go.Ground.textOnly Go.Departure.lateStores}],guard :=none}) rfl (fun K hK=> ?_) AllReadyH.nil
  go_simp
  skip
  go_wp2_with fail
  refine hK.out _ _ ?_ (fun hHeld=> ?_)
  ·exact KS.out _ (Bk hz (Nat.le_refl _) _ _ _ _ _ _ _ _)
  clear hK K
  try simp only [Act.put,List.setIfInBounds_toArray,List.set_cons_zero,List.set_cons_succ]
  refine wpAnyH_take (i :=18) (oi := {dst :=some 5,op :=Go.Op.assign (Go.Operand.tmp 192),type :=4,pos := "low.go:381",after := #[{on :=16,ground :=Go.Ground.data},{on :=17,ground :=Go.Ground.chain},{on :=0,ground :=Go.Ground.phase},{on :=1,ground :=Go.Ground.phase},{on :=2,ground :=Go.Ground.phase},{on :=3,ground :=Go.Ground.phase},{on :=4,ground :=Go.Ground.phase},{on :=5,ground :=Go.Ground.phase},{on :=6,ground :=Go.Ground.phase},{on :=7,ground :=Go.Ground.phase},{on :=8,ground :=Go.Ground.phase},{on :=9,ground :=Go.Ground.phase},{on :=10,ground :=Go.Ground.phase},{on :=11,ground :=Go.Ground.phase},{on :=12,ground :=Go.Ground.phase},{on :=13,ground :=Go.Ground.phase},{on :=14,ground :=Go.Ground.phase},{on :=15,ground :=Go.Ground.phase},{on :=16,ground :=Go.Ground.phase},{on :=17,ground :=Go.Ground.phase}],guard :=none}) (v := ?_) rfl (by kernel_rfl) (by kernel_rfl) (by kernel_rfl) (fun _ _ _ h=>h) (Or.inl ⟨by rfl, ?_⟩) (by assumption) ?_
  rotate_left
  ·intro w hSw;(try dsimp only at hSw);go_simp;all_goals (with_reducible rfl)
  try simp only [Act.put,List.setIfInBounds_toArray,List.set_cons_zero,List.set_cons_succ]
  refine wpAnyH_done (by kernel_rfl) ?_ _
  go_wp2_with fail
  exact bodyPost_ret (v := .tuple #[.agg #[.int .i64 2, .int .i64 zero.k, .int .i64 zero.n, .string zero.s, .string a, .string c, .int .i64 0, .slice none 0 0], .bool false]) (by simp [results,Tryz.results114,go_sem,r0,r1,r2,r3,r4,r5,r6,r7];exact ⟨rfl,rfl,rfl⟩) rfl ⟨_,_,_,rfl,Jy _ _ a c,rfl,Bk hz (Nat.le_refl _) _ _ _ _ _ _ _ _⟩
end Go.Proofs.YtifjaegfpdjikaaGreatDoor

namespace Go.Proofs.YtifjaegfpdjikaaGreatDoor
open Go.RowKit
set_option maxRecDepth 100000 in
set_option maxHeartbeats 4000000 in
theorem Vw (d :Int) (hd :d≠0) (L :List Wd) (x y :Wd) (sl :Value) (w :World) (h4 :3<L.length) (hl :L.length≤1600) (hL :Ak w sl L) (hx :L[0]? =some x) (hy :L[L.length - 1]? =some y) (hnb :x=As→y≠Aq) :
  Calls Tryz.prog 114 #[sl, .int .i64 d] w (Bj none w) :=by
 have hd0 : (d==0) =false :=by simpa using hd
 generalize hW :w.alloc (.cells Ap 37) =W
 have HW :Hid _ :=hW
 have hb0 :Below w.heap.size w W :=by rw [←hW];exact (Below.refl _ _).alloc (Nat.le_refl _) _
 have b0 :W.heap[w.heap.size]? =some (.cells Ap 37) :=by rw [←hW];exact Ad w _
 have HWs :Hid (W.heap.size=w.heap.size+1) :=by rw [Hid,←hW];exact World.size_alloc _ _
 clear hW
 obtain ⟨b,off,cap,rfl,hcap,hcell⟩ :=A0 (hL.below hb0) (by omega)
 have hcx :W.cell? ⟨b,off,none⟩ =some (.string x) :=hcell 0 x hx
 have hcy :=hcell (L.length - 1) y hy
 obtain ⟨⟨r0,r1,r2,r3,r4,r5,r6,r7⟩,f0,f1,f2,f3,f4,f5,f6,f7⟩ :=Ca b0
 have q0 : ((L.length :Int) ==0) =false :=beq_eq_false_iff_ne.2 (by omega)
 have q1 : ((L.length :Int) ==1) =false :=beq_eq_false_iff_ne.2 (by omega)
 have q2 : ((L.length :Int) ==2) =false :=beq_eq_false_iff_ne.2 (by omega)
 have q3 : ((L.length :Int) ==3) =false :=beq_eq_false_iff_ne.2 (by omega)
 have HNB :Hid _ :=hnb
 clear hcell hL hx hy hnb
 generalize L.length=nn at*
 clear L
 go_enter Tryz.func114,Tryz.ntmps114
 go_upto_region 5 with fail
 rw [HW.out]
 go_cut [24] from 25 (fun s24 wx=>s24= .bool false∧wx=W)
 case first=>
  by_cases hop :x=As
  ·have hbx : (x.toList== [40]) =true :=by rw [An];simpa using hop
   have hby : (y.toList== [41]) =false :=by rw [An];simpa using (HNB.out hop)
   go_wp2_with fail
   go_meet
   case rel=>exact ⟨rfl,rfl⟩
  ·have hbx : (x.toList== [40]) =false :=by rw [An];simpa using hop
   go_wp2_with fail
   go_meet
   case rel=>exact ⟨rfl,rfl⟩
 case rest=>
  obtain ⟨rfl,hwc⟩ :=hcut
  rw [hwc]
  clear hwc
  go_wp2_with fail
  exact bodyPost_ret (v := .tuple #[.agg (A2 0 zero noW noW 0 (.slice none 0 0)), .bool false]) (by simp [results,Tryz.results114,go_sem,r0,r1,r2,r3,r4,r5,r6,r7];exact ⟨rfl,rfl,rfl⟩) rfl ⟨_,_,_,rfl,Dy _ _,rfl,Bk hb0 (Nat.le_refl _) _ _ _ _ _ _ _ _⟩
set_option maxRecDepth 100000 in
set_option maxHeartbeats 4000000 in
theorem Tc (d :Int) (hd :d≠0) (L :List Wd) (sl :Value) (w :World) (h3 :2<L.length) (hl :L.length≤1600) (hL :Ak w sl L) (hx :L[0]? =some As) (hy :L[L.length - 1]? =some Aq) (i j :Nat) (hc :B1 [Aq] 0 0 (Ez L) =some (i,j)) :
  Calls Tryz.prog 114 #[sl, .int .i64 d] w (Bj none w) :=by
 have hd0 : (d==0) =false :=by simpa using hd
 generalize hW :w.alloc (.cells Ap 37) =W
 have HW :Hid _ :=hW
 have hb0 :Below w.heap.size w W :=by rw [←hW];exact (Below.refl _ _).alloc (Nat.le_refl _) _
 have b0 :W.heap[w.heap.size]? =some (.cells Ap 37) :=by rw [←hW];exact Ad w _
 have HWs :Hid (W.heap.size=w.heap.size+1) :=by rw [Hid,←hW];exact World.size_alloc _ _
 clear hW
 obtain ⟨b,off,cap,rfl,hcap,hcell⟩ :=A0 (hL.below hb0) (by omega)
 have hcx :W.cell? ⟨b,off,none⟩ =some (.string As) :=hcell 0 _ hx
 have hcy :=hcell (L.length - 1) _ hy
 have hml : (Ez L).length=L.length - 2 :=by simp [Ez];omega
 have CU :=Gu (.slice (some ⟨b,off+1,none⟩) (L.length - 2) (cap - 1)) _ (Ez L) [Aq] _ (by omega) ((Lt (by omega) (hL.below hb0)).below ((Below.refl _ _).alloc (Nat.le_refl _) (.cells #[.string Aq] 9))) (Gv W Aq)
 rw [hc] at CU
 have q0 : ((L.length :Int) ==0) =false :=beq_eq_false_iff_ne.2 (by omega)
 have q2 : (2 :Int) < (L.length :Int) :=by omega
 have hn2 :2≤L.length :=by omega
 clear hcell hL hx hy hml hc
 generalize L.length=nn at*
 go_enter Tryz.func114,Tryz.ntmps114
 go_upto_region 5 with fail
 rw [HW.out]
 go_wp2_with (go_at_call 31;go_must (go_fit CU;rintro e w2 ⟨a,c,k,rfl,⟨hs,rfl,hil⟩,hb2⟩;clear hs;have hz :Below w.heap.size w w2 := (hb0.alloc hb0.size _).trans (hb2.mono (hb0.alloc hb0.size _).size);have b2 := (hb2.block _ (lt_of_block (Ae b0 _))).trans (Ae b0 _);obtain ⟨⟨r0,r1,r2,r3,r4,r5,r6,r7⟩,f0,f1,f2,f3,f4,f5,f6,f7⟩ :=Ca b2))
 exact bodyPost_ret (v := .tuple #[.agg (A2 0 zero noW noW 0 (.slice none 0 0)), .bool false]) (by simp [results,Tryz.results114,go_sem,r0,r1,r2,r3,r4,r5,r6,r7];exact ⟨rfl,rfl,rfl⟩) rfl ⟨_,_,_,rfl,Dy _ _,rfl,Bk hz (Nat.le_refl _) _ _ _ _ _ _ _ _⟩
set_option maxRecDepth 100000 in
set_option maxHeartbeats 4000000 in
theorem Td (d :Int) (hd :d≠0) (hd1 :0≤d) (hd2 :d≤100) (RS :Option E) (L :List Wd) (sl :Value) (w :World) (h3 :2<L.length) (hl :L.length≤1600) (hL :Ak w sl L) (hx :L[0]? =some As) (hy :L[L.length - 1]? =some Aq) (hc :B1 [Aq] 0 0 (Ez L) =none) (hT : ∀W sl,Below w.heap.size w W→Ak W sl (Ez L) →Calls Tryz.prog 32 #[sl, .int .i64 (d - 1)] W (Bj RS W)) :
  Calls Tryz.prog 114 #[sl, .int .i64 d] w (Bj RS w) :=by
 have hd0 : (d==0) =false :=by simpa using hd
 generalize hW :w.alloc (.cells Ap 37) =W
 have HW :Hid _ :=hW
 have hb0 :Below w.heap.size w W :=by rw [←hW];exact (Below.refl _ _).alloc (Nat.le_refl _) _
 have b0 :W.heap[w.heap.size]? =some (.cells Ap 37) :=by rw [←hW];exact Ad w _
 have HWs :Hid (W.heap.size=w.heap.size+1) :=by rw [Hid,←hW];exact World.size_alloc _ _
 clear hW
 obtain ⟨b,off,cap,rfl,hcap,hcell⟩ :=A0 (hL.below hb0) (by omega)
 have hcx :W.cell? ⟨b,off,none⟩ =some (.string As) :=hcell 0 _ hx
 have hcy :=hcell (L.length - 1) _ hy
 have hml : (Ez L).length=L.length - 2 :=by simp [Ez];omega
 have CU :=Gu (.slice (some ⟨b,off+1,none⟩) (L.length - 2) (cap - 1)) _ (Ez L) [Aq] _ (by omega) ((Lt (by omega) (hL.below hb0)).below ((Below.refl _ _).alloc (Nat.le_refl _) (.cells #[.string Aq] 9))) (Gv W Aq)
 rw [hc] at CU
 have q0 : ((L.length :Int) ==0) =false :=beq_eq_false_iff_ne.2 (by omega)
 have q2 : (2 :Int) < (L.length :Int) :=by omega
 have hn2 :2≤L.length :=by omega
 have TF :Hid (∀V,Below w.heap.size w V→_) :=fun V h=>hT V _ h (Lt (by omega) (hL.below h))
 clear hcell hL hx hy hml hc hT
 generalize L.length=nn at*
 go_enter Tryz.func114,Tryz.ntmps114
 go_upto_region 5 with fail
 rw [HW.out]
 go_wp2_with (first
  | (go_at_call 31;go_must (go_fit CU;rintro e w1 ⟨a,c,k,rfl,⟨rfl,rfl,rfl⟩,hb1⟩;have hz :Below w.heap.size w w1 := (hb0.alloc hb0.size _).trans (hb1.mono (hb0.alloc hb0.size _).size);have b1 := (hb1.block _ (lt_of_block (Ae b0 _))).trans (Ae b0 _);have TM :=TF.out w1 hz))
  | (go_at_call 32;go_must (go_fit TM;rintro e w2 ⟨v,ok,x1,rfl,hE,hR,hb2⟩;have HR :Hid _ :=hR;clear hR;have b2 := (hb2.block _ (lt_of_block b1)).trans b1;obtain ⟨op,xv,xs,nmv,xn,ao,kk,c,rfl⟩ :=hE.shape;obtain ⟨xk,xi,xs2⟩ :=xv;obtain ⟨⟨r0,r1,r2,r3,r4,r5,r6,r7⟩,f0,f1,f2,f3,f4,f5,f6,f7⟩ :=Ca b2)))
 obtain ⟨hN,hBN⟩ :=Ih (w1 :=w1) hz (by have :=HWs.out;have :=hz.size;have :=hb1.size;rw [World.size_alloc] at this;omega) hb2 hE
 exact bodyPost_ret (v := .tuple #[.agg #[.int .i64 op, .int .i64 xk, .int .i64 xi, .string xs2, .string xs, .string nmv, .int .i64 xn, .slice ao kk c], .bool ok]) (by simp [results,Tryz.results114,go_sem,r0,r1,r2,r3,r4,r5,r6,r7]) rfl ⟨_,_,_,rfl,hN,HR.out,hBN⟩
end Go.Proofs.YtifjaegfpdjikaaGreatDoor

namespace Go.Proofs.YtifjaegfpdjikaaGreatDoor
open Go.RowKit
set_option maxRecDepth 100000 in
set_option maxHeartbeats 4000000 in
theorem Te (d :Int) (hd :d≠0) (a c :Wd) (hna :nm a=true) (hnc :nm c=false) (hnb :a=As→c≠Aq) (sl :Value) (w :World) (he :Env w) (hL :Ak w sl [a,D1,c]) :
  Calls Tryz.prog 114 #[sl, .int .i64 d] w (Bj (none) w) :=by
 have hd0 : (d==0) =false :=by simpa using hd
 generalize hW :w.alloc (.cells Ap 37) =W
 have HW :Hid _ :=hW
 have hb0 :Below w.heap.size w W :=by rw [←hW];exact (Below.refl _ _).alloc (Nat.le_refl _) _
 have b0 :W.heap[w.heap.size]? =some (.cells Ap 37) :=by rw [←hW];exact Ad w _
 have HWs :Hid (W.heap.size=w.heap.size+1) :=by rw [Hid,←hW];exact World.size_alloc _ _
 clear hW
 obtain ⟨b,off,cap,rfl,hcap,hcell⟩ :=A0 (hL.below hb0) (by simp)
 have c0 :W.cell? ⟨b,off,none⟩ =some (.string a) :=hcell 0 _ rfl
 have c1 :W.cell? ⟨b,off+1,none⟩ =some (.string D1) :=hcell 1 _ rfl
 have c2 :W.cell? ⟨b,off+2,none⟩ =some (.string c) :=hcell 2 _ rfl
 obtain ⟨hblw,_,_,hcw⟩ :=A7 hL (by simp)
 have KS :Hid (∀V,Below w.heap.size w V→V.cell? ⟨b,off,none⟩ =some (.string a) ∧V.cell? ⟨b,off+1,none⟩ =some (.string D1) ∧V.cell? ⟨b,off+2,none⟩ =some (.string c)) :=fun V h=> ⟨(h.cell (p := ⟨b,off,none⟩) hblw).trans (hcw 0 _ rfl),(h.cell (p := ⟨b,off+1,none⟩) hblw).trans (hcw 1 _ rfl),(h.cell (p := ⟨b,off+2,none⟩) hblw).trans (hcw 2 _ rfl)⟩
 clear hcw hblw
 clear hcell hcap
 simp only [List.length_cons,List.length_nil,Nat.zero_add,Nat.reduceAdd] at*
 have NA :=Ey a W.drew (he.next hb0.drew)
 rw [hna] at NA
 have NC :=fun V (h :Below w.heap.size w V) =>Ey c V (he.next h)
 rw [hnc] at NC
 clear hL
 go_enter Tryz.func114,Tryz.ntmps114
 go_upto_region 5 with fail
 rw [HW.out]
 go_cut [24] from 25 (fun s24 wx=>s24= .bool false∧wx=W)
 case first=>
  by_cases hop :a=As
  ·have hbx : (a.toList== [40]) =true :=by rw [An];simpa using hop
   have hby : (c.toList== [41]) =false :=by rw [An];simpa using (hnb hop)
   go_wp2_with fail
   go_meet
   case rel=>exact ⟨rfl,rfl⟩
  ·have hbx : (a.toList== [40]) =false :=by rw [An];simpa using hop
   go_wp2_with fail
   go_meet
   case rel=>exact ⟨rfl,rfl⟩
 case rest=>
  obtain ⟨rfl,hwc⟩ :=hcut
  rw [hwc]
  clear hwc
  go_upto_region 23 with fail
  go_region_held3 (fun w'=>w'.cell? ⟨b,off,none⟩ =some (.string a) ∧w'.cell? ⟨b,off+1,none⟩ =some (.string D1) ∧w'.cell? ⟨b,off+2,none⟩ =some (.string c)) (with_reducible first | exact KS.out _ hb0.drew | exact KS.out _ hz2 | exact KS.out _ hz | exact KS.out _ (Bk hz2 (Nat.le_refl _) _ _ _ _ _ _ _ _) | exact KS.out _ (Bk hz (Nat.le_refl _) _ _ _ _ _ _ _ _))
   (first
    | (go_at_call 7;refine (NC _ hz).mono ?_;rintro e w2 ⟨rfl,hb2⟩;have b2 := (hb2.block _ (lt_of_block b1)).trans b1;obtain ⟨⟨u0,u1,u2,u3,u4,u5,u6,u7⟩,g0,g1,g2,g3,g4,g5,g6,g7⟩ :=Ca b2;have hz2 :Below w.heap.size w w2 :=hz.trans (hb2.mono hz.size))
    | (go_at_call 7;refine (NA).mono ?_;rintro e w1 ⟨rfl,hb1⟩;have b1 := (hb1.block _ (lt_of_block (w :=W.drew) b0)).trans b0;obtain ⟨⟨r0,r1,r2,r3,r4,r5,r6,r7⟩,f0,f1,f2,f3,f4,f5,f6,f7⟩ :=Ca b1;have hz :Below w.heap.size w w1 :=hb0.drew.trans (hb1.mono hb0.size)))
  go_wp2_with fail
  exact bodyPost_ret (v := .tuple #[.agg #[.int .i64 2, .int .i64 zero.k, .int .i64 zero.n, .string zero.s, .string a, .string c, .int .i64 0, .slice none 0 0], .bool false]) (by simp [results,Tryz.results114,go_sem,u0,u1,u2,u3,u4,u5,u6,u7];exact ⟨rfl,rfl,rfl⟩) rfl ⟨_,_,_,rfl,Jy _ _ a c,rfl,Bk hz2 (Nat.le_refl _) _ _ _ _ _ _ _ _⟩
set_option maxRecDepth 100000 in
set_option maxHeartbeats 4000000 in
theorem Tf (d :Int) (hd :d≠0) (a c :Wd) (hna :nm a=true) (hnc :nm c=true) (hnb :a=As→c≠Aq) (sl :Value) (w :World) (he :Env w) (hL :Ak w sl [a,D1,c]) :
  Calls Tryz.prog 114 #[sl, .int .i64 d] w (Bj (some (Ld a c)) w) :=by
 have hd0 : (d==0) =false :=by simpa using hd
 generalize hW :w.alloc (.cells Ap 37) =W
 have HW :Hid _ :=hW
 have hb0 :Below w.heap.size w W :=by rw [←hW];exact (Below.refl _ _).alloc (Nat.le_refl _) _
 have b0 :W.heap[w.heap.size]? =some (.cells Ap 37) :=by rw [←hW];exact Ad w _
 have HWs :Hid (W.heap.size=w.heap.size+1) :=by rw [Hid,←hW];exact World.size_alloc _ _
 clear hW
 obtain ⟨b,off,cap,rfl,hcap,hcell⟩ :=A0 (hL.below hb0) (by simp)
 have c0 :W.cell? ⟨b,off,none⟩ =some (.string a) :=hcell 0 _ rfl
 have c1 :W.cell? ⟨b,off+1,none⟩ =some (.string D1) :=hcell 1 _ rfl
 have c2 :W.cell? ⟨b,off+2,none⟩ =some (.string c) :=hcell 2 _ rfl
 obtain ⟨hblw,_,_,hcw⟩ :=A7 hL (by simp)
 have KS :Hid (∀V,Below w.heap.size w V→V.cell? ⟨b,off,none⟩ =some (.string a) ∧V.cell? ⟨b,off+1,none⟩ =some (.string D1) ∧V.cell? ⟨b,off+2,none⟩ =some (.string c)) :=fun V h=> ⟨(h.cell (p := ⟨b,off,none⟩) hblw).trans (hcw 0 _ rfl),(h.cell (p := ⟨b,off+1,none⟩) hblw).trans (hcw 1 _ rfl),(h.cell (p := ⟨b,off+2,none⟩) hblw).trans (hcw 2 _ rfl)⟩
 clear hcw hblw
 clear hcell hcap
 simp only [List.length_cons,List.length_nil,Nat.zero_add,Nat.reduceAdd] at*
 have NA :=Ey a W.drew (he.next hb0.drew)
 rw [hna] at NA
 have NC :=fun V (h :Below w.heap.size w V) =>Ey c V (he.next h)
 rw [hnc] at NC
 clear hL
 go_enter Tryz.func114,Tryz.ntmps114
 go_upto_region 5 with fail
 rw [HW.out]
 go_cut [24] from 25 (fun s24 wx=>s24= .bool false∧wx=W)
 case first=>
  by_cases hop :a=As
  ·have hbx : (a.toList== [40]) =true :=by rw [An];simpa using hop
   have hby : (c.toList== [41]) =false :=by rw [An];simpa using (hnb hop)
   go_wp2_with fail
   go_meet
   case rel=>exact ⟨rfl,rfl⟩
  ·have hbx : (a.toList== [40]) =false :=by rw [An];simpa using hop
   go_wp2_with fail
   go_meet
   case rel=>exact ⟨rfl,rfl⟩
 case rest=>
  obtain ⟨rfl,hwc⟩ :=hcut
  rw [hwc]
  clear hwc
  go_upto_region 23 with fail
  go_region_held3 (fun w'=>w'.cell? ⟨b,off,none⟩ =some (.string a) ∧w'.cell? ⟨b,off+1,none⟩ =some (.string D1) ∧w'.cell? ⟨b,off+2,none⟩ =some (.string c)) (with_reducible first | exact KS.out _ hb0.drew | exact KS.out _ hz2 | exact KS.out _ hz | exact KS.out _ (Bk hz2 (Nat.le_refl _) _ _ _ _ _ _ _ _) | exact KS.out _ (Bk hz (Nat.le_refl _) _ _ _ _ _ _ _ _))
   (first
    | (go_at_call 7;refine (NC _ hz).mono ?_;rintro e w2 ⟨rfl,hb2⟩;have b2 := (hb2.block _ (lt_of_block b1)).trans b1;obtain ⟨⟨u0,u1,u2,u3,u4,u5,u6,u7⟩,g0,g1,g2,g3,g4,g5,g6,g7⟩ :=Ca b2;have hz2 :Below w.heap.size w w2 :=hz.trans (hb2.mono hz.size))
    | (go_at_call 7;refine (NA).mono ?_;rintro e w1 ⟨rfl,hb1⟩;have b1 := (hb1.block _ (lt_of_block (w :=W.drew) b0)).trans b0;obtain ⟨⟨r0,r1,r2,r3,r4,r5,r6,r7⟩,f0,f1,f2,f3,f4,f5,f6,f7⟩ :=Ca b1;have hz :Below w.heap.size w w1 :=hb0.drew.trans (hb1.mono hb0.size)))
  go_wp2_with fail
  exact bodyPost_ret (v := .tuple #[.agg #[.int .i64 2, .int .i64 zero.k, .int .i64 zero.n, .string zero.s, .string a, .string c, .int .i64 0, .slice none 0 0], .bool true]) (by simp [results,Tryz.results114,go_sem,u0,u1,u2,u3,u4,u5,u6,u7];exact ⟨rfl,rfl,rfl⟩) rfl ⟨_,_,_,rfl,Jy _ _ a c,rfl,Bk hz2 (Nat.le_refl _) _ _ _ _ _ _ _ _⟩
end Go.Proofs.YtifjaegfpdjikaaGreatDoor

namespace Go.Proofs.YtifjaegfpdjikaaGreatDoor
open Go.RowKit
theorem Ad2 :nm As=false :=by decide
theorem Yh (sub :List Wd→Option E) (D :Nat) (hD :D≤50) (hs :Cz 32 sub (D :Int) 1600) :Cz 114 (G1 sub) ((D :Int) +1) 1600 :=by
 intro sl L w _ hl he hL hw
 have hd : (D :Int) +1≠0 :=by omega
 by_cases hb :L.head? =some As∧L.getLast? =some Aq∧2<L.length
 ·have hx :L[0]? =some As :=by rw [←List.head?_eq_getElem?];exact hb.1
  have hy :L[L.length - 1]? =some Aq :=by rw [←List.getLast?_eq_getElem?];exact hb.2.1
  unfold G1
  rw [if_pos hb]
  cases hc :B1 [Aq] 0 0 ((L.drop 1).take (L.length - 2)) with
  | some r=>
   obtain ⟨i,j⟩ :=r
   exact Tc _ hd L sl w hb.2.2 hl hL hx hy i j hc
  | none=>
   refine Td _ hd (by omega) (by omega) _ L sl w hb.2.2 hl hL hx hy hc (fun W v h1 h2=> ?_)
   rw [show ((D :Int) +1 - 1) = (D :Int) from by omega]
   have hm :Whole (Ez L) := (hw.drop 1).take _
   have hml : (Ez L).length≤1600 :=by simp [Ez];omega
   exact hs v (Ez L) W hml hml (he.next h1) h2 hm
 unfold G1
 rw [if_neg hb]
 match L,hl,hL,hw,hb with
 | [],_,hL,_,_=>
  obtain ⟨ao,cap,rfl⟩ :=hL.shape
  exact Yd _ ao cap w
 | [x],_,hL,hw,_=>
  have htk := (hw x (by simp)).1
  have hsz := (hw x (by simp)).2
  dsimp only
  by_cases hn :x=Be
  ·subst hn
   rw [if_pos rfl]
   exact Vu _ hd sl w hL
  rw [if_neg hn]
  cases hq :fst Bp x with
  | true=>exact Vv _ hd x htk hsz hn hq sl w hL
  | false=>
   simp only [Bool.false_eq_true,if_false]
   cases hdg :fst A3 x with
   | true=>exact Ye _ hd x htk.pos hn hq hdg sl w hL
   | false=>
    simp only [Bool.false_eq_true,if_false]
    cases hnm :nm x with
    | true=>exact Q2 _ hd x htk.pos hn hq hdg hnm sl w he hL
    | false=>exact Q3 _ hd x htk.pos hn hq hdg hnm sl w he hL
 | [a,x],_,hL,_,_=>
  dsimp only
  by_cases hm :a=Bd
  ·subst hm
   rw [if_pos rfl]
   exact Yf _ hd x sl w hL
  ·rw [if_neg hm]
   exact Yg _ hd a x hm sl w hL
 | [a,x,c],_,hL,_,hb=>
  have hnb :a=As→c≠Aq :=fun e1 e2=>hb (by subst e1;subst e2;exact ⟨rfl,rfl,by simp⟩)
  dsimp only
  by_cases hm :x=D1
  ·subst hm
   cases hna :nm a with
   | false=>
    rw [if_neg (by simp)]
    exact Tb _ hd a c hna hnb sl w he hL
   | true=>
    cases hnc :nm c with
    | false=>
     rw [if_neg (by simp)]
     exact Te _ hd a c hna hnc hnb sl w he hL
    | true=>
     rw [if_pos (by simp)]
     exact Tf _ hd a c hna hnc hnb sl w he hL
  ·rw [if_neg (fun h=>hm h.1)]
   exact Uw _ hd a x c hm hnb sl w hL
 | a ::b ::c ::e ::l,hl,hL,_,hb=>
  obtain ⟨y,hy⟩ : ∃y,(a ::b ::c ::e ::l)[(a ::b ::c ::e ::l).length - 1]? =some y := ⟨_,List.getElem?_eq_getElem (by simp)⟩
  exact Vw _ hd (a ::b ::c ::e ::l) a y sl w (by simp) hl hL rfl hy (fun e1 e2=>hb ⟨by subst e1;rfl,by rw [List.getLast?_eq_getElem?,hy,e2],by simp⟩)
end Go.Proofs.YtifjaegfpdjikaaGreatDoor

namespace Go.Proofs.YtifjaegfpdjikaaGreatDoor
open Go.RowKit
set_option maxRecDepth 100000 in
set_option maxHeartbeats 2000000 in
theorem Vx (t :List Wd→Option E) (d :Int) (n :Nat) (ih :Cz 32 (fun L=>D6 Hs (fun _=>8) t n L) d n) (ht :Cz 62 t d 1600) (sl :Value) (L :List Wd) (w :World) (hn :L.length≤n+1) (hl :L.length≤1600) (he :Env w) (hL :Ak w sl L) (hw :Whole L) (i :Nat) (hi :Hs L=some i) :
  Calls Tryz.prog 32 #[sl, .int .i64 d] w (Bj ((D6 Hs (fun _=>8) t n (L.take i)).bind fun a=> (t (L.drop (i+1))).map fun b=>Cd 8 [a,b]) w) :=by
 have hil :i<L.length :=by have :=Wq (fun j hj=>by cases hj) hi;omega
 obtain ⟨b,off,cap,rfl,hcap,hcell⟩ :=A0 hL (by omega)
 generalize hV : ((w.alloc (.cells #[.slice (some ⟨b,off,none⟩) L.length cap] 32)).alloc (.cells #[.int .i64 d] 3)).alloc (.cells Ap 37) =V
 have hbV :Below w.heap.size w V :=by rw [←hV];exact (((Below.refl _ _).alloc (Nat.le_refl _) _).alloc (by simp) _).alloc (by simp;omega) _
 have hVs :V.heap.size=w.heap.size+3 :=by rw [←hV,World.size_alloc,World.size_alloc,World.size_alloc]
 have v0 :V.heap[w.heap.size]? =some (.cells #[.slice (some ⟨b,off,none⟩) L.length cap] 32) :=by rw [←hV];exact Ae (Ae (Ad w _) _) _
 have v1 :V.heap[w.heap.size+1]? =some (.cells #[.int .i64 d] 3) :=by rw [←hV];exact Ae (Fk w _ _) _
 have v2 :V.heap[w.heap.size+2]? =some (.cells Ap 37) :=by
  rw [←hV]
  have :=Ad ((w.alloc (.cells #[.slice (some ⟨b,off,none⟩) L.length cap] 32)).alloc (.cells #[.int .i64 d] 3)) (.cells Ap 37)
  rw [World.size_alloc,World.size_alloc] at this
  exact this
 have LA :=G7 _ _ L [kOr] _ hl ((hL.below hbV).below ((Below.refl _ _).alloc (Nat.le_refl _) _)) (Gv V kOr)
 rw [show Cu [kOr] 0 0 none L=some i from hi,show D9 (some i) = (i :Int) from rfl,hVs] at LA
 rw [←hV] at LA
 generalize hW : (((w.alloc (.cells #[.slice (some ⟨b,off,none⟩) L.length cap] 32)).alloc (.cells #[.int .i64 d] 3)).alloc (.cells Ap 37)).alloc (.cells #[.string kOr] 9) =W at LA
 have HW :Hid _ :=hW
 rw [hV] at hW
 have hb0 :Below w.heap.size w W :=by rw [←hW];exact hbV.alloc hbV.size _
 have b0 :W.heap[w.heap.size+2]? =some (.cells Ap 37) :=by rw [←hW];exact Ae v2 _
 have m0 :W.cell? ⟨w.heap.size,0,none⟩ =some (.slice (some ⟨b,off,none⟩) L.length cap) :=by rw [←hW];exact Aa (Ae v0 _) rfl
 have m1 :W.cell? ⟨w.heap.size+1,0,none⟩ =some (.int .i64 d) :=by rw [←hW];exact Aa (Ae v1 _) rfl
 have hWs :W.heap.size=w.heap.size+4 :=by rw [←hW,World.size_alloc,hVs]
 have HWs :Hid _ :=hWs
 clear hW hV hbV hVs v0 v1 v2
 have hLW :=hL.below hb0
 have TW :=Acf (D6 Hs (fun _=>8) t n (L.take i)) (t (L.drop (i+1))) 8 d w.heap.size (w.heap.size+1) i b off cap L W hil hl hLW m0 m1 (by omega) (by omega)
  (fun V h=>ih _ (L.take i) V (by simp;omega) (by simp;omega) (he.next (hb0.trans (h.mono hb0.size))) (by obtain ⟨p1,p2,p3,p4⟩ :=A7 (hLW.below h) (by omega);exact Gh p4 p1 (by omega) p2 p3) (hw.take i))
  (fun V v h h2=>ht v (L.drop (i+1)) V (by simp;omega) (by simp;omega) (he.next (hb0.trans (h.mono hb0.size))) h2 (hw.drop _))
 generalize ((D6 Hs (fun _=>8) t n (L.take i)).bind fun a=> (t (L.drop (i+1))).map fun b=>Cd 8 [a,b]) =R at TW⊢
 have q0 : (0 :Int) ≤ (i :Int) :=by omega
 clear hL hLW hw ht ih hi hl hcap hWs hil hn hcell
 generalize L.length=nn at*
 clear L
 go_enter Tryz.func32,Tryz.ntmps32
 go_wp2_with fail
 rw [HW.out]
 go_fit LA
 rintro e W ⟨rfl,rfl⟩
 go_wp2_with (go_at_call 60;go_must (go_fit TW;rintro e w2 ⟨v,ok,x,rfl,hE,hR,hb2⟩;have HR :Hid _ :=hR;clear hR;have b2 := (hb2.block _ (lt_of_block b0)).trans b0;obtain ⟨op,xv,xs,nmv,xn,ao,kk,c,rfl⟩ :=hE.shape;obtain ⟨xk,xi,xs2⟩ :=xv;obtain ⟨⟨r0,r1,r2,r3,r4,r5,r6,r7⟩,f0,f1,f2,f3,f4,f5,f6,f7⟩ :=Ca b2))
 obtain ⟨hN,hBN⟩ :=Q1 (r :=w.heap.size+2) (by omega) hb0 (by have :=HWs.out;omega) hb2 hE
 exact bodyPost_ret (v := .tuple #[.agg #[.int .i64 op, .int .i64 xk, .int .i64 xi, .string xs2, .string xs, .string nmv, .int .i64 xn, .slice ao kk c], .bool ok]) (by simp [results,Tryz.results32,go_sem,r0,r1,r2,r3,r4,r5,r6,r7]) rfl ⟨_,_,_,rfl,hN,HR.out,hBN⟩
theorem Vy (t :List Wd→Option E) (d :Int) (ht :Cz 62 t d 1600) : ∀n,Cz 32 (fun L=>D6 Hs (fun _=>8) t n L) d n :=by
 intro n
 induction n with
 | zero=>
  intro sl L w h1 hl he hL hw
  have e :L= [] :=List.length_eq_zero_iff.1 (by omega)
  subst e
  exact Pj t d ht sl [] w hl he hL hw rfl
 | succ n ih=>
  intro sl L w h1 hl he hL hw
  simp only [D6]
  cases hi :Hs L with
  | none=>exact Pj t d ht sl L w hl he hL hw hi
  | some i=>exact Vx t d n ih ht sl L w h1 hl he hL hw i hi
theorem Q5 (t :List Wd→Option E) (d :Int) (ht :Cz 87 t d 1600) :Cz 32 (Qd t) d 1600 :=fun sl L w _ hl he hL hw=>Vy (Np t) d (Zs t d ht) L.length sl L w (Nat.le_refl _) hl he hL hw
theorem Ac1 (D :Nat) :D≤6→Cz 32 (Ht D).1 (D :Int) 1600∧Cz 87 (Ht D).2 (D :Int) 1600 :=by
 induction D with
 | zero=>exact fun _=> ⟨Q5 _ _ Ph,Ph⟩
 | succ D ih=>
  intro hD
  obtain ⟨h1,h2⟩ :=ih (by omega)
  have ha :=Yh (Ht D).1 D (by omega) h1
  have ht :=X9 (Ht D).1 (Ht D).2 D (by omega) (Zu _ _ ha) h2
  have e : ((D+1 :Nat) :Int) = (D :Int) +1 :=by omega
  rw [e]
  exact ⟨Q5 _ _ ht,ht⟩
theorem Gy :Cz 32 Dn 6 1600 := (Ac1 6 (Nat.le_refl _)).1
end Go.Proofs.YtifjaegfpdjikaaGreatDoor

namespace Go.Proofs.YtifjaegfpdjikaaGreatDoor
open Go.RowKit
theorem A4 {w W :World} {slv :Value} {R :Option Stm} {ok :Bool} {kind :Int} {name table col :Wd} {cols rows sets frm out :Value} {op xk xn :Int} {xs s nmv :Wd} {n8 :Int} {sl order :Value} {down :Bool} {n :Int}
  (hS :S3 w W slv (sA kind name table col cols rows sets frm out op xk xn xs s nmv n8 sl order down n))
  (h1 :Dz cols∧Dz rows∧Dz sets∧Dz frm∧Dz out∧Dz sl∧Dz order)
  (h :if ok=true then∃st,R=some st∧Fq.R (Fr (w.heap.size+3)) W st (sA kind name table col cols rows sets frm out op xk xn xs s nmv n8 sl order down n).toList else R=none) :
  Cv R w (.returned (.tuple #[.agg (sA kind name table col cols rows sets frm out op xk xn xs s nmv n8 sl order down n), .bool ok])) (W.setRow (w.heap.size+1) (sA kind name table col cols rows sets frm out op xk xn xs s nmv n8 sl order down n)) :=by
 refine ⟨kind,name,table,col,cols,rows,sets,frm,out,op,xk,xn,xs,s,nmv,n8,sl,order,down,n,ok,rfl,h1, ?_,Below.row hS.b (by omega) _⟩
 cases ok
 ·exact h
 ·simp only [if_true] at h⊢
  obtain ⟨st,h2,h3⟩ :=h
  exact ⟨st,h2,Fq.mono (fun k _ hk=>by have h :w.heap.size+3≤k :=hk;show w.heap.size≤k;omega) (Fq.keep ((Keeps.refl _ _).row (show ¬w.heap.size+3≤w.heap.size+1 by omega) _) h3)⟩
theorem Bc {kind :Int} {name table col :Wd} {cols rows sets frm out :Value} {op xk xn :Int} {xs s nmv :Wd} {n8 :Int} {sl order :Value} {down :Bool} {n :Int} (h1 :Dz cols∧Dz rows∧Dz sets∧Dz frm∧Dz out∧Dz sl∧Dz order) :
  (sA kind name table col cols rows sets frm out op xk xn xs s nmv n8 sl order down n).all (·.oneCell') =true :=Cy h1.1 h1.2.1 h1.2.2.1 h1.2.2.2.1 h1.2.2.2.2.1 h1.2.2.2.2.2.1 h1.2.2.2.2.2.2
theorem sl7 (ao1 :Option Addr) (n1 c1 :Nat) (ao2 :Option Addr) (n2 c2 :Nat) (ao3 :Option Addr) (n3 c3 :Nat) (ao4 :Option Addr) (n4 c4 :Nat) (ao5 :Option Addr) (n5 c5 :Nat) (ao6 :Option Addr) (n6 c6 :Nat) (ao7 :Option Addr) (n7 c7 :Nat) :Dz (.slice ao1 n1 c1) ∧Dz (.slice ao2 n2 c2) ∧Dz (.slice ao3 n3 c3) ∧Dz (.slice ao4 n4 c4) ∧Dz (.slice ao5 n5 c5) ∧Dz (.slice ao6 n6 c6) ∧Dz (.slice ao7 n7 c7) :=
 ⟨Al _ _ _,Al _ _ _,Al _ _ _,Al _ _ _,Al _ _ _,Al _ _ _,Al _ _ _⟩
theorem Di (w :World) (sl :Value) :S3 w ((((w.alloc (.cells #[sl] 32)).alloc (.cells Ah 39)).alloc (.cells Ah 39)).setRow (w.heap.size+2) (Ai 0)) sl (Ai 0) :=by
 have e2 : ((w.alloc (.cells #[sl] 32)).alloc (.cells Ah 39)).heap.size=w.heap.size+2 :=by rw [World.size_alloc,World.size_alloc]
 have b2 : (((w.alloc (.cells #[sl] 32)).alloc (.cells Ah 39)).alloc (.cells Ah 39)).heap[w.heap.size+2]? =some (.cells Ah 39) :=by rw [←e2];exact Ad _ _
 refine ⟨Bu (Ae (Ae (Ad w _) _) _) (by omega) _,Bu (Ae (Fk w _ _) _) (by omega) _,Am b2, ?_⟩
 exact Below.row ((((Below.refl _ _).alloc (Nat.le_refl _) _).alloc (by simp) _).alloc (by simp;omega) _) (by omega) _
theorem Dj (w :World) (sl :Value) : (((w.alloc (.cells #[sl] 32)).alloc (.cells Ah 39)).alloc (.cells Ah 39)).heap[w.heap.size+2]? =some (.cells Ah 39) :=by
 have e2 : ((w.alloc (.cells #[sl] 32)).alloc (.cells Ah 39)).heap.size=w.heap.size+2 :=by rw [World.size_alloc,World.size_alloc]
 rw [←e2];exact Ad _ _
theorem Fc : (Ai 0).all (·.oneCell') =true :=Bc (sl7 _ _ _ _ _ _ _ _ _ _ _ _ _ _ _ _ _ _ _ _ _)
theorem rF {w :World} {F :Nat→Prop} {sv :Value} {α :Type} {K :Elem α} (h :sv= .slice none 0 0) :IsL K F w sv [] :=by subst h;exact IsL.nil K F w
def Ac2 (w :World) (x :Wd) (bv :Bool) :Prop := ∀V,Below w.heap.size w V→Calls Tryz.prog 7 #[.string x] V fun e w'=>e= .returned (.bool bv) ∧Below V.heap.size V w'
theorem Da {w :World} (he :Env w) {x :Wd} {bv :Bool} (h :nm x=bv) :Ac2 w x bv :=by
 intro V hV
 have :=Ey x V (he.next hV)
 rwa [h] at this
end Go.Proofs.YtifjaegfpdjikaaGreatDoor


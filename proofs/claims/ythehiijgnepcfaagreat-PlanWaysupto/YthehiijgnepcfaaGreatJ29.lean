/-
  1 texts of this proof in one, in build order: PFits.
-/
import Derived.Deep.RegionHeld3
import Derived.Deep.Cut
import Derived.Test.YthehiijgnepcfaaGreatJ05
import Derived.Test.YthehiijgnepcfaaGreatJ07
set_option linter.unusedSimpArgs false
set_option linter.unusedVariables false
namespace Go.Proofs.YthehiijgnepcfaaGreat
open Go.RowKit
theorem Oo {p :Nat→Bool} {n k :Nat} (hp :p k=true) (hk :k<n) :Ay p 0 n=true :=by
 cases h :Ay p 0 n with
 | true=>rfl
 | false=>have :=G6 h k (Nat.zero_le _) (by omega);rw [hp] at this;cases this
theorem Uq {p :Nat→Bool} : ∀ (n i :Nat),(∀j,i≤j→j<i+n→p j=false) →Ay p i n=false
 | 0,_,_=>rfl
 | n+1,i,h=>by rw [Ay,h i (Nat.le_refl _) (by omega),Uq n (i+1) fun j h1 h2=>h j (by omega) (by omega)];rfl
theorem Mz {G W :World} {g rb o :Nat} {a0 a1 a2 a3 a4 :Value}
  (h :G.cell? ⟨rb,o,none⟩ =some a0∧G.cell? ⟨rb,o+1,none⟩ =some a1∧G.cell? ⟨rb,o+2,none⟩ =some a2∧G.cell? ⟨g,1,none⟩ =some a3∧G.cell? ⟨g,2,none⟩ =some a4) (h1 :W.heap[g]? =G.heap[g]?) (h2 :W.heap[rb]? =G.heap[rb]?) :
  W.cell? ⟨rb,o,none⟩ =some a0∧W.cell? ⟨rb,o+1,none⟩ =some a1∧W.cell? ⟨rb,o+2,none⟩ =some a2∧W.cell? ⟨g,1,none⟩ =some a3∧W.cell? ⟨g,2,none⟩ =some a4 :=by
 obtain ⟨c0,c1,c2,c3,c4⟩ :=h
 exact ⟨(World.cell?_of_block h2).trans c0,(World.cell?_of_block h2).trans c1,(World.cell?_of_block h2).trans c2,(World.cell?_of_block h1).trans c3,(World.cell?_of_block h1).trans c4⟩
set_option maxRecDepth 100000 in
set_option maxHeartbeats 4000000 in
theorem Xk (t :TabD) (r :List V) (sv rv :Value) (C :Nat) (w :World) (hl :IsL Cc (fun k=>k<C) w sv t.cols) (hr :Bp w rv r) (hs : ∀v∈r,v.s.size≤maxLen) :
  Calls Tryz.prog 23 #[.agg #[.string t.name,sv],rv] w fun e w'=>e= .returned (.bool (Ee t r)) ∧Below w.heap.size w w' :=by
 obtain ⟨so,sc,rfl⟩ :=hl.shape
 obtain ⟨ro',rc',hsh⟩ :=hr.shape
 subst hsh
 have E :Hid (Ee t r= (decide (r.length=t.cols.length) && !Ay (Hn t r) 0 t.cols.length)) :=rfl
 generalize Ee t r=q at E
 have hlm := (Cj hl).2
 have hb1 :=Ao w (.cells #[.string t.name, .slice so t.cols.length sc] 43)
 have bT :=Ab w (.cells #[.string t.name, .slice so t.cols.length sc] 43)
 generalize hW :w.alloc (.cells #[.string t.name, .slice so t.cols.length sc] 43) =W1 at hb1 bT
 have HW :Hid _ :=hW
 clear hW
 have c1 :=Aa bT (j :=1) rfl
 by_cases hln :r.length=t.cols.length
 rotate_left
 ·have hq : ((r.length :Int) != (t.cols.length :Int)) =true :=by simp;omega
  have E2 :Hid (q=false) :=by show _=_;rw [E.out];simp [hln]
  clear E hl hr hs
  go_enter Tryz.func23,Tryz.ntmps23
  go_upto_region 1 with fail
  rw [HW.out]
  go_wp2
  go_ret
  exact ⟨Ag (by rw [E2.out]),hb1⟩
 have hq : ((r.length :Int) != (t.cols.length :Int)) =false :=by simp;omega
 rw [decide_eq_true hln,Bool.true_and] at E
 have HLN :Hid _ :=hln
 have HL :Hid (∀ (k :Nat) (c :ColD),t.cols[k]? =some c→ ∃b off,so=some ⟨b,off,none⟩ ∧b<w.heap.size∧w.cell? ⟨b,off+k*3,none⟩ =some (.string c.name) ∧w.cell? ⟨b,off+k*3+1,none⟩ =some (.int .i64 c.ty) ∧w.cell? ⟨b,off+k*3+2,none⟩ =some (.bool c.must)) :=fun k c hc=>by
  obtain ⟨b,off,cs,hso,hbC,hbl,hR1,hcell⟩ :=A4 hl hc
  obtain rfl :=hR1
  exact ⟨b,off,hso,hbl,hcell 0 _ rfl,hcell 1 _ rfl,hcell 2 _ rfl⟩
 have HS :Hid _ :=hs
 clear hl hs hln
 generalize hn :t.cols.length=n at*
 have HNN :Hid _ :=hn
 clear hn
 unfold maxLen at hlm
 go_enter Tryz.func23,Tryz.ntmps23
 go_upto_region 1 with fail
 rw [HW.out]
 go_wp2
 go_loopw [16] (fun i wr=> ∃k :Nat,k≤n∧i= .int .i64 k∧Hid (∀j,j<k→Hn t r j=false) ∧Below W1.heap.size W1 wr) (fun i _=>n - (intOf i).toNat)
 case atStart=>exact ⟨0,Nat.zero_le _,rfl,id (fun j h=>absurd h (Nat.not_lt_zero _)),Below.refl _ _⟩
 case round=>
  obtain ⟨k,hk,rfl,HJ,hbel⟩ :=hrel
  by_cases hlt :k<n
  ·obtain ⟨c,hc⟩ : ∃c,t.cols[k]? =some c := ⟨_,List.getElem?_eq_getElem (by rw [HNN.out];exact hlt)⟩
   obtain ⟨v,hv⟩ : ∃v,r[k]? =some v := ⟨_,List.getElem?_eq_getElem (by rw [HLN.out];exact hlt)⟩
   obtain ⟨b,off,hso,hbl,g0,g1,g2⟩ :=HL.out k c hc
   cases hso
   rcases hr with ⟨_,h0⟩ | ⟨rb,ro,rcap,hrv,hrb,hR⟩
   ·rw [h0] at hv;simp at hv
   cases hrv
   have hbw :Below w.heap.size w wr :=hb1.trans (hbel.mono hb1.size)
   have hsz :=hbel.size
   have hs1 :=hb1.size
   have EI :Hid (Hn t r k= !(good v&& (decide (v.k=c.ty) || (!c.must&&decide (v.k=0))))) :=by show _=_;simp [Hn,hc,hv,Aab]
   have HG :=fun W=>Hw v W (HS.out v (List.mem_of_getElem? hv))
   obtain ⟨e0,e1,e2⟩ :=hR k v hv
   have d0 := (hbw.cell (p := ⟨b,off+k*3,none⟩) hbl).trans g0
   have d1 := (hbw.cell (p := ⟨b,off+k*3+1,none⟩) hbl).trans g1
   have d2 := (hbw.cell (p := ⟨b,off+k*3+2,none⟩) hbl).trans g2
   clear g0 g1 g2 hc hv
   obtain ⟨vk,vn,vs⟩ :=v
   obtain ⟨cn,ct,cm⟩ :=c
   simp only [V.val] at HG
   simp only at e0 e1 e2 d0 d1 d2 EI
   have hrl :Hid (r.length=n) :=HLN.out
   have v0 : (0 :Int) ≤ (k :Int) :=by omega
   have v1 : (k :Int) < (n :Int) :=by omega
   have v2 :k<r.length :=by rw [hrl.out];exact hlt
   have v3 : (k :Int) < (r.length :Int) :=by omega
   have hbx :=Ao wr (.cells #[.string cn, .int .i64 ct, .bool cm] 63)
   have bX :=Ab wr (.cells #[.string cn, .int .i64 ct, .bool cm] 63)
   have hrbw :rb<wr.heap.size :=by have :=hbw.size;omega
   have s :=Mz (G :=wr.alloc (.cells #[.string cn, .int .i64 ct, .bool cm] 63)) (W :=wr.alloc (.cells #[.string cn, .int .i64 ct, .bool cm] 63)) ⟨(hbx.cell (p := ⟨rb,ro+k*3,none⟩) hrbw).trans ((hbw.cell (p := ⟨rb,ro+k*3,none⟩) hrb).trans e0),(hbx.cell (p := ⟨rb,ro+k*3+1,none⟩) hrbw).trans ((hbw.cell (p := ⟨rb,ro+k*3+1,none⟩) hrb).trans e1),(hbx.cell (p := ⟨rb,ro+k*3+2,none⟩) hrbw).trans ((hbw.cell (p := ⟨rb,ro+k*3+2,none⟩) hrb).trans e2),Aa bX (j :=1) (u := .int .i64 ct) rfl,Aa bX (j :=2) (u := .bool cm) rfl⟩ rfl rfl
   have s0 :=Mz (W := (wr.alloc (.cells #[.string cn, .int .i64 ct, .bool cm] 63)).drew) s rfl rfl
   have s1 :=Mz (W := (wr.alloc (.cells #[.string cn, .int .i64 ct, .bool cm] 63)).drew.alloc (.cells #[.int .i64 vk, .int .i64 vn, .string vs] 32)) s0 (Below.heap_alloc _ _ _ (lt_of_block (w := (wr.alloc (.cells #[.string cn, .int .i64 ct, .bool cm] 63)).drew) bX)) (Below.heap_alloc _ _ _ (show rb< (wr.alloc _).heap.size by simp;omega))
   have hbF :Below w.heap.size w ((wr.alloc (.cells #[.string cn, .int .i64 ct, .bool cm] 63)).drew.alloc (.cells #[.int .i64 vk, .int .i64 vn, .string vs] 32)) := (hbw.alloc (by omega) _).drew.alloc (hbw.alloc (by omega) _).size _
   have hbG :Below W1.heap.size W1 ((wr.alloc (.cells #[.string cn, .int .i64 ct, .bool cm] 63)).alloc (.cells #[.int .i64 vk, .int .i64 vn, .string vs] 32)).drew := ((hbel.alloc hsz _).alloc (hbel.alloc hsz _).size _).drew
   clear e0 e1 e2 hbx bX s HL HS HLN hR
   cases hgv :good ⟨vk,vn,vs⟩
   ·
    rw [hgv] at HG
    have HP :Hid (Hn t r k=true) :=by show _=_;rw [EI.out];rw [hgv];rfl
    go_wp2_with fail
    refine wp_region_held_drew (S := (fun W=>W.cell? ⟨rb,ro+k*3,none⟩ =some (.int .i64 vk) ∧W.cell? ⟨rb,ro+k*3+1,none⟩ =some (.int .i64 vn) ∧W.cell? ⟨rb,ro+k*3+2,none⟩ =some (.string vs) ∧W.cell? ⟨wr.heap.size,1,none⟩ =some (.int .i64 ct) ∧W.cell? ⟨wr.heap.size,2,none⟩ =some (.bool cm))) (by kernel_rfl) ?_ (fun hHeld=> ?_)
    ·exact s0
    refine wpAnyH_take (i :=0) (oi := {dst :=some 21,op :=Go.Op.move (Go.Operand.tmp 1),type :=55,pos := "keep.go:152",after := #[],guard :=none}) (v := ?_) rfl (by kernel_rfl) (by kernel_rfl) (by kernel_rfl) (fun _ _ _ h=>h) (Or.inl ⟨by rfl, ?_⟩) (by assumption) ?_
    rotate_left
    ·intro w hSw;(try dsimp only at hSw);go_simp;all_goals (with_reducible rfl)
    try simp only [Act.put,List.setIfInBounds_toArray,List.set_cons_zero,List.set_cons_succ]
    refine wpAnyH_take (i :=1) (oi := {dst :=some 22,op :=Go.Op.move (Go.Operand.tmp 5),type :=3,pos := "keep.go:152",after := #[],guard :=none}) (v := ?_) rfl (by kernel_rfl) (by kernel_rfl) (by kernel_rfl) (fun _ _ _ h=>h) (Or.inl ⟨by rfl, ?_⟩) (by assumption) ?_
    rotate_left
    ·intro w hSw;(try dsimp only at hSw);go_simp;all_goals (with_reducible rfl)
    try simp only [Act.put,List.setIfInBounds_toArray,List.set_cons_zero,List.set_cons_succ]
    refine wpAnyH_take (i :=2) (oi := {dst :=some 23,op :=Go.Op.indexAddr 55 (Go.Operand.tmp 21) (Go.Operand.tmp 22),type :=0,pos := "keep.go:152",after := #[{on :=0,ground :=Go.Ground.data},{on :=1,ground :=Go.Ground.data}],guard :=none}) (v := ?_) rfl (by kernel_rfl) (by kernel_rfl) (by kernel_rfl) (fun _ _ _ h=>h) (Or.inl ⟨by rfl, ?_⟩) (by assumption) ?_
    rotate_left
    ·intro w hSw;(try dsimp only at hSw);go_simp;all_goals (with_reducible rfl)
    try simp only [Act.put,List.setIfInBounds_toArray,List.set_cons_zero,List.set_cons_succ]
    refine wpAnyH_take (i :=3) (oi := {dst :=some 24,op :=Go.Op.load 32 (Go.Operand.tmp 23),type :=32,pos := "keep.go:152",after := #[{on :=2,ground :=Go.Ground.data}],guard :=none}) (v := ?_) rfl (by kernel_rfl) (by kernel_rfl) (by kernel_rfl) (fun _ _ _ h=>h) (Or.inl ⟨by rfl, ?_⟩) (by assumption) ?_
    rotate_left
    ·intro w hSw;(try dsimp only at hSw);go_simp;all_goals (with_reducible rfl)
    try simp only [Act.put,List.setIfInBounds_toArray,List.set_cons_zero,List.set_cons_succ]
    refine wpAnyH_ready (rs := [4]) (by kernel_rfl) (by simp) ?_
    refine AllReadyH.cons (o := {dst :=some 25,op :=Go.Op.call {callee :=Go.Callee.value (Go.Operand.func 57),args := #[Go.Operand.tmp 24],argTypes := #[32]},type :=4,pos := "keep.go:152",after := #[{on :=3,ground :=Go.Ground.data}],guard :=none}) rfl (fun K hK=> ?_) AllReadyH.nil
    go_simp
    (go_at_call 57;go_fit (HG _);rintro e w2 ⟨rfl,rfl⟩)
    go_wp2_with fail
    refine hK.out _ _ ?_ (fun hHeld=> ?_)
    ·exact s1
    clear hK K
    try simp only [Act.put,List.setIfInBounds_toArray,List.set_cons_zero,List.set_cons_succ]
    refine wpAnyH_take (i :=5) (oi := {dst :=some 26,op :=Go.Op.unOp Go.UnOp.not 4 (Go.Operand.tmp 25),type :=4,pos := "keep.go:152",after := #[{on :=4,ground :=Go.Ground.data}],guard :=none}) (v := ?_) rfl (by kernel_rfl) (by kernel_rfl) (by kernel_rfl) (fun _ _ _ h=>h) (Or.inl ⟨by rfl, ?_⟩) (by assumption) ?_
    rotate_left
    ·intro w hSw;(try dsimp only at hSw);go_simp;all_goals (with_reducible rfl)
    try simp only [Act.put,List.setIfInBounds_toArray,List.set_cons_zero,List.set_cons_succ]
    refine wpAnyH_take (i :=6) (oi := {dst :=some 27,op :=Go.Op.move (Go.Operand.tmp 26),type :=4,pos := "keep.go:152",after := #[{on :=5,ground :=Go.Ground.data},{on :=4,ground :=Go.Ground.chain}],guard :=none}) (v := ?_) rfl (by kernel_rfl) (by kernel_rfl) (by kernel_rfl) (fun _ _ _ h=>h) (Or.inl ⟨by rfl, ?_⟩) (by assumption) ?_
    rotate_left
    ·intro w hSw;(try dsimp only at hSw);go_simp;all_goals (with_reducible rfl)
    try simp only [Act.put,List.setIfInBounds_toArray,List.set_cons_zero,List.set_cons_succ]
    refine wpAnyH_take (i :=7) (oi := {dst :=some 28,op :=Go.Op.move (Go.Operand.tmp 1),type :=55,pos := "keep.go:152",after := #[{on :=6,ground :=Go.Ground.guard}],guard :=some (6,false)}) (v :=undef) rfl (by kernel_rfl) (by kernel_rfl) (by kernel_rfl) (fun _ _ _ h=>h) (Or.inr ⟨by rfl,rfl⟩) (by assumption) ?_
    try simp only [Act.put,List.setIfInBounds_toArray,List.set_cons_zero,List.set_cons_succ]
    refine wpAnyH_take (i :=8) (oi := {dst :=some 29,op :=Go.Op.move (Go.Operand.tmp 5),type :=3,pos := "keep.go:152",after := #[{on :=6,ground :=Go.Ground.guard}],guard :=some (6,false)}) (v :=undef) rfl (by kernel_rfl) (by kernel_rfl) (by kernel_rfl) (fun _ _ _ h=>h) (Or.inr ⟨by rfl,rfl⟩) (by assumption) ?_
    try simp only [Act.put,List.setIfInBounds_toArray,List.set_cons_zero,List.set_cons_succ]
    refine wpAnyH_take (i :=9) (oi := {dst :=some 30,op :=Go.Op.indexAddr 55 (Go.Operand.tmp 28) (Go.Operand.tmp 29),type :=0,pos := "keep.go:152",after := #[{on :=7,ground :=Go.Ground.data},{on :=8,ground :=Go.Ground.data},{on :=6,ground :=Go.Ground.guard}],guard :=some (6,false)}) (v :=undef) rfl (by kernel_rfl) (by kernel_rfl) (by kernel_rfl) (fun _ _ _ h=>h) (Or.inr ⟨by rfl,rfl⟩) (by assumption) ?_
    try simp only [Act.put,List.setIfInBounds_toArray,List.set_cons_zero,List.set_cons_succ]
    refine wpAnyH_take (i :=10) (oi := {dst :=some 31,op :=Go.Op.fieldAddr 32 (Go.Operand.tmp 30) 0,type :=0,pos := "keep.go:152",after := #[{on :=9,ground :=Go.Ground.data},{on :=6,ground :=Go.Ground.guard}],guard :=some (6,false)}) (v :=undef) rfl (by kernel_rfl) (by kernel_rfl) (by kernel_rfl) (fun _ _ _ h=>h) (Or.inr ⟨by rfl,rfl⟩) (by assumption) ?_
    try simp only [Act.put,List.setIfInBounds_toArray,List.set_cons_zero,List.set_cons_succ]
    refine wpAnyH_take (i :=11) (oi := {dst :=some 32,op :=Go.Op.load 3 (Go.Operand.tmp 31),type :=3,pos := "keep.go:152",after := #[{on :=10,ground :=Go.Ground.data},{on :=6,ground :=Go.Ground.guard}],guard :=some (6,false)}) (v :=undef) rfl (by kernel_rfl) (by kernel_rfl) (by kernel_rfl) (fun _ _ _ h=>h) (Or.inr ⟨by rfl,rfl⟩) (by assumption) ?_
    try simp only [Act.put,List.setIfInBounds_toArray,List.set_cons_zero,List.set_cons_succ]
    refine wpAnyH_take (i :=12) (oi := {dst :=some 33,op :=Go.Op.fieldAddr 63 (Go.Operand.tmp 6) 1,type :=0,pos := "keep.go:152",after := #[{on :=6,ground :=Go.Ground.guard}],guard :=some (6,false)}) (v :=undef) rfl (by kernel_rfl) (by kernel_rfl) (by kernel_rfl) (fun _ _ _ h=>h) (Or.inr ⟨by rfl,rfl⟩) (by assumption) ?_
    try simp only [Act.put,List.setIfInBounds_toArray,List.set_cons_zero,List.set_cons_succ]
    refine wpAnyH_take (i :=13) (oi := {dst :=some 34,op :=Go.Op.load 3 (Go.Operand.tmp 33),type :=3,pos := "keep.go:152",after := #[{on :=12,ground :=Go.Ground.data},{on :=6,ground :=Go.Ground.guard}],guard :=some (6,false)}) (v :=undef) rfl (by kernel_rfl) (by kernel_rfl) (by kernel_rfl) (fun _ _ _ h=>h) (Or.inr ⟨by rfl,rfl⟩) (by assumption) ?_
    try simp only [Act.put,List.setIfInBounds_toArray,List.set_cons_zero,List.set_cons_succ]
    refine wpAnyH_take (i :=14) (oi := {dst :=some 35,op :=Go.Op.binOp Go.BinOp.neq 3 (Go.Operand.tmp 32) (Go.Operand.tmp 34) 3,type :=4,pos := "keep.go:152",after := #[{on :=11,ground :=Go.Ground.data},{on :=13,ground :=Go.Ground.data},{on :=6,ground :=Go.Ground.guard}],guard :=some (6,false)}) (v :=undef) rfl (by kernel_rfl) (by kernel_rfl) (by kernel_rfl) (fun _ _ _ h=>h) (Or.inr ⟨by rfl,rfl⟩) (by assumption) ?_
    try simp only [Act.put,List.setIfInBounds_toArray,List.set_cons_zero,List.set_cons_succ]
    refine wpAnyH_take (i :=15) (oi := {dst :=some 36,op :=Go.Op.move (Go.Operand.tmp 35),type :=4,pos := "keep.go:152",after := #[{on :=14,ground :=Go.Ground.data},{on :=6,ground :=Go.Ground.chain},{on :=6,ground :=Go.Ground.guard}],guard :=some (6,false)}) (v :=undef) rfl (by kernel_rfl) (by kernel_rfl) (by kernel_rfl) (fun _ _ _ h=>h) (Or.inr ⟨by rfl,rfl⟩) (by assumption) ?_
    try simp only [Act.put,List.setIfInBounds_toArray,List.set_cons_zero,List.set_cons_succ]
    refine wpAnyH_take (i :=16) (oi := {dst :=some 37,op :=Go.Op.fieldAddr 63 (Go.Operand.tmp 6) 2,type :=0,pos := "keep.go:152",after := #[{on :=15,ground :=Go.Ground.guard}],guard :=some (15,true)}) (v :=undef) rfl (by kernel_rfl) (by kernel_rfl) (by kernel_rfl) (fun _ _ _ h=>h) (Or.inr ⟨by rfl,rfl⟩) (by assumption) ?_
    try simp only [Act.put,List.setIfInBounds_toArray,List.set_cons_zero,List.set_cons_succ]
    refine wpAnyH_take (i :=17) (oi := {dst :=some 38,op :=Go.Op.load 4 (Go.Operand.tmp 37),type :=4,pos := "keep.go:152",after := #[{on :=16,ground :=Go.Ground.data},{on :=15,ground :=Go.Ground.guard}],guard :=some (15,true)}) (v :=undef) rfl (by kernel_rfl) (by kernel_rfl) (by kernel_rfl) (fun _ _ _ h=>h) (Or.inr ⟨by rfl,rfl⟩) (by assumption) ?_
    try simp only [Act.put,List.setIfInBounds_toArray,List.set_cons_zero,List.set_cons_succ]
    refine wpAnyH_take (i :=18) (oi := {dst :=some 39,op :=Go.Op.move (Go.Operand.tmp 38),type :=4,pos := "keep.go:152",after := #[{on :=17,ground :=Go.Ground.data},{on :=15,ground :=Go.Ground.chain},{on :=15,ground :=Go.Ground.guard}],guard :=some (15,true)}) (v :=undef) rfl (by kernel_rfl) (by kernel_rfl) (by kernel_rfl) (fun _ _ _ h=>h) (Or.inr ⟨by rfl,rfl⟩) (by assumption) ?_
    try simp only [Act.put,List.setIfInBounds_toArray,List.set_cons_zero,List.set_cons_succ]
    refine wpAnyH_take (i :=19) (oi := {dst :=some 40,op :=Go.Op.move (Go.Operand.tmp 1),type :=55,pos := "keep.go:152",after := #[{on :=18,ground :=Go.Ground.guard}],guard :=some (18,false)}) (v :=undef) rfl (by kernel_rfl) (by kernel_rfl) (by kernel_rfl) (fun _ _ _ h=>h) (Or.inr ⟨by rfl,rfl⟩) (by assumption) ?_
    try simp only [Act.put,List.setIfInBounds_toArray,List.set_cons_zero,List.set_cons_succ]
    refine wpAnyH_take (i :=20) (oi := {dst :=some 41,op :=Go.Op.move (Go.Operand.tmp 5),type :=3,pos := "keep.go:152",after := #[{on :=18,ground :=Go.Ground.guard}],guard :=some (18,false)}) (v :=undef) rfl (by kernel_rfl) (by kernel_rfl) (by kernel_rfl) (fun _ _ _ h=>h) (Or.inr ⟨by rfl,rfl⟩) (by assumption) ?_
    try simp only [Act.put,List.setIfInBounds_toArray,List.set_cons_zero,List.set_cons_succ]
    refine wpAnyH_take (i :=21) (oi := {dst :=some 42,op :=Go.Op.indexAddr 55 (Go.Operand.tmp 40) (Go.Operand.tmp 41),type :=0,pos := "keep.go:152",after := #[{on :=19,ground :=Go.Ground.data},{on :=20,ground :=Go.Ground.data},{on :=18,ground :=Go.Ground.guard}],guard :=some (18,false)}) (v :=undef) rfl (by kernel_rfl) (by kernel_rfl) (by kernel_rfl) (fun _ _ _ h=>h) (Or.inr ⟨by rfl,rfl⟩) (by assumption) ?_
    try simp only [Act.put,List.setIfInBounds_toArray,List.set_cons_zero,List.set_cons_succ]
    refine wpAnyH_take (i :=22) (oi := {dst :=some 43,op :=Go.Op.fieldAddr 32 (Go.Operand.tmp 42) 0,type :=0,pos := "keep.go:152",after := #[{on :=21,ground :=Go.Ground.data},{on :=18,ground :=Go.Ground.guard}],guard :=some (18,false)}) (v :=undef) rfl (by kernel_rfl) (by kernel_rfl) (by kernel_rfl) (fun _ _ _ h=>h) (Or.inr ⟨by rfl,rfl⟩) (by assumption) ?_
    try simp only [Act.put,List.setIfInBounds_toArray,List.set_cons_zero,List.set_cons_succ]
    refine wpAnyH_take (i :=23) (oi := {dst :=some 44,op :=Go.Op.load 3 (Go.Operand.tmp 43),type :=3,pos := "keep.go:152",after := #[{on :=22,ground :=Go.Ground.data},{on :=18,ground :=Go.Ground.guard}],guard :=some (18,false)}) (v :=undef) rfl (by kernel_rfl) (by kernel_rfl) (by kernel_rfl) (fun _ _ _ h=>h) (Or.inr ⟨by rfl,rfl⟩) (by assumption) ?_
    try simp only [Act.put,List.setIfInBounds_toArray,List.set_cons_zero,List.set_cons_succ]
    refine wpAnyH_take (i :=24) (oi := {dst :=some 45,op :=Go.Op.binOp Go.BinOp.neq 3 (Go.Operand.tmp 44) (Go.Operand.const (Go.Value.int Go.IntKind.i64 0)) 3,type :=4,pos := "keep.go:152",after := #[{on :=23,ground :=Go.Ground.data},{on :=18,ground :=Go.Ground.guard}],guard :=some (18,false)}) (v :=undef) rfl (by kernel_rfl) (by kernel_rfl) (by kernel_rfl) (fun _ _ _ h=>h) (Or.inr ⟨by rfl,rfl⟩) (by assumption) ?_
    try simp only [Act.put,List.setIfInBounds_toArray,List.set_cons_zero,List.set_cons_succ]
    refine wpAnyH_take (i :=25) (oi := {dst :=some 46,op :=Go.Op.pick (Go.Operand.tmp 39) (Go.Operand.const (Go.Value.bool true)) (Go.Operand.tmp 45),type :=4,pos := "keep.go:152",after := #[{on :=18,ground :=Go.Ground.data},{on :=24,ground :=Go.Ground.data},{on :=15,ground :=Go.Ground.guard}],guard :=some (15,true)}) (v :=undef) rfl (by kernel_rfl) (by kernel_rfl) (by kernel_rfl) (fun _ _ _ h=>h) (Or.inr ⟨by rfl,rfl⟩) (by assumption) ?_
    try simp only [Act.put,List.setIfInBounds_toArray,List.set_cons_zero,List.set_cons_succ]
    refine wpAnyH_take (i :=26) (oi := {dst :=some 47,op :=Go.Op.pick (Go.Operand.tmp 36) (Go.Operand.tmp 46) (Go.Operand.const (Go.Value.bool false)),type :=4,pos := "keep.go:152",after := #[{on :=15,ground :=Go.Ground.data},{on :=25,ground :=Go.Ground.data},{on :=6,ground :=Go.Ground.guard}],guard :=some (6,false)}) (v :=undef) rfl (by kernel_rfl) (by kernel_rfl) (by kernel_rfl) (fun _ _ _ h=>h) (Or.inr ⟨by rfl,rfl⟩) (by assumption) ?_
    try simp only [Act.put,List.setIfInBounds_toArray,List.set_cons_zero,List.set_cons_succ]
    refine wpAnyH_take (i :=27) (oi := {dst :=some 48,op :=Go.Op.pick (Go.Operand.tmp 27) (Go.Operand.const (Go.Value.bool true)) (Go.Operand.tmp 47),type :=4,pos := "keep.go:152",after := #[{on :=6,ground :=Go.Ground.data},{on :=26,ground :=Go.Ground.data}],guard :=none}) (v := ?_) rfl (by kernel_rfl) (by kernel_rfl) (by kernel_rfl) (fun _ _ _ h=>h) (Or.inl ⟨by rfl, ?_⟩) (by assumption) ?_
    rotate_left
    ·intro w hSw;(try dsimp only at hSw);go_simp;all_goals (with_reducible rfl)
    try simp only [Act.put,List.setIfInBounds_toArray,List.set_cons_zero,List.set_cons_succ]
    refine wpAnyH_done (by kernel_rfl) ?_ _
    go_wp2
    go_ret
    exact ⟨Ag (by rw [E.out,Oo HP.out hlt];simp),hbF⟩
   rw [hgv] at HG
   by_cases hty :vk=ct
   ·
    have hq : (vk !=ct) =false :=by simp [hty]
    have HP :Hid (Hn t r k=false) :=by show _=_;rw [EI.out];rw [hgv,decide_eq_true hty];rfl
    clear hty hgv
    go_wp2_with fail
    refine wp_region_held_drew (S := (fun W=>W.cell? ⟨rb,ro+k*3,none⟩ =some (.int .i64 vk) ∧W.cell? ⟨rb,ro+k*3+1,none⟩ =some (.int .i64 vn) ∧W.cell? ⟨rb,ro+k*3+2,none⟩ =some (.string vs) ∧W.cell? ⟨wr.heap.size,1,none⟩ =some (.int .i64 ct) ∧W.cell? ⟨wr.heap.size,2,none⟩ =some (.bool cm))) (by kernel_rfl) ?_ (fun hHeld=> ?_)
    ·exact s0
    refine wpAnyH_take (i :=0) (oi := {dst :=some 21,op :=Go.Op.move (Go.Operand.tmp 1),type :=55,pos := "keep.go:152",after := #[],guard :=none}) (v := ?_) rfl (by kernel_rfl) (by kernel_rfl) (by kernel_rfl) (fun _ _ _ h=>h) (Or.inl ⟨by rfl, ?_⟩) (by assumption) ?_
    rotate_left
    ·intro w hSw;(try dsimp only at hSw);go_simp;all_goals (with_reducible rfl)
    try simp only [Act.put,List.setIfInBounds_toArray,List.set_cons_zero,List.set_cons_succ]
    refine wpAnyH_take (i :=1) (oi := {dst :=some 22,op :=Go.Op.move (Go.Operand.tmp 5),type :=3,pos := "keep.go:152",after := #[],guard :=none}) (v := ?_) rfl (by kernel_rfl) (by kernel_rfl) (by kernel_rfl) (fun _ _ _ h=>h) (Or.inl ⟨by rfl, ?_⟩) (by assumption) ?_
    rotate_left
    ·intro w hSw;(try dsimp only at hSw);go_simp;all_goals (with_reducible rfl)
    try simp only [Act.put,List.setIfInBounds_toArray,List.set_cons_zero,List.set_cons_succ]
    refine wpAnyH_take (i :=2) (oi := {dst :=some 23,op :=Go.Op.indexAddr 55 (Go.Operand.tmp 21) (Go.Operand.tmp 22),type :=0,pos := "keep.go:152",after := #[{on :=0,ground :=Go.Ground.data},{on :=1,ground :=Go.Ground.data}],guard :=none}) (v := ?_) rfl (by kernel_rfl) (by kernel_rfl) (by kernel_rfl) (fun _ _ _ h=>h) (Or.inl ⟨by rfl, ?_⟩) (by assumption) ?_
    rotate_left
    ·intro w hSw;(try dsimp only at hSw);go_simp;all_goals (with_reducible rfl)
    try simp only [Act.put,List.setIfInBounds_toArray,List.set_cons_zero,List.set_cons_succ]
    refine wpAnyH_take (i :=3) (oi := {dst :=some 24,op :=Go.Op.load 32 (Go.Operand.tmp 23),type :=32,pos := "keep.go:152",after := #[{on :=2,ground :=Go.Ground.data}],guard :=none}) (v := ?_) rfl (by kernel_rfl) (by kernel_rfl) (by kernel_rfl) (fun _ _ _ h=>h) (Or.inl ⟨by rfl, ?_⟩) (by assumption) ?_
    rotate_left
    ·intro w hSw;(try dsimp only at hSw);go_simp;all_goals (with_reducible rfl)
    try simp only [Act.put,List.setIfInBounds_toArray,List.set_cons_zero,List.set_cons_succ]
    refine wpAnyH_ready (rs := [4]) (by kernel_rfl) (by simp) ?_
    refine AllReadyH.cons (o := {dst :=some 25,op :=Go.Op.call {callee :=Go.Callee.value (Go.Operand.func 57),args := #[Go.Operand.tmp 24],argTypes := #[32]},type :=4,pos := "keep.go:152",after := #[{on :=3,ground :=Go.Ground.data}],guard :=none}) rfl (fun K hK=> ?_) AllReadyH.nil
    go_simp
    (go_at_call 57;go_fit (HG _);rintro e w2 ⟨rfl,rfl⟩)
    go_wp2_with fail
    refine hK.out _ _ ?_ (fun hHeld=> ?_)
    ·exact s1
    clear hK K
    try simp only [Act.put,List.setIfInBounds_toArray,List.set_cons_zero,List.set_cons_succ]
    refine wpAnyH_take (i :=5) (oi := {dst :=some 26,op :=Go.Op.unOp Go.UnOp.not 4 (Go.Operand.tmp 25),type :=4,pos := "keep.go:152",after := #[{on :=4,ground :=Go.Ground.data}],guard :=none}) (v := ?_) rfl (by kernel_rfl) (by kernel_rfl) (by kernel_rfl) (fun _ _ _ h=>h) (Or.inl ⟨by rfl, ?_⟩) (by assumption) ?_
    rotate_left
    ·intro w hSw;(try dsimp only at hSw);go_simp;all_goals (with_reducible rfl)
    try simp only [Act.put,List.setIfInBounds_toArray,List.set_cons_zero,List.set_cons_succ]
    refine wpAnyH_take (i :=6) (oi := {dst :=some 27,op :=Go.Op.move (Go.Operand.tmp 26),type :=4,pos := "keep.go:152",after := #[{on :=5,ground :=Go.Ground.data},{on :=4,ground :=Go.Ground.chain}],guard :=none}) (v := ?_) rfl (by kernel_rfl) (by kernel_rfl) (by kernel_rfl) (fun _ _ _ h=>h) (Or.inl ⟨by rfl, ?_⟩) (by assumption) ?_
    rotate_left
    ·intro w hSw;(try dsimp only at hSw);go_simp;all_goals (with_reducible rfl)
    try simp only [Act.put,List.setIfInBounds_toArray,List.set_cons_zero,List.set_cons_succ]
    refine wpAnyH_take (i :=7) (oi := {dst :=some 28,op :=Go.Op.move (Go.Operand.tmp 1),type :=55,pos := "keep.go:152",after := #[{on :=6,ground :=Go.Ground.guard}],guard :=some (6,false)}) (v := ?_) rfl (by kernel_rfl) (by kernel_rfl) (by kernel_rfl) (fun _ _ _ h=>h) (Or.inl ⟨by rfl, ?_⟩) (by assumption) ?_
    rotate_left
    ·intro w hSw;(try dsimp only at hSw);go_simp;all_goals (with_reducible rfl)
    try simp only [Act.put,List.setIfInBounds_toArray,List.set_cons_zero,List.set_cons_succ]
    refine wpAnyH_take (i :=8) (oi := {dst :=some 29,op :=Go.Op.move (Go.Operand.tmp 5),type :=3,pos := "keep.go:152",after := #[{on :=6,ground :=Go.Ground.guard}],guard :=some (6,false)}) (v := ?_) rfl (by kernel_rfl) (by kernel_rfl) (by kernel_rfl) (fun _ _ _ h=>h) (Or.inl ⟨by rfl, ?_⟩) (by assumption) ?_
    rotate_left
    ·intro w hSw;(try dsimp only at hSw);go_simp;all_goals (with_reducible rfl)
    try simp only [Act.put,List.setIfInBounds_toArray,List.set_cons_zero,List.set_cons_succ]
    refine wpAnyH_take (i :=9) (oi := {dst :=some 30,op :=Go.Op.indexAddr 55 (Go.Operand.tmp 28) (Go.Operand.tmp 29),type :=0,pos := "keep.go:152",after := #[{on :=7,ground :=Go.Ground.data},{on :=8,ground :=Go.Ground.data},{on :=6,ground :=Go.Ground.guard}],guard :=some (6,false)}) (v := ?_) rfl (by kernel_rfl) (by kernel_rfl) (by kernel_rfl) (fun _ _ _ h=>h) (Or.inl ⟨by rfl, ?_⟩) (by assumption) ?_
    rotate_left
    ·intro w hSw;(try dsimp only at hSw);go_simp;all_goals (with_reducible rfl)
    try simp only [Act.put,List.setIfInBounds_toArray,List.set_cons_zero,List.set_cons_succ]
    refine wpAnyH_take (i :=10) (oi := {dst :=some 31,op :=Go.Op.fieldAddr 32 (Go.Operand.tmp 30) 0,type :=0,pos := "keep.go:152",after := #[{on :=9,ground :=Go.Ground.data},{on :=6,ground :=Go.Ground.guard}],guard :=some (6,false)}) (v := ?_) rfl (by kernel_rfl) (by kernel_rfl) (by kernel_rfl) (fun _ _ _ h=>h) (Or.inl ⟨by rfl, ?_⟩) (by assumption) ?_
    rotate_left
    ·intro w hSw;(try dsimp only at hSw);go_simp;all_goals (with_reducible rfl)
    try simp only [Act.put,List.setIfInBounds_toArray,List.set_cons_zero,List.set_cons_succ]
    refine wpAnyH_take (i :=11) (oi := {dst :=some 32,op :=Go.Op.load 3 (Go.Operand.tmp 31),type :=3,pos := "keep.go:152",after := #[{on :=10,ground :=Go.Ground.data},{on :=6,ground :=Go.Ground.guard}],guard :=some (6,false)}) (v := ?_) rfl (by kernel_rfl) (by kernel_rfl) (by kernel_rfl) (fun _ _ _ h=>h) (Or.inl ⟨by rfl, ?_⟩) (by assumption) ?_
    rotate_left
    ·intro w hSw;(try dsimp only at hSw);go_simp;all_goals (with_reducible rfl)
    try simp only [Act.put,List.setIfInBounds_toArray,List.set_cons_zero,List.set_cons_succ]
    refine wpAnyH_take (i :=12) (oi := {dst :=some 33,op :=Go.Op.fieldAddr 63 (Go.Operand.tmp 6) 1,type :=0,pos := "keep.go:152",after := #[{on :=6,ground :=Go.Ground.guard}],guard :=some (6,false)}) (v := ?_) rfl (by kernel_rfl) (by kernel_rfl) (by kernel_rfl) (fun _ _ _ h=>h) (Or.inl ⟨by rfl, ?_⟩) (by assumption) ?_
    rotate_left
    ·intro w hSw;(try dsimp only at hSw);go_simp;all_goals (with_reducible rfl)
    try simp only [Act.put,List.setIfInBounds_toArray,List.set_cons_zero,List.set_cons_succ]
    refine wpAnyH_take (i :=13) (oi := {dst :=some 34,op :=Go.Op.load 3 (Go.Operand.tmp 33),type :=3,pos := "keep.go:152",after := #[{on :=12,ground :=Go.Ground.data},{on :=6,ground :=Go.Ground.guard}],guard :=some (6,false)}) (v := ?_) rfl (by kernel_rfl) (by kernel_rfl) (by kernel_rfl) (fun _ _ _ h=>h) (Or.inl ⟨by rfl, ?_⟩) (by assumption) ?_
    rotate_left
    ·intro w hSw;(try dsimp only at hSw);go_simp;all_goals (with_reducible rfl)
    try simp only [Act.put,List.setIfInBounds_toArray,List.set_cons_zero,List.set_cons_succ]
    refine wpAnyH_take (i :=14) (oi := {dst :=some 35,op :=Go.Op.binOp Go.BinOp.neq 3 (Go.Operand.tmp 32) (Go.Operand.tmp 34) 3,type :=4,pos := "keep.go:152",after := #[{on :=11,ground :=Go.Ground.data},{on :=13,ground :=Go.Ground.data},{on :=6,ground :=Go.Ground.guard}],guard :=some (6,false)}) (v := ?_) rfl (by kernel_rfl) (by kernel_rfl) (by kernel_rfl) (fun _ _ _ h=>h) (Or.inl ⟨by rfl, ?_⟩) (by assumption) ?_
    rotate_left
    ·intro w hSw;(try dsimp only at hSw);go_simp;all_goals (with_reducible rfl)
    try simp only [Act.put,List.setIfInBounds_toArray,List.set_cons_zero,List.set_cons_succ]
    refine wpAnyH_take (i :=15) (oi := {dst :=some 36,op :=Go.Op.move (Go.Operand.tmp 35),type :=4,pos := "keep.go:152",after := #[{on :=14,ground :=Go.Ground.data},{on :=6,ground :=Go.Ground.chain},{on :=6,ground :=Go.Ground.guard}],guard :=some (6,false)}) (v := ?_) rfl (by kernel_rfl) (by kernel_rfl) (by kernel_rfl) (fun _ _ _ h=>h) (Or.inl ⟨by rfl, ?_⟩) (by assumption) ?_
    rotate_left
    ·intro w hSw;(try dsimp only at hSw);go_simp;all_goals (with_reducible rfl)
    try simp only [Act.put,List.setIfInBounds_toArray,List.set_cons_zero,List.set_cons_succ]
    refine wpAnyH_take (i :=16) (oi := {dst :=some 37,op :=Go.Op.fieldAddr 63 (Go.Operand.tmp 6) 2,type :=0,pos := "keep.go:152",after := #[{on :=15,ground :=Go.Ground.guard}],guard :=some (15,true)}) (v :=undef) rfl (by kernel_rfl) (by kernel_rfl) (by kernel_rfl) (fun _ _ _ h=>h) (Or.inr ⟨by rfl,rfl⟩) (by assumption) ?_
    try simp only [Act.put,List.setIfInBounds_toArray,List.set_cons_zero,List.set_cons_succ]
    refine wpAnyH_take (i :=17) (oi := {dst :=some 38,op :=Go.Op.load 4 (Go.Operand.tmp 37),type :=4,pos := "keep.go:152",after := #[{on :=16,ground :=Go.Ground.data},{on :=15,ground :=Go.Ground.guard}],guard :=some (15,true)}) (v :=undef) rfl (by kernel_rfl) (by kernel_rfl) (by kernel_rfl) (fun _ _ _ h=>h) (Or.inr ⟨by rfl,rfl⟩) (by assumption) ?_
    try simp only [Act.put,List.setIfInBounds_toArray,List.set_cons_zero,List.set_cons_succ]
    refine wpAnyH_take (i :=18) (oi := {dst :=some 39,op :=Go.Op.move (Go.Operand.tmp 38),type :=4,pos := "keep.go:152",after := #[{on :=17,ground :=Go.Ground.data},{on :=15,ground :=Go.Ground.chain},{on :=15,ground :=Go.Ground.guard}],guard :=some (15,true)}) (v :=undef) rfl (by kernel_rfl) (by kernel_rfl) (by kernel_rfl) (fun _ _ _ h=>h) (Or.inr ⟨by rfl,rfl⟩) (by assumption) ?_
    try simp only [Act.put,List.setIfInBounds_toArray,List.set_cons_zero,List.set_cons_succ]
    refine wpAnyH_take (i :=19) (oi := {dst :=some 40,op :=Go.Op.move (Go.Operand.tmp 1),type :=55,pos := "keep.go:152",after := #[{on :=18,ground :=Go.Ground.guard}],guard :=some (18,false)}) (v :=undef) rfl (by kernel_rfl) (by kernel_rfl) (by kernel_rfl) (fun _ _ _ h=>h) (Or.inr ⟨by rfl,rfl⟩) (by assumption) ?_
    try simp only [Act.put,List.setIfInBounds_toArray,List.set_cons_zero,List.set_cons_succ]
    refine wpAnyH_take (i :=20) (oi := {dst :=some 41,op :=Go.Op.move (Go.Operand.tmp 5),type :=3,pos := "keep.go:152",after := #[{on :=18,ground :=Go.Ground.guard}],guard :=some (18,false)}) (v :=undef) rfl (by kernel_rfl) (by kernel_rfl) (by kernel_rfl) (fun _ _ _ h=>h) (Or.inr ⟨by rfl,rfl⟩) (by assumption) ?_
    try simp only [Act.put,List.setIfInBounds_toArray,List.set_cons_zero,List.set_cons_succ]
    refine wpAnyH_take (i :=21) (oi := {dst :=some 42,op :=Go.Op.indexAddr 55 (Go.Operand.tmp 40) (Go.Operand.tmp 41),type :=0,pos := "keep.go:152",after := #[{on :=19,ground :=Go.Ground.data},{on :=20,ground :=Go.Ground.data},{on :=18,ground :=Go.Ground.guard}],guard :=some (18,false)}) (v :=undef) rfl (by kernel_rfl) (by kernel_rfl) (by kernel_rfl) (fun _ _ _ h=>h) (Or.inr ⟨by rfl,rfl⟩) (by assumption) ?_
    try simp only [Act.put,List.setIfInBounds_toArray,List.set_cons_zero,List.set_cons_succ]
    refine wpAnyH_take (i :=22) (oi := {dst :=some 43,op :=Go.Op.fieldAddr 32 (Go.Operand.tmp 42) 0,type :=0,pos := "keep.go:152",after := #[{on :=21,ground :=Go.Ground.data},{on :=18,ground :=Go.Ground.guard}],guard :=some (18,false)}) (v :=undef) rfl (by kernel_rfl) (by kernel_rfl) (by kernel_rfl) (fun _ _ _ h=>h) (Or.inr ⟨by rfl,rfl⟩) (by assumption) ?_
    try simp only [Act.put,List.setIfInBounds_toArray,List.set_cons_zero,List.set_cons_succ]
    refine wpAnyH_take (i :=23) (oi := {dst :=some 44,op :=Go.Op.load 3 (Go.Operand.tmp 43),type :=3,pos := "keep.go:152",after := #[{on :=22,ground :=Go.Ground.data},{on :=18,ground :=Go.Ground.guard}],guard :=some (18,false)}) (v :=undef) rfl (by kernel_rfl) (by kernel_rfl) (by kernel_rfl) (fun _ _ _ h=>h) (Or.inr ⟨by rfl,rfl⟩) (by assumption) ?_
    try simp only [Act.put,List.setIfInBounds_toArray,List.set_cons_zero,List.set_cons_succ]
    refine wpAnyH_take (i :=24) (oi := {dst :=some 45,op :=Go.Op.binOp Go.BinOp.neq 3 (Go.Operand.tmp 44) (Go.Operand.const (Go.Value.int Go.IntKind.i64 0)) 3,type :=4,pos := "keep.go:152",after := #[{on :=23,ground :=Go.Ground.data},{on :=18,ground :=Go.Ground.guard}],guard :=some (18,false)}) (v :=undef) rfl (by kernel_rfl) (by kernel_rfl) (by kernel_rfl) (fun _ _ _ h=>h) (Or.inr ⟨by rfl,rfl⟩) (by assumption) ?_
    try simp only [Act.put,List.setIfInBounds_toArray,List.set_cons_zero,List.set_cons_succ]
    refine wpAnyH_take (i :=25) (oi := {dst :=some 46,op :=Go.Op.pick (Go.Operand.tmp 39) (Go.Operand.const (Go.Value.bool true)) (Go.Operand.tmp 45),type :=4,pos := "keep.go:152",after := #[{on :=18,ground :=Go.Ground.data},{on :=24,ground :=Go.Ground.data},{on :=15,ground :=Go.Ground.guard}],guard :=some (15,true)}) (v :=undef) rfl (by kernel_rfl) (by kernel_rfl) (by kernel_rfl) (fun _ _ _ h=>h) (Or.inr ⟨by rfl,rfl⟩) (by assumption) ?_
    try simp only [Act.put,List.setIfInBounds_toArray,List.set_cons_zero,List.set_cons_succ]
    refine wpAnyH_take (i :=26) (oi := {dst :=some 47,op :=Go.Op.pick (Go.Operand.tmp 36) (Go.Operand.tmp 46) (Go.Operand.const (Go.Value.bool false)),type :=4,pos := "keep.go:152",after := #[{on :=15,ground :=Go.Ground.data},{on :=25,ground :=Go.Ground.data},{on :=6,ground :=Go.Ground.guard}],guard :=some (6,false)}) (v := ?_) rfl (by kernel_rfl) (by kernel_rfl) (by kernel_rfl) (fun _ _ _ h=>h) (Or.inl ⟨by rfl, ?_⟩) (by assumption) ?_
    rotate_left
    ·intro w hSw;(try dsimp only at hSw);go_simp;all_goals (with_reducible rfl)
    try simp only [Act.put,List.setIfInBounds_toArray,List.set_cons_zero,List.set_cons_succ]
    refine wpAnyH_take (i :=27) (oi := {dst :=some 48,op :=Go.Op.pick (Go.Operand.tmp 27) (Go.Operand.const (Go.Value.bool true)) (Go.Operand.tmp 47),type :=4,pos := "keep.go:152",after := #[{on :=6,ground :=Go.Ground.data},{on :=26,ground :=Go.Ground.data}],guard :=none}) (v := ?_) rfl (by kernel_rfl) (by kernel_rfl) (by kernel_rfl) (fun _ _ _ h=>h) (Or.inl ⟨by rfl, ?_⟩) (by assumption) ?_
    rotate_left
    ·intro w hSw;(try dsimp only at hSw);go_simp;all_goals (with_reducible rfl)
    try simp only [Act.put,List.setIfInBounds_toArray,List.set_cons_zero,List.set_cons_succ]
    refine wpAnyH_done (by kernel_rfl) ?_ _
    go_wp2
    go_roundw
    case rel=>exact ⟨k+1,by omega,by go_num,id (fun j hj=>by rcases Nat.lt_succ_iff_lt_or_eq.1 hj with h | h;exact HJ.out j h;rw [h];exact HP.out),hbG⟩
    case measure=>simp [intOf];omega
   cases cm
   rotate_left
   ·
    have hq : (vk !=ct) =true :=by simp [hty]
    have HP :Hid (Hn t r k=true) :=by show _=_;rw [EI.out];rw [decide_eq_false hty];simp
    clear hty hgv
    go_wp2_with fail
    refine wp_region_held_drew (S := (fun W=>W.cell? ⟨rb,ro+k*3,none⟩ =some (.int .i64 vk) ∧W.cell? ⟨rb,ro+k*3+1,none⟩ =some (.int .i64 vn) ∧W.cell? ⟨rb,ro+k*3+2,none⟩ =some (.string vs) ∧W.cell? ⟨wr.heap.size,1,none⟩ =some (.int .i64 ct) ∧W.cell? ⟨wr.heap.size,2,none⟩ =some (.bool true))) (by kernel_rfl) ?_ (fun hHeld=> ?_)
    ·exact s0
    refine wpAnyH_take (i :=0) (oi := {dst :=some 21,op :=Go.Op.move (Go.Operand.tmp 1),type :=55,pos := "keep.go:152",after := #[],guard :=none}) (v := ?_) rfl (by kernel_rfl) (by kernel_rfl) (by kernel_rfl) (fun _ _ _ h=>h) (Or.inl ⟨by rfl, ?_⟩) (by assumption) ?_
    rotate_left
    ·intro w hSw;(try dsimp only at hSw);go_simp;all_goals (with_reducible rfl)
    try simp only [Act.put,List.setIfInBounds_toArray,List.set_cons_zero,List.set_cons_succ]
    refine wpAnyH_take (i :=1) (oi := {dst :=some 22,op :=Go.Op.move (Go.Operand.tmp 5),type :=3,pos := "keep.go:152",after := #[],guard :=none}) (v := ?_) rfl (by kernel_rfl) (by kernel_rfl) (by kernel_rfl) (fun _ _ _ h=>h) (Or.inl ⟨by rfl, ?_⟩) (by assumption) ?_
    rotate_left
    ·intro w hSw;(try dsimp only at hSw);go_simp;all_goals (with_reducible rfl)
    try simp only [Act.put,List.setIfInBounds_toArray,List.set_cons_zero,List.set_cons_succ]
    refine wpAnyH_take (i :=2) (oi := {dst :=some 23,op :=Go.Op.indexAddr 55 (Go.Operand.tmp 21) (Go.Operand.tmp 22),type :=0,pos := "keep.go:152",after := #[{on :=0,ground :=Go.Ground.data},{on :=1,ground :=Go.Ground.data}],guard :=none}) (v := ?_) rfl (by kernel_rfl) (by kernel_rfl) (by kernel_rfl) (fun _ _ _ h=>h) (Or.inl ⟨by rfl, ?_⟩) (by assumption) ?_
    rotate_left
    ·intro w hSw;(try dsimp only at hSw);go_simp;all_goals (with_reducible rfl)
    try simp only [Act.put,List.setIfInBounds_toArray,List.set_cons_zero,List.set_cons_succ]
    refine wpAnyH_take (i :=3) (oi := {dst :=some 24,op :=Go.Op.load 32 (Go.Operand.tmp 23),type :=32,pos := "keep.go:152",after := #[{on :=2,ground :=Go.Ground.data}],guard :=none}) (v := ?_) rfl (by kernel_rfl) (by kernel_rfl) (by kernel_rfl) (fun _ _ _ h=>h) (Or.inl ⟨by rfl, ?_⟩) (by assumption) ?_
    rotate_left
    ·intro w hSw;(try dsimp only at hSw);go_simp;all_goals (with_reducible rfl)
    try simp only [Act.put,List.setIfInBounds_toArray,List.set_cons_zero,List.set_cons_succ]
    refine wpAnyH_ready (rs := [4]) (by kernel_rfl) (by simp) ?_
    refine AllReadyH.cons (o := {dst :=some 25,op :=Go.Op.call {callee :=Go.Callee.value (Go.Operand.func 57),args := #[Go.Operand.tmp 24],argTypes := #[32]},type :=4,pos := "keep.go:152",after := #[{on :=3,ground :=Go.Ground.data}],guard :=none}) rfl (fun K hK=> ?_) AllReadyH.nil
    go_simp
    (go_at_call 57;go_fit (HG _);rintro e w2 ⟨rfl,rfl⟩)
    go_wp2_with fail
    refine hK.out _ _ ?_ (fun hHeld=> ?_)
    ·exact s1
    clear hK K
    try simp only [Act.put,List.setIfInBounds_toArray,List.set_cons_zero,List.set_cons_succ]
    refine wpAnyH_take (i :=5) (oi := {dst :=some 26,op :=Go.Op.unOp Go.UnOp.not 4 (Go.Operand.tmp 25),type :=4,pos := "keep.go:152",after := #[{on :=4,ground :=Go.Ground.data}],guard :=none}) (v := ?_) rfl (by kernel_rfl) (by kernel_rfl) (by kernel_rfl) (fun _ _ _ h=>h) (Or.inl ⟨by rfl, ?_⟩) (by assumption) ?_
    rotate_left
    ·intro w hSw;(try dsimp only at hSw);go_simp;all_goals (with_reducible rfl)
    try simp only [Act.put,List.setIfInBounds_toArray,List.set_cons_zero,List.set_cons_succ]
    refine wpAnyH_take (i :=6) (oi := {dst :=some 27,op :=Go.Op.move (Go.Operand.tmp 26),type :=4,pos := "keep.go:152",after := #[{on :=5,ground :=Go.Ground.data},{on :=4,ground :=Go.Ground.chain}],guard :=none}) (v := ?_) rfl (by kernel_rfl) (by kernel_rfl) (by kernel_rfl) (fun _ _ _ h=>h) (Or.inl ⟨by rfl, ?_⟩) (by assumption) ?_
    rotate_left
    ·intro w hSw;(try dsimp only at hSw);go_simp;all_goals (with_reducible rfl)
    try simp only [Act.put,List.setIfInBounds_toArray,List.set_cons_zero,List.set_cons_succ]
    refine wpAnyH_take (i :=7) (oi := {dst :=some 28,op :=Go.Op.move (Go.Operand.tmp 1),type :=55,pos := "keep.go:152",after := #[{on :=6,ground :=Go.Ground.guard}],guard :=some (6,false)}) (v := ?_) rfl (by kernel_rfl) (by kernel_rfl) (by kernel_rfl) (fun _ _ _ h=>h) (Or.inl ⟨by rfl, ?_⟩) (by assumption) ?_
    rotate_left
    ·intro w hSw;(try dsimp only at hSw);go_simp;all_goals (with_reducible rfl)
    try simp only [Act.put,List.setIfInBounds_toArray,List.set_cons_zero,List.set_cons_succ]
    refine wpAnyH_take (i :=8) (oi := {dst :=some 29,op :=Go.Op.move (Go.Operand.tmp 5),type :=3,pos := "keep.go:152",after := #[{on :=6,ground :=Go.Ground.guard}],guard :=some (6,false)}) (v := ?_) rfl (by kernel_rfl) (by kernel_rfl) (by kernel_rfl) (fun _ _ _ h=>h) (Or.inl ⟨by rfl, ?_⟩) (by assumption) ?_
    rotate_left
    ·intro w hSw;(try dsimp only at hSw);go_simp;all_goals (with_reducible rfl)
    try simp only [Act.put,List.setIfInBounds_toArray,List.set_cons_zero,List.set_cons_succ]
    refine wpAnyH_take (i :=9) (oi := {dst :=some 30,op :=Go.Op.indexAddr 55 (Go.Operand.tmp 28) (Go.Operand.tmp 29),type :=0,pos := "keep.go:152",after := #[{on :=7,ground :=Go.Ground.data},{on :=8,ground :=Go.Ground.data},{on :=6,ground :=Go.Ground.guard}],guard :=some (6,false)}) (v := ?_) rfl (by kernel_rfl) (by kernel_rfl) (by kernel_rfl) (fun _ _ _ h=>h) (Or.inl ⟨by rfl, ?_⟩) (by assumption) ?_
    rotate_left
    ·intro w hSw;(try dsimp only at hSw);go_simp;all_goals (with_reducible rfl)
    try simp only [Act.put,List.setIfInBounds_toArray,List.set_cons_zero,List.set_cons_succ]
    refine wpAnyH_take (i :=10) (oi := {dst :=some 31,op :=Go.Op.fieldAddr 32 (Go.Operand.tmp 30) 0,type :=0,pos := "keep.go:152",after := #[{on :=9,ground :=Go.Ground.data},{on :=6,ground :=Go.Ground.guard}],guard :=some (6,false)}) (v := ?_) rfl (by kernel_rfl) (by kernel_rfl) (by kernel_rfl) (fun _ _ _ h=>h) (Or.inl ⟨by rfl, ?_⟩) (by assumption) ?_
    rotate_left
    ·intro w hSw;(try dsimp only at hSw);go_simp;all_goals (with_reducible rfl)
    try simp only [Act.put,List.setIfInBounds_toArray,List.set_cons_zero,List.set_cons_succ]
    refine wpAnyH_take (i :=11) (oi := {dst :=some 32,op :=Go.Op.load 3 (Go.Operand.tmp 31),type :=3,pos := "keep.go:152",after := #[{on :=10,ground :=Go.Ground.data},{on :=6,ground :=Go.Ground.guard}],guard :=some (6,false)}) (v := ?_) rfl (by kernel_rfl) (by kernel_rfl) (by kernel_rfl) (fun _ _ _ h=>h) (Or.inl ⟨by rfl, ?_⟩) (by assumption) ?_
    rotate_left
    ·intro w hSw;(try dsimp only at hSw);go_simp;all_goals (with_reducible rfl)
    try simp only [Act.put,List.setIfInBounds_toArray,List.set_cons_zero,List.set_cons_succ]
    refine wpAnyH_take (i :=12) (oi := {dst :=some 33,op :=Go.Op.fieldAddr 63 (Go.Operand.tmp 6) 1,type :=0,pos := "keep.go:152",after := #[{on :=6,ground :=Go.Ground.guard}],guard :=some (6,false)}) (v := ?_) rfl (by kernel_rfl) (by kernel_rfl) (by kernel_rfl) (fun _ _ _ h=>h) (Or.inl ⟨by rfl, ?_⟩) (by assumption) ?_
    rotate_left
    ·intro w hSw;(try dsimp only at hSw);go_simp;all_goals (with_reducible rfl)
    try simp only [Act.put,List.setIfInBounds_toArray,List.set_cons_zero,List.set_cons_succ]
    refine wpAnyH_take (i :=13) (oi := {dst :=some 34,op :=Go.Op.load 3 (Go.Operand.tmp 33),type :=3,pos := "keep.go:152",after := #[{on :=12,ground :=Go.Ground.data},{on :=6,ground :=Go.Ground.guard}],guard :=some (6,false)}) (v := ?_) rfl (by kernel_rfl) (by kernel_rfl) (by kernel_rfl) (fun _ _ _ h=>h) (Or.inl ⟨by rfl, ?_⟩) (by assumption) ?_
    rotate_left
    ·intro w hSw;(try dsimp only at hSw);go_simp;all_goals (with_reducible rfl)
    try simp only [Act.put,List.setIfInBounds_toArray,List.set_cons_zero,List.set_cons_succ]
    refine wpAnyH_take (i :=14) (oi := {dst :=some 35,op :=Go.Op.binOp Go.BinOp.neq 3 (Go.Operand.tmp 32) (Go.Operand.tmp 34) 3,type :=4,pos := "keep.go:152",after := #[{on :=11,ground :=Go.Ground.data},{on :=13,ground :=Go.Ground.data},{on :=6,ground :=Go.Ground.guard}],guard :=some (6,false)}) (v := ?_) rfl (by kernel_rfl) (by kernel_rfl) (by kernel_rfl) (fun _ _ _ h=>h) (Or.inl ⟨by rfl, ?_⟩) (by assumption) ?_
    rotate_left
    ·intro w hSw;(try dsimp only at hSw);go_simp;all_goals (with_reducible rfl)
    try simp only [Act.put,List.setIfInBounds_toArray,List.set_cons_zero,List.set_cons_succ]
    refine wpAnyH_take (i :=15) (oi := {dst :=some 36,op :=Go.Op.move (Go.Operand.tmp 35),type :=4,pos := "keep.go:152",after := #[{on :=14,ground :=Go.Ground.data},{on :=6,ground :=Go.Ground.chain},{on :=6,ground :=Go.Ground.guard}],guard :=some (6,false)}) (v := ?_) rfl (by kernel_rfl) (by kernel_rfl) (by kernel_rfl) (fun _ _ _ h=>h) (Or.inl ⟨by rfl, ?_⟩) (by assumption) ?_
    rotate_left
    ·intro w hSw;(try dsimp only at hSw);go_simp;all_goals (with_reducible rfl)
    try simp only [Act.put,List.setIfInBounds_toArray,List.set_cons_zero,List.set_cons_succ]
    refine wpAnyH_take (i :=16) (oi := {dst :=some 37,op :=Go.Op.fieldAddr 63 (Go.Operand.tmp 6) 2,type :=0,pos := "keep.go:152",after := #[{on :=15,ground :=Go.Ground.guard}],guard :=some (15,true)}) (v := ?_) rfl (by kernel_rfl) (by kernel_rfl) (by kernel_rfl) (fun _ _ _ h=>h) (Or.inl ⟨by rfl, ?_⟩) (by assumption) ?_
    rotate_left
    ·intro w hSw;(try dsimp only at hSw);go_simp;all_goals (with_reducible rfl)
    try simp only [Act.put,List.setIfInBounds_toArray,List.set_cons_zero,List.set_cons_succ]
    refine wpAnyH_take (i :=17) (oi := {dst :=some 38,op :=Go.Op.load 4 (Go.Operand.tmp 37),type :=4,pos := "keep.go:152",after := #[{on :=16,ground :=Go.Ground.data},{on :=15,ground :=Go.Ground.guard}],guard :=some (15,true)}) (v := ?_) rfl (by kernel_rfl) (by kernel_rfl) (by kernel_rfl) (fun _ _ _ h=>h) (Or.inl ⟨by rfl, ?_⟩) (by assumption) ?_
    rotate_left
    ·intro w hSw;(try dsimp only at hSw);go_simp;all_goals (with_reducible rfl)
    try simp only [Act.put,List.setIfInBounds_toArray,List.set_cons_zero,List.set_cons_succ]
    refine wpAnyH_take (i :=18) (oi := {dst :=some 39,op :=Go.Op.move (Go.Operand.tmp 38),type :=4,pos := "keep.go:152",after := #[{on :=17,ground :=Go.Ground.data},{on :=15,ground :=Go.Ground.chain},{on :=15,ground :=Go.Ground.guard}],guard :=some (15,true)}) (v := ?_) rfl (by kernel_rfl) (by kernel_rfl) (by kernel_rfl) (fun _ _ _ h=>h) (Or.inl ⟨by rfl, ?_⟩) (by assumption) ?_
    rotate_left
    ·intro w hSw;(try dsimp only at hSw);go_simp;all_goals (with_reducible rfl)
    try simp only [Act.put,List.setIfInBounds_toArray,List.set_cons_zero,List.set_cons_succ]
    refine wpAnyH_take (i :=19) (oi := {dst :=some 40,op :=Go.Op.move (Go.Operand.tmp 1),type :=55,pos := "keep.go:152",after := #[{on :=18,ground :=Go.Ground.guard}],guard :=some (18,false)}) (v :=undef) rfl (by kernel_rfl) (by kernel_rfl) (by kernel_rfl) (fun _ _ _ h=>h) (Or.inr ⟨by rfl,rfl⟩) (by assumption) ?_
    try simp only [Act.put,List.setIfInBounds_toArray,List.set_cons_zero,List.set_cons_succ]
    refine wpAnyH_take (i :=20) (oi := {dst :=some 41,op :=Go.Op.move (Go.Operand.tmp 5),type :=3,pos := "keep.go:152",after := #[{on :=18,ground :=Go.Ground.guard}],guard :=some (18,false)}) (v :=undef) rfl (by kernel_rfl) (by kernel_rfl) (by kernel_rfl) (fun _ _ _ h=>h) (Or.inr ⟨by rfl,rfl⟩) (by assumption) ?_
    try simp only [Act.put,List.setIfInBounds_toArray,List.set_cons_zero,List.set_cons_succ]
    refine wpAnyH_take (i :=21) (oi := {dst :=some 42,op :=Go.Op.indexAddr 55 (Go.Operand.tmp 40) (Go.Operand.tmp 41),type :=0,pos := "keep.go:152",after := #[{on :=19,ground :=Go.Ground.data},{on :=20,ground :=Go.Ground.data},{on :=18,ground :=Go.Ground.guard}],guard :=some (18,false)}) (v :=undef) rfl (by kernel_rfl) (by kernel_rfl) (by kernel_rfl) (fun _ _ _ h=>h) (Or.inr ⟨by rfl,rfl⟩) (by assumption) ?_
    try simp only [Act.put,List.setIfInBounds_toArray,List.set_cons_zero,List.set_cons_succ]
    refine wpAnyH_take (i :=22) (oi := {dst :=some 43,op :=Go.Op.fieldAddr 32 (Go.Operand.tmp 42) 0,type :=0,pos := "keep.go:152",after := #[{on :=21,ground :=Go.Ground.data},{on :=18,ground :=Go.Ground.guard}],guard :=some (18,false)}) (v :=undef) rfl (by kernel_rfl) (by kernel_rfl) (by kernel_rfl) (fun _ _ _ h=>h) (Or.inr ⟨by rfl,rfl⟩) (by assumption) ?_
    try simp only [Act.put,List.setIfInBounds_toArray,List.set_cons_zero,List.set_cons_succ]
    refine wpAnyH_take (i :=23) (oi := {dst :=some 44,op :=Go.Op.load 3 (Go.Operand.tmp 43),type :=3,pos := "keep.go:152",after := #[{on :=22,ground :=Go.Ground.data},{on :=18,ground :=Go.Ground.guard}],guard :=some (18,false)}) (v :=undef) rfl (by kernel_rfl) (by kernel_rfl) (by kernel_rfl) (fun _ _ _ h=>h) (Or.inr ⟨by rfl,rfl⟩) (by assumption) ?_
    try simp only [Act.put,List.setIfInBounds_toArray,List.set_cons_zero,List.set_cons_succ]
    refine wpAnyH_take (i :=24) (oi := {dst :=some 45,op :=Go.Op.binOp Go.BinOp.neq 3 (Go.Operand.tmp 44) (Go.Operand.const (Go.Value.int Go.IntKind.i64 0)) 3,type :=4,pos := "keep.go:152",after := #[{on :=23,ground :=Go.Ground.data},{on :=18,ground :=Go.Ground.guard}],guard :=some (18,false)}) (v :=undef) rfl (by kernel_rfl) (by kernel_rfl) (by kernel_rfl) (fun _ _ _ h=>h) (Or.inr ⟨by rfl,rfl⟩) (by assumption) ?_
    try simp only [Act.put,List.setIfInBounds_toArray,List.set_cons_zero,List.set_cons_succ]
    refine wpAnyH_take (i :=25) (oi := {dst :=some 46,op :=Go.Op.pick (Go.Operand.tmp 39) (Go.Operand.const (Go.Value.bool true)) (Go.Operand.tmp 45),type :=4,pos := "keep.go:152",after := #[{on :=18,ground :=Go.Ground.data},{on :=24,ground :=Go.Ground.data},{on :=15,ground :=Go.Ground.guard}],guard :=some (15,true)}) (v := ?_) rfl (by kernel_rfl) (by kernel_rfl) (by kernel_rfl) (fun _ _ _ h=>h) (Or.inl ⟨by rfl, ?_⟩) (by assumption) ?_
    rotate_left
    ·intro w hSw;(try dsimp only at hSw);go_simp;all_goals (with_reducible rfl)
    try simp only [Act.put,List.setIfInBounds_toArray,List.set_cons_zero,List.set_cons_succ]
    refine wpAnyH_take (i :=26) (oi := {dst :=some 47,op :=Go.Op.pick (Go.Operand.tmp 36) (Go.Operand.tmp 46) (Go.Operand.const (Go.Value.bool false)),type :=4,pos := "keep.go:152",after := #[{on :=15,ground :=Go.Ground.data},{on :=25,ground :=Go.Ground.data},{on :=6,ground :=Go.Ground.guard}],guard :=some (6,false)}) (v := ?_) rfl (by kernel_rfl) (by kernel_rfl) (by kernel_rfl) (fun _ _ _ h=>h) (Or.inl ⟨by rfl, ?_⟩) (by assumption) ?_
    rotate_left
    ·intro w hSw;(try dsimp only at hSw);go_simp;all_goals (with_reducible rfl)
    try simp only [Act.put,List.setIfInBounds_toArray,List.set_cons_zero,List.set_cons_succ]
    refine wpAnyH_take (i :=27) (oi := {dst :=some 48,op :=Go.Op.pick (Go.Operand.tmp 27) (Go.Operand.const (Go.Value.bool true)) (Go.Operand.tmp 47),type :=4,pos := "keep.go:152",after := #[{on :=6,ground :=Go.Ground.data},{on :=26,ground :=Go.Ground.data}],guard :=none}) (v := ?_) rfl (by kernel_rfl) (by kernel_rfl) (by kernel_rfl) (fun _ _ _ h=>h) (Or.inl ⟨by rfl, ?_⟩) (by assumption) ?_
    rotate_left
    ·intro w hSw;(try dsimp only at hSw);go_simp;all_goals (with_reducible rfl)
    try simp only [Act.put,List.setIfInBounds_toArray,List.set_cons_zero,List.set_cons_succ]
    refine wpAnyH_done (by kernel_rfl) ?_ _
    go_wp2
    go_ret
    exact ⟨Ag (by rw [E.out,Oo HP.out hlt];simp),hbF⟩
   by_cases hk0 :vk=0
   ·
    have hq : (vk !=ct) =true :=by simp [hty]
    have hq2 : (vk !=0) =false :=by simp [hk0]
    have HP :Hid (Hn t r k=false) :=by show _=_;rw [EI.out];rw [hgv,decide_eq_true hk0];simp
    clear hty hgv hk0
    go_wp2_with fail
    refine wp_region_held_drew (S := (fun W=>W.cell? ⟨rb,ro+k*3,none⟩ =some (.int .i64 vk) ∧W.cell? ⟨rb,ro+k*3+1,none⟩ =some (.int .i64 vn) ∧W.cell? ⟨rb,ro+k*3+2,none⟩ =some (.string vs) ∧W.cell? ⟨wr.heap.size,1,none⟩ =some (.int .i64 ct) ∧W.cell? ⟨wr.heap.size,2,none⟩ =some (.bool false))) (by kernel_rfl) ?_ (fun hHeld=> ?_)
    ·exact s0
    refine wpAnyH_take (i :=0) (oi := {dst :=some 21,op :=Go.Op.move (Go.Operand.tmp 1),type :=55,pos := "keep.go:152",after := #[],guard :=none}) (v := ?_) rfl (by kernel_rfl) (by kernel_rfl) (by kernel_rfl) (fun _ _ _ h=>h) (Or.inl ⟨by rfl, ?_⟩) (by assumption) ?_
    rotate_left
    ·intro w hSw;(try dsimp only at hSw);go_simp;all_goals (with_reducible rfl)
    try simp only [Act.put,List.setIfInBounds_toArray,List.set_cons_zero,List.set_cons_succ]
    refine wpAnyH_take (i :=1) (oi := {dst :=some 22,op :=Go.Op.move (Go.Operand.tmp 5),type :=3,pos := "keep.go:152",after := #[],guard :=none}) (v := ?_) rfl (by kernel_rfl) (by kernel_rfl) (by kernel_rfl) (fun _ _ _ h=>h) (Or.inl ⟨by rfl, ?_⟩) (by assumption) ?_
    rotate_left
    ·intro w hSw;(try dsimp only at hSw);go_simp;all_goals (with_reducible rfl)
    try simp only [Act.put,List.setIfInBounds_toArray,List.set_cons_zero,List.set_cons_succ]
    refine wpAnyH_take (i :=2) (oi := {dst :=some 23,op :=Go.Op.indexAddr 55 (Go.Operand.tmp 21) (Go.Operand.tmp 22),type :=0,pos := "keep.go:152",after := #[{on :=0,ground :=Go.Ground.data},{on :=1,ground :=Go.Ground.data}],guard :=none}) (v := ?_) rfl (by kernel_rfl) (by kernel_rfl) (by kernel_rfl) (fun _ _ _ h=>h) (Or.inl ⟨by rfl, ?_⟩) (by assumption) ?_
    rotate_left
    ·intro w hSw;(try dsimp only at hSw);go_simp;all_goals (with_reducible rfl)
    try simp only [Act.put,List.setIfInBounds_toArray,List.set_cons_zero,List.set_cons_succ]
    refine wpAnyH_take (i :=3) (oi := {dst :=some 24,op :=Go.Op.load 32 (Go.Operand.tmp 23),type :=32,pos := "keep.go:152",after := #[{on :=2,ground :=Go.Ground.data}],guard :=none}) (v := ?_) rfl (by kernel_rfl) (by kernel_rfl) (by kernel_rfl) (fun _ _ _ h=>h) (Or.inl ⟨by rfl, ?_⟩) (by assumption) ?_
    rotate_left
    ·intro w hSw;(try dsimp only at hSw);go_simp;all_goals (with_reducible rfl)
    try simp only [Act.put,List.setIfInBounds_toArray,List.set_cons_zero,List.set_cons_succ]
    refine wpAnyH_ready (rs := [4]) (by kernel_rfl) (by simp) ?_
    refine AllReadyH.cons (o := {dst :=some 25,op :=Go.Op.call {callee :=Go.Callee.value (Go.Operand.func 57),args := #[Go.Operand.tmp 24],argTypes := #[32]},type :=4,pos := "keep.go:152",after := #[{on :=3,ground :=Go.Ground.data}],guard :=none}) rfl (fun K hK=> ?_) AllReadyH.nil
    go_simp
    (go_at_call 57;go_fit (HG _);rintro e w2 ⟨rfl,rfl⟩)
    go_wp2_with fail
    refine hK.out _ _ ?_ (fun hHeld=> ?_)
    ·exact s1
    clear hK K
    try simp only [Act.put,List.setIfInBounds_toArray,List.set_cons_zero,List.set_cons_succ]
    refine wpAnyH_take (i :=5) (oi := {dst :=some 26,op :=Go.Op.unOp Go.UnOp.not 4 (Go.Operand.tmp 25),type :=4,pos := "keep.go:152",after := #[{on :=4,ground :=Go.Ground.data}],guard :=none}) (v := ?_) rfl (by kernel_rfl) (by kernel_rfl) (by kernel_rfl) (fun _ _ _ h=>h) (Or.inl ⟨by rfl, ?_⟩) (by assumption) ?_
    rotate_left
    ·intro w hSw;(try dsimp only at hSw);go_simp;all_goals (with_reducible rfl)
    try simp only [Act.put,List.setIfInBounds_toArray,List.set_cons_zero,List.set_cons_succ]
    refine wpAnyH_take (i :=6) (oi := {dst :=some 27,op :=Go.Op.move (Go.Operand.tmp 26),type :=4,pos := "keep.go:152",after := #[{on :=5,ground :=Go.Ground.data},{on :=4,ground :=Go.Ground.chain}],guard :=none}) (v := ?_) rfl (by kernel_rfl) (by kernel_rfl) (by kernel_rfl) (fun _ _ _ h=>h) (Or.inl ⟨by rfl, ?_⟩) (by assumption) ?_
    rotate_left
    ·intro w hSw;(try dsimp only at hSw);go_simp;all_goals (with_reducible rfl)
    try simp only [Act.put,List.setIfInBounds_toArray,List.set_cons_zero,List.set_cons_succ]
    refine wpAnyH_take (i :=7) (oi := {dst :=some 28,op :=Go.Op.move (Go.Operand.tmp 1),type :=55,pos := "keep.go:152",after := #[{on :=6,ground :=Go.Ground.guard}],guard :=some (6,false)}) (v := ?_) rfl (by kernel_rfl) (by kernel_rfl) (by kernel_rfl) (fun _ _ _ h=>h) (Or.inl ⟨by rfl, ?_⟩) (by assumption) ?_
    rotate_left
    ·intro w hSw;(try dsimp only at hSw);go_simp;all_goals (with_reducible rfl)
    try simp only [Act.put,List.setIfInBounds_toArray,List.set_cons_zero,List.set_cons_succ]
    refine wpAnyH_take (i :=8) (oi := {dst :=some 29,op :=Go.Op.move (Go.Operand.tmp 5),type :=3,pos := "keep.go:152",after := #[{on :=6,ground :=Go.Ground.guard}],guard :=some (6,false)}) (v := ?_) rfl (by kernel_rfl) (by kernel_rfl) (by kernel_rfl) (fun _ _ _ h=>h) (Or.inl ⟨by rfl, ?_⟩) (by assumption) ?_
    rotate_left
    ·intro w hSw;(try dsimp only at hSw);go_simp;all_goals (with_reducible rfl)
    try simp only [Act.put,List.setIfInBounds_toArray,List.set_cons_zero,List.set_cons_succ]
    refine wpAnyH_take (i :=9) (oi := {dst :=some 30,op :=Go.Op.indexAddr 55 (Go.Operand.tmp 28) (Go.Operand.tmp 29),type :=0,pos := "keep.go:152",after := #[{on :=7,ground :=Go.Ground.data},{on :=8,ground :=Go.Ground.data},{on :=6,ground :=Go.Ground.guard}],guard :=some (6,false)}) (v := ?_) rfl (by kernel_rfl) (by kernel_rfl) (by kernel_rfl) (fun _ _ _ h=>h) (Or.inl ⟨by rfl, ?_⟩) (by assumption) ?_
    rotate_left
    ·intro w hSw;(try dsimp only at hSw);go_simp;all_goals (with_reducible rfl)
    try simp only [Act.put,List.setIfInBounds_toArray,List.set_cons_zero,List.set_cons_succ]
    refine wpAnyH_take (i :=10) (oi := {dst :=some 31,op :=Go.Op.fieldAddr 32 (Go.Operand.tmp 30) 0,type :=0,pos := "keep.go:152",after := #[{on :=9,ground :=Go.Ground.data},{on :=6,ground :=Go.Ground.guard}],guard :=some (6,false)}) (v := ?_) rfl (by kernel_rfl) (by kernel_rfl) (by kernel_rfl) (fun _ _ _ h=>h) (Or.inl ⟨by rfl, ?_⟩) (by assumption) ?_
    rotate_left
    ·intro w hSw;(try dsimp only at hSw);go_simp;all_goals (with_reducible rfl)
    try simp only [Act.put,List.setIfInBounds_toArray,List.set_cons_zero,List.set_cons_succ]
    refine wpAnyH_take (i :=11) (oi := {dst :=some 32,op :=Go.Op.load 3 (Go.Operand.tmp 31),type :=3,pos := "keep.go:152",after := #[{on :=10,ground :=Go.Ground.data},{on :=6,ground :=Go.Ground.guard}],guard :=some (6,false)}) (v := ?_) rfl (by kernel_rfl) (by kernel_rfl) (by kernel_rfl) (fun _ _ _ h=>h) (Or.inl ⟨by rfl, ?_⟩) (by assumption) ?_
    rotate_left
    ·intro w hSw;(try dsimp only at hSw);go_simp;all_goals (with_reducible rfl)
    try simp only [Act.put,List.setIfInBounds_toArray,List.set_cons_zero,List.set_cons_succ]
    refine wpAnyH_take (i :=12) (oi := {dst :=some 33,op :=Go.Op.fieldAddr 63 (Go.Operand.tmp 6) 1,type :=0,pos := "keep.go:152",after := #[{on :=6,ground :=Go.Ground.guard}],guard :=some (6,false)}) (v := ?_) rfl (by kernel_rfl) (by kernel_rfl) (by kernel_rfl) (fun _ _ _ h=>h) (Or.inl ⟨by rfl, ?_⟩) (by assumption) ?_
    rotate_left
    ·intro w hSw;(try dsimp only at hSw);go_simp;all_goals (with_reducible rfl)
    try simp only [Act.put,List.setIfInBounds_toArray,List.set_cons_zero,List.set_cons_succ]
    refine wpAnyH_take (i :=13) (oi := {dst :=some 34,op :=Go.Op.load 3 (Go.Operand.tmp 33),type :=3,pos := "keep.go:152",after := #[{on :=12,ground :=Go.Ground.data},{on :=6,ground :=Go.Ground.guard}],guard :=some (6,false)}) (v := ?_) rfl (by kernel_rfl) (by kernel_rfl) (by kernel_rfl) (fun _ _ _ h=>h) (Or.inl ⟨by rfl, ?_⟩) (by assumption) ?_
    rotate_left
    ·intro w hSw;(try dsimp only at hSw);go_simp;all_goals (with_reducible rfl)
    try simp only [Act.put,List.setIfInBounds_toArray,List.set_cons_zero,List.set_cons_succ]
    refine wpAnyH_take (i :=14) (oi := {dst :=some 35,op :=Go.Op.binOp Go.BinOp.neq 3 (Go.Operand.tmp 32) (Go.Operand.tmp 34) 3,type :=4,pos := "keep.go:152",after := #[{on :=11,ground :=Go.Ground.data},{on :=13,ground :=Go.Ground.data},{on :=6,ground :=Go.Ground.guard}],guard :=some (6,false)}) (v := ?_) rfl (by kernel_rfl) (by kernel_rfl) (by kernel_rfl) (fun _ _ _ h=>h) (Or.inl ⟨by rfl, ?_⟩) (by assumption) ?_
    rotate_left
    ·intro w hSw;(try dsimp only at hSw);go_simp;all_goals (with_reducible rfl)
    try simp only [Act.put,List.setIfInBounds_toArray,List.set_cons_zero,List.set_cons_succ]
    refine wpAnyH_take (i :=15) (oi := {dst :=some 36,op :=Go.Op.move (Go.Operand.tmp 35),type :=4,pos := "keep.go:152",after := #[{on :=14,ground :=Go.Ground.data},{on :=6,ground :=Go.Ground.chain},{on :=6,ground :=Go.Ground.guard}],guard :=some (6,false)}) (v := ?_) rfl (by kernel_rfl) (by kernel_rfl) (by kernel_rfl) (fun _ _ _ h=>h) (Or.inl ⟨by rfl, ?_⟩) (by assumption) ?_
    rotate_left
    ·intro w hSw;(try dsimp only at hSw);go_simp;all_goals (with_reducible rfl)
    try simp only [Act.put,List.setIfInBounds_toArray,List.set_cons_zero,List.set_cons_succ]
    refine wpAnyH_take (i :=16) (oi := {dst :=some 37,op :=Go.Op.fieldAddr 63 (Go.Operand.tmp 6) 2,type :=0,pos := "keep.go:152",after := #[{on :=15,ground :=Go.Ground.guard}],guard :=some (15,true)}) (v := ?_) rfl (by kernel_rfl) (by kernel_rfl) (by kernel_rfl) (fun _ _ _ h=>h) (Or.inl ⟨by rfl, ?_⟩) (by assumption) ?_
    rotate_left
    ·intro w hSw;(try dsimp only at hSw);go_simp;all_goals (with_reducible rfl)
    try simp only [Act.put,List.setIfInBounds_toArray,List.set_cons_zero,List.set_cons_succ]
    refine wpAnyH_take (i :=17) (oi := {dst :=some 38,op :=Go.Op.load 4 (Go.Operand.tmp 37),type :=4,pos := "keep.go:152",after := #[{on :=16,ground :=Go.Ground.data},{on :=15,ground :=Go.Ground.guard}],guard :=some (15,true)}) (v := ?_) rfl (by kernel_rfl) (by kernel_rfl) (by kernel_rfl) (fun _ _ _ h=>h) (Or.inl ⟨by rfl, ?_⟩) (by assumption) ?_
    rotate_left
    ·intro w hSw;(try dsimp only at hSw);go_simp;all_goals (with_reducible rfl)
    try simp only [Act.put,List.setIfInBounds_toArray,List.set_cons_zero,List.set_cons_succ]
    refine wpAnyH_take (i :=18) (oi := {dst :=some 39,op :=Go.Op.move (Go.Operand.tmp 38),type :=4,pos := "keep.go:152",after := #[{on :=17,ground :=Go.Ground.data},{on :=15,ground :=Go.Ground.chain},{on :=15,ground :=Go.Ground.guard}],guard :=some (15,true)}) (v := ?_) rfl (by kernel_rfl) (by kernel_rfl) (by kernel_rfl) (fun _ _ _ h=>h) (Or.inl ⟨by rfl, ?_⟩) (by assumption) ?_
    rotate_left
    ·intro w hSw;(try dsimp only at hSw);go_simp;all_goals (with_reducible rfl)
    try simp only [Act.put,List.setIfInBounds_toArray,List.set_cons_zero,List.set_cons_succ]
    refine wpAnyH_take (i :=19) (oi := {dst :=some 40,op :=Go.Op.move (Go.Operand.tmp 1),type :=55,pos := "keep.go:152",after := #[{on :=18,ground :=Go.Ground.guard}],guard :=some (18,false)}) (v := ?_) rfl (by kernel_rfl) (by kernel_rfl) (by kernel_rfl) (fun _ _ _ h=>h) (Or.inl ⟨by rfl, ?_⟩) (by assumption) ?_
    rotate_left
    ·intro w hSw;(try dsimp only at hSw);go_simp;all_goals (with_reducible rfl)
    try simp only [Act.put,List.setIfInBounds_toArray,List.set_cons_zero,List.set_cons_succ]
    refine wpAnyH_take (i :=20) (oi := {dst :=some 41,op :=Go.Op.move (Go.Operand.tmp 5),type :=3,pos := "keep.go:152",after := #[{on :=18,ground :=Go.Ground.guard}],guard :=some (18,false)}) (v := ?_) rfl (by kernel_rfl) (by kernel_rfl) (by kernel_rfl) (fun _ _ _ h=>h) (Or.inl ⟨by rfl, ?_⟩) (by assumption) ?_
    rotate_left
    ·intro w hSw;(try dsimp only at hSw);go_simp;all_goals (with_reducible rfl)
    try simp only [Act.put,List.setIfInBounds_toArray,List.set_cons_zero,List.set_cons_succ]
    refine wpAnyH_take (i :=21) (oi := {dst :=some 42,op :=Go.Op.indexAddr 55 (Go.Operand.tmp 40) (Go.Operand.tmp 41),type :=0,pos := "keep.go:152",after := #[{on :=19,ground :=Go.Ground.data},{on :=20,ground :=Go.Ground.data},{on :=18,ground :=Go.Ground.guard}],guard :=some (18,false)}) (v := ?_) rfl (by kernel_rfl) (by kernel_rfl) (by kernel_rfl) (fun _ _ _ h=>h) (Or.inl ⟨by rfl, ?_⟩) (by assumption) ?_
    rotate_left
    ·intro w hSw;(try dsimp only at hSw);go_simp;all_goals (with_reducible rfl)
    try simp only [Act.put,List.setIfInBounds_toArray,List.set_cons_zero,List.set_cons_succ]
    refine wpAnyH_take (i :=22) (oi := {dst :=some 43,op :=Go.Op.fieldAddr 32 (Go.Operand.tmp 42) 0,type :=0,pos := "keep.go:152",after := #[{on :=21,ground :=Go.Ground.data},{on :=18,ground :=Go.Ground.guard}],guard :=some (18,false)}) (v := ?_) rfl (by kernel_rfl) (by kernel_rfl) (by kernel_rfl) (fun _ _ _ h=>h) (Or.inl ⟨by rfl, ?_⟩) (by assumption) ?_
    rotate_left
    ·intro w hSw;(try dsimp only at hSw);go_simp;all_goals (with_reducible rfl)
    try simp only [Act.put,List.setIfInBounds_toArray,List.set_cons_zero,List.set_cons_succ]
    refine wpAnyH_take (i :=23) (oi := {dst :=some 44,op :=Go.Op.load 3 (Go.Operand.tmp 43),type :=3,pos := "keep.go:152",after := #[{on :=22,ground :=Go.Ground.data},{on :=18,ground :=Go.Ground.guard}],guard :=some (18,false)}) (v := ?_) rfl (by kernel_rfl) (by kernel_rfl) (by kernel_rfl) (fun _ _ _ h=>h) (Or.inl ⟨by rfl, ?_⟩) (by assumption) ?_
    rotate_left
    ·intro w hSw;(try dsimp only at hSw);go_simp;all_goals (with_reducible rfl)
    try simp only [Act.put,List.setIfInBounds_toArray,List.set_cons_zero,List.set_cons_succ]
    refine wpAnyH_take (i :=24) (oi := {dst :=some 45,op :=Go.Op.binOp Go.BinOp.neq 3 (Go.Operand.tmp 44) (Go.Operand.const (Go.Value.int Go.IntKind.i64 0)) 3,type :=4,pos := "keep.go:152",after := #[{on :=23,ground :=Go.Ground.data},{on :=18,ground :=Go.Ground.guard}],guard :=some (18,false)}) (v := ?_) rfl (by kernel_rfl) (by kernel_rfl) (by kernel_rfl) (fun _ _ _ h=>h) (Or.inl ⟨by rfl, ?_⟩) (by assumption) ?_
    rotate_left
    ·intro w hSw;(try dsimp only at hSw);go_simp;all_goals (with_reducible rfl)
    try simp only [Act.put,List.setIfInBounds_toArray,List.set_cons_zero,List.set_cons_succ]
    refine wpAnyH_take (i :=25) (oi := {dst :=some 46,op :=Go.Op.pick (Go.Operand.tmp 39) (Go.Operand.const (Go.Value.bool true)) (Go.Operand.tmp 45),type :=4,pos := "keep.go:152",after := #[{on :=18,ground :=Go.Ground.data},{on :=24,ground :=Go.Ground.data},{on :=15,ground :=Go.Ground.guard}],guard :=some (15,true)}) (v := ?_) rfl (by kernel_rfl) (by kernel_rfl) (by kernel_rfl) (fun _ _ _ h=>h) (Or.inl ⟨by rfl, ?_⟩) (by assumption) ?_
    rotate_left
    ·intro w hSw;(try dsimp only at hSw);go_simp;all_goals (with_reducible rfl)
    try simp only [Act.put,List.setIfInBounds_toArray,List.set_cons_zero,List.set_cons_succ]
    refine wpAnyH_take (i :=26) (oi := {dst :=some 47,op :=Go.Op.pick (Go.Operand.tmp 36) (Go.Operand.tmp 46) (Go.Operand.const (Go.Value.bool false)),type :=4,pos := "keep.go:152",after := #[{on :=15,ground :=Go.Ground.data},{on :=25,ground :=Go.Ground.data},{on :=6,ground :=Go.Ground.guard}],guard :=some (6,false)}) (v := ?_) rfl (by kernel_rfl) (by kernel_rfl) (by kernel_rfl) (fun _ _ _ h=>h) (Or.inl ⟨by rfl, ?_⟩) (by assumption) ?_
    rotate_left
    ·intro w hSw;(try dsimp only at hSw);go_simp;all_goals (with_reducible rfl)
    try simp only [Act.put,List.setIfInBounds_toArray,List.set_cons_zero,List.set_cons_succ]
    refine wpAnyH_take (i :=27) (oi := {dst :=some 48,op :=Go.Op.pick (Go.Operand.tmp 27) (Go.Operand.const (Go.Value.bool true)) (Go.Operand.tmp 47),type :=4,pos := "keep.go:152",after := #[{on :=6,ground :=Go.Ground.data},{on :=26,ground :=Go.Ground.data}],guard :=none}) (v := ?_) rfl (by kernel_rfl) (by kernel_rfl) (by kernel_rfl) (fun _ _ _ h=>h) (Or.inl ⟨by rfl, ?_⟩) (by assumption) ?_
    rotate_left
    ·intro w hSw;(try dsimp only at hSw);go_simp;all_goals (with_reducible rfl)
    try simp only [Act.put,List.setIfInBounds_toArray,List.set_cons_zero,List.set_cons_succ]
    refine wpAnyH_done (by kernel_rfl) ?_ _
    go_wp2
    go_roundw
    case rel=>exact ⟨k+1,by omega,by go_num,id (fun j hj=>by rcases Nat.lt_succ_iff_lt_or_eq.1 hj with h | h;exact HJ.out j h;rw [h];exact HP.out),hbG⟩
    case measure=>simp [intOf];omega
   ·
    have hq : (vk !=ct) =true :=by simp [hty]
    have hq2 : (vk !=0) =true :=by simp [hk0]
    have HP :Hid (Hn t r k=true) :=by show _=_;rw [EI.out];rw [decide_eq_false hty,decide_eq_false hk0];simp
    clear hty hgv hk0
    go_wp2_with fail
    refine wp_region_held_drew (S := (fun W=>W.cell? ⟨rb,ro+k*3,none⟩ =some (.int .i64 vk) ∧W.cell? ⟨rb,ro+k*3+1,none⟩ =some (.int .i64 vn) ∧W.cell? ⟨rb,ro+k*3+2,none⟩ =some (.string vs) ∧W.cell? ⟨wr.heap.size,1,none⟩ =some (.int .i64 ct) ∧W.cell? ⟨wr.heap.size,2,none⟩ =some (.bool false))) (by kernel_rfl) ?_ (fun hHeld=> ?_)
    ·exact s0
    refine wpAnyH_take (i :=0) (oi := {dst :=some 21,op :=Go.Op.move (Go.Operand.tmp 1),type :=55,pos := "keep.go:152",after := #[],guard :=none}) (v := ?_) rfl (by kernel_rfl) (by kernel_rfl) (by kernel_rfl) (fun _ _ _ h=>h) (Or.inl ⟨by rfl, ?_⟩) (by assumption) ?_
    rotate_left
    ·intro w hSw;(try dsimp only at hSw);go_simp;all_goals (with_reducible rfl)
    try simp only [Act.put,List.setIfInBounds_toArray,List.set_cons_zero,List.set_cons_succ]
    refine wpAnyH_take (i :=1) (oi := {dst :=some 22,op :=Go.Op.move (Go.Operand.tmp 5),type :=3,pos := "keep.go:152",after := #[],guard :=none}) (v := ?_) rfl (by kernel_rfl) (by kernel_rfl) (by kernel_rfl) (fun _ _ _ h=>h) (Or.inl ⟨by rfl, ?_⟩) (by assumption) ?_
    rotate_left
    ·intro w hSw;(try dsimp only at hSw);go_simp;all_goals (with_reducible rfl)
    try simp only [Act.put,List.setIfInBounds_toArray,List.set_cons_zero,List.set_cons_succ]
    refine wpAnyH_take (i :=2) (oi := {dst :=some 23,op :=Go.Op.indexAddr 55 (Go.Operand.tmp 21) (Go.Operand.tmp 22),type :=0,pos := "keep.go:152",after := #[{on :=0,ground :=Go.Ground.data},{on :=1,ground :=Go.Ground.data}],guard :=none}) (v := ?_) rfl (by kernel_rfl) (by kernel_rfl) (by kernel_rfl) (fun _ _ _ h=>h) (Or.inl ⟨by rfl, ?_⟩) (by assumption) ?_
    rotate_left
    ·intro w hSw;(try dsimp only at hSw);go_simp;all_goals (with_reducible rfl)
    try simp only [Act.put,List.setIfInBounds_toArray,List.set_cons_zero,List.set_cons_succ]
    refine wpAnyH_take (i :=3) (oi := {dst :=some 24,op :=Go.Op.load 32 (Go.Operand.tmp 23),type :=32,pos := "keep.go:152",after := #[{on :=2,ground :=Go.Ground.data}],guard :=none}) (v := ?_) rfl (by kernel_rfl) (by kernel_rfl) (by kernel_rfl) (fun _ _ _ h=>h) (Or.inl ⟨by rfl, ?_⟩) (by assumption) ?_
    rotate_left
    ·intro w hSw;(try dsimp only at hSw);go_simp;all_goals (with_reducible rfl)
    try simp only [Act.put,List.setIfInBounds_toArray,List.set_cons_zero,List.set_cons_succ]
    refine wpAnyH_ready (rs := [4]) (by kernel_rfl) (by simp) ?_
    refine AllReadyH.cons (o := {dst :=some 25,op :=Go.Op.call {callee :=Go.Callee.value (Go.Operand.func 57),args := #[Go.Operand.tmp 24],argTypes := #[32]},type :=4,pos := "keep.go:152",after := #[{on :=3,ground :=Go.Ground.data}],guard :=none}) rfl (fun K hK=> ?_) AllReadyH.nil
    go_simp
    (go_at_call 57;go_fit (HG _);rintro e w2 ⟨rfl,rfl⟩)
    go_wp2_with fail
    refine hK.out _ _ ?_ (fun hHeld=> ?_)
    ·exact s1
    clear hK K
    try simp only [Act.put,List.setIfInBounds_toArray,List.set_cons_zero,List.set_cons_succ]
    refine wpAnyH_take (i :=5) (oi := {dst :=some 26,op :=Go.Op.unOp Go.UnOp.not 4 (Go.Operand.tmp 25),type :=4,pos := "keep.go:152",after := #[{on :=4,ground :=Go.Ground.data}],guard :=none}) (v := ?_) rfl (by kernel_rfl) (by kernel_rfl) (by kernel_rfl) (fun _ _ _ h=>h) (Or.inl ⟨by rfl, ?_⟩) (by assumption) ?_
    rotate_left
    ·intro w hSw;(try dsimp only at hSw);go_simp;all_goals (with_reducible rfl)
    try simp only [Act.put,List.setIfInBounds_toArray,List.set_cons_zero,List.set_cons_succ]
    refine wpAnyH_take (i :=6) (oi := {dst :=some 27,op :=Go.Op.move (Go.Operand.tmp 26),type :=4,pos := "keep.go:152",after := #[{on :=5,ground :=Go.Ground.data},{on :=4,ground :=Go.Ground.chain}],guard :=none}) (v := ?_) rfl (by kernel_rfl) (by kernel_rfl) (by kernel_rfl) (fun _ _ _ h=>h) (Or.inl ⟨by rfl, ?_⟩) (by assumption) ?_
    rotate_left
    ·intro w hSw;(try dsimp only at hSw);go_simp;all_goals (with_reducible rfl)
    try simp only [Act.put,List.setIfInBounds_toArray,List.set_cons_zero,List.set_cons_succ]
    refine wpAnyH_take (i :=7) (oi := {dst :=some 28,op :=Go.Op.move (Go.Operand.tmp 1),type :=55,pos := "keep.go:152",after := #[{on :=6,ground :=Go.Ground.guard}],guard :=some (6,false)}) (v := ?_) rfl (by kernel_rfl) (by kernel_rfl) (by kernel_rfl) (fun _ _ _ h=>h) (Or.inl ⟨by rfl, ?_⟩) (by assumption) ?_
    rotate_left
    ·intro w hSw;(try dsimp only at hSw);go_simp;all_goals (with_reducible rfl)
    try simp only [Act.put,List.setIfInBounds_toArray,List.set_cons_zero,List.set_cons_succ]
    refine wpAnyH_take (i :=8) (oi := {dst :=some 29,op :=Go.Op.move (Go.Operand.tmp 5),type :=3,pos := "keep.go:152",after := #[{on :=6,ground :=Go.Ground.guard}],guard :=some (6,false)}) (v := ?_) rfl (by kernel_rfl) (by kernel_rfl) (by kernel_rfl) (fun _ _ _ h=>h) (Or.inl ⟨by rfl, ?_⟩) (by assumption) ?_
    rotate_left
    ·intro w hSw;(try dsimp only at hSw);go_simp;all_goals (with_reducible rfl)
    try simp only [Act.put,List.setIfInBounds_toArray,List.set_cons_zero,List.set_cons_succ]
    refine wpAnyH_take (i :=9) (oi := {dst :=some 30,op :=Go.Op.indexAddr 55 (Go.Operand.tmp 28) (Go.Operand.tmp 29),type :=0,pos := "keep.go:152",after := #[{on :=7,ground :=Go.Ground.data},{on :=8,ground :=Go.Ground.data},{on :=6,ground :=Go.Ground.guard}],guard :=some (6,false)}) (v := ?_) rfl (by kernel_rfl) (by kernel_rfl) (by kernel_rfl) (fun _ _ _ h=>h) (Or.inl ⟨by rfl, ?_⟩) (by assumption) ?_
    rotate_left
    ·intro w hSw;(try dsimp only at hSw);go_simp;all_goals (with_reducible rfl)
    try simp only [Act.put,List.setIfInBounds_toArray,List.set_cons_zero,List.set_cons_succ]
    refine wpAnyH_take (i :=10) (oi := {dst :=some 31,op :=Go.Op.fieldAddr 32 (Go.Operand.tmp 30) 0,type :=0,pos := "keep.go:152",after := #[{on :=9,ground :=Go.Ground.data},{on :=6,ground :=Go.Ground.guard}],guard :=some (6,false)}) (v := ?_) rfl (by kernel_rfl) (by kernel_rfl) (by kernel_rfl) (fun _ _ _ h=>h) (Or.inl ⟨by rfl, ?_⟩) (by assumption) ?_
    rotate_left
    ·intro w hSw;(try dsimp only at hSw);go_simp;all_goals (with_reducible rfl)
    try simp only [Act.put,List.setIfInBounds_toArray,List.set_cons_zero,List.set_cons_succ]
    refine wpAnyH_take (i :=11) (oi := {dst :=some 32,op :=Go.Op.load 3 (Go.Operand.tmp 31),type :=3,pos := "keep.go:152",after := #[{on :=10,ground :=Go.Ground.data},{on :=6,ground :=Go.Ground.guard}],guard :=some (6,false)}) (v := ?_) rfl (by kernel_rfl) (by kernel_rfl) (by kernel_rfl) (fun _ _ _ h=>h) (Or.inl ⟨by rfl, ?_⟩) (by assumption) ?_
    rotate_left
    ·intro w hSw;(try dsimp only at hSw);go_simp;all_goals (with_reducible rfl)
    try simp only [Act.put,List.setIfInBounds_toArray,List.set_cons_zero,List.set_cons_succ]
    refine wpAnyH_take (i :=12) (oi := {dst :=some 33,op :=Go.Op.fieldAddr 63 (Go.Operand.tmp 6) 1,type :=0,pos := "keep.go:152",after := #[{on :=6,ground :=Go.Ground.guard}],guard :=some (6,false)}) (v := ?_) rfl (by kernel_rfl) (by kernel_rfl) (by kernel_rfl) (fun _ _ _ h=>h) (Or.inl ⟨by rfl, ?_⟩) (by assumption) ?_
    rotate_left
    ·intro w hSw;(try dsimp only at hSw);go_simp;all_goals (with_reducible rfl)
    try simp only [Act.put,List.setIfInBounds_toArray,List.set_cons_zero,List.set_cons_succ]
    refine wpAnyH_take (i :=13) (oi := {dst :=some 34,op :=Go.Op.load 3 (Go.Operand.tmp 33),type :=3,pos := "keep.go:152",after := #[{on :=12,ground :=Go.Ground.data},{on :=6,ground :=Go.Ground.guard}],guard :=some (6,false)}) (v := ?_) rfl (by kernel_rfl) (by kernel_rfl) (by kernel_rfl) (fun _ _ _ h=>h) (Or.inl ⟨by rfl, ?_⟩) (by assumption) ?_
    rotate_left
    ·intro w hSw;(try dsimp only at hSw);go_simp;all_goals (with_reducible rfl)
    try simp only [Act.put,List.setIfInBounds_toArray,List.set_cons_zero,List.set_cons_succ]
    refine wpAnyH_take (i :=14) (oi := {dst :=some 35,op :=Go.Op.binOp Go.BinOp.neq 3 (Go.Operand.tmp 32) (Go.Operand.tmp 34) 3,type :=4,pos := "keep.go:152",after := #[{on :=11,ground :=Go.Ground.data},{on :=13,ground :=Go.Ground.data},{on :=6,ground :=Go.Ground.guard}],guard :=some (6,false)}) (v := ?_) rfl (by kernel_rfl) (by kernel_rfl) (by kernel_rfl) (fun _ _ _ h=>h) (Or.inl ⟨by rfl, ?_⟩) (by assumption) ?_
    rotate_left
    ·intro w hSw;(try dsimp only at hSw);go_simp;all_goals (with_reducible rfl)
    try simp only [Act.put,List.setIfInBounds_toArray,List.set_cons_zero,List.set_cons_succ]
    refine wpAnyH_take (i :=15) (oi := {dst :=some 36,op :=Go.Op.move (Go.Operand.tmp 35),type :=4,pos := "keep.go:152",after := #[{on :=14,ground :=Go.Ground.data},{on :=6,ground :=Go.Ground.chain},{on :=6,ground :=Go.Ground.guard}],guard :=some (6,false)}) (v := ?_) rfl (by kernel_rfl) (by kernel_rfl) (by kernel_rfl) (fun _ _ _ h=>h) (Or.inl ⟨by rfl, ?_⟩) (by assumption) ?_
    rotate_left
    ·intro w hSw;(try dsimp only at hSw);go_simp;all_goals (with_reducible rfl)
    try simp only [Act.put,List.setIfInBounds_toArray,List.set_cons_zero,List.set_cons_succ]
    refine wpAnyH_take (i :=16) (oi := {dst :=some 37,op :=Go.Op.fieldAddr 63 (Go.Operand.tmp 6) 2,type :=0,pos := "keep.go:152",after := #[{on :=15,ground :=Go.Ground.guard}],guard :=some (15,true)}) (v := ?_) rfl (by kernel_rfl) (by kernel_rfl) (by kernel_rfl) (fun _ _ _ h=>h) (Or.inl ⟨by rfl, ?_⟩) (by assumption) ?_
    rotate_left
    ·intro w hSw;(try dsimp only at hSw);go_simp;all_goals (with_reducible rfl)
    try simp only [Act.put,List.setIfInBounds_toArray,List.set_cons_zero,List.set_cons_succ]
    refine wpAnyH_take (i :=17) (oi := {dst :=some 38,op :=Go.Op.load 4 (Go.Operand.tmp 37),type :=4,pos := "keep.go:152",after := #[{on :=16,ground :=Go.Ground.data},{on :=15,ground :=Go.Ground.guard}],guard :=some (15,true)}) (v := ?_) rfl (by kernel_rfl) (by kernel_rfl) (by kernel_rfl) (fun _ _ _ h=>h) (Or.inl ⟨by rfl, ?_⟩) (by assumption) ?_
    rotate_left
    ·intro w hSw;(try dsimp only at hSw);go_simp;all_goals (with_reducible rfl)
    try simp only [Act.put,List.setIfInBounds_toArray,List.set_cons_zero,List.set_cons_succ]
    refine wpAnyH_take (i :=18) (oi := {dst :=some 39,op :=Go.Op.move (Go.Operand.tmp 38),type :=4,pos := "keep.go:152",after := #[{on :=17,ground :=Go.Ground.data},{on :=15,ground :=Go.Ground.chain},{on :=15,ground :=Go.Ground.guard}],guard :=some (15,true)}) (v := ?_) rfl (by kernel_rfl) (by kernel_rfl) (by kernel_rfl) (fun _ _ _ h=>h) (Or.inl ⟨by rfl, ?_⟩) (by assumption) ?_
    rotate_left
    ·intro w hSw;(try dsimp only at hSw);go_simp;all_goals (with_reducible rfl)
    try simp only [Act.put,List.setIfInBounds_toArray,List.set_cons_zero,List.set_cons_succ]
    refine wpAnyH_take (i :=19) (oi := {dst :=some 40,op :=Go.Op.move (Go.Operand.tmp 1),type :=55,pos := "keep.go:152",after := #[{on :=18,ground :=Go.Ground.guard}],guard :=some (18,false)}) (v := ?_) rfl (by kernel_rfl) (by kernel_rfl) (by kernel_rfl) (fun _ _ _ h=>h) (Or.inl ⟨by rfl, ?_⟩) (by assumption) ?_
    rotate_left
    ·intro w hSw;(try dsimp only at hSw);go_simp;all_goals (with_reducible rfl)
    try simp only [Act.put,List.setIfInBounds_toArray,List.set_cons_zero,List.set_cons_succ]
    refine wpAnyH_take (i :=20) (oi := {dst :=some 41,op :=Go.Op.move (Go.Operand.tmp 5),type :=3,pos := "keep.go:152",after := #[{on :=18,ground :=Go.Ground.guard}],guard :=some (18,false)}) (v := ?_) rfl (by kernel_rfl) (by kernel_rfl) (by kernel_rfl) (fun _ _ _ h=>h) (Or.inl ⟨by rfl, ?_⟩) (by assumption) ?_
    rotate_left
    ·intro w hSw;(try dsimp only at hSw);go_simp;all_goals (with_reducible rfl)
    try simp only [Act.put,List.setIfInBounds_toArray,List.set_cons_zero,List.set_cons_succ]
    refine wpAnyH_take (i :=21) (oi := {dst :=some 42,op :=Go.Op.indexAddr 55 (Go.Operand.tmp 40) (Go.Operand.tmp 41),type :=0,pos := "keep.go:152",after := #[{on :=19,ground :=Go.Ground.data},{on :=20,ground :=Go.Ground.data},{on :=18,ground :=Go.Ground.guard}],guard :=some (18,false)}) (v := ?_) rfl (by kernel_rfl) (by kernel_rfl) (by kernel_rfl) (fun _ _ _ h=>h) (Or.inl ⟨by rfl, ?_⟩) (by assumption) ?_
    rotate_left
    ·intro w hSw;(try dsimp only at hSw);go_simp;all_goals (with_reducible rfl)
    try simp only [Act.put,List.setIfInBounds_toArray,List.set_cons_zero,List.set_cons_succ]
    refine wpAnyH_take (i :=22) (oi := {dst :=some 43,op :=Go.Op.fieldAddr 32 (Go.Operand.tmp 42) 0,type :=0,pos := "keep.go:152",after := #[{on :=21,ground :=Go.Ground.data},{on :=18,ground :=Go.Ground.guard}],guard :=some (18,false)}) (v := ?_) rfl (by kernel_rfl) (by kernel_rfl) (by kernel_rfl) (fun _ _ _ h=>h) (Or.inl ⟨by rfl, ?_⟩) (by assumption) ?_
    rotate_left
    ·intro w hSw;(try dsimp only at hSw);go_simp;all_goals (with_reducible rfl)
    try simp only [Act.put,List.setIfInBounds_toArray,List.set_cons_zero,List.set_cons_succ]
    refine wpAnyH_take (i :=23) (oi := {dst :=some 44,op :=Go.Op.load 3 (Go.Operand.tmp 43),type :=3,pos := "keep.go:152",after := #[{on :=22,ground :=Go.Ground.data},{on :=18,ground :=Go.Ground.guard}],guard :=some (18,false)}) (v := ?_) rfl (by kernel_rfl) (by kernel_rfl) (by kernel_rfl) (fun _ _ _ h=>h) (Or.inl ⟨by rfl, ?_⟩) (by assumption) ?_
    rotate_left
    ·intro w hSw;(try dsimp only at hSw);go_simp;all_goals (with_reducible rfl)
    try simp only [Act.put,List.setIfInBounds_toArray,List.set_cons_zero,List.set_cons_succ]
    refine wpAnyH_take (i :=24) (oi := {dst :=some 45,op :=Go.Op.binOp Go.BinOp.neq 3 (Go.Operand.tmp 44) (Go.Operand.const (Go.Value.int Go.IntKind.i64 0)) 3,type :=4,pos := "keep.go:152",after := #[{on :=23,ground :=Go.Ground.data},{on :=18,ground :=Go.Ground.guard}],guard :=some (18,false)}) (v := ?_) rfl (by kernel_rfl) (by kernel_rfl) (by kernel_rfl) (fun _ _ _ h=>h) (Or.inl ⟨by rfl, ?_⟩) (by assumption) ?_
    rotate_left
    ·intro w hSw;(try dsimp only at hSw);go_simp;all_goals (with_reducible rfl)
    try simp only [Act.put,List.setIfInBounds_toArray,List.set_cons_zero,List.set_cons_succ]
    refine wpAnyH_take (i :=25) (oi := {dst :=some 46,op :=Go.Op.pick (Go.Operand.tmp 39) (Go.Operand.const (Go.Value.bool true)) (Go.Operand.tmp 45),type :=4,pos := "keep.go:152",after := #[{on :=18,ground :=Go.Ground.data},{on :=24,ground :=Go.Ground.data},{on :=15,ground :=Go.Ground.guard}],guard :=some (15,true)}) (v := ?_) rfl (by kernel_rfl) (by kernel_rfl) (by kernel_rfl) (fun _ _ _ h=>h) (Or.inl ⟨by rfl, ?_⟩) (by assumption) ?_
    rotate_left
    ·intro w hSw;(try dsimp only at hSw);go_simp;all_goals (with_reducible rfl)
    try simp only [Act.put,List.setIfInBounds_toArray,List.set_cons_zero,List.set_cons_succ]
    refine wpAnyH_take (i :=26) (oi := {dst :=some 47,op :=Go.Op.pick (Go.Operand.tmp 36) (Go.Operand.tmp 46) (Go.Operand.const (Go.Value.bool false)),type :=4,pos := "keep.go:152",after := #[{on :=15,ground :=Go.Ground.data},{on :=25,ground :=Go.Ground.data},{on :=6,ground :=Go.Ground.guard}],guard :=some (6,false)}) (v := ?_) rfl (by kernel_rfl) (by kernel_rfl) (by kernel_rfl) (fun _ _ _ h=>h) (Or.inl ⟨by rfl, ?_⟩) (by assumption) ?_
    rotate_left
    ·intro w hSw;(try dsimp only at hSw);go_simp;all_goals (with_reducible rfl)
    try simp only [Act.put,List.setIfInBounds_toArray,List.set_cons_zero,List.set_cons_succ]
    refine wpAnyH_take (i :=27) (oi := {dst :=some 48,op :=Go.Op.pick (Go.Operand.tmp 27) (Go.Operand.const (Go.Value.bool true)) (Go.Operand.tmp 47),type :=4,pos := "keep.go:152",after := #[{on :=6,ground :=Go.Ground.data},{on :=26,ground :=Go.Ground.data}],guard :=none}) (v := ?_) rfl (by kernel_rfl) (by kernel_rfl) (by kernel_rfl) (fun _ _ _ h=>h) (Or.inl ⟨by rfl, ?_⟩) (by assumption) ?_
    rotate_left
    ·intro w hSw;(try dsimp only at hSw);go_simp;all_goals (with_reducible rfl)
    try simp only [Act.put,List.setIfInBounds_toArray,List.set_cons_zero,List.set_cons_succ]
    refine wpAnyH_done (by kernel_rfl) ?_ _
    go_wp2
    go_ret
    exact ⟨Ag (by rw [E.out,Oo HP.out hlt];simp),hbF⟩
  ·have hkn :k=n :=by omega
   subst hkn
   have v1 : ¬ ((k :Int) < (k :Int)) :=by omega
   go_wp2
   go_ret
   exact ⟨Ag (by rw [E.out,Uq k 0 (fun j _ hj=>HJ.out j (by omega))];rfl),hb1.trans (hbel.mono hb1.size)⟩
end Go.Proofs.YthehiijgnepcfaaGreat


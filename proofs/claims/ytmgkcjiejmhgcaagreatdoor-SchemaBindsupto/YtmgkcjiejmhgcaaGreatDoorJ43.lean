/-
  1 texts of this proof in one, in build order: BLawL.
-/
import Derived.Test.YtmgkcjiejmhgcaaGreatDoorJ41
import Derived.Test.YtmgkcjiejmhgcaaGreatDoorJ42
set_option linter.unusedSimpArgs false
set_option linter.unusedVariables false
namespace Go.Proofs.YtmgkcjiejmhgcaaGreatDoor
open Go.RowKit Go.Maps
theorem R1 {st :Stm} {a b :Array Value} {F G :Nat→Prop} {U :World} (h1 :Abs.R F U st a.toList) (h2 :Abs.R G U st b.toList) :Calls Tryz.prog 8 #[.agg a, .agg b] U fun r w'=>r= .returned (.bool true) ∧Below U.heap.size U w' :=by
 have :=Rx F G U st a.toList b.toList h1 h2
 rw [Array.toArray_toList,Array.toArray_toList] at this
 exact this
set_option maxRecDepth 100000 in
set_option maxHeartbeats 8000000 in
theorem Ym (ct :CatD) (st :Stm) (o :Except Int Stm) (tv iv :Value) (arr :Array Value) (w V :World) (pd px pa pb :Nat) (dv xa aa ba :Array Value) (h :LwSt ct st o tv iv arr w V pd px pa pb dv xa aa ba) (HO :Hid (o=Bw ct st)) (HF :Hid (LwFit ct st)) (hen :EnvM w) (q0 q1 q4 :Value) (l :List Value) (hll :l.length=115) :
  Code.wp Tryz.prog (Db 5 (C4 Tryz.f3)) (bodyPost Tryz.prog Tryz.f3 (Uw w)) ⟨frmL w.heap.size pd px pa pb (Ie o) q0 q1 q4 l,[]⟩ V :=by
 obtain ⟨q,rfl⟩ :=lay hll
 clear hll
 have HEN :Hid (EnvM w) :=hen
 have HH :Hid _ :=h
 have htlen :=HF.out.tl
 obtain ⟨te,tc,htv⟩ : ∃te tc,tv= .slice te ct.tables.length tc :=by obtain ⟨_,_,e,h1,_⟩ :=h.hC.is;cases e;exact h1.shape
 subst htv
 have htl :IsL A4 (fun k=>k<V.heap.size) V (.slice te ct.tables.length tc) ct.tables :=by obtain ⟨_,_,e,h1,_⟩ :=h.hC.is;cases e;exact h1
 have c0 :V.cell? ⟨w.heap.size,0,none⟩ =some (.slice te ct.tables.length tc) :=Aa h.hC.blk rfl
 have k3V := (Nj h.hS).2
 have l3 :=h.hS.lt
 have hbw :=h.bel
 clear h hen
 conv=>arg 2;whnf
 refine wp_seq_k fun K1 hK1=> ?_
 have HK1 :Hid _ :=hK1
 clear hK1
 simp only [frmL,List.range,List.range.loop,List.map]
 go_wp2_with fail
 clear c0
 go_loopw [68] (fun iv wr=> ∃k :Nat,k≤ct.tables.length∧iv= .int .i64 k∧Below V.heap.size V wr) (fun iv _=>ct.tables.length - (intOf iv).toNat)
 case atStart=>exact ⟨0,Nat.zero_le _,rfl,Below.refl _ _⟩
 case round=>
  obtain ⟨k,hk,rfl,hbk⟩ :=hrel
  obtain ⟨Vr,hVr⟩ : ∃V,V=wr := ⟨_,rfl⟩
  subst hVr
  by_cases hlt :k<ct.tables.length
  ·obtain ⟨t,ht⟩ : ∃x,ct.tables[k]? =some x := ⟨_,List.getElem?_eq_getElem hlt⟩
   obtain ⟨b,off,to',tl,tk,hbo,hrow,hcols⟩ :=Z0 (htl.keep (Ag hbk)) ht
   cases hbo
   have hft :=HF.out.fc.1 t (List.mem_of_getElem? ht)
   have j0 : (0 :Int) ≤ (k :Int) :=by omega
   have j1 : (k :Int) < (ct.tables.length :Int) :=by omega
   clear ht
   go_upto_region 9 with (refine wpList_load_mid rfl 47 _ rfl b (off+k*2) ?_ [.string t.name, .slice to' tl tk] _ hrow Tryz.underlying47 rfl ?_ ?_;exact rfl;exact Cj)
   have hb4 :=Aq Vr (.cells #[.string t.name, .slice to' tl tk] 47)
   have hT : (Vr.alloc (.cells #[.string t.name, .slice to' tl tk] 47)).heap[Vr.heap.size]? =some (.cells #[.string t.name, .slice to' tl tk] 47) :=Ab _ _
   have hb04 :=hbk.trans (hb4.mono hbk.size)
   have k34 := (hb04.cell (p := ⟨w.heap.size+1,3,none⟩) l3).trans k3V
   have l34 :=Nat.lt_of_lt_of_le l3 hb04.size
   have hc4 :=hcols.keep (Ag (hb4.mono hbk.size))
   generalize hV4 :Vr.alloc (.cells #[.string t.name, .slice to' tl tk] 47) =V4 at*
   generalize Vr.heap.size=pt at*
   have e4 : ∀U,Below V4.heap.size V4 U→IsL Bg (fun k=>k<V.heap.size) U (.slice to' tl tk) t.cols∧V.heap.size≤U.heap.size :=fun U hb=> ⟨hc4.keep (Ag (hb.mono hb04.size)),Nat.le_trans hb04.size hb.size⟩
   have HG :=fun U (hb :Below V4.heap.size V4 U) =>Ib t (.slice to' tl tk) V.heap.size U (e4 U hb).1 (e4 U hb).2 hft
   have HI :=fun U (hb :Below V4.heap.size V4 U) =>Jp t (.slice to' tl tk) V.heap.size U (e4 U hb).1 (e4 U hb).2 ((HEN.out.next hbw).next (hb04.trans (hb.mono hb04.size)))
   rw [Hk] at HI
   have HFC :=fun U (hb :Below V4.heap.size V4 U) =>Hr t.cols t.name (.slice to' tl tk) st.col V.heap.size U (e4 U hb).1 (e4 U hb).2
   have HOC :=fun U (hb :Below V4.heap.size V4 U) =>H9 t.cols t.name (.slice to' tl tk) st.col V.heap.size U (e4 U hb).1
   clear hV4 hrow hcols hc4 e4 hft k3V
   generalize Cv t=tb at*
   generalize Bk t.cols st.col=ca at*
   go_cut [87] from 72 to 87 (fun v wx=>v= .bool false∧Below V4.heap.size V4 wx)
   case first=>
    refine wp_region_held_drew (S :=Below V4.heap.size V4) (by kernel_rfl) ?_ (fun hHeld=> ?_)
    ·exact (Below.refl _ _).drew
    refine wpAnyH_take (i :=0) (oi := {dst :=some 72,op :=Go.Op.load 47 (Go.Operand.tmp 12),type :=47,pos := "law.go:159",after := #[],guard :=none}) (v := .agg #[.string t.name, .slice to' tl tk]) rfl (by kernel_rfl) (by kernel_rfl) (by kernel_rfl) (fun _ _ _ h=>h) (Bt rfl 47 _ rfl pt rfl #[.string t.name, .slice to' tl tk] 47 _ (fun _ h=> (Below.block h _ (lt_of_block hT)).trans hT) Tryz.underlying47 rfl Cj) (by assumption) ?_
    try simp only [Act.put,List.setIfInBounds_toArray,List.set_cons_zero,List.set_cons_succ]
    refine wpAnyH_take (i :=2) (oi := {dst :=some 74,op :=Go.Op.load 47 (Go.Operand.tmp 12),type :=47,pos := "law.go:159",after := #[],guard :=none}) (v := .agg #[.string t.name, .slice to' tl tk]) rfl (by kernel_rfl) (by kernel_rfl) (by kernel_rfl) (fun _ _ _ h=>h) (Bt rfl 47 _ rfl pt rfl #[.string t.name, .slice to' tl tk] 47 _ (fun _ h=> (Below.block h _ (lt_of_block hT)).trans hT) Tryz.underlying47 rfl Cj) (by assumption) ?_
    try simp only [Act.put,List.setIfInBounds_toArray,List.set_cons_zero,List.set_cons_succ]
    refine wpAnyH_ready (rs := [1]) (by kernel_rfl) (by simp) ?_
    refine (AllReadyH.cons (o := {dst :=some 73,op :=Go.Op.call {callee :=Go.Callee.value (Go.Operand.func 13),args := #[Go.Operand.tmp 72],argTypes := #[47]},type :=4,pos := "law.go:159",after := #[{on :=0,ground :=Go.Ground.data}],guard :=none}) rfl (fun K hK=> ?_) AllReadyH.nil)
    go_simp
    (go_at_call 13;go_fit (HG _ ((Below.refl V4.heap.size V4).drew));rintro e U1 ⟨rfl,hb1⟩)
    go_wp2_with fail
    refine hK.out _ _ ?_ (fun hHeld=> ?_)
    ·exact (((Below.refl V4.heap.size V4).drew).trans (hb1.mono ((Below.refl V4.heap.size V4).drew).size))
    clear hK K
    try simp only [Act.put,List.setIfInBounds_toArray,List.set_cons_zero,List.set_cons_succ]
    refine wpAnyH_ready (rs := [3]) (by kernel_rfl) (by simp) ?_
    refine (AllReadyH.cons (o := {dst :=some 75,op :=Go.Op.call {callee :=Go.Callee.value (Go.Operand.func 14),args := #[Go.Operand.tmp 74],argTypes := #[47]},type :=4,pos := "law.go:159",after := #[{on :=2,ground :=Go.Ground.data},{on :=1,ground :=Go.Ground.chain}],guard :=none}) rfl (fun K hK=> ?_) AllReadyH.nil)
    go_simp
    (go_at_call 14;go_fit (HI _ (((Below.refl V4.heap.size V4).drew).trans (hb1.mono ((Below.refl V4.heap.size V4).drew).size)));rintro e U2 ⟨rfl,hb2⟩)
    go_wp2_with fail
    refine hK.out _ _ ?_ (fun hHeld=> ?_)
    ·exact ((((Below.refl V4.heap.size V4).drew).trans (hb1.mono ((Below.refl V4.heap.size V4).drew).size)).trans (hb2.mono (((Below.refl V4.heap.size V4).drew).trans (hb1.mono ((Below.refl V4.heap.size V4).drew).size)).size))
    clear hK K
    try simp only [Act.put,List.setIfInBounds_toArray,List.set_cons_zero,List.set_cons_succ]
    refine wpAnyH_take (i :=4) (oi := {dst :=some 76,op :=Go.Op.binOp Go.BinOp.neq 4 (Go.Operand.tmp 73) (Go.Operand.tmp 75) 4,type :=4,pos := "law.go:159",after := #[{on :=1,ground :=Go.Ground.data},{on :=3,ground :=Go.Ground.data}],guard :=none}) (v := .bool false) rfl (by kernel_rfl) (by kernel_rfl) (by kernel_rfl) (fun _ _ _ h=>h) (Or.inl ⟨by rfl, ?_⟩) (by assumption) ?_
    ·intro w hSw;(try dsimp only at hSw);go_simp;all_goals (first | with_reducible rfl | simp)
    try simp only [Act.put,List.setIfInBounds_toArray,List.set_cons_zero,List.set_cons_succ]
    refine wpAnyH_take (i :=5) (oi := {dst :=some 77,op :=Go.Op.move (Go.Operand.tmp 76),type :=4,pos := "law.go:159",after := #[{on :=4,ground :=Go.Ground.data},{on :=3,ground :=Go.Ground.chain}],guard :=none}) (v := ?_) rfl (by kernel_rfl) (by kernel_rfl) (by kernel_rfl) (fun _ _ _ h=>h) (Or.inl ⟨by rfl, ?_⟩) (by assumption) ?_
    rotate_left
    ·intro w hSw;(try dsimp only at hSw);go_simp;all_goals (with_reducible rfl)
    try simp only [Act.put,List.setIfInBounds_toArray,List.set_cons_zero,List.set_cons_succ]
    refine wpAnyH_take (i :=6) (oi := {dst :=some 78,op :=Go.Op.load 47 (Go.Operand.tmp 12),type :=47,pos := "law.go:159",after := #[{on :=5,ground :=Go.Ground.guard}],guard :=some (5,false)}) (v := .agg #[.string t.name, .slice to' tl tk]) rfl (by kernel_rfl) (by kernel_rfl) (by kernel_rfl) (fun _ _ _ h=>h) (Cg (by rfl) 47 _ rfl pt rfl #[.string t.name, .slice to' tl tk] 47 _ (fun _ h=> (Below.block h _ (lt_of_block hT)).trans hT) Tryz.underlying47 rfl Cj) (by assumption) ?_
    try simp only [Act.put,List.setIfInBounds_toArray,List.set_cons_zero,List.set_cons_succ]
    refine wpAnyH_take (i :=7) (oi := {dst :=some 79,op :=Go.Op.fieldAddr 36 (Go.Operand.tmp 3) 3,type :=0,pos := "law.go:159",after := #[{on :=5,ground :=Go.Ground.guard}],guard :=some (5,false)}) (v := ?_) rfl (by kernel_rfl) (by kernel_rfl) (by kernel_rfl) (fun _ _ _ h=>h) (Or.inl ⟨by rfl, ?_⟩) (by assumption) ?_
    rotate_left
    ·intro w hSw;(try dsimp only at hSw);go_simp;all_goals (with_reducible rfl)
    try simp only [Act.put,List.setIfInBounds_toArray,List.set_cons_zero,List.set_cons_succ]
    refine wpAnyH_take (i :=8) (oi := {dst :=some 80,op :=Go.Op.load 9 (Go.Operand.tmp 79),type :=9,pos := "law.go:159",after := #[{on :=7,ground :=Go.Ground.data},{on :=5,ground :=Go.Ground.guard}],guard :=some (5,false)}) (v := .string st.col) rfl (by kernel_rfl) (by kernel_rfl) (by kernel_rfl) (fun _ _ _ h=>h) (Or.inl ⟨by rfl, ?_⟩) (by assumption) ?_
    ·intro w1 hSw;have k3 := (hSw.cell (p := ⟨w.heap.size+1,3,none⟩) l34).trans k34;go_simp;all_goals (with_reducible rfl)
    try simp only [Act.put,List.setIfInBounds_toArray,List.set_cons_zero,List.set_cons_succ]
    refine wpAnyH_take (i :=10) (oi := {dst :=some 82,op :=Go.Op.load 47 (Go.Operand.tmp 12),type :=47,pos := "law.go:159",after := #[{on :=5,ground :=Go.Ground.guard}],guard :=some (5,false)}) (v := .agg #[.string t.name, .slice to' tl tk]) rfl (by kernel_rfl) (by kernel_rfl) (by kernel_rfl) (fun _ _ _ h=>h) (Cg (by rfl) 47 _ rfl pt rfl #[.string t.name, .slice to' tl tk] 47 _ (fun _ h=> (Below.block h _ (lt_of_block hT)).trans hT) Tryz.underlying47 rfl Cj) (by assumption) ?_
    try simp only [Act.put,List.setIfInBounds_toArray,List.set_cons_zero,List.set_cons_succ]
    refine wpAnyH_take (i :=11) (oi := {dst :=some 83,op :=Go.Op.fieldAddr 36 (Go.Operand.tmp 3) 3,type :=0,pos := "law.go:159",after := #[{on :=5,ground :=Go.Ground.guard}],guard :=some (5,false)}) (v := ?_) rfl (by kernel_rfl) (by kernel_rfl) (by kernel_rfl) (fun _ _ _ h=>h) (Or.inl ⟨by rfl, ?_⟩) (by assumption) ?_
    rotate_left
    ·intro w hSw;(try dsimp only at hSw);go_simp;all_goals (with_reducible rfl)
    try simp only [Act.put,List.setIfInBounds_toArray,List.set_cons_zero,List.set_cons_succ]
    refine wpAnyH_take (i :=12) (oi := {dst :=some 84,op :=Go.Op.load 9 (Go.Operand.tmp 83),type :=9,pos := "law.go:159",after := #[{on :=11,ground :=Go.Ground.data},{on :=5,ground :=Go.Ground.guard}],guard :=some (5,false)}) (v := .string st.col) rfl (by kernel_rfl) (by kernel_rfl) (by kernel_rfl) (fun _ _ _ h=>h) (Or.inl ⟨by rfl, ?_⟩) (by assumption) ?_
    ·intro w1 hSw;have k3 := (hSw.cell (p := ⟨w.heap.size+1,3,none⟩) l34).trans k34;go_simp;all_goals (with_reducible rfl)
    try simp only [Act.put,List.setIfInBounds_toArray,List.set_cons_zero,List.set_cons_succ]
    refine wpAnyH_ready (rs := [9]) (by kernel_rfl) (by simp) ?_
    refine (AllReadyH.cons (o := {dst :=some 81,op :=Go.Op.call {callee :=Go.Callee.value (Go.Operand.func 15),args := #[Go.Operand.tmp 78,Go.Operand.tmp 80],argTypes := #[47,9]},type :=3,pos := "law.go:159",after := #[{on :=6,ground :=Go.Ground.data},{on :=8,ground :=Go.Ground.data},{on :=5,ground :=Go.Ground.chain},{on :=5,ground :=Go.Ground.guard}],guard :=some (5,false)}) rfl (fun K hK=> ?_) AllReadyH.nil)
    go_simp
    (go_at_call 15;go_fit (HFC _ ((((Below.refl V4.heap.size V4).drew).trans (hb1.mono ((Below.refl V4.heap.size V4).drew).size)).trans (hb2.mono (((Below.refl V4.heap.size V4).drew).trans (hb1.mono ((Below.refl V4.heap.size V4).drew).size)).size)));rintro e U3 ⟨rfl,hb3⟩)
    go_wp2_with fail
    refine hK.out _ _ ?_ (fun hHeld=> ?_)
    ·exact (((((Below.refl V4.heap.size V4).drew).trans (hb1.mono ((Below.refl V4.heap.size V4).drew).size)).trans (hb2.mono (((Below.refl V4.heap.size V4).drew).trans (hb1.mono ((Below.refl V4.heap.size V4).drew).size)).size)).trans (hb3.mono ((((Below.refl V4.heap.size V4).drew).trans (hb1.mono ((Below.refl V4.heap.size V4).drew).size)).trans (hb2.mono (((Below.refl V4.heap.size V4).drew).trans (hb1.mono ((Below.refl V4.heap.size V4).drew).size)).size)).size))
    clear hK K
    try simp only [Act.put,List.setIfInBounds_toArray,List.set_cons_zero,List.set_cons_succ]
    refine wpAnyH_ready (rs := [13]) (by kernel_rfl) (by simp) ?_
    refine (AllReadyH.cons (o := {dst :=some 85,op :=Go.Op.call {callee :=Go.Callee.value (Go.Operand.func 16),args := #[Go.Operand.tmp 82,Go.Operand.tmp 84],argTypes := #[47,9]},type :=3,pos := "law.go:159",after := #[{on :=10,ground :=Go.Ground.data},{on :=12,ground :=Go.Ground.data},{on :=9,ground :=Go.Ground.chain},{on :=5,ground :=Go.Ground.guard}],guard :=some (5,false)}) rfl (fun K hK=> ?_) AllReadyH.nil)
    go_simp
    (go_at_call 16;go_fit (HOC _ (((((Below.refl V4.heap.size V4).drew).trans (hb1.mono ((Below.refl V4.heap.size V4).drew).size)).trans (hb2.mono (((Below.refl V4.heap.size V4).drew).trans (hb1.mono ((Below.refl V4.heap.size V4).drew).size)).size)).trans (hb3.mono ((((Below.refl V4.heap.size V4).drew).trans (hb1.mono ((Below.refl V4.heap.size V4).drew).size)).trans (hb2.mono (((Below.refl V4.heap.size V4).drew).trans (hb1.mono ((Below.refl V4.heap.size V4).drew).size)).size)).size)));rintro e U4 ⟨rfl,hb4⟩)
    go_wp2_with fail
    refine hK.out _ _ ?_ (fun hHeld=> ?_)
    ·exact ((((((Below.refl V4.heap.size V4).drew).trans (hb1.mono ((Below.refl V4.heap.size V4).drew).size)).trans (hb2.mono (((Below.refl V4.heap.size V4).drew).trans (hb1.mono ((Below.refl V4.heap.size V4).drew).size)).size)).trans (hb3.mono ((((Below.refl V4.heap.size V4).drew).trans (hb1.mono ((Below.refl V4.heap.size V4).drew).size)).trans (hb2.mono (((Below.refl V4.heap.size V4).drew).trans (hb1.mono ((Below.refl V4.heap.size V4).drew).size)).size)).size)).trans (hb4.mono (((((Below.refl V4.heap.size V4).drew).trans (hb1.mono ((Below.refl V4.heap.size V4).drew).size)).trans (hb2.mono (((Below.refl V4.heap.size V4).drew).trans (hb1.mono ((Below.refl V4.heap.size V4).drew).size)).size)).trans (hb3.mono ((((Below.refl V4.heap.size V4).drew).trans (hb1.mono ((Below.refl V4.heap.size V4).drew).size)).trans (hb2.mono (((Below.refl V4.heap.size V4).drew).trans (hb1.mono ((Below.refl V4.heap.size V4).drew).size)).size)).size)).size))
    clear hK K
    try simp only [Act.put,List.setIfInBounds_toArray,List.set_cons_zero,List.set_cons_succ]
    refine wpAnyH_take (i :=14) (oi := {dst :=some 86,op :=Go.Op.binOp Go.BinOp.neq 3 (Go.Operand.tmp 81) (Go.Operand.tmp 85) 3,type :=4,pos := "law.go:159",after := #[{on :=9,ground :=Go.Ground.data},{on :=13,ground :=Go.Ground.data},{on :=5,ground :=Go.Ground.guard}],guard :=some (5,false)}) (v := .bool false) rfl (by kernel_rfl) (by kernel_rfl) (by kernel_rfl) (fun _ _ _ h=>h) (Or.inl ⟨by rfl, ?_⟩) (by assumption) ?_
    ·intro w hSw;(try dsimp only at hSw);go_simp;all_goals (first | with_reducible rfl | simp)
    try simp only [Act.put,List.setIfInBounds_toArray,List.set_cons_zero,List.set_cons_succ]
    refine wpAnyH_take (i :=15) (oi := {dst :=some 87,op :=Go.Op.pick (Go.Operand.tmp 77) (Go.Operand.const (Go.Value.bool true)) (Go.Operand.tmp 86),type :=4,pos := "law.go:159",after := #[{on :=5,ground :=Go.Ground.data},{on :=14,ground :=Go.Ground.data}],guard :=none}) (v := ?_) rfl (by kernel_rfl) (by kernel_rfl) (by kernel_rfl) (fun _ _ _ h=>h) (Or.inl ⟨by rfl, ?_⟩) (by assumption) ?_
    rotate_left
    ·intro w hSw;(try dsimp only at hSw);go_simp;all_goals (with_reducible rfl)
    try simp only [Act.put,List.setIfInBounds_toArray,List.set_cons_zero,List.set_cons_succ]
    refine wpAnyH_done (by kernel_rfl) ?_ _
    go_wp2_with fail
    go_meet
    case rel=>exact ⟨rfl,((((((Below.refl V4.heap.size V4).drew).trans (hb1.mono ((Below.refl V4.heap.size V4).drew).size)).trans (hb2.mono (((Below.refl V4.heap.size V4).drew).trans (hb1.mono ((Below.refl V4.heap.size V4).drew).size)).size)).trans (hb3.mono ((((Below.refl V4.heap.size V4).drew).trans (hb1.mono ((Below.refl V4.heap.size V4).drew).size)).trans (hb2.mono (((Below.refl V4.heap.size V4).drew).trans (hb1.mono ((Below.refl V4.heap.size V4).drew).size)).size)).size)).trans (hb4.mono (((((Below.refl V4.heap.size V4).drew).trans (hb1.mono ((Below.refl V4.heap.size V4).drew).size)).trans (hb2.mono (((Below.refl V4.heap.size V4).drew).trans (hb1.mono ((Below.refl V4.heap.size V4).drew).size)).size)).trans (hb3.mono ((((Below.refl V4.heap.size V4).drew).trans (hb1.mono ((Below.refl V4.heap.size V4).drew).size)).trans (hb2.mono (((Below.refl V4.heap.size V4).drew).trans (hb1.mono ((Below.refl V4.heap.size V4).drew).size)).size)).size)).size))⟩
   case rest=>
    obtain ⟨rfl,hb5⟩ :=hcut
    go_wp2_with fail
    go_roundw
    case rel=>exact ⟨k+1,by omega,by go_num,hb04.trans (hb5.mono hb04.size)⟩
    case measure=>simp [intOf];omega
  ·have hkn :k=ct.tables.length :=by omega
   subst hkn
   have j1 : ¬ ((ct.tables.length :Int) < (ct.tables.length :Int)) :=by omega
   go_wp2_with fail
   refine HK1.out _ _ ?_
   exact Z1 ct st o _ iv arr w Vr pd px pa pb dv xa aa ba (HH.out.below hbk) HO HF _ _ _ _ (by kernel_rfl)
set_option maxRecDepth 100000 in
set_option maxHeartbeats 8000000 in
theorem Yn (ct :CatD) (st :Stm) (o :Except Int Stm) (tv iv :Value) (arr :Array Value) (w V :World) (pd px pa pb :Nat) (dv xa aa ba :Array Value) (h :LwSt ct st o tv iv arr w V pd px pa pb dv xa aa ba) (HO :Hid (o=Bw ct st)) (HF :Hid (LwFit ct st)) (hen :EnvM w) (q0 q1 q4 :Value) (l :List Value) (hll :l.length=115) :
  Code.wp Tryz.prog (Db 4 (C4 Tryz.f3)) (bodyPost Tryz.prog Tryz.f3 (Uw w)) ⟨frmL w.heap.size pd px pa pb (Ie o) q0 q1 q4 l,[]⟩ V :=by
 obtain ⟨q,rfl⟩ :=lay hll
 clear hll
 have HEN :Hid (EnvM w) :=hen
 have HH :Hid _ :=h
 obtain ⟨hbV,hC,hS,hD,hX,hA,hB⟩ :=h
 clear hen
 have HA :=fun U (hb :Below V.heap.size V U) =>R1 (hA.at hb) (hB.at hb)
 have HG :=fun U (hb :Below V.heap.size V U) =>G6 ct (.agg dv) V.heap.size U (hD.at hb) hb.size HF.out.fc
 have HI :=fun U (hb :Below V.heap.size V U) =>Kv ct (.agg #[tv,iv]) V.heap.size U (hC.at hb) hb.size ((HEN.out.next hbV).next hb)
 rw [Rt] at HI
 have HD :=fun U (hb :Below V.heap.size V U) =>Kw ct (.agg dv) (.agg #[tv,iv]) _ _ U (hD.at hb) (hC.at hb)
 have HX :=fun U (hb :Below V.heap.size V U) =>R1 (hX.at hb) (hS.at hb)
 have HSc :=fun U (_ :Below V.heap.size V U) =>R0 U
 generalize Cq ct=cb at*
 have HE :Hid (Ie o=Ie o) :=rfl
 conv=>arg 2;whnf
 refine wp_seq_k fun K1 hK1=> ?_
 have HK1 :Hid _ :=hK1
 clear hK1
 simp only [frmL,List.range,List.range.loop,List.map]
 go_upto_region 4 with fail
 go_cut [64] from 33 to 64 (fun v wx=>v= .bool false∧Below V.heap.size V wx)
 case first=>
  refine wp_region_held_drew (S :=Below V.heap.size V) (by kernel_rfl) ?_ (fun hHeld=> ?_)
  ·exact (Below.refl _ _).drew
  refine wpAnyH_take (i :=0) (oi := {dst :=some 33,op :=Go.Op.load 36 (Go.Operand.tmp 7),type :=36,pos := "law.go:155",after := #[],guard :=none}) (v := .agg aa) rfl (by kernel_rfl) (by kernel_rfl) (by kernel_rfl) (fun _ _ _ h=>h) (Bt rfl 36 _ rfl pa rfl aa 36 _ (fun _ h=> (Below.block h _ hA.lt).trans hA.blk) Tryz.underlying36 rfl hA.info) (by assumption) ?_
  try simp only [Act.put,List.setIfInBounds_toArray,List.set_cons_zero,List.set_cons_succ]
  refine wpAnyH_take (i :=1) (oi := {dst :=some 34,op :=Go.Op.load 36 (Go.Operand.tmp 9),type :=36,pos := "law.go:155",after := #[],guard :=none}) (v := .agg ba) rfl (by kernel_rfl) (by kernel_rfl) (by kernel_rfl) (fun _ _ _ h=>h) (Bt rfl 36 _ rfl pb rfl ba 36 _ (fun _ h=> (Below.block h _ hB.lt).trans hB.blk) Tryz.underlying36 rfl hB.info) (by assumption) ?_
  try simp only [Act.put,List.setIfInBounds_toArray,List.set_cons_zero,List.set_cons_succ]
  refine wpAnyH_ready (rs := [2]) (by kernel_rfl) (by simp) ?_
  refine (AllReadyH.cons (o := {dst :=some 35,op :=Go.Op.call {callee :=Go.Callee.value (Go.Operand.func 8),args := #[Go.Operand.tmp 33,Go.Operand.tmp 34],argTypes := #[36,36]},type :=4,pos := "law.go:155",after := #[{on :=0,ground :=Go.Ground.data},{on :=1,ground :=Go.Ground.data}],guard :=none}) rfl (fun K hK=> ?_) AllReadyH.nil)
  go_simp
  (go_at_call 8;go_fit (HA _ ((Below.refl V.heap.size V).drew));rintro e U1 ⟨rfl,hb1⟩)
  go_wp2_with fail
  refine hK.out _ _ ?_ (fun hHeld=> ?_)
  ·exact (((Below.refl V.heap.size V).drew).trans (hb1.mono ((Below.refl V.heap.size V).drew).size))
  clear hK K
  try simp only [Act.put,List.setIfInBounds_toArray,List.set_cons_zero,List.set_cons_succ]
  refine wpAnyH_take (i :=3) (oi := {dst :=some 36,op :=Go.Op.unOp Go.UnOp.not 4 (Go.Operand.tmp 35),type :=4,pos := "law.go:155",after := #[{on :=2,ground :=Go.Ground.data}],guard :=none}) (v := ?_) rfl (by kernel_rfl) (by kernel_rfl) (by kernel_rfl) (fun _ _ _ h=>h) (Or.inl ⟨by rfl, ?_⟩) (by assumption) ?_
  rotate_left
  ·intro w hSw;(try dsimp only at hSw);go_simp;all_goals (with_reducible rfl)
  try simp only [Act.put,List.setIfInBounds_toArray,List.set_cons_zero,List.set_cons_succ]
  refine wpAnyH_take (i :=4) (oi := {dst :=some 37,op :=Go.Op.move (Go.Operand.tmp 36),type :=4,pos := "law.go:155",after := #[{on :=3,ground :=Go.Ground.data},{on :=2,ground :=Go.Ground.chain}],guard :=none}) (v := ?_) rfl (by kernel_rfl) (by kernel_rfl) (by kernel_rfl) (fun _ _ _ h=>h) (Or.inl ⟨by rfl, ?_⟩) (by assumption) ?_
  rotate_left
  ·intro w hSw;(try dsimp only at hSw);go_simp;all_goals (with_reducible rfl)
  try simp only [Act.put,List.setIfInBounds_toArray,List.set_cons_zero,List.set_cons_succ]
  refine wpAnyH_take (i :=5) (oi := {dst :=some 38,op :=Go.Op.move (Go.Operand.tmp 8),type :=39,pos := "law.go:155",after := #[{on :=4,ground :=Go.Ground.guard}],guard :=some (4,false)}) (v := ?_) rfl (by kernel_rfl) (by kernel_rfl) (by kernel_rfl) (fun _ _ _ h=>h) (Or.inl ⟨by rfl, ?_⟩) (by assumption) ?_
  rotate_left
  ·intro w hSw;(try dsimp only at hSw);go_simp;all_goals (with_reducible rfl)
  try simp only [Act.put,List.setIfInBounds_toArray,List.set_cons_zero,List.set_cons_succ]
  refine wpAnyH_take (i :=6) (oi := {dst :=some 39,op :=Go.Op.move (Go.Operand.tmp 10),type :=39,pos := "law.go:155",after := #[{on :=4,ground :=Go.Ground.guard}],guard :=some (4,false)}) (v := ?_) rfl (by kernel_rfl) (by kernel_rfl) (by kernel_rfl) (fun _ _ _ h=>h) (Or.inl ⟨by rfl, ?_⟩) (by assumption) ?_
  rotate_left
  ·intro w hSw;(try dsimp only at hSw);go_simp;all_goals (with_reducible rfl)
  try simp only [Act.put,List.setIfInBounds_toArray,List.set_cons_zero,List.set_cons_succ]
  refine wpAnyH_take (i :=7) (oi := {dst :=some 40,op :=Go.Op.binOp Go.BinOp.neq 39 (Go.Operand.tmp 38) (Go.Operand.tmp 39) 39,type :=4,pos := "law.go:155",after := #[{on :=5,ground :=Go.Ground.data},{on :=6,ground :=Go.Ground.data},{on :=4,ground :=Go.Ground.guard}],guard :=some (4,false)}) (v := .bool false) rfl (by kernel_rfl) (by kernel_rfl) (by kernel_rfl) (fun _ _ _ h=>h) (Or.inl ⟨by rfl, ?_⟩) (by assumption) ?_
  ·intro w hSw;(try dsimp only at hSw);go_simp;all_goals (first | with_reducible rfl | simp)
  try simp only [Act.put,List.setIfInBounds_toArray,List.set_cons_zero,List.set_cons_succ]
  refine wpAnyH_take (i :=8) (oi := {dst :=some 41,op :=Go.Op.pick (Go.Operand.tmp 37) (Go.Operand.const (Go.Value.bool true)) (Go.Operand.tmp 40),type :=4,pos := "law.go:155",after := #[{on :=4,ground :=Go.Ground.data},{on :=7,ground :=Go.Ground.data}],guard :=none}) (v := ?_) rfl (by kernel_rfl) (by kernel_rfl) (by kernel_rfl) (fun _ _ _ h=>h) (Or.inl ⟨by rfl, ?_⟩) (by assumption) ?_
  rotate_left
  ·intro w hSw;(try dsimp only at hSw);go_simp;all_goals (with_reducible rfl)
  try simp only [Act.put,List.setIfInBounds_toArray,List.set_cons_zero,List.set_cons_succ]
  refine wpAnyH_take (i :=9) (oi := {dst :=some 42,op :=Go.Op.move (Go.Operand.tmp 41),type :=4,pos := "law.go:155",after := #[{on :=8,ground :=Go.Ground.data},{on :=4,ground :=Go.Ground.chain}],guard :=none}) (v := ?_) rfl (by kernel_rfl) (by kernel_rfl) (by kernel_rfl) (fun _ _ _ h=>h) (Or.inl ⟨by rfl, ?_⟩) (by assumption) ?_
  rotate_left
  ·intro w hSw;(try dsimp only at hSw);go_simp;all_goals (with_reducible rfl)
  try simp only [Act.put,List.setIfInBounds_toArray,List.set_cons_zero,List.set_cons_succ]
  refine wpAnyH_take (i :=10) (oi := {dst :=some 43,op :=Go.Op.load 25 (Go.Operand.tmp 5),type :=25,pos := "law.go:155",after := #[{on :=9,ground :=Go.Ground.guard}],guard :=some (9,false)}) (v := .agg dv) rfl (by kernel_rfl) (by kernel_rfl) (by kernel_rfl) (fun _ _ _ h=>h) (Cg (by rfl) 25 _ rfl pd rfl dv 25 _ (fun _ h=> (Below.block h _ hD.lt).trans hD.blk) Tryz.underlying25 rfl hD.info) (by assumption) ?_
  try simp only [Act.put,List.setIfInBounds_toArray,List.set_cons_zero,List.set_cons_succ]
  refine wpAnyH_take (i :=12) (oi := {dst :=some 45,op :=Go.Op.load 25 (Go.Operand.tmp 2),type :=25,pos := "law.go:155",after := #[{on :=9,ground :=Go.Ground.guard}],guard :=some (9,false)}) (v := .agg #[tv,iv]) rfl (by kernel_rfl) (by kernel_rfl) (by kernel_rfl) (fun _ _ _ h=>h) (Cg (by rfl) 25 _ rfl w.heap.size rfl #[tv,iv] 25 _ (fun _ h=> (Below.block h _ hC.lt).trans hC.blk) Tryz.underlying25 rfl hC.info) (by assumption) ?_
  try simp only [Act.put,List.setIfInBounds_toArray,List.set_cons_zero,List.set_cons_succ]
  refine wpAnyH_ready (rs := [11]) (by kernel_rfl) (by simp) ?_
  refine (AllReadyH.cons (o := {dst :=some 44,op :=Go.Op.call {callee :=Go.Callee.value (Go.Operand.func 9),args := #[Go.Operand.tmp 43],argTypes := #[25]},type :=4,pos := "law.go:155",after := #[{on :=10,ground :=Go.Ground.data},{on :=9,ground :=Go.Ground.chain},{on :=9,ground :=Go.Ground.guard}],guard :=some (9,false)}) rfl (fun K hK=> ?_) AllReadyH.nil)
  go_simp
  (go_at_call 9;go_fit (HG _ (((Below.refl V.heap.size V).drew).trans (hb1.mono ((Below.refl V.heap.size V).drew).size)));rintro e U2 ⟨rfl,hb2⟩)
  go_wp2_with fail
  refine hK.out _ _ ?_ (fun hHeld=> ?_)
  ·exact ((((Below.refl V.heap.size V).drew).trans (hb1.mono ((Below.refl V.heap.size V).drew).size)).trans (hb2.mono (((Below.refl V.heap.size V).drew).trans (hb1.mono ((Below.refl V.heap.size V).drew).size)).size))
  clear hK K
  try simp only [Act.put,List.setIfInBounds_toArray,List.set_cons_zero,List.set_cons_succ]
  refine wpAnyH_ready (rs := [13]) (by kernel_rfl) (by simp) ?_
  refine (AllReadyH.cons (o := {dst :=some 46,op :=Go.Op.call {callee :=Go.Callee.value (Go.Operand.func 10),args := #[Go.Operand.tmp 45],argTypes := #[25]},type :=4,pos := "law.go:155",after := #[{on :=12,ground :=Go.Ground.data},{on :=11,ground :=Go.Ground.chain},{on :=9,ground :=Go.Ground.guard}],guard :=some (9,false)}) rfl (fun K hK=> ?_) AllReadyH.nil)
  go_simp
  (go_at_call 10;go_fit (HI _ ((((Below.refl V.heap.size V).drew).trans (hb1.mono ((Below.refl V.heap.size V).drew).size)).trans (hb2.mono (((Below.refl V.heap.size V).drew).trans (hb1.mono ((Below.refl V.heap.size V).drew).size)).size)));rintro e U3 ⟨rfl,hb3⟩)
  go_wp2_with fail
  refine hK.out _ _ ?_ (fun hHeld=> ?_)
  ·exact (((((Below.refl V.heap.size V).drew).trans (hb1.mono ((Below.refl V.heap.size V).drew).size)).trans (hb2.mono (((Below.refl V.heap.size V).drew).trans (hb1.mono ((Below.refl V.heap.size V).drew).size)).size)).trans (hb3.mono ((((Below.refl V.heap.size V).drew).trans (hb1.mono ((Below.refl V.heap.size V).drew).size)).trans (hb2.mono (((Below.refl V.heap.size V).drew).trans (hb1.mono ((Below.refl V.heap.size V).drew).size)).size)).size))
  clear hK K
  try simp only [Act.put,List.setIfInBounds_toArray,List.set_cons_zero,List.set_cons_succ]
  refine wpAnyH_take (i :=14) (oi := {dst :=some 47,op :=Go.Op.binOp Go.BinOp.neq 4 (Go.Operand.tmp 44) (Go.Operand.tmp 46) 4,type :=4,pos := "law.go:155",after := #[{on :=11,ground :=Go.Ground.data},{on :=13,ground :=Go.Ground.data},{on :=9,ground :=Go.Ground.guard}],guard :=some (9,false)}) (v := .bool false) rfl (by kernel_rfl) (by kernel_rfl) (by kernel_rfl) (fun _ _ _ h=>h) (Or.inl ⟨by rfl, ?_⟩) (by assumption) ?_
  ·intro w hSw;(try dsimp only at hSw);go_simp;all_goals (first | with_reducible rfl | simp)
  try simp only [Act.put,List.setIfInBounds_toArray,List.set_cons_zero,List.set_cons_succ]
  refine wpAnyH_take (i :=15) (oi := {dst :=some 48,op :=Go.Op.pick (Go.Operand.tmp 42) (Go.Operand.const (Go.Value.bool true)) (Go.Operand.tmp 47),type :=4,pos := "law.go:155",after := #[{on :=9,ground :=Go.Ground.data},{on :=14,ground :=Go.Ground.data}],guard :=none}) (v := ?_) rfl (by kernel_rfl) (by kernel_rfl) (by kernel_rfl) (fun _ _ _ h=>h) (Or.inl ⟨by rfl, ?_⟩) (by assumption) ?_
  rotate_left
  ·intro w hSw;(try dsimp only at hSw);go_simp;all_goals (with_reducible rfl)
  try simp only [Act.put,List.setIfInBounds_toArray,List.set_cons_zero,List.set_cons_succ]
  refine wpAnyH_take (i :=16) (oi := {dst :=some 49,op :=Go.Op.move (Go.Operand.tmp 48),type :=4,pos := "law.go:155",after := #[{on :=15,ground :=Go.Ground.data},{on :=13,ground :=Go.Ground.chain}],guard :=none}) (v := ?_) rfl (by kernel_rfl) (by kernel_rfl) (by kernel_rfl) (fun _ _ _ h=>h) (Or.inl ⟨by rfl, ?_⟩) (by assumption) ?_
  rotate_left
  ·intro w hSw;(try dsimp only at hSw);go_simp;all_goals (with_reducible rfl)
  try simp only [Act.put,List.setIfInBounds_toArray,List.set_cons_zero,List.set_cons_succ]
  refine wpAnyH_take (i :=17) (oi := {dst :=some 50,op :=Go.Op.load 25 (Go.Operand.tmp 5),type :=25,pos := "law.go:155",after := #[{on :=16,ground :=Go.Ground.guard}],guard :=some (16,false)}) (v := .agg dv) rfl (by kernel_rfl) (by kernel_rfl) (by kernel_rfl) (fun _ _ _ h=>h) (Cg (by rfl) 25 _ rfl pd rfl dv 25 _ (fun _ h=> (Below.block h _ hD.lt).trans hD.blk) Tryz.underlying25 rfl hD.info) (by assumption) ?_
  try simp only [Act.put,List.setIfInBounds_toArray,List.set_cons_zero,List.set_cons_succ]
  refine wpAnyH_take (i :=18) (oi := {dst :=some 51,op :=Go.Op.load 25 (Go.Operand.tmp 2),type :=25,pos := "law.go:155",after := #[{on :=16,ground :=Go.Ground.guard}],guard :=some (16,false)}) (v := .agg #[tv,iv]) rfl (by kernel_rfl) (by kernel_rfl) (by kernel_rfl) (fun _ _ _ h=>h) (Cg (by rfl) 25 _ rfl w.heap.size rfl #[tv,iv] 25 _ (fun _ h=> (Below.block h _ hC.lt).trans hC.blk) Tryz.underlying25 rfl hC.info) (by assumption) ?_
  try simp only [Act.put,List.setIfInBounds_toArray,List.set_cons_zero,List.set_cons_succ]
  refine wpAnyH_ready (rs := [19]) (by kernel_rfl) (by simp) ?_
  refine (AllReadyH.cons (o := {dst :=some 52,op :=Go.Op.call {callee :=Go.Callee.value (Go.Operand.func 11),args := #[Go.Operand.tmp 50,Go.Operand.tmp 51],argTypes := #[25,25]},type :=4,pos := "law.go:155",after := #[{on :=17,ground :=Go.Ground.data},{on :=18,ground :=Go.Ground.data},{on :=16,ground :=Go.Ground.chain},{on :=16,ground :=Go.Ground.guard}],guard :=some (16,false)}) rfl (fun K hK=> ?_) AllReadyH.nil)
  go_simp
  (go_at_call 11;go_fit (HD _ (((((Below.refl V.heap.size V).drew).trans (hb1.mono ((Below.refl V.heap.size V).drew).size)).trans (hb2.mono (((Below.refl V.heap.size V).drew).trans (hb1.mono ((Below.refl V.heap.size V).drew).size)).size)).trans (hb3.mono ((((Below.refl V.heap.size V).drew).trans (hb1.mono ((Below.refl V.heap.size V).drew).size)).trans (hb2.mono (((Below.refl V.heap.size V).drew).trans (hb1.mono ((Below.refl V.heap.size V).drew).size)).size)).size)));rintro e U4 ⟨rfl,hb4⟩)
  go_wp2_with fail
  refine hK.out _ _ ?_ (fun hHeld=> ?_)
  ·exact ((((((Below.refl V.heap.size V).drew).trans (hb1.mono ((Below.refl V.heap.size V).drew).size)).trans (hb2.mono (((Below.refl V.heap.size V).drew).trans (hb1.mono ((Below.refl V.heap.size V).drew).size)).size)).trans (hb3.mono ((((Below.refl V.heap.size V).drew).trans (hb1.mono ((Below.refl V.heap.size V).drew).size)).trans (hb2.mono (((Below.refl V.heap.size V).drew).trans (hb1.mono ((Below.refl V.heap.size V).drew).size)).size)).size)).trans (hb4.mono (((((Below.refl V.heap.size V).drew).trans (hb1.mono ((Below.refl V.heap.size V).drew).size)).trans (hb2.mono (((Below.refl V.heap.size V).drew).trans (hb1.mono ((Below.refl V.heap.size V).drew).size)).size)).trans (hb3.mono ((((Below.refl V.heap.size V).drew).trans (hb1.mono ((Below.refl V.heap.size V).drew).size)).trans (hb2.mono (((Below.refl V.heap.size V).drew).trans (hb1.mono ((Below.refl V.heap.size V).drew).size)).size)).size)).size))
  clear hK K
  try simp only [Act.put,List.setIfInBounds_toArray,List.set_cons_zero,List.set_cons_succ]
  refine wpAnyH_take (i :=20) (oi := {dst :=some 53,op :=Go.Op.unOp Go.UnOp.not 4 (Go.Operand.tmp 52),type :=4,pos := "law.go:155",after := #[{on :=19,ground :=Go.Ground.data},{on :=16,ground :=Go.Ground.guard}],guard :=some (16,false)}) (v := ?_) rfl (by kernel_rfl) (by kernel_rfl) (by kernel_rfl) (fun _ _ _ h=>h) (Or.inl ⟨by rfl, ?_⟩) (by assumption) ?_
  rotate_left
  ·intro w hSw;(try dsimp only at hSw);go_simp;all_goals (with_reducible rfl)
  try simp only [Act.put,List.setIfInBounds_toArray,List.set_cons_zero,List.set_cons_succ]
  refine wpAnyH_take (i :=21) (oi := {dst :=some 54,op :=Go.Op.pick (Go.Operand.tmp 49) (Go.Operand.const (Go.Value.bool true)) (Go.Operand.tmp 53),type :=4,pos := "law.go:155",after := #[{on :=16,ground :=Go.Ground.data},{on :=20,ground :=Go.Ground.data}],guard :=none}) (v := ?_) rfl (by kernel_rfl) (by kernel_rfl) (by kernel_rfl) (fun _ _ _ h=>h) (Or.inl ⟨by rfl, ?_⟩) (by assumption) ?_
  rotate_left
  ·intro w hSw;(try dsimp only at hSw);go_simp;all_goals (with_reducible rfl)
  try simp only [Act.put,List.setIfInBounds_toArray,List.set_cons_zero,List.set_cons_succ]
  refine wpAnyH_take (i :=22) (oi := {dst :=some 55,op :=Go.Op.move (Go.Operand.tmp 54),type :=4,pos := "law.go:155",after := #[{on :=21,ground :=Go.Ground.data},{on :=19,ground :=Go.Ground.chain}],guard :=none}) (v := ?_) rfl (by kernel_rfl) (by kernel_rfl) (by kernel_rfl) (fun _ _ _ h=>h) (Or.inl ⟨by rfl, ?_⟩) (by assumption) ?_
  rotate_left
  ·intro w hSw;(try dsimp only at hSw);go_simp;all_goals (with_reducible rfl)
  try simp only [Act.put,List.setIfInBounds_toArray,List.set_cons_zero,List.set_cons_succ]
  refine wpAnyH_take (i :=23) (oi := {dst :=some 56,op :=Go.Op.load 36 (Go.Operand.tmp 6),type :=36,pos := "law.go:155",after := #[{on :=22,ground :=Go.Ground.guard}],guard :=some (22,false)}) (v := .agg xa) rfl (by kernel_rfl) (by kernel_rfl) (by kernel_rfl) (fun _ _ _ h=>h) (Cg (by rfl) 36 _ rfl px rfl xa 36 _ (fun _ h=> (Below.block h _ hX.lt).trans hX.blk) Tryz.underlying36 rfl hX.info) (by assumption) ?_
  try simp only [Act.put,List.setIfInBounds_toArray,List.set_cons_zero,List.set_cons_succ]
  refine wpAnyH_take (i :=24) (oi := {dst :=some 57,op :=Go.Op.load 36 (Go.Operand.tmp 3),type :=36,pos := "law.go:155",after := #[{on :=22,ground :=Go.Ground.guard}],guard :=some (22,false)}) (v := .agg arr) rfl (by kernel_rfl) (by kernel_rfl) (by kernel_rfl) (fun _ _ _ h=>h) (Cg (by rfl) 36 _ rfl (w.heap.size+1) rfl arr 36 _ (fun _ h=> (Below.block h _ hS.lt).trans hS.blk) Tryz.underlying36 rfl hS.info) (by assumption) ?_
  try simp only [Act.put,List.setIfInBounds_toArray,List.set_cons_zero,List.set_cons_succ]
  refine wpAnyH_ready (rs := [25]) (by kernel_rfl) (by simp) ?_
  refine (AllReadyH.cons (o := {dst :=some 58,op :=Go.Op.call {callee :=Go.Callee.value (Go.Operand.func 8),args := #[Go.Operand.tmp 56,Go.Operand.tmp 57],argTypes := #[36,36]},type :=4,pos := "law.go:155",after := #[{on :=23,ground :=Go.Ground.data},{on :=24,ground :=Go.Ground.data},{on :=22,ground :=Go.Ground.chain},{on :=22,ground :=Go.Ground.guard}],guard :=some (22,false)}) rfl (fun K hK=> ?_) AllReadyH.nil)
  go_simp
  (go_at_call 8;go_fit (HX _ ((((((Below.refl V.heap.size V).drew).trans (hb1.mono ((Below.refl V.heap.size V).drew).size)).trans (hb2.mono (((Below.refl V.heap.size V).drew).trans (hb1.mono ((Below.refl V.heap.size V).drew).size)).size)).trans (hb3.mono ((((Below.refl V.heap.size V).drew).trans (hb1.mono ((Below.refl V.heap.size V).drew).size)).trans (hb2.mono (((Below.refl V.heap.size V).drew).trans (hb1.mono ((Below.refl V.heap.size V).drew).size)).size)).size)).trans (hb4.mono (((((Below.refl V.heap.size V).drew).trans (hb1.mono ((Below.refl V.heap.size V).drew).size)).trans (hb2.mono (((Below.refl V.heap.size V).drew).trans (hb1.mono ((Below.refl V.heap.size V).drew).size)).size)).trans (hb3.mono ((((Below.refl V.heap.size V).drew).trans (hb1.mono ((Below.refl V.heap.size V).drew).size)).trans (hb2.mono (((Below.refl V.heap.size V).drew).trans (hb1.mono ((Below.refl V.heap.size V).drew).size)).size)).size)).size)));rintro e U5 ⟨rfl,hb5⟩)
  go_wp2_with fail
  refine hK.out _ _ ?_ (fun hHeld=> ?_)
  ·exact (((((((Below.refl V.heap.size V).drew).trans (hb1.mono ((Below.refl V.heap.size V).drew).size)).trans (hb2.mono (((Below.refl V.heap.size V).drew).trans (hb1.mono ((Below.refl V.heap.size V).drew).size)).size)).trans (hb3.mono ((((Below.refl V.heap.size V).drew).trans (hb1.mono ((Below.refl V.heap.size V).drew).size)).trans (hb2.mono (((Below.refl V.heap.size V).drew).trans (hb1.mono ((Below.refl V.heap.size V).drew).size)).size)).size)).trans (hb4.mono (((((Below.refl V.heap.size V).drew).trans (hb1.mono ((Below.refl V.heap.size V).drew).size)).trans (hb2.mono (((Below.refl V.heap.size V).drew).trans (hb1.mono ((Below.refl V.heap.size V).drew).size)).size)).trans (hb3.mono ((((Below.refl V.heap.size V).drew).trans (hb1.mono ((Below.refl V.heap.size V).drew).size)).trans (hb2.mono (((Below.refl V.heap.size V).drew).trans (hb1.mono ((Below.refl V.heap.size V).drew).size)).size)).size)).size)).trans (hb5.mono ((((((Below.refl V.heap.size V).drew).trans (hb1.mono ((Below.refl V.heap.size V).drew).size)).trans (hb2.mono (((Below.refl V.heap.size V).drew).trans (hb1.mono ((Below.refl V.heap.size V).drew).size)).size)).trans (hb3.mono ((((Below.refl V.heap.size V).drew).trans (hb1.mono ((Below.refl V.heap.size V).drew).size)).trans (hb2.mono (((Below.refl V.heap.size V).drew).trans (hb1.mono ((Below.refl V.heap.size V).drew).size)).size)).size)).trans (hb4.mono (((((Below.refl V.heap.size V).drew).trans (hb1.mono ((Below.refl V.heap.size V).drew).size)).trans (hb2.mono (((Below.refl V.heap.size V).drew).trans (hb1.mono ((Below.refl V.heap.size V).drew).size)).size)).trans (hb3.mono ((((Below.refl V.heap.size V).drew).trans (hb1.mono ((Below.refl V.heap.size V).drew).size)).trans (hb2.mono (((Below.refl V.heap.size V).drew).trans (hb1.mono ((Below.refl V.heap.size V).drew).size)).size)).size)).size)).size))
  clear hK K
  try simp only [Act.put,List.setIfInBounds_toArray,List.set_cons_zero,List.set_cons_succ]
  refine wpAnyH_take (i :=26) (oi := {dst :=some 59,op :=Go.Op.unOp Go.UnOp.not 4 (Go.Operand.tmp 58),type :=4,pos := "law.go:155",after := #[{on :=25,ground :=Go.Ground.data},{on :=22,ground :=Go.Ground.guard}],guard :=some (22,false)}) (v := ?_) rfl (by kernel_rfl) (by kernel_rfl) (by kernel_rfl) (fun _ _ _ h=>h) (Or.inl ⟨by rfl, ?_⟩) (by assumption) ?_
  rotate_left
  ·intro w hSw;(try dsimp only at hSw);go_simp;all_goals (with_reducible rfl)
  try simp only [Act.put,List.setIfInBounds_toArray,List.set_cons_zero,List.set_cons_succ]
  refine wpAnyH_take (i :=27) (oi := {dst :=some 60,op :=Go.Op.pick (Go.Operand.tmp 55) (Go.Operand.const (Go.Value.bool true)) (Go.Operand.tmp 59),type :=4,pos := "law.go:155",after := #[{on :=22,ground :=Go.Ground.data},{on :=26,ground :=Go.Ground.data}],guard :=none}) (v := ?_) rfl (by kernel_rfl) (by kernel_rfl) (by kernel_rfl) (fun _ _ _ h=>h) (Or.inl ⟨by rfl, ?_⟩) (by assumption) ?_
  rotate_left
  ·intro w hSw;(try dsimp only at hSw);go_simp;all_goals (with_reducible rfl)
  try simp only [Act.put,List.setIfInBounds_toArray,List.set_cons_zero,List.set_cons_succ]
  refine wpAnyH_take (i :=28) (oi := {dst :=some 61,op :=Go.Op.move (Go.Operand.tmp 60),type :=4,pos := "law.go:155",after := #[{on :=27,ground :=Go.Ground.data},{on :=25,ground :=Go.Ground.chain}],guard :=none}) (v := ?_) rfl (by kernel_rfl) (by kernel_rfl) (by kernel_rfl) (fun _ _ _ h=>h) (Or.inl ⟨by rfl, ?_⟩) (by assumption) ?_
  rotate_left
  ·intro w hSw;(try dsimp only at hSw);go_simp;all_goals (with_reducible rfl)
  try simp only [Act.put,List.setIfInBounds_toArray,List.set_cons_zero,List.set_cons_succ]
  refine wpAnyH_ready (rs := [29]) (by kernel_rfl) (by simp) ?_
  refine (AllReadyH.cons (o := {dst :=some 62,op :=Go.Op.call {callee :=Go.Callee.value (Go.Operand.func 12),args := #[],argTypes := #[]},type :=4,pos := "law.go:155",after := #[{on :=28,ground :=Go.Ground.chain},{on :=28,ground :=Go.Ground.guard}],guard :=some (28,false)}) rfl (fun K hK=> ?_) AllReadyH.nil)
  go_simp
  (go_at_call 12;go_fit (HSc _ (((((((Below.refl V.heap.size V).drew).trans (hb1.mono ((Below.refl V.heap.size V).drew).size)).trans (hb2.mono (((Below.refl V.heap.size V).drew).trans (hb1.mono ((Below.refl V.heap.size V).drew).size)).size)).trans (hb3.mono ((((Below.refl V.heap.size V).drew).trans (hb1.mono ((Below.refl V.heap.size V).drew).size)).trans (hb2.mono (((Below.refl V.heap.size V).drew).trans (hb1.mono ((Below.refl V.heap.size V).drew).size)).size)).size)).trans (hb4.mono (((((Below.refl V.heap.size V).drew).trans (hb1.mono ((Below.refl V.heap.size V).drew).size)).trans (hb2.mono (((Below.refl V.heap.size V).drew).trans (hb1.mono ((Below.refl V.heap.size V).drew).size)).size)).trans (hb3.mono ((((Below.refl V.heap.size V).drew).trans (hb1.mono ((Below.refl V.heap.size V).drew).size)).trans (hb2.mono (((Below.refl V.heap.size V).drew).trans (hb1.mono ((Below.refl V.heap.size V).drew).size)).size)).size)).size)).trans (hb5.mono ((((((Below.refl V.heap.size V).drew).trans (hb1.mono ((Below.refl V.heap.size V).drew).size)).trans (hb2.mono (((Below.refl V.heap.size V).drew).trans (hb1.mono ((Below.refl V.heap.size V).drew).size)).size)).trans (hb3.mono ((((Below.refl V.heap.size V).drew).trans (hb1.mono ((Below.refl V.heap.size V).drew).size)).trans (hb2.mono (((Below.refl V.heap.size V).drew).trans (hb1.mono ((Below.refl V.heap.size V).drew).size)).size)).size)).trans (hb4.mono (((((Below.refl V.heap.size V).drew).trans (hb1.mono ((Below.refl V.heap.size V).drew).size)).trans (hb2.mono (((Below.refl V.heap.size V).drew).trans (hb1.mono ((Below.refl V.heap.size V).drew).size)).size)).trans (hb3.mono ((((Below.refl V.heap.size V).drew).trans (hb1.mono ((Below.refl V.heap.size V).drew).size)).trans (hb2.mono (((Below.refl V.heap.size V).drew).trans (hb1.mono ((Below.refl V.heap.size V).drew).size)).size)).size)).size)).size)));rintro e U6 ⟨rfl,hb6⟩)
  go_wp2_with fail
  refine hK.out _ _ ?_ (fun hHeld=> ?_)
  ·exact ((((((((Below.refl V.heap.size V).drew).trans (hb1.mono ((Below.refl V.heap.size V).drew).size)).trans (hb2.mono (((Below.refl V.heap.size V).drew).trans (hb1.mono ((Below.refl V.heap.size V).drew).size)).size)).trans (hb3.mono ((((Below.refl V.heap.size V).drew).trans (hb1.mono ((Below.refl V.heap.size V).drew).size)).trans (hb2.mono (((Below.refl V.heap.size V).drew).trans (hb1.mono ((Below.refl V.heap.size V).drew).size)).size)).size)).trans (hb4.mono (((((Below.refl V.heap.size V).drew).trans (hb1.mono ((Below.refl V.heap.size V).drew).size)).trans (hb2.mono (((Below.refl V.heap.size V).drew).trans (hb1.mono ((Below.refl V.heap.size V).drew).size)).size)).trans (hb3.mono ((((Below.refl V.heap.size V).drew).trans (hb1.mono ((Below.refl V.heap.size V).drew).size)).trans (hb2.mono (((Below.refl V.heap.size V).drew).trans (hb1.mono ((Below.refl V.heap.size V).drew).size)).size)).size)).size)).trans (hb5.mono ((((((Below.refl V.heap.size V).drew).trans (hb1.mono ((Below.refl V.heap.size V).drew).size)).trans (hb2.mono (((Below.refl V.heap.size V).drew).trans (hb1.mono ((Below.refl V.heap.size V).drew).size)).size)).trans (hb3.mono ((((Below.refl V.heap.size V).drew).trans (hb1.mono ((Below.refl V.heap.size V).drew).size)).trans (hb2.mono (((Below.refl V.heap.size V).drew).trans (hb1.mono ((Below.refl V.heap.size V).drew).size)).size)).size)).trans (hb4.mono (((((Below.refl V.heap.size V).drew).trans (hb1.mono ((Below.refl V.heap.size V).drew).size)).trans (hb2.mono (((Below.refl V.heap.size V).drew).trans (hb1.mono ((Below.refl V.heap.size V).drew).size)).size)).trans (hb3.mono ((((Below.refl V.heap.size V).drew).trans (hb1.mono ((Below.refl V.heap.size V).drew).size)).trans (hb2.mono (((Below.refl V.heap.size V).drew).trans (hb1.mono ((Below.refl V.heap.size V).drew).size)).size)).size)).size)).size)).trans (hb6.mono (((((((Below.refl V.heap.size V).drew).trans (hb1.mono ((Below.refl V.heap.size V).drew).size)).trans (hb2.mono (((Below.refl V.heap.size V).drew).trans (hb1.mono ((Below.refl V.heap.size V).drew).size)).size)).trans (hb3.mono ((((Below.refl V.heap.size V).drew).trans (hb1.mono ((Below.refl V.heap.size V).drew).size)).trans (hb2.mono (((Below.refl V.heap.size V).drew).trans (hb1.mono ((Below.refl V.heap.size V).drew).size)).size)).size)).trans (hb4.mono (((((Below.refl V.heap.size V).drew).trans (hb1.mono ((Below.refl V.heap.size V).drew).size)).trans (hb2.mono (((Below.refl V.heap.size V).drew).trans (hb1.mono ((Below.refl V.heap.size V).drew).size)).size)).trans (hb3.mono ((((Below.refl V.heap.size V).drew).trans (hb1.mono ((Below.refl V.heap.size V).drew).size)).trans (hb2.mono (((Below.refl V.heap.size V).drew).trans (hb1.mono ((Below.refl V.heap.size V).drew).size)).size)).size)).size)).trans (hb5.mono ((((((Below.refl V.heap.size V).drew).trans (hb1.mono ((Below.refl V.heap.size V).drew).size)).trans (hb2.mono (((Below.refl V.heap.size V).drew).trans (hb1.mono ((Below.refl V.heap.size V).drew).size)).size)).trans (hb3.mono ((((Below.refl V.heap.size V).drew).trans (hb1.mono ((Below.refl V.heap.size V).drew).size)).trans (hb2.mono (((Below.refl V.heap.size V).drew).trans (hb1.mono ((Below.refl V.heap.size V).drew).size)).size)).size)).trans (hb4.mono (((((Below.refl V.heap.size V).drew).trans (hb1.mono ((Below.refl V.heap.size V).drew).size)).trans (hb2.mono (((Below.refl V.heap.size V).drew).trans (hb1.mono ((Below.refl V.heap.size V).drew).size)).size)).trans (hb3.mono ((((Below.refl V.heap.size V).drew).trans (hb1.mono ((Below.refl V.heap.size V).drew).size)).trans (hb2.mono (((Below.refl V.heap.size V).drew).trans (hb1.mono ((Below.refl V.heap.size V).drew).size)).size)).size)).size)).size)).size))
  clear hK K
  try simp only [Act.put,List.setIfInBounds_toArray,List.set_cons_zero,List.set_cons_succ]
  refine wpAnyH_take (i :=30) (oi := {dst :=some 63,op :=Go.Op.unOp Go.UnOp.not 4 (Go.Operand.tmp 62),type :=4,pos := "law.go:155",after := #[{on :=29,ground :=Go.Ground.data},{on :=28,ground :=Go.Ground.guard}],guard :=some (28,false)}) (v := ?_) rfl (by kernel_rfl) (by kernel_rfl) (by kernel_rfl) (fun _ _ _ h=>h) (Or.inl ⟨by rfl, ?_⟩) (by assumption) ?_
  rotate_left
  ·intro w hSw;(try dsimp only at hSw);go_simp;all_goals (with_reducible rfl)
  try simp only [Act.put,List.setIfInBounds_toArray,List.set_cons_zero,List.set_cons_succ]
  refine wpAnyH_take (i :=31) (oi := {dst :=some 64,op :=Go.Op.pick (Go.Operand.tmp 61) (Go.Operand.const (Go.Value.bool true)) (Go.Operand.tmp 63),type :=4,pos := "law.go:155",after := #[{on :=28,ground :=Go.Ground.data},{on :=30,ground :=Go.Ground.data}],guard :=none}) (v := ?_) rfl (by kernel_rfl) (by kernel_rfl) (by kernel_rfl) (fun _ _ _ h=>h) (Or.inl ⟨by rfl, ?_⟩) (by assumption) ?_
  rotate_left
  ·intro w hSw;(try dsimp only at hSw);go_simp;all_goals (with_reducible rfl)
  try simp only [Act.put,List.setIfInBounds_toArray,List.set_cons_zero,List.set_cons_succ]
  refine wpAnyH_done (by kernel_rfl) ?_ _
  go_wp2_with fail
  go_meet
  case rel=>exact ⟨rfl,((((((((Below.refl V.heap.size V).drew).trans (hb1.mono ((Below.refl V.heap.size V).drew).size)).trans (hb2.mono (((Below.refl V.heap.size V).drew).trans (hb1.mono ((Below.refl V.heap.size V).drew).size)).size)).trans (hb3.mono ((((Below.refl V.heap.size V).drew).trans (hb1.mono ((Below.refl V.heap.size V).drew).size)).trans (hb2.mono (((Below.refl V.heap.size V).drew).trans (hb1.mono ((Below.refl V.heap.size V).drew).size)).size)).size)).trans (hb4.mono (((((Below.refl V.heap.size V).drew).trans (hb1.mono ((Below.refl V.heap.size V).drew).size)).trans (hb2.mono (((Below.refl V.heap.size V).drew).trans (hb1.mono ((Below.refl V.heap.size V).drew).size)).size)).trans (hb3.mono ((((Below.refl V.heap.size V).drew).trans (hb1.mono ((Below.refl V.heap.size V).drew).size)).trans (hb2.mono (((Below.refl V.heap.size V).drew).trans (hb1.mono ((Below.refl V.heap.size V).drew).size)).size)).size)).size)).trans (hb5.mono ((((((Below.refl V.heap.size V).drew).trans (hb1.mono ((Below.refl V.heap.size V).drew).size)).trans (hb2.mono (((Below.refl V.heap.size V).drew).trans (hb1.mono ((Below.refl V.heap.size V).drew).size)).size)).trans (hb3.mono ((((Below.refl V.heap.size V).drew).trans (hb1.mono ((Below.refl V.heap.size V).drew).size)).trans (hb2.mono (((Below.refl V.heap.size V).drew).trans (hb1.mono ((Below.refl V.heap.size V).drew).size)).size)).size)).trans (hb4.mono (((((Below.refl V.heap.size V).drew).trans (hb1.mono ((Below.refl V.heap.size V).drew).size)).trans (hb2.mono (((Below.refl V.heap.size V).drew).trans (hb1.mono ((Below.refl V.heap.size V).drew).size)).size)).trans (hb3.mono ((((Below.refl V.heap.size V).drew).trans (hb1.mono ((Below.refl V.heap.size V).drew).size)).trans (hb2.mono (((Below.refl V.heap.size V).drew).trans (hb1.mono ((Below.refl V.heap.size V).drew).size)).size)).size)).size)).size)).trans (hb6.mono (((((((Below.refl V.heap.size V).drew).trans (hb1.mono ((Below.refl V.heap.size V).drew).size)).trans (hb2.mono (((Below.refl V.heap.size V).drew).trans (hb1.mono ((Below.refl V.heap.size V).drew).size)).size)).trans (hb3.mono ((((Below.refl V.heap.size V).drew).trans (hb1.mono ((Below.refl V.heap.size V).drew).size)).trans (hb2.mono (((Below.refl V.heap.size V).drew).trans (hb1.mono ((Below.refl V.heap.size V).drew).size)).size)).size)).trans (hb4.mono (((((Below.refl V.heap.size V).drew).trans (hb1.mono ((Below.refl V.heap.size V).drew).size)).trans (hb2.mono (((Below.refl V.heap.size V).drew).trans (hb1.mono ((Below.refl V.heap.size V).drew).size)).size)).trans (hb3.mono ((((Below.refl V.heap.size V).drew).trans (hb1.mono ((Below.refl V.heap.size V).drew).size)).trans (hb2.mono (((Below.refl V.heap.size V).drew).trans (hb1.mono ((Below.refl V.heap.size V).drew).size)).size)).size)).size)).trans (hb5.mono ((((((Below.refl V.heap.size V).drew).trans (hb1.mono ((Below.refl V.heap.size V).drew).size)).trans (hb2.mono (((Below.refl V.heap.size V).drew).trans (hb1.mono ((Below.refl V.heap.size V).drew).size)).size)).trans (hb3.mono ((((Below.refl V.heap.size V).drew).trans (hb1.mono ((Below.refl V.heap.size V).drew).size)).trans (hb2.mono (((Below.refl V.heap.size V).drew).trans (hb1.mono ((Below.refl V.heap.size V).drew).size)).size)).size)).trans (hb4.mono (((((Below.refl V.heap.size V).drew).trans (hb1.mono ((Below.refl V.heap.size V).drew).size)).trans (hb2.mono (((Below.refl V.heap.size V).drew).trans (hb1.mono ((Below.refl V.heap.size V).drew).size)).size)).trans (hb3.mono ((((Below.refl V.heap.size V).drew).trans (hb1.mono ((Below.refl V.heap.size V).drew).size)).trans (hb2.mono (((Below.refl V.heap.size V).drew).trans (hb1.mono ((Below.refl V.heap.size V).drew).size)).size)).size)).size)).size)).size))⟩
 case rest=>
  obtain ⟨rfl,hb5⟩ :=hcut
  go_wp2_with fail
  refine HK1.out _ _ ?_
  exact Ym ct st o tv iv arr w wc pd px pa pb dv xa aa ba (HH.out.below hb5) HO HF HEN.out _ _ _ _ (by kernel_rfl)
end Go.Proofs.YtmgkcjiejmhgcaaGreatDoor


/-
  1 texts of this proof in one, in build order: BLawE.
-/
import Derived.Deep.CutRange
import Derived.Deep.CutBlock
import Derived.Deep.DeepCutAuto
import Derived.BigQuiet
import Derived.Deep.RegionHeld3
import Derived.Test.YtmgkcjiejmhgcaaGreatDoorJ40
set_option linter.unusedSimpArgs false
set_option linter.unusedVariables false
namespace Go.Proofs.YtmgkcjiejmhgcaaGreatDoor
open Go.RowKit Go.Maps
structure LwSt (ct :CatD) (st :Stm) (o :Except Int Stm) (tv iv :Value) (arr :Array Value) (w V :World) (pd px pa pb :Nat) (dv xa aa ba :Array Value) :Prop where
 bel :Below w.heap.size w V
 hC :HasC V w.heap.size #[tv,iv] ct
 hS :HasS V (w.heap.size+1) arr st
 hD :HasC V pd dv ct
 hX :HasS V px xa st
 hA :HasS V pa aa (Us o)
 hB :HasS V pb ba (Us o)
theorem LwSt.below {ct :CatD} {st :Stm} {o :Except Int Stm} {tv iv :Value} {arr :Array Value} {w V V' :World} {pd px pa pb :Nat} {dv xa aa ba :Array Value} (h :LwSt ct st o tv iv arr w V pd px pa pb dv xa aa ba) (hb :Below V.heap.size V V') :LwSt ct st o tv iv arr w V' pd px pa pb dv xa aa ba :=
 ⟨h.bel.trans (hb.mono h.bel.size),h.hC.below hb,h.hS.below hb,h.hD.below hb,h.hX.below hb,h.hA.below hb,h.hB.below hb⟩
@[reducible] def frmL (n pd px pa pb :Nat) (e :Int) (q0 q1 q4 :Value) (l :List Value) :Array Value :=
 (q0 ::q1 :: .pointer (some ⟨n,0,none⟩) :: .pointer (some ⟨n+1,0,none⟩) ::q4 :: .pointer (some ⟨pd,0,none⟩) :: .pointer (some ⟨px,0,none⟩) :: .pointer (some ⟨pa,0,none⟩) :: .int .i64 e :: .pointer (some ⟨pb,0,none⟩) :: .int .i64 e ::l).toArray
abbrev Uw (w :World) :Ending→World→Prop :=fun r w'=>r= .returned (.bool true) ∧Below w.heap.size w w'
theorem Nj {V :World} {p :Nat} {arr :Array Value} {st :Stm} (h :HasS V p arr st) :V.cell? ⟨p,2,none⟩ =some (.string st.table) ∧V.cell? ⟨p,3,none⟩ =some (.string st.col) :=by
 obtain ⟨o1,c1,o2,c2,o3,c3,o4,c4,o5,c5,op,xk,xn,xs,s,nmv,n8,o6,k6,c6,o7,c7,harr,_⟩ :=Cy h.is
 obtain rfl :=Array.toList_inj.1 harr
 exact ⟨Aa h.blk rfl,Aa h.blk rfl⟩
theorem Z0 {F :Nat→Prop} {w :World} {ao :Option Addr} {n c :Nat} {l :List TabD} (h :IsL A4 F w (.slice ao n c) l) {k :Nat} {t :TabD} (hx :l[k]? =some t) : ∃b off to' tl tk,ao=some ⟨b,off,none⟩ ∧w.rangeAt b (off+k*2) [.string t.name, .slice to' tl tk] ∧IsL Bg F w (.slice to' tl tk) t.cols :=by
 obtain ⟨b,off,cs,h1,_,_,h4,h5⟩ :=Av h hx
 obtain ⟨sv,rfl,hl⟩ :=h4
 obtain ⟨to',tk,rfl⟩ :=hl.shape
 exact ⟨b,off,to',_,tk,h1,h5,hl⟩
theorem Rz {ct :CatD} (h :Cq ct=true) :Dj (ct.tables.map TabD.name) ∧Dj (ct.indexes.map IdxD.name) :=by
 obtain ⟨_,_,_,h1,_,h2⟩ := (Rs ct).1 h
 exact ⟨h1,h2⟩
theorem Yj {ct :CatD} {st s2 :Stm} {tv iv :Value} {arr :Array Value} {w V :World} {pd px pa pb :Nat} {dv xa aa ba :Array Value} (h :LwSt ct st (.ok s2) tv iv arr w V pd px pa pb dv xa aa ba) (hcb :Cq ct=true) {U :World} (hb :Below V.heap.size V U) :
  Calls Tryz.prog 19 #[.agg dv, .agg aa] U fun e w'=> ∃v,e= .returned v∧Bh (fun k=>k<w'.heap.size) w' (Jg ct s2) v∧Below U.heap.size U w' :=by
 obtain ⟨r1,r2⟩ :=Rz hcb
 have :=X6 ct (.agg dv) s2 aa.toList V.heap.size U (h.hD.at hb) (h.hA.at hb) hb.size (Nat.le_trans (Iz hcb).1 (by decide)) (Nat.le_trans (Iz hcb).2 (by decide)) r1 r2
 rw [Array.toArray_toList] at this
 exact this.mono fun _ _ ⟨v,e,h1,h2⟩ => ⟨v,e,h1.mono fun _ hk _=>hk,h2⟩
theorem Wu {ct :CatD} {st s2 :Stm} {tv iv :Value} {arr :Array Value} {w V :World} {pd px pa pb :Nat} {dv xa aa ba :Array Value} (h :LwSt ct st (.ok s2) tv iv arr w V pd px pa pb dv xa aa ba) (hcb :Cq ct=true) {U :World} (hb :Below V.heap.size V U) :
  Calls Tryz.prog 20 #[.agg #[tv,iv], .agg ba] U fun e w'=> ∃v,e= .returned v∧Bh (fun k=>k<w'.heap.size) w' (Jg ct s2) v∧Below U.heap.size U w' :=by
 obtain ⟨r1,r2⟩ :=Rz hcb
 have :=Tc ct.tables ct.indexes (.agg #[tv,iv]) s2 ba.toList V.heap.size U (h.hC.at hb) (h.hB.at hb) hb.size (Nat.le_trans (Iz hcb).1 (by decide)) (Nat.le_trans (Iz hcb).2 (by decide)) r1 r2
 rw [Array.toArray_toList] at this
 exact this.mono fun _ _ ⟨v,e,h1,h2⟩ => ⟨v,e,h1.mono fun _ hk _=>hk,h2⟩
set_option maxRecDepth 100000 in
set_option maxHeartbeats 8000000 in
theorem Z1 (ct :CatD) (st :Stm) (o :Except Int Stm) (tv iv :Value) (arr :Array Value) (w V :World) (pd px pa pb :Nat) (dv xa aa ba :Array Value) (h :LwSt ct st o tv iv arr w V pd px pa pb dv xa aa ba) (HO :Hid (o=Bw ct st)) (HF :Hid (LwFit ct st)) (q0 q1 q4 :Value) (l :List Value) (hll :l.length=115) :
  Code.wp Tryz.prog (Db 6 (C4 Tryz.f3)) (bodyPost Tryz.prog Tryz.f3 (Uw w)) ⟨frmL w.heap.size pd px pa pb (Ie o) q0 q1 q4 l,[]⟩ V :=by
 obtain ⟨q,rfl⟩ :=lay hll
 clear hll
 have hs1 := (El (show IsL A4 _ V tv ct.tables by obtain ⟨_,_,e,h1,_⟩ :=h.hC.is;cases e;exact h1))
 have hT1 : ∀U,Below V.heap.size V U→Calls Tryz.prog 17 #[.agg dv, .string st.table] U fun r w'=> ∃ao n c,r= .returned (.tuple #[.agg #[.string (Dr ct.tables st.table), .slice ao n c], .bool (A5 ct.tables st.table).isSome]) ∧Below U.heap.size U w' :=fun U hb=>by
  obtain ⟨a,b,e,h1,h2⟩ :=h.hD.at hb
  rw [e]
  exact (Ia ct.tables a b (by obtain ⟨io,ic,rfl⟩ :=h2.shape;exact ⟨_,_,_,rfl⟩) st.table _ U h1 hb.size).mono fun _ _ h=>Ry h
 have hT2 : ∀U,Below V.heap.size V U→Calls Tryz.prog 18 #[.agg #[tv,iv], .string st.table] U fun r w'=> ∃ao n c,r= .returned (.tuple #[.agg #[.string (Dr ct.tables st.table), .slice ao n c], .bool (A5 ct.tables st.table).isSome]) ∧Below U.heap.size U w' :=fun U hb=>by
  obtain ⟨a,b,e,h1,h2⟩ :=h.hC.at hb
  cases e
  exact (F8 ct.tables tv iv (by obtain ⟨io,ic,rfl⟩ :=h2.shape;exact ⟨_,_,_,rfl⟩) st.table _ U h1 hb.size).mono fun _ _ h=>Ry h
 have k2 := (Nj h.hS).1
 have hDb :=h.hD
 have hCb :=h.hC
 have HT :=hT1 V (Below.refl _ _)
 conv=>arg 2;whnf
 simp only [frmL,List.range,List.range.loop,List.map]
 go_upto_region 13 with (first | (refine wpList_load_row rfl 25 _ rfl pd ?_ 25 _ (0,0) _ hDb.blk Tryz.underlying25 ?_ ?_ ?_;exact rfl;exact rfl;exact hDb.info) | (go_at_call 17;go_fit HT;rintro e U ⟨ao,n,c,rfl,hb1⟩))
 have hbA :=hb1.trans ((Aq U (.cells #[.string (Dr ct.tables st.table), .slice ao n c] 47)).mono hb1.size)
 have n1 : (U.alloc (.cells #[.string (Dr ct.tables st.table), .slice ao n c] 47)).cell? ⟨U.heap.size,0,none⟩ =some (.string (Dr ct.tables st.table)) :=Aa (Ab _ _) rfl
 have n1l :U.heap.size< (U.alloc (.cells #[.string (Dr ct.tables st.table), .slice ao n c] 47)).heap.size :=by simp
 generalize hV2 :U.alloc (.cells #[.string (Dr ct.tables st.table), .slice ao n c] 47) =V2 at*
 generalize U.heap.size=pt at*
 have k2 := (Nj (h.hS.below hbA)).1
 have hCb :=h.hC.below hbA
 have HT :=hT2 V2 hbA
 clear hV2 hb1 hDb
 go_upto_region 14 with (first | (refine wpList_load_row rfl 25 _ rfl w.heap.size ?_ 25 _ (0,0) _ hCb.blk Tryz.underlying25 ?_ ?_ ?_;exact rfl;exact rfl;exact hCb.info) | (go_at_call 18;go_fit HT;rintro e U2 ⟨ao2,m2,c2,rfl,hb2⟩))
 have hbB :=hbA.trans ((hb2.trans ((Aq U2 (.cells #[.string (Dr ct.tables st.table), .slice ao2 m2 c2] 47)).mono hb2.size)).mono hbA.size)
 have hb23 :=hb2.trans ((Aq U2 (.cells #[.string (Dr ct.tables st.table), .slice ao2 m2 c2] 47)).mono hb2.size)
 have n2 : (U2.alloc (.cells #[.string (Dr ct.tables st.table), .slice ao2 m2 c2] 47)).cell? ⟨U2.heap.size,0,none⟩ =some (.string (Dr ct.tables st.table)) :=Aa (Ab _ _) rfl
 have n2l :U2.heap.size< (U2.alloc (.cells #[.string (Dr ct.tables st.table), .slice ao2 m2 c2] 47)).heap.size :=by simp
 have n1 := (hb23.cell (p := ⟨pt,0,none⟩) n1l).trans n1
 have n1l :=Nat.lt_of_lt_of_le n1l hb23.size
 have h :=h.below hbB
 generalize hV3 :U2.alloc (.cells #[.string (Dr ct.tables st.table), .slice ao2 m2 c2] 47) =V3 at*
 generalize U2.heap.size=pu at*
 clear hV3 hb23 hb2 hbA hbB k2 hCb HT hT1 hT2 hs1
 generalize Dr ct.tables st.table=nmx at*
 generalize (A5 ct.tables st.table).isSome=isx at*
 cases o with
 | error m=>
  have hm2 : ¬Ie (.error m) =0 :=by rcases Sy HO.out.symm with rfl | rfl | rfl | rfl | rfl<;>decide
  have hm1 : (Ie (.error m) !=0) =true :=by simpa using hm2
  obtain ⟨hbV,hC,hS,hD,hX,hA,hB⟩ :=h
  refine wp_region_held_drew (S :=Below V3.heap.size V3) (by kernel_rfl) ?_ (fun hHeld=> ?_)
  ·exact (Below.refl _ _).drew
  refine wpAnyH_take (i :=0) (oi := {dst :=some 103,op :=Go.Op.fieldAddr 47 (Go.Operand.tmp 13) 0,type :=0,pos := "law.go:165",after := #[],guard :=none}) (v := ?_) rfl (by kernel_rfl) (by kernel_rfl) (by kernel_rfl) (fun _ _ _ h=>h) (Or.inl ⟨by rfl, ?_⟩) (by assumption) ?_
  rotate_left
  ·intro w hSw;(try dsimp only at hSw);go_simp;all_goals (with_reducible rfl)
  try simp only [Act.put,List.setIfInBounds_toArray,List.set_cons_zero,List.set_cons_succ]
  refine wpAnyH_take (i :=1) (oi := {dst :=some 104,op :=Go.Op.load 9 (Go.Operand.tmp 103),type :=9,pos := "law.go:165",after := #[{on :=0,ground :=Go.Ground.data}],guard :=none}) (v := .string nmx) rfl (by kernel_rfl) (by kernel_rfl) (by kernel_rfl) (fun _ _ _ h=>h) (Or.inl ⟨by rfl, ?_⟩) (by assumption) ?_
  ·intro w1 hSw;have k3 := (hSw.cell (p := ⟨pt,0,none⟩) n1l).trans n1;go_simp;all_goals (with_reducible rfl)
  try simp only [Act.put,List.setIfInBounds_toArray,List.set_cons_zero,List.set_cons_succ]
  refine wpAnyH_take (i :=2) (oi := {dst :=some 105,op :=Go.Op.fieldAddr 47 (Go.Operand.tmp 15) 0,type :=0,pos := "law.go:165",after := #[],guard :=none}) (v := ?_) rfl (by kernel_rfl) (by kernel_rfl) (by kernel_rfl) (fun _ _ _ h=>h) (Or.inl ⟨by rfl, ?_⟩) (by assumption) ?_
  rotate_left
  ·intro w hSw;(try dsimp only at hSw);go_simp;all_goals (with_reducible rfl)
  try simp only [Act.put,List.setIfInBounds_toArray,List.set_cons_zero,List.set_cons_succ]
  refine wpAnyH_take (i :=3) (oi := {dst :=some 106,op :=Go.Op.load 9 (Go.Operand.tmp 105),type :=9,pos := "law.go:165",after := #[{on :=2,ground :=Go.Ground.data}],guard :=none}) (v := .string nmx) rfl (by kernel_rfl) (by kernel_rfl) (by kernel_rfl) (fun _ _ _ h=>h) (Or.inl ⟨by rfl, ?_⟩) (by assumption) ?_
  ·intro w1 hSw;have k3 := (hSw.cell (p := ⟨pu,0,none⟩) n2l).trans n2;go_simp;all_goals (with_reducible rfl)
  try simp only [Act.put,List.setIfInBounds_toArray,List.set_cons_zero,List.set_cons_succ]
  refine wpAnyH_take (i :=4) (oi := {dst :=some 107,op :=Go.Op.binOp Go.BinOp.eql 9 (Go.Operand.tmp 104) (Go.Operand.tmp 106) 9,type :=4,pos := "law.go:165",after := #[{on :=1,ground :=Go.Ground.data},{on :=3,ground :=Go.Ground.data}],guard :=none}) (v := .bool true) rfl (by kernel_rfl) (by kernel_rfl) (by kernel_rfl) (fun _ _ _ h=>h) (Or.inl ⟨by rfl, ?_⟩) (by assumption) ?_
  ·intro w hSw;(try dsimp only at hSw);go_simp;all_goals (first | with_reducible rfl | simp)
  try simp only [Act.put,List.setIfInBounds_toArray,List.set_cons_zero,List.set_cons_succ]
  refine wpAnyH_take (i :=5) (oi := {dst :=some 108,op :=Go.Op.move (Go.Operand.tmp 107),type :=4,pos := "law.go:165",after := #[{on :=4,ground :=Go.Ground.data}],guard :=none}) (v := ?_) rfl (by kernel_rfl) (by kernel_rfl) (by kernel_rfl) (fun _ _ _ h=>h) (Or.inl ⟨by rfl, ?_⟩) (by assumption) ?_
  rotate_left
  ·intro w hSw;(try dsimp only at hSw);go_simp;all_goals (with_reducible rfl)
  try simp only [Act.put,List.setIfInBounds_toArray,List.set_cons_zero,List.set_cons_succ]
  refine wpAnyH_take (i :=6) (oi := {dst :=some 109,op :=Go.Op.move (Go.Operand.tmp 14),type :=4,pos := "law.go:165",after := #[{on :=5,ground :=Go.Ground.guard}],guard :=some (5,true)}) (v := ?_) rfl (by kernel_rfl) (by kernel_rfl) (by kernel_rfl) (fun _ _ _ h=>h) (Or.inl ⟨by rfl, ?_⟩) (by assumption) ?_
  rotate_left
  ·intro w hSw;(try dsimp only at hSw);go_simp;all_goals (with_reducible rfl)
  try simp only [Act.put,List.setIfInBounds_toArray,List.set_cons_zero,List.set_cons_succ]
  refine wpAnyH_take (i :=7) (oi := {dst :=some 110,op :=Go.Op.move (Go.Operand.tmp 16),type :=4,pos := "law.go:165",after := #[{on :=5,ground :=Go.Ground.guard}],guard :=some (5,true)}) (v := ?_) rfl (by kernel_rfl) (by kernel_rfl) (by kernel_rfl) (fun _ _ _ h=>h) (Or.inl ⟨by rfl, ?_⟩) (by assumption) ?_
  rotate_left
  ·intro w hSw;(try dsimp only at hSw);go_simp;all_goals (with_reducible rfl)
  try simp only [Act.put,List.setIfInBounds_toArray,List.set_cons_zero,List.set_cons_succ]
  refine wpAnyH_take (i :=8) (oi := {dst :=some 111,op :=Go.Op.binOp Go.BinOp.eql 4 (Go.Operand.tmp 109) (Go.Operand.tmp 110) 4,type :=4,pos := "law.go:165",after := #[{on :=6,ground :=Go.Ground.data},{on :=7,ground :=Go.Ground.data},{on :=5,ground :=Go.Ground.guard}],guard :=some (5,true)}) (v := .bool true) rfl (by kernel_rfl) (by kernel_rfl) (by kernel_rfl) (fun _ _ _ h=>h) (Or.inl ⟨by rfl, ?_⟩) (by assumption) ?_
  ·intro w hSw;(try dsimp only at hSw);go_simp;all_goals (first | with_reducible rfl | simp)
  try simp only [Act.put,List.setIfInBounds_toArray,List.set_cons_zero,List.set_cons_succ]
  refine wpAnyH_take (i :=9) (oi := {dst :=some 112,op :=Go.Op.pick (Go.Operand.tmp 108) (Go.Operand.tmp 111) (Go.Operand.const (Go.Value.bool false)),type :=4,pos := "law.go:165",after := #[{on :=5,ground :=Go.Ground.data},{on :=8,ground :=Go.Ground.data}],guard :=none}) (v := ?_) rfl (by kernel_rfl) (by kernel_rfl) (by kernel_rfl) (fun _ _ _ h=>h) (Or.inl ⟨by rfl, ?_⟩) (by assumption) ?_
  rotate_left
  ·intro w hSw;(try dsimp only at hSw);go_simp;all_goals (with_reducible rfl)
  try simp only [Act.put,List.setIfInBounds_toArray,List.set_cons_zero,List.set_cons_succ]
  refine wpAnyH_take (i :=10) (oi := {dst :=some 113,op :=Go.Op.move (Go.Operand.tmp 112),type :=4,pos := "law.go:165",after := #[{on :=9,ground :=Go.Ground.data},{on :=5,ground :=Go.Ground.chain}],guard :=none}) (v := ?_) rfl (by kernel_rfl) (by kernel_rfl) (by kernel_rfl) (fun _ _ _ h=>h) (Or.inl ⟨by rfl, ?_⟩) (by assumption) ?_
  rotate_left
  ·intro w hSw;(try dsimp only at hSw);go_simp;all_goals (with_reducible rfl)
  try simp only [Act.put,List.setIfInBounds_toArray,List.set_cons_zero,List.set_cons_succ]
  refine wpAnyH_take (i :=11) (oi := {dst :=some 114,op :=Go.Op.move (Go.Operand.tmp 8),type :=39,pos := "law.go:165",after := #[{on :=10,ground :=Go.Ground.guard}],guard :=some (10,true)}) (v := ?_) rfl (by kernel_rfl) (by kernel_rfl) (by kernel_rfl) (fun _ _ _ h=>h) (Or.inl ⟨by rfl, ?_⟩) (by assumption) ?_
  rotate_left
  ·intro w hSw;(try dsimp only at hSw);go_simp;all_goals (with_reducible rfl)
  try simp only [Act.put,List.setIfInBounds_toArray,List.set_cons_zero,List.set_cons_succ]
  refine wpAnyH_take (i :=12) (oi := {dst :=some 115,op :=Go.Op.binOp Go.BinOp.neq 39 (Go.Operand.tmp 114) (Go.Operand.const (Go.Value.int Go.IntKind.i64 0)) 39,type :=4,pos := "law.go:165",after := #[{on :=11,ground :=Go.Ground.data},{on :=10,ground :=Go.Ground.guard}],guard :=some (10,true)}) (v := .bool true) rfl (by kernel_rfl) (by kernel_rfl) (by kernel_rfl) (fun _ _ _ h=>h) (Or.inl ⟨by rfl, ?_⟩) (by assumption) ?_
  ·intro w hSw;(try dsimp only at hSw);go_simp;all_goals (first | with_reducible rfl | exact hm1 | exact hm2)
  try simp only [Act.put,List.setIfInBounds_toArray,List.set_cons_zero,List.set_cons_succ]
  refine wpAnyH_take (i :=13) (oi := {dst :=some 116,op :=Go.Op.move (Go.Operand.tmp 115),type :=4,pos := "law.go:165",after := #[{on :=12,ground :=Go.Ground.data},{on :=10,ground :=Go.Ground.chain},{on :=10,ground :=Go.Ground.guard}],guard :=some (10,true)}) (v := ?_) rfl (by kernel_rfl) (by kernel_rfl) (by kernel_rfl) (fun _ _ _ h=>h) (Or.inl ⟨by rfl, ?_⟩) (by assumption) ?_
  rotate_left
  ·intro w hSw;(try dsimp only at hSw);go_simp;all_goals (with_reducible rfl)
  try simp only [Act.put,List.setIfInBounds_toArray,List.set_cons_zero,List.set_cons_succ]
  refine wpAnyH_take (i :=14) (oi := {dst :=some 117,op :=Go.Op.load 25 (Go.Operand.tmp 5),type :=25,pos := "law.go:165",after := #[{on :=13,ground :=Go.Ground.guard}],guard :=some (13,false)}) (v :=undef) rfl (by kernel_rfl) (by kernel_rfl) (by kernel_rfl) (fun _ _ _ h=>h) (Or.inr ⟨by rfl,rfl⟩) (by assumption) ?_
  try simp only [Act.put,List.setIfInBounds_toArray,List.set_cons_zero,List.set_cons_succ]
  refine wpAnyH_take (i :=15) (oi := {dst :=some 118,op :=Go.Op.load 36 (Go.Operand.tmp 7),type :=36,pos := "law.go:165",after := #[{on :=13,ground :=Go.Ground.guard}],guard :=some (13,false)}) (v :=undef) rfl (by kernel_rfl) (by kernel_rfl) (by kernel_rfl) (fun _ _ _ h=>h) (Or.inr ⟨by rfl,rfl⟩) (by assumption) ?_
  try simp only [Act.put,List.setIfInBounds_toArray,List.set_cons_zero,List.set_cons_succ]
  refine wpAnyH_take (i :=16) (oi := {dst :=some 119,op :=Go.Op.call {callee :=Go.Callee.value (Go.Operand.func 19),args := #[Go.Operand.tmp 117,Go.Operand.tmp 118],argTypes := #[25,36]},type :=25,pos := "law.go:165",after := #[{on :=14,ground :=Go.Ground.data},{on :=15,ground :=Go.Ground.data},{on :=13,ground :=Go.Ground.chain},{on :=13,ground :=Go.Ground.guard}],guard :=some (13,false)}) (v :=undef) rfl (by kernel_rfl) (by kernel_rfl) (by kernel_rfl) (fun _ _ _ h=>h) (Or.inr ⟨by rfl,rfl⟩) (by assumption) ?_
  try simp only [Act.put,List.setIfInBounds_toArray,List.set_cons_zero,List.set_cons_succ]
  refine wpAnyH_take (i :=17) (oi := {dst :=some 120,op :=Go.Op.load 25 (Go.Operand.tmp 2),type :=25,pos := "law.go:165",after := #[{on :=13,ground :=Go.Ground.guard}],guard :=some (13,false)}) (v :=undef) rfl (by kernel_rfl) (by kernel_rfl) (by kernel_rfl) (fun _ _ _ h=>h) (Or.inr ⟨by rfl,rfl⟩) (by assumption) ?_
  try simp only [Act.put,List.setIfInBounds_toArray,List.set_cons_zero,List.set_cons_succ]
  refine wpAnyH_take (i :=18) (oi := {dst :=some 121,op :=Go.Op.load 36 (Go.Operand.tmp 9),type :=36,pos := "law.go:165",after := #[{on :=13,ground :=Go.Ground.guard}],guard :=some (13,false)}) (v :=undef) rfl (by kernel_rfl) (by kernel_rfl) (by kernel_rfl) (fun _ _ _ h=>h) (Or.inr ⟨by rfl,rfl⟩) (by assumption) ?_
  try simp only [Act.put,List.setIfInBounds_toArray,List.set_cons_zero,List.set_cons_succ]
  refine wpAnyH_take (i :=19) (oi := {dst :=some 122,op :=Go.Op.call {callee :=Go.Callee.value (Go.Operand.func 20),args := #[Go.Operand.tmp 120,Go.Operand.tmp 121],argTypes := #[25,36]},type :=25,pos := "law.go:165",after := #[{on :=17,ground :=Go.Ground.data},{on :=18,ground :=Go.Ground.data},{on :=16,ground :=Go.Ground.chain},{on :=13,ground :=Go.Ground.guard}],guard :=some (13,false)}) (v :=undef) rfl (by kernel_rfl) (by kernel_rfl) (by kernel_rfl) (fun _ _ _ h=>h) (Or.inr ⟨by rfl,rfl⟩) (by assumption) ?_
  try simp only [Act.put,List.setIfInBounds_toArray,List.set_cons_zero,List.set_cons_succ]
  refine wpAnyH_take (i :=20) (oi := {dst :=some 123,op :=Go.Op.call {callee :=Go.Callee.value (Go.Operand.func 11),args := #[Go.Operand.tmp 119,Go.Operand.tmp 122],argTypes := #[25,25]},type :=4,pos := "law.go:165",after := #[{on :=16,ground :=Go.Ground.data},{on :=19,ground :=Go.Ground.data},{on :=19,ground :=Go.Ground.chain},{on :=13,ground :=Go.Ground.guard}],guard :=some (13,false)}) (v :=undef) rfl (by kernel_rfl) (by kernel_rfl) (by kernel_rfl) (fun _ _ _ h=>h) (Or.inr ⟨by rfl,rfl⟩) (by assumption) ?_
  try simp only [Act.put,List.setIfInBounds_toArray,List.set_cons_zero,List.set_cons_succ]
  refine wpAnyH_take (i :=21) (oi := {dst :=some 124,op :=Go.Op.pick (Go.Operand.tmp 116) (Go.Operand.const (Go.Value.bool true)) (Go.Operand.tmp 123),type :=4,pos := "law.go:165",after := #[{on :=13,ground :=Go.Ground.data},{on :=20,ground :=Go.Ground.data},{on :=10,ground :=Go.Ground.guard}],guard :=some (10,true)}) (v := ?_) rfl (by kernel_rfl) (by kernel_rfl) (by kernel_rfl) (fun _ _ _ h=>h) (Or.inl ⟨by rfl, ?_⟩) (by assumption) ?_
  rotate_left
  ·intro w hSw;(try dsimp only at hSw);go_simp;all_goals (with_reducible rfl)
  try simp only [Act.put,List.setIfInBounds_toArray,List.set_cons_zero,List.set_cons_succ]
  refine wpAnyH_take (i :=22) (oi := {dst :=some 125,op :=Go.Op.pick (Go.Operand.tmp 113) (Go.Operand.tmp 124) (Go.Operand.const (Go.Value.bool false)),type :=4,pos := "law.go:165",after := #[{on :=10,ground :=Go.Ground.data},{on :=21,ground :=Go.Ground.data}],guard :=none}) (v := ?_) rfl (by kernel_rfl) (by kernel_rfl) (by kernel_rfl) (fun _ _ _ h=>h) (Or.inl ⟨by rfl, ?_⟩) (by assumption) ?_
  rotate_left
  ·intro w hSw;(try dsimp only at hSw);go_simp;all_goals (with_reducible rfl)
  try simp only [Act.put,List.setIfInBounds_toArray,List.set_cons_zero,List.set_cons_succ]
  refine wpAnyH_take (i :=23) (oi := {dst :=some 4,op :=Go.Op.assign (Go.Operand.tmp 125),type :=4,pos := "law.go:165",after := #[{on :=22,ground :=Go.Ground.data},{on :=20,ground :=Go.Ground.chain},{on :=0,ground :=Go.Ground.phase},{on :=1,ground :=Go.Ground.phase},{on :=2,ground :=Go.Ground.phase},{on :=3,ground :=Go.Ground.phase},{on :=4,ground :=Go.Ground.phase},{on :=5,ground :=Go.Ground.phase},{on :=6,ground :=Go.Ground.phase},{on :=7,ground :=Go.Ground.phase},{on :=8,ground :=Go.Ground.phase},{on :=9,ground :=Go.Ground.phase},{on :=10,ground :=Go.Ground.phase},{on :=11,ground :=Go.Ground.phase},{on :=12,ground :=Go.Ground.phase},{on :=13,ground :=Go.Ground.phase},{on :=14,ground :=Go.Ground.phase},{on :=15,ground :=Go.Ground.phase},{on :=16,ground :=Go.Ground.phase},{on :=17,ground :=Go.Ground.phase},{on :=18,ground :=Go.Ground.phase},{on :=19,ground :=Go.Ground.phase},{on :=20,ground :=Go.Ground.phase},{on :=21,ground :=Go.Ground.phase},{on :=22,ground :=Go.Ground.phase}],guard :=none}) (v := ?_) rfl (by kernel_rfl) (by kernel_rfl) (by kernel_rfl) (fun _ _ _ h=>h) (Or.inl ⟨by rfl, ?_⟩) (by assumption) ?_
  rotate_left
  ·intro w hSw;(try dsimp only at hSw);go_simp;all_goals (with_reducible rfl)
  try simp only [Act.put,List.setIfInBounds_toArray,List.set_cons_zero,List.set_cons_succ]
  refine wpAnyH_done (by kernel_rfl) ?_ _
  go_wp2_with fail
  go_ret
  exact ⟨rfl,hbV.trans (((Below.refl V3.heap.size V3).drew).mono hbV.size)⟩
 | ok s2=>
  have hcb :=Uv HO.out.symm
  have hm2 :Ie (.ok s2) =0 :=rfl
  have hm1 : (Ie (.ok s2) !=0) =false :=rfl
  have HW :=fun U (hb :Below V3.heap.size V3 U) =>Yj h hcb hb
  have HV :=fun U (hb :Below V3.heap.size V3 U) =>Wu h hcb hb
  obtain ⟨hbV,hC,hS,hD,hX,hA,hB⟩ :=h
  refine wp_region_held_drew (S :=Below V3.heap.size V3) (by kernel_rfl) ?_ (fun hHeld=> ?_)
  ·exact (Below.refl _ _).drew
  refine wpAnyH_take (i :=0) (oi := {dst :=some 103,op :=Go.Op.fieldAddr 47 (Go.Operand.tmp 13) 0,type :=0,pos := "law.go:165",after := #[],guard :=none}) (v := ?_) rfl (by kernel_rfl) (by kernel_rfl) (by kernel_rfl) (fun _ _ _ h=>h) (Or.inl ⟨by rfl, ?_⟩) (by assumption) ?_
  rotate_left
  ·intro w hSw;(try dsimp only at hSw);go_simp;all_goals (with_reducible rfl)
  try simp only [Act.put,List.setIfInBounds_toArray,List.set_cons_zero,List.set_cons_succ]
  refine wpAnyH_take (i :=1) (oi := {dst :=some 104,op :=Go.Op.load 9 (Go.Operand.tmp 103),type :=9,pos := "law.go:165",after := #[{on :=0,ground :=Go.Ground.data}],guard :=none}) (v := .string nmx) rfl (by kernel_rfl) (by kernel_rfl) (by kernel_rfl) (fun _ _ _ h=>h) (Or.inl ⟨by rfl, ?_⟩) (by assumption) ?_
  ·intro w1 hSw;have k3 := (hSw.cell (p := ⟨pt,0,none⟩) n1l).trans n1;go_simp;all_goals (with_reducible rfl)
  try simp only [Act.put,List.setIfInBounds_toArray,List.set_cons_zero,List.set_cons_succ]
  refine wpAnyH_take (i :=2) (oi := {dst :=some 105,op :=Go.Op.fieldAddr 47 (Go.Operand.tmp 15) 0,type :=0,pos := "law.go:165",after := #[],guard :=none}) (v := ?_) rfl (by kernel_rfl) (by kernel_rfl) (by kernel_rfl) (fun _ _ _ h=>h) (Or.inl ⟨by rfl, ?_⟩) (by assumption) ?_
  rotate_left
  ·intro w hSw;(try dsimp only at hSw);go_simp;all_goals (with_reducible rfl)
  try simp only [Act.put,List.setIfInBounds_toArray,List.set_cons_zero,List.set_cons_succ]
  refine wpAnyH_take (i :=3) (oi := {dst :=some 106,op :=Go.Op.load 9 (Go.Operand.tmp 105),type :=9,pos := "law.go:165",after := #[{on :=2,ground :=Go.Ground.data}],guard :=none}) (v := .string nmx) rfl (by kernel_rfl) (by kernel_rfl) (by kernel_rfl) (fun _ _ _ h=>h) (Or.inl ⟨by rfl, ?_⟩) (by assumption) ?_
  ·intro w1 hSw;have k3 := (hSw.cell (p := ⟨pu,0,none⟩) n2l).trans n2;go_simp;all_goals (with_reducible rfl)
  try simp only [Act.put,List.setIfInBounds_toArray,List.set_cons_zero,List.set_cons_succ]
  refine wpAnyH_take (i :=4) (oi := {dst :=some 107,op :=Go.Op.binOp Go.BinOp.eql 9 (Go.Operand.tmp 104) (Go.Operand.tmp 106) 9,type :=4,pos := "law.go:165",after := #[{on :=1,ground :=Go.Ground.data},{on :=3,ground :=Go.Ground.data}],guard :=none}) (v := .bool true) rfl (by kernel_rfl) (by kernel_rfl) (by kernel_rfl) (fun _ _ _ h=>h) (Or.inl ⟨by rfl, ?_⟩) (by assumption) ?_
  ·intro w hSw;(try dsimp only at hSw);go_simp;all_goals (first | with_reducible rfl | simp)
  try simp only [Act.put,List.setIfInBounds_toArray,List.set_cons_zero,List.set_cons_succ]
  refine wpAnyH_take (i :=5) (oi := {dst :=some 108,op :=Go.Op.move (Go.Operand.tmp 107),type :=4,pos := "law.go:165",after := #[{on :=4,ground :=Go.Ground.data}],guard :=none}) (v := ?_) rfl (by kernel_rfl) (by kernel_rfl) (by kernel_rfl) (fun _ _ _ h=>h) (Or.inl ⟨by rfl, ?_⟩) (by assumption) ?_
  rotate_left
  ·intro w hSw;(try dsimp only at hSw);go_simp;all_goals (with_reducible rfl)
  try simp only [Act.put,List.setIfInBounds_toArray,List.set_cons_zero,List.set_cons_succ]
  refine wpAnyH_take (i :=6) (oi := {dst :=some 109,op :=Go.Op.move (Go.Operand.tmp 14),type :=4,pos := "law.go:165",after := #[{on :=5,ground :=Go.Ground.guard}],guard :=some (5,true)}) (v := ?_) rfl (by kernel_rfl) (by kernel_rfl) (by kernel_rfl) (fun _ _ _ h=>h) (Or.inl ⟨by rfl, ?_⟩) (by assumption) ?_
  rotate_left
  ·intro w hSw;(try dsimp only at hSw);go_simp;all_goals (with_reducible rfl)
  try simp only [Act.put,List.setIfInBounds_toArray,List.set_cons_zero,List.set_cons_succ]
  refine wpAnyH_take (i :=7) (oi := {dst :=some 110,op :=Go.Op.move (Go.Operand.tmp 16),type :=4,pos := "law.go:165",after := #[{on :=5,ground :=Go.Ground.guard}],guard :=some (5,true)}) (v := ?_) rfl (by kernel_rfl) (by kernel_rfl) (by kernel_rfl) (fun _ _ _ h=>h) (Or.inl ⟨by rfl, ?_⟩) (by assumption) ?_
  rotate_left
  ·intro w hSw;(try dsimp only at hSw);go_simp;all_goals (with_reducible rfl)
  try simp only [Act.put,List.setIfInBounds_toArray,List.set_cons_zero,List.set_cons_succ]
  refine wpAnyH_take (i :=8) (oi := {dst :=some 111,op :=Go.Op.binOp Go.BinOp.eql 4 (Go.Operand.tmp 109) (Go.Operand.tmp 110) 4,type :=4,pos := "law.go:165",after := #[{on :=6,ground :=Go.Ground.data},{on :=7,ground :=Go.Ground.data},{on :=5,ground :=Go.Ground.guard}],guard :=some (5,true)}) (v := .bool true) rfl (by kernel_rfl) (by kernel_rfl) (by kernel_rfl) (fun _ _ _ h=>h) (Or.inl ⟨by rfl, ?_⟩) (by assumption) ?_
  ·intro w hSw;(try dsimp only at hSw);go_simp;all_goals (first | with_reducible rfl | simp)
  try simp only [Act.put,List.setIfInBounds_toArray,List.set_cons_zero,List.set_cons_succ]
  refine wpAnyH_take (i :=9) (oi := {dst :=some 112,op :=Go.Op.pick (Go.Operand.tmp 108) (Go.Operand.tmp 111) (Go.Operand.const (Go.Value.bool false)),type :=4,pos := "law.go:165",after := #[{on :=5,ground :=Go.Ground.data},{on :=8,ground :=Go.Ground.data}],guard :=none}) (v := ?_) rfl (by kernel_rfl) (by kernel_rfl) (by kernel_rfl) (fun _ _ _ h=>h) (Or.inl ⟨by rfl, ?_⟩) (by assumption) ?_
  rotate_left
  ·intro w hSw;(try dsimp only at hSw);go_simp;all_goals (with_reducible rfl)
  try simp only [Act.put,List.setIfInBounds_toArray,List.set_cons_zero,List.set_cons_succ]
  refine wpAnyH_take (i :=10) (oi := {dst :=some 113,op :=Go.Op.move (Go.Operand.tmp 112),type :=4,pos := "law.go:165",after := #[{on :=9,ground :=Go.Ground.data},{on :=5,ground :=Go.Ground.chain}],guard :=none}) (v := ?_) rfl (by kernel_rfl) (by kernel_rfl) (by kernel_rfl) (fun _ _ _ h=>h) (Or.inl ⟨by rfl, ?_⟩) (by assumption) ?_
  rotate_left
  ·intro w hSw;(try dsimp only at hSw);go_simp;all_goals (with_reducible rfl)
  try simp only [Act.put,List.setIfInBounds_toArray,List.set_cons_zero,List.set_cons_succ]
  refine wpAnyH_take (i :=11) (oi := {dst :=some 114,op :=Go.Op.move (Go.Operand.tmp 8),type :=39,pos := "law.go:165",after := #[{on :=10,ground :=Go.Ground.guard}],guard :=some (10,true)}) (v := ?_) rfl (by kernel_rfl) (by kernel_rfl) (by kernel_rfl) (fun _ _ _ h=>h) (Or.inl ⟨by rfl, ?_⟩) (by assumption) ?_
  rotate_left
  ·intro w hSw;(try dsimp only at hSw);go_simp;all_goals (with_reducible rfl)
  try simp only [Act.put,List.setIfInBounds_toArray,List.set_cons_zero,List.set_cons_succ]
  refine wpAnyH_take (i :=12) (oi := {dst :=some 115,op :=Go.Op.binOp Go.BinOp.neq 39 (Go.Operand.tmp 114) (Go.Operand.const (Go.Value.int Go.IntKind.i64 0)) 39,type :=4,pos := "law.go:165",after := #[{on :=11,ground :=Go.Ground.data},{on :=10,ground :=Go.Ground.guard}],guard :=some (10,true)}) (v := .bool false) rfl (by kernel_rfl) (by kernel_rfl) (by kernel_rfl) (fun _ _ _ h=>h) (Or.inl ⟨by rfl, ?_⟩) (by assumption) ?_
  ·intro w hSw;(try dsimp only at hSw);go_simp;all_goals (first | with_reducible rfl | exact hm1 | exact hm2 | rfl)
  try simp only [Act.put,List.setIfInBounds_toArray,List.set_cons_zero,List.set_cons_succ]
  refine wpAnyH_take (i :=13) (oi := {dst :=some 116,op :=Go.Op.move (Go.Operand.tmp 115),type :=4,pos := "law.go:165",after := #[{on :=12,ground :=Go.Ground.data},{on :=10,ground :=Go.Ground.chain},{on :=10,ground :=Go.Ground.guard}],guard :=some (10,true)}) (v := ?_) rfl (by kernel_rfl) (by kernel_rfl) (by kernel_rfl) (fun _ _ _ h=>h) (Or.inl ⟨by rfl, ?_⟩) (by assumption) ?_
  rotate_left
  ·intro w hSw;(try dsimp only at hSw);go_simp;all_goals (with_reducible rfl)
  try simp only [Act.put,List.setIfInBounds_toArray,List.set_cons_zero,List.set_cons_succ]
  refine wpAnyH_take (i :=14) (oi := {dst :=some 117,op :=Go.Op.load 25 (Go.Operand.tmp 5),type :=25,pos := "law.go:165",after := #[{on :=13,ground :=Go.Ground.guard}],guard :=some (13,false)}) (v := .agg dv) rfl (by kernel_rfl) (by kernel_rfl) (by kernel_rfl) (fun _ _ _ h=>h) (Cg (by rfl) 25 _ rfl pd rfl dv 25 _ (fun _ h=> (Below.block h _ hD.lt).trans hD.blk) Tryz.underlying25 rfl hD.info) (by assumption) ?_
  try simp only [Act.put,List.setIfInBounds_toArray,List.set_cons_zero,List.set_cons_succ]
  refine wpAnyH_take (i :=15) (oi := {dst :=some 118,op :=Go.Op.load 36 (Go.Operand.tmp 7),type :=36,pos := "law.go:165",after := #[{on :=13,ground :=Go.Ground.guard}],guard :=some (13,false)}) (v := .agg aa) rfl (by kernel_rfl) (by kernel_rfl) (by kernel_rfl) (fun _ _ _ h=>h) (Cg (by rfl) 36 _ rfl pa rfl aa 36 _ (fun _ h=> (Below.block h _ hA.lt).trans hA.blk) Tryz.underlying36 rfl hA.info) (by assumption) ?_
  try simp only [Act.put,List.setIfInBounds_toArray,List.set_cons_zero,List.set_cons_succ]
  refine wpAnyH_take (i :=17) (oi := {dst :=some 120,op :=Go.Op.load 25 (Go.Operand.tmp 2),type :=25,pos := "law.go:165",after := #[{on :=13,ground :=Go.Ground.guard}],guard :=some (13,false)}) (v := .agg #[tv,iv]) rfl (by kernel_rfl) (by kernel_rfl) (by kernel_rfl) (fun _ _ _ h=>h) (Cg (by rfl) 25 _ rfl w.heap.size rfl #[tv,iv] 25 _ (fun _ h=> (Below.block h _ hC.lt).trans hC.blk) Tryz.underlying25 rfl hC.info) (by assumption) ?_
  try simp only [Act.put,List.setIfInBounds_toArray,List.set_cons_zero,List.set_cons_succ]
  refine wpAnyH_take (i :=18) (oi := {dst :=some 121,op :=Go.Op.load 36 (Go.Operand.tmp 9),type :=36,pos := "law.go:165",after := #[{on :=13,ground :=Go.Ground.guard}],guard :=some (13,false)}) (v := .agg ba) rfl (by kernel_rfl) (by kernel_rfl) (by kernel_rfl) (fun _ _ _ h=>h) (Cg (by rfl) 36 _ rfl pb rfl ba 36 _ (fun _ h=> (Below.block h _ hB.lt).trans hB.blk) Tryz.underlying36 rfl hB.info) (by assumption) ?_
  try simp only [Act.put,List.setIfInBounds_toArray,List.set_cons_zero,List.set_cons_succ]
  refine wpAnyH_ready (rs := [16]) (by kernel_rfl) (by simp) ?_
  refine (AllReadyH.cons (o := {dst :=some 119,op :=Go.Op.call {callee :=Go.Callee.value (Go.Operand.func 19),args := #[Go.Operand.tmp 117,Go.Operand.tmp 118],argTypes := #[25,36]},type :=25,pos := "law.go:165",after := #[{on :=14,ground :=Go.Ground.data},{on :=15,ground :=Go.Ground.data},{on :=13,ground :=Go.Ground.chain},{on :=13,ground :=Go.Ground.guard}],guard :=some (13,false)}) rfl (fun K hK=> ?_) AllReadyH.nil)
  go_simp
  (go_at_call 19;go_fit (HW _ ((Below.refl V3.heap.size V3).drew));rintro e U1 ⟨v1,rfl,hc1,hb1⟩)
  go_wp2_with fail
  refine hK.out _ _ ?_ (fun hHeld=> ?_)
  ·exact (((Below.refl V3.heap.size V3).drew).trans (hb1.mono ((Below.refl V3.heap.size V3).drew).size))
  clear hK K
  try simp only [Act.put,List.setIfInBounds_toArray,List.set_cons_zero,List.set_cons_succ]
  refine wpAnyH_ready (rs := [19]) (by kernel_rfl) (by simp) ?_
  refine (AllReadyH.cons (o := {dst :=some 122,op :=Go.Op.call {callee :=Go.Callee.value (Go.Operand.func 20),args := #[Go.Operand.tmp 120,Go.Operand.tmp 121],argTypes := #[25,36]},type :=25,pos := "law.go:165",after := #[{on :=17,ground :=Go.Ground.data},{on :=18,ground :=Go.Ground.data},{on :=16,ground :=Go.Ground.chain},{on :=13,ground :=Go.Ground.guard}],guard :=some (13,false)}) rfl (fun K hK=> ?_) AllReadyH.nil)
  go_simp
  (go_at_call 20;go_fit (HV _ (((Below.refl V3.heap.size V3).drew).trans (hb1.mono ((Below.refl V3.heap.size V3).drew).size)));rintro e U2 ⟨v2,rfl,hc2,hb2⟩)
  go_wp2_with fail
  refine hK.out _ _ ?_ (fun hHeld=> ?_)
  ·exact ((((Below.refl V3.heap.size V3).drew).trans (hb1.mono ((Below.refl V3.heap.size V3).drew).size)).trans (hb2.mono (((Below.refl V3.heap.size V3).drew).trans (hb1.mono ((Below.refl V3.heap.size V3).drew).size)).size))
  clear hK K
  try simp only [Act.put,List.setIfInBounds_toArray,List.set_cons_zero,List.set_cons_succ]
  refine wpAnyH_ready (rs := [20]) (by kernel_rfl) (by simp) ?_
  refine (AllReadyH.cons (o := {dst :=some 123,op :=Go.Op.call {callee :=Go.Callee.value (Go.Operand.func 11),args := #[Go.Operand.tmp 119,Go.Operand.tmp 122],argTypes := #[25,25]},type :=4,pos := "law.go:165",after := #[{on :=16,ground :=Go.Ground.data},{on :=19,ground :=Go.Ground.data},{on :=19,ground :=Go.Ground.chain},{on :=13,ground :=Go.Ground.guard}],guard :=some (13,false)}) rfl (fun K hK=> ?_) AllReadyH.nil)
  go_simp
  (go_at_call 11;go_fit (Kw _ v1 v2 (fun k=>k<U1.heap.size) (fun k=>k<U2.heap.size) U2 (Bh.keep (Bh.mono (F' :=fun k=>k<U1.heap.size) hc1 (fun _ hk _=>hk)) (Ag (hb2.mono (Nat.le_refl _)))) (Bh.mono hc2 (fun _ hk _=>hk)));rintro e U3 ⟨rfl,hb3⟩)
  go_wp2_with fail
  refine hK.out _ _ ?_ (fun hHeld=> ?_)
  ·exact (((((Below.refl V3.heap.size V3).drew).trans (hb1.mono ((Below.refl V3.heap.size V3).drew).size)).trans (hb2.mono (((Below.refl V3.heap.size V3).drew).trans (hb1.mono ((Below.refl V3.heap.size V3).drew).size)).size)).trans (hb3.mono ((((Below.refl V3.heap.size V3).drew).trans (hb1.mono ((Below.refl V3.heap.size V3).drew).size)).trans (hb2.mono (((Below.refl V3.heap.size V3).drew).trans (hb1.mono ((Below.refl V3.heap.size V3).drew).size)).size)).size))
  clear hK K
  try simp only [Act.put,List.setIfInBounds_toArray,List.set_cons_zero,List.set_cons_succ]
  refine wpAnyH_take (i :=21) (oi := {dst :=some 124,op :=Go.Op.pick (Go.Operand.tmp 116) (Go.Operand.const (Go.Value.bool true)) (Go.Operand.tmp 123),type :=4,pos := "law.go:165",after := #[{on :=13,ground :=Go.Ground.data},{on :=20,ground :=Go.Ground.data},{on :=10,ground :=Go.Ground.guard}],guard :=some (10,true)}) (v := ?_) rfl (by kernel_rfl) (by kernel_rfl) (by kernel_rfl) (fun _ _ _ h=>h) (Or.inl ⟨by rfl, ?_⟩) (by assumption) ?_
  rotate_left
  ·intro w hSw;(try dsimp only at hSw);go_simp;all_goals (with_reducible rfl)
  try simp only [Act.put,List.setIfInBounds_toArray,List.set_cons_zero,List.set_cons_succ]
  refine wpAnyH_take (i :=22) (oi := {dst :=some 125,op :=Go.Op.pick (Go.Operand.tmp 113) (Go.Operand.tmp 124) (Go.Operand.const (Go.Value.bool false)),type :=4,pos := "law.go:165",after := #[{on :=10,ground :=Go.Ground.data},{on :=21,ground :=Go.Ground.data}],guard :=none}) (v := ?_) rfl (by kernel_rfl) (by kernel_rfl) (by kernel_rfl) (fun _ _ _ h=>h) (Or.inl ⟨by rfl, ?_⟩) (by assumption) ?_
  rotate_left
  ·intro w hSw;(try dsimp only at hSw);go_simp;all_goals (with_reducible rfl)
  try simp only [Act.put,List.setIfInBounds_toArray,List.set_cons_zero,List.set_cons_succ]
  refine wpAnyH_take (i :=23) (oi := {dst :=some 4,op :=Go.Op.assign (Go.Operand.tmp 125),type :=4,pos := "law.go:165",after := #[{on :=22,ground :=Go.Ground.data},{on :=20,ground :=Go.Ground.chain},{on :=0,ground :=Go.Ground.phase},{on :=1,ground :=Go.Ground.phase},{on :=2,ground :=Go.Ground.phase},{on :=3,ground :=Go.Ground.phase},{on :=4,ground :=Go.Ground.phase},{on :=5,ground :=Go.Ground.phase},{on :=6,ground :=Go.Ground.phase},{on :=7,ground :=Go.Ground.phase},{on :=8,ground :=Go.Ground.phase},{on :=9,ground :=Go.Ground.phase},{on :=10,ground :=Go.Ground.phase},{on :=11,ground :=Go.Ground.phase},{on :=12,ground :=Go.Ground.phase},{on :=13,ground :=Go.Ground.phase},{on :=14,ground :=Go.Ground.phase},{on :=15,ground :=Go.Ground.phase},{on :=16,ground :=Go.Ground.phase},{on :=17,ground :=Go.Ground.phase},{on :=18,ground :=Go.Ground.phase},{on :=19,ground :=Go.Ground.phase},{on :=20,ground :=Go.Ground.phase},{on :=21,ground :=Go.Ground.phase},{on :=22,ground :=Go.Ground.phase}],guard :=none}) (v := ?_) rfl (by kernel_rfl) (by kernel_rfl) (by kernel_rfl) (fun _ _ _ h=>h) (Or.inl ⟨by rfl, ?_⟩) (by assumption) ?_
  rotate_left
  ·intro w hSw;(try dsimp only at hSw);go_simp;all_goals (with_reducible rfl)
  try simp only [Act.put,List.setIfInBounds_toArray,List.set_cons_zero,List.set_cons_succ]
  refine wpAnyH_done (by kernel_rfl) ?_ _
  go_wp2_with fail
  go_ret
  exact ⟨rfl,hbV.trans ((((((Below.refl V3.heap.size V3).drew).trans (hb1.mono ((Below.refl V3.heap.size V3).drew).size)).trans (hb2.mono (((Below.refl V3.heap.size V3).drew).trans (hb1.mono ((Below.refl V3.heap.size V3).drew).size)).size)).trans (hb3.mono ((((Below.refl V3.heap.size V3).drew).trans (hb1.mono ((Below.refl V3.heap.size V3).drew).size)).trans (hb2.mono (((Below.refl V3.heap.size V3).drew).trans (hb1.mono ((Below.refl V3.heap.size V3).drew).size)).size)).size)).mono hbV.size)⟩
end Go.Proofs.YtmgkcjiejmhgcaaGreatDoor


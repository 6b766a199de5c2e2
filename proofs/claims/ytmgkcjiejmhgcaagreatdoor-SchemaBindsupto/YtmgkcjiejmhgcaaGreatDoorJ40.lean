/-
  1 texts of this proof in one, in build order: BLawW.
-/
import Derived.Test.YtmgkcjiejmhgcaaGreatDoorJ27
import Derived.Test.YtmgkcjiejmhgcaaGreatDoorJ29
import Derived.Test.YtmgkcjiejmhgcaaGreatDoorJ33
import Derived.Test.YtmgkcjiejmhgcaaGreatDoorJ36
import Derived.Test.YtmgkcjiejmhgcaaGreatDoorJ37
import Derived.Test.YtmgkcjiejmhgcaaGreatDoorJ38
import Derived.Test.YtmgkcjiejmhgcaaGreatDoorJ39
set_option linter.unusedSimpArgs false
set_option linter.unusedVariables false
namespace Go.Proofs.YtmgkcjiejmhgcaaGreatDoor
open Go.RowKit Go.Maps
def zS :Stm := ⟨0,noW,noW,noW,[],[],[],[],[], .mk 0 zero noW noW 0 [],[],false,0⟩
def Us :Except Int Stm→Stm
 | .ok s=>s
 | .error _=>zS
def Ie :Except Int Stm→Int
 | .ok _=>0
 | .error m=>m
theorem Abb {F :Nat→Prop} {w :World} :Abs.R F w zS Ah.toList :=I1 (IsL.nil _ _ _) (IsL.nil _ _ _) (IsL.nil _ _ _) (IsL.nil _ _ _) (IsL.nil _ _ _) (Dn (op :=0) (x :=zero) (s :=noW) (name :=noW) (n :=0) (ao :=none) (c :=0) fun _=>rfl) (IsL.nil _ _ _)
theorem Bh.mono {F F' :Nat→Prop} {w :World} {c :CatD} {v :Value} (h :Bh F w c v) (hf : ∀k,k<w.heap.size→F k→F' k) :Bh F' w c v :=by
 obtain ⟨a,b,h1,h2,h3⟩ :=h
 exact ⟨a,b,h1,h2.mono hf,h3.mono hf⟩
structure CtOk (w w' :World) (ct :CatD) (dv :Array Value) :Prop where
 size :dv.size=2
 one :dv.all (·.oneCell') =true
 is :Bh (Fr w.heap.size) w' ct (.agg dv)
 bel :Below w.heap.size w w'
structure SmOk (w w' :World) (st :Stm) (xa :Array Value) :Prop where
 size :xa.size=20
 one :xa.all (·.oneCell') =true
 is :Abs.R (Fr w.heap.size) w' st xa.toList
 bel :Below w.heap.size w w'
structure SbOk (w w' :World) (o :Except Int Stm) (xa :Array Value) :Prop where
 size :xa.size=20
 one :xa.all (·.oneCell') =true
 is :Abs.R (fun k=>k<w'.heap.size) w' (Us o) xa.toList
 bel :Below w.heap.size w w'
theorem CtOk.info {w w' :World} {ct :CatD} {u :Array Value} (h :CtOk w w' ct u) : (Tryz.prog.info? 25).map (·.size) =some u.size :=by rw [h.size];exact Dp
theorem SmOk.info {w w' :World} {st :Stm} {u :Array Value} (h :SmOk w w' st u) : (Tryz.prog.info? 36).map (·.size) =some u.size :=Iy h.size
theorem SbOk.info {w w' :World} {o :Except Int Stm} {u :Array Value} (h :SbOk w w' o u) : (Tryz.prog.info? 36).map (·.size) =some u.size :=Iy h.size
theorem CtOk.at {w u W :World} {ct :CatD} {dv :Array Value} (h :CtOk w u ct dv) (hb :Below u.heap.size u W) :Bh (fun k=>w.heap.size≤k∧k<u.heap.size) W ct (.agg dv) :=
 (h.is.mono (F' :=fun k=>w.heap.size≤k∧k<u.heap.size) fun _ hk hf=> ⟨hf,hk⟩).keep ⟨hb.size,fun k hk _=>hb.block k hk.2⟩
theorem SmOk.at {w u W :World} {st :Stm} {xa :Array Value} (h :SmOk w u st xa) (hb :Below u.heap.size u W) :Abs.R (fun k=>w.heap.size≤k∧k<u.heap.size) W st xa.toList :=
 Abs.keep ⟨hb.size,fun k hk _=>hb.block k hk.2⟩ (Abs.mono (F' :=fun k=>w.heap.size≤k∧k<u.heap.size) (fun _ hk hf=> ⟨hf,hk⟩) h.is)
theorem Ut {ct :CatD} {v :Value} {F :Nat→Prop} {w :World} (h :Bh F w ct v) (hT :ct.tables.length≤16777216) (hI :ct.indexes.length≤16777216) (hc : ∀t∈ct.tables,t.cols.length≤16777216) :
  Calls Tryz.prog 4 #[v] w fun e w'=> ∃dv,e= .returned (.agg dv) ∧CtOk w w' ct dv :=
 (Sr ct.tables ct.indexes v F w h hT hI hc).mono (by
  rintro r w' ⟨⟨v',rfl,hv⟩,hb⟩
  obtain ⟨a,b,rfl,h1,h2⟩ :=hv
  obtain ⟨ao,ac,rfl⟩ :=h1.shape
  obtain ⟨io,ic,rfl⟩ :=h2.shape
  exact ⟨_,rfl,rfl,by simp [Value.oneCell'],⟨_,_,rfl,h1,h2⟩,hb⟩)
theorem Uu {st :Stm} {arr :Array Value} {F :Nat→Prop} {w :World} (hR :Abs.R F w st arr.toList) (hf :FitP st) :Calls Tryz.prog 5 #[.agg arr] w fun r w'=> ∃xa,r= .returned (.agg xa) ∧SmOk w w' st xa :=
 (Tx st arr F w hR hf).mono (by
  rintro r w' ⟨v,rfl,lab,h⟩
  exact ⟨_,rfl,rfl,It,I1 h.cols.isL h.rows.isL h.sets.isL h.frm.isL h.out.isL (IsE.mono (fun k _ hf=>hf.1) _ _ h.wher) h.order.isL,h.bel⟩)
theorem Aax :Ah.all (·.oneCell') =true :=It
theorem Y7 {o :Except Int Stm} {F :Nat→Prop} {w w' :World} {r :Ending} (h : (∃v,r= .returned v∧Fj o F w' v) ∧Below w.heap.size w w') : ∃arr,r= .returned (.tuple #[.agg arr, .int .i64 (Ie o)]) ∧SbOk w w' o arr :=by
 obtain ⟨⟨v,rfl,hv⟩,hb⟩ :=h
 cases o with
 | error m=>
  obtain rfl :v=_ :=hv
  exact ⟨_,rfl,rfl,Aax,Abb,hb⟩
 | ok s=>
  obtain ⟨arr,rfl,h1,h2,h3⟩ :=hv
  exact ⟨_,rfl,h1,h2,Abs.mono (fun _ hk _=>hk) h3,hb⟩
theorem Cg {P :Program} {ops :Array Oper} {S :World→Prop} {op :Oper} {a :Act} (hw :Region.wanted op (yielded ops a.tmps) =true) (ty :TypeId) (x :Operand) (ho :op.op= .load ty x) (g :Nat) (hx :a.eval x= .pointer (some ⟨g,0,none⟩)) (cs :Array Value) (t :TypeId) (d :TypeDesc) (hS : ∀w,S w→w.heap[g]? =some (.cells cs t (0,0)))
  (hu :P.underlying ty=some d) (hd : (match d with | .struct _ | .array _ _=>true | _=>false) =true) (hi : (P.info? ty).map (·.size) =some cs.size) :YieldsIf P ops S op (.agg cs) a :=
 .inl ⟨hw,fun w hw'=>by
  unfold execOp
  simp only [ho,hx,Instr.loadAt,Instr.sureAddr,Sem.run_bind,Sem.run_pure,Result.andThen_ok,run_loadVar_row w g t ty cs (0,0) d (hS w hw') hu hd hi]⟩
structure HasC (W :World) (p :Nat) (dv :Array Value) (ct :CatD) :Prop where
 blk :W.heap[p]? =some (.cells dv 25)
 is :Bh (fun k=>k<W.heap.size) W ct (.agg dv)
 size :dv.size=2
structure HasS (W :World) (p :Nat) (xa :Array Value) (st :Stm) :Prop where
 blk :W.heap[p]? =some (.cells xa 36)
 is :Abs.R (fun k=>k<W.heap.size) W st xa.toList
 size :xa.size=20
theorem HasC.lt {W :World} {p :Nat} {dv :Array Value} {ct :CatD} (h :HasC W p dv ct) :p<W.heap.size :=lt_of_block h.blk
theorem HasS.lt {W :World} {p :Nat} {dv :Array Value} {st :Stm} (h :HasS W p dv st) :p<W.heap.size :=lt_of_block h.blk
theorem HasC.info {W :World} {p :Nat} {dv :Array Value} {ct :CatD} (h :HasC W p dv ct) : (Tryz.prog.info? 25).map (·.size) =some dv.size :=by rw [h.size];exact Dp
theorem HasS.info {W :World} {p :Nat} {dv :Array Value} {st :Stm} (h :HasS W p dv st) : (Tryz.prog.info? 36).map (·.size) =some dv.size :=Iy h.size
theorem HasC.at {W V :World} {p :Nat} {dv :Array Value} {ct :CatD} (h :HasC W p dv ct) (hb :Below W.heap.size W V) :Bh (fun k=>k<W.heap.size) V ct (.agg dv) :=h.is.keep (Ag hb)
theorem HasS.at {W V :World} {p :Nat} {dv :Array Value} {st :Stm} (h :HasS W p dv st) (hb :Below W.heap.size W V) :Abs.R (fun k=>k<W.heap.size) V st dv.toList :=Abs.keep (Ag hb) h.is
theorem HasC.below {W V :World} {p :Nat} {dv :Array Value} {ct :CatD} (h :HasC W p dv ct) (hb :Below W.heap.size W V) :HasC V p dv ct :=
 ⟨(hb.block _ h.lt).trans h.blk,(h.at hb).mono fun _ hk _=>hk,h.size⟩
theorem HasS.below {W V :World} {p :Nat} {dv :Array Value} {st :Stm} (h :HasS W p dv st) (hb :Below W.heap.size W V) :HasS V p dv st :=
 ⟨(hb.block _ h.lt).trans h.blk,Abs.mono (fun _ hk _=>hk) (h.at hb),h.size⟩
theorem Af {u w :World} (h :Below u.heap.size u w) (o :Obj) :Below u.heap.size u (w.alloc o) :=h.alloc h.size o
theorem Ac {u w w' :World} (h :Below u.heap.size u w) (k :Below w.heap.size w w') :Below u.heap.size u w' :=h.trans (k.mono h.size)
theorem A7 {u w :World} {k :Nat} {o :Obj} (h :Below u.heap.size u w) (hk :u.heap[k]? =some o) :w.heap[k]? =some o := (h.block _ (Array.getElem?_eq_some_iff.1 hk).1).trans hk
theorem Bo {w u :World} {o :Obj} (h :Below (w.alloc o).heap.size (w.alloc o) u) :w.heap.size<u.heap.size :=by
 have :=h.size
 simp at this
 omega
theorem Gs {w u :World} {o o2 :Obj} (h :Below ((w.alloc o).alloc o2).heap.size ((w.alloc o).alloc o2) u) :w.heap.size+1<u.heap.size :=by
 have :=h.size
 simp at this
 omega
abbrev Ap :Obj := .cells #[.slice none 0 0, .slice none 0 0] 25
abbrev Ao :Obj := .cells Ah 36
theorem D8 {V W :World} {ct :CatD} {st :Stm} {pd px a1 a2 b1 b2 :Nat} {dv xa :Array Value} (hb :Below V.heap.size V W) (hd :Bh (fun k=>a1≤k∧k<a2) W ct (.agg dv)) (hx :Abs.R (fun k=>b1≤k∧k<b2) W st xa.toList) (hd2 :dv.size=2) (hx2 :xa.size=20) (hdp :V.heap.size≤pd) (hxp :V.heap.size≤px)
  (hD :W.heap[pd]? =some (.cells #[.slice none 0 0, .slice none 0 0] 25)) (hX :W.heap[px]? =some (.cells Ah 36)) (g1 :pd<a1∨a2≤pd) (g2 :px<a1∨a2≤px) (g3 :pd<b1∨b2≤pd) (g4 :px<b1∨b2≤px) :
  HasC ((W.setRow pd dv).setRow px xa) pd dv ct∧HasS ((W.setRow pd dv).setRow px xa) px xa st∧Below V.heap.size V ((W.setRow pd dv).setRow px xa) :=by
 have hne :pd≠px :=fun e=>by
  rw [e,hX] at hD
  exact absurd (show (20 :Nat) =2 from congrArg Array.size (Obj.cells.inj (Option.some.inj hD)).1) (by decide)
 have hX1 : (W.setRow pd dv).heap[px]? =some (.cells Ah 36) :=Aw hX (Ne.symm hne) _
 have hD1 : (W.setRow pd dv).heap[pd]? =some (.cells dv 25) :=An hD
 have k1 : ∀ (a b :Nat),(pd<a∨b≤pd) → (px<a∨b≤px) →Keeps (fun k=>a≤k∧k<b) W ((W.setRow pd dv).setRow px xa) :=fun a b h1 h2=> ((Keeps.refl _ _).row (show ¬ (a≤pd∧pd<b) by omega) dv).row (show ¬ (a≤px∧px<b) by omega) xa
 exact ⟨⟨Aw hD1 hne _,(hd.keep (k1 _ _ g1 g2)).mono fun _ hk _=>hk,hd2⟩,⟨An hX1,Abs.mono (fun _ hk _=>hk) (Abs.keep (k1 _ _ g3 g4) hx),hx2⟩,Below.row (Below.row hb hdp _) hxp _⟩
theorem Ty {V U :World} {o :Except Int Stm} {xa :Array Value} (h :SbOk V U o xa) :HasS ((U.alloc (.cells Ah 36)).setRow U.heap.size xa) U.heap.size xa (Us o) ∧Below V.heap.size V ((U.alloc (.cells Ah 36)).setRow U.heap.size xa) :=by
 have hb :=Aq U (.cells Ah 36)
 have hb2 :=Below.row hb (Nat.le_refl _) xa
 exact ⟨⟨An (Ab _ _),Abs.mono (fun _ hk _=>hk) (Abs.keep (Ag hb2) h.is),h.size⟩,h.bel.trans (hb2.mono h.bel.size)⟩
def Dr (T :List TabD) (s :Wd) :Wd :=match A5 T s with
 | some t=>t.name
 | none=>noW
theorem Ry {T :List TabD} {s :Wd} {F :Nat→Prop} {w w' :World} {r :Ending} (h :J1 T s F w r w') : ∃ao n c,r= .returned (.tuple #[.agg #[.string (Dr T s), .slice ao n c], .bool (A5 T s).isSome]) ∧Below w.heap.size w w' :=by
 obtain ⟨nmv,ao,n,c,there,rfl,hm,hb⟩ :=h
 refine ⟨ao,n,c, ?_,hb⟩
 rw [Dr]
 cases hf :A5 T s<;>rw [hf] at hm<;>rw [hm.1]
 ·rw [hm.2.1];rfl
 ·rw [hm.2.1];rfl
theorem Uv {ct :CatD} {st st2 :Stm} (h :Bw ct st= .ok st2) :Cq ct=true :=by
 unfold Bw at h
 split at h
 ·cases h
 ·rename_i hn
  cases hc :Cq ct
  ·exact absurd (.inl hc) hn
  ·rfl
end Go.Proofs.YtmgkcjiejmhgcaaGreatDoor


/-
  2 texts of this proof in one, in build order: BCopy, WRow.
-/
import Derived.Laws.CopyRow
import Derived.Laws.CopyOwn
import Derived.Laws.IdiomCopy
import Derived.Deep.MidRow
import Derived.Deep.RegionLaw
import Derived.Lib.AppendZerosOnto
import Derived.Lib.Overlaps
import Derived.Lib.SliceRun
import Derived.Laws.Externs
import Derived.Test.YtmgkcjiejmhgcaaGreatDoorJ02
import Derived.Test.YtmgkcjiejmhgcaaGreatDoorJ13
import Derived.Test.YtmgkcjiejmhgcaaGreatDoorJ14
set_option linter.unusedSimpArgs false
set_option linter.unusedVariables false
namespace Go.Proofs.YtmgkcjiejmhgcaaGreatDoor
open Go.RowKit Go.Maps
def I8 (l :List E) (w :World) (e :Ending) (w' :World) :Prop := ∃z,e= .returned z∧Bl As 34 0 w.heap.size z l w'∧Below w.heap.size w w'
theorem Bl.keepLow {α :Type} {K :Elem α} {ty :TypeId} {base :Nat} {z :Value} {A :List α} {w w' :World} (h :Bl K ty 0 base z A w) (hk : ∀k,base≤k→k<w.heap.size→w'.heap[k]? =w.heap[k]?) (hs :w.heap.size≤w'.heap.size) :Bl K ty 0 base z A w' :=by
 obtain ⟨cs,h1,h2⟩ :=h
 refine ⟨cs, ?_,h2.keep ⟨hs,fun k hf hl=>hk k (by rcases hf with h | h;exact absurd h (Nat.not_lt_zero _);exact h.1) hl⟩⟩
 obtain ⟨g1,g2⟩ :=h1
 refine ⟨g1, ?_⟩
 rcases g2 with g2 | ⟨g,cap,cur,hv,hg,hh,r⟩
 ·exact .inl g2
 ·exact .inr ⟨g,cap,cur,hv,hg,by rw [hk g hg (lt_of_block hh)];exact hh,r⟩
theorem N4 : ∀ {l :List E} {k :Nat} {x :E},l[k]? =some x→x.nodes≤Bs l
 | y ::l,0,x,h=>by simp at h;subst h;rw [Bs];omega
 | y ::l,k+1,x,h=>by simp at h;have :=N4 h;rw [Bs];omega
 | [],_,_,h=>by simp at h
theorem Kc {op :Int} {x :V} {s name :Wd} {n :Int} {l :List E} : (E.mk op x s name n l).nodes=Bs l+1 :=by rw [E.nodes]
set_option maxRecDepth 100000 in
set_option maxHeartbeats 8000000 in
theorem E6 : ∀ (N :Nat),N≤16777216→ ∀ (l :List E),Bs l≤N→ ∀ (F :Nat→Prop) (w :World) (v :Value),Gj F w v l→Calls Tryz.prog 21 #[v] w (I8 l w) :=by
 intro N
 induction N using Nat.strongRecOn with
 | _ N ih=>
 intro hN l hl F w v hv
 have hll :l.length≤16777216 :=by have :=Kb l;omega
 obtain ⟨ao,c,rfl⟩ :=hv.shape
 obtain ⟨i0,hi,hz0,hz1,hz2⟩ :=info_parts Eb
 have HV :Hid (IsL As F w (.slice ao l.length c) l) :=Abf.2 hv
 have HI :Hid (∀m,m<N→ ∀ (l :List E),Bs l≤m→ ∀ (F :Nat→Prop) (w :World) (v :Value),Gj F w v l→Calls Tryz.prog 21 #[v] w (I8 l w)) :=fun m hm l hl F w v h=>ih m hm (by omega) l hl F w v h
 have HNL :Hid (Bs l≤N) :=hl
 clear hv ih hl hN
 go_enter Tryz.func21,Tryz.ntmps21
 go_wp2_with fail
 go_loopw [3,8] (fun zv i wr=> ∃k :Nat,k≤l.length∧i= .int .i64 k∧Bl As 34 0 w.heap.size zv (l.take k) wr∧Below w.heap.size w wr) (fun _ i _=>l.length - (intOf i).toNat)
 case atStart=>exact ⟨0,Nat.zero_le _,rfl,Ed _ _ _ _ _,Below.refl _ _⟩
 case round=>
  obtain ⟨k,hk,rfl,hA,hbel⟩ :=hrel
  obtain ⟨W0,hW0⟩ : ∃V,V=wr := ⟨_,rfl⟩
  subst hW0
  by_cases hlt :k<l.length
  ·obtain ⟨x,hx⟩ : ∃x,l[k]? =some x := ⟨_,List.getElem?_eq_getElem hlt⟩
   have HT :Hid (l.take (k+1) =l.take k++ [x]) :=by show _=_;rw [List.take_add_one,hx];rfl
   have hnx :=N4 hx
   obtain ⟨b,off,cs,hso,hbC,hbl,hR,hcell⟩ :=Av HV.out hx
   cases hso
   cases x with
   | mk op xx s nm n lx=>
   obtain ⟨xk,xn,xs⟩ :=xx
   obtain ⟨h8,hE⟩ :=hR
   obtain ⟨sv,hcs,hlx⟩ :=hE.open
   obtain ⟨lo,lc,rfl⟩ :=hlx.shape
   have hcs2 :cs= [.int .i64 op, .int .i64 xk, .int .i64 xn, .string xs, .string s, .string nm, .int .i64 n, .slice lo lx.length lc] :=by
    have :=congrArg Array.toList (Value.agg.inj hcs);simpa using this
   subst hcs2
   rw [Kc] at hnx
   have g0 := (hbel.cell (p := ⟨b,_,none⟩) hbl).trans (hcell 0 _ rfl)
   have g1 := (hbel.cell (p := ⟨b,_,none⟩) hbl).trans (hcell 1 _ rfl)
   have g2 := (hbel.cell (p := ⟨b,_,none⟩) hbl).trans (hcell 2 _ rfl)
   have g3 := (hbel.cell (p := ⟨b,_,none⟩) hbl).trans (hcell 3 _ rfl)
   have g4 := (hbel.cell (p := ⟨b,_,none⟩) hbl).trans (hcell 4 _ rfl)
   have g5 := (hbel.cell (p := ⟨b,_,none⟩) hbl).trans (hcell 5 _ rfl)
   have g6 := (hbel.cell (p := ⟨b,_,none⟩) hbl).trans (hcell 6 _ rfl)
   have g7 := (hbel.cell (p := ⟨b,_,none⟩) hbl).trans (hcell 7 _ rfl)
   simp only [As,Nat.add_zero] at g0 g1 g2 g3 g4 g5 g6 g7
   have j0 : (0 :Int) ≤ (k :Int) :=by omega
   have j1 : (k :Int) < (l.length :Int) :=by omega
   have hbx :=Aq W0 (.cells (Ad op ⟨xk,xn,xs⟩ s nm n (.slice lo lx.length lc)) 34)
   have bX :=Ab W0 (.cells (Ad op ⟨xk,xn,xs⟩ s nm n (.slice lo lx.length lc)) 34)
   have IH :=HI.out (Bs lx) (by have :=HNL.out;omega) lx (Nat.le_refl _) F (W0.alloc (.cells (Ad op ⟨xk,xn,xs⟩ s nm n (.slice lo lx.length lc)) 34)) _ (hlx.keep (Ar (hbel.trans (hbx.mono hbel.size))))
   have hzw : ∀k,u3.ownBlock=some k→w.heap.size≤k∧k<W0.heap.size :=by obtain ⟨cs0,hown0,_⟩ :=hA;exact fun k hk=> ⟨(hown0.lt k hk).1,(hown0.lt k hk).2⟩
   have x7 :=Aa bX (j :=7) rfl
   obtain ⟨zo,zc,hzv⟩ :=hA.shape
   have HLK :Hid ((l.take k).length=k) :=by show _=_;rw [List.length_take];omega
   rw [HLK.out] at hzv
   subst hzv
   have HA :Hid _ :=hA
   have hsz :=hbel.size
   generalize hW1 :W0.alloc (.cells (Ad op ⟨xk,xn,xs⟩ s nm n (.slice lo lx.length lc)) 34) =W1 at*
   have HW1 :Hid _ :=hW1
   clear hcell hx hcs hE hlx h8 hA hW1
   go_upto_region 5 with fail
   rw [HW1.out]
   go_upto_region 6 with (go_at_call 21;go_fit IH;rintro e W2 ⟨zx,rfl,hzx,hb2⟩;obtain ⟨xo,xc,rfl⟩ :=hzx.shape;have bX2 := (hb2.block _ (lt_of_block bX)).trans bX;have f7 := (show W2.frozen? ⟨W0.heap.size,7,none⟩ =false by simp only [World.frozen?,bX2];rfl);have x7b :=Aa bX2 (j :=7) rfl)
   have bX3 : (W2.setCell ⟨W0.heap.size,7,none⟩ (.slice xo lx.length xc)).heap[W0.heap.size]? =some (.cells (Ad op ⟨xk,xn,xs⟩ s nm n (.slice xo lx.length xc)) 34) :=Cl bX2 7 _
   have h01 :W0.heap.size<W1.heap.size :=lt_of_block bX
   have hb03 :Below W0.heap.size W0 (W2.setCell ⟨W0.heap.size,7,none⟩ (.slice xo lx.length xc)) := (hbx.trans (hb2.mono (Nat.le_of_lt h01))).setCell (Nat.le_refl _) _
   have hzx3 :=hzx.keepLow (w' :=W2.setCell ⟨W0.heap.size,7,none⟩ (.slice xo lx.length xc)) (fun k hk _=>Below.heap_setCell _ _ _ k (show k≠W0.heap.size by omega)) (by simp [World.setCell])
   obtain ⟨y0,y1,y2,y3,y4,y5,y6,y7⟩ :=H0 bX3
   simp only at y1 y2 y3
   generalize W2.setCell ⟨W0.heap.size,7,none⟩ (.slice xo lx.length xc) =W3 at*
   have hb34 :=Aq W3 (.cells [.int .i64 op, .int .i64 xk, .int .i64 xn, .string xs, .string s, .string nm, .int .i64 n, .slice xo lx.length xc].toArray 34)
   have hb04 :Below W0.heap.size W0 (W3.alloc (.cells [.int .i64 op, .int .i64 xk, .int .i64 xn, .string xs, .string s, .string nm, .int .i64 n, .slice xo lx.length xc].toArray 34)) :=hb03.trans (hb34.mono hb03.size)
   obtain ⟨cs0,hown0,hall0⟩ :=HA.out
   rw [HLK.out] at hown0
   have hown4 :=Az hown0 hb04
   have hall4 :=hall0.keep (Ar hb04)
   have hnew :=Cp W3 [.int .i64 op, .int .i64 xk, .int .i64 xn, .string xs, .string s, .string nm, .int .i64 n, .slice xo lx.length xc] 34
   have hbase :w.heap.size≤ (W3.alloc (.cells [.int .i64 op, .int .i64 xk, .int .i64 xn, .string xs, .string s, .string nm, .int .i64 n, .slice xo lx.length xc].toArray 34)).heap.size :=Nat.le_trans hsz hb04.size
   have HRX :Hid (As.R (FX 0 w.heap.size (.slice zo k zc)) (W3.alloc (.cells [.int .i64 op, .int .i64 xk, .int .i64 xn, .string xs, .string s, .string nm, .int .i64 n, .slice xo lx.length xc].toArray 34)) (.mk op ⟨xk,xn,xs⟩ s nm n lx) [.int .i64 op, .int .i64 xk, .int .i64 xn, .string xs, .string s, .string nm, .int .i64 n, .slice xo lx.length xc]) :=by
    refine ⟨rfl,Dd (x := ⟨xk,xn,xs⟩) (Abf.1 ?_)⟩
    refine IsL.keep (hzx3.isL.mono fun k hk h=> .inr ⟨?_,fun e=> ?_⟩) (Ar hb34)
    ·rcases h with h | h
     ·exact absurd h (Nat.not_lt_zero _)
     ·omega
    ·have := (hzw k e.symm).2
     rcases h with h | h
     ·exact absurd h (Nat.not_lt_zero _)
     ·omega
   have HOW :Hid _ :=hall4
   clear bX bX2 bX3 x7 x7b hzx hzx3 hall0 hall4 IH g0 g1 g2 g3 g4 g5 g6 g7
   go_wp2_with (first | (at_builtin;go_must (refine wpList_append_own_at _ rfl _ _ 30 rfl w.heap.size 34 i0 _ 8 104 Tryz.underlying30 hi hz0 hz1 hz2 rfl (by decide) _ _ _ rfl hown4 ⟨W3.heap.size,0,none⟩ 1 1 [.int .i64 op, .int .i64 xk, .int .i64 xn, .string xs, .string s, .string nm, .int .i64 n, .slice xo lx.length xc] rfl rfl ?h0 ?h1 (by simp only [maxLen];omega) (by omega) hbase ?h2)))
   case h0=>simpa using hnew
   case h1=>simp only [List.forall_mem_cons];repeat (first | exact fun _ h=>absurd h List.not_mem_nil | refine ⟨rfl, ?_⟩)
   case h2=>
    intro z2 w5 hown5 hg5 _ hat
    have hst :=Cb (K :=As) (ty :=34) (a := .mk op ⟨xk,xn,xs⟩ s nm n lx) (Nat.zero_le _) (fun k hk=> (hown0.lt k hk).1) (by rw [HLK.out];exact hown5) HOW.out HRX.out hg5 (by simpa using hat)
    have hbb :Below w.heap.size w w5 := (hbel.trans (hb04.mono hsz)).grown hg5 hbase fun k hk=> (hown0.lt k hk).1
    go_wp2_with fail
    go_roundw
    case rel=>exact ⟨k+1,by omega,by go_num,by rw [HT.out];exact hst,hbb⟩
    case measure=>simp [intOf];omega
  ·have hkn :k=l.length :=by omega
   subst hkn
   rw [List.take_length] at hA
   have j1 : ¬ ((l.length :Int) < (l.length :Int)) :=by omega
   go_wp2_with fail
   go_ret
   exact ⟨_,rfl,hA,hbel⟩
end Go.Proofs.YtmgkcjiejmhgcaaGreatDoor

namespace Go.Proofs.YtmgkcjiejmhgcaaGreatDoor
open Go.RowKit
theorem Ua {α :Type} (X :List α) (o :Nat) :splice X o [] =X :=by simp [splice]
theorem Sl {α :Type} (X :List α) (o :Nat) (v :α) (cs :List α) (h :o<X.length) :splice (X.set o v) (o+1) cs=splice X o (v ::cs) :=by
 have h1 : (X.set o v).take (o+1) =X.take o++ [v] :=by
  apply List.ext_getElem?
  intro i
  by_cases hi :i<o
  ·rw [List.getElem?_take_of_lt (by omega),List.getElem?_set_ne (by omega),List.getElem?_append_left (by simp;omega),List.getElem?_take_of_lt hi]
  ·by_cases hio :i=o
   ·subst hio
    rw [List.getElem?_take_of_lt (by omega),List.getElem?_set_self h,List.getElem?_append_right (by simp;omega)]
    simp [Nat.min_eq_left (Nat.le_of_lt h)]
   ·rw [List.getElem?_eq_none (by simp;omega),List.getElem?_eq_none (by simp;omega)]
 have h2 : (X.set o v).drop (o+1+cs.length) =X.drop (o+1+cs.length) :=List.drop_set_of_lt (by omega)
 simp only [splice,List.length_cons]
 rw [h1,h2,show o+ (cs.length+1) =o+1+cs.length by omega]
 simp
theorem Dv {g :Nat} {t :TypeId} : ∀ (cs :List Value) (o :Nat) (X :List Value) (w :World),w.heap[g]? =some (.cells X.toArray t) →o+cs.length≤X.length→
  (w.setCells g o cs).heap[g]? =some (.cells (splice X o cs).toArray t)
 | [],o,X,w,h,_=>by rw [World.setCells,Ua];exact h
 | v ::cs,o,X,w,h,hl=>by
  rw [World.setCells]
  have hb : (w.setCell ⟨g,o,none⟩ v).heap[g]? =some (.cells (X.set o v).toArray t) :=by
   rw [upd h o v];simp
  have :=Dv cs (o+1) (X.set o v) _ hb (by simp at hl⊢;omega)
  rw [this,Sl X o v cs (by simp at hl;omega)]
theorem Et {w :World} (g o :Nat) (vs :List Value) :w.grownBy (w.setCells g o vs) (some g) :=by
 induction vs generalizing w o with
 | nil=>exact ⟨rfl,rfl,rfl,Nat.le_refl _,fun _ _ _=>rfl⟩
 | cons v vs ih=>
  have h1 :w.grownBy (w.setCell ⟨g,o,none⟩ v) (some g) := ⟨rfl,rfl,rfl,by simp [World.setCell],fun k _ hne=>by
   simp only [World.setCell,Array.getElem?_modify]
   rw [if_neg (by rintro rfl;exact hne rfl)]⟩
  have h2 :=ih (w :=w.setCell ⟨g,o,none⟩ v) (o :=o+1)
  exact ⟨h2.os.trans h1.os,h2.tape.trans h1.tape,h2.output.trans h1.output,Nat.le_trans h1.size h2.size,fun i hi hne=> (h2.block i (Nat.lt_of_lt_of_le hi h1.size) hne).trans (h1.block i hi hne)⟩
theorem Ci {a b c :World} {r :Option Nat} (h :a.grownBy b r) (k :b.grownBy c r) :a.grownBy c r :=
 ⟨k.os.trans h.os,k.tape.trans h.tape,k.output.trans h.output,Nat.le_trans h.size k.size,fun i hi hne=> (k.block i (Nat.lt_of_lt_of_le hi h.size) hne).trans (h.block i hi hne)⟩
theorem Zn (w :World) (r :Option Nat) :w.grownBy w r := ⟨rfl,rfl,rfl,Nat.le_refl _,fun _ _ _=>rfl⟩
theorem Cw {w w' :World} (r :Option Nat) (h :Below w.heap.size w w') :w.grownBy w' r := ⟨h.os,h.tape,h.output,h.size,fun k hk _=>h.block k hk⟩
theorem Hd {B :Nat} {w w' :World} {g :Nat} (hg :w.grownBy w' (some g)) (hB :B≤g) (hw :B≤w.heap.size) :Below B w w' :=
 ⟨hg.os,hg.tape,hg.output,hg.size,fun k hk=>hg.block k (by omega) (fun e=>by cases e;omega)⟩
theorem Jl {α :Type} (X :List α) (o :Nat) (cs :List α) (h :o≤X.length) : (splice X o cs).take o=X.take o :=by
 simp only [splice]
 rw [List.take_append_of_le_length (by simp;omega)]
 exact List.take_of_length_le (by simp;omega)
theorem Ee {α :Type} (X :List α) (o :Nat) (cs :List α) (h :o≤X.length) : (splice X o cs).take (o+cs.length) =X.take o++cs :=by
 simp only [splice]
 rw [←List.append_assoc,List.take_append_of_le_length (by simp;omega)]
 exact List.take_of_length_le (by simp;omega)
theorem Ig {α :Type} (X :List α) (o :Nat) (cs :List α) (j :Nat) (h :o≤X.length) (hj :o+cs.length≤j) : (splice X o cs)[j]? =X[j]? :=by
 simp only [splice]
 rw [←List.append_assoc,List.getElem?_append_right (by simp;omega),List.getElem?_drop]
 congr 1
 simp;omega
section
variable {P :Program}
theorem N5 (w :World) (dT sT ty elem :TypeId) (g o dLen dCap :Nat) (a :Addr) (sLen sCap :Nat) (X :List Value) (t :TypeId) (cs :List Value) (k :Nat)
  (hu :P.underlying dT=some (.slice elem)) (hs : (P.info? elem).map (·.size) =some k)
  (hg :w.heap[g]? =some (.cells X.toArray t)) (hn :cs.length=Nat.min sLen dLen*k)
  (hsrc : ∀j v,cs[j]? =some v→w.cell? (a.add j) =some v) (hfit :o+cs.length≤X.length) (h1 : ∀v∈cs,v.oneCell'=true) :
  (Builtin.copy_ #[dT,sT] ty #[.slice (some ⟨g,o,none⟩) dLen dCap, .slice (some a) sLen sCap]).run P w= .ok (goInt (Nat.min sLen dLen)) (w.setCells g o cs) :=by
 have hl :=run_firstCells_some (P :=P) (w :=w) k (Nat.min sLen dLen) a sLen sCap cs hn hsrc
 have hst :=run_storeCells_cells (P :=P) g o cs 0 w (fun j hj=>by
   rw [Aa hg (j :=o+0+j) (u :=X[o+0+j]'(by omega)) (by simp)];rfl) (fun j hj=>by simp [World.frozen?,hg]) h1
 cases hq :P.info? elem with
 | none=>simp [hq] at hs
 | some i=>
  have hi :i.size=k :=by simpa [hq] using hs
  simp only [Nat.add_zero] at hst
  simp [Builtin.copy_,run_underlying hu,Builtin.lenOf,sizeOf,typeInfo,hq,hi,hl,hst]
theorem Hs {w :World} (dT sT elem :TypeId) (k :Nat) (hu :P.underlying dT=some (.slice elem)) (hs : (P.info? elem).map (·.size) =some k) (g o dLen dCap :Nat) (a :Addr) (sLen sCap :Nat) (X :List Value) (t :TypeId)
  (hg :w.heap[g]? =some (.cells X.toArray t)) (cs :List Value) (hn :cs.length=Nat.min sLen dLen*k)
  (hsrc : ∀j v,cs[j]? =some v→w.cell? (a.add j) =some v) (hfit :o+cs.length≤X.length) (h1 : ∀v∈cs,v.oneCell'=true) :
  ∃w' :World,(∀ty,(Builtin.copy_ #[dT,sT] ty #[.slice (some ⟨g,o,none⟩) dLen dCap, .slice (some a) sLen sCap]).run P w= .ok (goInt (Nat.min sLen dLen)) w') ∧w'.heap[g]? =some (.cells (splice X o cs).toArray t) ∧w.grownBy w' (some g) :=
 ⟨_,fun ty=>N5 w dT sT ty elem g o dLen dCap a sLen sCap X t cs k hu hs hg hn hsrc hfit h1,Dv cs o X w hg hfit,Et g o cs⟩
theorem Ht {w :World} {ops :Array Oper} {o :Oper} {a :Act} {K :Act→World→Prop} {Q :Exit→Act→World→Prop} {E :Prop} (hgd :o.guard=none) (d s :Operand) (dT sT :TypeId)
  (ho :o.op= .call {callee := .builtin .copy,args := #[d,s],argTypes := #[dT,sT]}) (elem :TypeId) (k :Nat) (hu :P.underlying dT=some (.slice elem)) (hsz : (P.info? elem).map (·.size) =some k)
  (g off dLen dCap :Nat) (ad :Addr) (sLen sCap :Nat) (hd :a.eval d= .slice (some ⟨g,off,none⟩) dLen dCap) (hs :a.eval s= .slice (some ad) sLen sCap)
  (X :List Value) (t :TypeId) (hg :w.heap[g]? =some (.cells X.toArray t)) (cs :List Value) (hn :cs.length=Nat.min sLen dLen*k)
  (hsrc : ∀j v,cs[j]? =some v→w.cell? (ad.add j) =some v) (hfit :off+cs.length≤X.length) (h1 : ∀v∈cs,v.oneCell'=true)
  (h : ∀w',w'.heap[g]? =some (.cells (splice X off cs).toArray t) →w.grownBy w' (some g) →K (a.put o.dst (goInt (Nat.min sLen dLen))) w') :
  if Region.wanted o (yielded ops a.tmps) =true then Oper.wp P o a w K Q else E :=by
 have hw :Region.wanted o (yielded ops a.tmps) =true :=by simp [Region.wanted,hgd]
 rw [if_pos hw]
 have hrun :=N5 (P :=P) w dT sT o.type elem g off dLen dCap ad sLen sCap X t cs k hu hsz hg hn hsrc hfit h1
 unfold Oper.wp execOp
 simp only [ho,resolve,invoke,builtin,Sem.run_bind,Sem.run_pure,Result.andThen_ok,List.map_toArray,List.map_cons,List.map_nil,hd,hs,hrun]
 exact h _ (Dv cs off X w hg hfit) (Et g off cs)
theorem X2 (z :Value) (n :Nat) : (Builtin.zeroCells z.cells n).toList.length=n*z.cells.size :=by simp [Builtin.zeroCells]
theorem Ms {w :World} (dT elem :TypeId) (k :Nat) (z :Value) (hu :P.underlying dT=some (.slice elem)) (hz : ∀w,(zeroValue elem).run P w= .ok z w) (hk :z.cells.size=k) (hone : ∀n,∀v∈ (Builtin.zeroCells z.cells n).toList,v.oneCell'=true)
  (g off n c :Nat) (X :List Value) (t :TypeId) (hg :w.heap[g]? =some (.cells X.toArray t)) (hfit :off+n*k≤X.length) :
  ∃ (w' :World) (Y :List Value),(∀ty,(Builtin.clear_ #[dT] ty #[.slice (some ⟨g,off,none⟩) n c]).run P w= .ok (.tuple #[]) w') ∧w'.heap[g]? =some (.cells Y.toArray t) ∧Y.length=X.length∧Y.take off=X.take off∧w.grownBy w' (some g) :=by
 rcases Nat.eq_zero_or_pos n with rfl | h0
 ·exact ⟨w,X,fun ty=>by simp [Builtin.clear_,run_underlying hu],hg,rfl,rfl,Zn _ _⟩
 ·have hlen : (Builtin.zeroCells z.cells n).toList.length=n*k :=by rw [X2,hk]
  have hst :=run_storeCells_cells (P :=P) g off (Builtin.zeroCells z.cells n).toList 0 w (fun j hj=>by
   rw [Aa hg (j :=off+0+j) (u :=X[off+0+j]'(by omega)) (by simp)];rfl) (fun j hj=>by simp [World.frozen?,hg]) (hone n)
  simp only [Nat.add_zero] at hst
  obtain ⟨m,rfl⟩ : ∃m,n=m+1 := ⟨n - 1,by omega⟩
  exact ⟨w.setCells g off (Builtin.zeroCells z.cells (m+1)).toList,_,fun ty=>by simp [Builtin.clear_,run_underlying hu,hz,hst],Dv _ off X w hg (by omega),length_splice _ _ _ (by omega),Jl _ _ _ (by omega),Et g off _⟩
end
theorem Gn {w :World} {B :Nat} {e :TypeId} {k n :Nat} {v :Value} {xs :List Value} (h :w.ownsRow B e k v n xs) : (v= .slice none 0 0∧n=0) ∨
  ∃ (g cap :Nat) (X :List Value),v= .slice (some ⟨g,0,none⟩) n cap∧B≤g∧w.heap[g]? =some (.cells X.toArray e) ∧n≤cap∧cap≤maxLen∧X.length=cap*k∧X.take (n*k) =xs :=by
 rcases h.2 with h | ⟨g,cap,cur,h1,h2,h3,h4,h5,h6,h7⟩
 ·exact .inl h
 ·exact .inr ⟨g,cap,cur.toList,h1,h2,by simpa using h3,h4,h5,by simpa using h6,h7⟩
theorem Iv {w :World} {B :Nat} {e :TypeId} {k n g cap :Nat} {X xs :List Value} (h2 :B≤g) (h3 :w.heap[g]? =some (.cells X.toArray e)) (h4 :n≤cap) (h5 :cap≤maxLen) (h6 :X.length=cap*k) (h7 :X.take (n*k) =xs) :
  w.ownsRow B e k (.slice (some ⟨g,0,none⟩) n cap) n xs :=by
 refine ⟨by rw [←h7,List.length_take,h6];exact Nat.min_eq_left (Nat.mul_le_mul_right _ h4), .inr ⟨g,cap,X.toArray,rfl,h2,h3,h4,h5,by simpa using h6,by simpa using h7⟩⟩
theorem Jv {α :Type} {K :Elem α} {F :Nat→Prop} {w :World} : ∀ {l :List α} {cs :List Value},All K F w l cs→ ∃CS :List (List Value),cs=CS.flatten∧CS.length=l.length∧ ∀ (i :Nat) (x :α) (c :List Value),l[i]? =some x→CS[i]? =some c→K.R F w x c
 | [],cs,h=> ⟨[],h,rfl,fun i x c hx=>by simp at hx⟩
 | a ::l,cs,h=>by
  obtain ⟨c,rest,rfl,h2,h3⟩ :=h
  obtain ⟨CS,rfl,h5,h6⟩ :=Jv h3
  refine ⟨c ::CS,rfl,by simp [h5],fun i x d hx hd=> ?_⟩
  cases i with
  | zero=>simp at hx hd;subst hx;subst hd;exact h2
  | succ i=>exact h6 i x d (by simpa using hx) (by simpa using hd)
theorem He {α :Type} {K :Elem α} {F :Nat→Prop} {w :World} : ∀ {l :List α} {CS :List (List Value)},CS.length=l.length→ (∀ (i :Nat) (x :α) (c :List Value),l[i]? =some x→CS[i]? =some c→K.R F w x c) →All K F w l CS.flatten
 | [],CS,h,_=>by have :=List.eq_nil_of_length_eq_zero h;subst this;rfl
 | a ::l,[],h,_=>by simp at h
 | a ::l,c ::CS,h,hr=> ⟨c,CS.flatten,rfl,hr 0 a c rfl rfl,He (by simpa using h) fun i x d hx hd=>hr (i+1) x d (by simpa using hx) (by simpa using hd)⟩
def Cc {α :Type} (p :Nat→Bool) :Nat→List α→List α
 | _,[] => []
 | i,a ::l=>if p i then Cc p (i+1) l else a ::Cc p (i+1) l
theorem Lk {α :Type} (p :Nat→Bool) : ∀ (l m :List α) (i :Nat),Cc p i (l++m) =Cc p i l++Cc p (i+l.length) m
 | [],m,i=>by simp [Cc]
 | a ::l,m,i=>by
  rw [List.cons_append,Cc,Cc,Lk p l m (i+1),List.length_cons,show i+1+l.length=i+ (l.length+1) by omega]
  split<;>simp
theorem Il {α :Type} (p :Nat→Bool) (l :List α) (j :Nat) (x :α) (h :l[j]? =some x) :Cc p 0 (l.take (j+1)) =Cc p 0 (l.take j) ++ (if p j then [] else [x]) :=by
 have hj := (List.getElem?_eq_some_iff.1 h).1
 rw [List.take_add_one,h,Lk]
 simp only [Option.toList_some,List.length_take,Nat.zero_add,Nat.min_eq_left (Nat.le_of_lt hj),Cc]
theorem H6 {α :Type} (p :Nat→Bool) : ∀ (l :List α) (i :Nat),(∀j,i≤j→j<i+l.length→p j=false) →Cc p i l=l
 | [],i,_=>rfl
 | a ::l,i,h=>by
  rw [Cc,if_neg (by rw [h i (Nat.le_refl _) (by simp)];decide),H6 p l (i+1) fun j h1 h2=>h j (by omega) (by simp;omega)]
theorem Kd (p :Nat→Bool) : ∀ (n i :Nat),Al p i n= -1→ ∀j,i≤j→j<i+n→p j=false
 | 0,i,_,j,h1,h2=>by omega
 | n+1,i,h,j,h1,h2=>by
  rw [Al] at h
  split at h
  ·omega
  ·rename_i hp
   by_cases hj :j=i
   ·subst hj;simpa using hp
   ·exact Kd p n (i+1) h j (by omega) (by omega)
theorem Ke (p :Nat→Bool) : ∀ (n i :Nat),Al p i n= -1∨ ∃m :Nat,Al p i n= (m :Int) ∧i≤m∧m<i+n∧p m=true∧ ∀j,i≤j→j<m→p j=false
 | 0,i=> .inl rfl
 | n+1,i=>by
  rw [Al]
  split
  ·rename_i hp
   exact .inr ⟨i,rfl,Nat.le_refl _,by omega,hp,fun j h1 h2=>by omega⟩
  ·rename_i hp
   rcases Ke p n (i+1) with h | ⟨m,h1,h2,h3,h4,h5⟩
   ·exact .inl h
   ·refine .inr ⟨m,h1,by omega,by omega,h4,fun j h6 h7=> ?_⟩
    by_cases hj :j=i
    ·subst hj;simpa using hp
    ·exact h5 j (by omega) h7
theorem E7 {CS :List (List Value)} {k :Nat} (h : ∀c∈CS,c.length=k) :CS.flatten.length=CS.length*k :=by
 induction CS with
 | nil=>simp
 | cons c CS ih=>
  rw [List.flatten_cons,List.length_append,ih fun x hx=>h x (by simp [hx]),h c (by simp),List.length_cons,Nat.add_mul];omega
theorem Jm {k :Nat} : ∀ {CS :List (List Value)},(∀c∈CS,c.length=k) → ∀ {i :Nat} {c :List Value},CS[i]? =some c→ ∀r u,c[r]? =some u→CS.flatten[i*k+r]? =some u
 | [],_,i,c,hc=>by simp at hc
 | d ::CS,h,0,c,hc=>fun r u hr=>by
  simp at hc;subst hc
  rw [List.flatten_cons,List.getElem?_append_left (by have := (List.getElem?_eq_some_iff.1 hr).1;omega)]
  simpa using hr
 | d ::CS,h,i+1,c,hc=>fun r u hr=>by
  have hd :=h d (by simp)
  rw [List.flatten_cons,List.getElem?_append_right (by rw [hd,Nat.add_mul];omega),hd,show (i+1) *k+r - k=i*k+r from by rw [Nat.add_mul];omega]
  exact Jm (fun x hx=>h x (by simp [hx])) (by simpa using hc) r u hr
end Go.Proofs.YtmgkcjiejmhgcaaGreatDoor


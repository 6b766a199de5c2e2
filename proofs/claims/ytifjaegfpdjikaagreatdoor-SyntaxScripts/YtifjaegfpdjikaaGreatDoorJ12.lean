/-
  7 texts of this proof in one, in build order: RHead, RSum, RSum2, RTest, RTest2, RTest3, RTest4.
-/
import Derived.Test.YtifjaegfpdjikaaGreatDoorJ11
set_option linter.unusedSimpArgs false
set_option linter.unusedVariables false
namespace Go.Proofs.YtifjaegfpdjikaaGreatDoor
open Go.RowKit
theorem Uo :Builder.Extra Tryz.prog Tryz.lays156_ren where
 sizeBuilder :=by kernel_rfl
 liesBuilder :=by kernel_rfl
 t5 :=Tryz.underlying5
 a5 :=Tryz.isAgg5
 z5 :=Tryz.sizeOf5
 v5 :=Tryz.zeroValue5
 infoByte :=by kernel_rfl
 cellsByte :=by kernel_rfl
 sizeByte :=by kernel_rfl
 neB5 :=by decide
def F0 (L :List Wd) :Wd := ⟨(Lib.join (L.map (·.data.toList)) [32]).toArray⟩
theorem Md (L :List Wd) : (F0 L).data.toList=Lib.join (L.map (·.data.toList)) [32] :=by simp [F0]
theorem Qx {x y :Wd} (h :x.data.toList=y.data.toList) :x=y :=by
 cases x;cases y;simp only at h;congr 1;exact Array.ext' h
theorem Adh {x k :Wd} :F0 [x] =F0 [k] ↔x=k :=by
 constructor
 ·intro h
  have h2 :=congrArg (fun w :Wd=>w.data.toList) h
  simp only [Md,List.map_cons,List.map_nil,Lib.join_one] at h2
  exact Qx h2
 ·rintro rfl;rfl
theorem Up : ∀ {a b c d :List UInt8},32∉a→32∉c→a++32 ::b=c++32 ::d→a=c∧b=d
 | [],b,[],d,_,_,h=>by simp at h;exact ⟨rfl,h⟩
 | [],b,y ::c,d,_,h2,h=>by simp at h;exact absurd h.1 (fun e=>h2 (by simp [e]))
 | x ::a,b,[],d,h1,_,h=>by simp at h;exact absurd h.1.symm (fun e=>h1 (by simp [←e]))
 | x ::a,b,y ::c,d,h1,h2,h=>by
  simp only [List.cons_append,List.cons.injEq] at h
  obtain ⟨e1,e2⟩ :=Up (fun m=>h1 (List.mem_cons_of_mem _ m)) (fun m=>h2 (List.mem_cons_of_mem _ m)) h.2
  exact ⟨by rw [h.1,e1],e2⟩
theorem Qy {l :List UInt8} (h :l.all A6=true) :32∉l :=by
 intro m
 have :=List.all_eq_true.1 h _ m
 revert this;decide
theorem Xz {x y k1 k2 :Wd} (hx :IsTok x) (hk :k1.data.toList.all A6=true) (hf :fst A6 k1=true) :F0 [x,y] =F0 [k1,k2] ↔x=k1∧y=k2 :=by
 constructor
 ·intro h
  have h2 :=congrArg (fun w :Wd=>w.data.toList) h
  simp only [Md,List.map_cons,List.map_nil,Lib.join_cons,Lib.joinTail,List.flatten_cons,List.flatten_nil,List.append_nil,List.singleton_append] at h2
  have e0 :=Dt x hx.pos
  have e1 :=Dt k1 (Ia hf)
  have e2 :x[0]'hx.pos=k1[0]'(Ia hf) :=by
   rw [e0,e1] at h2
   simp only [List.cons_append,List.cons.injEq] at h2
   exact h2.1
  have hl :fst A6 x=true :=by
   rw [Ds hx.pos,e2,←Ds (f :=A6) (Ia hf)];exact hf
  obtain ⟨h3,h4⟩ :=Up (Qy (hx.ltr hl)) (Qy hk) h2
  exact ⟨Qx h3,Qx h4⟩
 ·rintro ⟨rfl,rfl⟩;rfl
structure IsHead (T :Wd) (K :List Wd) :Prop where
 lo :0<K.length
 hi :K.length≤2
 size :T.size≤100
 ascii : ∀ (j :Nat) b,T.data.toList[j]? =some b→b.toNat<128
 fields :Lib.fields T.data.toList=K.map (·.data.toList)
 joins : ∀L,Whole L→L.length=K.length→ (F0 L=T↔L=K)
theorem Qz {k :Wd} (h1 :k.size≤100) (h2 : ∀ (j :Nat) b,k.data.toList[j]? =some b→b.toNat<128) (h3 :Lib.fields k.data.toList= [k.data.toList]) :IsHead k [k] :=by
 have hj :F0 [k] =k :=by apply Qx;rw [Md];simp [Lib.join_one]
 refine ⟨by simp,by simp,h1,h2,h3,fun L _ hL=> ?_⟩
 match L,hL with
 | [x],_=>
  constructor
  ·intro h;rw [←hj] at h;rw [Adh.1 h]
  ·intro h;cases h;exact hj
theorem Jm {k1 k2 :Wd} {T :Wd} (hT :T=F0 [k1,k2]) (h1 :T.size≤100) (h2 : ∀ (j :Nat) b,T.data.toList[j]? =some b→b.toNat<128) (h3 :Lib.fields T.data.toList= [k1.data.toList,k2.data.toList]) (hk :k1.data.toList.all A6=true) (hf :fst A6 k1=true) :IsHead T [k1,k2] :=by
 refine ⟨by simp,by simp,h1,h2,h3,fun L hw hL=> ?_⟩
 match L,hL with
 | [x,y],_=>
  rw [hT,Xz (hw x (by simp)).1 hk hf]
  simp
theorem Iz {l :List UInt8} (h :l.all (fun b=>decide (b.toNat<128)) =true) : ∀ (j :Nat) b,l[j]? =some b→b.toNat<128 :=fun j b hb=>by
 have :=List.all_eq_true.1 h b (List.mem_of_getElem? hb)
 simpa using this
abbrev Acy :Wd := ⟨#[99,114,101,97,116,101,32,116,97,98,108,101]⟩
abbrev Acz :Wd := ⟨#[99,114,101,97,116,101,32,105,110,100,101,120]⟩
abbrev Adi :Wd := ⟨#[100,114,111,112,32,116,97,98,108,101]⟩
abbrev Aca :Wd := ⟨#[105,110,115,101,114,116,32,105,110,116,111]⟩
abbrev Acb :Wd := ⟨#[100,101,108,101,116,101,32,102,114,111,109]⟩
theorem Ch :IsHead Acy [Au,A5] :=Jm (by rfl) (by decide) (Iz (by decide)) (by decide) (by decide) (by decide)
theorem Dh :IsHead Acz [Au,B7] :=Jm (by rfl) (by decide) (Iz (by decide)) (by decide) (by decide) (by decide)
theorem Gi :IsHead Adi [Cg,A5] :=Jm (by rfl) (by decide) (Iz (by decide)) (by decide) (by decide) (by decide)
theorem Hg :IsHead Aca [Bv,E6] :=Jm (by rfl) (by decide) (Iz (by decide)) (by decide) (by decide) (by decide)
theorem Ke :IsHead Acb [Cb,Az] :=Jm (by rfl) (by decide) (Iz (by decide)) (by decide) (by decide) (by decide)
theorem Me :IsHead Cc [Cc] :=Qz (by decide) (Iz (by decide)) (by decide)
theorem Pg :IsHead Ck [Ck] :=Qz (by decide) (Iz (by decide)) (by decide)
theorem So {b off cap k :Nat} {L :List Wd} (h0 :0<k) (hk :k≤L.length) : (cap=k∧ ∀W,Ak W (.slice (some ⟨b,off,none⟩) L.length cap) L→Ak W (.slice (some ⟨b,off,none⟩) 0 0) (L.drop k)) ∨ (¬cap=k∧ ∀W,Ak W (.slice (some ⟨b,off,none⟩) L.length cap) L→Ak W (.slice (some ⟨b,off+k,none⟩) (L.length - k) (cap - k)) (L.drop k)) :=by
 obtain ⟨i,rfl⟩ : ∃i,k=i+1 := ⟨k - 1,by omega⟩
 exact Kr (by omega)
set_option maxRecDepth 100000 in
set_option maxHeartbeats 4000000 in
theorem X1 (T :Wd) (K :List Wd) (hH :IsHead T K) (p :Nat) (ao :Option Addr) (n cap :Nat) (w :World) (he :Env w) (hp :w.heap[p]? =some (.cells #[.slice ao n cap] 32)) (hn :n<K.length) :
  Calls Tryz.prog 27 #[.string T, .pointer (some ⟨p,0,none⟩)] w fun e w'=>e= .returned (.bool false) ∧Below w.heap.size w w' :=by
 have FI :=Any.strings_Fields Tryz.lays157 (by kernel_rfl) (by kernel_rfl) T w (by have :=hH.size;omega) hH.ascii he.tab
 rw [hH.fields] at FI
 simp only [List.length_map] at FI
 have hhi :=hH.hi
 generalize hW :w.alloc (.cells ((K.map (·.data.toList)).map fun l=>Value.string ⟨l.toArray⟩).toArray 9) =W
 have FI2 :Calls Tryz.prog 28 #[.string T] w fun e w'=>e= .returned (.slice (some ⟨w.heap.size,0,none⟩) K.length K.length) ∧w'=W :=FI.mono fun e w' ⟨h1,h2⟩ => ⟨h1,h2.trans hW⟩
 clear FI
 have hb0 :Below w.heap.size w W :=by rw [←hW];exact (Below.refl _ _).alloc (Nat.le_refl _) _
 have c0 :W.cell? ⟨p,0,none⟩ =some (.slice ao n cap) :=by rw [←hW];exact Aa (Ae hp _) rfl
 have q : (n :Int) < (K.length :Int) :=by omega
 clear hW
 go_enter Tryz.func27,Tryz.ntmps27
 go_wp2_with (go_at_call 28;go_must (go_fit FI2;rintro e w1 ⟨rfl,rfl⟩))
 go_ret
 exact ⟨rfl,hb0⟩
theorem Wr (L :List Wd) (hw :Whole L) (hl :L.length≤2) : (Lib.join (L.map (·.data.toList)) [32]).length≤140737488355328 :=by
 have hz : ∀x∈L,x.data.toList.length≤1500 :=fun x hx=>by have := (hw x hx).2;rw [Bi];exact this
 match L,hl,hz with
 | [],_,_=>simp [Lib.join_nil]
 | [x],_,hz=>have :=hz x (by simp);simp only [List.map_cons,List.map_nil,Lib.join_one];omega
 | [x,y],_,hz=>
  have h1 :=hz x (by simp)
  have h2 :=hz y (by simp)
  simp only [List.map_cons,List.map_nil,Lib.join_cons,Lib.joinTail,List.flatten_cons,List.flatten_nil,List.append_nil,List.length_append,List.length_cons,List.length_nil]
  omega
set_option maxRecDepth 100000 in
set_option maxHeartbeats 4000000 in
theorem Acc (T :Wd) (K :List Wd) (hH :IsHead T K) (p :Nat) (sl :Value) (L :List Wd) (w0 w :World) (he :Env w) (hL :Ak w0 sl L) (hw :Whole L) (hb :Below w0.heap.size w0 w) (hp :w.heap[p]? =some (.cells #[sl] 32)) (hk :K.length≤L.length) (hK :L.take K.length≠K) :
  Calls Tryz.prog 27 #[.string T, .pointer (some ⟨p,0,none⟩)] w fun e w'=>e= .returned (.bool false) ∧Below w.heap.size w w' :=by
 have FI :=Any.strings_Fields Tryz.lays157 (by kernel_rfl) (by kernel_rfl) T w (by have :=hH.size;omega) hH.ascii he.tab
 rw [hH.fields] at FI
 simp only [List.length_map] at FI
 have hhi :=hH.hi
 have hlo :=hH.lo
 have hjo :=hH.joins (L.take K.length) (hw.take _) (by simp;omega)
 have hjl :=Wr (L.take K.length) (hw.take _) (by simp;omega)
 generalize hW :w.alloc (.cells ((K.map (·.data.toList)).map fun l=>Value.string ⟨l.toArray⟩).toArray 9) =W
 have FI2 :Calls Tryz.prog 28 #[.string T] w fun e w'=>e= .returned (.slice (some ⟨w.heap.size,0,none⟩) K.length K.length) ∧w'=W :=FI.mono fun e w' ⟨h1,h2⟩ => ⟨h1,h2.trans hW⟩
 clear FI
 have hb0 :Below w.heap.size w W :=by rw [←hW];exact (Below.refl _ _).alloc (Nat.le_refl _) _
 have hpW :W.heap[p]? =some (.cells #[sl] 32) :=by rw [←hW];exact Ae hp _
 have hbW :Below w0.heap.size w0 W :=hb.trans (hb0.mono hb.size)
 clear hW
 obtain ⟨b,off,cap,rfl,hcap,hcell⟩ :=A0 (hL.below hbW) (by omega)
 have hbl := (A7 hL (by omega)).1
 have c0 :W.cell? ⟨p,0,none⟩ =some (.slice (some ⟨b,off,none⟩) L.length cap) :=Aa hpW rfl
 have JO :=Any.strings_Join Tryz.lays156 Uo b off cap (L.take K.length) ⟨#[32]⟩ W (fun j x hj=>hcell j x (by rw [List.getElem?_take] at hj;split at hj;exact hj;cases hj)) (Nat.lt_of_lt_of_le hbl hbW.size) (by simp;omega) (by simp;omega) hjl
 rw [show (L.take K.length).length=K.length from by simp;omega] at JO
 have JO2 :Calls Tryz.prog 29 #[.slice (some ⟨b,off,none⟩) K.length cap, .string ⟨#[32]⟩] W fun e w'=>e= .returned (.string (F0 (L.take K.length))) ∧Below W.heap.size W w' :=JO
 clear JO
 have q : ¬ (L.length :Int) < (K.length :Int) :=by omega
 have q1 : (K.length :Int) ≤ (cap :Int) :=by omega
 have q2 : (K.length :Int) ≤ (L.length :Int) :=by omega
 have hj : ((F0 (L.take K.length)).toList==T.toList) =false :=by rw [Jv];simpa using fun h=>hK (hjo.1 h)
 generalize F0 (L.take K.length) =J at JO2 hj
 clear hjo hjl hcell hL hp
 generalize L.length=nn at*
 go_enter Tryz.func27,Tryz.ntmps27
 go_wp2_with (first
  | (go_at_call 28;go_must (go_fit FI2;rintro e w1 ⟨rfl,rfl⟩))
  | (go_at_call 29;go_must (go_fit JO2;rintro e w2 ⟨rfl,hb2⟩)))
 go_ret
 exact ⟨rfl,hb0.trans (hb2.mono hb0.size)⟩
set_option maxRecDepth 100000 in
set_option maxHeartbeats 4000000 in
theorem Abb (T :Wd) (K :List Wd) (hH :IsHead T K) (p :Nat) (sl :Value) (L :List Wd) (w0 w :World) (he :Env w) (hL :Ak w0 sl L) (hw :Whole L) (hb :Below w0.heap.size w0 w) (hp :w.heap[p]? =some (.cells #[sl] 32)) (hk :K.length≤L.length) (hK :L.take K.length=K) :
  Calls Tryz.prog 27 #[.string T, .pointer (some ⟨p,0,none⟩)] w fun e w'=>e= .returned (.bool true) ∧ ∃ao n c,w'.heap[p]? =some (.cells #[.slice ao n c] 32) ∧Ak w0 (.slice ao n c) (L.drop K.length) ∧But p w w' :=by
 have FI :=Any.strings_Fields Tryz.lays157 (by kernel_rfl) (by kernel_rfl) T w (by have :=hH.size;omega) hH.ascii he.tab
 rw [hH.fields] at FI
 simp only [List.length_map] at FI
 have hhi :=hH.hi
 have hlo :=hH.lo
 have hjo :=hH.joins (L.take K.length) (hw.take _) (by simp;omega)
 have hjl :=Wr (L.take K.length) (hw.take _) (by simp;omega)
 generalize hW :w.alloc (.cells ((K.map (·.data.toList)).map fun l=>Value.string ⟨l.toArray⟩).toArray 9) =W
 have FI2 :Calls Tryz.prog 28 #[.string T] w fun e w'=>e= .returned (.slice (some ⟨w.heap.size,0,none⟩) K.length K.length) ∧w'=W :=FI.mono fun e w' ⟨h1,h2⟩ => ⟨h1,h2.trans hW⟩
 clear FI
 have hb0 :Below w.heap.size w W :=by rw [←hW];exact (Below.refl _ _).alloc (Nat.le_refl _) _
 have hpW :W.heap[p]? =some (.cells #[sl] 32) :=by rw [←hW];exact Ae hp _
 have hbW :Below w0.heap.size w0 W :=hb.trans (hb0.mono hb.size)
 clear hW
 obtain ⟨b,off,cap,rfl,hcap,hcell⟩ :=A0 (hL.below hbW) (by omega)
 have hbl := (A7 hL (by omega)).1
 have c0 :W.cell? ⟨p,0,none⟩ =some (.slice (some ⟨b,off,none⟩) L.length cap) :=Aa hpW rfl
 have JO :=Any.strings_Join Tryz.lays156 Uo b off cap (L.take K.length) ⟨#[32]⟩ W (fun j x hj=>hcell j x (by rw [List.getElem?_take] at hj;split at hj;exact hj;cases hj)) (Nat.lt_of_lt_of_le hbl hbW.size) (by simp;omega) (by simp;omega) hjl
 rw [show (L.take K.length).length=K.length from by simp;omega] at JO
 have JO2 :Calls Tryz.prog 29 #[.slice (some ⟨b,off,none⟩) K.length cap, .string ⟨#[32]⟩] W fun e w'=>e= .returned (.string (F0 (L.take K.length))) ∧Below W.heap.size W w' :=JO
 clear JO
 have q : ¬ (L.length :Int) < (K.length :Int) :=by omega
 have q1 : (K.length :Int) ≤ (cap :Int) :=by omega
 have q2 : (K.length :Int) ≤ (L.length :Int) :=by omega
 have hj : ((F0 (L.take K.length)).toList==T.toList) =true :=by rw [Jv];simpa using hjo.2 hK
 generalize F0 (L.take K.length) =J at JO2 hj
 have hlp :=lt_of_block hpW
 have key :=So (b :=b) (off :=off) (cap :=cap) hlo hk
 have HL :Hid _ :=hL
 clear hjo hjl hcell hL hp hK
 rcases key with ⟨hcp,hdr⟩ | ⟨hcp,hdr⟩
 ·have HD :Hid _ :=hdr w0 HL.out
  clear hdr HL
  subst hcp
  generalize L.length=nn at*
  go_enter Tryz.func27,Tryz.ntmps27
  go_wp2_with (first
   | (go_at_call 28;go_must (go_fit FI2;rintro e w1 ⟨rfl,rfl⟩))
   | (go_at_call 29;go_must (go_fit JO2;rintro e w2 ⟨rfl,hb2⟩;have h2 := (hb2.block _ hlp).trans hpW;have d0 :w2.cell? ⟨p,0,none⟩ =some _ :=Aa h2 (j :=0) rfl;have fz :=Ab h2 0)))
  go_ret
  exact ⟨rfl,_,_,_,upd h2 0 _,HD.out,((But.of_below (hb0.trans (hb2.mono hb0.size)))).set 0 _⟩
 ·have HD :Hid _ :=hdr w0 HL.out
  clear hdr HL
  generalize L.length=nn at*
  go_enter Tryz.func27,Tryz.ntmps27
  go_wp2_with (first
   | (go_at_call 28;go_must (go_fit FI2;rintro e w1 ⟨rfl,rfl⟩))
   | (go_at_call 29;go_must (go_fit JO2;rintro e w2 ⟨rfl,hb2⟩;have h2 := (hb2.block _ hlp).trans hpW;have d0 :w2.cell? ⟨p,0,none⟩ =some _ :=Aa h2 (j :=0) rfl;have fz :=Ab h2 0)))
  go_ret
  exact ⟨rfl,_,_,_,upd h2 0 _,HD.out,((But.of_below (hb0.trans (hb2.mono hb0.size)))).set 0 _⟩
end Go.Proofs.YtifjaegfpdjikaaGreatDoor

namespace Go.Proofs.YtifjaegfpdjikaaGreatDoor
open Go.RowKit
def Eo (L :List Wd) (k :Nat) :Option Wd :=if k=0 then none else L[k - 1]?
set_option maxRecDepth 100000 in
set_option maxHeartbeats 4000000 in
theorem Q0 (R :Option Nat) (RA RB :Option E) (o :Int) (AT :Option E) (d :Int) (b off cap :Nat) (L :List Wd) (w :World) (h0 :0<L.length) (hl :L.length≤1600) (hL :Ak w (.slice (some ⟨b,off,none⟩) L.length cap) L) (hR :Mj L=R)
  (hA :R=none→ ∀W,Below w.heap.size w W→Calls Tryz.prog 114 #[.slice (some ⟨b,off,none⟩) L.length cap, .int .i64 d] W (Bj AT W))
  (hS : ∀i,R=some i→i<L.length∧o=Im (L.getD i noW) ∧ (∀W,Below w.heap.size w W→Calls Tryz.prog 104 #[.slice (some ⟨b,off,none⟩) i cap, .int .i64 d] W (Bj RA W)) ∧ (∀W sl,Below w.heap.size w W→Ak W sl (L.drop (i+1)) →Calls Tryz.prog 114 #[sl, .int .i64 d] W (Bj RB W))) :
  Calls Tryz.prog 104 #[.slice (some ⟨b,off,none⟩) L.length cap, .int .i64 d] w (Bj (match R with | none=>AT | some _=>RA.bind fun a=>RB.map fun b=>Cd o [a,b]) w) :=by
 obtain ⟨p1,p2,p3,p4⟩ :=A7 hL h0
 generalize hW :w.alloc (.cells Ap 37) =W
 have HW :Hid _ :=hW
 have hb0 :Below w.heap.size w W :=by rw [←hW];exact (Below.refl _ _).alloc (Nat.le_refl _) _
 have b0 :W.heap[w.heap.size]? =some (.cells Ap 37) :=by rw [←hW];exact Ad w _
 have hWs :W.heap.size=w.heap.size+1 :=by rw [←hW,World.size_alloc]
 clear hW
 have HL :Hid (∀i s,L[i]? =some s→W.cell? ⟨b,off+i,none⟩ =some (.string s)) :=fun i s h=> (A7 (hL.below hb0) h0).2.2.2 i s h
 have AF :Hid (R=none→Calls Tryz.prog 114 #[.slice (some ⟨b,off,none⟩) L.length cap, .int .i64 d] W (Bj AT W)) :=fun h=>hA h W hb0
 have SF :Hid _ :=hS
 have HLs :Hid (∀W,Below w.heap.size w W→Ak W (.slice (some ⟨b,off,none⟩) L.length cap) L) :=fun W h=>hL.below h
 have HC0 :Hid (R=B8 0 0 none (Eo L 0) (L.drop 0)) :=hR.symm
 clear hA hS hL hR p1 p3 p4
 generalize hn :L.length=n at*
 have HN :Hid _ :=hn
 clear hn
 go_enter Tryz.func104,Tryz.ntmps104
 go_wp2_with fail
 rw [HW.out]
 go_loop [6,7,18] (fun dv p i=> ∃ (dd :Int) (pp :Option Nat) (k :Nat),k≤n∧i= .int .i64 k∧dv= .int .i64 dd∧p= .int .i64 (D9 pp) ∧ -(k :Int) ≤dd∧dd≤k∧Hid (R=B8 dd k pp (Eo L k) (L.drop k))) (fun _ _ i=>n - (intOf i).toNat)
 case atStart=>exact ⟨0,none,0,Nat.zero_le _,rfl,rfl,rfl,by omega,by omega,HC0⟩
 case round=>
  obtain ⟨dd,pp,k,hk,rfl,rfl,rfl,hd1,hd2,HR⟩ :=hrel
  by_cases hlt :k<n
  ·obtain ⟨x,hx⟩ : ∃x,L[k]? =some x := ⟨_,List.getElem?_eq_getElem (by rw [HN.out];exact hlt)⟩
   have hc :=HL.out k x hx
   have j0 : (0 :Int) ≤ (k :Int) :=by omega
   have j1 : (k :Int) < (n :Int) :=by omega
   have HC :Hid (R=B8 (Cp dd x) (k+1) (if (x=Ef∨x=Bd) ∧dd=0∧G0 (Eo L k) =true then some k else pp) (Eo L (k+1)) (L.drop (k+1))) :=by
    show _=_
    have e :Eo L (k+1) =some x :=by rw [Eo,if_neg (by omega),Nat.add_sub_cancel,hx]
    rw [HR.out,Kq hx,B8,e]
   clear hx HR AF SF HC0
   by_cases hop :x=As
   ·have e1 : (x.toList== [40]) =true :=by rw [An];simpa using hop
    have hpm : ¬ (x=Ef∨x=Bd) :=by rw [hop];decide
    have HN2 :Hid (R=B8 (dd+1) (k+1) pp (Eo L (k+1)) (L.drop (k+1))) :=by
     show _=_
     rw [HC.out,if_neg (fun h=>hpm h.1),Cp,if_pos hop]
    clear HC hop hpm
    go_wp2_with fail
    all_goals
     go_round
     case rel=>exact ⟨dd+1,pp,k+1,by omega,by first | rfl | go_num,by first | rfl | go_num,rfl,by omega,by omega,HN2⟩
     case measure=>simp [intOf];omega
   have e1 : (x.toList== [40]) =false :=by rw [An];simpa using hop
   by_cases hcl :x=Aq
   ·have e2 : (x.toList== [41]) =true :=by rw [An];simpa using hcl
    have hpm : ¬ (x=Ef∨x=Bd) :=by rw [hcl];decide
    have HN2 :Hid (R=B8 (dd - 1) (k+1) pp (Eo L (k+1)) (L.drop (k+1))) :=by
     show _=_
     rw [HC.out,if_neg (fun h=>hpm h.1),Cp,if_neg hop,if_pos hcl]
    clear HC hop hcl hpm
    go_wp2_with fail
    all_goals
     go_round
     case rel=>exact ⟨dd - 1,pp,k+1,by omega,by first | rfl | go_num,by first | rfl | go_num,rfl,by omega,by omega,HN2⟩
     case measure=>simp [intOf];omega
   have e2 : (x.toList== [41]) =false :=by rw [An];simpa using hcl
   by_cases h43 :x=Ef
   ·have e3 : (x.toList== [43]) =true :=by rw [An];simpa using h43
    have hpm :x=Ef∨x=Bd := .inl h43
    clear h43
    have edd :Cp dd x=dd :=by rw [Cp,if_neg hop,if_neg hcl]
    by_cases hk0 :k=0
    ·have z0 : ¬ (0 :Int) < (k :Int) :=by omega
     have HN2 :Hid (R=B8 dd (k+1) pp (Eo L (k+1)) (L.drop (k+1))) :=by
      show _=_
      rw [HC.out,edd,if_neg (fun h=>by have :=h.2.2;rw [hk0] at this;simp [Eo,G0] at this)]
     clear HC edd hop hcl hpm z0
     subst hk0
     have hc0 :W.cell? ⟨b,off,none⟩ =some (.string x) :=hc
     go_wp2_with fail
     all_goals
      go_round
      case rel=>exact ⟨dd,pp,0+1,by omega,by first | rfl | go_num,by first | rfl | go_num,rfl,by omega,by omega,HN2⟩
      case measure=>simp [intOf];omega
    ·have z0 : (0 :Int) < (k :Int) :=by omega
     obtain ⟨y,hy⟩ : ∃y,L[k - 1]? =some y := ⟨_,List.getElem?_eq_getElem (by rw [HN.out];omega)⟩
     have hcy :=HL.out (k - 1) y hy
     have hpv :Eo L k=some y :=by rw [Eo,if_neg hk0,hy]
     rw [hpv] at HC
     by_cases hy1 :y=Ef
     ·have ey : (y.toList== [43]) =true :=by rw [An];simpa using hy1
      have HN2 :Hid (R=B8 dd (k+1) pp (Eo L (k+1)) (L.drop (k+1))) :=by
       show _=_
       rw [HC.out,edd,if_neg (fun h=>by have :=h.2.2;simp [G0,hy1] at this)]
      clear HC edd hop hcl hpm hpv hy hy1
      go_wp2_with fail
      all_goals
       go_round
       case rel=>exact ⟨dd,pp,k+1,by omega,by first | rfl | go_num,by first | rfl | go_num,rfl,by omega,by omega,HN2⟩
       case measure=>simp [intOf];omega
     ·have ey : (y.toList== [43]) =false :=by rw [An];simpa using hy1
      by_cases hy2 :y=Bd
      ·have ey2 : (y.toList== [45]) =true :=by rw [An];simpa using hy2
       have HN2 :Hid (R=B8 dd (k+1) pp (Eo L (k+1)) (L.drop (k+1))) :=by
        show _=_
        rw [HC.out,edd,if_neg (fun h=>by have :=h.2.2;simp [G0,hy2] at this)]
       clear HC edd hop hcl hpm hpv hy hy1 hy2
       go_wp2_with fail
       all_goals
        go_round
        case rel=>exact ⟨dd,pp,k+1,by omega,by first | rfl | go_num,by first | rfl | go_num,rfl,by omega,by omega,HN2⟩
        case measure=>simp [intOf];omega
      ·have ey2 : (y.toList== [45]) =false :=by rw [An];simpa using hy2
       by_cases hd0 :dd=0
       ·have HN2 :Hid (R=B8 dd (k+1) (some k) (Eo L (k+1)) (L.drop (k+1))) :=by
         show _=_
         rw [HC.out,edd,if_pos ⟨hpm,hd0,by simp [G0,hy1,hy2]⟩]
        have hdb : (dd==0) =true :=by simpa using hd0
        clear HC edd hop hcl hpm hpv hy hy1 hy2
        go_wp2_with fail
        all_goals
         go_round
         case rel=>exact ⟨dd,some k,k+1,by omega,by first | rfl | go_num,by first | rfl | go_num,rfl,by omega,by omega,HN2⟩
         case measure=>simp [intOf];omega
       ·have HN2 :Hid (R=B8 dd (k+1) pp (Eo L (k+1)) (L.drop (k+1))) :=by
         show _=_
         rw [HC.out,edd,if_neg (fun h=>hd0 h.2.1)]
        have hdb : (dd==0) =false :=by simpa using hd0
        clear HC edd hop hcl hpm hpv hy hy1 hy2
        go_wp2_with fail
        all_goals
         go_round
         case rel=>exact ⟨dd,pp,k+1,by omega,by first | rfl | go_num,by first | rfl | go_num,rfl,by omega,by omega,HN2⟩
         case measure=>simp [intOf];omega
   have e3 : (x.toList== [43]) =false :=by rw [An];simpa using h43
   by_cases h45 :x=Bd
   ·have e4 : (x.toList== [45]) =true :=by rw [An];simpa using h45
    have hpm :x=Ef∨x=Bd := .inr h45
    clear h43 h45
    have edd :Cp dd x=dd :=by rw [Cp,if_neg hop,if_neg hcl]
    by_cases hk0 :k=0
    ·have z0 : ¬ (0 :Int) < (k :Int) :=by omega
     have HN2 :Hid (R=B8 dd (k+1) pp (Eo L (k+1)) (L.drop (k+1))) :=by
      show _=_
      rw [HC.out,edd,if_neg (fun h=>by have :=h.2.2;rw [hk0] at this;simp [Eo,G0] at this)]
     clear HC edd hop hcl hpm z0
     subst hk0
     have hc0 :W.cell? ⟨b,off,none⟩ =some (.string x) :=hc
     go_wp2_with fail
     all_goals
      go_round
      case rel=>exact ⟨dd,pp,0+1,by omega,by first | rfl | go_num,by first | rfl | go_num,rfl,by omega,by omega,HN2⟩
      case measure=>simp [intOf];omega
    ·have z0 : (0 :Int) < (k :Int) :=by omega
     obtain ⟨y,hy⟩ : ∃y,L[k - 1]? =some y := ⟨_,List.getElem?_eq_getElem (by rw [HN.out];omega)⟩
     have hcy :=HL.out (k - 1) y hy
     have hpv :Eo L k=some y :=by rw [Eo,if_neg hk0,hy]
     rw [hpv] at HC
     by_cases hy1 :y=Ef
     ·have ey : (y.toList== [43]) =true :=by rw [An];simpa using hy1
      have HN2 :Hid (R=B8 dd (k+1) pp (Eo L (k+1)) (L.drop (k+1))) :=by
       show _=_
       rw [HC.out,edd,if_neg (fun h=>by have :=h.2.2;simp [G0,hy1] at this)]
      clear HC edd hop hcl hpm hpv hy hy1
      go_wp2_with fail
      all_goals
       go_round
       case rel=>exact ⟨dd,pp,k+1,by omega,by first | rfl | go_num,by first | rfl | go_num,rfl,by omega,by omega,HN2⟩
       case measure=>simp [intOf];omega
     ·have ey : (y.toList== [43]) =false :=by rw [An];simpa using hy1
      by_cases hy2 :y=Bd
      ·have ey2 : (y.toList== [45]) =true :=by rw [An];simpa using hy2
       have HN2 :Hid (R=B8 dd (k+1) pp (Eo L (k+1)) (L.drop (k+1))) :=by
        show _=_
        rw [HC.out,edd,if_neg (fun h=>by have :=h.2.2;simp [G0,hy2] at this)]
       clear HC edd hop hcl hpm hpv hy hy1 hy2
       go_wp2_with fail
       all_goals
        go_round
        case rel=>exact ⟨dd,pp,k+1,by omega,by first | rfl | go_num,by first | rfl | go_num,rfl,by omega,by omega,HN2⟩
        case measure=>simp [intOf];omega
      ·have ey2 : (y.toList== [45]) =false :=by rw [An];simpa using hy2
       by_cases hd0 :dd=0
       ·have HN2 :Hid (R=B8 dd (k+1) (some k) (Eo L (k+1)) (L.drop (k+1))) :=by
         show _=_
         rw [HC.out,edd,if_pos ⟨hpm,hd0,by simp [G0,hy1,hy2]⟩]
        have hdb : (dd==0) =true :=by simpa using hd0
        clear HC edd hop hcl hpm hpv hy hy1 hy2
        go_wp2_with fail
        all_goals
         go_round
         case rel=>exact ⟨dd,some k,k+1,by omega,by first | rfl | go_num,by first | rfl | go_num,rfl,by omega,by omega,HN2⟩
         case measure=>simp [intOf];omega
       ·have HN2 :Hid (R=B8 dd (k+1) pp (Eo L (k+1)) (L.drop (k+1))) :=by
         show _=_
         rw [HC.out,edd,if_neg (fun h=>hd0 h.2.1)]
        have hdb : (dd==0) =false :=by simpa using hd0
        clear HC edd hop hcl hpm hpv hy hy1 hy2
        go_wp2_with fail
        all_goals
         go_round
         case rel=>exact ⟨dd,pp,k+1,by omega,by first | rfl | go_num,by first | rfl | go_num,rfl,by omega,by omega,HN2⟩
         case measure=>simp [intOf];omega
   have e4 : (x.toList== [45]) =false :=by rw [An];simpa using h45
   have HN2 :Hid (R=B8 dd (k+1) pp (Eo L (k+1)) (L.drop (k+1))) :=by
    show _=_
    rw [HC.out,if_neg (fun h=>h.1.elim h43 h45),Cp,if_neg hop,if_neg hcl]
   clear HC hop hcl h43 h45
   go_wp2_with fail
   all_goals
    go_round
    case rel=>exact ⟨dd,pp,k+1,by omega,by first | rfl | go_num,by first | rfl | go_num,rfl,by omega,by omega,HN2⟩
    case measure=>simp [intOf];omega
  ·have j1 : ¬ (k :Int) < (n :Int) :=by omega
   have hRp :R=pp :=by rw [HR.out,List.drop_eq_nil_of_le (by rw [HN.out];omega),B8]
   clear HR
   subst hRp
   cases R with
   | none=>
    rw [show D9 none= (-1 :Int) from rfl]
    have AM :=AF.out rfl
    clear AF SF HC0
    go_wp2_with (go_at_call 114;go_must (go_fit AM;rintro e w2 ⟨v,ok,x,rfl,hE,hR,hb2⟩;have HR2 :Hid _ :=hR;clear hR;have b2 := (hb2.block _ (lt_of_block b0)).trans b0;obtain ⟨op,xv,xs,nmv,xn,ao,kk,c,rfl⟩ :=hE.shape;obtain ⟨xk,xi,xs2⟩ :=xv;obtain ⟨⟨r0,r1,r2,r3,r4,r5,r6,r7⟩,f0,f1,f2,f3,f4,f5,f6,f7⟩ :=Ca b2))
    obtain ⟨hN,hBN⟩ :=Ih hb0 (by omega) hb2 hE
    exact bodyPost_ret (v := .tuple #[.agg #[.int .i64 op, .int .i64 xk, .int .i64 xi, .string xs2, .string xs, .string nmv, .int .i64 xn, .slice ao kk c], .bool ok]) (by simp [results,Tryz.results104,go_sem,r0,r1,r2,r3,r4,r5,r6,r7]) rfl ⟨_,_,_,rfl,hN,HR2.out,hBN⟩
   | some i=>
    rw [show D9 (some i) = (i :Int) from rfl]
    obtain ⟨hil,ho,hSI,hTF⟩ :=SF.out i rfl
    obtain ⟨y,hy⟩ : ∃y,L[i]? =some y := ⟨_,List.getElem?_eq_getElem (by rw [HN.out];exact hil)⟩
    have hcy :=HL.out i y hy
    have hoy :o=Im y :=by rw [ho,List.getD_eq_getElem?_getD,hy];rfl
    have IH :=hSI W hb0
    have q0 : (0 :Int) ≤ (i :Int) :=by omega
    have q1 : (i :Int) +1≤ (n :Int) :=by omega
    have q2 : (i :Int) < (n :Int) :=by omega
    have HTF :Hid _ :=hTF
    clear hTF hSI AF SF HC0 ho hy
    have key :=Kr (b :=b) (off :=off) (cap :=cap) (L :=L) (i :=i) (by rw [HN.out];exact hil)
    rw [HN.out] at key
    rcases key with ⟨rfl,hdr⟩ | ⟨hcp,hdr⟩
    all_goals
     have TF :=fun W (h1 :Below w.heap.size w W) =>HTF.out W _ h1 (hdr W (HLs.out W h1))
     clear HTF hdr
     by_cases hmy :y=Bd
     ·have ey : (y.toList== [45]) =true :=by rw [An];simpa using hmy
      have ho4 :o=4 :=by rw [hoy,Im,if_pos hmy]
      subst ho4
      clear hoy hmy
      go_wp2_with (first
       | (go_at_call 104;go_must (go_fit IH;rintro e w2 ⟨v,ok,x,rfl,hE,hR,hb2⟩;have HR :Hid _ :=hR;clear hR;have b2 := (hb2.block _ (lt_of_block b0)).trans b0;obtain ⟨op,xv,xs,nmv,xn,ao,kk,c,rfl⟩ :=hE.shape;obtain ⟨xk,xi,xs2⟩ :=xv;have hbB :Below w.heap.size w w2 :=hb0.trans (hb2.mono hb0.size);have TM :=TF (w2.alloc (.cells #[.int .i64 op, .int .i64 xk, .int .i64 xi, .string xs2, .string xs, .string nmv, .int .i64 xn, .slice ao kk c] 37)) (hbB.alloc hbB.size _)))
       | (go_at_call 114;go_must (go_fit TM;rintro e w3 ⟨v2,ok2,x2,rfl,hE2,hR2,hb3⟩;have HR2 :Hid _ :=hR2;clear hR2;obtain ⟨op2,yv,ys,nm2,yn,ao2,k2,c2,rfl⟩ :=hE2.shape;obtain ⟨yk,yi,ys2⟩ :=yv;have b3 := (hb3.block _ (lt_of_block (Ae b2 (.cells #[.int .i64 op, .int .i64 xk, .int .i64 xi, .string xs2, .string xs, .string nmv, .int .i64 xn, .slice ao kk c] 37)))).trans (Ae b2 (.cells #[.int .i64 op, .int .i64 xk, .int .i64 xi, .string xs2, .string xs, .string nmv, .int .i64 xn, .slice ao kk c] 37));have c3 := (hb3.block _ (lt_of_block (Ad w2 (.cells #[.int .i64 op, .int .i64 xk, .int .i64 xi, .string xs2, .string xs, .string nmv, .int .i64 xn, .slice ao kk c] 37)))).trans (Ad w2 (.cells #[.int .i64 op, .int .i64 xk, .int .i64 xi, .string xs2, .string xs, .string nmv, .int .i64 xn, .slice ao kk c] 37));obtain ⟨l0,l1,l2,l3,l4,l5,l6,l7⟩ :=Cq (Ae c3 (.cells #[.int .i64 op2, .int .i64 yk, .int .i64 yi, .string ys2, .string ys, .string nm2, .int .i64 yn, .slice ao2 k2 c2] 37)) rfl;obtain ⟨⟨r0,r1,r2,r3,r4,r5,r6,r7⟩,f0,f1,f2,f3,f4,f5,f6,f7⟩ :=Ca (Ae (Ae b3 (.cells #[.int .i64 op2, .int .i64 yk, .int .i64 yi, .string ys2, .string ys, .string nm2, .int .i64 yn, .slice ao2 k2 c2] 37)) (.cells #[.int .i64 op, .int .i64 xk, .int .i64 xi, .string xs2, .string xs, .string nmv, .int .i64 xn, .slice ao kk c, .int .i64 op2, .int .i64 yk, .int .i64 yi, .string ys2, .string ys, .string nm2, .int .i64 yn, .slice ao2 k2 c2] 37)))))
      all_goals
       obtain ⟨hN,hBN⟩ :=Ot (o :=4) hb0 (by omega) hb2 hE hE2 hb3
       refine bodyPost_ret (v := .tuple #[.agg #[.int .i64 4, .int .i64 zero.k, .int .i64 zero.n, .string zero.s, .string noW, .string noW, .int .i64 0, .slice (some ⟨w3.heap.size+1,0,none⟩) 2 2], .bool _]) (by simp [results,Tryz.results104,go_sem,r0,r1,r2,r3,r4,r5,r6,r7];exact ⟨⟨rfl,rfl,rfl⟩,rfl⟩) rfl ⟨_,_,_,rfl,hN, ?_,hBN⟩
       show RA.bind _=_
       rw [HR.out,HR2.out]
       cases ok<;>cases ok2<;>first | rfl | contradiction
     ·have ey : (y.toList== [45]) =false :=by rw [An];simpa using hmy
      have ho3 :o=3 :=by rw [hoy,Im,if_neg hmy]
      subst ho3
      clear hoy hmy
      go_wp2_with (first
       | (go_at_call 104;go_must (go_fit IH;rintro e w2 ⟨v,ok,x,rfl,hE,hR,hb2⟩;have HR :Hid _ :=hR;clear hR;have b2 := (hb2.block _ (lt_of_block b0)).trans b0;obtain ⟨op,xv,xs,nmv,xn,ao,kk,c,rfl⟩ :=hE.shape;obtain ⟨xk,xi,xs2⟩ :=xv;have hbB :Below w.heap.size w w2 :=hb0.trans (hb2.mono hb0.size);have TM :=TF (w2.alloc (.cells #[.int .i64 op, .int .i64 xk, .int .i64 xi, .string xs2, .string xs, .string nmv, .int .i64 xn, .slice ao kk c] 37)) (hbB.alloc hbB.size _)))
       | (go_at_call 114;go_must (go_fit TM;rintro e w3 ⟨v2,ok2,x2,rfl,hE2,hR2,hb3⟩;have HR2 :Hid _ :=hR2;clear hR2;obtain ⟨op2,yv,ys,nm2,yn,ao2,k2,c2,rfl⟩ :=hE2.shape;obtain ⟨yk,yi,ys2⟩ :=yv;have b3 := (hb3.block _ (lt_of_block (Ae b2 (.cells #[.int .i64 op, .int .i64 xk, .int .i64 xi, .string xs2, .string xs, .string nmv, .int .i64 xn, .slice ao kk c] 37)))).trans (Ae b2 (.cells #[.int .i64 op, .int .i64 xk, .int .i64 xi, .string xs2, .string xs, .string nmv, .int .i64 xn, .slice ao kk c] 37));have c3 := (hb3.block _ (lt_of_block (Ad w2 (.cells #[.int .i64 op, .int .i64 xk, .int .i64 xi, .string xs2, .string xs, .string nmv, .int .i64 xn, .slice ao kk c] 37)))).trans (Ad w2 (.cells #[.int .i64 op, .int .i64 xk, .int .i64 xi, .string xs2, .string xs, .string nmv, .int .i64 xn, .slice ao kk c] 37));obtain ⟨l0,l1,l2,l3,l4,l5,l6,l7⟩ :=Cq (Ae c3 (.cells #[.int .i64 op2, .int .i64 yk, .int .i64 yi, .string ys2, .string ys, .string nm2, .int .i64 yn, .slice ao2 k2 c2] 37)) rfl;obtain ⟨⟨r0,r1,r2,r3,r4,r5,r6,r7⟩,f0,f1,f2,f3,f4,f5,f6,f7⟩ :=Ca (Ae (Ae b3 (.cells #[.int .i64 op2, .int .i64 yk, .int .i64 yi, .string ys2, .string ys, .string nm2, .int .i64 yn, .slice ao2 k2 c2] 37)) (.cells #[.int .i64 op, .int .i64 xk, .int .i64 xi, .string xs2, .string xs, .string nmv, .int .i64 xn, .slice ao kk c, .int .i64 op2, .int .i64 yk, .int .i64 yi, .string ys2, .string ys, .string nm2, .int .i64 yn, .slice ao2 k2 c2] 37)))))
      all_goals
       obtain ⟨hN,hBN⟩ :=Ot (o :=3) hb0 (by omega) hb2 hE hE2 hb3
       refine bodyPost_ret (v := .tuple #[.agg #[.int .i64 3, .int .i64 zero.k, .int .i64 zero.n, .string zero.s, .string noW, .string noW, .int .i64 0, .slice (some ⟨w3.heap.size+1,0,none⟩) 2 2], .bool _]) (by simp [results,Tryz.results104,go_sem,r0,r1,r2,r3,r4,r5,r6,r7];exact ⟨⟨rfl,rfl,rfl⟩,rfl⟩) rfl ⟨_,_,_,rfl,hN, ?_,hBN⟩
       show RA.bind _=_
       rw [HR.out,HR2.out]
       cases ok<;>cases ok2<;>first | rfl | contradiction
end Go.Proofs.YtifjaegfpdjikaaGreatDoor

namespace Go.Proofs.YtifjaegfpdjikaaGreatDoor
open Go.RowKit
theorem Abc {L :List Wd} {d :Int} {i k :Nat} {p :Option Nat} {q :Option Wd} (hp : ∀j,p=some j→j<i) :B8 d i p q L=some k→k<i+L.length :=by
 induction L generalizing d i p q with
 | nil=>intro h;simp [B8] at h;exact Nat.lt_of_lt_of_le (hp k h) (by simp)
 | cons x l ih=>
  intro h
  rw [B8] at h
  have :=ih (i :=i+1) (fun j hj=>by split at hj;cases hj;omega;have :=hp j hj;omega) h
  simp;omega
set_option maxRecDepth 100000 in
set_option maxHeartbeats 4000000 in
theorem Zt (AT :Option E) (d :Int) (ao :Option Addr) (cap :Nat) (w :World) (hA : ∀W,Below w.heap.size w W→Calls Tryz.prog 114 #[.slice ao 0 cap, .int .i64 d] W (Bj AT W)) :
  Calls Tryz.prog 104 #[.slice ao 0 cap, .int .i64 d] w (Bj AT w) :=by
 generalize hW :w.alloc (.cells Ap 37) =W
 have HW :Hid _ :=hW
 have hb0 :Below w.heap.size w W :=by rw [←hW];exact (Below.refl _ _).alloc (Nat.le_refl _) _
 have b0 :W.heap[w.heap.size]? =some (.cells Ap 37) :=by rw [←hW];exact Ad w _
 have hWs :W.heap.size=w.heap.size+1 :=by rw [←hW,World.size_alloc]
 clear hW
 have AM :=hA W hb0
 clear hA
 go_enter Tryz.func104,Tryz.ntmps104
 go_wp2_with fail
 rw [HW.out]
 go_loop [7,18] (fun p i=>p= .int .i64 (-1) ∧i= .int .i64 0) (fun _ _=>0)
 case atStart=>exact ⟨rfl,rfl⟩
 case round=>
  obtain ⟨rfl,rfl⟩ :=hrel
  go_wp2_with (go_at_call 114;go_must (go_fit AM;rintro e w2 ⟨v,ok,x,rfl,hE,hR,hb2⟩;have HR2 :Hid _ :=hR;clear hR;have b2 := (hb2.block _ (lt_of_block b0)).trans b0;obtain ⟨op,xv,xs,nmv,xn,a2,kk,c,rfl⟩ :=hE.shape;obtain ⟨xk,xi,xs2⟩ :=xv;obtain ⟨⟨r0,r1,r2,r3,r4,r5,r6,r7⟩,f0,f1,f2,f3,f4,f5,f6,f7⟩ :=Ca b2))
  obtain ⟨hN,hBN⟩ :=Ih hb0 (by omega) hb2 hE
  exact bodyPost_ret (v := .tuple #[.agg #[.int .i64 op, .int .i64 xk, .int .i64 xi, .string xs2, .string xs, .string nmv, .int .i64 xn, .slice a2 kk c], .bool ok]) (by simp [results,Tryz.results104,go_sem,r0,r1,r2,r3,r4,r5,r6,r7]) rfl ⟨_,_,_,rfl,hN,HR2.out,hBN⟩
theorem X2 (at' :List Wd→Option E) (d :Int) (ha :Cz 114 at' d 1600) : ∀n,Cz 104 (fun L=>D6 Mj Im at' n L) d n :=by
 have hnil : ∀sl w,Env w→Ak w sl [] →Calls Tryz.prog 104 #[sl, .int .i64 d] w (Bj (at' []) w) :=by
  intro sl w he hL
  obtain ⟨ao,cap,rfl⟩ :=hL.shape
  exact Zt (at' []) d ao cap w (fun W h=>ha _ [] W (by simp) (by simp) (he.next h) (hL.below h) (by intro x hx;cases hx))
 intro n
 induction n with
 | zero=>
  intro sl L w h1 hl he hL hw
  have e :L= [] :=List.length_eq_zero_iff.1 (by omega)
  subst e
  exact hnil sl w he hL
 | succ n ih=>
  intro sl L w h1 hl he hL hw
  rcases Nat.eq_zero_or_pos L.length with h0 | h0
  ·have e :L= [] :=List.length_eq_zero_iff.1 h0
   subst e
   exact hnil sl w he hL
  ·obtain ⟨b,off,cap,rfl,hcap,hcell⟩ :=A0 hL h0
   simp only [D6]
   cases hi :Mj L with
   | none=>exact Q0 none none none 0 (at' L) d b off cap L w h0 hl hL hi (fun _ W h=>ha _ L W hl hl (he.next h) (hL.below h) hw) (fun i h=>by cases h)
   | some i=>
    have hil :i<L.length :=by have :=Abc (fun j hj=>by cases hj) hi;omega
    refine Q0 (some i) (D6 Mj Im at' n (L.take i)) (at' (L.drop (i+1))) (Im (L.getD i noW)) none d b off cap L w h0 hl hL hi (fun h=>by cases h) (fun j h=> ?_)
    cases h
    refine ⟨hil,rfl,fun W h=> ?_,fun W sl h h2=>ha sl _ W (by simp;omega) (by simp;omega) (he.next h) h2 (hw.drop _)⟩
    exact ih (.slice (some ⟨b,off,none⟩) i cap) (L.take i) W (by simp;omega) (by simp;omega) (he.next h) (by obtain ⟨p1,p2,p3,p4⟩ :=A7 (hL.below h) h0;exact Gh p4 p1 (by omega) p2 p3) (hw.take i)
theorem Zu (sub :List Wd→Option E) (d :Int) (ha :Cz 114 (G1 sub) d 1600) :Cz 104 (Il sub) d 1600 :=fun sl L w _ hl he hL hw=>X2 (G1 sub) d ha L.length sl L w (Nat.le_refl _) hl he hL hw
end Go.Proofs.YtifjaegfpdjikaaGreatDoor

namespace Go.Proofs.YtifjaegfpdjikaaGreatDoor
open Go.RowKit
set_option maxRecDepth 100000 in
set_option maxHeartbeats 4000000 in
theorem Vs (ao :Option Addr) (n cap :Nat) (w :World) :
  Calls Tryz.prog 87 #[.slice ao n cap, .int .i64 0] w (Bj none w) :=by
 go_enter Tryz.func87,Tryz.ntmps87
 go_wp2_with fail
 exact bodyPost_ret (v := .tuple #[.agg (A2 0 zero noW noW 0 (.slice none 0 0)), .bool false]) (by simp [results,Tryz.results87,go_sem];exact ⟨rfl,rfl,rfl⟩) rfl ⟨_,_,_,rfl,Dy _ _,rfl,(Below.refl _ _).alloc (Nat.le_refl _) _⟩
set_option maxRecDepth 100000 in
set_option maxHeartbeats 4000000 in
theorem X3 (d :Int) (hd :d≠0) (ao :Option Addr) (cap :Nat) (w :World) :
  Calls Tryz.prog 87 #[.slice ao 0 cap, .int .i64 d] w (Bj none w) :=by
 have hd0 : (d==0) =false :=by simpa using hd
 go_enter Tryz.func87,Tryz.ntmps87
 go_wp2_with fail
 exact bodyPost_ret (v := .tuple #[.agg (A2 0 zero noW noW 0 (.slice none 0 0)), .bool false]) (by simp [results,Tryz.results87,go_sem];exact ⟨rfl,rfl,rfl⟩) rfl ⟨_,_,_,rfl,Dy _ _,rfl,(Below.refl _ _).alloc (Nat.le_refl _) _⟩
set_option maxRecDepth 100000 in
set_option maxHeartbeats 4000000 in
theorem X4 (d :Int) (hd :d≠0) (sl :Value) (L :List Wd) (w :World) (h0 :0<L.length) (hl :L.length≤1600) (hL :Ak w sl L) (i :Nat) (hi :Cu [kOr,Dd] 0 0 none L=some i) :
  Calls Tryz.prog 87 #[sl, .int .i64 d] w (Bj none w) :=by
 have hd0 : (d==0) =false :=by simpa using hd
 have LA :=G7 _ _ L [kOr,Dd] ((w.alloc (.cells Ap 37)).alloc (.cells #[.string kOr, .string Dd] 9)) hl ((hL.below ((Below.refl _ _).alloc (Nat.le_refl _) _)).below ((Below.refl _ _).alloc (Nat.le_refl _) _)) (Lr (w.alloc (.cells Ap 37)) kOr Dd)
 rw [hi] at LA
 simp only [World.size_alloc] at LA
 rw [show D9 (some i) = (i :Int) from rfl] at LA
 generalize hW : (w.alloc (.cells Ap 37)).alloc (.cells #[.string kOr, .string Dd] 9) =W at LA
 have HW :Hid _ :=hW
 have hb0 :Below w.heap.size w W :=by rw [←hW];exact ((Below.refl _ _).alloc (Nat.le_refl _) _).alloc (by simp) _
 have b0 :W.heap[w.heap.size]? =some (.cells Ap 37) :=by rw [←hW];exact Ae (Ad w _) _
 clear hW
 obtain ⟨⟨r0,r1,r2,r3,r4,r5,r6,r7⟩,f0,f1,f2,f3,f4,f5,f6,f7⟩ :=Ca b0
 obtain ⟨a1,n1,c1,rfl,hn1⟩ :=Ax hL
 have q1 : ((n1 :Int) ==0) =false :=by simp;omega
 have q0 : (0 :Int) ≤ (i :Int) :=by omega
 clear hL hi hn1 hl h0 L
 go_enter Tryz.func87,Tryz.ntmps87
 go_wp2_with fail
 rw [HW.out]
 go_fit LA
 rintro e W ⟨rfl,rfl⟩
 go_wp2_with fail
 exact bodyPost_ret (v := .tuple #[.agg (A2 0 zero noW noW 0 (.slice none 0 0)), .bool false]) (by simp [results,Tryz.results87,go_sem,r0,r1,r2,r3,r4,r5,r6,r7];exact ⟨rfl,rfl,rfl⟩) rfl ⟨_,_,_,rfl,Dy _ _,rfl,Bk hb0 (Nat.le_refl _) _ _ _ _ _ _ _ _⟩
end Go.Proofs.YtifjaegfpdjikaaGreatDoor

namespace Go.Proofs.YtifjaegfpdjikaaGreatDoor
open Go.RowKit
theorem Uq {w w1 w2 :World} {x :E} {op xn o :Int} {xv :V} {xs nmv :Wd} {sv :Value} (hb1 :Below w.heap.size w w1) (h1 :w.heap.size+1≤w1.heap.size) (hb2 :Below w1.heap.size w1 w2) (hE :IsE (Fr w1.heap.size) w2 x (.agg (A2 op xv xs nmv xn sv))) :
  IsE (Fr w.heap.size) (set8 ((w2.alloc (.cells (A2 op xv xs nmv xn sv) 37)).alloc (.cells (A2 op xv xs nmv xn sv) 37)) w.heap.size (.int .i64 o) (.int .i64 zero.k) (.int .i64 zero.n) (.string zero.s) (.string noW) (.string noW) (.int .i64 0) (.slice (some ⟨w2.heap.size+1,0,none⟩) 1 1)) (Cd o [x]) (.agg (A2 o zero noW noW 0 (.slice (some ⟨w2.heap.size+1,0,none⟩) 1 1))) ∧
  Below w.heap.size w (set8 ((w2.alloc (.cells (A2 op xv xs nmv xn sv) 37)).alloc (.cells (A2 op xv xs nmv xn sv) 37)) w.heap.size (.int .i64 o) (.int .i64 zero.k) (.int .i64 zero.n) (.string zero.s) (.string noW) (.string noW) (.int .i64 0) (.slice (some ⟨w2.heap.size+1,0,none⟩) 1 1)) :=by
 have s1 :=hb1.size
 have s2 :=hb2.size
 have k2 :Below w.heap.size w w2 :=hb1.trans (hb2.mono s1)
 constructor
 ·have g1 :IsE (Fr (w.heap.size+1)) w2 x (.agg (A2 op xv xs nmv xn sv)) :=IsE.mono (fun k _ hk=>by have :w1.heap.size≤k :=hk;show w.heap.size+1≤k;omega) _ _ hE
  have kk :Keeps (Fr (w.heap.size+1)) w2 (w2.alloc (.cells (A2 op xv xs nmv xn sv) 37)) := (Keeps.refl _ _).alloc _
  have g6 :=G4 (IsE.keep kk _ _ g1) (show w.heap.size+1≤ (w2.alloc (.cells (A2 op xv xs nmv xn sv) 37)).heap.size by rw [World.size_alloc];omega)
  rw [World.size_alloc] at g6
  exact IsE.mono (fun k _ hk=>by have :w.heap.size+1≤k :=hk;show w.heap.size≤k;omega) _ _ (IsE.keep ((Keeps.refl _ _).set8 (show ¬w.heap.size+1≤w.heap.size by omega) _ _ _ _ _ _ _ _) _ _ (Ha (op :=o) (x :=zero) (s :=noW) (name :=noW) (n :=0) g6))
 ·exact Bk ((k2.alloc (by omega) _).alloc (by rw [World.size_alloc];omega) _) (Nat.le_refl _) _ _ _ _ _ _ _ _
set_option maxRecDepth 100000 in
set_option maxHeartbeats 4000000 in
theorem X5 (d :Int) (hd :d≠0) (hd1 :0≤d) (hd2 :d≤100) (RA :Option E) (sl :Value) (L :List Wd) (w :World) (hl :L.length≤1600) (hL :Ak w sl L) (hi :Cu [kOr,Dd] 0 0 none L=none) (hx :L[0]? =some Ec)
  (hT : ∀W sl,Below w.heap.size w W→Ak W sl (L.drop 1) →Calls Tryz.prog 87 #[sl, .int .i64 (d - 1)] W (Bj RA W)) :
  Calls Tryz.prog 87 #[sl, .int .i64 d] w (Bj (RA.map fun a=>Cd 9 [a]) w) :=by
 have hd0 : (d==0) =false :=by simpa using hd
 have h0 :0<L.length := (List.getElem?_eq_some_iff.1 hx).1
 have LA :=G7 _ _ L [kOr,Dd] ((w.alloc (.cells Ap 37)).alloc (.cells #[.string kOr, .string Dd] 9)) hl ((hL.below ((Below.refl _ _).alloc (Nat.le_refl _) _)).below ((Below.refl _ _).alloc (Nat.le_refl _) _)) (Lr (w.alloc (.cells Ap 37)) kOr Dd)
 rw [hi] at LA
 simp only [World.size_alloc] at LA
 rw [show D9 none= (-1 :Int) from rfl] at LA
 generalize hW : (w.alloc (.cells Ap 37)).alloc (.cells #[.string kOr, .string Dd] 9) =W at LA
 have HW :Hid _ :=hW
 have hb0 :Below w.heap.size w W :=by rw [←hW];exact ((Below.refl _ _).alloc (Nat.le_refl _) _).alloc (by simp) _
 have b0 :W.heap[w.heap.size]? =some (.cells Ap 37) :=by rw [←hW];exact Ae (Ad w _) _
 have hWs :W.heap.size=w.heap.size+2 :=by rw [←hW,World.size_alloc,World.size_alloc]
 clear hW
 obtain ⟨b,off,cap,rfl,hcap,hcell⟩ :=A0 (hL.below hb0) h0
 have hcx :W.cell? ⟨b,off,none⟩ =some (.string Ec) :=hcell 0 _ hx
 have key :=Kr (b :=b) (off :=off) (cap :=cap) h0
 rw [Nat.zero_add] at key
 have hq : ((L.length :Int) ==0) =false :=beq_eq_false_iff_ne.2 (by omega)
 have q1 : (1 :Int) ≤ (L.length :Int) :=by omega
 rcases key with ⟨rfl,hdr⟩ | ⟨hcp,hdr⟩
 all_goals
  have TM :=hT W _ hb0 (hdr W (hL.below hb0))
  clear hdr hL hT hcell hx hi
  generalize L.length=nn at*
  clear L
  go_enter Tryz.func87,Tryz.ntmps87
  go_wp2_with fail
  rw [HW.out]
  go_fit LA
  rintro e W ⟨rfl,rfl⟩
  go_wp2_with (go_at_call 87;go_must (go_fit TM;rintro e w2 ⟨v,ok,x,rfl,hE,hR,hb2⟩;have HR :Hid _ :=hR;clear hR;have b2 := (hb2.block _ (lt_of_block b0)).trans b0;obtain ⟨op,xv,xs,nmv,xn,ao,kk,c,rfl⟩ :=hE.shape;obtain ⟨xk,xi,xs2⟩ :=xv;obtain ⟨⟨r0,r1,r2,r3,r4,r5,r6,r7⟩,f0,f1,f2,f3,f4,f5,f6,f7⟩ :=Ca (Ae (Ae b2 (.cells #[.int .i64 op, .int .i64 xk, .int .i64 xi, .string xs2, .string xs, .string nmv, .int .i64 xn, .slice ao kk c] 37)) (.cells #[.int .i64 op, .int .i64 xk, .int .i64 xi, .string xs2, .string xs, .string nmv, .int .i64 xn, .slice ao kk c] 37))))
  obtain ⟨hN,hBN⟩ :=Uq (o :=9) hb0 (by omega) hb2 hE
  refine bodyPost_ret (v := .tuple #[.agg #[.int .i64 9, .int .i64 zero.k, .int .i64 zero.n, .string zero.s, .string noW, .string noW, .int .i64 0, .slice (some ⟨w2.heap.size+1,0,none⟩) 1 1], .bool ok]) (by simp [results,Tryz.results87,go_sem,r0,r1,r2,r3,r4,r5,r6,r7];exact ⟨rfl,rfl,rfl⟩) rfl ⟨_,_,_,rfl,hN, ?_,hBN⟩
  rw [HR.out]
  cases ok<;>rfl
end Go.Proofs.YtifjaegfpdjikaaGreatDoor

namespace Go.Proofs.YtifjaegfpdjikaaGreatDoor
open Go.RowKit
set_option maxRecDepth 100000 in
set_option maxHeartbeats 4000000 in
theorem Zv (d :Int) (hd :d≠0) (RA :Option E) (sl :Value) (L :List Wd) (w :World) (hl :L.length≤1600) (hL :Ak w sl L) (hi :Cu [kOr,Dd] 0 0 none L=none) (x0 :Wd) (hx :L[0]? =some x0) (hxn :x0≠Ec) (h2 :2<L.length) (hy1 :L[L.length - 2]? =some kIs) (hy2 :L[L.length - 1]? =some Be)
  (hT : ∀W sl,Below w.heap.size w W→Ak W sl (L.take (L.length - 2)) →Calls Tryz.prog 104 #[sl, .int .i64 d] W (Bj RA W)) :
  Calls Tryz.prog 87 #[sl, .int .i64 d] w (Bj (RA.map fun a=>Cd 10 [a]) w) :=by
 have hd0 : (d==0) =false :=by simpa using hd
 have h0 :0<L.length := (List.getElem?_eq_some_iff.1 hx).1
 have LA :=G7 _ _ L [kOr,Dd] ((w.alloc (.cells Ap 37)).alloc (.cells #[.string kOr, .string Dd] 9)) hl ((hL.below ((Below.refl _ _).alloc (Nat.le_refl _) _)).below ((Below.refl _ _).alloc (Nat.le_refl _) _)) (Lr (w.alloc (.cells Ap 37)) kOr Dd)
 rw [hi] at LA
 simp only [World.size_alloc] at LA
 rw [show D9 none= (-1 :Int) from rfl] at LA
 generalize hW : (w.alloc (.cells Ap 37)).alloc (.cells #[.string kOr, .string Dd] 9) =W at LA
 have HW :Hid _ :=hW
 have hb0 :Below w.heap.size w W :=by rw [←hW];exact ((Below.refl _ _).alloc (Nat.le_refl _) _).alloc (by simp) _
 have b0 :W.heap[w.heap.size]? =some (.cells Ap 37) :=by rw [←hW];exact Ae (Ad w _) _
 have hWs :W.heap.size=w.heap.size+2 :=by rw [←hW,World.size_alloc,World.size_alloc]
 clear hW
 obtain ⟨b,off,cap,rfl,hcap,hcell⟩ :=A0 (hL.below hb0) h0
 have hcx :W.cell? ⟨b,off,none⟩ =some (.string x0) :=hcell 0 _ hx
 have hc1 :=hcell _ _ hy1
 have hc2 :=hcell _ _ hy2
 have hbx : (x0.toList== [110,111,116]) =false :=by rw [An];simpa using hxn
 have hq : ((L.length :Int) ==0) =false :=beq_eq_false_iff_ne.2 (by omega)
 have q1 : (2 :Int) < (L.length :Int) :=by omega
 have TM :=hT W (.slice (some ⟨b,off,none⟩) (L.length - 2) cap) hb0 (by obtain ⟨p1,p2,p3,p4⟩ :=A7 (hL.below hb0) h0;exact Gh p4 p1 (by omega) p2 p3)
 clear hL hT hcell hx hi hxn hy1 hy2
 generalize L.length=nn at*
 clear L
 go_enter Tryz.func87,Tryz.ntmps87
 go_wp2_with fail
 rw [HW.out]
 go_fit LA
 rintro e W ⟨rfl,rfl⟩
 go_wp2_with (go_at_call 104;go_must (go_fit TM;rintro e w2 ⟨v,ok,x,rfl,hE,hR,hb2⟩;have HR :Hid _ :=hR;clear hR;have b2 := (hb2.block _ (lt_of_block b0)).trans b0;obtain ⟨op,xv,xs,nmv,xn,ao,kk,c,rfl⟩ :=hE.shape;obtain ⟨xk,xi,xs2⟩ :=xv;obtain ⟨⟨r0,r1,r2,r3,r4,r5,r6,r7⟩,f0,f1,f2,f3,f4,f5,f6,f7⟩ :=Ca (Ae (Ae b2 (.cells #[.int .i64 op, .int .i64 xk, .int .i64 xi, .string xs2, .string xs, .string nmv, .int .i64 xn, .slice ao kk c] 37)) (.cells #[.int .i64 op, .int .i64 xk, .int .i64 xi, .string xs2, .string xs, .string nmv, .int .i64 xn, .slice ao kk c] 37))))
 obtain ⟨hN,hBN⟩ :=Uq (o :=10) hb0 (by omega) hb2 hE
 refine bodyPost_ret (v := .tuple #[.agg #[.int .i64 10, .int .i64 zero.k, .int .i64 zero.n, .string zero.s, .string noW, .string noW, .int .i64 0, .slice (some ⟨w2.heap.size+1,0,none⟩) 1 1], .bool ok]) (by simp [results,Tryz.results87,go_sem,r0,r1,r2,r3,r4,r5,r6,r7];exact ⟨rfl,rfl,rfl⟩) rfl ⟨_,_,_,rfl,hN, ?_,hBN⟩
 rw [HR.out]
 cases ok<;>rfl
end Go.Proofs.YtifjaegfpdjikaaGreatDoor

namespace Go.Proofs.YtifjaegfpdjikaaGreatDoor
open Go.RowKit
def X6 (L :List Wd) :Prop :=L.length≤2∨ (2<L.length∧ ∃y1,L[L.length - 2]? =some y1∧y1≠kIs) ∨ (2<L.length∧ ∃y2,L[L.length - 2]? =some kIs∧L[L.length - 1]? =some y2∧y2≠Be)
set_option maxRecDepth 100000 in
set_option maxHeartbeats 4000000 in
theorem X7 (d :Int) (hd :d≠0) (RA :Option E) (sl :Value) (L :List Wd) (w :World) (hl :L.length≤1600) (hL :Ak w sl L) (hi :Cu [kOr,Dd] 0 0 none L=none) (x0 :Wd) (hx :L[0]? =some x0) (hxn :x0≠Ec) (hni :X6 L) (hc :B1 [kEq,kLt] 0 0 L=none)
  (hS : ∀W,Below w.heap.size w W→Calls Tryz.prog 104 #[sl, .int .i64 d] W (Bj RA W)) :
  Calls Tryz.prog 87 #[sl, .int .i64 d] w (Bj RA w) :=by
 have hd0 : (d==0) =false :=by simpa using hd
 have h0 :0<L.length := (List.getElem?_eq_some_iff.1 hx).1
 have LA :=G7 _ _ L [kOr,Dd] ((w.alloc (.cells Ap 37)).alloc (.cells #[.string kOr, .string Dd] 9)) hl ((hL.below ((Below.refl _ _).alloc (Nat.le_refl _) _)).below ((Below.refl _ _).alloc (Nat.le_refl _) _)) (Lr (w.alloc (.cells Ap 37)) kOr Dd)
 rw [hi] at LA
 simp only [World.size_alloc] at LA
 rw [show D9 none= (-1 :Int) from rfl] at LA
 generalize hW : (w.alloc (.cells Ap 37)).alloc (.cells #[.string kOr, .string Dd] 9) =W at LA
 have HW :Hid _ :=hW
 have hb0 :Below w.heap.size w W :=by rw [←hW];exact ((Below.refl _ _).alloc (Nat.le_refl _) _).alloc (by simp) _
 have b0 :W.heap[w.heap.size]? =some (.cells Ap 37) :=by rw [←hW];exact Ae (Ad w _) _
 have HWs :Hid (W.heap.size=w.heap.size+2) :=by rw [Hid,←hW,World.size_alloc,World.size_alloc]
 clear hW
 have hLW :=hL.below hb0
 have CU :=Gu _ _ L [kEq,kLt] _ hl (hLW.below ((Below.refl _ _).alloc (Nat.le_refl _) (.cells #[.string kEq, .string kLt] 9))) (Lr W kEq kLt)
 rw [hc] at CU
 have hbX :Below w.heap.size w (W.alloc (.cells #[.string kEq, .string kLt] 9)) :=hb0.alloc hb0.size _
 have b1 :=Ae b0 (.cells #[.string kEq, .string kLt] 9)
 obtain ⟨b,off,cap,rfl,hcap,hcell⟩ :=A0 hLW h0
 have hcx :W.cell? ⟨b,off,none⟩ =some (.string x0) :=hcell 0 _ hx
 have hbx : (x0.toList== [110,111,116]) =false :=by rw [An];simpa using hxn
 have hq : ((L.length :Int) ==0) =false :=beq_eq_false_iff_ne.2 (by omega)
 have key : ((L.length :Int) ≤2) ∨ ((2 :Int) <L.length∧ ∃y1,W.cell? ⟨b,off+ (L.length - 2),none⟩ =some (.string y1) ∧ (y1.toList== [105,115]) =false) ∨ ((2 :Int) <L.length∧ ∃y1 y2,W.cell? ⟨b,off+ (L.length - 2),none⟩ =some (.string y1) ∧W.cell? ⟨b,off+ (L.length - 1),none⟩ =some (.string y2) ∧ (y1.toList== [105,115]) =true∧ (y2.toList== [110,117,108,108]) =false) :=by
  rcases hni with h | ⟨h,y1,k1,k2⟩ | ⟨h,y2,k1,k2,k3⟩
  ·exact .inl (by omega)
  ·exact .inr (.inl ⟨by omega,y1,hcell _ _ k1,by rw [An];simpa using k2⟩)
  ·exact .inr (.inr ⟨by omega,kIs,y2,hcell _ _ k1,hcell _ _ k2,by rw [An];simp,by rw [An];simpa using k3⟩)
 clear hL hLW hcell hx hi hxn hni hc
 generalize L.length=nn at*
 have HS :Hid _ :=hS
 clear hS
 rcases key with key | ⟨key,y1,z1,z2⟩ | ⟨key,y1,y2,z1,z2,z3,z4⟩
 all_goals
  go_enter Tryz.func87,Tryz.ntmps87
  go_wp2_with fail
  rw [HW.out]
  go_fit LA
  rintro e W ⟨rfl,rfl⟩
  go_wp2_with (first
   | (go_at_call 31;go_must (go_fit CU;rintro e w1 ⟨a,c',k,rfl,⟨rfl,rfl,rfl⟩,hb1⟩;have hbB :Below w.heap.size w w1 :=hbX.trans (hb1.mono hbX.size);have SM :=HS.out w1 hbB;have b2 := (hb1.block _ (lt_of_block b1)).trans b1;have hs1 :=hb1.size))
   | (go_at_call 104;go_must (go_fit SM;rintro e w2 ⟨v,ok,x,rfl,hE,hR,hb2⟩;have HR :Hid _ :=hR;clear hR;have b3 := (hb2.block _ (lt_of_block b2)).trans b2;obtain ⟨op,xv,xs,nmv,xn,ao,kk,c,rfl⟩ :=hE.shape;obtain ⟨xk,xi,xs2⟩ :=xv;obtain ⟨⟨r0,r1,r2,r3,r4,r5,r6,r7⟩,f0,f1,f2,f3,f4,f5,f6,f7⟩ :=Ca b3)))
  obtain ⟨hN,hBN⟩ :=Ih hbB (by have :=HWs.out;rw [World.size_alloc] at hs1;omega) hb2 hE
  exact bodyPost_ret (v := .tuple #[.agg #[.int .i64 op, .int .i64 xk, .int .i64 xi, .string xs2, .string xs, .string nmv, .int .i64 xn, .slice ao kk c], .bool ok]) (by simp [results,Tryz.results87,go_sem,r0,r1,r2,r3,r4,r5,r6,r7]) rfl ⟨_,_,_,rfl,hN,HR.out,hBN⟩
end Go.Proofs.YtifjaegfpdjikaaGreatDoor


/-
  3 texts of this proof in one, in build order: YIndexA, YGood, YFind.
-/
import Derived.Test.YtmgkcjiejmhgcaaGreatDoorJ02
set_option linter.unusedSimpArgs false
set_option linter.unusedVariables false
namespace Go.Proofs.YtmgkcjiejmhgcaaGreatDoor
open Go.RowKit
set_option maxRecDepth 100000 in
set_option maxHeartbeats 2000000 in
theorem Ns (l :List (TabD)) (F :Nat→Prop) (ao :Option Addr) (n c :Nat) (f0 :Value) (p :Nat→Bool) (St :Nat→World→Prop) (En :World→Prop) (w :World) (hEn : ∀i W,St i W→En W) (hIs : ∀i W,St i W→IsL A4 F W (.slice ao n c) l)
  (hcall : ∀i x cs W,l[i]? =some x→St i W→A4.R F W x cs→Calls Tryz.prog 39 #[.agg cs.toArray,f0] W fun e W'=>e= .returned (.bool (p i)) ∧En W'∧ (p i=false→St (i+1) W')) (h0 :St 0 w) :
  Calls Tryz.prog 38 #[.slice ao n c, .func (.func 39) #[] #[f0]] w fun e W'=>e= .returned (.int .i64 (Al p 0 l.length)) ∧En W' :=by
 obtain ⟨hn,hlm⟩ :=Bj (hIs 0 w h0)
 subst hn
 unfold maxLen at hlm
 go_enter Tryz.func38,Tryz.ntmps38
 go_wp2
 go_loopw [8] (fun i wr=> ∃k :Nat,k≤l.length∧i= .int .i64 k∧St k wr∧Hid (Al p 0 l.length=Al p k (l.length - k))) (fun i _=>l.length - (intOf i).toNat)
 case atStart=>exact ⟨0,Nat.zero_le _,rfl,h0,rfl⟩
 case round=>
  obtain ⟨k,hk,rfl,hSt,HP⟩ :=hrel
  by_cases hlt :k<l.length
  ·obtain ⟨x,hx⟩ : ∃x,l[k]? =some x := ⟨_,List.getElem?_eq_getElem hlt⟩
   obtain ⟨b,off,cs,rfl,_,hb,hR,hcell⟩ :=Av (hIs k wr hSt) hx
   have HC :=hcall k x cs wr hx hSt hR
   obtain ⟨sv,rfl,hsv⟩ :=hR
   obtain ⟨ao1,c1,rfl⟩ :=hsv.shape
   have d0 :=hcell 0 _ rfl
   have d1 :=hcell 1 _ rfl
   simp only [A4,Nat.add_zero] at d0 d1
   have k0 : (0 :Int) ≤ (k :Int) :=by omega
   have k1 : (k :Int) < (l.length :Int) :=by omega
   have hst :Hid (Al p k (l.length - k) =if p k then (k :Int) else Al p (k+1) (l.length - (k+1))) :=Ch p k l.length hlt
   clear hcell hx
   generalize hq :p k=q at HC hst
   clear hq
   cases q
   ·go_wp2_with (go_at_call 39;go_must (go_fit HC;rintro e W' ⟨rfl,_,hS1⟩))
    go_roundw
    case rel=>exact ⟨k+1,by omega,by go_num,hS1 (by first | rfl | trivial),by rw [HP.out,hst.out];rfl⟩
    case measure=>simp [intOf];omega
   ·go_wp2_with (go_at_call 39;go_must (go_fit HC;rintro e W' ⟨rfl,hS1,_⟩))
    go_ret
    exact ⟨A6 (by rw [HP.out,hst.out];rfl),hS1⟩
  ·have HE :Hid (Al p k (l.length - k) = -1) :=by show _=_;rw [show l.length - k=0 from by omega,Al]
   go_wp2
   go_ret
   exact ⟨A6 (by rw [HP.out,HE.out]),hEn k _ hSt⟩
set_option maxRecDepth 100000 in
set_option maxHeartbeats 2000000 in
theorem P9 (l :List (ColD)) (F :Nat→Prop) (ao :Option Addr) (n c :Nat) (f0 :Value) (p :Nat→Bool) (St :Nat→World→Prop) (En :World→Prop) (w :World) (hEn : ∀i W,St i W→En W) (hIs : ∀i W,St i W→IsL Bg F W (.slice ao n c) l)
  (hcall : ∀i x cs W,l[i]? =some x→St i W→Bg.R F W x cs→Calls Tryz.prog 37 #[.agg cs.toArray,f0] W fun e W'=>e= .returned (.bool (p i)) ∧En W'∧ (p i=false→St (i+1) W')) (h0 :St 0 w) :
  Calls Tryz.prog 36 #[.slice ao n c, .func (.func 37) #[] #[f0]] w fun e W'=>e= .returned (.int .i64 (Al p 0 l.length)) ∧En W' :=by
 obtain ⟨hn,hlm⟩ :=Bj (hIs 0 w h0)
 subst hn
 unfold maxLen at hlm
 go_enter Tryz.func36,Tryz.ntmps36
 go_wp2
 go_loopw [8] (fun i wr=> ∃k :Nat,k≤l.length∧i= .int .i64 k∧St k wr∧Hid (Al p 0 l.length=Al p k (l.length - k))) (fun i _=>l.length - (intOf i).toNat)
 case atStart=>exact ⟨0,Nat.zero_le _,rfl,h0,rfl⟩
 case round=>
  obtain ⟨k,hk,rfl,hSt,HP⟩ :=hrel
  by_cases hlt :k<l.length
  ·obtain ⟨x,hx⟩ : ∃x,l[k]? =some x := ⟨_,List.getElem?_eq_getElem hlt⟩
   obtain ⟨b,off,cs,rfl,_,hb,hR,hcell⟩ :=Av (hIs k wr hSt) hx
   have HC :=hcall k x cs wr hx hSt hR
   obtain rfl :=hR
   have d0 :=hcell 0 _ rfl
   have d1 :=hcell 1 _ rfl
   have d2 :=hcell 2 _ rfl
   simp only [Bg,Nat.add_zero] at d0 d1 d2
   have k0 : (0 :Int) ≤ (k :Int) :=by omega
   have k1 : (k :Int) < (l.length :Int) :=by omega
   have hst :Hid (Al p k (l.length - k) =if p k then (k :Int) else Al p (k+1) (l.length - (k+1))) :=Ch p k l.length hlt
   clear hcell hx
   generalize hq :p k=q at HC hst
   clear hq
   cases q
   ·go_wp2_with (go_at_call 37;go_must (go_fit HC;rintro e W' ⟨rfl,_,hS1⟩))
    go_roundw
    case rel=>exact ⟨k+1,by omega,by go_num,hS1 (by first | rfl | trivial),by rw [HP.out,hst.out];rfl⟩
    case measure=>simp [intOf];omega
   ·go_wp2_with (go_at_call 37;go_must (go_fit HC;rintro e W' ⟨rfl,hS1,_⟩))
    go_ret
    exact ⟨A6 (by rw [HP.out,hst.out];rfl),hS1⟩
  ·have HE :Hid (Al p k (l.length - k) = -1) :=by show _=_;rw [show l.length - k=0 from by omega,Al]
   go_wp2
   go_ret
   exact ⟨A6 (by rw [HP.out,HE.out]),hEn k _ hSt⟩
set_option maxRecDepth 100000 in
set_option maxHeartbeats 2000000 in
theorem Ol (l :List (ColD)) (F :Nat→Prop) (ao :Option Addr) (n c :Nat) (f0 :Value) (p :Nat→Bool) (St :Nat→World→Prop) (En :World→Prop) (w :World) (hEn : ∀i W,St i W→En W) (hIs : ∀i W,St i W→IsL Bg F W (.slice ao n c) l)
  (hcall : ∀i x cs W,l[i]? =some x→St i W→Bg.R F W x cs→Calls Tryz.prog 75 #[.agg cs.toArray,f0] W fun e W'=>e= .returned (.bool (p i)) ∧En W'∧ (p i=false→St (i+1) W')) (h0 :St 0 w) :
  Calls Tryz.prog 36 #[.slice ao n c, .func (.func 75) #[] #[f0]] w fun e W'=>e= .returned (.int .i64 (Al p 0 l.length)) ∧En W' :=by
 obtain ⟨hn,hlm⟩ :=Bj (hIs 0 w h0)
 subst hn
 unfold maxLen at hlm
 go_enter Tryz.func36,Tryz.ntmps36
 go_wp2
 go_loopw [8] (fun i wr=> ∃k :Nat,k≤l.length∧i= .int .i64 k∧St k wr∧Hid (Al p 0 l.length=Al p k (l.length - k))) (fun i _=>l.length - (intOf i).toNat)
 case atStart=>exact ⟨0,Nat.zero_le _,rfl,h0,rfl⟩
 case round=>
  obtain ⟨k,hk,rfl,hSt,HP⟩ :=hrel
  by_cases hlt :k<l.length
  ·obtain ⟨x,hx⟩ : ∃x,l[k]? =some x := ⟨_,List.getElem?_eq_getElem hlt⟩
   obtain ⟨b,off,cs,rfl,_,hb,hR,hcell⟩ :=Av (hIs k wr hSt) hx
   have HC :=hcall k x cs wr hx hSt hR
   obtain rfl :=hR
   have d0 :=hcell 0 _ rfl
   have d1 :=hcell 1 _ rfl
   have d2 :=hcell 2 _ rfl
   simp only [Bg,Nat.add_zero] at d0 d1 d2
   have k0 : (0 :Int) ≤ (k :Int) :=by omega
   have k1 : (k :Int) < (l.length :Int) :=by omega
   have hst :Hid (Al p k (l.length - k) =if p k then (k :Int) else Al p (k+1) (l.length - (k+1))) :=Ch p k l.length hlt
   clear hcell hx
   generalize hq :p k=q at HC hst
   clear hq
   cases q
   ·go_wp2_with (go_at_call 75;go_must (go_fit HC;rintro e W' ⟨rfl,_,hS1⟩))
    go_roundw
    case rel=>exact ⟨k+1,by omega,by go_num,hS1 (by first | rfl | trivial),by rw [HP.out,hst.out];rfl⟩
    case measure=>simp [intOf];omega
   ·go_wp2_with (go_at_call 75;go_must (go_fit HC;rintro e W' ⟨rfl,hS1,_⟩))
    go_ret
    exact ⟨A6 (by rw [HP.out,hst.out];rfl),hS1⟩
  ·have HE :Hid (Al p k (l.length - k) = -1) :=by show _=_;rw [show l.length - k=0 from by omega,Al]
   go_wp2
   go_ret
   exact ⟨A6 (by rw [HP.out,HE.out]),hEn k _ hSt⟩
set_option maxHeartbeats 2000000 in
theorem Mj (l :List (ColD)) (F :Nat→Prop) (ao :Option Addr) (n c :Nat) (f0 :Value) (p :Nat→Bool) (St :Nat→World→Prop) (En :World→Prop) (w :World) (hEn : ∀i W,St i W→En W) (hIs : ∀i W,St i W→IsL Bg F W (.slice ao n c) l)
  (hcall : ∀i x cs W,l[i]? =some x→St i W→Bg.R F W x cs→Calls Tryz.prog 75 #[.agg cs.toArray,f0] W fun e W'=>e= .returned (.bool (p i)) ∧En W'∧ (p i=false→St (i+1) W')) (h0 :St 0 w) :
  Calls Tryz.prog 74 #[.slice ao n c, .func (.func 75) #[] #[f0]] w fun e W'=>e= .returned (.bool (A1 p 0 l.length)) ∧En W' :=by
 have HI :=Ol l F ao n c f0 p St En w hEn hIs hcall h0
 have HA :Hid (A1 p 0 l.length=decide (0≤Al p 0 l.length)) :=D5 p l.length 0
 generalize A1 p 0 l.length=r at HA
 generalize Al p 0 l.length=q at HI HA
 clear hIs hcall h0 hEn
 go_enter Tryz.func74,Tryz.ntmps74
 go_wp2_with (go_at_call 36;go_must (go_fit HI;rintro e W' ⟨rfl,hS1⟩))
 go_ret
 exact ⟨Aj (by rw [HA.out]),hS1⟩
end Go.Proofs.YtmgkcjiejmhgcaaGreatDoor

namespace Go.Proofs.YtmgkcjiejmhgcaaGreatDoor
open Go.RowKit Go.Maps
theorem F5 (p :Nat→Bool) : ∀ (n i :Nat),(Al p i n= -1∧ ∀j,i≤j→j<i+n→p j=false) ∨ ∃k,i≤k∧k<i+n∧Al p i n= (k :Int) ∧p k=true∧ ∀j,i≤j→j<k→p j=false
 | 0,i=> .inl ⟨rfl,fun j h1 h2=>absurd h2 (by omega)⟩
 | n+1,i=>by
  rw [Al]
  by_cases hp :p i=true
  ·exact .inr ⟨i,Nat.le_refl _,by omega,by rw [if_pos hp],hp,fun j h1 h2=>absurd h2 (by omega)⟩
  ·rw [if_neg hp]
   have hp' :p i=false :=Bool.eq_false_iff.2 hp
   rcases F5 p n (i+1) with ⟨h1,h2⟩ | ⟨k,h1,h2,h3,h4,h5⟩
   ·refine .inl ⟨h1,fun j hj1 hj2=> ?_⟩
    rcases Nat.eq_or_lt_of_le hj1 with h | h
    ·rw [←h];exact hp'
    ·exact h2 j h (by omega)
   ·refine .inr ⟨k,by omega,by omega,h3,h4,fun j hj1 hj2=> ?_⟩
    rcases Nat.eq_or_lt_of_le hj1 with h | h
    ·rw [←h];exact hp'
    ·exact h5 j h hj2
def atI {α :Type} (l :List α) (q :α→Bool) (i :Nat) :Bool :=match l[i]? with
 | some x=>q x
 | none=>false
theorem Cn {α :Type} {l :List α} {q :α→Bool} {i :Nat} {x :α} (h :l[i]? =some x) :atI l q i=q x :=by simp [atI,h]
theorem Fq {α :Type} (l :List α) (q :α→Bool) : (Al (atI l q) 0 l.length= -1∧l.find? q=none) ∨ ∃ (k :Nat) (x :α),Al (atI l q) 0 l.length= (k :Int) ∧l[k]? =some x∧q x=true∧l.find? q=some x :=by
 rcases F5 (atI l q) l.length 0 with ⟨h1,h2⟩ | ⟨k,_,h2,h3,h4,h5⟩
 ·refine .inl ⟨h1,List.find?_eq_none.2 fun x hx=> ?_⟩
  obtain ⟨i,hi,rfl⟩ :=List.getElem_of_mem hx
  have :=h2 i (Nat.zero_le _) (by omega)
  rw [Cn (List.getElem?_eq_getElem hi)] at this
  simp [this]
 ·have hk :k<l.length :=by omega
  have hx :=List.getElem?_eq_getElem hk
  rw [Cn hx] at h4
  refine .inr ⟨k,l[k],h3,hx,h4, ?_⟩
  rw [List.find?_eq_some_iff_getElem]
  exact ⟨h4,k,hk,rfl,fun j hj=>by
   have :=h5 j (Nat.zero_le _) hj
   rw [Cn (List.getElem?_eq_getElem (by omega))] at this
   simp [this]⟩
def Gc (x :ColD) :Bool :=nm x.name&& (decide (x.ty=1) || decide (x.ty=2))
def Em (l :List ColD) (i :Nat) :Bool :=match l[i]? with
 | some x=> !Gc x || Dy ((l.take i).map ColD.name) x.name
 | none=>false
def Ii (l :List ColD) :Bool := !A1 (Em l) 0 l.length
def Ma (l :List ColD) :Prop := ∀x∈l,x.name.size≤maxLen
set_option maxHeartbeats 1000000 in
theorem Sa (x :ColD) (w :World) (hs :x.name.size≤maxLen) :Calls Tryz.prog 76 #[.agg #[.string x.name, .int .i64 x.ty, .bool x.must]] w fun e w'=>e= .returned (.bool (Gc x)) ∧Below w.heap.size w w' :=by
 obtain ⟨name,ty,must⟩ :=x
 simp only at hs⊢
 have hN :=fun w=>Gl name w hs
 have E :Hid (Gc ⟨name,ty,must⟩ = (nm name&& (decide (ty=1) || decide (ty=2)))) :=rfl
 generalize Gc ⟨name,ty,must⟩ =r at E
 generalize nm name=b at hN E
 clear hs
 cases b<;>by_cases h1 :ty=1<;>by_cases h2 :ty=2
 all_goals (try omega)
 all_goals
  go_enter Tryz.func76,Tryz.ntmps76
  go_wp2_with (go_at_call 34;go_fit (hN _);rintro e w1 ⟨rfl,rfl⟩)
  go_ret
  exact ⟨Aj (by rw [E.out];simp_all),(Below.refl _ _).alloc (Nat.le_refl _) _⟩
theorem Below.grow {B :Nat} {a w w' :World} {b :Nat} (h :Below B a w) (hg :w.grownBy w' (some b)) (hB :B≤w.heap.size) (hb :B≤b) :Below B a w' :=h.grown hg hB fun k hk=>by cases hk;exact hb
set_option maxHeartbeats 2000000 in
theorem Qa (x :ColD) (mb pb :Nat) (N :List Wd) (w :World) (hs :x.name.size≤maxLen) (hN :N.length≤16777215) (hc :Cnt w mb N) (hp :w.cell? ⟨pb,0,none⟩ =some (.map (some mb))) (hpb :pb<w.heap.size) :
  Calls Tryz.prog 75 #[.agg #[.string x.name, .int .i64 x.ty, .bool x.must], .pointer (some ⟨pb,0,none⟩)] w fun e w'=>e= .returned (.bool (!Gc x || Dy N x.name)) ∧w.grownBy w' (some mb) ∧ (Gc x=true→Cnt w' mb (N++ [x.name])) :=by
 have hG :=fun w=>Sa x w hs
 generalize Gc x=b at hG
 obtain ⟨name,ty,must⟩ :=x
 simp only at hs hG⊢
 have hbx :=Aq w (.cells #[.string name, .int .i64 ty, .bool must] 66)
 cases b
 ·go_enter Tryz.func75,Tryz.ntmps75
  go_wp2_with (go_at_call 76;go_fit (hG _);rintro e w1 ⟨rfl,hb1⟩)
  go_ret
  have hb2 :=Ak hbx hb1
  exact ⟨Aj (by simp),⟨hb2.os,hb2.tape,hb2.output,hb2.size,fun k hk _=>hb2.block k hk⟩,fun h=>by cases h⟩
 ·have hA :=fun w' (h :Below w.heap.size w w') =>K8 mb N name w' (hc.below h) hs (by omega)
  generalize Dy N name=q at hA
  clear hc
  go_enter Tryz.func75,Tryz.ntmps75
  go_wp2_with (first | (go_at_call 76;go_fit (hG _);rintro e w1 ⟨rfl,hb1⟩;have hp1 := ((Ak hbx hb1).cell (p := ⟨pb,0,none⟩) hpb).trans hp;obtain ⟨hcc,hff⟩ :=Y3 hb1) | (go_at_call 77;go_fit (hA _ (Ak hbx hb1));rintro e w2 ⟨rfl,hc2,hg2⟩))
  go_ret
  have hb2 :=Ak hbx hb1
  exact ⟨Aj (by simp),⟨hg2.os.trans hb2.os,hg2.tape.trans hb2.tape,hg2.output.trans hb2.output,Nat.le_trans hb2.size hg2.size,fun k hk hne=> (hg2.block k (Nat.lt_of_lt_of_le hk hb2.size) hne).trans (hb2.block k hk)⟩,fun _=>hc2⟩
theorem O7 {w :World} {b :Nat} {N :List Wd} (h :Cnt w b N) (o :Obj) :Cnt (w.alloc o) b N :=h.below (Aq _ _)
set_option maxHeartbeats 2000000 in
theorem Qs (l :List ColD) (sv :Value) (C :Nat) (w :World) (hl :IsL Bg (fun k=>k<C) w sv l) (hC :C≤w.heap.size) (hf :Ma l) (hn :l.length≤16777215) :
  Calls Tryz.prog 35 #[sv] w fun e w'=>e= .returned (.bool (Ii l)) ∧Below w.heap.size w w' :=by
 obtain ⟨ao,c,rfl⟩ :=hl.shape
 have hb2 :=Bz w (.map #[] 0) (.cells #[.map (some w.heap.size)] 108)
 have HC :=Mj l (fun k=>k<C) ao l.length c (.pointer (some ⟨w.heap.size+1,0,none⟩)) (Em l)
  (fun i W=>Cnt W w.heap.size ((l.take i).map ColD.name) ∧W.cell? ⟨w.heap.size+1,0,none⟩ =some (.map (some w.heap.size)) ∧Below w.heap.size w W∧w.heap.size+2≤W.heap.size) (fun W=>Below w.heap.size w W)
  ((w.alloc (.map #[] 0)).alloc (.cells #[.map (some w.heap.size)] 108)) (fun i W h=>h.2.2.1) (fun i W h=>hl.keep (Ag (h.2.2.1.mono hC)))
  (by
   rintro i x cs W hx ⟨h1,h2,h3,h4⟩ rfl
   refine (Qa x w.heap.size (w.heap.size+1) _ W (hf x (List.mem_of_getElem? hx)) (by simp;omega) h1 h2 (by omega)).mono ?_
   rintro e W' ⟨rfl,hg,hc⟩
   have hbW :Below w.heap.size w W' :=Below.grow h3 hg (by omega) (Nat.le_refl _)
   have hE :Em l i= (!Gc x || Dy ((l.take i).map ColD.name) x.name) :=by simp [Em,hx]
   refine ⟨by rw [hE],hbW,fun hp=> ⟨?_, ?_,hbW,Nat.le_trans h4 hg.size⟩⟩
   ·rw [hE] at hp
    rw [List.take_add_one,hx,List.map_append]
    exact hc (by simp at hp;exact hp.1)
   ·exact hg.cell h2 (by simp))
  ⟨O7 (Mz w) _,Aa (A0 _ _ _) rfl,hb2,by simp⟩
 have E :Hid (Ii l= !A1 (Em l) 0 l.length) :=rfl
 generalize Ii l=r at E
 generalize A1 (Em l) 0 l.length=q at E HC
 clear hl hf
 have hmm := @run_makeMap Tryz.prog
 go_enter Tryz.func35,Tryz.ntmps35
 go_wp2_with (go_at_call 74;go_fit HC;rintro e w1 ⟨rfl,hb1⟩)
 go_ret
 exact ⟨Aj (by rw [E.out]),hb1⟩
end Go.Proofs.YtmgkcjiejmhgcaaGreatDoor

namespace Go.Proofs.YtmgkcjiejmhgcaaGreatDoor
open Go.RowKit Go.Maps
theorem Bu (a b :Wd) : (a.toList==b.toList) =decide (a=b) :=by
 rw [Bool.eq_iff_iff,beq_iff_eq,decide_eq_true_eq,ByteArray.toList_eq,ByteArray.toList_eq]
 constructor
 ·intro h;exact ByteArray.ext (Array.toList_inj.1 h)
 ·rintro rfl;rfl
def Bk (l :List ColD) (s :Wd) :Int :=Al (atI l fun x=>decide (x.name=s)) 0 l.length
def A5 (T :List TabD) (s :Wd) :Option TabD :=T.find? fun x=>decide (x.name=s)
set_option maxHeartbeats 1000000 in
theorem Qt (x :ColD) (pb :Nat) (s :Wd) (w :World) (hp :w.cell? ⟨pb,0,none⟩ =some (.string s)) (hpb :pb<w.heap.size) :
  Calls Tryz.prog 37 #[.agg #[.string x.name, .int .i64 x.ty, .bool x.must], .pointer (some ⟨pb,0,none⟩)] w fun e w'=>e= .returned (.bool (decide (x.name=s))) ∧Below w.heap.size w w' :=by
 obtain ⟨name,ty,must⟩ :=x
 simp only
 have E :Hid (decide (name=s) = (name.toList==s.toList)) := (Bu _ _).symm
 generalize decide (name=s) =r at E
 have hp1 := ((Aq w (.cells #[.string name, .int .i64 ty, .bool must] 66)).cell (p := ⟨pb,0,none⟩) hpb).trans hp
 go_enter Tryz.func37,Tryz.ntmps37
 go_wp2
 go_ret
 exact ⟨Aj (by rw [E.out]),Aq _ _⟩
set_option maxHeartbeats 1000000 in
theorem Om (x :TabD) (sv :Value) (hsv :Dx sv) (pb :Nat) (s :Wd) (w :World) (hp :w.cell? ⟨pb,0,none⟩ =some (.string s)) (hpb :pb<w.heap.size) :
  Calls Tryz.prog 39 #[.agg #[.string x.name,sv], .pointer (some ⟨pb,0,none⟩)] w fun e w'=>e= .returned (.bool (decide (x.name=s))) ∧Below w.heap.size w w' :=by
 obtain ⟨name,cols⟩ :=x
 obtain ⟨ao,n,c,rfl⟩ :=hsv
 simp only
 have E :Hid (decide (name=s) = (name.toList==s.toList)) := (Bu _ _).symm
 generalize decide (name=s) =r at E
 have hp1 := ((Aq w (.cells #[.string name, .slice ao n c] 47)).cell (p := ⟨pb,0,none⟩) hpb).trans hp
 go_enter Tryz.func39,Tryz.ntmps39
 go_wp2
 go_ret
 exact ⟨Aj (by rw [E.out]),Aq _ _⟩
set_option maxHeartbeats 2000000 in
theorem Hr (l :List ColD) (nmv :Wd) (sv :Value) (s :Wd) (C :Nat) (w :World) (hl :IsL Bg (fun k=>k<C) w sv l) (hC :C≤w.heap.size) :
  Calls Tryz.prog 15 #[.agg #[.string nmv,sv], .string s] w fun e w'=>e= .returned (.int .i64 (Bk l s)) ∧Below w.heap.size w w' :=by
 obtain ⟨ao,c,rfl⟩ :=hl.shape
 have hb2 :=Bz w (.cells #[.string nmv, .slice ao l.length c] 47) (.cells #[.string s] 9)
 have HC :=P9 l (fun k=>k<C) ao l.length c (.pointer (some ⟨w.heap.size+1,0,none⟩)) (atI l fun x=>decide (x.name=s))
  (fun _ W=>W.cell? ⟨w.heap.size+1,0,none⟩ =some (.string s) ∧Below w.heap.size w W∧w.heap.size+2≤W.heap.size) (fun W=>Below w.heap.size w W)
  ((w.alloc (.cells #[.string nmv, .slice ao l.length c] 47)).alloc (.cells #[.string s] 9)) (fun i W h=>h.2.1) (fun i W h=>hl.keep (Ag (h.2.1.mono hC)))
  (by
   rintro i x cs W hx ⟨h1,h2,h3⟩ rfl
   refine (Qt x (w.heap.size+1) s W h1 (by omega)).mono ?_
   rintro e W' ⟨rfl,hb⟩
   have hbW :Below w.heap.size w W' :=h2.trans (hb.mono h2.size)
   exact ⟨by rw [Cn hx],hbW,fun _=> ⟨(hb.cell (p := ⟨w.heap.size+1,0,none⟩) (show w.heap.size+1<W.heap.size by omega)).trans h1,hbW,Nat.le_trans h3 hb.size⟩⟩)
  ⟨Aa (A0 _ _ _) rfl,hb2,by simp⟩
 have E :Hid (Bk l s=Al (atI l fun x=>decide (x.name=s)) 0 l.length) :=rfl
 generalize Bk l s=r at E
 generalize Al (atI l fun x=>decide (x.name=s)) 0 l.length=q at E HC
 clear hl
 go_enter Tryz.func15,Tryz.ntmps15
 go_wp2_with (go_at_call 36;go_fit HC;rintro e w1 ⟨rfl,hb1⟩)
 go_ret
 exact ⟨A6 (by rw [E.out]),hb1⟩
theorem Mb {fn :Func} {p q :Tmp} {w :World} {g :Nat} {a :Act} {c0 c1 :Value} {t :TypeId} {fr :Nat×Nat} {R :Ending→World→Prop} (nmv :Wd) (sv :Value) (there :Bool) (hr :fn.results= #[.cell p 47, .tmp q]) (hp :a.tmps.getD p undef= .pointer (some ⟨g,0,none⟩)) (hq :a.tmps.getD q undef= .bool there) (hd :a.defers= [])
  (hg :w.heap[g]? =some (.cells #[c0,c1] t fr)) (hR :R (.returned (.tuple #[.agg #[.string nmv,sv], .bool there])) ((w.setCell ⟨g,0,none⟩ (.string nmv)).setCell ⟨g,1,none⟩ sv)) :
  bodyPost Tryz.prog fn R .ret a ((w.setCell ⟨g,0,none⟩ (.string nmv)).setCell ⟨g,1,none⟩ sv) :=
 bodyPost_ret (A2 hr a.tmps _ g t _ fr _ _ hp hq (Cl (Cl hg 0 _) 1 _) Tryz.underlying47 rfl (by kernel_rfl)) hd hR
def J1 (T :List TabD) (s :Wd) (F :Nat→Prop) (w :World) (e :Ending) (w' :World) :Prop :=
 ∃nmv ao n c there,e= .returned (.tuple #[.agg #[.string nmv, .slice ao n c], .bool there]) ∧ (match A5 T s with | some t=>there=true∧nmv=t.name∧IsL Bg F w' (.slice ao n c) t.cols | none=>there=false∧nmv=noW∧ao=none∧n=0∧c=0) ∧Below w.heap.size w w'
set_option maxHeartbeats 2000000 in
theorem Ia (T :List TabD) (tv iv :Value) (hiv :Dx iv) (s :Wd) (C :Nat) (w :World) (hl :IsL A4 (fun k=>k<C) w tv T) (hC :C≤w.heap.size) :
  Calls Tryz.prog 17 #[.agg #[tv,iv], .string s] w (J1 T s (fun k=>k<C) w) :=by
 obtain ⟨ao,c,rfl⟩ :=hl.shape
 obtain ⟨io,il,ic,rfl⟩ :=hiv
 have hb3 :=Fc w (.cells #[.slice ao T.length c, .slice io il ic] 25) (.cells #[.string s] 9) (.cells #[.string noW, .slice none 0 0] 47)
 have HC :=Ns T (fun k=>k<C) ao T.length c (.pointer (some ⟨w.heap.size+1,0,none⟩)) (atI T fun x=>decide (x.name=s))
  (fun _ W=>W.cell? ⟨w.heap.size+1,0,none⟩ =some (.string s) ∧Below (w.heap.size+3) (((w.alloc (.cells #[.slice ao T.length c, .slice io il ic] 25)).alloc (.cells #[.string s] 9)).alloc (.cells #[.string noW, .slice none 0 0] 47)) W) (fun W=>Below (w.heap.size+3) (((w.alloc (.cells #[.slice ao T.length c, .slice io il ic] 25)).alloc (.cells #[.string s] 9)).alloc (.cells #[.string noW, .slice none 0 0] 47)) W)
  (((w.alloc (.cells #[.slice ao T.length c, .slice io il ic] 25)).alloc (.cells #[.string s] 9)).alloc (.cells #[.string noW, .slice none 0 0] 47)) (fun i W h=>h.2) (fun i W h=>hl.keep (Ag ((hb3.mono hC).trans (h.2.mono (by omega)))))
  (by
   rintro i x cs W hx ⟨h1,h2⟩ ⟨sv,rfl,hsv⟩
   have hsz :=h2.size
   rw [show (((w.alloc (.cells #[.slice ao T.length c, .slice io il ic] 25)).alloc (.cells #[.string s] 9)).alloc (.cells #[.string noW, .slice none 0 0] 47)).heap.size=w.heap.size+3 from by simp] at hsz
   refine (Om x sv (El hsv) (w.heap.size+1) s W h1 (by omega)).mono ?_
   rintro e W' ⟨rfl,hb⟩
   have hbW :=h2.trans (hb.mono hsz)
   exact ⟨by rw [Cn hx],hbW,fun _=> ⟨(hb.cell (p := ⟨w.heap.size+1,0,none⟩) (show w.heap.size+1<W.heap.size by omega)).trans h1,hbW⟩⟩)
  ⟨Aa (Ae (A0 _ _ _) _) rfl,Below.refl _ _⟩
 rcases Fq T (fun x=>decide (x.name=s)) with ⟨h1,h2⟩ | ⟨k,t,h1,h2,h3,h4⟩
 ·rw [h1] at HC
  have HP :Hid (A5 T s=none) :=h2
  clear h1 h2
  go_enter Tryz.func17,Tryz.ntmps17
  go_wp2_with (go_at_call 38;go_fit HC;rintro e w1 ⟨rfl,hb1⟩;obtain ⟨z1,q1,r1,s1,t1⟩ :=Y4 (g :=w.heap.size) (hb1.mono (by simp)) (by simp))
  have hbl := (hb1.block (w.heap.size+2) (by omega)).trans (Dl w (.cells #[.slice ao T.length c, .slice io il ic] 25) (.cells #[.string s] 9) (.cells #[.string noW, .slice none 0 0] 47))
  have hbw :Below w.heap.size w w1 :=hb3.trans (hb1.mono (by omega))
  exact Mb noW (.slice none 0 0) false Tryz.results17 rfl rfl rfl hbl ⟨noW,none,0,0,false,rfl,by rw [HP.out];exact ⟨rfl,rfl,rfl,rfl,rfl⟩,(hbw.setCell (show w.heap.size≤w.heap.size+2 by omega) _).setCell (show w.heap.size≤w.heap.size+2 by omega) _⟩
 ·rw [h1] at HC
  have HP :Hid (A5 T s=some t) :=h4
  obtain ⟨b,off,cs,rfl,hbC,hbl,⟨sv,rfl,hsv⟩,hcell⟩ :=Av hl h2
  obtain ⟨so,sc,rfl⟩ :=hsv.shape
  have d0 :=hcell 0 _ rfl
  have d1 :=hcell 1 _ rfl
  simp only [A4,Nat.add_zero] at d0 d1
  have hk :k<T.length := (List.getElem?_eq_some_iff.1 h2).1
  have k0 : (0 :Int) ≤ (k :Int) :=by omega
  have k1 : (k :Int) < (T.length :Int) :=by omega
  have k2 : ¬ (k :Int) <0 :=by omega
  clear h1 h2 h3 h4 hcell
  go_enter Tryz.func17,Tryz.ntmps17
  go_wp2_with (go_at_call 38;go_fit HC;rintro e w1 ⟨rfl,hb1⟩;obtain ⟨z1,q1,r1,s1,t1⟩ :=Y4 (g :=w.heap.size) (hb1.mono (by simp)) (by simp);have hbw :Below w.heap.size w w1 :=hb3.trans (hb1.mono (by omega));have d2 := (hbw.cell (p := ⟨b,off+k*2,none⟩) hbl).trans d0;have d3 := (hbw.cell (p := ⟨b,off+k*2+1,none⟩) hbl).trans d1)
  have hbl2 := (hb1.block (w.heap.size+2) (by omega)).trans (Dl w (.cells #[.slice (some ⟨b,off,none⟩) T.length c, .slice io il ic] 25) (.cells #[.string s] 9) (.cells #[.string noW, .slice none 0 0] 47))
  have hbF :Below w.heap.size w ((w1.setCell ⟨w.heap.size+2,0,none⟩ (.string t.name)).setCell ⟨w.heap.size+2,1,none⟩ (.slice so t.cols.length sc)) := (hbw.setCell (show w.heap.size≤w.heap.size+2 by omega) _).setCell (show w.heap.size≤w.heap.size+2 by omega) _
  exact Mb t.name (.slice so t.cols.length sc) true Tryz.results17 rfl rfl rfl hbl2 ⟨t.name,so,t.cols.length,sc,true,rfl,by rw [HP.out];exact ⟨rfl,rfl,hsv.keep (Ag (hbF.mono hC))⟩,hbF⟩
end Go.Proofs.YtmgkcjiejmhgcaaGreatDoor


/-
  1 texts of this proof in one, in build order: WDel.
-/
import Derived.Test.YtmgkcjiejmhgcaaGreatDoorJ15
set_option linter.unusedSimpArgs false
set_option linter.unusedVariables false
namespace Go.Proofs.YtmgkcjiejmhgcaaGreatDoor
open Go.RowKit
def Gg (c :List Value) :Prop := ∃s0 a1 n1 c1,c= [.string s0, .slice a1 n1 c1]
def Fv :Elem (List Value) where
 size :=2
 R _ _ c cs :=cs=c∧Gg c
 len h :=by obtain ⟨rfl,s0,a1,n1,c1,rfl⟩ :=h;rfl
 keep _ h :=h
 mono _ h :=h
theorem Pb {c :List Value} (h :Gg c) :c.length=2 :=by obtain ⟨s0,a1,n1,c1,rfl⟩ :=h;rfl
theorem Pc {c :List Value} (h :Gg c) : ∀u∈c,u.oneCell'=true :=by
 obtain ⟨s0,a1,n1,c1,rfl⟩ :=h
 simp [Value.oneCell']
theorem Na : (Tryz.prog.info? 47).map (fun i=> (i.zero,i.size,i.bytes)) =some (some (.agg #[.string ⟨#[]⟩, .slice none 0 0]),2,40) :=by kernel_rfl
theorem Cj : (Tryz.prog.info? 47).map (·.size) =some 2 :=by kernel_rfl
theorem N6 {w :World} {B :Nat} {v :Value} {CS :List (List Value)} (h :w.ownsRow B 47 2 v CS.length CS.flatten) (hs : ∀c∈CS,Gg c) :IsL Fv (fun _=>True) w v CS :=
 ⟨CS.flatten,Cu.of_own h fun _ _=>trivial,He rfl fun i x c h1 h2=>by rw [h1] at h2;cases h2;exact ⟨rfl,hs _ (List.mem_of_getElem? h1)⟩⟩
def Gh (c :List Value) :Prop := ∃s0 s1 s2,c= [.string s0, .string s1, .string s2]
def Fw :Elem (List Value) where
 size :=3
 R _ _ c cs :=cs=c∧Gh c
 len h :=by obtain ⟨rfl,s0,s1,s2,rfl⟩ :=h;rfl
 keep _ h :=h
 mono _ h :=h
theorem Pd {c :List Value} (h :Gh c) :c.length=3 :=by obtain ⟨s0,s1,s2,rfl⟩ :=h;rfl
theorem Pe {c :List Value} (h :Gh c) : ∀u∈c,u.oneCell'=true :=by
 obtain ⟨s0,s1,s2,rfl⟩ :=h
 simp [Value.oneCell']
theorem Nb : (Tryz.prog.info? 64).map (fun i=> (i.zero,i.size,i.bytes)) =some (some (.agg #[.string ⟨#[]⟩, .string ⟨#[]⟩, .string ⟨#[]⟩]),3,48) :=by kernel_rfl
theorem Hf : (Tryz.prog.info? 64).map (·.size) =some 3 :=by kernel_rfl
theorem N7 {w :World} {B :Nat} {v :Value} {CS :List (List Value)} (h :w.ownsRow B 64 3 v CS.length CS.flatten) (hs : ∀c∈CS,Gh c) :IsL Fw (fun _=>True) w v CS :=
 ⟨CS.flatten,Cu.of_own h fun _ _=>trivial,He rfl fun i x c h1 h2=>by rw [h1] at h2;cases h2;exact ⟨rfl,hs _ (List.mem_of_getElem? h1)⟩⟩
theorem Sm (n :Nat) : ∀u∈ (Builtin.zeroCells ((.agg #[.string ⟨#[]⟩, .slice none 0 0]) :Value).cells n).toList,u.oneCell'=true :=by
 intro u hu
 simp only [Builtin.zeroCells,Array.toList_map,List.mem_map] at hu
 obtain ⟨i,_,rfl⟩ :=hu
 have hlt :i %2<2 :=Nat.mod_lt _ (by decide)
 have key : ∀j,j<2→ (((.agg #[.string ⟨#[]⟩, .slice none 0 0]) :Value).cells[j]!).oneCell'=true :=by
  intro j hj
  rcases (by omega :j=0∨j=1) with rfl | rfl
  all_goals rfl
 exact key _ hlt
theorem Sn (n :Nat) : ∀u∈ (Builtin.zeroCells ((.agg #[.string ⟨#[]⟩, .string ⟨#[]⟩, .string ⟨#[]⟩]) :Value).cells n).toList,u.oneCell'=true :=by
 intro u hu
 simp only [Builtin.zeroCells,Array.toList_map,List.mem_map] at hu
 obtain ⟨i,_,rfl⟩ :=hu
 have hlt :i %3<3 :=Nat.mod_lt _ (by decide)
 have key : ∀j,j<3→ (((.agg #[.string ⟨#[]⟩, .string ⟨#[]⟩, .string ⟨#[]⟩]) :Value).cells[j]!).oneCell'=true :=by
  intro j hj
  rcases (by omega :j=0∨j=1∨j=2) with rfl | rfl | rfl
  all_goals rfl
 exact key _ hlt
set_option maxRecDepth 100000 in
set_option maxHeartbeats 2000000 in
theorem Ll (cs :List Value) (n :Nat) (sv :Value) (F :Nat→Prop) (w :World) (h :Cu F 2 w sv n cs) (h1 : ∀u∈cs,u.oneCell'=true) (hn :n*40≤140737488355328) :
  Calls Tryz.prog 82 #[sv] w fun e w'=> ∃v,e= .returned v∧w'.ownsRow w.heap.size 47 2 v n cs∧Below w.heap.size w w' :=by
 obtain ⟨i0,hi0,hz0,hz1,hz2⟩ :=info_parts Na
 have q22 : ∀ (w :World) (a :Option Addr) (n c n' c' :Nat),(binOp .eql 22 (.slice a n c) (.slice none n' c')).run Tryz.prog w= .ok (.bool a.isNone) w :=fun w a n c n' c'=>Lib.run_eql_slice_nil w _ _ a n c n' c' Tryz.underlying22
 have hlen :=h.1
 have fin : ∀ao c,sv= .slice ao n c→ (ao=none→n=0) → (∀ad,ao=some ad→ ∀j u,cs[j]? =some u→w.cell? (ad.add j) =some u∧ad.block<w.heap.size) → (ao=none→c=0) →
   Calls Tryz.prog 82 #[sv] w fun e w'=> ∃v,e= .returned v∧w'.ownsRow w.heap.size 47 2 v n cs∧Below w.heap.size w w' :=by
  intro ao c he h0 hc hcz
  subst he
  cases ao with
  | none=>
   obtain rfl :=h0 rfl
   obtain rfl :=hcz rfl
   have :cs= [] :=List.eq_nil_of_length_eq_zero (by omega)
   subst this
   go_enter Tryz.func82,Tryz.ntmps82
   go_wp2
   go_ret
   exact ⟨_,rfl,World.ownsRow_nil _ _ _ _,Below.refl _ _⟩
  | some ad=>
   have own0 : (w.alloc (.cells #[] 47)).ownsRow w.heap.size 47 2 (.slice (some ⟨w.heap.size,0,none⟩) 0 0) 0 [] :=World.ownsRow_made w #[] 0 (Nat.le_refl _) (Nat.zero_le _) (by simp)
   have HC :Hid (∀j u,cs[j]? =some u→ (w.alloc (.cells #[] 47)).cell? (ad.add j) =some u) :=fun j u hj=>by
    obtain ⟨hq1,hq2⟩ :=hc ad rfl j u hj
    obtain ⟨ab,ao,asp⟩ :=ad
    exact ((Aq w (.cells #[] 47)).cell (p := (⟨ab,ao,asp⟩ :Addr).add j) (by unfold Addr.add;split<;>exact hq2)).trans hq1
   have HB :Hid (n*40≤140737488355328) :=hn
   clear hn hc
   obtain ⟨ab,ao,asp⟩ :=ad
   go_enter Tryz.func82,Tryz.ntmps82
   go_wp2_with (at_builtin;refine wpList_append_own_at _ rfl _ _ 22 rfl w.heap.size 47 i0 (.agg #[.string ⟨#[]⟩, .slice none 0 0]) 2 40 Tryz.underlying22 hi0 hz0 hz1 hz2 rfl (by decide) _ _ _ rfl own0 ⟨ab,ao,asp⟩ n c cs rfl hlen HC.out h1 (by have :=HB.out;simp only [maxLen];omega) (by have :=HB.out;omega) (by simp) ?_)
   intro v' w1 hown hgrow _ _
   go_wp2
   go_ret
   exact ⟨v',rfl,hown,((Below.refl _ w).alloc (Nat.le_refl _) _).grown hgrow (by simp) (by intro k hk;simp [Value.ownBlock] at hk;omega)⟩
 rcases h.2 with ⟨h0,ao,c,he,hnil⟩ | ⟨h0,b,off,cap,he,_,hb,_,_,hc⟩
 ·subst h0
  have hcs :cs= [] :=List.eq_nil_of_length_eq_zero (by omega)
  subst hcs
  exact fin ao c he (fun _=>rfl) (fun ad _ j u hj=>by simp at hj) hnil
 ·exact fin _ cap he (fun h=>by cases h) (fun ad h j u hj=>by cases h;rw [Addr.add_lit];exact ⟨hc j u hj,hb⟩) (fun h=>by cases h)
set_option maxRecDepth 100000 in
set_option maxHeartbeats 2000000 in
theorem Lm (cs :List Value) (n :Nat) (sv :Value) (F :Nat→Prop) (w :World) (h :Cu F 3 w sv n cs) (h1 : ∀u∈cs,u.oneCell'=true) (hn :n*48≤140737488355328) :
  Calls Tryz.prog 86 #[sv] w fun e w'=> ∃v,e= .returned v∧w'.ownsRow w.heap.size 64 3 v n cs∧Below w.heap.size w w' :=by
 obtain ⟨i0,hi0,hz0,hz1,hz2⟩ :=info_parts Nb
 have q22 : ∀ (w :World) (a :Option Addr) (n c n' c' :Nat),(binOp .eql 23 (.slice a n c) (.slice none n' c')).run Tryz.prog w= .ok (.bool a.isNone) w :=fun w a n c n' c'=>Lib.run_eql_slice_nil w _ _ a n c n' c' Tryz.underlying23
 have hlen :=h.1
 have fin : ∀ao c,sv= .slice ao n c→ (ao=none→n=0) → (∀ad,ao=some ad→ ∀j u,cs[j]? =some u→w.cell? (ad.add j) =some u∧ad.block<w.heap.size) → (ao=none→c=0) →
   Calls Tryz.prog 86 #[sv] w fun e w'=> ∃v,e= .returned v∧w'.ownsRow w.heap.size 64 3 v n cs∧Below w.heap.size w w' :=by
  intro ao c he h0 hc hcz
  subst he
  cases ao with
  | none=>
   obtain rfl :=h0 rfl
   obtain rfl :=hcz rfl
   have :cs= [] :=List.eq_nil_of_length_eq_zero (by omega)
   subst this
   go_enter Tryz.func86,Tryz.ntmps86
   go_wp2
   go_ret
   exact ⟨_,rfl,World.ownsRow_nil _ _ _ _,Below.refl _ _⟩
  | some ad=>
   have own0 : (w.alloc (.cells #[] 64)).ownsRow w.heap.size 64 3 (.slice (some ⟨w.heap.size,0,none⟩) 0 0) 0 [] :=World.ownsRow_made w #[] 0 (Nat.le_refl _) (Nat.zero_le _) (by simp)
   have HC :Hid (∀j u,cs[j]? =some u→ (w.alloc (.cells #[] 64)).cell? (ad.add j) =some u) :=fun j u hj=>by
    obtain ⟨hq1,hq2⟩ :=hc ad rfl j u hj
    obtain ⟨ab,ao,asp⟩ :=ad
    exact ((Aq w (.cells #[] 64)).cell (p := (⟨ab,ao,asp⟩ :Addr).add j) (by unfold Addr.add;split<;>exact hq2)).trans hq1
   have HB :Hid (n*48≤140737488355328) :=hn
   clear hn hc
   obtain ⟨ab,ao,asp⟩ :=ad
   go_enter Tryz.func86,Tryz.ntmps86
   go_wp2_with (at_builtin;refine wpList_append_own_at _ rfl _ _ 23 rfl w.heap.size 64 i0 (.agg #[.string ⟨#[]⟩, .string ⟨#[]⟩, .string ⟨#[]⟩]) 3 48 Tryz.underlying23 hi0 hz0 hz1 hz2 rfl (by decide) _ _ _ rfl own0 ⟨ab,ao,asp⟩ n c cs rfl hlen HC.out h1 (by have :=HB.out;simp only [maxLen];omega) (by have :=HB.out;omega) (by simp) ?_)
   intro v' w1 hown hgrow _ _
   go_wp2
   go_ret
   exact ⟨v',rfl,hown,((Below.refl _ w).alloc (Nat.le_refl _) _).grown hgrow (by simp) (by intro k hk;simp [Value.ownBlock] at hk;omega)⟩
 rcases h.2 with ⟨h0,ao,c,he,hnil⟩ | ⟨h0,b,off,cap,he,_,hb,_,_,hc⟩
 ·subst h0
  have hcs :cs= [] :=List.eq_nil_of_length_eq_zero (by omega)
  subst hcs
  exact fin ao c he (fun _=>rfl) (fun ad _ j u hj=>by simp at hj) hnil
 ·exact fin _ cap he (fun h=>by cases h) (fun ad h j u hj=>by cases h;rw [Addr.add_lit];exact ⟨hc j u hj,hb⟩) (fun h=>by cases h)
set_option maxRecDepth 100000 in
set_option maxHeartbeats 2000000 in
theorem Qh (l :List (List Value)) (ao :Option Addr) (n c :Nat) (f0 :Value) (p :Nat→Bool) (St :Nat→World→Prop) (En :World→Prop) (w :World) (hEn : ∀i W,St i W→En W) (hIs : ∀i W,St i W→IsL Fv (fun _=>True) W (.slice ao n c) l)
  (hcall : ∀i cs W,l[i]? =some cs→St i W→Calls Tryz.prog 45 #[.agg cs.toArray,f0] W fun e W'=>e= .returned (.bool (p i)) ∧En W'∧ (p i=false→St (i+1) W')) (h0 :St 0 w) :
  Calls Tryz.prog 38 #[.slice ao n c, .func (.func 45) #[] #[f0]] w fun e W'=>e= .returned (.int .i64 (Al p 0 l.length)) ∧En W' :=by
 obtain ⟨hn,hlm⟩ :=Bj (hIs 0 w h0)
 subst hn
 unfold maxLen at hlm
 go_enter Tryz.func38,Tryz.ntmps38
 go_wp2
 go_loopw [8] (fun i wr=> ∃k :Nat,k≤l.length∧i= .int .i64 k∧St k wr∧Hid (Al p 0 l.length=Al p k (l.length - k))) (fun i _=>l.length - (intOf i).toNat)
 case atStart=>exact ⟨0,Nat.zero_le _,rfl,h0,rfl⟩
 case round=>
  obtain ⟨k,hk,rfl,hSt,HP⟩ :=hrel
  by_cases hlt :k<l.length
  ·obtain ⟨x,hx⟩ : ∃x,l[k]? =some x := ⟨_,List.getElem?_eq_getElem hlt⟩
   obtain ⟨b,off,cs,rfl,_,hb,hR,hcell⟩ :=Av (hIs k wr hSt) hx
   have HC :=hcall k x wr hx hSt
   obtain ⟨rfl,hsh⟩ :=hR
   obtain ⟨s0,a1,n1,c1,rfl⟩ :=hsh
   have d0 :=hcell 0 _ rfl
   have d1 :=hcell 1 _ rfl
   simp only [Fv,Nat.add_zero] at d0 d1
   have k0 : (0 :Int) ≤ (k :Int) :=by omega
   have k1 : (k :Int) < (l.length :Int) :=by omega
   have hst :Hid (Al p k (l.length - k) =if p k then (k :Int) else Al p (k+1) (l.length - (k+1))) :=Ch p k l.length hlt
   clear hcell hx
   generalize hq :p k=q at HC hst
   clear hq
   cases q
   ·go_wp2_with (go_at_call 45;go_must (go_fit HC;rintro e W' ⟨rfl,_,hS1⟩))
    go_roundw
    case rel=>exact ⟨k+1,by omega,by go_num,hS1 (by first | rfl | trivial),by rw [HP.out,hst.out];rfl⟩
    case measure=>simp [intOf];omega
   ·go_wp2_with (go_at_call 45;go_must (go_fit HC;rintro e W' ⟨rfl,hS1,_⟩))
    go_ret
    exact ⟨A6 (by rw [HP.out,hst.out];rfl),hS1⟩
  ·have HE :Hid (Al p k (l.length - k) = -1) :=by show _=_;rw [show l.length - k=0 from by omega,Al]
   go_wp2
   go_ret
   exact ⟨A6 (by rw [HP.out,HE.out]),hEn k _ hSt⟩
set_option maxRecDepth 100000 in
set_option maxHeartbeats 8000000 in
theorem Oz (CS :List (List Value)) (v :Value) (f0 :Value) (p :Nat→Bool) (B :Nat) (w :World) (hown :w.ownsRow B 47 2 v CS.length CS.flatten) (hs : ∀c∈CS,Gg c) (hB :B≤w.heap.size)
  (hcall : ∀i cs W,CS[i]? =some cs→w.grownBy W v.ownBlock→Calls Tryz.prog 45 #[.agg cs.toArray,f0] W fun e W'=>e= .returned (.bool (p i)) ∧Below W.heap.size W W') :
  Calls Tryz.prog 87 #[v, .func (.func 45) #[] #[f0]] w fun e w'=> ∃v',e= .returned v'∧w'.ownsRow B 47 2 v' (Cc p 0 CS).length (Cc p 0 CS).flatten∧w.grownBy w' v.ownBlock∧Below B w w' :=by
 have hlk : ∀c∈CS,c.length=2 :=fun c hc=>Pb (hs c hc)
 obtain ⟨ao,cap,rfl⟩ := (N6 hown hs).shape
 have HI :=Qh CS ao CS.length cap f0 p (fun _ W=>Below w.heap.size w W) (fun W=>Below w.heap.size w W) w (fun _ _ h=>h) (fun _ W h=>N6 (Az hown h) hs)
  (fun i cs W hi hW=> (hcall i cs W hi (Cw _ hW)).mono fun e W' ⟨he,hb⟩ => ⟨he,Ak hW hb,fun _=>Ak hW hb⟩) (Below.refl _ _)
 rcases Ke p CS.length 0 with hf | ⟨i0,hf,_,hi0,hp0,hpre⟩
 ·have hall :Hid (Cc p 0 CS=CS) :=H6 p CS 0 (Kd p _ _ hf)
  rw [hf] at HI
  go_enter Tryz.func87,Tryz.ntmps87
  go_wp2_with (go_at_call 38;go_must (go_fit HI;rintro e w1 ⟨rfl,hb1⟩))
  go_ret
  rw [hall.out]
  exact ⟨_,rfl,Az hown hb1,Cw _ hb1,hb1.mono hB⟩
 ·rw [hf] at HI
  rcases Gn hown with ⟨_,h0⟩ | ⟨g,cap',X0,hv,hBg,hX0,hncap,hcapm,hXl,hXt⟩
  ·omega
  cases hv
  have hkeep0 :Hid (Cc p 0 (CS.take (i0+1)) =CS.take i0) :=by
   show _=_
   have hx :CS[i0]? =some (CS[i0]'(by omega)) :=List.getElem?_eq_getElem (by omega)
   rw [Il p CS i0 _ hx,hp0,H6 p (CS.take i0) 0 fun j h1 h2=>hpre j h1 (by simp at h2;omega)]
   simp
  have hlm :CS.length≤9223372036854775807 :=by
   simp only [maxLen] at hcapm
   omega
  clear hf hp0 hpre
  have hgw :=lt_of_block hX0
  go_enter Tryz.func87,Tryz.ntmps87
  go_wp2_with (go_at_call 38;go_must (go_fit HI;rintro e w1 ⟨rfl,hb1⟩))
  have hX1 := (hb1.block g hgw).trans hX0
  go_loopw [5,6] (fun iv jv wr=> ∃i j :Nat,∃X :List Value,i<j∧j≤CS.length∧iv= .int .i64 i∧jv= .int .i64 j∧wr.heap[g]? =some (.cells X.toArray 47) ∧X.length=cap*2∧Hid (X.take (i*2) = (Cc p 0 (CS.take j)).flatten) ∧Hid (i= (Cc p 0 (CS.take j)).length) ∧ (∀m c,j≤m→CS[m]? =some c→ ∀r u,c[r]? =some u→X[m*2+r]? =some u) ∧w.grownBy wr (some g)) (fun _ j _=>CS.length - (intOf j).toNat)
  case atStart=>
   refine ⟨i0,i0+1,X0,by omega,by omega,rfl,by go_num,hX1,hXl, ?_, ?_, ?_,Cw _ hb1⟩
   ·show _=_
    rw [hkeep0.out]
    have e1 :X0.take (i0*2) = (X0.take (CS.length*2)).take (i0*2) :=by rw [List.take_take,Nat.min_eq_left (by omega)]
    rw [e1,hXt,←List.take_append_drop i0 CS,List.flatten_append,List.take_append_drop]
    have hl2 : (CS.take i0).flatten.length=i0*2 :=by rw [E7 fun c hc=>hlk c (List.mem_of_mem_take hc),List.length_take,Nat.min_eq_left (by omega)]
    rw [←hl2,List.take_left]
   ·show _=_
    rw [hkeep0.out,List.length_take,Nat.min_eq_left (by omega)]
   ·intro m c hm hc r u hr
    have h1 :=Jm hlk hc r u hr
    have hml := (List.getElem?_eq_some_iff.1 hc).1
    have hrl := (List.getElem?_eq_some_iff.1 hr).1
    rw [hlk c (List.mem_of_getElem? hc)] at hrl
    rw [←hXt,List.getElem?_take_of_lt (by omega)] at h1
    exact h1
  case round=>
   obtain ⟨i,j,X,hij,hj,rfl,rfl,hX,hXL,HT,HL,hrest,hgr⟩ :=hrel
   by_cases hlt :j<CS.length
   ·obtain ⟨x,hx⟩ : ∃x,CS[j]? =some x := ⟨_,List.getElem?_eq_getElem hlt⟩
    have HC :=fun W hW=>hcall j x W hx hW
    have hstep :=Il p CS j x hx
    obtain ⟨s0,a1,n1,c1,rfl⟩ :=hs x (List.mem_of_getElem? hx)
    have d0 :wr.cell? ⟨g,j*2,none⟩ =some (.string s0) :=Aa hX (by have :=hrest j _ (Nat.le_refl _) hx 0 _ rfl;simpa using this)
    have d1 :wr.cell? ⟨g,j*2+1,none⟩ =some (.slice a1 n1 c1) :=Aa hX (by have :=hrest j _ (Nat.le_refl _) hx 1 _ rfl;simpa using this)
    have j0 : (0 :Int) ≤ (j :Int) :=by omega
    have j1 : (j :Int) < (CS.length :Int) :=by omega
    have hgr1 :w.grownBy (wr.alloc (.cells [.string s0, .slice a1 n1 c1].toArray 47)) (some g) :=Ci hgr (Cw _ (Aq _ _))
    have HC1 :=HC _ hgr1
    have hX1 :=Ae hX (.cells [.string s0, .slice a1 n1 c1].toArray 47)
    have HX :Hid _ :=hx
    have HR :Hid _ :=hrest
    have HS :Hid _ :=hstep
    have hgl :=lt_of_block hX
    clear hx hrest HC hstep
    generalize hq :p j=q at HC1 HS
    cases q
    ·have hone : (#[.string s0, .slice a1 n1 c1] :Array Value).all (·.oneCell') =true :=by simp [Value.oneCell']
     go_wp2_with (first
      | (go_at_call 45;go_must (go_fit HC1;rintro e W' ⟨rfl,hbW⟩;have hXW := (hbW.block g (lt_of_block hX1)).trans hX1;have t0 := (hbW.block wr.heap.size (by simp)).trans (Ab wr (.cells [.string s0, .slice a1 n1 c1].toArray 47));have x0 :=Aa t0 (j :=0) rfl;have x1 :=Aa t0 (j :=1) rfl;have hthere :W'.there g (i*2) 2 := (fun r hr=> ⟨by rw [Aa hXW (j :=i*2+r) (u :=X[i*2+r]'(by omega)) (by simp)];rfl,by simp [World.frozen?,hXW]⟩);have i0' : (0 :Int) ≤ (i :Int) := (by omega);have i1' : (i :Int) < (CS.length :Int) := (by omega)))
      | (refine wpList_store_mid rfl 47 _ _ rfl g (i*2) #[.string s0, .slice a1 n1 c1] ?_ ?_ ?_ ?_ ?_ ?_;exact rfl;exact rfl;exact hthere;exact Cj;exact hone))
     go_roundw
     case rel=>
      refine ⟨_,_,_,_,_,_,_,_,_,_,_,_,_,_,_,_,_,_,_,_,_,_,_, ?_,rfl⟩
      refine ⟨i+1,j+1,splice X (i*2) [.string s0, .slice a1 n1 c1],by omega,by omega,by go_num,by go_num, ?_, ?_, ?_, ?_, ?_, ?_⟩
      ·exact Dv [.string s0, .slice a1 n1 c1] (i*2) X _ hXW (by simp;omega)
      ·rw [length_splice _ _ _ (by simp;omega)];exact hXL
      ·show _=_
       rw [HS.out]
       have e1 : (i+1) *2=i*2+ ([.string s0, .slice a1 n1 c1] :List Value).length :=by simp;omega
       rw [e1,Ee _ _ _ (by omega),HT.out]
       simp
      ·show _=_
       rw [HS.out]
       have :=HL.out
       simp [←this]
      ·intro m c hm hc r u hr
       rw [Ig _ _ _ _ (by omega) (by simp;omega)]
       exact HR.out m c (by omega) hc r u hr
      ·exact Ci (Ci hgr1 (Cw _ hbW)) (Et g _ _)
     case measure=>simp [intOf];omega
    ·go_wp2_with (go_at_call 45;go_must (go_fit HC1;rintro e W' ⟨rfl,hbW⟩))
     go_roundw
     case rel=>
      refine ⟨_,_,_,_,_,_,_,_,_,_,_,_,_,_,_,_,_,_,_,_,_,_,_, ?_,rfl⟩
      refine ⟨i,j+1,X,by omega,by omega,by first | rfl | go_num,by go_num,(hbW.block g (lt_of_block hX1)).trans hX1,hXL, ?_, ?_,fun m c hm hc r u hr=>HR.out m c (by omega) hc r u hr,Ci hgr1 (Cw _ hbW)⟩
      ·show _=_
       rw [HS.out,HT.out];simp
      ·show _=_
       rw [HS.out];simpa using HL.out
     case measure=>simp [intOf];omega
   ·have hjn :j=CS.length :=by omega
    subst hjn
    rw [List.take_length] at HT HL
    have v1 : ¬ ((CS.length :Int) < (CS.length :Int)) :=by omega
    have i0' : (0 :Int) ≤ (i :Int) :=by omega
    have i1' : (i :Int) ≤ (CS.length :Int) :=by omega
    have i2' : ¬ (cap=i) :=by omega
    have i3' : (i :Int) ≤ (cap :Int) :=by omega
    have hz : ∀w,(zeroValue 47).run Tryz.prog w= .ok (.agg #[.string ⟨#[]⟩, .slice none 0 0]) w :=fun w=>by
     obtain ⟨i9,hi9,hz9,_,_⟩ :=info_parts Na
     simp [zeroValue,typeInfo,hi9,hz9]
    have hzc : ∀n,∀u∈ (Builtin.zeroCells ((.agg #[.string ⟨#[]⟩, .slice none 0 0]) :Value).cells n).toList,u.oneCell'=true :=fun n u hu=>Sm n u hu
    obtain ⟨w2,Y,hrun,hY,hYl,hYt,hg2⟩ :=Ms (P :=Tryz.prog) (w :=wr) 22 47 2 (.agg #[.string ⟨#[]⟩, .slice none 0 0]) Tryz.underlying22 hz rfl hzc g (i*2) (CS.length - i) (cap - i) X 47 hX (by rw [hXL,Nat.sub_mul];have :CS.length*2≤cap*2 :=Nat.mul_le_mul_right _ hncap;omega)
    have HY :Hid _ :=hY
    have HYT :Hid _ :=hYt
    clear hY hYt hz hzc
    go_wp2
    go_ret
    have hgg :w.grownBy w2 (some g) :=Ci hgr hg2
    refine ⟨_,rfl, ?_,hgg,Hd hgg hBg hB⟩
    rw [←HL.out]
    exact Iv hBg HY.out (by omega) hcapm (hYl.trans hXL) (HYT.out.trans HT.out)
set_option maxRecDepth 100000 in
set_option maxHeartbeats 2000000 in
theorem Qi (l :List (List Value)) (ao :Option Addr) (n c :Nat) (f0 :Value) (p :Nat→Bool) (St :Nat→World→Prop) (En :World→Prop) (w :World) (hEn : ∀i W,St i W→En W) (hIs : ∀i W,St i W→IsL Fw (fun _=>True) W (.slice ao n c) l)
  (hcall : ∀i cs W,l[i]? =some cs→St i W→Calls Tryz.prog 47 #[.agg cs.toArray,f0] W fun e W'=>e= .returned (.bool (p i)) ∧En W'∧ (p i=false→St (i+1) W')) (h0 :St 0 w) :
  Calls Tryz.prog 110 #[.slice ao n c, .func (.func 47) #[] #[f0]] w fun e W'=>e= .returned (.int .i64 (Al p 0 l.length)) ∧En W' :=by
 obtain ⟨hn,hlm⟩ :=Bj (hIs 0 w h0)
 subst hn
 unfold maxLen at hlm
 go_enter Tryz.func110,Tryz.ntmps110
 go_wp2
 go_loopw [8] (fun i wr=> ∃k :Nat,k≤l.length∧i= .int .i64 k∧St k wr∧Hid (Al p 0 l.length=Al p k (l.length - k))) (fun i _=>l.length - (intOf i).toNat)
 case atStart=>exact ⟨0,Nat.zero_le _,rfl,h0,rfl⟩
 case round=>
  obtain ⟨k,hk,rfl,hSt,HP⟩ :=hrel
  by_cases hlt :k<l.length
  ·obtain ⟨x,hx⟩ : ∃x,l[k]? =some x := ⟨_,List.getElem?_eq_getElem hlt⟩
   obtain ⟨b,off,cs,rfl,_,hb,hR,hcell⟩ :=Av (hIs k wr hSt) hx
   have HC :=hcall k x wr hx hSt
   obtain ⟨rfl,hsh⟩ :=hR
   obtain ⟨s0,s1,s2,rfl⟩ :=hsh
   have d0 :=hcell 0 _ rfl
   have d1 :=hcell 1 _ rfl
   have d2 :=hcell 2 _ rfl
   simp only [Fw,Nat.add_zero] at d0 d1 d2
   have k0 : (0 :Int) ≤ (k :Int) :=by omega
   have k1 : (k :Int) < (l.length :Int) :=by omega
   have hst :Hid (Al p k (l.length - k) =if p k then (k :Int) else Al p (k+1) (l.length - (k+1))) :=Ch p k l.length hlt
   clear hcell hx
   generalize hq :p k=q at HC hst
   clear hq
   cases q
   ·go_wp2_with (go_at_call 47;go_must (go_fit HC;rintro e W' ⟨rfl,_,hS1⟩))
    go_roundw
    case rel=>exact ⟨k+1,by omega,by go_num,hS1 (by first | rfl | trivial),by rw [HP.out,hst.out];rfl⟩
    case measure=>simp [intOf];omega
   ·go_wp2_with (go_at_call 47;go_must (go_fit HC;rintro e W' ⟨rfl,hS1,_⟩))
    go_ret
    exact ⟨A6 (by rw [HP.out,hst.out];rfl),hS1⟩
  ·have HE :Hid (Al p k (l.length - k) = -1) :=by show _=_;rw [show l.length - k=0 from by omega,Al]
   go_wp2
   go_ret
   exact ⟨A6 (by rw [HP.out,HE.out]),hEn k _ hSt⟩
set_option maxRecDepth 100000 in
set_option maxHeartbeats 8000000 in
theorem O0 (CS :List (List Value)) (v :Value) (f0 :Value) (p :Nat→Bool) (B :Nat) (w :World) (hown :w.ownsRow B 64 3 v CS.length CS.flatten) (hs : ∀c∈CS,Gh c) (hB :B≤w.heap.size)
  (hcall : ∀i cs W,CS[i]? =some cs→w.grownBy W v.ownBlock→Calls Tryz.prog 47 #[.agg cs.toArray,f0] W fun e W'=>e= .returned (.bool (p i)) ∧Below W.heap.size W W') :
  Calls Tryz.prog 88 #[v, .func (.func 47) #[] #[f0]] w fun e w'=> ∃v',e= .returned v'∧w'.ownsRow B 64 3 v' (Cc p 0 CS).length (Cc p 0 CS).flatten∧w.grownBy w' v.ownBlock∧Below B w w' :=by
 have hlk : ∀c∈CS,c.length=3 :=fun c hc=>Pd (hs c hc)
 obtain ⟨ao,cap,rfl⟩ := (N7 hown hs).shape
 have HI :=Qi CS ao CS.length cap f0 p (fun _ W=>Below w.heap.size w W) (fun W=>Below w.heap.size w W) w (fun _ _ h=>h) (fun _ W h=>N7 (Az hown h) hs)
  (fun i cs W hi hW=> (hcall i cs W hi (Cw _ hW)).mono fun e W' ⟨he,hb⟩ => ⟨he,Ak hW hb,fun _=>Ak hW hb⟩) (Below.refl _ _)
 rcases Ke p CS.length 0 with hf | ⟨i0,hf,_,hi0,hp0,hpre⟩
 ·have hall :Hid (Cc p 0 CS=CS) :=H6 p CS 0 (Kd p _ _ hf)
  rw [hf] at HI
  go_enter Tryz.func88,Tryz.ntmps88
  go_wp2_with (go_at_call 110;go_must (go_fit HI;rintro e w1 ⟨rfl,hb1⟩))
  go_ret
  rw [hall.out]
  exact ⟨_,rfl,Az hown hb1,Cw _ hb1,hb1.mono hB⟩
 ·rw [hf] at HI
  rcases Gn hown with ⟨_,h0⟩ | ⟨g,cap',X0,hv,hBg,hX0,hncap,hcapm,hXl,hXt⟩
  ·omega
  cases hv
  have hkeep0 :Hid (Cc p 0 (CS.take (i0+1)) =CS.take i0) :=by
   show _=_
   have hx :CS[i0]? =some (CS[i0]'(by omega)) :=List.getElem?_eq_getElem (by omega)
   rw [Il p CS i0 _ hx,hp0,H6 p (CS.take i0) 0 fun j h1 h2=>hpre j h1 (by simp at h2;omega)]
   simp
  have hlm :CS.length≤9223372036854775807 :=by
   simp only [maxLen] at hcapm
   omega
  clear hf hp0 hpre
  have hgw :=lt_of_block hX0
  go_enter Tryz.func88,Tryz.ntmps88
  go_wp2_with (go_at_call 110;go_must (go_fit HI;rintro e w1 ⟨rfl,hb1⟩))
  have hX1 := (hb1.block g hgw).trans hX0
  go_loopw [5,6] (fun iv jv wr=> ∃i j :Nat,∃X :List Value,i<j∧j≤CS.length∧iv= .int .i64 i∧jv= .int .i64 j∧wr.heap[g]? =some (.cells X.toArray 64) ∧X.length=cap*3∧Hid (X.take (i*3) = (Cc p 0 (CS.take j)).flatten) ∧Hid (i= (Cc p 0 (CS.take j)).length) ∧ (∀m c,j≤m→CS[m]? =some c→ ∀r u,c[r]? =some u→X[m*3+r]? =some u) ∧w.grownBy wr (some g)) (fun _ j _=>CS.length - (intOf j).toNat)
  case atStart=>
   refine ⟨i0,i0+1,X0,by omega,by omega,rfl,by go_num,hX1,hXl, ?_, ?_, ?_,Cw _ hb1⟩
   ·show _=_
    rw [hkeep0.out]
    have e1 :X0.take (i0*3) = (X0.take (CS.length*3)).take (i0*3) :=by rw [List.take_take,Nat.min_eq_left (by omega)]
    rw [e1,hXt,←List.take_append_drop i0 CS,List.flatten_append,List.take_append_drop]
    have hl2 : (CS.take i0).flatten.length=i0*3 :=by rw [E7 fun c hc=>hlk c (List.mem_of_mem_take hc),List.length_take,Nat.min_eq_left (by omega)]
    rw [←hl2,List.take_left]
   ·show _=_
    rw [hkeep0.out,List.length_take,Nat.min_eq_left (by omega)]
   ·intro m c hm hc r u hr
    have h1 :=Jm hlk hc r u hr
    have hml := (List.getElem?_eq_some_iff.1 hc).1
    have hrl := (List.getElem?_eq_some_iff.1 hr).1
    rw [hlk c (List.mem_of_getElem? hc)] at hrl
    rw [←hXt,List.getElem?_take_of_lt (by omega)] at h1
    exact h1
  case round=>
   obtain ⟨i,j,X,hij,hj,rfl,rfl,hX,hXL,HT,HL,hrest,hgr⟩ :=hrel
   by_cases hlt :j<CS.length
   ·obtain ⟨x,hx⟩ : ∃x,CS[j]? =some x := ⟨_,List.getElem?_eq_getElem hlt⟩
    have HC :=fun W hW=>hcall j x W hx hW
    have hstep :=Il p CS j x hx
    obtain ⟨s0,s1,s2,rfl⟩ :=hs x (List.mem_of_getElem? hx)
    have d0 :wr.cell? ⟨g,j*3,none⟩ =some (.string s0) :=Aa hX (by have :=hrest j _ (Nat.le_refl _) hx 0 _ rfl;simpa using this)
    have d1 :wr.cell? ⟨g,j*3+1,none⟩ =some (.string s1) :=Aa hX (by have :=hrest j _ (Nat.le_refl _) hx 1 _ rfl;simpa using this)
    have d2 :wr.cell? ⟨g,j*3+2,none⟩ =some (.string s2) :=Aa hX (by have :=hrest j _ (Nat.le_refl _) hx 2 _ rfl;simpa using this)
    have j0 : (0 :Int) ≤ (j :Int) :=by omega
    have j1 : (j :Int) < (CS.length :Int) :=by omega
    have hgr1 :w.grownBy (wr.alloc (.cells [.string s0, .string s1, .string s2].toArray 64)) (some g) :=Ci hgr (Cw _ (Aq _ _))
    have HC1 :=HC _ hgr1
    have hX1 :=Ae hX (.cells [.string s0, .string s1, .string s2].toArray 64)
    have HX :Hid _ :=hx
    have HR :Hid _ :=hrest
    have HS :Hid _ :=hstep
    have hgl :=lt_of_block hX
    clear hx hrest HC hstep
    generalize hq :p j=q at HC1 HS
    cases q
    ·have hone : (#[.string s0, .string s1, .string s2] :Array Value).all (·.oneCell') =true :=by simp [Value.oneCell']
     go_wp2_with (first
      | (go_at_call 47;go_must (go_fit HC1;rintro e W' ⟨rfl,hbW⟩;have hXW := (hbW.block g (lt_of_block hX1)).trans hX1;have t0 := (hbW.block wr.heap.size (by simp)).trans (Ab wr (.cells [.string s0, .string s1, .string s2].toArray 64));have x0 :=Aa t0 (j :=0) rfl;have x1 :=Aa t0 (j :=1) rfl;have x2 :=Aa t0 (j :=2) rfl;have hthere :W'.there g (i*3) 3 := (fun r hr=> ⟨by rw [Aa hXW (j :=i*3+r) (u :=X[i*3+r]'(by omega)) (by simp)];rfl,by simp [World.frozen?,hXW]⟩);have i0' : (0 :Int) ≤ (i :Int) := (by omega);have i1' : (i :Int) < (CS.length :Int) := (by omega)))
      | (refine wpList_store_mid rfl 64 _ _ rfl g (i*3) #[.string s0, .string s1, .string s2] ?_ ?_ ?_ ?_ ?_ ?_;exact rfl;exact rfl;exact hthere;exact Hf;exact hone))
     go_roundw
     case rel=>
      refine ⟨_,_,_,_,_,_,_,_,_,_,_,_,_,_,_,_,_,_,_,_,_,_,_, ?_,rfl⟩
      refine ⟨i+1,j+1,splice X (i*3) [.string s0, .string s1, .string s2],by omega,by omega,by go_num,by go_num, ?_, ?_, ?_, ?_, ?_, ?_⟩
      ·exact Dv [.string s0, .string s1, .string s2] (i*3) X _ hXW (by simp;omega)
      ·rw [length_splice _ _ _ (by simp;omega)];exact hXL
      ·show _=_
       rw [HS.out]
       have e1 : (i+1) *3=i*3+ ([.string s0, .string s1, .string s2] :List Value).length :=by simp;omega
       rw [e1,Ee _ _ _ (by omega),HT.out]
       simp
      ·show _=_
       rw [HS.out]
       have :=HL.out
       simp [←this]
      ·intro m c hm hc r u hr
       rw [Ig _ _ _ _ (by omega) (by simp;omega)]
       exact HR.out m c (by omega) hc r u hr
      ·exact Ci (Ci hgr1 (Cw _ hbW)) (Et g _ _)
     case measure=>simp [intOf];omega
    ·go_wp2_with (go_at_call 47;go_must (go_fit HC1;rintro e W' ⟨rfl,hbW⟩))
     go_roundw
     case rel=>
      refine ⟨_,_,_,_,_,_,_,_,_,_,_,_,_,_,_,_,_,_,_,_,_,_,_, ?_,rfl⟩
      refine ⟨i,j+1,X,by omega,by omega,by first | rfl | go_num,by go_num,(hbW.block g (lt_of_block hX1)).trans hX1,hXL, ?_, ?_,fun m c hm hc r u hr=>HR.out m c (by omega) hc r u hr,Ci hgr1 (Cw _ hbW)⟩
      ·show _=_
       rw [HS.out,HT.out];simp
      ·show _=_
       rw [HS.out];simpa using HL.out
     case measure=>simp [intOf];omega
   ·have hjn :j=CS.length :=by omega
    subst hjn
    rw [List.take_length] at HT HL
    have v1 : ¬ ((CS.length :Int) < (CS.length :Int)) :=by omega
    have i0' : (0 :Int) ≤ (i :Int) :=by omega
    have i1' : (i :Int) ≤ (CS.length :Int) :=by omega
    have i2' : ¬ (cap=i) :=by omega
    have i3' : (i :Int) ≤ (cap :Int) :=by omega
    have hz : ∀w,(zeroValue 64).run Tryz.prog w= .ok (.agg #[.string ⟨#[]⟩, .string ⟨#[]⟩, .string ⟨#[]⟩]) w :=fun w=>by
     obtain ⟨i9,hi9,hz9,_,_⟩ :=info_parts Nb
     simp [zeroValue,typeInfo,hi9,hz9]
    have hzc : ∀n,∀u∈ (Builtin.zeroCells ((.agg #[.string ⟨#[]⟩, .string ⟨#[]⟩, .string ⟨#[]⟩]) :Value).cells n).toList,u.oneCell'=true :=fun n u hu=>Sn n u hu
    obtain ⟨w2,Y,hrun,hY,hYl,hYt,hg2⟩ :=Ms (P :=Tryz.prog) (w :=wr) 23 64 3 (.agg #[.string ⟨#[]⟩, .string ⟨#[]⟩, .string ⟨#[]⟩]) Tryz.underlying23 hz rfl hzc g (i*3) (CS.length - i) (cap - i) X 64 hX (by rw [hXL,Nat.sub_mul];have :CS.length*3≤cap*3 :=Nat.mul_le_mul_right _ hncap;omega)
    have HY :Hid _ :=hY
    have HYT :Hid _ :=hYt
    clear hY hYt hz hzc
    go_wp2
    go_ret
    have hgg :w.grownBy w2 (some g) :=Ci hgr hg2
    refine ⟨_,rfl, ?_,hgg,Hd hgg hBg hB⟩
    rw [←HL.out]
    exact Iv hBg HY.out (by omega) hcapm (hYl.trans hXL) (HYT.out.trans HT.out)
end Go.Proofs.YtmgkcjiejmhgcaaGreatDoor


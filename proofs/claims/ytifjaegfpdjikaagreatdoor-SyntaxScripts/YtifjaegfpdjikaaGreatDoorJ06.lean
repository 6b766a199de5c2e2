/-
  6 texts of this proof in one, in build order: SName, SEnv, RName, XMem, SMem, Good.
-/
import Derived.Test.YtifjaegfpdjikaaGreatDoorRows
import Derived.WalkKit
import Derived.WalkSpells
import Derived.WalkLawsBesides
import Derived.Test.YtifjaegfpdjikaaGreatDoorJ01
import Derived.Test.YtifjaegfpdjikaaGreatDoorJ05
set_option linter.unusedSimpArgs false
set_option linter.unusedVariables false
namespace Go.Proofs.YtifjaegfpdjikaaGreatDoor
open Go.RowKit
theorem Pv (a b cap :Nat) (k :Wd) (s :St) (d :Int) (w :World) (h :Rd w a s d) (hk :0<k.size) (hab :b≠a) (hc :w.cell? ⟨b,0,none⟩ =some (.string k)) :
  Calls Tryz.prog 23 #[.pointer (some ⟨a,0,none⟩), .slice (some ⟨b,0,none⟩) 1 cap] w fun e w'=>e= .returned (.tuple #[]) ∧Rd w' a (Ar k s) d∧But a w w' :=
 Zk a b 0 cap [k] s d w h (by simpa using hk) hab (fun i x hx=>by
  match i,hx with
  | 0,hx=>simp at hx;subst hx;exact hc
  | i+1,hx=>simp at hx) (by simp)
theorem My {x r :Wd} {b :Bool} {s :St} (h :Reads x r b s) (f :UInt8→Bool) :D2 f s=fst f x :=by
 cases h<;>rfl
theorem Ds {f :UInt8→Bool} {x :Wd} (h :1≤x.size) :fst f x=f x[0] :=by
 unfold fst
 rw [Dt x h]
set_option maxHeartbeats 1000000 in
theorem Lp (a :Nat) (s :St) (d :Int) (w :World) (h :Rd w a s d) :
  Calls Tryz.prog 130 #[.pointer (some ⟨a,0,none⟩), .func (.func 68) #[] #[]] w fun e w'=>e= .returned (.bool (D2 A3 s)) ∧w'=w :=by
 obtain ⟨x,r,b,h1,h2⟩ :=h
 obtain ⟨c0,c1,c2,c3⟩ :=h1.cells
 rw [My h2]
 by_cases hx :x.size=0
 ·have he :x.toList.isEmpty=true :=by rw [Hz hx];rw [Lib.toList_data];rfl
  have hf :fst A3 x=false :=by rw [Hz hx];rfl
  rw [hf]
  clear hf hx
  go_enter Tryz.func130,Tryz.ntmps130
  go_wp2_with fail
  go_ret
  exact ⟨rfl,rfl⟩
 ·have hx1 :1≤x.size :=by omega
  have he :x.toList.isEmpty=false :=by rw [Lib.toList_data,Dt x hx1];rfl
  have q0 : (0 :Int) < (x.size :Int) :=by omega
  have D :=fun W=>L0 (x[0].toNat :Int) W
  simp only [Hy] at D
  rw [Ds hx1]
  generalize A3 x[0] =v at D⊢
  clear hx
  go_enter Tryz.func130,Tryz.ntmps130
  go_wp2_with (go_at_call 68;go_must (go_fit (D _);rintro e w' ⟨rfl,rfl⟩))
  go_ret
  exact ⟨rfl,rfl⟩
set_option maxHeartbeats 1000000 in
theorem N9 (a :Nat) (s :St) (d :Int) (w :World) (h :Rd w a s d) :
  Calls Tryz.prog 130 #[.pointer (some ⟨a,0,none⟩), .func (.func 131) #[] #[]] w fun e w'=>e= .returned (.bool (D2 Bp s)) ∧w'=w :=by
 obtain ⟨x,r,b,h1,h2⟩ :=h
 obtain ⟨c0,c1,c2,c3⟩ :=h1.cells
 rw [My h2]
 by_cases hx :x.size=0
 ·have he :x.toList.isEmpty=true :=by rw [Hz hx];rw [Lib.toList_data];rfl
  have hf :fst Bp x=false :=by rw [Hz hx];rfl
  rw [hf]
  clear hf hx
  go_enter Tryz.func130,Tryz.ntmps130
  go_wp2_with fail
  go_ret
  exact ⟨rfl,rfl⟩
 ·have hx1 :1≤x.size :=by omega
  have he :x.toList.isEmpty=false :=by rw [Lib.toList_data,Dt x hx1];rfl
  have q0 : (0 :Int) < (x.size :Int) :=by omega
  have D :=fun W=>Vm (x[0].toNat :Int) W
  rw [Ds hx1]
  have hq : ((x[0].toNat :Int) ==39) =Bp x[0] :=by
   unfold Bp
   rw [Bool.eq_iff_iff,beq_iff_eq,beq_iff_eq,←UInt8.toNat_inj]
   simp;omega
  simp only [hq] at D
  clear hq
  generalize Bp x[0] =v at D⊢
  clear hx
  go_enter Tryz.func130,Tryz.ntmps130
  go_wp2_with (go_at_call 131;go_must (go_fit (D _);rintro e w' ⟨rfl,rfl⟩))
  go_ret
  exact ⟨rfl,rfl⟩
theorem Mz {x r :Wd} {b :Bool} {s :St} (h :Reads x r b s) :x.size≤1500 :=by
 cases h with
 | wrong=>decide
 | over=>decide
 | word _ h1 _=>exact h1
set_option maxHeartbeats 1000000 in
theorem E9 (a :Nat) (s :St) (d :Int) (w :World) (h :Rd w a s d) :
  Calls Tryz.prog 73 #[.pointer (some ⟨a,0,none⟩)] w fun e w'=>e= .returned (.string (At s).1) ∧Rd w' a (At s).2 d∧But a w w' :=by
 obtain ⟨x,r,b,h1,h2⟩ :=h
 obtain ⟨c0,c1,c2,c3⟩ :=h1.cells
 have hsz :=Mz h2
 have NM :=Sb x w (by unfold maxLen;omega)
 cases hn :nm x
 ·have e :At s= (noW,none) :=by cases h2<;>simp [At,hn]
  rw [e]
  rw [hn] at NM
  have FA :=Ln a w x r d b h1
  go_enter Tryz.func73,Tryz.ntmps73
  go_wp2_with (first
   | (go_at_call 6;go_must (go_fit NM;rintro e w' ⟨rfl,rfl⟩))
   | (go_at_call 46;go_must (go_fit FA;rintro e w2 ⟨rfl,hr2,hb2⟩)))
  go_ret
  exact ⟨rfl,⟨_,_,_,hr2, .wrong⟩,hb2⟩
 ·obtain ⟨rfl,rfl,_,hr⟩ :=h2.at (Fy hn)
  have e :=Ed (r :=By r.data.toList) hn
  rw [e]
  rw [hn] at NM
  clear e
  have NX :=Lo a w x r d h1 hr
  go_enter Tryz.func73,Tryz.ntmps73
  go_wp2_with (first
   | (go_at_call 6;go_must (go_fit NM;rintro e w' ⟨rfl,rfl⟩))
   | (go_at_call 21;go_must (go_fit NX;rintro e w2 ⟨rfl,hr2,hb2⟩)))
  go_ret
  exact ⟨rfl,hr2,hb2⟩
end Go.Proofs.YtifjaegfpdjikaaGreatDoor

namespace Go.Proofs.YtifjaegfpdjikaaGreatDoor
open Go.RowKit
structure Env (w :World) :Prop where
 mx : ∃m,w.cell? ⟨2,0,none⟩ =some (.int .i64 m)
 es : ∃t p,w.cell? ⟨5,0,none⟩ =some (.iface t p)
 er : ∃t p,w.cell? ⟨6,0,none⟩ =some (.iface t p)
 tab :Lib.TabIs Tryz.prog w "strings.asciiSpace" .u8 Lib.asciiSpaceTab
 low :16≤w.heap.size
theorem Env.below {B :Nat} {w w' :World} (h :Env w) (hb :Below B w w') (hB :16≤B) :Env w' :=by
 obtain ⟨⟨m,h1⟩,⟨t2,p2,h2⟩,⟨t3,p3,h3⟩,h4,h5⟩ :=h
 refine ⟨⟨m, ?_⟩,⟨t2,p2, ?_⟩,⟨t3,p3, ?_⟩, ?_,Nat.le_trans h5 hb.size⟩
 ·exact (hb.cell (p := ⟨2,0,none⟩) (show 2<B by omega)).trans h1
 ·exact (hb.cell (p := ⟨5,0,none⟩) (show 5<B by omega)).trans h2
 ·exact (hb.cell (p := ⟨6,0,none⟩) (show 6<B by omega)).trans h3
 ·exact var?_below (g :=0) hb (by kernel_rfl) (by omega) h4
theorem Env.next {w w' :World} (h :Env w) (hb :Below w.heap.size w w') :Env w' :=h.below hb h.low
theorem Env.but {a :Nat} {w w' :World} (h :Env w) (hb :But a w w') (ha :16≤a) :Env w' :=h.below (hb.below (B :=16) ha h.low) (Nat.le_refl _)
theorem Oa : ∀ (l :List UInt8) (acc :Nat),l.all A3=true→acc<18446744073709551616→ (∃u,Lib.parseUint10 acc l= .ok u∧u=l.foldl (fun n c=>10*n+ (c.toNat - 48)) acc) ∨ (Lib.parseUint10 acc l= .range∧18446744073709551616≤l.foldl (fun n c=>10*n+ (c.toNat - 48)) acc)
 | [],acc,_,_=> .inl ⟨acc,rfl,rfl⟩
 | c ::l,acc,h,ha=>by
  simp only [List.all_cons,Bool.and_eq_true] at h
  have hc :48≤c.toNat∧c.toNat≤57 :=by have :=h.1;simpa [A3] using this
  have ge : ∀ (l :List UInt8) (x :Nat),x≤l.foldl (fun n c=>10*n+ (c.toNat - 48)) x :=by
   intro l
   induction l with
   | nil=>intro x;exact Nat.le_refl _
   | cons c l ih=>intro x;exact Nat.le_trans (show x≤10*x+ (c.toNat - 48) by omega) (ih _)
  unfold Lib.parseUint10
  rw [if_pos hc,List.foldl_cons]
  split
  ·rename_i h1
   exact .inr ⟨rfl,Nat.le_trans (by omega) (ge l _)⟩
  ·split
   ·rename_i h1 h2
    exact .inr ⟨rfl,Nat.le_trans (by omega) (ge l _)⟩
   ·rename_i h1 h2
    rw [show 10*acc+ (c.toNat - 48) =acc*10+ (c.toNat - 48) from by omega]
    exact Oa l _ h.2 (by omega)
theorem Pb {x :Wd} (h :x.data.toList.all A3=true) (h0 :0<x.size) : (Lib.atoiAll x.data.toList= .ok (Cl x.data.toList :Int) ∧Cl x.data.toList<9223372036854775808) ∨ (Lib.atoiAll x.data.toList= .range∧9223372036854775808≤Cl x.data.toList) :=by
 have hf :=Dt x h0
 have hd :A3 x[0] =true :=by rw [hf] at h;simp at h;exact h.1
 have hd' :48≤x[0].toNat∧x[0].toNat≤57 :=by simpa [A3] using hd
 have e1 :=Lib.atoiAll_plain x[0] (x.data.toList.drop 1) (by omega) (by omega)
 rw [←hf] at e1
 rw [e1]
 have hne :x.data.toList≠ [] :=by rw [hf];simp
 rw [Lib.parseMag,if_neg hne]
 rcases Oa x.data.toList 0 h (by omega) with ⟨u,h1,h2⟩ | ⟨h1,h2⟩
 ·rw [h1]
  have e2 :u=Cl x.data.toList :=h2
  rw [←e2]
  simp only [Lib.signless]
  split
  ·exact .inr ⟨rfl,by omega⟩
  ·exact .inl ⟨rfl,by omega⟩
 ·rw [h1]
  exact .inr ⟨rfl,by have :Cl x.data.toList=_ :=rfl;unfold Cl;omega⟩
theorem Xm {x :Wd} (h :IsTok x∨x.size=0) (hd :fst A3 x=false) :Lib.atoiAll x.data.toList= .«syntax» :=by
 rcases h with h | h
 ·have h0 :=h.pos
  have hf :=Dt x h.pos
  have hd' :A3 x[0] =false :=by rw [Ds h.pos] at hd;exact hd
  by_cases hs :x[0].toNat=43∨x[0].toNat=45
  ·have hl :fst A6 x=false :=by rw [Ds h.pos];simp only [A6,Bool.and_eq_false_iff,decide_eq_false_iff_not];omega
   have hq :fst Bp x=false :=by
    rw [Ds h.pos]
    cases hq :Bp x[0]
    ·rfl
    ·simp only [Bp,beq_iff_eq] at hq
     rw [hq] at hs
     revert hs;decide
   have h1 :=h.one hd hl hq
   have e :x.data.toList.drop 1= [] :=by
    apply List.eq_nil_of_length_eq_zero
    rw [List.length_drop,Bi];omega
   rw [hf,e]
   rcases hs with hs | hs
   ·have :x[0] =43 :=by rw [←UInt8.toNat_inj];exact hs
    rw [this];rfl
   ·have :x[0] =45 :=by rw [←UInt8.toNat_inj];exact hs
    rw [this];rfl
  ·rw [hf,Lib.atoiAll_plain _ _ (fun e=>hs (.inl e)) (fun e=>hs (.inr e)),Lib.parseMag,if_neg (by simp),Lib.parseUint10,if_neg]
   ·rfl
   ·intro c
    simp only [A3,Bool.and_eq_false_iff,decide_eq_false_iff_not] at hd'
    omega
 ·rw [Hz h];rfl
theorem Ab0 (x :Wd) (w :World) (h :IsTok x) (hd :fst A3 x=true) (hn :Cl x.data.toList<9223372036854775808) (hs :x.size≤1500) :
  Calls Tryz.prog 99 #[.string x] w fun e w'=>e= .returned (.tuple #[.int .i64 (Cl x.data.toList :Nat), .nilIface]) ∧Below w.heap.size w w' :=by
 rcases Pb (h.dig hd) h.pos with ⟨h6,h7⟩ | ⟨h6,h7⟩
 ·refine (Any.strconv_Atoi_ok Tryz.laysC172 x (by omega) _ h6 w).mono fun e w' hx=> ?_
  obtain ⟨h4,h5⟩ :=hx
  refine ⟨h4, ?_⟩
  rcases h5 with rfl | ⟨t,rfl⟩
  ·exact Below.refl _ _
  ·exact Lib.bytesWorld_below _ _ _
 ·omega
theorem Aat (x :Wd) (w :World) (he :Env w) (h :IsTok x∨x.size=0) (hb :fst A3 x=false∨9223372036854775808≤Cl x.data.toList) (hs :x.size≤1500) :
  Calls Tryz.prog 99 #[.string x] w fun e w'=> ∃n t p,e= .returned (.tuple #[.int .i64 n, .iface t p]) ∧Below w.heap.size w w' :=by
 obtain ⟨t2,p2,h2⟩ :=he.es
 obtain ⟨t3,p3,h3⟩ :=he.er
 cases hd :fst A3 x
 ·refine (Any.strconv_Atoi_syntax Tryz.laysC172 x (by omega) (Xm h hd) _ w h2 (.inr ⟨t2,p2,rfl⟩)).mono fun e w' hx=> ?_
  obtain ⟨N,h4,_,_,h5⟩ :=hx
  exact ⟨_,_,_,h4,h5⟩
 ·have h0 :=Ia hd
  have ht :IsTok x :=by rcases h with h | h;exact h;omega
  rcases Pb (ht.dig hd) h0 with ⟨h6,h7⟩ | ⟨h6,h7⟩
  ·rcases hb with hb | hb
   ·rw [hd] at hb;cases hb
   ·omega
  ·refine (Any.strconv_Atoi_range Tryz.laysC172 x (by omega) h6 _ w h3 (.inr ⟨t3,p3,rfl⟩)).mono fun e w' hx=> ?_
   obtain ⟨N,h4,_,_,h5⟩ :=hx
   exact ⟨_,_,_,h4,h5⟩
theorem Xn {x :Wd} (h :0<x.size) :fst (fun c=>c==48) x= ((x[0].toNat :Int) ==48) :=by
 rw [Ds h,Bool.eq_iff_iff,beq_iff_eq,beq_iff_eq,←UInt8.toNat_inj]
 simp;omega
theorem Vo {x :Wd} (h :IsTok x) (hd :fst A3 x=true) :Cs x=if (x.size=1∨ ((x[0]'h.pos).toNat :Int) ≠48) ∧Cl x.data.toList≤1000000 then some (Cl x.data.toList :Int) else none :=by
 have h1 :decide (1≤x.size) =true :=decide_eq_true h.pos
 rw [Cs,h1,h.dig hd,Xn h.pos]
 congr 1
 simp
set_option maxHeartbeats 2000000 in
theorem M0 (a :Nat) (s :St) (d :Int) (w :World) (h :Rd w a s d) (he :Env w) :
  Calls Tryz.prog 82 #[.pointer (some ⟨a,0,none⟩)] w fun e w'=>e= .returned (.int .i64 (B6 s).1) ∧Rd w' a (B6 s).2 d∧But a w w' :=by
 obtain ⟨x,r,b,h1,h2⟩ :=h
 obtain ⟨c0,c1,c2,c3⟩ :=h1.cells
 have hsz :=Mz h2
 have htk :IsTok x∨x.size=0 :=by cases h2 with | wrong=>exact .inr rfl | over=>exact .inr rfl | word h _ _=>exact .inl h
 have FA :=fun W (hb :Below w.heap.size w W) =>Ln a W x r d b (h1.below hb)
 by_cases hbad :fst A3 x=false∨9223372036854775808≤Cl x.data.toList
 ·have AT :=Aat x w he htk hbad hsz
  have hn :Cs x=none :=by
   rw [Cs]
   rcases hbad with hb | hb
   ·cases hx :Cs x with
    | none=>rw [Cs] at hx;exact hx
    | some n=>rw [Kg hx] at hb;cases hb
   ·rw [if_neg]
    intro c
    simp only [Bool.and_eq_true,decide_eq_true_eq] at c
    omega
  have e :B6 s= (0,none) :=by cases h2<;>simp [B6,hn]
  rw [e]
  clear e hbad hn
  go_enter Tryz.func82,Tryz.ntmps82
  go_wp2_with (first
   | (go_at_call 99;go_must (go_fit AT;rintro e w1 ⟨n,t,p,rfl,hb1⟩;have FA1 :=FA w1 hb1))
   | (go_at_call 46;go_must (go_fit FA1;rintro e w2 ⟨rfl,hr2,hb2⟩)))
  go_ret
  exact ⟨rfl,⟨_,_,_,hr2, .wrong⟩,(But.of_below hb1).trans hb2⟩
 ·have hd :fst A3 x=true :=by cases hx :fst A3 x;exact absurd (.inl hx) hbad;rfl
  have hlt :Cl x.data.toList<9223372036854775808 :=by
   rcases Nat.lt_or_ge (Cl x.data.toList) 9223372036854775808 with h | h
   ·exact h
   ·exact absurd (.inr h) hbad
  have ht :IsTok x :=by rcases htk with h | h;exact h;have :=Ia hd;omega
  have h0 :=ht.pos
  obtain ⟨rfl,rfl,_,hr⟩ :=h2.at h0
  have AT :=Ab0 x w ht hd hlt hsz
  have hw :=Vo ht hd
  have NX :=fun W (hb :Below w.heap.size w W) =>Lo a W x r d (h1.below hb) hr
  generalize Cl x.data.toList=n at AT hw hlt
  have q0 : (0 :Int) < (x.size :Int) :=by omega
  clear hbad hlt
  by_cases hz :x.size=1∨ (x[0].toNat :Int) ≠48
  ·by_cases hm :n≤1000000
   ·rw [if_pos ⟨hz,hm⟩] at hw
    rw [Ky hw]
    clear hw
    have g1 : ¬ (1000000< (n :Int)) :=by omega
    rcases hz with hz | hz
    ·have g2 : ¬ ((1 :Int) < (x.size :Int)) :=by omega
     go_enter Tryz.func82,Tryz.ntmps82
     go_wp2_with (first
      | (go_at_call 99;go_must (go_fit AT;rintro e w1 ⟨rfl,hb1⟩;have NX1 :=NX w1 hb1))
      | (go_at_call 21;go_must (go_fit NX1;rintro e w2 ⟨rfl,hr2,hb2⟩)))
     go_ret
     exact ⟨rfl,hr2,(But.of_below hb1).trans hb2⟩
    ·have g3 : ((x[0].toNat :Int) ==48) =false :=beq_eq_false_iff_ne.2 hz
     clear hz
     by_cases g2 : (1 :Int) < (x.size :Int)
     all_goals
      go_enter Tryz.func82,Tryz.ntmps82
      go_wp2_with (first
       | (go_at_call 99;go_must (go_fit AT;rintro e w1 ⟨rfl,hb1⟩;have NX1 :=NX w1 hb1))
       | (go_at_call 21;go_must (go_fit NX1;rintro e w2 ⟨rfl,hr2,hb2⟩)))
      go_ret
      exact ⟨rfl,hr2,(But.of_below hb1).trans hb2⟩
   ·rw [if_neg (fun c=>hm c.2)] at hw
    have e :B6 (some (x ::By r.data.toList)) = (0,none) :=by simp [B6,hw]
    rw [e]
    clear e hw
    have g1 :1000000< (n :Int) :=by omega
    by_cases g2 : (1 :Int) < (x.size :Int) <;>cases g3 : ((x[0].toNat :Int) ==48)
    all_goals
     go_enter Tryz.func82,Tryz.ntmps82
     go_wp2_with (first
      | (go_at_call 99;go_must (go_fit AT;rintro e w1 ⟨rfl,hb1⟩;have FA1 :=FA w1 hb1))
      | (go_at_call 46;go_must (go_fit FA1;rintro e w2 ⟨rfl,hr2,hb2⟩)))
     go_ret
     exact ⟨rfl,⟨_,_,_,hr2, .wrong⟩,(But.of_below hb1).trans hb2⟩
  ·rw [if_neg (fun c=>hz c.1)] at hw
   have e :B6 (some (x ::By r.data.toList)) = (0,none) :=by simp [B6,hw]
   rw [e]
   clear e hw
   have g2 : (1 :Int) < (x.size :Int) :=by
    have :x.size≠1 :=fun e=>hz (.inl e)
    omega
   have g3 : ((x[0].toNat :Int) ==48) =true :=by
    rw [beq_iff_eq]
    cases hx : ((x[0].toNat :Int) ==48)
    ·exact absurd (.inr (beq_eq_false_iff_ne.1 hx)) hz
    ·exact beq_iff_eq.1 hx
   clear hz
   go_enter Tryz.func82,Tryz.ntmps82
   go_wp2_with (first
    | (go_at_call 99;go_must (go_fit AT;rintro e w1 ⟨rfl,hb1⟩;have FA1 :=FA w1 hb1))
    | (go_at_call 46;go_must (go_fit FA1;rintro e w2 ⟨rfl,hr2,hb2⟩)))
   go_ret
   exact ⟨rfl,⟨_,_,_,hr2, .wrong⟩,(But.of_below hb1).trans hb2⟩
end Go.Proofs.YtifjaegfpdjikaaGreatDoor

namespace Go.Proofs.YtifjaegfpdjikaaGreatDoor
open Go.RowKit
theorem Kt (f :UInt8→Bool) : ∀l :List UInt8,(l.dropWhile f= []) ↔ (∀x∈l,f x=true)
 | [] =>by simp
 | c ::l=>by
  cases h :f c
  ·simp [h]
  ·simp only [List.dropWhile_cons,h,if_true]
   rw [Kt f l];simp [h]
theorem Sc (l cs :List UInt8) : (Lib.trimS l cs= []) ↔l.all (cs.contains ·) =true :=by
 unfold Lib.trimS Lib.trimLeftS Lib.trimRightS
 constructor
 ·intro h
  have h1 := (Kt _ _).1 h
  have h2 : ∀x∈ (l.reverse.dropWhile (cs.contains ·)),cs.contains x=true :=fun x hx=>h1 x (by simpa using hx)
  rw [List.all_eq_true]
  intro x hx
  by_cases hm :x∈l.reverse.dropWhile (cs.contains ·)
  ·exact h2 x hm
  ·have hx' :x∈l.reverse :=by simpa using hx
   rw [←List.takeWhile_append_dropWhile (p := (cs.contains ·)) (l :=l.reverse)] at hx'
   rcases List.mem_append.1 hx' with h3 | h3
   ·have :=List.all_takeWhile (p := (cs.contains ·)) (l :=l.reverse)
    exact List.all_eq_true.1 this x h3
   ·exact absurd h3 hm
 ·intro h
  rw [List.all_eq_true] at h
  have :l.reverse.dropWhile (cs.contains ·) = [] := (Kt _ _).2 (fun x hx=>h x (by simpa using hx))
  rw [this];rfl
theorem Ku (b :UInt8) (l sub :List UInt8) :Lib.contains (b ::l) sub= (sub.isPrefixOf (b ::l) || Lib.contains l sub) :=by
 have h :=Lib.index_ge l sub
 unfold Lib.contains
 rw [Lib.index]
 by_cases h1 :sub.isPrefixOf (b ::l) =true
 ·simp [h1]
 ·rw [if_neg h1]
  have h1' :sub.isPrefixOf (b ::l) =false :=Bool.eq_false_iff.2 h1
  rw [h1',Bool.false_or]
  split
  ·rename_i h2
   have h2 :Lib.index l sub= -1 :=by simpa using h2
   rw [h2]
  ·rename_i h2
   have h2 :Lib.index l sub≠ -1 :=by simpa using h2
   rw [Bool.eq_iff_iff,decide_eq_true_eq,decide_eq_true_eq];omega
def L4 :List (List UInt8) →List UInt8
 | [] => []
 | x ::W=>x++32 ::L4 W
theorem Ni (W sub :List UInt8) : ∀x :List UInt8,32∉x→Lib.contains (x++W) (32 ::sub) =Lib.contains W (32 ::sub)
 | [],_=>rfl
 | b ::x,h=>by
  simp at h
  rw [List.cons_append,Ku,Ni W sub x h.2]
  have : (32 ::sub).isPrefixOf (b :: (x++W)) =false :=by
   rw [List.isPrefixOf_cons_cons]
   simp [h.1]
  rw [this,Bool.false_or]
theorem Pc (W :List UInt8) : ∀s x :List UInt8,32∉s→32∉x→ (s++ [32]).isPrefixOf (x++32 ::W) =decide (s=x)
 | [],[],_,_=>by simp
 | [],b ::x,_,h=>by
  simp at h
  rw [List.nil_append,List.cons_append,List.isPrefixOf_cons_cons]
  simp [h.1]
 | c ::s,[],h,_=>by
  simp at h
  rw [List.cons_append,List.nil_append,List.isPrefixOf_cons_cons]
  simp [Ne.symm h.1]
 | c ::s,b ::x,h1,h2=>by
  simp at h1 h2
  rw [List.cons_append,List.cons_append,List.isPrefixOf_cons_cons,Pc W s x h1.2 h2.2]
  rw [Bool.eq_iff_iff];simp
theorem Nj (s :List UInt8) (hs :32∉s) : ∀W :List (List UInt8),(∀x∈W,32∉x) →Lib.contains (32 ::L4 W) (32 :: (s++ [32])) =decide (s∈W)
 | [],_=>by
  rw [Ku]
  have e : (32 :: (s++ [32])).isPrefixOf (32 ::L4 []) =false :=by
   cases s<;>simp [L4]
  rw [e];simp [L4,Lib.contains,Lib.index]
 | x ::W,h=>by
  rw [Ku,List.isPrefixOf_cons_cons,L4,Pc _ s x hs (h x (by simp)),Ni _ _ x (h x (by simp)),Nj s hs W (fun y hy=>h y (by simp [hy]))]
  rw [Bool.eq_iff_iff];simp
abbrev Xo :List (List UInt8) := [[97,110,100],[98,121],[99,114,101,97,116,101],[100,101,108,101,116,101],[100,101,115,99],[100,114,111,112],[102,114,111,109],[105,110,100,101,120],[105,110,115,101,114,116],[105,110,116],[105,110,116,111],[105,115],[108,105,109,105,116],[109,117,115,116],[110,111,116],[110,117,108,108],[111,110],[111,114],[111,114,100,101,114],[115,101,108,101,99,116],[115,101,116],[116,97,98,108,101],[116,101,120,116],[117,112,100,97,116,101],[118,97,108,117,101,115],[119,104,101,114,101]]
theorem S7 (w :Wd) :Fs w=decide (w.data.toList∈Xo) :=by
 rw [N8,Lib.toList_data,Bool.eq_iff_iff]
 simp [or_assoc]
def Wp :Wd := ⟨(32 ::L4 Xo).toArray⟩
set_option maxRecDepth 20000 in
theorem Vp (c :UInt8) : ([97,98,99,100,101,102,103,104,105,106,107,108,109,110,111,112,113,114,115,116,117,118,119,120,121,122] :List UInt8).contains c=A6 c :=by
 have h : ∀n :Fin 256,([97,98,99,100,101,102,103,104,105,106,107,108,109,110,111,112,113,114,115,116,117,118,119,120,121,122] :List UInt8).contains (UInt8.ofNat n.val) =A6 (UInt8.ofNat n.val) :=by decide
 have :=h ⟨c.toNat,c.toNat_lt⟩
 simpa using this
abbrev az :Wd := ⟨#[97,98,99,100,101,102,103,104,105,106,107,108,109,110,111,112,113,114,115,116,117,118,119,120,121,122]⟩
set_option maxRecDepth 20000 in
theorem Ab1 (s :Wd) (w :World) (hsz :s.size≤8) :
  Calls Tryz.prog 17 #[.string s, .string az] w fun e w'=> ∃x :Wd,e= .returned (.string x) ∧x.toList.isEmpty=s.data.toList.all A6∧Below w.heap.size w w' :=by
 refine (Any.strings_Trim_laid Tryz.lays160 (by kernel_rfl) s az w (by omega) (by decide) (ascii_of_all (by decide))).mono ?_
 rintro e w' ⟨rfl,hb⟩
 refine ⟨_,rfl, ?_,hb⟩
 have e : ∀l :List UInt8,(⟨l.toArray⟩ :Wd).toList.isEmpty=decide (l= []) :=fun l=>by rw [Lib.toList_data];cases l<;>rfl
 rw [e]
 have q :=Sc s.data.toList az.data.toList
 rw [show (fun c=>az.data.toList.contains c) =A6 from funext Vp] at q
 rw [Bool.eq_iff_iff,decide_eq_true_eq]
 exact q
theorem Ub (T sub :Wd) (w :World) (h :Env w) (hT :T.size=136) :
  Calls Tryz.prog 18 #[.string T, .string sub] w fun e w'=>e= .returned (.bool (Lib.contains T.data.toList sub.data.toList)) ∧w'=w :=by
 obtain ⟨m,hm⟩ :=h.mx
 exact Any.strings_Contains Tryz.lays144 T sub m w (by omega) hm
theorem Acv (s :Wd) (hs :s.data.toList.all A6=true) :Lib.contains Wp.data.toList (⟨#[32]⟩ ++s++ ⟨#[32]⟩ :Wd).data.toList=Fs s :=by
 rw [S7,←Nj s.data.toList ?_ Xo (by decide)]
 ·have e1 :Wp.data.toList=32 ::L4 Xo :=by unfold Wp;rw [List.toList_toArray]
  have e2 : (⟨#[32]⟩ ++s++ ⟨#[32]⟩ :Wd).data.toList=32 :: (s.data.toList++ [32]) :=by simp [ByteArray.data_append]
  rw [e1,e2]
 ·intro hm
  have :=List.all_eq_true.1 hs 32 hm
  revert this;decide
theorem Uc (T s :Wd) (hT :T=Wp) (w :World) (h :Env w) (hs :s.data.toList.all A6=true) :
  Calls Tryz.prog 18 #[.string T, .string (⟨#[32]⟩ ++s++ ⟨#[32]⟩)] w fun e w'=>e= .returned (.bool (Fs s)) ∧w'=w :=by
 have h136 :T.size=136 :=by rw [hT];kernel_rfl
 have C :=Ub T (⟨#[32]⟩ ++s++ ⟨#[32]⟩) w h h136
 rw [hT,Acv s hs] at C
 rw [hT]
 exact C
set_option maxHeartbeats 1000000 in
theorem Ey (s :Wd) (w :World) (h :Env w) :
  Calls Tryz.prog 7 #[.string s] w fun e w'=>e= .returned (.bool (nm s)) ∧Below w.heap.size w w' :=by
 unfold nm
 by_cases h1 :s.size=0
 ·have he :s.toList.isEmpty=true :=by rw [Hz h1];rw [Lib.toList_data];rfl
  rw [h1]
  clear h1
  go_enter Tryz.func7,Tryz.ntmps7
  go_wp2_with fail
  go_ret
  exact ⟨rfl,Below.refl _ _⟩
 by_cases h2 :8<s.size
 ·have he :s.toList.isEmpty=false :=by rw [Lib.toList_data,Dt s (by omega)];rfl
  have hd :decide (s.size≤8) =false :=by simp;omega
  have q : ¬ (s.size :Int) <9 :=by omega
  rw [hd,Bool.and_false,Bool.false_and,Bool.false_and]
  clear h1 h2 hd
  go_enter Tryz.func7,Tryz.ntmps7
  go_wp2_with fail
  go_ret
  exact ⟨rfl,Below.refl _ _⟩
 have he :s.toList.isEmpty=false :=by rw [Lib.toList_data,Dt s (by omega)];rfl
 have q : (s.size :Int) <9 :=by omega
 have e1 :decide (1≤s.size) =true :=by simp;omega
 have e2 :decide (s.size≤8) =true :=by simp;omega
 rw [e1,e2,Bool.true_and,Bool.true_and]
 have TR :=Ab1 s w (by omega)
 clear e1 e2 h1 h2
 by_cases h3 :s.data.toList.all A6=true
 ·have CO :=fun T hT W H=>Uc T s hT W H h3
  rw [h3] at TR
  rw [h3,Bool.true_and]
  generalize Fs s=rb at CO⊢
  clear h3
  go_enter Tryz.func7,Tryz.ntmps7
  go_wp2_with (first
   | (go_at_call 17;go_must (go_fit TR;rintro e w1 ⟨x,rfl,hx,hb1⟩))
   | (go_at_call 18;go_must (go_fit (CO _ (by kernel_rfl) w1 (h.next hb1));rintro e w2 ⟨rfl,rfl⟩)))
  go_ret
  exact ⟨rfl,hb1⟩
 ·have h3' :s.data.toList.all A6=false :=Bool.eq_false_iff.2 h3
  rw [h3'] at TR
  rw [h3',Bool.false_and]
  clear h3 h3'
  go_enter Tryz.func7,Tryz.ntmps7
  go_wp2_with (first
   | (go_at_call 17;go_must (go_fit TR;rintro e w1 ⟨x,rfl,hx,hb1⟩)))
  go_ret
  exact ⟨rfl,hb1⟩
end Go.Proofs.YtifjaegfpdjikaaGreatDoor

namespace Go.Proofs.YtifjaegfpdjikaaGreatDoor
open Go.RowKit
structure Keeps (F :Nat→Prop) (w w' :World) :Prop where
 size :w.heap.size≤w'.heap.size
 block : ∀k,F k→k<w.heap.size→w'.heap[k]? =w.heap[k]?
theorem Keeps.refl (F :Nat→Prop) (w :World) :Keeps F w w := ⟨Nat.le_refl _,fun _ _ _=>rfl⟩
theorem Keeps.trans {F :Nat→Prop} {u v w :World} (h :Keeps F u v) (k :Keeps F v w) :Keeps F u w :=
 ⟨Nat.le_trans h.size k.size,fun i h1 h2=> (k.block i h1 (Nat.lt_of_lt_of_le h2 h.size)).trans (h.block i h1 h2)⟩
theorem Bb {F :Nat→Prop} {w w' :World} (h :Below w.heap.size w w') :Keeps F w w' := ⟨h.size,fun k _ hk=>h.block k hk⟩
theorem Keeps.set {F :Nat→Prop} {w w' :World} (h :Keeps F w w') {b :Nat} (hb : ¬F b) (o :Nat) (u :Value) :Keeps F w (w'.setCell ⟨b,o,none⟩ u) :=
 ⟨by simp [World.setCell];exact h.size,fun k hk hl=> (Below.heap_setCell w' ⟨b,o,none⟩ u k (show k≠b by rintro rfl;exact hb hk)).trans (h.block k hk hl)⟩
theorem Keeps.alloc {F :Nat→Prop} {w w' :World} (h :Keeps F w w') (o :Obj) :Keeps F w (w'.alloc o) :=h.trans (Bb ((Below.refl _ _).alloc (Nat.le_refl _) o))
theorem Keeps.drew {F :Nat→Prop} {w w' :World} (h :Keeps F w w') :Keeps F w w'.drew := ⟨h.size,h.block⟩
theorem Keeps.below {F :Nat→Prop} {w v v' :World} (h :Keeps F w v) (hb :Below v.heap.size v v') :Keeps F w v' :=h.trans (Bb hb)
theorem Keeps.mono {F F' :Nat→Prop} {w w' :World} (h :Keeps F w w') (hF : ∀k,F' k→F k) :Keeps F' w w' := ⟨h.size,fun k hk=>h.block k (hF k hk)⟩
abbrev Fr (n :Nat) :Nat→Prop :=fun k=>n≤k
def E8 (F :Nat→Prop) (size :Nat) (w :World) (sv :Value) (n :Nat) (cs :List Value) :Prop :=
 cs.length=n*size∧
 ((n=0∧ ∃ao cap,sv= .slice ao 0 cap∧ (ao=none→cap=0)) ∨
 (0<n∧ ∃b off cap,sv= .slice (some ⟨b,off,none⟩) n cap∧F b∧b<w.heap.size∧n≤cap∧cap≤maxLen∧ ∀j u,cs[j]? =some u→w.cell? ⟨b,off+j,none⟩ =some u))
theorem E8.keep {F :Nat→Prop} {size :Nat} {w w' :World} {sv :Value} {n :Nat} {cs :List Value} (h :E8 F size w sv n cs) (hk :Keeps F w w') :E8 F size w' sv n cs :=by
 obtain ⟨h1,h2⟩ :=h
 refine ⟨h1, ?_⟩
 rcases h2 with h2 | ⟨h0,b,off,cap,rfl,hB,hlt,hc,hm,hcell⟩
 ·exact .inl h2
 ·refine .inr ⟨h0,b,off,cap,rfl,hB,Nat.lt_of_lt_of_le hlt hk.size,hc,hm,fun j u hj=> ?_⟩
  rw [World.cell?_of_block (w :=w) (hk.block b hB hlt)]
  exact hcell j u hj
theorem E8.mono {F F' :Nat→Prop} {size :Nat} {w :World} {sv :Value} {n :Nat} {cs :List Value} (h :E8 F size w sv n cs) (hB : ∀k,k<w.heap.size→F k→F' k) :E8 F' size w sv n cs :=by
 obtain ⟨h1,h2⟩ :=h
 refine ⟨h1, ?_⟩
 rcases h2 with h2 | ⟨h0,b,off,cap,h3,h4,h5⟩
 ·exact .inl h2
 ·exact .inr ⟨h0,b,off,cap,h3,hB _ h5.1 h4,h5⟩
theorem E8.row {F :Nat→Prop} {size :Nat} {w :World} {sv :Value} {n :Nat} {cs :List Value} (h :E8 F size w sv n cs) :Kc size w sv n cs :=by
 obtain ⟨h1,h2⟩ :=h
 refine ⟨h1, ?_⟩
 rcases h2 with h2 | ⟨h0,b,off,cap,h3,_,h5⟩
 ·exact .inl h2
 ·exact .inr ⟨h0,b,off,cap,h3,h5⟩
theorem E8.shape {F :Nat→Prop} {size :Nat} {w :World} {sv :Value} {n :Nat} {cs :List Value} (h :E8 F size w sv n cs) : ∃ao cap,sv= .slice ao n cap :=h.row.shape
theorem E8.nil (F :Nat→Prop) (size :Nat) (w :World) :E8 F size w (.slice none 0 0) 0 [] := ⟨by simp, .inl ⟨rfl,none,0,rfl,fun _=>rfl⟩⟩
theorem E8.of_own {F :Nat→Prop} {size :Nat} {w :World} {base :Nat} {e :TypeId} {v :Value} {n :Nat} {cs :List Value} (h :w.ownsRow base e size v n cs) (hB : ∀k,base≤k→F k) :E8 F size w v n cs :=by
 refine ⟨h.1, ?_⟩
 rcases h.2 with ⟨rfl,rfl⟩ | ⟨g,cap,cur,rfl,hg,hh,hn,hm,_⟩
 ·exact .inl ⟨rfl,none,0,rfl,fun _=>rfl⟩
 ·rcases Nat.eq_zero_or_pos n with rfl | h0
  ·exact .inl ⟨rfl,_,cap,rfl,fun h=>by cases h⟩
  ·refine .inr ⟨h0,g,0,cap,rfl,hB g hg,lt_of_block hh,hn,hm,fun j u hj=> ?_⟩
   have :=h.cells (g :=g) rfl j u hj
   rwa [Addr.add_lit] at this
theorem E8.new {F :Nat→Prop} {size n :Nat} {w :World} (l :List Value) (t :TypeId) (hl :l.length=n*size) (hB :F w.heap.size) (hn :0<n) (hm :n≤maxLen) :E8 F size (w.alloc (.cells l.toArray t)) (.slice (some ⟨w.heap.size,0,none⟩) n n) n l :=
 ⟨hl, .inr ⟨hn,w.heap.size,0,n,rfl,hB,by simp,Nat.le_refl _,hm,fun j u hj=>by
  have :=B2 w l t j u hj
  rwa [Addr.add_lit] at this⟩⟩
abbrev A2 (op :Int) (x :V) (s name :Wd) (n :Int) (sv :Value) :Array Value := #[.int .i64 op, .int .i64 x.k, .int .i64 x.n, .string x.s, .string s, .string name, .int .i64 n,sv]
mutual
def IsE (F :Nat→Prop) (w :World) :E→Value→Prop
 | .mk op x s name n l,v=> ∃sv cs,v= .agg (A2 op x s name n sv) ∧E8 F 8 w sv l.length cs∧Eq F w l cs
def Eq (F :Nat→Prop) (w :World) :List E→List Value→Prop
 | [],cs=>cs= []
 | e ::l,cs=> ∃c rest,cs=c++rest∧c.length=8∧IsE F w e (.agg c.toArray) ∧Eq F w l rest
end
mutual
theorem IsE.keep {F :Nat→Prop} {w w' :World} (hk :Keeps F w w') : ∀ (e :E) (v :Value),IsE F w e v→IsE F w' e v
 | .mk op x s name n l,v,h=>by
  rw [IsE] at h⊢
  obtain ⟨sv,cs,h1,h2,h3⟩ :=h
  exact ⟨sv,cs,h1,h2.keep hk,Eq.keep hk l cs h3⟩
theorem Eq.keep {F :Nat→Prop} {w w' :World} (hk :Keeps F w w') : ∀ (l :List E) (cs :List Value),Eq F w l cs→Eq F w' l cs
 | [],cs,h=>by rw [Eq] at h⊢;exact h
 | e ::l,cs,h=>by
  rw [Eq] at h⊢
  obtain ⟨c,rest,h1,h2,h3,h4⟩ :=h
  exact ⟨c,rest,h1,h2,IsE.keep hk e _ h3,Eq.keep hk l rest h4⟩
end
mutual
theorem IsE.mono {F F' :Nat→Prop} {w :World} (hk : ∀k,k<w.heap.size→F k→F' k) : ∀ (e :E) (v :Value),IsE F w e v→IsE F' w e v
 | .mk op x s name n l,v,h=>by
  rw [IsE] at h⊢
  obtain ⟨sv,cs,h1,h2,h3⟩ :=h
  exact ⟨sv,cs,h1,h2.mono hk,Eq.mono hk l cs h3⟩
theorem Eq.mono {F F' :Nat→Prop} {w :World} (hk : ∀k,k<w.heap.size→F k→F' k) : ∀ (l :List E) (cs :List Value),Eq F w l cs→Eq F' w l cs
 | [],cs,h=>by rw [Eq] at h⊢;exact h
 | e ::l,cs,h=>by
  rw [Eq] at h⊢
  obtain ⟨c,rest,h1,h2,h3,h4⟩ :=h
  exact ⟨c,rest,h1,h2,IsE.mono hk e _ h3,Eq.mono hk l rest h4⟩
end
def Jx (F :Nat→Prop) (w :World) (sv :Value) (l :List E) :Prop := ∃cs,E8 F 8 w sv l.length cs∧Eq F w l cs
theorem Jx.keep {F :Nat→Prop} {w w' :World} {sv :Value} {l :List E} (h :Jx F w sv l) (hk :Keeps F w w') :Jx F w' sv l :=by
 obtain ⟨cs,h1,h2⟩ :=h
 exact ⟨cs,h1.keep hk,Eq.keep hk l cs h2⟩
theorem Jx.mono {F F' :Nat→Prop} {w :World} {sv :Value} {l :List E} (h :Jx F w sv l) (hk : ∀k,k<w.heap.size→F k→F' k) :Jx F' w sv l :=by
 obtain ⟨cs,h1,h2⟩ :=h
 exact ⟨cs,h1.mono hk,Eq.mono hk l cs h2⟩
theorem Jx.nil (F :Nat→Prop) (w :World) :Jx F w (.slice none 0 0) [] := ⟨[],E8.nil F 8 w,by rw [Eq]⟩
theorem Jx.shape {F :Nat→Prop} {w :World} {sv :Value} {l :List E} (h :Jx F w sv l) : ∃ao cap,sv= .slice ao l.length cap :=by
 obtain ⟨cs,h1,_⟩ :=h;exact h1.shape
theorem Ha {F :Nat→Prop} {w :World} {op :Int} {x :V} {s name :Wd} {n :Int} {l :List E} {sv :Value} (h :Jx F w sv l) :IsE F w (.mk op x s name n l) (.agg (A2 op x s name n sv)) :=by
 obtain ⟨cs,h1,h2⟩ :=h
 rw [IsE]
 exact ⟨sv,cs,rfl,h1,h2⟩
theorem IsE.open {F :Nat→Prop} {w :World} {op :Int} {x :V} {s name :Wd} {n :Int} {l :List E} {v :Value} (h :IsE F w (.mk op x s name n l) v) : ∃sv,v= .agg (A2 op x s name n sv) ∧Jx F w sv l :=by
 rw [IsE] at h
 obtain ⟨sv,cs,h1,h2,h3⟩ :=h
 exact ⟨sv,h1,cs,h2,h3⟩
theorem Dy (F :Nat→Prop) (w :World) :IsE F w E.nil (.agg (A2 0 zero noW noW 0 (.slice none 0 0))) :=Ha (Jx.nil F w)
theorem Lb (F :Nat→Prop) (w :World) (v :V) :IsE F w (D5 v) (.agg (A2 1 v noW noW 0 (.slice none 0 0))) :=Ha (Jx.nil F w)
theorem Jy (F :Nat→Prop) (w :World) (s name :Wd) :IsE F w (Ld s name) (.agg (A2 2 zero s name 0 (.slice none 0 0))) :=Ha (Jx.nil F w)
theorem IsE.shape {F :Nat→Prop} {w :World} {e :E} {v :Value} (h :IsE F w e v) : ∃op x s name n ao k c,v= .agg (A2 op x s name n (.slice ao k c)) :=by
 cases e with
 | mk op x s name n l=>
  obtain ⟨sv,h1,h2⟩ :=h.open
  obtain ⟨ao,c,rfl⟩ :=h2.shape
  exact ⟨op,x,s,name,n,ao,_,c,h1⟩
theorem Pd {F :Nat→Prop} {w :World} : ∀ {l m :List E} {cs ds :List Value},Eq F w l cs→Eq F w m ds→Eq F w (l++m) (cs++ds)
 | [],m,cs,ds,h,k=>by rw [Eq] at h;subst h;exact k
 | e ::l,m,cs,ds,h,k=>by
  rw [Eq] at h
  obtain ⟨c,rest,rfl,h2,h3,h4⟩ :=h
  rw [List.cons_append,Eq]
  exact ⟨c,rest++ds,by simp,h2,h3,Pd h4 k⟩
theorem Pw {F :Nat→Prop} {w :World} {e :E} {c :List Value} (hc :c.length=8) (h :IsE F w e (.agg c.toArray)) :Eq F w [e] c :=by
 rw [Eq];exact ⟨c,[],by simp,hc,h,by rw [Eq]⟩
theorem Vq {F :Nat→Prop} {w :World} : ∀ {l :List E} {cs :List Value},Eq F w l cs→cs.length=l.length*8
 | [],cs,h=>by rw [Eq] at h;subst h;rfl
 | e ::l,cs,h=>by
  rw [Eq] at h
  obtain ⟨c,rest,rfl,h2,_,h4⟩ :=h
  have :=Vq h4
  simp;omega
theorem G4 {F :Nat→Prop} {w :World} {e :E} {op :Int} {x :V} {s name :Wd} {n :Int} {sv :Value} (h :IsE F w e (.agg (A2 op x s name n sv))) (hB :F w.heap.size) :
  Jx F (w.alloc (.cells (A2 op x s name n sv) 37)) (.slice (some ⟨w.heap.size,0,none⟩) 1 1) [e] :=by
 have hb :Below w.heap.size w (w.alloc (.cells (A2 op x s name n sv) 37)) := (Below.refl _ _).alloc (Nat.le_refl _) _
 exact ⟨(A2 op x s name n sv).toList,E8.new (A2 op x s name n sv).toList _ rfl hB (by decide) (by decide),Pw rfl (IsE.keep (Bb hb) e _ h)⟩
theorem Jz {F :Nat→Prop} {w :World} {e e' :E} {op op' :Int} {x x' :V} {s name s' name' :Wd} {n n' :Int} {sv sv' :Value} (h :IsE F w e (.agg (A2 op x s name n sv))) (h' :IsE F w e' (.agg (A2 op' x' s' name' n' sv'))) (hB :F w.heap.size) :
  Jx F (w.alloc (.cells (A2 op x s name n sv++A2 op' x' s' name' n' sv') 37)) (.slice (some ⟨w.heap.size,0,none⟩) 2 2) [e,e'] :=by
 have hb :Below w.heap.size w (w.alloc (.cells (A2 op x s name n sv++A2 op' x' s' name' n' sv') 37)) := (Below.refl _ _).alloc (Nat.le_refl _) _
 refine ⟨(A2 op x s name n sv++A2 op' x' s' name' n' sv').toList,E8.new (A2 op x s name n sv++A2 op' x' s' name' n' sv').toList _ rfl hB (by decide) (by decide), ?_⟩
 exact Pd (Pw rfl (IsE.keep (Bb hb) e _ h)) (Pw rfl (IsE.keep (Bb hb) e' _ h'))
theorem Ud {F :Nat→Prop} {w :World} : ∀ {l :List E} {cs :List Value} {k :Nat} {e :E},Eq F w l cs→l[k]? =some e→ ∃c :List Value,c.length=8∧IsE F w e (.agg c.toArray) ∧ ∀j u,c[j]? =some u→cs[k*8+j]? =some u
 | e ::l,cs,0,x,h,hk=>by
  rw [Eq] at h
  obtain ⟨c,rest,rfl,h2,h3,_⟩ :=h
  simp at hk;subst hk
  refine ⟨c,h2,h3,fun j u hj=> ?_⟩
  rw [List.getElem?_append_left (by have := (List.getElem?_eq_some_iff.1 hj).1;omega)]
  simpa using hj
 | e ::l,cs,k+1,x,h,hk=>by
  rw [Eq] at h
  obtain ⟨c,rest,rfl,h2,_,h4⟩ :=h
  simp only [List.getElem?_cons_succ] at hk
  obtain ⟨d,d1,d2,d3⟩ :=Ud h4 hk
  refine ⟨d,d1,d2,fun j u hj=> ?_⟩
  rw [List.getElem?_append_right (by omega),h2,show (k+1) *8+j - 8=k*8+j from by omega]
  exact d3 j u hj
 | [],_,_,_,_,hk=>by simp at hk
theorem Ue {F :Nat→Prop} {w :World} {b off n cap :Nat} {l :List E} {cs :List Value} (hr :E8 F 8 w (.slice (some ⟨b,off,none⟩) n cap) l.length cs) (ha :Eq F w l cs) {k :Nat} {e :E} (hk :l[k]? =some e) :
  ∃xo xk xn xs2 xs xm xi xa xl xc,IsE F w e (.agg #[.int .i64 xo, .int .i64 xk, .int .i64 xn, .string xs2, .string xs, .string xm, .int .i64 xi, .slice xa xl xc]) ∧ ∀V,Below w.heap.size w V→V.cell? ⟨b,off+k*8,none⟩ =some (.int .i64 xo) ∧V.cell? ⟨b,off+k*8+1,none⟩ =some (.int .i64 xk) ∧V.cell? ⟨b,off+k*8+2,none⟩ =some (.int .i64 xn) ∧V.cell? ⟨b,off+k*8+3,none⟩ =some (.string xs2) ∧V.cell? ⟨b,off+k*8+4,none⟩ =some (.string xs) ∧V.cell? ⟨b,off+k*8+5,none⟩ =some (.string xm) ∧V.cell? ⟨b,off+k*8+6,none⟩ =some (.int .i64 xi) ∧V.cell? ⟨b,off+k*8+7,none⟩ =some (.slice xa xl xc) :=by
 obtain ⟨c,c1,c2,c3⟩ :=Ud ha hk
 obtain ⟨xo,⟨xk,xn,xs2⟩,xs,xm,xi,xa,xl,xc,h⟩ :=c2.shape
 have hc :c= [.int .i64 xo, .int .i64 xk, .int .i64 xn, .string xs2, .string xs, .string xm, .int .i64 xi, .slice xa xl xc] :=by
  have :=congrArg Array.toList (Value.agg.inj h)
  simpa using this
 subst hc
 refine ⟨xo,xk,xn,xs2,xs,xm,xi,xa,xl,xc,c2,fun V hV=> ?_⟩
 have h0 :0<l.length :=by have := (List.getElem?_eq_some_iff.1 hk).1;omega
 rcases hr.2 with ⟨h1,_⟩ | ⟨_,b',o',c',he,_,hlt,_,_,hcell⟩
 ·omega
 ·cases he
  have g : ∀j u,([.int .i64 xo, .int .i64 xk, .int .i64 xn, .string xs2, .string xs, .string xm, .int .i64 xi, .slice xa xl xc] :List Value)[j]? =some u→V.cell? ⟨b,off+k*8+j,none⟩ =some u :=fun j u hj=>by
   rw [Nat.add_assoc]
   exact (hV.cell (p := ⟨b,off+ (k*8+j),none⟩) hlt).trans (hcell _ u (c3 j u hj))
  exact ⟨g 0 _ rfl,g 1 _ rfl,g 2 _ rfl,g 3 _ rfl,g 4 _ rfl,g 5 _ rfl,g 6 _ rfl,g 7 _ rfl⟩
theorem Uf {w :World} {g :Nat} {arr :Array Value} {t :TypeId} {fr :Nat×Nat} (h :w.heap[g]? =some (.cells arr t fr)) (j :Nat) (x :Value) : (w.setCell ⟨g,j,none⟩ x).heap[g]? =some (.cells (arr.setIfInBounds j x) t fr) :=by
 simp only [World.setCell,Array.getElem?_modify,if_true,h,Option.map_some]
 rfl
theorem set3 {w :World} {g :Nat} {a b c x y z :Value} {t :TypeId} {fr :Nat×Nat} (h :w.heap[g]? =some (.cells #[a,b,c] t fr)) :
  (((w.setCell ⟨g,0,none⟩ x).setCell ⟨g,1,none⟩ y).setCell ⟨g,2,none⟩ z).heap[g]? =some (.cells #[x,y,z] t fr) :=Uf (Uf (Uf h 0 x) 1 y) 2 z
theorem Ad4 (w :World) (o1 o2 :Obj) : ((w.alloc o1).alloc o2).heap[w.heap.size+1]? =some o2 :=by
 have :=Ad (w.alloc o1) o2
 rwa [show (w.alloc o1).heap.size=w.heap.size+1 from by simp] at this
theorem Ad5 (w :World) (o1 o2 o3 :Obj) : (((w.alloc o1).alloc o2).alloc o3).heap[w.heap.size+2]? =some o3 :=by
 have :=Ad ((w.alloc o1).alloc o2) o3
 rwa [show ((w.alloc o1).alloc o2).heap.size=w.heap.size+2 from by simp] at this
theorem Adv (w :World) (o1 :Obj) :Below w.heap.size w (w.alloc o1) := (Below.refl _ _).alloc (Nat.le_refl _) _
theorem Adw (w :World) (o1 o2 :Obj) :Below w.heap.size w ((w.alloc o1).alloc o2) := (Adv w o1).alloc (by simp) _
theorem Aec (w :World) (o1 o2 o3 :Obj) :Below w.heap.size w (((w.alloc o1).alloc o2).alloc o3) := (Adw w o1 o2).alloc (by simp;omega) _
theorem Ac8 {w :World} {b g :Nat} (h :b≠g) (o j :Nat) (x :Value) : (w.setCell ⟨g,j,none⟩ x).cell? ⟨b,o,none⟩ =w.cell? ⟨b,o,none⟩ :=World.cell?_of_block (Below.heap_setCell w ⟨g,j,none⟩ x b h)
theorem Aea {W w1 :World} {g :Nat} (h :Below W.heap.size W w1) (hg :g+3≤W.heap.size) :
  g+3≤w1.heap.size∧ (∀o,w1.cell? ⟨g,o,none⟩ =W.cell? ⟨g,o,none⟩) ∧ (∀o,w1.cell? ⟨g+1,o,none⟩ =W.cell? ⟨g+1,o,none⟩) ∧ (∀o,w1.cell? ⟨g+2,o,none⟩ =W.cell? ⟨g+2,o,none⟩) ∧ (∀o,w1.frozen? ⟨g+2,o,none⟩ =W.frozen? ⟨g+2,o,none⟩) :=
 ⟨Nat.le_trans hg h.size,fun o=>h.cell (p := ⟨g,o,none⟩) (by show g<_;omega),fun o=>h.cell (p := ⟨g+1,o,none⟩) (by show g+1<_;omega),fun o=>h.cell (p := ⟨g+2,o,none⟩) (by show g+2<_;omega),fun o=>h.frozen (p := ⟨g+2,o,none⟩) (by show g+2<_;omega)⟩
theorem Ad6 {W w1 :World} {g b :Nat} (h :Below W.heap.size W w1) (hg :g+2≤W.heap.size) (hb :b<g) :
  g+2≤w1.heap.size∧ (∀o,w1.cell? ⟨g,o,none⟩ =W.cell? ⟨g,o,none⟩) ∧ (∀o,w1.cell? ⟨g+1,o,none⟩ =W.cell? ⟨g+1,o,none⟩) ∧ (∀o,w1.frozen? ⟨g+1,o,none⟩ =W.frozen? ⟨g+1,o,none⟩) ∧ (∀o,w1.cell? ⟨b,o,none⟩ =W.cell? ⟨b,o,none⟩) :=
 ⟨Nat.le_trans hg h.size,fun o=>h.cell (p := ⟨g,o,none⟩) (by show g<_;omega),fun o=>h.cell (p := ⟨g+1,o,none⟩) (by show g+1<_;omega),fun o=>h.frozen (p := ⟨g+1,o,none⟩) (by show g+1<_;omega),fun o=>h.cell (p := ⟨b,o,none⟩) (by show b<_;omega)⟩
theorem Aed {W w1 :World} {a b g :Nat} (h :Below W.heap.size W w1) (ha :a<W.heap.size) (hb :b<W.heap.size) (hg :g<W.heap.size) :
  (∀o,w1.cell? ⟨a,o,none⟩ =W.cell? ⟨a,o,none⟩) ∧ (∀o,w1.cell? ⟨b,o,none⟩ =W.cell? ⟨b,o,none⟩) ∧ (∀o,w1.cell? ⟨g,o,none⟩ =W.cell? ⟨g,o,none⟩) ∧ (∀o,w1.frozen? ⟨g,o,none⟩ =W.frozen? ⟨g,o,none⟩) :=
 ⟨fun o=>h.cell (p := ⟨a,o,none⟩) ha,fun o=>h.cell (p := ⟨b,o,none⟩) hb,fun o=>h.cell (p := ⟨g,o,none⟩) hg,fun o=>h.frozen (p := ⟨g,o,none⟩) hg⟩
theorem Ad7 {C :Nat} {w w' :World} (h :Below C w w') :Keeps (fun k=>k<C) w w' := ⟨h.size,fun k hk _=>h.block k hk⟩
end Go.Proofs.YtifjaegfpdjikaaGreatDoor

namespace Go.Proofs.YtifjaegfpdjikaaGreatDoor
open Go.RowKit
theorem But.keeps {a :Nat} {F :Nat→Prop} {w w' :World} (h :But a w w') (hF : ¬F a) :Keeps F w w' := ⟨h.size,fun k h1 h2=>h.block k h2 (by rintro rfl;exact hF h1)⟩
set_option maxHeartbeats 1000000 in
theorem Oo (k n :Int) (s :Wd) (w :World) :Calls Tryz.prog 129 #[.agg #[.int .i64 k, .int .i64 n, .string s]] w fun e w'=>e= .returned (.agg (A2 1 ⟨k,n,s⟩ noW noW 0 (.slice none 0 0))) ∧Below w.heap.size w w' :=by
 go_enter Tryz.func129,Tryz.ntmps129
 go_wp2
 exact bodyPost_ret (v := .agg #[.int .i64 1, .int .i64 k, .int .i64 n, .string s, .string noW, .string noW, .int .i64 0, .slice none 0 0]) (by simp [results,Tryz.results129,go_sem]) rfl ⟨rfl,((Below.refl _ _).alloc (Nat.le_refl _) _).alloc (by simp) _⟩
set_option maxHeartbeats 1000000 in
theorem J0 (op :Int) (ao :Option Addr) (n c :Nat) (w :World) :Calls Tryz.prog 110 #[.int .i64 op, .slice ao n c] w fun e w'=>e= .returned (.agg (A2 op zero noW noW 0 (.slice ao n c))) ∧Below w.heap.size w w' :=by
 go_enter Tryz.func110,Tryz.ntmps110
 go_wp2
 exact bodyPost_ret (v := .agg #[.int .i64 op, .int .i64 0, .int .i64 0, .string noW, .string noW, .string noW, .int .i64 0, .slice ao n c]) (by simp [results,Tryz.results110,go_sem]) rfl ⟨rfl,(Below.refl _ _).alloc (Nat.le_refl _) _⟩
theorem Ab {w :World} {b :Nat} {arr :Array Value} {t :TypeId} (h :w.heap[b]? =some (.cells arr t)) (o :Nat) :w.frozen? ⟨b,o,none⟩ =false :=by
 simp [World.frozen?,h]
theorem But.new {a :Nat} {w w' :World} (h :But a w w') {b :Nat} (hb :w.heap.size≤b) (o :Nat) (u :Value) :But a w (w'.setCell ⟨b,o,none⟩ u) :=
 ⟨h.os,h.tape,h.output,by simp [World.setCell];exact h.size,fun k hk hn=> (Below.heap_setCell w' ⟨b,o,none⟩ u k (show k≠b by omega)).trans (h.block k hk hn)⟩
theorem Rd.other {w :World} {a :Nat} {s :St} {d :Int} (h :Rd w a s d) {b :Nat} (hb :b≠a) (o :Nat) (u :Value) :Rd (w.setCell ⟨b,o,none⟩ u) a s d :=by
 obtain ⟨x,r,v,h1,h2⟩ :=h
 exact ⟨x,r,v,(Below.heap_setCell w ⟨b,o,none⟩ u a (fun e=>hb e.symm)).trans h1,h2⟩
theorem Ac {a :Nat} {w w' :World} (h :But a w w') {b :Nat} {x :Obj} (hx :w.heap[b]? =some x) (hn :b≠a) :w'.heap[b]? =some x := (h.block b (lt_of_block hx) hn).trans hx
theorem Rd.drew {w :World} {a :Nat} {s :St} {d :Int} (h :Rd w a s d) :Rd w.drew a s d :=h
end Go.Proofs.YtifjaegfpdjikaaGreatDoor

namespace Go.Proofs.YtifjaegfpdjikaaGreatDoor
open Go.RowKit
set_option maxHeartbeats 400000 in
theorem Ug (c :Int) (w :World) :Calls Tryz.prog 144 #[.int .u8 c] w fun e w'=>e= .returned (.bool (J1 c)) ∧w'=w :=by
 by_cases h1 :32≤c<;>by_cases h2 :c≤126<;>by_cases h3 :c=39
 all_goals
  go_enter Tryz.func144,Tryz.ntmps144
  go_wp2
  all_goals
   go_ret
   exact ⟨Ci (by simp_all [J1]),rfl⟩
set_option maxHeartbeats 400000 in
theorem S8 (s :ByteArray) (w :World) (h :8<s.size) (hs :s.size≤maxLen) :
  Calls Tryz.prog 139 #[.string s] w fun e w'=>e= .returned (.bool false) ∧w'=w :=by
 unfold maxLen at hs
 go_enter Tryz.func139,Tryz.ntmps139
 go_wp2
 go_ret
 exact ⟨rfl,rfl⟩
set_option maxHeartbeats 400000 in
theorem Ry (s :ByteArray) (w :World) (h :s.size≤8) :
  Calls Tryz.prog 139 #[.string s] w fun e w'=>e= .returned (.bool (F1 s.data.toList)) ∧w'=w :=by
 go_enter Tryz.func139,Tryz.ntmps139
 go_wp2
 go_loop [9] (fun i=> ∃k :Nat,k≤s.size∧i= .int .i64 k∧F1 (s.data.toList.take k) =true) (fun i=>s.size - (intOf i).toNat)
 case atStart=>exact ⟨0,Nat.zero_le _,rfl,rfl⟩
 case round=>
  obtain ⟨k,hk,rfl,hg0⟩ :=hrel
  have hg :Hid (F1 (s.data.toList.take k) =true) :=hg0
  clear hg0
  by_cases hlt :k<s.size
  ·have hsn :Hid (F1 (s.data.toList.take (k+1)) = (F1 (s.data.toList.take k) &&J1 (s[k].toNat :Int))) :=by rw [Nk s k hlt,P7];rfl
   have hbad :Hid (J1 (s[k].toNat :Int) =false→F1 s.data.toList=false) :=Yv s k hlt
   cases hb :J1 (s[k].toNat :Int)
   all_goals
    go_wp2_with (go_at_call 144;refine (Ug _ _).mono ?_;rintro e w' ⟨rfl,rfl⟩)
   ·go_ret
    exact ⟨Ci (hbad.out hb).symm,rfl⟩
   ·go_round
    case rel=>exact ⟨k+1,by omega,by go_num,by rw [hsn.out,hg.out,hb];rfl⟩
    case measure=>simp [intOf];omega
  ·go_wp2
   go_ret
   exact ⟨Ci (by have :=hg.out;rw [Tl s k (by omega)] at this;exact this.symm),rfl⟩
theorem L5 (s :ByteArray) :s.toList.isEmpty=decide (s.size=0) :=by
 rw [ByteArray.toList_eq,show s.size=s.data.toList.length from by simp];cases s.data.toList<;>simp
set_option maxHeartbeats 1000000 in
theorem Aau (v :V) (w :World) (hs :v.s.size≤maxLen) :
  Calls Tryz.prog 137 #[v.val] w fun e w'=>e= .returned (.bool (Dk v)) ∧w'=w.alloc (.cells #[.int .i64 v.k, .int .i64 v.n, .string v.s] 35) :=by
 obtain ⟨k,n,s⟩ :=v
 show Calls Tryz.prog 137 #[.agg #[.int .i64 k, .int .i64 n, .string s]] w _
 by_cases h0 :k=0
 ·subst h0
  by_cases hn :n=0
  all_goals
   go_enter Tryz.func137,Tryz.ntmps137
   go_wp2
   go_ret
   exact ⟨Ci (by simp [Dk,hn,L5]),rfl⟩
 by_cases h1 :k=1
 ·subst h1
  rcases (show n< -1000000∨1000000<n∨ (-1000000≤n∧n≤1000000) from by omega) with hn | hn | ⟨hn,hm⟩
  ·have e :decide (-1000000≤n) =false :=by simp;omega
   go_enter Tryz.func137,Tryz.ntmps137
   go_wp2
   go_ret
   exact ⟨Ci (by simp [Dk,e]),rfl⟩
  ·have e :decide (n≤1000000) =false :=by simp;omega
   go_enter Tryz.func137,Tryz.ntmps137
   go_wp2
   go_ret
   exact ⟨Ci (by simp [Dk,e]),rfl⟩
  ·go_enter Tryz.func137,Tryz.ntmps137
   go_wp2
   go_ret
   exact ⟨Ci (by simp [Dk,hn,hm,L5]),rfl⟩
 by_cases h2 :k=2
 ·subst h2
  by_cases hn :n=0
  ·subst hn
   by_cases h8 :s.size≤8
   ·go_enter Tryz.func137,Tryz.ntmps137
    go_wp2_with (go_at_call 139;refine (Ry _ _ h8).mono ?_;rintro e w' ⟨rfl,rfl⟩)
    go_ret
    exact ⟨Ci (by simp [Dk,h8]),rfl⟩
   ·have h9 :8<s.size :=by omega
    have e :decide (s.size≤8) =false :=by simp;omega
    have E :Hid (decide (s.size≤8) =false) :=e
    clear e h8
    go_enter Tryz.func137,Tryz.ntmps137
    go_wp2_with (go_at_call 139;refine (S8 s _ h9 hs).mono ?_;rintro e w' ⟨rfl,rfl⟩)
    go_ret
    exact ⟨Ci (by have :=E.out;simp [Dk,this]),rfl⟩
  ·go_enter Tryz.func137,Tryz.ntmps137
   go_wp2
   go_ret
   exact ⟨Ci (by simp [Dk,hn]),rfl⟩
 go_enter Tryz.func137,Tryz.ntmps137
 go_wp2
 go_ret
 exact ⟨Ci (by simp [Dk,h0,h1,h2]),rfl⟩
end Go.Proofs.YtifjaegfpdjikaaGreatDoor


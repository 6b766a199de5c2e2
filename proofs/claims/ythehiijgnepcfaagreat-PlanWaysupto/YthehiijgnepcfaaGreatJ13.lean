/-
  3 texts of this proof in one, in build order: QSpan2, QWhere, QWhere2.
-/
import Derived.Laws.StructEq
import Derived.Deep.Cut
import Derived.Test.YthehiijgnepcfaaGreatJ07
import Derived.Test.YthehiijgnepcfaaGreatJ11
import Derived.Test.YthehiijgnepcfaaGreatJ12
set_option linter.unusedSimpArgs false
set_option linter.unusedVariables false
namespace Go.Proofs.YthehiijgnepcfaaGreat
open Go.RowKit
theorem Zf (a b :Wd) (ats :Array TypeId) (ty :TypeId) (w :World) : (Builtin.max_ ats ty #[.string a, .string b]).run Tryz.prog w= .ok (.string (Hc a b)) w :=by
 simp only [Builtin.max_,Builtin.max2,List.foldlM,Op.stringOp,Hc,klt]
 by_cases h :Op.bytesLess a.toList b.toList=true
 ·simp [asBool,h]
 ·simp [asBool,h]
theorem Zg (a b :Wd) (ats :Array TypeId) (ty :TypeId) (w :World) : (Builtin.min_ ats ty #[.string a, .string b]).run Tryz.prog w= .ok (.string (Hd a b)) w :=by
 simp only [Builtin.min_,Builtin.min2,List.foldlM,Op.stringOp]
 have key : (Op.bytesLess a.toList b.toList || a.toList==b.toList) = !klt b a :=by
  cases h :klt b a with
  | true=>
   have h1 :Op.bytesLess a.toList b.toList=false :=Nl h
   have h2 : (a.toList==b.toList) =false :=by
    rw [G5];exact decide_eq_false fun e=>Ex h e.symm
   rw [h1,h2];rfl
  | false=>
   rcases I0 h with e | e
   ·subst e;simp
   ·have :Op.bytesLess a.toList b.toList=true :=e
    rw [this];rfl
 rw [key]
 unfold Hd
 by_cases h :klt b a=true
 ·simp [asBool,h]
 ·simp [asBool,h]
set_option maxHeartbeats 1000000 in
theorem Lp (s :Sp) (w :World) :Calls Tryz.prog 72 #[s.val] w fun e w'=>e= .returned (.bool s.empty) ∧Below w.heap.size w w' :=by
 obtain ⟨lo,hi⟩ :=s
 have E :Hid ((Sp.mk lo hi).empty= !Op.bytesLess lo.toList hi.toList) :=rfl
 generalize (Sp.mk lo hi).empty=r at E
 simp only [Sp.val]
 go_enter Tryz.func72,Tryz.ntmps72
 go_wp2
 go_ret
 exact ⟨Ag (by rw [E.out]),Ao _ _⟩
set_option maxHeartbeats 2000000 in
theorem Rp (s o :Sp) (w :World) :Calls Tryz.prog 67 #[s.val,o.val] w fun e w'=>e= .returned (s.both o).val∧Below w.heap.size w w' :=by
 obtain ⟨lo,hi⟩ :=s
 obtain ⟨lo2,hi2⟩ :=o
 have E :Hid (((Sp.mk lo hi).both (Sp.mk lo2 hi2)).val= .agg #[.string (Hc lo lo2), .string (Hd hi hi2)]) :=rfl
 rw [E.out]
 simp only [Sp.val]
 have h1 :=fun ats ty w=>Zf lo lo2 ats ty w
 have h2 :=fun ats ty w=>Zg hi hi2 ats ty w
 generalize Hc lo lo2=a at h1
 generalize Hd hi hi2=b at h2
 go_enter Tryz.func67,Tryz.ntmps67
 go_wp2
 exact bodyPost_ret (results_cell_row Tryz.results67 _ _ (w.heap.size+2) 81 #[.string a, .string b] (0,0) _ rfl (A6 w _ _ _) Tryz.underlying81 rfl (by kernel_rfl)) rfl ⟨rfl,Cb w _ _ _⟩
set_option maxRecDepth 100000 in
set_option maxHeartbeats 4000000 in
theorem N8 (s o :Sp) (w :World) :Calls Tryz.prog 68 #[s.val,o.val] w fun e w'=>e= .returned (s.either o).val∧Below w.heap.size w w' :=by
 have H1 :=fun W=>Lp s W
 have H2 :=fun W=>Lp o W
 have E :Hid ((s.either o).val=if s.empty then o.val else if o.empty then s.val else .agg #[.string (Hd s.lo o.lo), .string (Hc s.hi o.hi)]) :=by
  show _=_
  unfold Sp.either
  split
  ·rfl
  ·split<;>rfl
 rw [E.out]
 clear E
 generalize s.empty=e1 at H1
 generalize o.empty=e2 at H2
 obtain ⟨lo,hi⟩ :=s
 obtain ⟨lo2,hi2⟩ :=o
 simp only [Sp.val] at H1 H2⊢
 have h1 :=fun ats ty w=>Zg lo lo2 ats ty w
 have h2 :=fun ats ty w=>Zf hi hi2 ats ty w
 generalize Hd lo lo2=a at h1
 generalize Hc hi hi2=b at h2
 have blk :=A6 w (.cells #[.string lo, .string hi] 81) (.cells #[.string lo2, .string hi2] 81) (.cells #[.string noW, .string noW] 81)
 have hb3 :=Cb w (.cells #[.string lo, .string hi] 81) (.cells #[.string lo2, .string hi2] 81) (.cells #[.string noW, .string noW] 81)
 have blA :=Ac (Ac (Ab w (.cells #[.string lo, .string hi] 81)) (.cells #[.string lo2, .string hi2] 81)) (.cells #[.string noW, .string noW] 81)
 have blB :=Ac (Aq w (.cells #[.string lo, .string hi] 81) (.cells #[.string lo2, .string hi2] 81)) (.cells #[.string noW, .string noW] 81)
 cases e1
 ·cases e2
  ·simp only [Bool.false_eq_true,if_false]
   go_enter Tryz.func68,Tryz.ntmps68
   go_wp2_with (first
    | (go_at_call_of 72 (Value.agg #[.string lo, .string hi]);go_must (go_fit (H1 _);rintro e w1 ⟨rfl,hb1⟩;obtain ⟨p0,p1,p2,p3,p4⟩ :=Am blA hb1;obtain ⟨q0,q1,q2,q3,q4⟩ :=Am blB hb1;obtain ⟨r0,r1,r2,r3,r4⟩ :=Am blk hb1))
    | (go_at_call_of 72 (Value.agg #[.string lo2, .string hi2]);go_must (go_fit (H2 _);rintro e w2 ⟨rfl,hb2⟩;obtain ⟨p0,p1,p2,p3,p4⟩ :=Am p0 hb2;obtain ⟨q0,q1,q2,q3,q4⟩ :=Am q0 hb2;obtain ⟨r0,r1,r2,r3,r4⟩ :=Am r0 hb2)))
   exact A7 _ _ Tryz.results68 rfl rfl r0 (Ad hb3 (Ad hb1 hb2)) (by omega) Tryz.underlying81 (by kernel_rfl)
  ·simp only [Bool.false_eq_true,if_false,if_true]
   go_enter Tryz.func68,Tryz.ntmps68
   go_wp2_with (first
    | (go_at_call_of 72 (Value.agg #[.string lo, .string hi]);go_must (go_fit (H1 _);rintro e w1 ⟨rfl,hb1⟩;obtain ⟨p0,p1,p2,p3,p4⟩ :=Am blA hb1;obtain ⟨q0,q1,q2,q3,q4⟩ :=Am blB hb1;obtain ⟨r0,r1,r2,r3,r4⟩ :=Am blk hb1))
    | (go_at_call_of 72 (Value.agg #[.string lo2, .string hi2]);go_must (go_fit (H2 _);rintro e w2 ⟨rfl,hb2⟩;obtain ⟨p0,p1,p2,p3,p4⟩ :=Am p0 hb2;obtain ⟨q0,q1,q2,q3,q4⟩ :=Am q0 hb2;obtain ⟨r0,r1,r2,r3,r4⟩ :=Am r0 hb2)))
   exact A7 _ _ Tryz.results68 rfl rfl r0 (Ad hb3 (Ad hb1 hb2)) (by omega) Tryz.underlying81 (by kernel_rfl)
 ·simp only [if_true]
  go_enter Tryz.func68,Tryz.ntmps68
  go_wp2_with (first
    | (go_at_call 72;go_must (go_fit (H1 _);rintro e w1 ⟨rfl,hb1⟩;obtain ⟨q0,q1,q2,q3,q4⟩ :=Am blB hb1;obtain ⟨r0,r1,r2,r3,r4⟩ :=Am blk hb1)))
  exact A7 _ _ Tryz.results68 rfl rfl r0 (Ad hb3 hb1) (by omega) Tryz.underlying81 (by kernel_rfl)
def Aak (o :Option (List V)) :Nat :=match o with
 | some l=>l.length
 | none=>0
def Sp.rank (s :Sp) :Int :=if s.empty then 0 else if Aak (vals s.lo.data.toList) =1∧s.hi=s.lo++ffW then 1 else if s.lo=noW∧s.hi=ffW then 3 else 2
end Go.Proofs.YthehiijgnepcfaaGreat

namespace Go.Proofs.YthehiijgnepcfaaGreat
open Go.RowKit
def E.opI :E→Int
 | .mk op _ _ _ _ _=>op
def E.vV :E→V
 | .mk _ v _ _ _ _=>v
def E.nI :E→Int
 | .mk _ _ _ _ n _=>n
def isC (at' col op n :Int) :Bool :=decide (op=2) &&decide (0≤at') &&decide (at'≤n) &&decide (n - at'=col)
def I6 (op k :Int) :Bool :=decide (op=1) &&decide (k=0)
set_option maxRecDepth 100000 in
set_option maxHeartbeats 2000000 in
theorem N9 (at' col op :Int) (x :V) (s name :Wd) (n :Int) (ao :Option Addr) (k c :Nat) (w :World) (hn :op=2→n≤9223372036854775807) :
  Calls Tryz.prog 115 #[.agg #[.int .i64 at', .int .i64 col], .agg (Ae op x s name n (.slice ao k c))] w fun e w'=>e= .returned (.bool (isC at' col op n)) ∧Below w.heap.size w w' :=by
 obtain ⟨xk,xn,xs⟩ :=x
 have E :Hid (isC at' col op n= (decide (op=2) &&decide (0≤at') &&decide (at'≤n) &&decide (n - at'=col))) :=rfl
 generalize isC at' col op n=r at E
 by_cases h1 :op=2
 ·subst h1
  have hn' :=hn rfl
  clear hn
  by_cases h2 :0≤at'
  ·by_cases h3 :at'≤n
   ·have hw :IntKind.i64.wrap (n - at') =n - at' :=by rw [IntKind.wrap_i64];omega
    by_cases h4 :n - at'=col
    ·go_enter Tryz.func115,Tryz.ntmps115
     go_wp2
     go_ret
     exact ⟨Ag (by rw [E.out];simp_all<;>omega),Bb _ _ _⟩
    ·go_enter Tryz.func115,Tryz.ntmps115
     go_wp2
     go_ret
     exact ⟨Ag (by rw [E.out];simp_all<;>omega),Bb _ _ _⟩
   ·go_enter Tryz.func115,Tryz.ntmps115
    go_wp2
    go_ret
    exact ⟨Ag (by rw [E.out];simp_all<;>omega),Bb _ _ _⟩
  ·go_enter Tryz.func115,Tryz.ntmps115
   go_wp2
   go_ret
   exact ⟨Ag (by rw [E.out];simp_all<;>omega),Bb _ _ _⟩
 ·go_enter Tryz.func115,Tryz.ntmps115
  go_wp2
  go_ret
  exact ⟨Ag (by rw [E.out];simp_all<;>omega),Bb _ _ _⟩
set_option maxRecDepth 100000 in
set_option maxHeartbeats 2000000 in
theorem Nc (op :Int) (x :V) (s name :Wd) (n :Int) (ao :Option Addr) (k c :Nat) (w :World) :
  Calls Tryz.prog 116 #[.agg (Ae op x s name n (.slice ao k c))] w fun e w'=>e= .returned (.bool (I6 op x.k)) ∧Below w.heap.size w w' :=by
 obtain ⟨xk,xn,xs⟩ :=x
 have E :Hid (I6 op xk= (decide (op=1) &&decide (xk=0))) :=rfl
 simp only
 generalize I6 op xk=r at E
 by_cases h1 :op=1
 ·subst h1
  by_cases h2 :xk=0
  ·subst h2
   go_enter Tryz.func116,Tryz.ntmps116
   go_wp2
   go_ret
   exact ⟨Ag (by rw [E.out];rfl),Ao _ _⟩
  ·go_enter Tryz.func116,Tryz.ntmps116
   go_wp2
   go_ret
   exact ⟨Ag (by rw [E.out];simp_all),Ao _ _⟩
 ·go_enter Tryz.func116,Tryz.ntmps116
  go_wp2
  go_ret
  exact ⟨Ag (by rw [E.out];simp_all),Ao _ _⟩
end Go.Proofs.YthehiijgnepcfaaGreat

namespace Go.Proofs.YthehiijgnepcfaaGreat
open Go.RowKit
def isS (at' col op n :Int) (yes :Bool) :Sp :=if isC at' col op n then (if yes then Ey (kb zero) else ⟨kb zero++ffW,noW++ffW⟩) else Ey noW
def Ch (at' col op :Int) (ao :Int) (av :V) (an :Int) (bo :Int) (bv :V) (bn :Int) (yes :Bool) :Sp :=
 if I6 ao av.k || I6 bo bv.k then noS
 else if decide (op=5) &&isC at' col ao an&&decide (bo=1) then Kd bv yes
 else if decide (op=5) &&decide (ao=1) &&isC at' col bo bn then Kd av yes
 else if decide (op=6) &&isC at' col ao an&&decide (bo=1) then Kv bv yes
 else if decide (op=6) &&decide (ao=1) &&isC at' col bo bn then I4 av yes
 else Ey noW
theorem Fc (w :World) :Calls Tryz.prog 54 #[.string ⟨#[]⟩] w fun e w'=>e= .returned (.agg #[.string noW, .string (noW++ffW)]) ∧Below w.heap.size w w' :=Fa noW w (by decide)
theorem Acg {at' col op n :Int} (h :isC at' col op n=true) :op=2 :=by
 unfold isC at h;simp only [Bool.and_eq_true,decide_eq_true_eq] at h;exact h.1.1.1
set_option maxRecDepth 100000 in
set_option maxHeartbeats 4000000 in
theorem Ye (at' col :Int) (pop pk pn :Int) (px ps pm :Wd) (pi :Int) (pa :Option Addr) (pl pc :Nat) (yes :Bool) (w :World) (hn :pop=2→pi≤9223372036854775807) :
  Calls Tryz.prog 69 #[.agg #[.int .i64 at', .int .i64 col], .agg #[.int .i64 pop, .int .i64 pk, .int .i64 pn, .string px, .string ps, .string pm, .int .i64 pi, .slice pa pl pc], .bool yes] w fun e w'=>e= .returned (isS at' col pop pi yes).val∧Below w.heap.size w w' :=by
 have HI :=fun W=>N9 at' col pop ⟨pk,pn,px⟩ ps pm pi pa pl pc W hn
 have HK :=fun (W :World) (vb :Nat) h=>Is zero vb W (by decide) h
 have hz :=Rl zero
 have HB :=fun W=>Fa (kb zero) W (by omega)
 have H0 :=Fc
 have E :Hid ((isS at' col pop pi yes).val=if isC at' col pop pi then (if yes then .agg #[.string (kb zero), .string (kb zero++ffW)] else .agg #[.string (kb zero++ffW), .string (noW++ffW)]) else .agg #[.string noW, .string (noW++ffW)]) :=by
  show _=_
  unfold isS
  split
  ·split<;>rfl
  ·rfl
 rw [E.out]
 clear E hz
 generalize kb zero=k at HK HB
 generalize isC at' col pop pi=ic at HI
 unfold ffW at H0⊢
 simp only [zero] at HK
 generalize (noW++ ⟨#[255]⟩ :Wd) =f1 at H0
 have B0 : (((w.alloc (.cells #[.int .i64 at', .int .i64 col] 83)).alloc (.cells #[.int .i64 pop, .int .i64 pk, .int .i64 pn, .string px, .string ps, .string pm, .int .i64 pi, .slice pa pl pc] 34)).alloc (.cells #[.string noW, .string noW] 81)).heap[w.heap.size]? =some (.cells #[.int .i64 at', .int .i64 col] 83) :=Ac (Ac (Ab _ _) _) _
 have B1 : (((w.alloc (.cells #[.int .i64 at', .int .i64 col] 83)).alloc (.cells #[.int .i64 pop, .int .i64 pk, .int .i64 pn, .string px, .string ps, .string pm, .int .i64 pi, .slice pa pl pc] 34)).alloc (.cells #[.string noW, .string noW] 81)).heap[w.heap.size+1]? =some (.cells #[.int .i64 pop, .int .i64 pk, .int .i64 pn, .string px, .string ps, .string pm, .int .i64 pi, .slice pa pl pc] 34) :=Ac (Aq _ _ _) _
 have B2 : (((w.alloc (.cells #[.int .i64 at', .int .i64 col] 83)).alloc (.cells #[.int .i64 pop, .int .i64 pk, .int .i64 pn, .string px, .string ps, .string pm, .int .i64 pi, .slice pa pl pc] 34)).alloc (.cells #[.string noW, .string noW] 81)).heap[w.heap.size+2]? =some (.cells #[.string noW, .string noW] 81) :=A6 _ _ _ _
 have hb3 :=Cb w (.cells #[.int .i64 at', .int .i64 col] 83) (.cells #[.int .i64 pop, .int .i64 pk, .int .i64 pn, .string px, .string ps, .string pm, .int .i64 pi, .slice pa pl pc] 34) (.cells #[.string noW, .string noW] 81)
 generalize hW : ((w.alloc (.cells #[.int .i64 at', .int .i64 col] 83)).alloc (.cells #[.int .i64 pop, .int .i64 pk, .int .i64 pn, .string px, .string ps, .string pm, .int .i64 pi, .slice pa pl pc] 34)).alloc (.cells #[.string noW, .string noW] 81) =W at B0 B1 B2 hb3
 have HW :Hid _ :=hW
 clear hW
 cases ic
 ·simp only [Bool.false_eq_true,if_false]
  go_enter Tryz.func69,Tryz.ntmps69
  go_upto_region 1 with fail
  rw [HW.out]
  go_wp2_with (first
   | (go_at_call 52;go_must (go_fit (HK _ _ (Ab _ _));rintro e w1 ⟨rfl,hb1⟩;have z1 :Below W.heap.size W w1 :=Ad (Ao _ _) hb1))
   | (go_at_call_of 54 (Value.string k);go_must (go_fit (HB _);rintro e w2 ⟨rfl,hb2⟩;have z2 :Below W.heap.size W w2 :=Ad z1 hb2;have bN :=Ab w2 (.cells #[.string k, .string (k++ ⟨#[255]⟩)] 81);have z3 :Below W.heap.size W (w2.alloc (.cells #[.string k, .string (k++ ⟨#[255]⟩)] 81)) :=z2.alloc z2.size _;have D0 := (z3.block _ (lt_of_block B0)).trans B0;have D1 := (z3.block _ (lt_of_block B1)).trans B1;have c0 :=Aa D0 (j :=0) (u := .int .i64 at') rfl;have c1 :=Aa D0 (j :=1) (u := .int .i64 col) rfl;have e0 :=Aa D1 (j :=0) (u := .int .i64 pop) rfl;have e1 :=Aa D1 (j :=1) (u := .int .i64 pk) rfl;have e2 :=Aa D1 (j :=2) (u := .int .i64 pn) rfl;have e3 :=Aa D1 (j :=3) (u := .string px) rfl;have e4 :=Aa D1 (j :=4) (u := .string ps) rfl;have e5 :=Aa D1 (j :=5) (u := .string pm) rfl;have e6 :=Aa D1 (j :=6) (u := .int .i64 pi) rfl;have e7 :=Aa D1 (j :=7) (u := .slice pa pl pc) rfl))
   | (go_at_call 115;go_must (go_fit (HI _);rintro e w3 ⟨rfl,hb3'⟩;have z4 :Below W.heap.size W w3 :=Ad z3 hb3';obtain ⟨m0,m1,m2,m3,m4⟩ :=Am bN hb3';obtain ⟨r0,r1,r2,r3,r4⟩ :=Am B2 z4))
   | (go_at_call 54;go_must (go_fit (H0 _);rintro e w4 ⟨rfl,hb4⟩;have z5 :Below W.heap.size W w4 :=Ad z4 hb4;obtain ⟨r0,r1,r2,r3,r4⟩ :=Am B2 z5)))
  exact A7 _ _ Tryz.results69 rfl rfl r0 (Ad hb3 z5) (by omega) Tryz.underlying81 (by kernel_rfl)
 ·cases yes
  ·simp only [Bool.false_eq_true,if_false,if_true]
   have F1 :=Wf
   go_enter Tryz.func69,Tryz.ntmps69
   go_upto_region 1 with fail
   rw [HW.out]
   go_upto_region 6 with (first
   | (go_at_call 52;go_must (go_fit (HK _ _ (Ab _ _));rintro e w1 ⟨rfl,hb1⟩;have z1 :Below W.heap.size W w1 :=Ad (Ao _ _) hb1))
   | (go_at_call_of 54 (Value.string k);go_must (go_fit (HB _);rintro e w2 ⟨rfl,hb2⟩;have z2 :Below W.heap.size W w2 :=Ad z1 hb2;have bN :=Ab w2 (.cells #[.string k, .string (k++ ⟨#[255]⟩)] 81);have z3 :Below W.heap.size W (w2.alloc (.cells #[.string k, .string (k++ ⟨#[255]⟩)] 81)) :=z2.alloc z2.size _;have D0 := (z3.block _ (lt_of_block B0)).trans B0;have D1 := (z3.block _ (lt_of_block B1)).trans B1;have c0 :=Aa D0 (j :=0) (u := .int .i64 at') rfl;have c1 :=Aa D0 (j :=1) (u := .int .i64 col) rfl;have e0 :=Aa D1 (j :=0) (u := .int .i64 pop) rfl;have e1 :=Aa D1 (j :=1) (u := .int .i64 pk) rfl;have e2 :=Aa D1 (j :=2) (u := .int .i64 pn) rfl;have e3 :=Aa D1 (j :=3) (u := .string px) rfl;have e4 :=Aa D1 (j :=4) (u := .string ps) rfl;have e5 :=Aa D1 (j :=5) (u := .string pm) rfl;have e6 :=Aa D1 (j :=6) (u := .int .i64 pi) rfl;have e7 :=Aa D1 (j :=7) (u := .slice pa pl pc) rfl))
   | (go_at_call 115;go_must (go_fit (HI _);rintro e w3 ⟨rfl,hb3'⟩;have z4 :Below W.heap.size W w3 :=Ad z3 hb3';obtain ⟨m0,m1,m2,m3,m4⟩ :=Am bN hb3';obtain ⟨r0,r1,r2,r3,r4⟩ :=Am B2 z4))
   | (go_at_call 54;go_must (go_fit (H0 _);rintro e w4 ⟨rfl,hb4⟩;have z5 :Below W.heap.size W w4 :=Ad z4 hb4;obtain ⟨r0,r1,r2,r3,r4⟩ :=Am B2 z5)))
   have hmB :=lt_of_block m0
   have KS :Hid (∀V,Below w3.heap.size w3 V→V.cell? ⟨w2.heap.size,1,none⟩ =some (.string (k++ ⟨#[255]⟩))) :=fun V hV=> (hV.cell (p := ⟨w2.heap.size,1,none⟩) hmB).trans m2
   have y0 :=KS.out w3.drew (Below.refl _ _).drew
   have hne :w2.heap.size≠w.heap.size+2 :=by have :=z2.size;have :=lt_of_block B2;omega
   go_region_held3 (fun V=>V.cell? ⟨w2.heap.size,1,none⟩ =some (.string (k++ ⟨#[255]⟩)))
    (with_reducible first | exact y0 | exact y1 | exact (Le hne _ _ 1).trans y1)
    (first | (go_at_call 54;refine (H0 _).mono ?_;rintro e w4 ⟨rfl,hb4⟩;have q4 :Below w3.heap.size w3 w4 :=Ad (Below.refl _ _).drew hb4;have z5 :Below W.heap.size W w4 :=Ad z4 q4;obtain ⟨r0,r1,r2,r3,r4⟩ :=Am B2 z5;have y1 :=KS.out _ q4))
   go_wp2
   exact A7 _ _ Tryz.results69 rfl rfl r0 (Ad hb3 z5) (by omega) Tryz.underlying81 (by kernel_rfl)
  ·simp only [if_true]
   go_enter Tryz.func69,Tryz.ntmps69
   go_upto_region 1 with fail
   rw [HW.out]
   go_wp2_with (first
   | (go_at_call 52;go_must (go_fit (HK _ _ (Ab _ _));rintro e w1 ⟨rfl,hb1⟩;have z1 :Below W.heap.size W w1 :=Ad (Ao _ _) hb1))
   | (go_at_call_of 54 (Value.string k);go_must (go_fit (HB _);rintro e w2 ⟨rfl,hb2⟩;have z2 :Below W.heap.size W w2 :=Ad z1 hb2;have bN :=Ab w2 (.cells #[.string k, .string (k++ ⟨#[255]⟩)] 81);have z3 :Below W.heap.size W (w2.alloc (.cells #[.string k, .string (k++ ⟨#[255]⟩)] 81)) :=z2.alloc z2.size _;have D0 := (z3.block _ (lt_of_block B0)).trans B0;have D1 := (z3.block _ (lt_of_block B1)).trans B1;have c0 :=Aa D0 (j :=0) (u := .int .i64 at') rfl;have c1 :=Aa D0 (j :=1) (u := .int .i64 col) rfl;have e0 :=Aa D1 (j :=0) (u := .int .i64 pop) rfl;have e1 :=Aa D1 (j :=1) (u := .int .i64 pk) rfl;have e2 :=Aa D1 (j :=2) (u := .int .i64 pn) rfl;have e3 :=Aa D1 (j :=3) (u := .string px) rfl;have e4 :=Aa D1 (j :=4) (u := .string ps) rfl;have e5 :=Aa D1 (j :=5) (u := .string pm) rfl;have e6 :=Aa D1 (j :=6) (u := .int .i64 pi) rfl;have e7 :=Aa D1 (j :=7) (u := .slice pa pl pc) rfl))
   | (go_at_call 115;go_must (go_fit (HI _);rintro e w3 ⟨rfl,hb3'⟩;have z4 :Below W.heap.size W w3 :=Ad z3 hb3';obtain ⟨m0,m1,m2,m3,m4⟩ :=Am bN hb3';obtain ⟨r0,r1,r2,r3,r4⟩ :=Am B2 z4))
   | (go_at_call 54;go_must (go_fit (H0 _);rintro e w4 ⟨rfl,hb4⟩;have z5 :Below W.heap.size W w4 :=Ad z4 hb4;obtain ⟨r0,r1,r2,r3,r4⟩ :=Am B2 z5)))
   exact A7 _ _ Tryz.results69 rfl rfl r0 (Ad hb3 z4) (by omega) Tryz.underlying81 (by kernel_rfl)
end Go.Proofs.YthehiijgnepcfaaGreat


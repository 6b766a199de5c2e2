/-
  7 texts of this proof in one, in build order: BackMath, Good, AppendKey, Key, XPlain, XMem, StmPlain.
-/
import Derived.Test.YthehiijgnepcfaaGreatRows
import Derived.WalkKit
import Derived.WalkSpells
import Derived.WalkLawsBesides
import Derived.Lib.AppendStr
import Derived.Laws.IdiomStrings
import Derived.Test.YthehiijgnepcfaaGreatJ01
import Derived.Test.YthehiijgnepcfaaGreatJ02
set_option linter.unusedSimpArgs false
set_option linter.unusedVariables false
namespace Go.Proofs.YthehiijgnepcfaaGreat
open Go.RowKit
theorem Nt (p :List UInt8) : ∀ (l :List UInt8),(∀c∈l,c≠0) →Lib.indexByte (l++0 ::p) 0=l.length
 | [],_=>by simp [Lib.indexByte]
 | b ::l,h=>by
  have ih :=Nt p l fun c hc=>h c (by simp [hc])
  have hb : (b==0) =false :=by rw [beq_eq_false_iff_ne];exact h b (by simp)
  have h1 : (Lib.indexByte (l++0 ::p) 0== -1) =false :=by rw [ih,beq_eq_false_iff_ne];omega
  simp only [List.cons_append,Lib.indexByte,hb,h1,Bool.false_eq_true,if_false]
  rw [ih];simp
theorem Ag7 {s :ByteArray} (h :s.size=0) :s= ⟨#[]⟩ :=by
 obtain ⟨⟨l⟩⟩ :=s
 have :l= [] :=List.eq_nil_of_length_eq_zero h
 rw [this]
theorem Ahd (c :UInt8) (m :Nat) (h :m<4294967296) (p :List UInt8) :n4 (c :: (be4 m++p)) =m :=by
 simp [n4,be4]
 omega
theorem Ahe (v :V) (hg :good v=true) (p :List UInt8) :fv (keyOf v++p) = (v,(keyOf v).length) :=by
 rcases Ed hg with e | e | e
 ·have hz :v=zero :=by
   obtain ⟨k,n,s⟩ :=v
   simp [good,show k=0 from e] at hg
   simp only [zero,V.mk.injEq]
   exact ⟨e,hg.1,by rw [hg.2];rfl⟩
  rw [Cm e,hz]
  simp [fv]
 ·have hn :=Md e hg
  have hs :v.s= ⟨#[]⟩ :=by simp [good,e] at hg;rw [hg.2];rfl
  rw [Dm e,List.cons_append]
  have hl : ¬ (2 :: (be4 (v.n+1073741824).toNat++p)).length<5 :=by simp [be4]
  have h4 :n4 (2 :: (be4 (v.n+1073741824).toNat++p)) = ((v.n+1073741824).toNat :Nat) :=Ahd 2 _ (by omega) p
  unfold fv
  rw [List.getD_cons_zero,if_neg (by decide),if_pos rfl,if_neg hl,h4]
  obtain ⟨k,n,s⟩ :=v
  simp only [Prod.mk.injEq,V.mk.injEq]
  refine ⟨⟨e.symm, ?_,hs.symm⟩,by simp [be4]⟩
  simp only at hn
  omega
 ·have hb :=Qz e hg
  have h0 :v.n=0 :=by simp [good,e] at hg;exact hg.1.1
  rw [Eh e,List.cons_append]
  have hi :Lib.indexByte (3 :: (v.s.data.toList++ [0] ++p)) 0= ((3 ::v.s.data.toList).length :Nat) :=by
   have :=Nt p (3 ::v.s.data.toList) (by
    intro c hc
    simp only [List.mem_cons] at hc
    rcases hc with rfl | hc
    ·decide
    ·have :=hb c hc
     intro e0;rw [e0] at this;exact absurd this (by decide))
   rw [←this]
   simp
  unfold fv
  rw [List.getD_cons_zero,if_neg (by decide),if_neg (by decide),if_pos rfl,hi,if_neg (by omega)]
  obtain ⟨k,n,s⟩ :=v
  simp only [Prod.mk.injEq,V.mk.injEq]
  refine ⟨⟨e.symm,h0.symm, ?_⟩,by simp⟩
  have :List.take (((3 ::s.data.toList).length :Nat) :Int).toNat.pred (List.drop 1 (3 :: (s.data.toList++ [0] ++p))) =s.data.toList :=by simp
  have e2 : ((((3 ::s.data.toList).length :Nat) :Int).toNat - 1) = (((3 ::s.data.toList).length :Nat) :Int).toNat.pred :=rfl
  rw [e2,this,Zv]
theorem Ty (v :V) :keyOf v≠ [] :=by
 unfold keyOf;split
 ·simp
 ·split<;>simp
theorem Tz (L :List V) (h : ∀v∈L,good v=true) :vals (Bj L) =some L :=by
 induction L with
 | nil=>rfl
 | cons v L ih=>
  have hv :=h v (by simp)
  have e :Bj (v ::L) =keyOf v++Bj L :=by simp [Bj]
  have hf :=Ahe v hv (Bj L)
  have hne :keyOf v++Bj L≠ [] :=by simp [Ty v]
  have hz : (keyOf v).length≠0 :=by intro x;exact Ty v (List.eq_nil_of_length_eq_zero x)
  rw [e,No hne (by rw [hf];exact hz) (by rw [hf];exact hv),hf]
  simp only [List.drop_left]
  rw [ih fun x hx=>h x (by simp [hx])]
  rfl
theorem Ah8 (c :UInt8) :UInt8.ofNat c.toNat=c :=by simp
theorem Ahf (c1 c2 c3 c4 :UInt8) :be4 ((c1.toNat :Int) *16777216+ (c2.toNat :Int) *65536+ (c3.toNat :Int) *256+ (c4.toNat :Int)).toNat= [c1,c2,c3,c4] :=by
 have h1 :=c1.toNat_lt
 have h2 :=c2.toNat_lt
 have h3 :=c3.toNat_lt
 have h4 :=c4.toNat_lt
 unfold be4
 simp only [List.cons.injEq,and_true]
 refine ⟨?_, ?_, ?_, ?_⟩ <;> (apply UInt8.toNat_inj.1;simp;omega)
theorem Ajc {c :UInt8} : ∀ (l :List UInt8),¬ (c ::l).length<5→ ∃c1 c2 c3 c4 t,l=c1 ::c2 ::c3 ::c4 ::t
 | c1 ::c2 ::c3 ::c4 ::t,_=> ⟨c1,c2,c3,c4,t,rfl⟩
 | [],h=>absurd (by simp) h
 | [_],h=>absurd (by simp) h
 | [_,_],h=>absurd (by simp) h
 | [_,_,_],h=>absurd (by simp) h
theorem Ahg (l :List UInt8) (hl :l≠ []) (hz : (fv l).2≠0) (hg :good (fv l).1=true) :l=keyOf (fv l).1++l.drop (fv l).2 :=by
 match l,hl with
 | c ::l,_=>
  unfold fv at hz hg⊢
  rw [List.getD_cons_zero] at hz hg⊢
  by_cases h1 :c=1
  ·rw [if_pos h1] at hz hg⊢
   rw [Cm rfl,h1];simp
  rw [if_neg h1] at hz hg⊢
  by_cases h2 :c=2
  ·rw [if_pos h2] at hz hg⊢
   by_cases hlen : (c ::l).length<5
   ·rw [if_pos hlen] at hz;exact absurd rfl hz
   rw [if_neg hlen] at hz hg⊢
   obtain ⟨c1,c2,c3,c4,t,rfl⟩ :=Ajc l hlen
   rw [Dm rfl,h2]
   have e : (n4 (2 ::c1 ::c2 ::c3 ::c4 ::t) - 1073741824+1073741824).toNat= ((c1.toNat :Int) *16777216+ (c2.toNat :Int) *65536+ (c3.toNat :Int) *256+ (c4.toNat :Int)).toNat :=by
    rw [Int.sub_add_cancel];rfl
   simp only
   rw [e,Ahf]
   rfl
  rw [if_neg h2] at hz hg⊢
  by_cases h3 :c=3
  ·rw [if_pos h3] at hz hg⊢
   by_cases hi :Lib.indexByte (c ::l) 0<0
   ·rw [if_pos hi] at hz;exact absurd rfl hz
   rw [if_neg hi] at hz hg⊢
   obtain ⟨i,hi'⟩ : ∃i :Nat,Lib.indexByte (c ::l) 0=i := ⟨(Lib.indexByte (c ::l) 0).toNat,by omega⟩
   have hs := (Lib.indexByte_some hi').1
   rw [hi',Eh rfl]
   simp only [Bt]
   match i,hs with
   | 0,hs=>simp at hs;rw [hs] at h3;exact absurd h3 (by decide)
   | i+1,hs=>
    simp at hs
    simp only [Int.toNat_natCast,Nat.add_sub_cancel,List.drop_succ_cons,List.drop_zero]
    have hlt := (List.getElem?_eq_some_iff.1 hs).1
    rw [h3,List.cons_append,List.append_assoc]
    congr 1
    have hd :l.drop i=0 ::l.drop (i+1) :=by
     rw [List.drop_eq_getElem_cons hlt,(List.getElem?_eq_some_iff.1 hs).2]
    rw [List.cons_append,List.nil_append,←hd,List.take_append_drop]
  rw [if_neg h3] at hz
  exact absurd rfl hz
theorem Abv : ∀ (n :Nat) (l :List UInt8) (L :List V),l.length≤n→vals l=some L→ (∀v∈L,good v=true) ∧Bj L=l∧L.length≤l.length :=by
 intro n
 induction n with
 | zero=>
  intro l L hl h
  obtain rfl :=List.eq_nil_of_length_eq_zero (Nat.le_zero.1 hl)
  rw [P4] at h
  simp at h
  subst h
  exact ⟨by simp,rfl,by simp⟩
 | succ n ih=>
  intro l L hl h
  by_cases hne :l= []
  ·subst hne
   rw [P4] at h
   simp at h
   subst h
   exact ⟨by simp,rfl,by simp⟩
  by_cases hb : (fv l).2=0∨good (fv l).1=false
  ·rw [P5 hne hb] at h;simp at h
  have hz : (fv l).2≠0 :=fun e=>hb (.inl e)
  have hg :good (fv l).1=true :=by cases hh :good (fv l).1 with | true=>rfl | false=>exact absurd (.inr hh) hb
  rw [No hne hz hg] at h
  obtain ⟨L',h1,h2⟩ :=Option.map_eq_some_iff.1 h
  have hpos :0<l.length :=List.length_pos_iff.2 hne
  have hdl : (l.drop (fv l).2).length≤n :=by rw [List.length_drop];omega
  obtain ⟨a,b,c⟩ :=ih _ L' hdl h1
  have hk :=Ahg l hne hz hg
  subst h2
  refine ⟨?_, ?_, ?_⟩
  ·intro v hv
   simp only [List.mem_cons] at hv
   rcases hv with rfl | hv
   ·exact hg
   ·exact a v hv
  ·have e :Bj ((fv l).1 ::L') =keyOf (fv l).1++Bj L' :=by simp [Bj]
   rw [e,b];exact hk.symm
  ·simp only [List.length_cons]
   rw [List.length_drop] at c
   omega
end Go.Proofs.YthehiijgnepcfaaGreat

namespace Go.Proofs.YthehiijgnepcfaaGreat
open Go.RowKit
set_option maxHeartbeats 400000 in
theorem Vv (c :Int) (w :World) :Calls Tryz.prog 142 #[.int .u8 c] w fun e w'=>e= .returned (.bool (Jh c)) ∧w'=w :=by
 by_cases h1 :32≤c<;>by_cases h2 :c≤126<;>by_cases h3 :c=39
 all_goals
  go_enter Tryz.func142,Tryz.ntmps142
  go_wp2
  all_goals
   go_ret
   exact ⟨Ag (by simp_all [Jh]),rfl⟩
set_option maxHeartbeats 400000 in
theorem Uz (s :ByteArray) (w :World) (h :8<s.size) (hs :s.size≤maxLen) :
  Calls Tryz.prog 105 #[.string s] w fun e w'=>e= .returned (.bool false) ∧w'=w :=by
 unfold maxLen at hs
 go_enter Tryz.func105,Tryz.ntmps105
 go_wp2
 go_ret
 exact ⟨rfl,rfl⟩
set_option maxHeartbeats 400000 in
theorem Sl (s :ByteArray) (w :World) (h :s.size≤8) :
  Calls Tryz.prog 105 #[.string s] w fun e w'=>e= .returned (.bool (F3 s.data.toList)) ∧w'=w :=by
 go_enter Tryz.func105,Tryz.ntmps105
 go_wp2
 go_loop [9] (fun i=> ∃k :Nat,k≤s.size∧i= .int .i64 k∧F3 (s.data.toList.take k) =true) (fun i=>s.size - (intOf i).toNat)
 case atStart=>exact ⟨0,Nat.zero_le _,rfl,rfl⟩
 case round=>
  obtain ⟨k,hk,rfl,hg0⟩ :=hrel
  have hg :Hid (F3 (s.data.toList.take k) =true) :=hg0
  clear hg0
  by_cases hlt :k<s.size
  ·have hsn :Hid (F3 (s.data.toList.take (k+1)) = (F3 (s.data.toList.take k) &&Jh (s[k].toNat :Int))) :=by rw [To s k hlt,Zu];rfl
   have hbad :Hid (Jh (s[k].toNat :Int) =false→F3 s.data.toList=false) :=Abk s k hlt
   cases hb :Jh (s[k].toNat :Int)
   all_goals
    go_wp2_with (go_at_call 142;refine (Vv _ _).mono ?_;rintro e w' ⟨rfl,rfl⟩)
   ·go_ret
    exact ⟨Ag (hbad.out hb).symm,rfl⟩
   ·go_round
    case rel=>exact ⟨k+1,by omega,by go_num,by rw [hsn.out,hg.out,hb];rfl⟩
    case measure=>simp [intOf];omega
  ·go_wp2
   go_ret
   exact ⟨Ag (by have :=hg.out;rw [Adw s k (by omega)] at this;exact this.symm),rfl⟩
theorem Gr (s :ByteArray) :s.toList.isEmpty=decide (s.size=0) :=by
 rw [ByteArray.toList_eq,show s.size=s.data.toList.length from by simp];cases s.data.toList<;>simp
set_option maxHeartbeats 1000000 in
theorem Hw (v :V) (w :World) (hs :v.s.size≤maxLen) :
  Calls Tryz.prog 57 #[v.val] w fun e w'=>e= .returned (.bool (good v)) ∧w'=w.alloc (.cells #[.int .i64 v.k, .int .i64 v.n, .string v.s] 32) :=by
 obtain ⟨k,n,s⟩ :=v
 show Calls Tryz.prog 57 #[.agg #[.int .i64 k, .int .i64 n, .string s]] w _
 by_cases h0 :k=0
 ·subst h0
  by_cases hn :n=0
  all_goals
   go_enter Tryz.func57,Tryz.ntmps57
   go_wp2
   go_ret
   exact ⟨Ag (by simp [good,hn,Gr]),rfl⟩
 by_cases h1 :k=1
 ·subst h1
  rcases (show n< -1000000∨1000000<n∨ (-1000000≤n∧n≤1000000) from by omega) with hn | hn | ⟨hn,hm⟩
  ·have e :decide (-1000000≤n) =false :=by simp;omega
   go_enter Tryz.func57,Tryz.ntmps57
   go_wp2
   go_ret
   exact ⟨Ag (by simp [good,e]),rfl⟩
  ·have e :decide (n≤1000000) =false :=by simp;omega
   go_enter Tryz.func57,Tryz.ntmps57
   go_wp2
   go_ret
   exact ⟨Ag (by simp [good,e]),rfl⟩
  ·go_enter Tryz.func57,Tryz.ntmps57
   go_wp2
   go_ret
   exact ⟨Ag (by simp [good,hn,hm,Gr]),rfl⟩
 by_cases h2 :k=2
 ·subst h2
  by_cases hn :n=0
  ·subst hn
   by_cases h8 :s.size≤8
   ·go_enter Tryz.func57,Tryz.ntmps57
    go_wp2_with (go_at_call 105;refine (Sl _ _ h8).mono ?_;rintro e w' ⟨rfl,rfl⟩)
    go_ret
    exact ⟨Ag (by simp [good,h8]),rfl⟩
   ·have h9 :8<s.size :=by omega
    have e :decide (s.size≤8) =false :=by simp;omega
    have E :Hid (decide (s.size≤8) =false) :=e
    clear e h8
    go_enter Tryz.func57,Tryz.ntmps57
    go_wp2_with (go_at_call 105;refine (Uz s _ h9 hs).mono ?_;rintro e w' ⟨rfl,rfl⟩)
    go_ret
    exact ⟨Ag (by have :=E.out;simp [good,this]),rfl⟩
  ·go_enter Tryz.func57,Tryz.ntmps57
   go_wp2
   go_ret
   exact ⟨Ag (by simp [good,hn]),rfl⟩
 go_enter Tryz.func57,Tryz.ntmps57
 go_wp2
 go_ret
 exact ⟨Ag (by simp [good,h0,h1,h2]),rfl⟩
end Go.Proofs.YthehiijgnepcfaaGreat

namespace Go.Proofs.YthehiijgnepcfaaGreat
open Go.RowKit
theorem Sm : (Tryz.prog.info? 5).map (fun i=> (i.zero,i.size,i.bytes)) =some (some (.int .u8 0),1,1) :=by kernel_rfl
set_option maxHeartbeats 400000 in
theorem O5 (n :Int) (s :ByteArray) (kv :Value) (bs :List UInt8) (base :Nat) (w :World) (hown :w.ownsRow base 5 1 kv bs.length (Bv bs))
  (hb :base≤w.heap.size) (hsz :bs.length+10≤140737488355328) :
  Calls Tryz.prog 141 #[kv, .agg #[.int .i64 0, .int .i64 n, .string s]] w fun e w'=> ∃kv',e= .returned kv'∧w'.ownsRow base 5 1 kv' (bs.length+1) (Bv (bs++ [1])) ∧Below base w w' :=by
 obtain ⟨i0,hi,hz0,hz1,hz2⟩ :=info_parts Sm
 have H1 : ((w.alloc (Obj.cells #[Value.int IntKind.i64 0,Value.int IntKind.i64 n,Value.string s] 32)).alloc (Obj.cells #[Value.int IntKind.u8 1] 5)).ownsRow base 5 1 kv bs.length (Bv bs) := (hown.alloc _).alloc _
 have B1 :=Ac (Ab w (Obj.cells #[Value.int IntKind.i64 0,Value.int IntKind.i64 n,Value.string s] 32)) (Obj.cells #[Value.int IntKind.u8 1] 5)
 have N1 :=Cl (w.alloc (Obj.cells #[Value.int IntKind.i64 0,Value.int IntKind.i64 n,Value.string s] 32)) [Value.int IntKind.u8 1] 5
 go_enter Tryz.func141,Tryz.ntmps141
 go_wp2_with (at_builtin;go_must (refine wpList_append_own _ rfl (.tmp 6) (.tmp 11) 188 rfl base 5 i0 (.int .u8 0) 1 1 Tryz.underlying188 hi hz0 hz1 hz2 rfl (by decide) kv _ _ rfl H1 ⟨w.heap.size+1,0,none⟩ 1 1 [.int .u8 1] rfl rfl ?_ ?_ ?_ ?_ ?_ ?_))
 ·simpa using N1
 ·intro u hu;simp at hu;subst hu;rfl
 ·unfold maxLen;omega
 ·omega
 ·simp;omega
 ·intro kv1 w1 hown1 hg1 _
  have B2 :=D6 hg1 B1 (Qw H1 B1 (by decide))
  have C0 :=Aa B2 (j :=0) rfl
  have C1 :=Aa B2 (j :=1) rfl
  have C2 :=Aa B2 (j :=2) rfl
  have Bl :Below base w w1 := (((Below.refl _ _).alloc hb _).alloc (by simp;omega) _).trans (Dl H1 (by simp;omega) hg1)
  have O1 :w1.ownsRow base 5 1 kv1 (bs.length+1) (Bv (bs++ [1])) :=by rw [E3];exact hown1
  clear B2 hg1 H1 B1 N1 hown1 hown
  go_wp2
  go_ret
  exact ⟨_,rfl,O1,Bl⟩
set_option maxHeartbeats 400000 in
theorem P6 (n :Int) (s :ByteArray) (kv :Value) (bs :List UInt8) (base :Nat) (w :World) (hown :w.ownsRow base 5 1 kv bs.length (Bv bs))
  (hb :base≤w.heap.size) (hsz :bs.length+10≤140737488355328) (hn : -1000000≤n) (hm :n≤1000000) :
  Calls Tryz.prog 141 #[kv, .agg #[.int .i64 1, .int .i64 n, .string s]] w fun e w'=> ∃kv',e= .returned kv'∧w'.ownsRow base 5 1 kv' (bs.length+5) (Bv (bs++2 ::be4 (n+1073741824).toNat)) ∧Below base w w' :=by
 obtain ⟨i0,hi,hz0,hz1,hz2⟩ :=info_parts Sm
 have H1 : ((w.alloc (Obj.cells #[Value.int IntKind.i64 1,Value.int IntKind.i64 n,Value.string s] 32)).alloc (Obj.cells #[Value.int IntKind.u8 2] 5)).ownsRow base 5 1 kv bs.length (Bv bs) := (hown.alloc _).alloc _
 have B1 :=Ac (Ab w (Obj.cells #[Value.int IntKind.i64 1,Value.int IntKind.i64 n,Value.string s] 32)) (Obj.cells #[Value.int IntKind.u8 2] 5)
 have N1 :=Cl (w.alloc (Obj.cells #[Value.int IntKind.i64 1,Value.int IntKind.i64 n,Value.string s] 32)) [Value.int IntKind.u8 2] 5
 go_enter Tryz.func141,Tryz.ntmps141
 go_wp2_with (at_builtin;go_must (refine wpList_append_own _ rfl (.tmp 6) (.tmp 11) 188 rfl base 5 i0 (.int .u8 0) 1 1 Tryz.underlying188 hi hz0 hz1 hz2 rfl (by decide) kv _ _ rfl H1 ⟨w.heap.size+1,0,none⟩ 1 1 [.int .u8 2] rfl rfl ?_ ?_ ?_ ?_ ?_ ?_))
 ·simpa using N1
 ·intro u hu;simp at hu;subst hu;rfl
 ·unfold maxLen;omega
 ·omega
 ·simp;omega
 ·intro kv1 w1 hown1 hg1 _
  have B2 :=D6 hg1 B1 (Qw H1 B1 (by decide))
  have C0 :=Aa B2 (j :=0) rfl
  have C1 :=Aa B2 (j :=1) rfl
  have C2 :=Aa B2 (j :=2) rfl
  have Bl :Below base w w1 := (((Below.refl _ _).alloc hb _).alloc (by simp;omega) _).trans (Dl H1 (by simp;omega) hg1)
  have O1 :w1.ownsRow base 5 1 kv1 (bs.length+1) (Bv (bs++ [2])) :=by rw [E3];exact hown1
  have S1 :=hg1.size
  simp at S1
  clear B2 hg1 H1 B1 N1 hown1 hown
  have M0 :0≤n+1073741824 :=by omega
  have M1 :n+1073741824<4294967296 :=by omega
  have E :=Ajb (n+1073741824) M0 M1
  have O2 :=O1.alloc (Obj.cells #[Value.int IntKind.u8 ((n+1073741824) /16777216),Value.int IntKind.u8 ((n+1073741824) /65536 %256),Value.int IntKind.u8 ((n+1073741824) /256 %256),Value.int IntKind.u8 ((n+1073741824) %256)] 5)
  have N2 :=Cl w1 [Value.int IntKind.u8 ((n+1073741824) /16777216),Value.int IntKind.u8 ((n+1073741824) /65536 %256),Value.int IntKind.u8 ((n+1073741824) /256 %256),Value.int IntKind.u8 ((n+1073741824) %256)] 5
  have EH :Hid (Bv (be4 (n+1073741824).toNat) = [.int .u8 ((n+1073741824) /16777216), .int .u8 ((n+1073741824) /65536 %256), .int .u8 ((n+1073741824) /256 %256), .int .u8 ((n+1073741824) %256)]) :=E
  clear E
  go_wp2_with (at_builtin;go_must (refine wpList_append_own _ rfl (.tmp 21) (.tmp 33) 188 rfl base 5 i0 (.int .u8 0) 1 1 Tryz.underlying188 hi hz0 hz1 hz2 rfl (by decide) kv1 _ _ rfl O2 ⟨w1.heap.size,0,none⟩ 4 4 _ rfl rfl N2 ?_ ?_ ?_ ?_ ?_))
  ·intro u hu;simp at hu;rcases hu with rfl | rfl | rfl | rfl<;>rfl
  ·unfold maxLen;omega
  ·omega
  ·simp;omega
  ·intro kv2 w2 hown2 hg2 _
   have Bl2 :Below base w w2 := (Bl.alloc (by omega) _).trans (Dl O2 (by simp;omega) hg2)
   have O3 :w2.ownsRow base 5 1 kv2 (bs.length+5) (Bv (bs++2 ::be4 (n+1073741824).toNat)) :=by
    rw [show bs++2 ::be4 (n+1073741824).toNat= (bs++ [2]) ++be4 (n+1073741824).toNat from by simp,E3,EH.out];exact hown2
   clear O2 N2 hown2 hg2 O1 Bl EH
   go_wp2
   go_ret
   exact ⟨_,rfl,O3,Bl2⟩
set_option maxHeartbeats 1000000 in
theorem Sn (n :Int) (s :ByteArray) (kv :Value) (bs :List UInt8) (base :Nat) (w :World) (hown :w.ownsRow base 5 1 kv bs.length (Bv bs))
  (hb :base≤w.heap.size) (hsz :bs.length+10≤140737488355328) (h8 :s.size≤8) :
  Calls Tryz.prog 141 #[kv, .agg #[.int .i64 2, .int .i64 n, .string s]] w fun e w'=> ∃kv',e= .returned kv'∧w'.ownsRow base 5 1 kv' (bs.length+ (s.size+2)) (Bv (bs++3 :: (s.data.toList++ [0]))) ∧Below base w w' :=by
 obtain ⟨i0,hi,hz0,hz1,hz2⟩ :=info_parts Sm
 have H1 : ((w.alloc (Obj.cells #[Value.int IntKind.i64 2,Value.int IntKind.i64 n,Value.string s] 32)).alloc (Obj.cells #[Value.int IntKind.u8 3] 5)).ownsRow base 5 1 kv bs.length (Bv bs) := (hown.alloc _).alloc _
 have B1 :=Ac (Ab w (Obj.cells #[Value.int IntKind.i64 2,Value.int IntKind.i64 n,Value.string s] 32)) (Obj.cells #[Value.int IntKind.u8 3] 5)
 have N1 :=Cl (w.alloc (Obj.cells #[Value.int IntKind.i64 2,Value.int IntKind.i64 n,Value.string s] 32)) [Value.int IntKind.u8 3] 5
 go_enter Tryz.func141,Tryz.ntmps141
 go_wp2_with (at_builtin;go_must (refine wpList_append_own _ rfl (.tmp 6) (.tmp 11) 188 rfl base 5 i0 (.int .u8 0) 1 1 Tryz.underlying188 hi hz0 hz1 hz2 rfl (by decide) kv _ _ rfl H1 ⟨w.heap.size+1,0,none⟩ 1 1 [.int .u8 3] rfl rfl ?_ ?_ ?_ ?_ ?_ ?_))
 ·simpa using N1
 ·intro u hu;simp at hu;subst hu;rfl
 ·unfold maxLen;omega
 ·omega
 ·simp;omega
 ·intro kv1 w1 hown1 hg1 _
  have B2 :=D6 hg1 B1 (Qw H1 B1 (by decide))
  have C0 :=Aa B2 (j :=0) rfl
  have C1 :=Aa B2 (j :=1) rfl
  have C2 :=Aa B2 (j :=2) rfl
  have Bl :Below base w w1 := (((Below.refl _ _).alloc hb _).alloc (by simp;omega) _).trans (Dl H1 (by simp;omega) hg1)
  have O1 :w1.ownsRow base 5 1 kv1 (bs.length+1) (Bv (bs++ [3])) :=by rw [E3];exact hown1
  have S1 :=hg1.size
  simp at S1
  clear B2 hg1 H1 B1 N1 hown1 hown
  go_wp2_with (at_builtin;go_must (refine Lib.wpList_append_own_string _ rfl (.tmp 37) (.tmp 39) 188 9 rfl base 5 i0 Tryz.underlying188 Tryz.underlying9 hi hz0 hz1 hz2 kv1 _ _ rfl O1 s rfl ?_ ?_ ?_ ?_))
  ·unfold maxLen;omega
  ·omega
  ·omega
  ·intro kv2 w2 hown2 hg2 _
   have Bl2 :Below base w w2 :=Bl.trans (Dl O1 (by omega) hg2)
   have S2 :=hg2.size
   have O2 :=hown2.alloc (Obj.cells #[Value.int IntKind.u8 0] 5)
   have N2 :=Cl w2 [Value.int IntKind.u8 0] 5
   clear hg2 hown2 O1 Bl
   go_wp2_with (at_builtin;go_must (refine wpList_append_own _ rfl (.tmp 41) (.tmp 42) 188 rfl base 5 i0 (.int .u8 0) 1 1 Tryz.underlying188 hi hz0 hz1 hz2 rfl (by decide) kv2 _ _ rfl O2 ⟨w2.heap.size,0,none⟩ 1 1 [.int .u8 0] rfl rfl N2 ?_ ?_ ?_ ?_ ?_))
   ·intro u hu;simp at hu;subst hu;rfl
   ·unfold maxLen;omega
   ·omega
   ·simp;omega
   ·intro kv3 w3 hown3 hg3 _
    have Bl3 :Below base w w3 := (Bl2.alloc (by omega) _).trans (Dl O2 (by simp;omega) hg3)
    have O3 :w3.ownsRow base 5 1 kv3 (bs.length+ (s.size+2)) (Bv (bs++3 :: (s.data.toList++ [0]))) :=by
     rw [show bs++3 :: (s.data.toList++ [0]) = ((bs++ [3]) ++s.data.toList) ++ [0] from by simp,E3,E3 (bs++ [3]),show bs.length+ (s.size+2) =bs.length+1+s.size+1 from by omega,List.append_assoc];exact hown3
    clear O2 N2 hown3 hg3 Bl2
    go_wp2
    go_ret
    exact ⟨_,rfl,O3,Bl3⟩
theorem U0 (v :V) (hg :good v=true) (kv :Value) (bs :List UInt8) (base :Nat) (w :World) (hown :w.ownsRow base 5 1 kv bs.length (Bv bs))
  (hb :base≤w.heap.size) (hsz :bs.length+10≤140737488355328) :
  Calls Tryz.prog 141 #[kv,v.val] w fun e w'=> ∃kv',e= .returned kv'∧w'.ownsRow base 5 1 kv' (bs++keyOf v).length (Bv (bs++keyOf v)) ∧Below base w w' :=by
 obtain ⟨k,n,s⟩ :=v
 unfold good at hg
 simp only at hg
 by_cases h0 :k=0
 ·subst h0
  have e : (bs++keyOf ⟨0,n,s⟩).length=bs.length+1 :=by rw [Cm rfl];simp
  rw [e,Cm rfl]
  exact O5 n s kv bs base w hown hb hsz
 by_cases h1 :k=1
 ·subst h1
  simp at hg
  have e : (bs++keyOf ⟨1,n,s⟩).length=bs.length+5 :=by rw [Dm rfl];simp [be4]
  rw [e,Dm rfl]
  exact P6 n s kv bs base w hown hb hsz (by omega) (by omega)
 by_cases h2 :k=2
 ·subst h2
  simp at hg
  have :=Sn n s kv bs base w hown hb hsz (by omega)
  have e : (bs++keyOf ⟨2,n,s⟩).length=bs.length+ (s.size+2) :=by rw [Eh rfl,List.length_append,List.length_cons,List.length_append,Cn];rfl
  rw [e,Eh rfl]
  exact this
 ·simp [h0,h1,h2] at hg
end Go.Proofs.YthehiijgnepcfaaGreat

namespace Go.Proofs.YthehiijgnepcfaaGreat
open Go.RowKit
theorem Pi {w :World} {base n :Nat} {kv :Value} {bs :List UInt8} (hown :w.ownsRow base 5 1 kv n (Bv bs)) (hn :n=bs.length) :
  (convert 188 9 kv).run Tryz.prog w= .ok (.string (str bs)) w :=by
 subst hn
 rcases hown.2 with ⟨rfl,h0⟩ | ⟨g,c,cur,rfl,_,_,_⟩
 ·obtain rfl :bs= [] :=by simpa using h0
  exact run_convert_bytes_nil w 188 5 Tryz.underlying188 Tryz.underlying5 0 0 9 Tryz.underlying9
 ·refine run_convert_bytes_back w 188 9 5 ⟨g,0,none⟩ c bs Tryz.underlying188 Tryz.underlying5 Tryz.underlying9 fun j hj=> ?_
  exact hown.cells (g :=g) rfl j _ (by simp [Bv,hj])
def Ax (L :List V) :List UInt8×Int :=if L.all good then (Bj L,0) else ([],1)
theorem Hi {L :List V} (h : ∀v∈L,good v=true) :Ax L= (Bj L,0) :=by
 have :L.all good=true :=by simpa using h
 simp [Ax,this]
theorem Z8 {L :List V} {v :V} (hv :v∈L) (h :good v=false) :Ax L= ([],1) :=by
 have :L.all good=false :=by rw [List.all_eq_false];exact ⟨v,hv,by simp [h]⟩
 simp [Ax,this]
theorem Vw {L :List V} {k :Nat} {v :V} (h :L[k]? =some v) :L.take (k+1) =L.take k++ [v] :=by
 rw [List.take_add_one,h];rfl
set_option maxHeartbeats 1000000 in
theorem Ad2 (L :List V) (b off cap :Nat) (w :World) (hL :Fl w b off L) (hb :b<w.heap.size) (hlen :L.length*32≤140737488351232) (hss : ∀v∈L,v.s.size≤maxLen) :
  Calls Tryz.prog 101 #[.slice (some ⟨b,off,none⟩) L.length cap] w fun e w'=>e= .returned (.tuple #[.string (str (Ax L).1), .int .i64 (Ax L).2]) ∧Below w.heap.size w w' :=by
 go_enter Tryz.func101,Tryz.ntmps101
 go_wp2
 go_loopw [4,9] (fun kv i wr=> ∃k :Nat,k≤L.length∧i= .int .i64 k∧ (∀v∈L.take k,good v=true) ∧wr.ownsRow w.heap.size 5 1 kv (Bj (L.take k)).length (Bv (Bj (L.take k))) ∧Below w.heap.size w wr) (fun _ i _=>L.length - (intOf i).toNat)
 case atStart=>exact ⟨0,Nat.zero_le _,rfl,by simp,World.ownsRow_nil _ _ _ _,Below.refl _ _⟩
 case round=>
  obtain ⟨k,hk,rfl,hgk,hown,hbel⟩ :=hrel
  by_cases hlt :k<L.length
  ·obtain ⟨v,hv⟩ : ∃v,L[k]? =some v := ⟨_,List.getElem?_eq_getElem hlt⟩
   obtain ⟨c0,c1,c2⟩ :=hL.below hbel hb k v hv
   have hs :v.s.size≤maxLen :=hss v (List.mem_of_getElem? hv)
   have hsz :=hbel.size
   have hkl :=Y0 (L.take k) hgk
   have htl : (L.take k).length≤k :=List.length_take_le _ _
   have HG :Hid (∀v∈L.take k,good v=true) :=hgk
   have HV :Hid (L[k]? =some v) :=hv
   clear hgk hv
   cases hg :good v
   ·go_wp2_with (go_at_call 57;go_must (refine (Hw v _ hs).mono ?_;rintro e w' ⟨rfl,rfl⟩))
    go_ret2
    refine ⟨?_,(hbel.alloc hsz _).alloc (by simp;omega) _⟩
    rw [Z8 (List.mem_of_getElem? HV.out) hg]
    rfl
   ·go_wp2_with (first | (go_at_call 57;go_must (refine (Hw v _ hs).mono ?_;rintro e w' ⟨rfl,rfl⟩)) | (go_at_call 141;go_must (refine (U0 v hg _ _ _ _ ((hown.alloc _).alloc _) ?_ ?_).mono ?_)))
    ·simp;omega
    ·omega
    ·rintro e w1 ⟨kv',rfl,hown1,hbel1⟩
     have hb2 :Below w.heap.size w w1 := ((hbel.alloc hsz _).alloc (by simp;omega) _).trans hbel1
     have ht :=Vw HV.out
     have ho2 :w1.ownsRow w.heap.size 5 1 kv' (Bj (L.take (k+1))).length (Bv (Bj (L.take (k+1)))) :=by rw [ht,Abl];exact hown1
     have hg2 :Hid (∀v∈L.take (k+1),good v=true) :=by
      rw [ht];intro x hx;simp at hx;rcases hx with hx | rfl
      ·exact HG.out x hx
      ·exact hg
     clear hown1 hbel1 hown hbel ht
     go_wp2
     go_roundw
     case rel=>exact ⟨k+1,by omega,by go_num,hg2.out,ho2,hb2⟩
     case measure=>simp [intOf];omega
  ·have e :L.take k=L :=List.take_of_length_le (by omega)
   rw [e] at hown hgk
   have hc :=Pi hown rfl
   have HA :Hid (Ax L= (Bj L,0)) :=Hi hgk
   clear hgk e
   go_wp2
   go_ret2
   exact ⟨by rw [HA.out];rfl,hbel⟩
set_option maxHeartbeats 400000 in
theorem Ad3 (ao :Option Addr) (cap :Nat) (w :World) :
  Calls Tryz.prog 101 #[.slice ao 0 cap] w fun e w'=>e= .returned (.tuple #[.string (str (Ax []).1), .int .i64 (Ax []).2]) ∧Below w.heap.size w w' :=by
 go_enter Tryz.func101,Tryz.ntmps101
 go_wp2
 refine wp_loop_rounds 1 ?_
 rw [rounds_succ]
 have hc :=Pi (World.ownsRow_nil w w.heap.size 5 1) (bs := []) rfl
 go_wp2
 go_ret2
 exact ⟨rfl,Below.refl _ _⟩
end Go.Proofs.YthehiijgnepcfaaGreat

namespace Go.Proofs.YthehiijgnepcfaaGreat
abbrev Wd :=ByteArray
inductive E where
 | mk (op :Int) (v :V) (s name :Wd) (n :Int) (l :List E) :E
abbrev noW :Wd := ⟨#[]⟩
def E.nil :E := .mk 0 zero noW noW 0 []
def Ajd (v :V) :E := .mk 1 v noW noW 0 []
def Aje (s name :Wd) :E := .mk 2 zero s name 0 []
def Akc (op :Int) (l :List E) :E := .mk op zero noW noW 0 l
end Go.Proofs.YthehiijgnepcfaaGreat

namespace Go.Proofs.YthehiijgnepcfaaGreat
open Go.RowKit
structure Keeps (F :Nat→Prop) (w w' :World) :Prop where
 size :w.heap.size≤w'.heap.size
 block : ∀k,F k→k<w.heap.size→w'.heap[k]? =w.heap[k]?
theorem Keeps.refl (F :Nat→Prop) (w :World) :Keeps F w w := ⟨Nat.le_refl _,fun _ _ _=>rfl⟩
theorem Keeps.trans {F :Nat→Prop} {u v w :World} (h :Keeps F u v) (k :Keeps F v w) :Keeps F u w :=
 ⟨Nat.le_trans h.size k.size,fun i h1 h2=> (k.block i h1 (Nat.lt_of_lt_of_le h2 h.size)).trans (h.block i h1 h2)⟩
theorem Bd {F :Nat→Prop} {w w' :World} (h :Below w.heap.size w w') :Keeps F w w' := ⟨h.size,fun k _ hk=>h.block k hk⟩
theorem Keeps.set {F :Nat→Prop} {w w' :World} (h :Keeps F w w') {b :Nat} (hb : ¬F b) (o :Nat) (u :Value) :Keeps F w (w'.setCell ⟨b,o,none⟩ u) :=
 ⟨by simp [World.setCell];exact h.size,fun k hk hl=> (Below.heap_setCell w' ⟨b,o,none⟩ u k (show k≠b by rintro rfl;exact hb hk)).trans (h.block k hk hl)⟩
theorem Keeps.alloc {F :Nat→Prop} {w w' :World} (h :Keeps F w w') (o :Obj) :Keeps F w (w'.alloc o) :=h.trans (Bd ((Below.refl _ _).alloc (Nat.le_refl _) o))
theorem Keeps.drew {F :Nat→Prop} {w w' :World} (h :Keeps F w w') :Keeps F w w'.drew := ⟨h.size,h.block⟩
theorem Keeps.below {F :Nat→Prop} {w v v' :World} (h :Keeps F w v) (hb :Below v.heap.size v v') :Keeps F w v' :=h.trans (Bd hb)
theorem Keeps.mono {F F' :Nat→Prop} {w w' :World} (h :Keeps F w w') (hF : ∀k,F' k→F k) :Keeps F' w w' := ⟨h.size,fun k hk=>h.block k (hF k hk)⟩
abbrev Fr (n :Nat) :Nat→Prop :=fun k=>n≤k
def Fm (F :Nat→Prop) (size :Nat) (w :World) (sv :Value) (n :Nat) (cs :List Value) :Prop :=
 cs.length=n*size∧
 ((n=0∧ ∃ao cap,sv= .slice ao 0 cap∧ (ao=none→cap=0)) ∨
 (0<n∧ ∃b off cap,sv= .slice (some ⟨b,off,none⟩) n cap∧F b∧b<w.heap.size∧n≤cap∧cap≤maxLen∧ ∀j u,cs[j]? =some u→w.cell? ⟨b,off+j,none⟩ =some u))
theorem Fm.keep {F :Nat→Prop} {size :Nat} {w w' :World} {sv :Value} {n :Nat} {cs :List Value} (h :Fm F size w sv n cs) (hk :Keeps F w w') :Fm F size w' sv n cs :=by
 obtain ⟨h1,h2⟩ :=h
 refine ⟨h1, ?_⟩
 rcases h2 with h2 | ⟨h0,b,off,cap,rfl,hB,hlt,hc,hm,hcell⟩
 ·exact .inl h2
 ·refine .inr ⟨h0,b,off,cap,rfl,hB,Nat.lt_of_lt_of_le hlt hk.size,hc,hm,fun j u hj=> ?_⟩
  rw [World.cell?_of_block (w :=w) (hk.block b hB hlt)]
  exact hcell j u hj
theorem Fm.mono {F F' :Nat→Prop} {size :Nat} {w :World} {sv :Value} {n :Nat} {cs :List Value} (h :Fm F size w sv n cs) (hB : ∀k,k<w.heap.size→F k→F' k) :Fm F' size w sv n cs :=by
 obtain ⟨h1,h2⟩ :=h
 refine ⟨h1, ?_⟩
 rcases h2 with h2 | ⟨h0,b,off,cap,h3,h4,h5⟩
 ·exact .inl h2
 ·exact .inr ⟨h0,b,off,cap,h3,hB _ h5.1 h4,h5⟩
theorem Fm.row {F :Nat→Prop} {size :Nat} {w :World} {sv :Value} {n :Nat} {cs :List Value} (h :Fm F size w sv n cs) :Dz size w sv n cs :=by
 obtain ⟨h1,h2⟩ :=h
 refine ⟨h1, ?_⟩
 rcases h2 with h2 | ⟨h0,b,off,cap,h3,_,h5⟩
 ·exact .inl h2
 ·exact .inr ⟨h0,b,off,cap,h3,h5⟩
theorem Fm.shape {F :Nat→Prop} {size :Nat} {w :World} {sv :Value} {n :Nat} {cs :List Value} (h :Fm F size w sv n cs) : ∃ao cap,sv= .slice ao n cap :=h.row.shape
theorem Fm.nil (F :Nat→Prop) (size :Nat) (w :World) :Fm F size w (.slice none 0 0) 0 [] := ⟨by simp, .inl ⟨rfl,none,0,rfl,fun _=>rfl⟩⟩
theorem Fm.of_own {F :Nat→Prop} {size :Nat} {w :World} {base :Nat} {e :TypeId} {v :Value} {n :Nat} {cs :List Value} (h :w.ownsRow base e size v n cs) (hB : ∀k,base≤k→F k) :Fm F size w v n cs :=by
 refine ⟨h.1, ?_⟩
 rcases h.2 with ⟨rfl,rfl⟩ | ⟨g,cap,cur,rfl,hg,hh,hn,hm,_⟩
 ·exact .inl ⟨rfl,none,0,rfl,fun _=>rfl⟩
 ·rcases Nat.eq_zero_or_pos n with rfl | h0
  ·exact .inl ⟨rfl,_,cap,rfl,fun h=>by cases h⟩
  ·refine .inr ⟨h0,g,0,cap,rfl,hB g hg,lt_of_block hh,hn,hm,fun j u hj=> ?_⟩
   have :=h.cells (g :=g) rfl j u hj
   rwa [Addr.add_lit] at this
theorem Fm.new {F :Nat→Prop} {size n :Nat} {w :World} (l :List Value) (t :TypeId) (hl :l.length=n*size) (hB :F w.heap.size) (hn :0<n) (hm :n≤maxLen) :Fm F size (w.alloc (.cells l.toArray t)) (.slice (some ⟨w.heap.size,0,none⟩) n n) n l :=
 ⟨hl, .inr ⟨hn,w.heap.size,0,n,rfl,hB,by simp,Nat.le_refl _,hm,fun j u hj=>by
  have :=Cl w l t j u hj
  rwa [Addr.add_lit] at this⟩⟩
abbrev Ae (op :Int) (x :V) (s name :Wd) (n :Int) (sv :Value) :Array Value := #[.int .i64 op, .int .i64 x.k, .int .i64 x.n, .string x.s, .string s, .string name, .int .i64 n,sv]
mutual
def IsE (F :Nat→Prop) (w :World) :E→Value→Prop
 | .mk op x s name n l,v=> ∃sv cs,v= .agg (Ae op x s name n sv) ∧Fm F 8 w sv l.length cs∧Cp F w l cs
def Cp (F :Nat→Prop) (w :World) :List E→List Value→Prop
 | [],cs=>cs= []
 | e ::l,cs=> ∃c rest,cs=c++rest∧c.length=8∧IsE F w e (.agg c.toArray) ∧Cp F w l rest
end
mutual
theorem IsE.keep {F :Nat→Prop} {w w' :World} (hk :Keeps F w w') : ∀ (e :E) (v :Value),IsE F w e v→IsE F w' e v
 | .mk op x s name n l,v,h=>by
  rw [IsE] at h⊢
  obtain ⟨sv,cs,h1,h2,h3⟩ :=h
  exact ⟨sv,cs,h1,h2.keep hk,Cp.keep hk l cs h3⟩
theorem Cp.keep {F :Nat→Prop} {w w' :World} (hk :Keeps F w w') : ∀ (l :List E) (cs :List Value),Cp F w l cs→Cp F w' l cs
 | [],cs,h=>by rw [Cp] at h⊢;exact h
 | e ::l,cs,h=>by
  rw [Cp] at h⊢
  obtain ⟨c,rest,h1,h2,h3,h4⟩ :=h
  exact ⟨c,rest,h1,h2,IsE.keep hk e _ h3,Cp.keep hk l rest h4⟩
end
mutual
theorem IsE.mono {F F' :Nat→Prop} {w :World} (hk : ∀k,k<w.heap.size→F k→F' k) : ∀ (e :E) (v :Value),IsE F w e v→IsE F' w e v
 | .mk op x s name n l,v,h=>by
  rw [IsE] at h⊢
  obtain ⟨sv,cs,h1,h2,h3⟩ :=h
  exact ⟨sv,cs,h1,h2.mono hk,Cp.mono hk l cs h3⟩
theorem Cp.mono {F F' :Nat→Prop} {w :World} (hk : ∀k,k<w.heap.size→F k→F' k) : ∀ (l :List E) (cs :List Value),Cp F w l cs→Cp F' w l cs
 | [],cs,h=>by rw [Cp] at h⊢;exact h
 | e ::l,cs,h=>by
  rw [Cp] at h⊢
  obtain ⟨c,rest,h1,h2,h3,h4⟩ :=h
  exact ⟨c,rest,h1,h2,IsE.mono hk e _ h3,Cp.mono hk l rest h4⟩
end
def Ff (F :Nat→Prop) (w :World) (sv :Value) (l :List E) :Prop := ∃cs,Fm F 8 w sv l.length cs∧Cp F w l cs
theorem Ff.keep {F :Nat→Prop} {w w' :World} {sv :Value} {l :List E} (h :Ff F w sv l) (hk :Keeps F w w') :Ff F w' sv l :=by
 obtain ⟨cs,h1,h2⟩ :=h
 exact ⟨cs,h1.keep hk,Cp.keep hk l cs h2⟩
theorem Ff.mono {F F' :Nat→Prop} {w :World} {sv :Value} {l :List E} (h :Ff F w sv l) (hk : ∀k,k<w.heap.size→F k→F' k) :Ff F' w sv l :=by
 obtain ⟨cs,h1,h2⟩ :=h
 exact ⟨cs,h1.mono hk,Cp.mono hk l cs h2⟩
theorem Ff.nil (F :Nat→Prop) (w :World) :Ff F w (.slice none 0 0) [] := ⟨[],Fm.nil F 8 w,by rw [Cp]⟩
theorem Ff.shape {F :Nat→Prop} {w :World} {sv :Value} {l :List E} (h :Ff F w sv l) : ∃ao cap,sv= .slice ao l.length cap :=by
 obtain ⟨cs,h1,_⟩ :=h;exact h1.shape
theorem In {F :Nat→Prop} {w :World} {op :Int} {x :V} {s name :Wd} {n :Int} {l :List E} {sv :Value} (h :Ff F w sv l) :IsE F w (.mk op x s name n l) (.agg (Ae op x s name n sv)) :=by
 obtain ⟨cs,h1,h2⟩ :=h
 rw [IsE]
 exact ⟨sv,cs,rfl,h1,h2⟩
theorem IsE.open {F :Nat→Prop} {w :World} {op :Int} {x :V} {s name :Wd} {n :Int} {l :List E} {v :Value} (h :IsE F w (.mk op x s name n l) v) : ∃sv,v= .agg (Ae op x s name n sv) ∧Ff F w sv l :=by
 rw [IsE] at h
 obtain ⟨sv,cs,h1,h2,h3⟩ :=h
 exact ⟨sv,h1,cs,h2,h3⟩
theorem Aj2 (F :Nat→Prop) (w :World) :IsE F w E.nil (.agg (Ae 0 zero noW noW 0 (.slice none 0 0))) :=In (Ff.nil F w)
theorem Aj3 (F :Nat→Prop) (w :World) (v :V) :IsE F w (Ajd v) (.agg (Ae 1 v noW noW 0 (.slice none 0 0))) :=In (Ff.nil F w)
theorem Aj4 (F :Nat→Prop) (w :World) (s name :Wd) :IsE F w (Aje s name) (.agg (Ae 2 zero s name 0 (.slice none 0 0))) :=In (Ff.nil F w)
theorem IsE.shape {F :Nat→Prop} {w :World} {e :E} {v :Value} (h :IsE F w e v) : ∃op x s name n ao k c,v= .agg (Ae op x s name n (.slice ao k c)) :=by
 cases e with
 | mk op x s name n l=>
  obtain ⟨sv,h1,h2⟩ :=h.open
  obtain ⟨ao,c,rfl⟩ :=h2.shape
  exact ⟨op,x,s,name,n,ao,_,c,h1⟩
theorem Ln {F :Nat→Prop} {w :World} : ∀ {l m :List E} {cs ds :List Value},Cp F w l cs→Cp F w m ds→Cp F w (l++m) (cs++ds)
 | [],m,cs,ds,h,k=>by rw [Cp] at h;subst h;exact k
 | e ::l,m,cs,ds,h,k=>by
  rw [Cp] at h
  obtain ⟨c,rest,rfl,h2,h3,h4⟩ :=h
  rw [List.cons_append,Cp]
  exact ⟨c,rest++ds,by simp,h2,h3,Ln h4 k⟩
theorem Me {F :Nat→Prop} {w :World} {e :E} {c :List Value} (hc :c.length=8) (h :IsE F w e (.agg c.toArray)) :Cp F w [e] c :=by
 rw [Cp];exact ⟨c,[],by simp,hc,h,by rw [Cp]⟩
theorem Lo {F :Nat→Prop} {w :World} : ∀ {l :List E} {cs :List Value},Cp F w l cs→cs.length=l.length*8
 | [],cs,h=>by rw [Cp] at h;subst h;rfl
 | e ::l,cs,h=>by
  rw [Cp] at h
  obtain ⟨c,rest,rfl,h2,_,h4⟩ :=h
  have :=Lo h4
  simp;omega
theorem Ajf {F :Nat→Prop} {w :World} {e :E} {op :Int} {x :V} {s name :Wd} {n :Int} {sv :Value} (h :IsE F w e (.agg (Ae op x s name n sv))) (hB :F w.heap.size) :
  Ff F (w.alloc (.cells (Ae op x s name n sv) 34)) (.slice (some ⟨w.heap.size,0,none⟩) 1 1) [e] :=by
 have hb :Below w.heap.size w (w.alloc (.cells (Ae op x s name n sv) 34)) := (Below.refl _ _).alloc (Nat.le_refl _) _
 exact ⟨(Ae op x s name n sv).toList,Fm.new (Ae op x s name n sv).toList _ rfl hB (by decide) (by decide),Me rfl (IsE.keep (Bd hb) e _ h)⟩
theorem Ajg {F :Nat→Prop} {w :World} {e e' :E} {op op' :Int} {x x' :V} {s name s' name' :Wd} {n n' :Int} {sv sv' :Value} (h :IsE F w e (.agg (Ae op x s name n sv))) (h' :IsE F w e' (.agg (Ae op' x' s' name' n' sv'))) (hB :F w.heap.size) :
  Ff F (w.alloc (.cells (Ae op x s name n sv++Ae op' x' s' name' n' sv') 34)) (.slice (some ⟨w.heap.size,0,none⟩) 2 2) [e,e'] :=by
 have hb :Below w.heap.size w (w.alloc (.cells (Ae op x s name n sv++Ae op' x' s' name' n' sv') 34)) := (Below.refl _ _).alloc (Nat.le_refl _) _
 refine ⟨(Ae op x s name n sv++Ae op' x' s' name' n' sv').toList,Fm.new (Ae op x s name n sv++Ae op' x' s' name' n' sv').toList _ rfl hB (by decide) (by decide), ?_⟩
 exact Ln (Me rfl (IsE.keep (Bd hb) e _ h)) (Me rfl (IsE.keep (Bd hb) e' _ h'))
theorem Vx {F :Nat→Prop} {w :World} : ∀ {l :List E} {cs :List Value} {k :Nat} {e :E},Cp F w l cs→l[k]? =some e→ ∃c :List Value,c.length=8∧IsE F w e (.agg c.toArray) ∧ ∀j u,c[j]? =some u→cs[k*8+j]? =some u
 | e ::l,cs,0,x,h,hk=>by
  rw [Cp] at h
  obtain ⟨c,rest,rfl,h2,h3,_⟩ :=h
  simp at hk;subst hk
  refine ⟨c,h2,h3,fun j u hj=> ?_⟩
  rw [List.getElem?_append_left (by have := (List.getElem?_eq_some_iff.1 hj).1;omega)]
  simpa using hj
 | e ::l,cs,k+1,x,h,hk=>by
  rw [Cp] at h
  obtain ⟨c,rest,rfl,h2,_,h4⟩ :=h
  simp only [List.getElem?_cons_succ] at hk
  obtain ⟨d,d1,d2,d3⟩ :=Vx h4 hk
  refine ⟨d,d1,d2,fun j u hj=> ?_⟩
  rw [List.getElem?_append_right (by omega),h2,show (k+1) *8+j - 8=k*8+j from by omega]
  exact d3 j u hj
 | [],_,_,_,_,hk=>by simp at hk
theorem Vy {F :Nat→Prop} {w :World} {b off n cap :Nat} {l :List E} {cs :List Value} (hr :Fm F 8 w (.slice (some ⟨b,off,none⟩) n cap) l.length cs) (ha :Cp F w l cs) {k :Nat} {e :E} (hk :l[k]? =some e) :
  ∃xo xk xn xs2 xs xm xi xa xl xc,IsE F w e (.agg #[.int .i64 xo, .int .i64 xk, .int .i64 xn, .string xs2, .string xs, .string xm, .int .i64 xi, .slice xa xl xc]) ∧ ∀V,Below w.heap.size w V→V.cell? ⟨b,off+k*8,none⟩ =some (.int .i64 xo) ∧V.cell? ⟨b,off+k*8+1,none⟩ =some (.int .i64 xk) ∧V.cell? ⟨b,off+k*8+2,none⟩ =some (.int .i64 xn) ∧V.cell? ⟨b,off+k*8+3,none⟩ =some (.string xs2) ∧V.cell? ⟨b,off+k*8+4,none⟩ =some (.string xs) ∧V.cell? ⟨b,off+k*8+5,none⟩ =some (.string xm) ∧V.cell? ⟨b,off+k*8+6,none⟩ =some (.int .i64 xi) ∧V.cell? ⟨b,off+k*8+7,none⟩ =some (.slice xa xl xc) :=by
 obtain ⟨c,c1,c2,c3⟩ :=Vx ha hk
 obtain ⟨xo,⟨xk,xn,xs2⟩,xs,xm,xi,xa,xl,xc,h⟩ :=c2.shape
 have hc :c= [.int .i64 xo, .int .i64 xk, .int .i64 xn, .string xs2, .string xs, .string xm, .int .i64 xi, .slice xa xl xc] :=by
  have :=congrArg Array.toList (Value.agg.inj h)
  simpa using this
 subst hc
 refine ⟨xo,xk,xn,xs2,xs,xm,xi,xa,xl,xc,c2,fun V hV=> ?_⟩
 have h0 :0<l.length :=by have := (List.getElem?_eq_some_iff.1 hk).1;omega
 rcases hr.2 with ⟨h1,_⟩ | ⟨_,b',o',c',he,_,hlt,_,_,hcell⟩
 ·omega
 ·cases he
  have g : ∀j u,([.int .i64 xo, .int .i64 xk, .int .i64 xn, .string xs2, .string xs, .string xm, .int .i64 xi, .slice xa xl xc] :List Value)[j]? =some u→V.cell? ⟨b,off+k*8+j,none⟩ =some u :=fun j u hj=>by
   rw [Nat.add_assoc]
   exact (hV.cell (p := ⟨b,off+ (k*8+j),none⟩) hlt).trans (hcell _ u (c3 j u hj))
  exact ⟨g 0 _ rfl,g 1 _ rfl,g 2 _ rfl,g 3 _ rfl,g 4 _ rfl,g 5 _ rfl,g 6 _ rfl,g 7 _ rfl⟩
theorem Do {w :World} {g :Nat} {arr :Array Value} {t :TypeId} {fr :Nat×Nat} (h :w.heap[g]? =some (.cells arr t fr)) (j :Nat) (x :Value) : (w.setCell ⟨g,j,none⟩ x).heap[g]? =some (.cells (arr.setIfInBounds j x) t fr) :=by
 simp only [World.setCell,Array.getElem?_modify,if_true,h,Option.map_some]
 rfl
theorem Ahh {w :World} {g :Nat} {a b c x y z :Value} {t :TypeId} {fr :Nat×Nat} (h :w.heap[g]? =some (.cells #[a,b,c] t fr)) :
  (((w.setCell ⟨g,0,none⟩ x).setCell ⟨g,1,none⟩ y).setCell ⟨g,2,none⟩ z).heap[g]? =some (.cells #[x,y,z] t fr) :=Do (Do (Do h 0 x) 1 y) 2 z
theorem Aq (w :World) (o1 o2 :Obj) : ((w.alloc o1).alloc o2).heap[w.heap.size+1]? =some o2 :=by
 have :=Ab (w.alloc o1) o2
 rwa [show (w.alloc o1).heap.size=w.heap.size+1 from by simp] at this
theorem A6 (w :World) (o1 o2 o3 :Obj) : (((w.alloc o1).alloc o2).alloc o3).heap[w.heap.size+2]? =some o3 :=by
 have :=Ab ((w.alloc o1).alloc o2) o3
 rwa [show ((w.alloc o1).alloc o2).heap.size=w.heap.size+2 from by simp] at this
theorem Ao (w :World) (o1 :Obj) :Below w.heap.size w (w.alloc o1) := (Below.refl _ _).alloc (Nat.le_refl _) _
theorem Bb (w :World) (o1 o2 :Obj) :Below w.heap.size w ((w.alloc o1).alloc o2) := (Ao w o1).alloc (by simp) _
theorem Cb (w :World) (o1 o2 o3 :Obj) :Below w.heap.size w (((w.alloc o1).alloc o2).alloc o3) := (Bb w o1 o2).alloc (by simp;omega) _
theorem Av {w :World} {b g :Nat} (h :b≠g) (o j :Nat) (x :Value) : (w.setCell ⟨g,j,none⟩ x).cell? ⟨b,o,none⟩ =w.cell? ⟨b,o,none⟩ :=World.cell?_of_block (Below.heap_setCell w ⟨g,j,none⟩ x b h)
theorem Fj {W w1 :World} {g :Nat} (h :Below W.heap.size W w1) (hg :g+3≤W.heap.size) :
  g+3≤w1.heap.size∧ (∀o,w1.cell? ⟨g,o,none⟩ =W.cell? ⟨g,o,none⟩) ∧ (∀o,w1.cell? ⟨g+1,o,none⟩ =W.cell? ⟨g+1,o,none⟩) ∧ (∀o,w1.cell? ⟨g+2,o,none⟩ =W.cell? ⟨g+2,o,none⟩) ∧ (∀o,w1.frozen? ⟨g+2,o,none⟩ =W.frozen? ⟨g+2,o,none⟩) :=
 ⟨Nat.le_trans hg h.size,fun o=>h.cell (p := ⟨g,o,none⟩) (by show g<_;omega),fun o=>h.cell (p := ⟨g+1,o,none⟩) (by show g+1<_;omega),fun o=>h.cell (p := ⟨g+2,o,none⟩) (by show g+2<_;omega),fun o=>h.frozen (p := ⟨g+2,o,none⟩) (by show g+2<_;omega)⟩
theorem Abw {W w1 :World} {g b :Nat} (h :Below W.heap.size W w1) (hg :g+2≤W.heap.size) (hb :b<g) :
  g+2≤w1.heap.size∧ (∀o,w1.cell? ⟨g,o,none⟩ =W.cell? ⟨g,o,none⟩) ∧ (∀o,w1.cell? ⟨g+1,o,none⟩ =W.cell? ⟨g+1,o,none⟩) ∧ (∀o,w1.frozen? ⟨g+1,o,none⟩ =W.frozen? ⟨g+1,o,none⟩) ∧ (∀o,w1.cell? ⟨b,o,none⟩ =W.cell? ⟨b,o,none⟩) :=
 ⟨Nat.le_trans hg h.size,fun o=>h.cell (p := ⟨g,o,none⟩) (by show g<_;omega),fun o=>h.cell (p := ⟨g+1,o,none⟩) (by show g+1<_;omega),fun o=>h.frozen (p := ⟨g+1,o,none⟩) (by show g+1<_;omega),fun o=>h.cell (p := ⟨b,o,none⟩) (by show b<_;omega)⟩
theorem Z9 {W w1 :World} {a b g :Nat} (h :Below W.heap.size W w1) (ha :a<W.heap.size) (hb :b<W.heap.size) (hg :g<W.heap.size) :
  (∀o,w1.cell? ⟨a,o,none⟩ =W.cell? ⟨a,o,none⟩) ∧ (∀o,w1.cell? ⟨b,o,none⟩ =W.cell? ⟨b,o,none⟩) ∧ (∀o,w1.cell? ⟨g,o,none⟩ =W.cell? ⟨g,o,none⟩) ∧ (∀o,w1.frozen? ⟨g,o,none⟩ =W.frozen? ⟨g,o,none⟩) :=
 ⟨fun o=>h.cell (p := ⟨a,o,none⟩) ha,fun o=>h.cell (p := ⟨b,o,none⟩) hb,fun o=>h.cell (p := ⟨g,o,none⟩) hg,fun o=>h.frozen (p := ⟨g,o,none⟩) hg⟩
theorem Af {C :Nat} {w w' :World} (h :Below C w w') :Keeps (fun k=>k<C) w w' := ⟨h.size,fun k hk _=>h.block k hk⟩
end Go.Proofs.YthehiijgnepcfaaGreat

namespace Go.Proofs.YthehiijgnepcfaaGreat
structure ColD where
 name :Wd
 ty :Int
 must :Bool
structure Stm where
 kind :Int
 name :Wd
 table :Wd
 col :Wd
 cols :List ColD
 rows :List (List E)
 sets :List (Wd×E)
 frm :List Wd
 out :List E
 wher :E
 order :List E
 down :Bool
 n :Int
def Stm.nil :Stm := ⟨0,noW,noW,noW,[],[],[],[],[],E.nil,[],false,0⟩
def Aj7 (k :Int) :Stm := ⟨k,noW,noW,noW,[],[],[],[],[],E.nil,[],false, -1⟩
end Go.Proofs.YthehiijgnepcfaaGreat


/-
  3 texts of this proof in one, in build order: KName, IsValue, BIsE.
-/
import Derived.Shelf.Strings.SlTrimAscii
import Derived.Shelf.Strings.Search3
import Derived.Test.YtmgkcjiejmhgcaaGreatDoorRows
import Derived.WalkKit
import Derived.WalkSpells
import Derived.WalkLawsBesides
import Derived.Laws.IdiomStrings
import Derived.Deep.Cut
import Derived.Deep.DeepCutAuto
import Derived.BigRegion
import Derived.BigQuiet
import Derived.Test.YtmgkcjiejmhgcaaGreatDoorJ01
import Derived.Test.YtmgkcjiejmhgcaaGreatDoorJ02
import Derived.Test.YtmgkcjiejmhgcaaGreatDoorJ05
import Derived.Test.YtmgkcjiejmhgcaaGreatDoorJ07
import Derived.Test.YtmgkcjiejmhgcaaGreatDoorJ13
set_option linter.unusedSimpArgs false
set_option linter.unusedVariables false
namespace Go.Proofs.YtmgkcjiejmhgcaaGreatDoor
open Go.RowKit
structure EnvM (w :World) :Prop where
 mx : ∃m,w.cell? ⟨0,0,none⟩ =some (.int .i64 m)
 low :0<w.heap.size
theorem EnvM.next {w w' :World} (h :EnvM w) (hb :Below w.heap.size w w') :EnvM w' :=by
 obtain ⟨⟨m,h1⟩,h2⟩ :=h
 exact ⟨⟨m,(hb.cell (p := ⟨0,0,none⟩) h2).trans h1⟩,Nat.lt_of_lt_of_le h2 hb.size⟩
theorem M9 {x :Wd} (h :x.size=0) :x=noW :=by
 cases x with
 | mk d=>
  have :d.size=0 :=h
  rw [Array.size_eq_zero_iff] at this
  rw [this]
theorem N0 (s :ByteArray) (h0 :1≤s.size) :s.data.toList=s[0] ::s.data.toList.drop 1 :=by
 have h :0<s.data.toList.length :=by rw [Hp];omega
 conv=>lhs;rw [←List.drop_zero (l :=s.data.toList)]
 rw [List.drop_eq_getElem_cons h];rfl
theorem Ic (f :UInt8→Bool) : ∀l :List UInt8,(l.dropWhile f= []) ↔ (∀x∈l,f x=true)
 | [] =>by simp
 | c ::l=>by
  cases h :f c
  ·simp [h]
  ·simp only [List.dropWhile_cons,h,if_true]
   rw [Ic f l];simp [h]
theorem Vv (l cs :List UInt8) : (Lib.trimS l cs= []) ↔l.all (cs.contains ·) =true :=by
 unfold Lib.trimS Lib.trimLeftS Lib.trimRightS
 constructor
 ·intro h
  have h1 := (Ic _ _).1 h
  have h2 : ∀x∈ (l.reverse.dropWhile (cs.contains ·)),cs.contains x=true :=fun x hx=>h1 x (by simpa using hx)
  rw [List.all_eq_true]
  intro x hx
  by_cases hm :x∈l.reverse.dropWhile (cs.contains ·)
  ·exact h2 x hm
  ·have hx' :x∈l.reverse :=by simpa using hx
   rw [←List.takeWhile_append_dropWhile (p := (cs.contains ·)) (l :=l.reverse)] at hx'
   rcases List.mem_append.1 hx' with h3 | h3
   ·have :=List.all_takeWhile (p := (cs.contains ·)) (l :=l.reverse)
    exact List.all_eq_true.1 this x h3
   ·exact absurd h3 hm
 ·intro h
  rw [List.all_eq_true] at h
  have :l.reverse.dropWhile (cs.contains ·) = [] := (Ic _ _).2 (fun x hx=>h x (by simpa using hx))
  rw [this];rfl
theorem Id (b :UInt8) (l sub :List UInt8) :Lib.contains (b ::l) sub= (sub.isPrefixOf (b ::l) || Lib.contains l sub) :=by
 have h :=Lib.index_ge l sub
 unfold Lib.contains
 rw [Lib.index]
 by_cases h1 :sub.isPrefixOf (b ::l) =true
 ·simp [h1]
 ·rw [if_neg h1]
  have h1' :sub.isPrefixOf (b ::l) =false :=Bool.eq_false_iff.2 h1
  rw [h1',Bool.false_or]
  split
  ·rename_i h2
   have h2 :Lib.index l sub= -1 :=by simpa using h2
   rw [h2]
  ·rename_i h2
   have h2 :Lib.index l sub≠ -1 :=by simpa using h2
   rw [Bool.eq_iff_iff,decide_eq_true_eq,decide_eq_true_eq];omega
def Jf :List (List UInt8) →List UInt8
 | [] => []
 | x ::W=>x++32 ::Jf W
theorem Ks (W sub :List UInt8) : ∀x :List UInt8,32∉x→Lib.contains (x++W) (32 ::sub) =Lib.contains W (32 ::sub)
 | [],_=>rfl
 | b ::x,h=>by
  simp at h
  rw [List.cons_append,Id,Ks W sub x h.2]
  have : (32 ::sub).isPrefixOf (b :: (x++W)) =false :=by
   rw [List.isPrefixOf_cons_cons]
   simp [h.1]
  rw [this,Bool.false_or]
theorem Mr (W :List UInt8) : ∀s x :List UInt8,32∉s→32∉x→ (s++ [32]).isPrefixOf (x++32 ::W) =decide (s=x)
 | [],[],_,_=>by simp
 | [],b ::x,_,h=>by
  simp at h
  rw [List.nil_append,List.cons_append,List.isPrefixOf_cons_cons]
  simp [h.1]
 | c ::s,[],h,_=>by
  simp at h
  rw [List.cons_append,List.nil_append,List.isPrefixOf_cons_cons]
  simp [Ne.symm h.1]
 | c ::s,b ::x,h1,h2=>by
  simp at h1 h2
  rw [List.cons_append,List.cons_append,List.isPrefixOf_cons_cons,Mr W s x h1.2 h2.2]
  rw [Bool.eq_iff_iff];simp
theorem Kt (s :List UInt8) (hs :32∉s) : ∀W :List (List UInt8),(∀x∈W,32∉x) →Lib.contains (32 ::Jf W) (32 :: (s++ [32])) =decide (s∈W)
 | [],_=>by
  rw [Id]
  have e : (32 :: (s++ [32])).isPrefixOf (32 ::Jf []) =false :=by
   cases s<;>simp [Jf]
  rw [e];simp [Jf,Lib.contains,Lib.index]
 | x ::W,h=>by
  rw [Id,List.isPrefixOf_cons_cons,Jf,Mr _ s x hs (h x (by simp)),Ks _ _ x (h x (by simp)),Kt s hs W (fun y hy=>h y (by simp [hy]))]
  rw [Bool.eq_iff_iff];simp
abbrev T9 :List (List UInt8) := [[97,110,100],[98,121],[99,114,101,97,116,101],[100,101,108,101,116,101],[100,101,115,99],[100,114,111,112],[102,114,111,109],[105,110,100,101,120],[105,110,115,101,114,116],[105,110,116],[105,110,116,111],[105,115],[108,105,109,105,116],[109,117,115,116],[110,111,116],[110,117,108,108],[111,110],[111,114],[111,114,100,101,114],[115,101,108,101,99,116],[115,101,116],[116,97,98,108,101],[116,101,120,116],[117,112,100,97,116,101],[118,97,108,117,101,115],[119,104,101,114,101]]
theorem Qg (w :Wd) :Du w=decide (w.data.toList∈T9) :=by
 rw [La,Lib.toList_data,Bool.eq_iff_iff]
 simp [or_assoc]
def Tp :Wd := ⟨(32 ::Jf T9).toArray⟩
set_option maxRecDepth 20000 in
theorem Sg (c :UInt8) : ([97,98,99,100,101,102,103,104,105,106,107,108,109,110,111,112,113,114,115,116,117,118,119,120,121,122] :List UInt8).contains c=B6 c :=by
 have h : ∀n :Fin 256,([97,98,99,100,101,102,103,104,105,106,107,108,109,110,111,112,113,114,115,116,117,118,119,120,121,122] :List UInt8).contains (UInt8.ofNat n.val) =B6 (UInt8.ofNat n.val) :=by decide
 have :=h ⟨c.toNat,c.toNat_lt⟩
 simpa using this
abbrev az :Wd := ⟨#[97,98,99,100,101,102,103,104,105,106,107,108,109,110,111,112,113,114,115,116,117,118,119,120,121,122]⟩
set_option maxRecDepth 20000 in
theorem Zl (s :Wd) (w :World) (hsz :s.size≤8) :
  Calls Tryz.prog 61 #[.string s, .string az] w fun e w'=> ∃x :Wd,e= .returned (.string x) ∧x.toList.isEmpty=s.data.toList.all B6∧Below w.heap.size w w' :=by
 refine (Any.strings_Trim_laid Tryz.lays160 (by kernel_rfl) s az w (by omega) (by decide) (ascii_of_all (by decide))).mono ?_
 rintro e w' ⟨rfl,hb⟩
 refine ⟨_,rfl, ?_,hb⟩
 have e : ∀l :List UInt8,(⟨l.toArray⟩ :Wd).toList.isEmpty=decide (l= []) :=fun l=>by rw [Lib.toList_data];cases l<;>rfl
 rw [e]
 have q :=Vv s.data.toList az.data.toList
 rw [show (fun c=>az.data.toList.contains c) =B6 from funext Sg] at q
 rw [Bool.eq_iff_iff,decide_eq_true_eq]
 exact q
theorem Q8 (T sub :Wd) (w :World) (h :EnvM w) (hT :T.size=136) :
  Calls Tryz.prog 62 #[.string T, .string sub] w fun e w'=>e= .returned (.bool (Lib.contains T.data.toList sub.data.toList)) ∧w'=w :=by
 obtain ⟨m,hm⟩ :=h.mx
 exact Any.strings_Contains Tryz.lays144 T sub m w (by omega) hm
theorem Aaq (s :Wd) (hs :s.data.toList.all B6=true) :Lib.contains Tp.data.toList (⟨#[32]⟩ ++s++ ⟨#[32]⟩ :Wd).data.toList=Du s :=by
 rw [Qg,←Kt s.data.toList ?_ T9 (by decide)]
 ·have e1 :Tp.data.toList=32 ::Jf T9 :=by unfold Tp;rw [List.toList_toArray]
  have e2 : (⟨#[32]⟩ ++s++ ⟨#[32]⟩ :Wd).data.toList=32 :: (s.data.toList++ [32]) :=by simp [ByteArray.data_append]
  rw [e1,e2]
 ·intro hm
  have :=List.all_eq_true.1 hs 32 hm
  revert this;decide
theorem Q9 (T s :Wd) (hT :T=Tp) (w :World) (h :EnvM w) (hs :s.data.toList.all B6=true) :
  Calls Tryz.prog 62 #[.string T, .string (⟨#[32]⟩ ++s++ ⟨#[32]⟩)] w fun e w'=>e= .returned (.bool (Du s)) ∧w'=w :=by
 have h136 :T.size=136 :=by rw [hT];kernel_rfl
 have C :=Q8 T (⟨#[32]⟩ ++s++ ⟨#[32]⟩) w h h136
 rw [hT,Aaq s hs] at C
 rw [hT]
 exact C
set_option maxHeartbeats 1000000 in
theorem Gx (s :Wd) (w :World) (h :EnvM w) :
  Calls Tryz.prog 27 #[.string s] w fun e w'=>e= .returned (.bool (nm s)) ∧Below w.heap.size w w' :=by
 unfold nm
 by_cases h1 :s.size=0
 ·have he :s.toList.isEmpty=true :=by rw [M9 h1];rw [Lib.toList_data];rfl
  rw [h1]
  clear h1
  go_enter Tryz.func27,Tryz.ntmps27
  go_wp2_with fail
  go_ret
  exact ⟨rfl,Below.refl _ _⟩
 by_cases h2 :8<s.size
 ·have he :s.toList.isEmpty=false :=by rw [Lib.toList_data,N0 s (by omega)];rfl
  have hd :decide (s.size≤8) =false :=by simp;omega
  have q : ¬ (s.size :Int) <9 :=by omega
  rw [hd,Bool.and_false,Bool.false_and,Bool.false_and]
  clear h1 h2 hd
  go_enter Tryz.func27,Tryz.ntmps27
  go_wp2_with fail
  go_ret
  exact ⟨rfl,Below.refl _ _⟩
 have he :s.toList.isEmpty=false :=by rw [Lib.toList_data,N0 s (by omega)];rfl
 have q : (s.size :Int) <9 :=by omega
 have e1 :decide (1≤s.size) =true :=by simp;omega
 have e2 :decide (s.size≤8) =true :=by simp;omega
 rw [e1,e2,Bool.true_and,Bool.true_and]
 have TR :=Zl s w (by omega)
 clear e1 e2 h1 h2
 by_cases h3 :s.data.toList.all B6=true
 ·have CO :=fun T hT W H=>Q9 T s hT W H h3
  rw [h3] at TR
  rw [h3,Bool.true_and]
  generalize Du s=rb at CO⊢
  clear h3
  go_enter Tryz.func27,Tryz.ntmps27
  go_wp2_with (first
   | (go_at_call 61;go_must (go_fit TR;rintro e w1 ⟨x,rfl,hx,hb1⟩))
   | (go_at_call 62;go_must (go_fit (CO _ (by kernel_rfl) w1 (h.next hb1));rintro e w2 ⟨rfl,rfl⟩)))
  go_ret
  exact ⟨rfl,hb1⟩
 ·have h3' :s.data.toList.all B6=false :=Bool.eq_false_iff.2 h3
  rw [h3'] at TR
  rw [h3',Bool.false_and]
  clear h3 h3'
  go_enter Tryz.func27,Tryz.ntmps27
  go_wp2_with (first
   | (go_at_call 61;go_must (go_fit TR;rintro e w1 ⟨x,rfl,hx,hb1⟩)))
  go_ret
  exact ⟨rfl,hb1⟩
end Go.Proofs.YtmgkcjiejmhgcaaGreatDoor

namespace Go.Proofs.YtmgkcjiejmhgcaaGreatDoor
open Go.RowKit
theorem Sh (s :ByteArray) (cap j :Nat) (h :j<s.size) : (bytesRow s cap)[j]? =some (.int .u8 (s[j].toNat :Int)) :=by
 have h' :j<s.data.size :=h
 unfold bytesRow
 rw [Array.getElem?_append_left (by simpa using h'),Array.getElem?_map,Array.getElem?_eq_getElem h']
 rfl
theorem Zm (s :ByteArray) :s.toList= [] ↔s.size=0 :=by
 rw [ByteArray.toList_eq,←Hp]
 cases s.data.toList<;>simp
def Vw (w :World) (k n :Int) (s :ByteArray) (wr :World) :Prop :=
 wr.heap[w.heap.size]? =some (.cells #[.int .i64 k, .int .i64 n, .string s] 32 (0,0)) ∧ (∀j (h :j<s.size),wr.cell? ⟨w.heap.size+1,j,none⟩ =some (.int .u8 (s[j].toNat :Int))) ∧Below w.heap.size w wr
theorem Ra (w :World) (k n :Int) (s :ByteArray) (cap :Nat) (fr :Nat×Nat) :
  Vw w k n s (((w.alloc (Obj.cells #[.int .i64 k, .int .i64 n, .string s] 32)).alloc (Obj.cells (bytesRow s cap) 5 fr)).drew) :=by
 refine ⟨Ae (Ab w _) _,fun j h=> ?_,(((Below.refl _ _).alloc (Nat.le_refl _) _).alloc (by simp) _).drew⟩
 have :=Ab (w.alloc (Obj.cells #[.int .i64 k, .int .i64 n, .string s] 32)) (Obj.cells (bytesRow s cap) 5 fr)
 refine Aa (t :=5) (fr :=fr) ?_ (Sh s cap j h)
 rw [show (w.alloc (Obj.cells #[.int .i64 k, .int .i64 n, .string s] 32)).heap.size=w.heap.size+1 from by simp] at this
 exact this
set_option maxHeartbeats 4000000 in
theorem Si (v :V) (w :World) (hs :v.s.size≤maxLen) :
  Calls Tryz.prog 60 #[v.val] w fun e w'=>e= .returned (.bool (Ey v)) ∧Below w.heap.size w w' :=by
 obtain ⟨k,n,s⟩ :=v
 show Calls Tryz.prog 60 #[.agg #[.int .i64 k, .int .i64 n, .string s]] w _
 have HG :Hid (Ey ⟨k,n,s⟩ = (if k=0 then decide (n=0) &&decide (s.size=0) else if k=1 then decide (-1000000≤n) &&decide (n≤1000000) &&decide (s.size=0) else if k=2 then decide (n=0) &&decide (s.size≤8) &&D1 s.data.toList else false)) :=rfl
 generalize Ey ⟨k,n,s⟩ =G at HG⊢
 simp only [maxLen] at hs
 have hcv :=run_bytes_of_string (P :=Tryz.prog) (w.alloc (Obj.cells #[.int .i64 k, .int .i64 n, .string s] 32)) 9 133 5 s Tryz.underlying9 Tryz.underlying133 Tryz.underlying5
 go_enter Tryz.func60,Tryz.ntmps60
 go_wp2
 go_loopw [3,10] (fun ok i wr=> ∃j :Nat,j≤s.size∧i= .int .i64 j∧ok= .bool (D1 (s.data.toList.take j)) ∧Vw w k n s wr) (fun _ i _=>s.size - (intOf i).toNat)
 case atStart=>exact ⟨0,Nat.zero_le _,rfl,rfl,Ra w k n s _ _⟩
 case round=>
  clear hcv
  obtain ⟨j,hj,rfl,rfl,hinv⟩ :=hrel
  by_cases hlt :j<s.size
  ·have hc :=hinv.2.1 j hlt
   have hsn :Hid (D1 (s.data.toList.take (j+1)) = (D1 (s.data.toList.take j) &&Ho (s[j].toNat :Int))) :=by show _=_;rw [K5 s j hlt,Np]
   have hb :Hid (Ho (s[j].toNat :Int) = (decide (32≤ (s[j].toNat :Int)) &&decide ((s[j].toNat :Int) ≤126) && ((s[j].toNat :Int) !=39))) :=rfl
   generalize D1 (s.data.toList.take j) =g at hsn
   generalize (s[j].toNat :Int) =c at hc hsn hb
   cases g
   ·go_wp2
    go_roundw
    case rel=>exact ⟨j+1,by omega,by go_num,by rw [hsn.out];rfl,hinv⟩
    case measure=>simp [intOf];omega
   ·by_cases h1 :32≤c<;>by_cases h2 :c<127<;>by_cases h3 :c=39
    all_goals
     go_wp2
     go_roundw
     case rel=>exact ⟨j+1,by omega,by go_num,by rw [hsn.out,hb.out];first | rfl | (congr 1;simp_all;done) | (congr 1;simp_all;omega),hinv⟩
     case measure=>simp [intOf];omega
  ·have e :s.data.toList.take j=s.data.toList :=Qo s j (by omega)
   rw [e]
   clear e
   have C0 :=Aa hinv.1 (j :=0) rfl
   have C1 :=Aa hinv.1 (j :=1) rfl
   have C2 :=Aa hinv.1 (j :=2) rfl
   have hbel :=hinv.2.2
   clear hinv
   generalize D1 s.data.toList=g at HG
   have hnil :Hid (s.toList= [] ↔s.size=0) :=Zm s
   by_cases h0 :k=0
   ·subst h0
    go_wp2
    all_goals
     go_ret
     exact ⟨Aj (by have hn :=hnil.out;rw [HG.out];simp only [if_true];simp_all),hbel⟩
   by_cases h1 :k=1
   ·subst h1
    by_cases hse :s.size=0
    ·have he :s.toList.isEmpty=true :=by rw [Gm];exact decide_eq_true hse
     rcases (show n< -1000000∨1000000<n∨ (-1000000≤n∧n≤1000000) from by omega) with hn | hn | ⟨hn,hm⟩
     all_goals
      go_wp2
      all_goals
       go_ret
       exact ⟨Aj (by rw [HG.out];simp [hse];try omega),hbel⟩
    ·have he :s.toList.isEmpty=false :=by rw [Gm];exact decide_eq_false hse
     go_wp2
     all_goals
      go_ret
      exact ⟨Aj (by rw [HG.out];simp [hse]),hbel⟩
   by_cases h2 :k=2
   ·subst h2
    by_cases hn :n=0
    ·subst hn
     cases g<;>by_cases h9 :s.size<9
     all_goals
      go_wp2
      all_goals
       go_ret
       exact ⟨Aj (by rw [HG.out];simp;try omega),hbel⟩
    ·go_wp2
     all_goals
      go_ret
      exact ⟨Aj (by rw [HG.out];simp [hn]),hbel⟩
   go_wp2
   all_goals
    go_ret
    exact ⟨Aj (by rw [HG.out];simp [h0,h1,h2]),hbel⟩
end Go.Proofs.YtmgkcjiejmhgcaaGreatDoor

namespace Go.Proofs.YtmgkcjiejmhgcaaGreatDoor
open Go.RowKit Go.Maps
def N2 (d :Nat) :Prop := ∀ (e :E) (v :Value) (C :Nat) (w :World),IsE (fun k=>k<C) w e v→C≤w.heap.size→D4 e→EnvM w→
  Calls Tryz.prog 25 #[v, .int .i64 (d :Int)] w fun r w'=>r= .returned (.bool (geB d e)) ∧Below w.heap.size w w'
theorem H0 {w :World} {g :Nat} {op :Int} {x :V} {s name :Wd} {n :Int} {sv :Value} {t :TypeId} {fr :Nat×Nat} (h :w.heap[g]? =some (.cells (Ad op x s name n sv) t fr)) :
  w.cell? ⟨g,0,none⟩ =some (.int .i64 op) ∧w.cell? ⟨g,1,none⟩ =some (.int .i64 x.k) ∧w.cell? ⟨g,2,none⟩ =some (.int .i64 x.n) ∧w.cell? ⟨g,3,none⟩ =some (.string x.s) ∧w.cell? ⟨g,4,none⟩ =some (.string s) ∧w.cell? ⟨g,5,none⟩ =some (.string name) ∧w.cell? ⟨g,6,none⟩ =some (.int .i64 n) ∧w.cell? ⟨g,7,none⟩ =some sv :=
 ⟨Aa h rfl,Aa h rfl,Aa h rfl,Aa h rfl,Aa h rfl,Aa h rfl,Aa h rfl,Aa h rfl⟩
theorem X1 {op :Int} (h :op=1∨op=2∨op=3∨op=4∨op=5∨op=6∨op=7∨op=8∨op=9∨op=10) (W :World) : (Instr.index 94 (.agg #[.int .i64 0, .int .i64 0, .int .i64 0, .int .i64 2, .int .i64 2, .int .i64 2, .int .i64 2, .int .i64 2, .int .i64 2, .int .i64 1, .int .i64 1]) (.int .i64 op)).run Tryz.prog W= .ok (.int .i64 (Fd op)) W :=by
 rcases h with rfl | rfl | rfl | rfl | rfl | rfl | rfl | rfl | rfl | rfl
 all_goals kernel_rfl
set_option maxRecDepth 100000 in
set_option maxHeartbeats 4000000 in
theorem Sj :N2 0 :=by
 intro e v C w he hC hf hen
 obtain ⟨op,⟨xk,xn,xs⟩,s,name,n,ao,k,c,rfl⟩ :=he.shape
 have hb1 :=Aq w (.cells (Ad op ⟨xk,xn,xs⟩ s name n (.slice ao k c)) 34)
 show Calls Tryz.prog 25 #[_, .int .i64 0] w _
 clear he hf hen
 by_cases h1 :op<1
 ·have d1 :decide (op<1) =true :=by simpa using h1
  go_enter Tryz.func25,Tryz.ntmps25
  go_wp2_with fail
  go_quiet (fail)
  go_wp2
  go_ret
  exact ⟨Aj (by cases e;rfl),below_drewN hb1 _⟩
 have d1 :decide (op<1) =false :=by simpa using h1
 by_cases h2 :10<op
 ·have d2 :decide (10<op) =true :=by simpa using h2
  go_enter Tryz.func25,Tryz.ntmps25
  go_wp2_with fail
  go_quiet (fail)
  go_wp2
  go_ret
  exact ⟨Aj (by cases e;rfl),below_drewN hb1 _⟩
 ·have d2 :decide (10<op) =false :=by simpa using h2
  go_enter Tryz.func25,Tryz.ntmps25
  go_wp2_with fail
  go_quiet (fail)
  go_wp2
  go_ret
  exact ⟨Aj (by cases e;rfl),below_drewN hb1 _⟩
set_option maxRecDepth 100000 in
set_option maxHeartbeats 8000000 in
theorem Sk (d :Nat) (hd :d+1≤40) (ih :N2 d) :N2 (d+1) :=by
 intro e v C w he hC hf hen
 cases e with
 | mk op x s name n l=>
  obtain ⟨sv,rfl,hes⟩ :=he.open
  obtain ⟨ao,c,rfl⟩ :=hes.shape
  obtain ⟨xk,xn,xs⟩ :=x
  rw [D4] at hf
  obtain ⟨hfx,hfs,hfn,hfl⟩ :=hf
  simp only at hfx
  have hlm := (Bj (Abf.2 hes)).2
  unfold maxLen at hlm
  have hb1 :=Aq w (.cells (Ad op ⟨xk,xn,xs⟩ s name n (.slice ao l.length c)) 34)
  have bE :=Ab w (.cells (Ad op ⟨xk,xn,xs⟩ s name n (.slice ao l.length c)) 34)
  have HV :=fun W=>Si ⟨xk,xn,xs⟩ W hfx
  have HN :=fun W h=>Gx name W h
  have HS :=fun W h=>Gx s W h
  have E :Hid (geB (d+1) (.mk op ⟨xk,xn,xs⟩ s name n l) = (decide ((l.length :Int) =Fd op) &&E9 op ⟨xk,xn,xs⟩ s name&&l.all (geB d))) :=rfl
  generalize geB (d+1) (.mk op ⟨xk,xn,xs⟩ s name n l) =r at E
  rw [show ((d+1 :Nat) :Int) = (d :Int) +1 from by omega]
  generalize hW :w.alloc (.cells (Ad op ⟨xk,xn,xs⟩ s name n (.slice ao l.length c)) 34) =W1 at hb1 bE
  have HW :Hid _ :=hW
  have hEs :Hid (Gj (fun k=>k<C) w (.slice ao l.length c) l) :=hes
  have HEN :Hid _ :=hen
  clear hW he hes hen
  have q0 : ((d :Int) +1==0) =false :=by simp;omega
  obtain ⟨c0,c1,c2,c3,c4,c5,c6,c7⟩ :=H0 bE
  simp only at c1 c2 c3
  by_cases hop :op<1∨10<op
  ·have E2 :Hid (r=false) :=by show _=_;rw [E.out,Fd,if_neg (by omega),if_neg (by omega),if_neg (by omega),show decide ((l.length :Int) = -1) =false from decide_eq_false (by omega)];rfl
   clear E HV HN HS hEs HEN
   by_cases h1 :op<1
   ·have d1 :decide (op<1) =true :=by simpa using h1
    go_enter Tryz.func25,Tryz.ntmps25
    go_upto_region 1 with fail
    rw [HW.out]
    go_quiet (fail)
    go_wp2
    go_ret
    exact ⟨Aj (by rw [E2.out]),below_drewN hb1 _⟩
   ·have h2 :10<op :=by omega
    have d1 :decide (op<1) =false :=by simpa using h1
    have d2 :decide (10<op) =true :=by simpa using h2
    clear hop
    go_enter Tryz.func25,Tryz.ntmps25
    go_upto_region 1 with fail
    rw [HW.out]
    go_quiet (fail)
    go_wp2
    go_ret
    exact ⟨Aj (by rw [E2.out]),below_drewN hb1 _⟩
  have d1 :decide (op<1) =false :=decide_eq_false (by omega)
  have d2 :decide (10<op) =false :=decide_eq_false (by omega)
  have key :op=1∨op=2∨op=3∨op=4∨op=5∨op=6∨op=7∨op=8∨op=9∨op=10 :=by omega
  clear hop
  go_enter Tryz.func25,Tryz.ntmps25
  go_upto_region 1 with fail
  rw [HW.out]
  go_cut [29] (fun s29 wx=>s29= .bool ((l.length :Int) !=Fd op) ∧Below W1.heap.size W1 wx)
  case first=>
   clear HV HN HS hEs HEN E
   have fi :=fun W=>X1 key W
   generalize Fd op=ar at*
   clear key
   go_quiet (fail)
   go_wp2
   go_meet
   case rel=>exact ⟨rfl,below_drewN (Below.refl _ _) _⟩
  case rest=>
   obtain ⟨rfl,hbc⟩ :=hcut
   have hb2 :Below w.heap.size w wc :=hb1.trans (hbc.mono hb1.size)
   have bE2 := (hbc.block _ (lt_of_block bE)).trans bE
   clear c0 c1 c2 c3 c4 c5 c6 c7 key d1 d2 HW hb1
   obtain ⟨W2,hW2⟩ : ∃V,V=wc := ⟨_,rfl⟩
   subst hW2
   obtain ⟨c0,c1,c2,c3,c4,c5,c6,c7⟩ :=H0 bE2
   simp only at c1 c2 c3
   by_cases hla : (l.length :Int) =Fd op
   rotate_left
   ·have q1 : ((l.length :Int) !=Fd op) =true :=by simpa using hla
    have E2 :Hid (r=false) :=by show _=_;rw [E.out];simp [hla]
    clear E
    go_wp2_with fail
    go_ret
    exact ⟨Aj (by rw [E2.out]),hb2⟩
   have q1 : ((l.length :Int) !=Fd op) =false :=by simpa using hla
   have E2 :Hid (r= (E9 op ⟨xk,xn,xs⟩ s name&&l.all (geB d))) :=by show _=_;rw [E.out];simp [hla]
   clear E
   have hen2 :=HEN.out.next hb2
   go_upto_region 3 with fail
   obtain ⟨lf0,HL0⟩ : ∃b,Hid (b=if op=1 then Ey ⟨xk,xn,xs⟩ else true) := ⟨_,rfl⟩
   obtain ⟨lf,HLF⟩ : ∃b,Hid (b=E9 op ⟨xk,xn,xs⟩ s name) := ⟨_,rfl⟩
   rw [←HLF.out] at E2
   go_cut [5] (fun s5 wx=>s5= .bool lf0∧Below W2.heap.size W2 wx)
   case first=>
    clear HN HS hEs HEN E2
    by_cases h1 :op=1
    ·subst h1
     have H1 :=HV W2
     simp only [V.val] at H1
     rw [if_pos rfl] at HL0
     generalize Ey ⟨xk,xn,xs⟩ =g at*
     clear HV
     go_wp2_with (go_at_call 60;go_fit H1;rintro e W3 ⟨rfl,hb3⟩)
     go_meet
     case rel=>exact ⟨by rw [HL0.out],hb3⟩
    ·rw [if_neg h1] at HL0
     have q2 : (op !=1) =true :=by simpa using h1
     clear HV
     go_wp2_with fail
     go_meet
     case rel=>exact ⟨by rw [HL0.out],Below.refl _ _⟩
   case rest=>
    obtain ⟨rfl,hb3⟩ :=hcut
    have hb4 :Below w.heap.size w wc :=hb2.trans (hb3.mono hb2.size)
    have bE3 := (hb3.block _ (lt_of_block bE2)).trans bE2
    have hen3 :=hen2.next hb3
    clear c0 c1 c2 c3 c4 c5 c6 c7 bE bE2 hb2 hbc hen2 HV
    obtain ⟨W3,hW3⟩ : ∃V,V=wc := ⟨_,rfl⟩
    subst hW3
    obtain ⟨c0,c1,c2,c3,c4,c5,c6,c7⟩ :=H0 bE3
    simp only at c1 c2 c3
    rename_i hr
    refine hr _ _ (wp_seq_k fun K1 hK1=> ?_)
    go_cut [5] (fun s5 wx=>s5= .bool lf∧Below W3.heap.size W3 wx)
    case first=>
     clear hEs HEN E2
     by_cases h2 :op=2
     ·subst h2
      rw [show E9 2 ⟨xk,xn,xs⟩ s name= (nm name&& (decide (s.size=0) || nm s)) from rfl] at HLF
      have H1 :=HN W3 hen3
      have H2 :=fun W (h :Below W3.heap.size W3 W) =>HS W (hen3.next h)
      generalize nm name=b1 at*
      generalize nm s=b2 at*
      clear HN HS
      cases b1
      ·go_wp2_with (go_at_call 27;go_fit H1;rintro e W4 ⟨rfl,hb5⟩)
       go_meet
       case rel=>exact ⟨by rw [HLF.out];rfl,hb5⟩
      ·by_cases hs :s.size=0
       ·have hq : (ByteArray.toList s).isEmpty=true :=by rw [M9 hs,ByteArray.toList_eq];rfl
        rw [show decide (s.size=0) =true from by simp [hs]] at HLF
        go_wp2_with (go_at_call 27;go_fit H1;rintro e W4 ⟨rfl,hb5⟩;have c4' := (hb5.cell (p := ⟨w.heap.size,4,none⟩) (lt_of_block bE3)).trans c4)
        go_meet
        case rel=>exact ⟨by rw [HLF.out];rfl,hb5⟩
       ·have hq : (ByteArray.toList s).isEmpty=false :=by
         cases h : (ByteArray.toList s).isEmpty with
         | false=>rfl
         | true=>
          rw [List.isEmpty_iff,ByteArray.toList_eq] at h
          exact absurd (show s.size=0 by rw [←ByteArray.size_data,←Array.length_toList,h];rfl) hs
        rw [show decide (s.size=0) =false from by simp [hs]] at HLF
        go_wp2_with (first
         | (go_at_call 27;go_fit H3;rintro e W5 ⟨rfl,hb6⟩)
         | (go_at_call 27;go_fit H1;rintro e W4 ⟨rfl,hb5⟩;have c4' := (hb5.cell (p := ⟨w.heap.size,4,none⟩) (lt_of_block bE3)).trans c4;have H3 :=H2 W4 hb5))
        go_meet
        case rel=>exact ⟨by rw [HLF.out];rfl,Ak hb5 hb6⟩
     ·have q2 : (op==2) =false :=by simpa using h2
      have E3 :Hid (lf=lf0) :=by show _=_;rw [HLF.out,HL0.out,E9];split<;>simp [h2]
      clear HN HS
      go_wp2_with fail
      go_meet
      case rel=>exact ⟨by rw [E3.out],Below.refl _ _⟩
    case rest=>
     obtain ⟨rfl,hb5⟩ :=hcut
     have hb6 :Below w.heap.size w wc :=hb4.trans (hb5.mono hb4.size)
     have bE4 := (hb5.block _ (lt_of_block bE3)).trans bE3
     clear c0 c1 c2 c3 c4 c5 c6 c7 bE3 hb4 hb3 hen3 HN HS
     obtain ⟨W4,hW4⟩ : ∃V,V=wc := ⟨_,rfl⟩
     subst hW4
     have c7 := (H0 bE4).2.2.2.2.2.2.2
     clear HLF HL0
     refine hK1 _ _ ?_
     go_wp2_with fail
     go_loopw [5,57] (fun ov i wr=> ∃k :Nat,k≤l.length∧i= .int .i64 k∧ov= .bool (lf&& (l.take k).all (geB d)) ∧Below W4.heap.size W4 wr) (fun _ i _=>l.length - (intOf i).toNat)
     case atStart=>exact ⟨0,Nat.zero_le _,rfl,by simp,Below.refl _ _⟩
     case round=>
      obtain ⟨k,hk,rfl,rfl,hbw⟩ :=hrel
      obtain ⟨W5,hW5⟩ : ∃V,V=wr := ⟨_,rfl⟩
      subst hW5
      have hb7 :Below w.heap.size w W5 :=hb6.trans (hbw.mono hb6.size)
      by_cases hlt :k<l.length
      ·obtain ⟨x,hx⟩ : ∃x,l[k]? =some x := ⟨_,List.getElem?_eq_getElem hlt⟩
       have hL :=IsL.keep (Abf.2 hEs.out) (Ag (hb7.mono hC))
       obtain ⟨b,off,cs,hso,hbC,hbl,hR,hcell⟩ :=Av hL hx
       cases hso
       obtain ⟨yo,yk,yn,ys2,ys,ym,yi,ya,yl,yc,rfl⟩ :=Cm hR
       have g0 :=hcell 0 _ rfl
       have g1 :=hcell 1 _ rfl
       have g2 :=hcell 2 _ rfl
       have g3 :=hcell 3 _ rfl
       have g4 :=hcell 4 _ rfl
       have g5 :=hcell 5 _ rfl
       have g6 :=hcell 6 _ rfl
       have g7 :=hcell 7 _ rfl
       simp only [As,Nat.add_zero] at g0 g1 g2 g3 g4 g5 g6 g7
       have hbx :=Aq W5 (.cells #[.int .i64 yo, .int .i64 yk, .int .i64 yn, .string ys2, .string ys, .string ym, .int .i64 yi, .slice ya yl yc] 34)
       have IH :=ih x _ C _ (IsE.keep (Ag ((hbx.mono hb7.size).mono hC)) _ _ hR.2) (Nat.le_trans hC (Nat.le_trans hb7.size hbx.size)) (Fe hfl (List.mem_of_getElem? hx)) ((HEN.out.next hb7).next hbx)
       have ET :Hid ((l.take (k+1)).all (geB d) = ((l.take k).all (geB d) &&geB d x)) :=by show _=_;rw [List.take_add_one,hx];simp
       have v0 : (0 :Int) ≤ (k :Int) :=by omega
       have v1 : (k :Int) < (l.length :Int) :=by omega
       have q9 :wrap64 ((d :Int) +1 - 1) = (d :Int) :=by unfold wrap64;omega
       generalize geB d x=gx at*
       clear hx hR hL hcell
       generalize hqq : (l.take k).all (geB d) =qq at*
       have HQQ :Hid _ :=hqq
       clear hqq
       cases hlf : (lf&&qq)
       ·go_wp2_with fail
        go_roundw
        case rel=>exact ⟨k+1,by omega,by go_num,by rw [ET.out,←Bool.and_assoc,hlf];rfl,hbw.trans (hbx.mono hbw.size)⟩
        case measure=>simp [intOf];omega
       ·go_wp2_with (go_at_call 25;go_fit IH;rintro e W6 ⟨rfl,hb8⟩)
        go_roundw
        case rel=>exact ⟨k+1,by omega,by go_num,by rw [ET.out,←Bool.and_assoc,hlf];rfl,(hbw.trans (hbx.mono hbw.size)).trans (hb8.mono (Nat.le_trans hbw.size hbx.size))⟩
        case measure=>simp [intOf];omega
      ·have hkn :k=l.length :=by omega
       subst hkn
       have v1 : ¬ ((l.length :Int) < (l.length :Int)) :=by omega
       go_wp2
       go_ret
       exact ⟨Aj (by rw [E2.out]),hb7⟩
theorem N3 : ∀d :Nat,d≤40→N2 d
 | 0,_=>Sj
 | d+1,h=>Sk d h (N3 d (by omega))
end Go.Proofs.YtmgkcjiejmhgcaaGreatDoor


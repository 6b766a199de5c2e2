/-
  3 texts of this proof in one, in build order: PKeys, DStep, PIdx.
-/
import Derived.Deep.RegionHeld3
import Derived.Deep.RegionLaw
import Derived.Laws.AppendOwnNone
import Derived.Test.YthehiijgnepcfaaGreatJ04
import Derived.Test.YthehiijgnepcfaaGreatJ07
set_option linter.unusedSimpArgs false
set_option linter.unusedVariables false
namespace Go.Proofs.YthehiijgnepcfaaGreat
open Go.RowKit
theorem I2 (a b :ByteArray) : (a++b).size=a.size+b.size :=ByteArray.size_append
set_option maxHeartbeats 1000000 in
theorem Jw (t :Wd) (w :World) (ht :t.size≤1000000) :Calls Tryz.prog 32 #[.string t] w fun e w'=>e= .returned (.string (Ek t)) ∧w'=w :=by
 have E :Hid (Ek t= (⟨#[114]⟩ ++t) ++ ⟨#[0]⟩) :=rfl
 generalize Ek t=r at E
 go_enter Tryz.func32,Tryz.ntmps32
 go_wp2
 go_ret
 exact ⟨by rw [E.out];rfl,rfl⟩
set_option maxHeartbeats 1000000 in
theorem I3 (t :Wd) (w :World) (ht :t.size≤1000000) :Calls Tryz.prog 36 #[.string t] w fun e w'=>e= .returned (.string (Dp t)) ∧w'=w :=by
 have E :Hid (Dp t= (⟨#[120]⟩ ++t) ++ ⟨#[0]⟩) :=rfl
 generalize Dp t=r at E
 go_enter Tryz.func36,Tryz.ntmps36
 go_wp2
 go_ret
 exact ⟨by rw [E.out];rfl,rfl⟩
set_option maxHeartbeats 1000000 in
theorem J9 (L :List V) (v :Value) (w :World) (hv :Bp w v L) (hlen :L.length*32≤140737488351232) (hss : ∀v∈L,v.s.size≤maxLen) :
  Calls Tryz.prog 52 #[v] w fun e w'=>e= .returned (.string (str (Ax L).1)) ∧Below w.heap.size w w' :=by
 have HK :=Age L v w hv hlen hss
 obtain ⟨ao,cap,rfl⟩ :=hv.shape
 generalize str (Ax L).1=s at HK
 generalize (Ax L).2=n at HK
 clear hv hss
 go_enter Tryz.func52,Tryz.ntmps52
 go_wp2_with (go_at_call 101;go_fit HK;rintro e w1 ⟨rfl,hb1⟩)
 go_ret
 exact ⟨rfl,hb1⟩
theorem Ld (t :Wd) : (Ek t).size=t.size+2 :=by simp only [Ek,I2];show 1+t.size+1=_;omega
theorem N0 (t :Wd) : (Dp t).size=t.size+2 :=by simp only [Dp,I2];show 1+t.size+1=_;omega
theorem Hj (L :List V) : (str (Ax L).1).size≤10*L.length :=by
 rw [P3]
 unfold Ax
 split
 ·rename_i h;exact Y0 L (by simpa using h)
 ·simp
set_option maxHeartbeats 2000000 in
theorem Mk (t :Wd) (id :V) (w :World) (ht :t.size≤1000000) (hs :id.s.size≤maxLen) :
  Calls Tryz.prog 21 #[.string t,id.val] w fun e w'=>e= .returned (.string (Gs t id)) ∧Below w.heap.size w w' :=by
 have E :Hid (Gs t id=Ek t++str (Ax [id]).1) :=rfl
 have HR :=fun w=>Jw t w ht
 have HK0 :=fun (w :World) =>J9 [id] (.slice (some ⟨w.heap.size,0,none⟩) 1 1) (w.alloc (.cells #[.int .i64 id.k, .int .i64 id.n, .string id.s] 32))
  (.inr ⟨_,_,_,rfl,by simp,fun i v hi=>by
   match i,hi with
   | 0,hi=>simp at hi;subst hi;exact ⟨Aa (Ab w _) rfl,Aa (Ab w _) rfl,Aa (Ab w _) rfl⟩⟩) (by simp) (by simpa using hs)
 have HK :=HK0 (w.alloc (.cells #[.int .i64 id.k, .int .i64 id.n, .string id.s] 32)).drew
 rw [show (w.alloc (.cells #[.int .i64 id.k, .int .i64 id.n, .string id.s] 32)).drew.heap.size=w.heap.size+1 from by show (w.alloc _).heap.size=_;simp] at HK
 clear HK0
 have hz : (Ek t).size≤1000002 :=by rw [Ld];omega
 have hz2 : (str (Ax [id]).1).size≤10 :=Hj [id]
 generalize Gs t id=r at E
 generalize Ek t=a at E HR hz
 generalize str (Ax [id]).1=b at E HK hz2
 have hz3 : ¬9223372036854775807<a.size+b.size :=by omega
 clear hz hz2
 obtain ⟨ik,inn,is⟩ :=id
 simp only [V.val] at HK⊢
 clear hs ht
 have blk : ((w.alloc (.cells #[.int .i64 ik, .int .i64 inn, .string is] 32)).drew.alloc (.cells #[.int .i64 ik, .int .i64 inn, .string is] 32)).heap[w.heap.size]? =some (.cells #[.int .i64 ik, .int .i64 inn, .string is] 32) :=Ac (w := (w.alloc (.cells #[.int .i64 ik, .int .i64 inn, .string is] 32)).drew) (Ab w _) _
 have HB :Hid _ :=blk
 clear blk
 go_enter Tryz.func21,Tryz.ntmps21
 go_wp2_with fail
 go_region_held3 (fun w'=>w'.cell? ⟨w.heap.size,0,none⟩ =some (.int .i64 ik) ∧w'.cell? ⟨w.heap.size,1,none⟩ =some (.int .i64 inn) ∧w'.cell? ⟨w.heap.size,2,none⟩ =some (.string is)) (first | exact S1 | (go_keep;done))
  (first | (go_at_call 32;go_fit (HR _);rintro e w1 ⟨rfl,rfl⟩) | (go_at_call 52;go_fit HK;rintro e w2 ⟨rfl,hb2⟩;have hq := (hb2.block w.heap.size (lt_of_block HB.out)).trans HB.out;have S1 :_∧_∧_ := ⟨Aa hq (j :=0) rfl,Aa hq (j :=1) rfl,Aa hq (j :=2) rfl⟩))
 all_goals
  go_wp2
  go_ret
  exact ⟨by rw [E.out];rfl,((Ao w _).drew.alloc (Ao w _).size _).trans (hb2.mono (by simp;omega))⟩
set_option maxHeartbeats 2000000 in
theorem Wb (t :Wd) (x id :V) (w :World) (ht :t.size≤1000000) (hx :x.s.size≤maxLen) (hs :id.s.size≤maxLen) :
  Calls Tryz.prog 102 #[.string t,x.val,id.val] w fun e w'=>e= .returned (.string (Fh t x id)) ∧Below w.heap.size w w' :=by
 have E :Hid (Fh t x id=Dp t++str (Ax [x,id]).1) :=rfl
 have HR :=fun w=>I3 t w ht
 have HK0 :=fun (w :World) =>J9 [x,id] (.slice (some ⟨w.heap.size,0,none⟩) 2 2) (w.alloc (.cells #[.int .i64 x.k, .int .i64 x.n, .string x.s, .int .i64 id.k, .int .i64 id.n, .string id.s] 32))
  (.inr ⟨_,_,_,rfl,by simp,fun i v hi=>by
   match i,hi with
   | 0,hi=>simp at hi;subst hi;exact ⟨Aa (Ab w _) rfl,Aa (Ab w _) rfl,Aa (Ab w _) rfl⟩
   | 1,hi=>simp at hi;subst hi;exact ⟨Aa (Ab w _) rfl,Aa (Ab w _) rfl,Aa (Ab w _) rfl⟩⟩) (by simp) (by simpa using ⟨hx,hs⟩)
 have HK :=HK0 ((w.alloc (.cells #[.int .i64 x.k, .int .i64 x.n, .string x.s] 32)).alloc (.cells #[.int .i64 id.k, .int .i64 id.n, .string id.s] 32)).drew
 rw [show ((w.alloc (.cells #[.int .i64 x.k, .int .i64 x.n, .string x.s] 32)).alloc (.cells #[.int .i64 id.k, .int .i64 id.n, .string id.s] 32)).drew.heap.size=w.heap.size+2 from by show ((w.alloc _).alloc _).heap.size=_;simp] at HK
 clear HK0
 have hz : (Dp t).size≤1000002 :=by rw [N0];omega
 have hz2 : (str (Ax [x,id]).1).size≤20 :=Hj [x,id]
 generalize Fh t x id=r at E
 generalize Dp t=a at E HR hz
 generalize str (Ax [x,id]).1=b at E HK hz2
 have hz3 : ¬9223372036854775807<a.size+b.size :=by omega
 clear hz hz2
 obtain ⟨ik,inn,is⟩ :=id
 obtain ⟨xk,xn,xs⟩ :=x
 simp only [V.val] at HK⊢
 clear hs hx ht
 have HB1 :Hid _ :=Ac (w := ((w.alloc (.cells #[.int .i64 xk, .int .i64 xn, .string xs] 32)).alloc (.cells #[.int .i64 ik, .int .i64 inn, .string is] 32)).drew) (Ac (Ab w (.cells #[.int .i64 xk, .int .i64 xn, .string xs] 32)) (.cells #[.int .i64 ik, .int .i64 inn, .string is] 32)) (.cells #[.int .i64 xk, .int .i64 xn, .string xs, .int .i64 ik, .int .i64 inn, .string is] 32)
 have HB2 :Hid _ :=Ac (w := ((w.alloc (.cells #[.int .i64 xk, .int .i64 xn, .string xs] 32)).alloc (.cells #[.int .i64 ik, .int .i64 inn, .string is] 32)).drew) (Aq w (.cells #[.int .i64 xk, .int .i64 xn, .string xs] 32) (.cells #[.int .i64 ik, .int .i64 inn, .string is] 32)) (.cells #[.int .i64 xk, .int .i64 xn, .string xs, .int .i64 ik, .int .i64 inn, .string is] 32)
 go_enter Tryz.func102,Tryz.ntmps102
 go_wp2_with fail
 go_region_held3 (fun w'=>w'.cell? ⟨w.heap.size,0,none⟩ =some (.int .i64 xk) ∧w'.cell? ⟨w.heap.size,1,none⟩ =some (.int .i64 xn) ∧w'.cell? ⟨w.heap.size,2,none⟩ =some (.string xs) ∧w'.cell? ⟨w.heap.size+1,0,none⟩ =some (.int .i64 ik) ∧w'.cell? ⟨w.heap.size+1,1,none⟩ =some (.int .i64 inn) ∧w'.cell? ⟨w.heap.size+1,2,none⟩ =some (.string is)) (first | exact S1 | (go_keep;done))
  (first | (go_at_call 36;go_fit (HR _);rintro e w1 ⟨rfl,rfl⟩) | (go_at_call 52;go_fit HK;rintro e w2 ⟨rfl,hb2⟩;have hq := (hb2.block w.heap.size (lt_of_block HB1.out)).trans HB1.out;have hq2 := (hb2.block (w.heap.size+1) (lt_of_block HB2.out)).trans HB2.out;have S1 :_∧_∧_∧_∧_∧_ := ⟨Aa hq (j :=0) rfl,Aa hq (j :=1) rfl,Aa hq (j :=2) rfl,Aa hq2 (j :=0) rfl,Aa hq2 (j :=1) rfl,Aa hq2 (j :=2) rfl⟩))
 all_goals
  go_wp2
  go_ret
  exact ⟨by rw [E.out];rfl,((Bb w _ _).drew.alloc (Bb w _ _).size _).trans (hb2.mono (by simp;omega))⟩
theorem N3 {fn :Func} {p :Tmp} {w0 w :World} {g :Nat} {a :Act} {c0 c1 c2 :Value} {t ty :TypeId} {fr :Nat×Nat} {fs :Array Field} (x y z :Value) (hr :fn.results= #[.cell p ty]) (hp :a.tmps.getD p undef= .pointer (some ⟨g,0,none⟩)) (hd :a.defers= [])
  (hg :w.heap[g]? =some (.cells #[c0,c1,c2] t fr)) (hb :Below w0.heap.size w0 w) (hlt :w0.heap.size≤g)
  (hu :Tryz.prog.underlying ty=some (.struct fs)) (hi : (Tryz.prog.info? ty).map (·.size) =some 3) :
  bodyPost Tryz.prog fn (fun e w'=>e= .returned (.agg #[x,y,z]) ∧Below w0.heap.size w0 w') .ret a (((w.setCell ⟨g,0,none⟩ x).setCell ⟨g,1,none⟩ y).setCell ⟨g,2,none⟩ z) :=
 bodyPost_ret (results_cell_row hr a.tmps _ g t _ fr _ hp (Ahh hg) hu rfl hi) hd ⟨rfl,((hb.setCell hlt _).setCell hlt _).setCell hlt _⟩
def Fi (x lo hi :Wd) :Value := .agg #[.string x, .string lo, .string hi]
set_option maxHeartbeats 1000000 in
theorem Fa (s :Wd) (w :World) (hs :s.size≤1000000) :Calls Tryz.prog 54 #[.string s] w fun e w'=>e= .returned (.agg #[.string s, .string (s++ ⟨#[255]⟩)]) ∧Below w.heap.size w w' :=by
 go_enter Tryz.func54,Tryz.ntmps54
 go_wp2
 refine bodyPost_ret (v := .agg #[.string s, .string (s++ ⟨#[255]⟩)]) (by simp [results,Tryz.results54,go_sem, *]) rfl ⟨rfl, ?_⟩
 exact Ao w _
set_option maxHeartbeats 1000000 in
theorem Sy (lo hi x b :Wd) (w :World) (hl :lo.size≤1000000) (hh :hi.size≤1000000) (hb :b.size≤1000000) :Calls Tryz.prog 31 #[.agg #[.string lo, .string hi], .string x, .string b] w fun e w'=>e= .returned (Fi x (b++lo) (b++hi)) ∧Below w.heap.size w w' :=by
 have h1 : ¬9223372036854775807<b.size+lo.size :=by omega
 have h2 : ¬9223372036854775807<b.size+hi.size :=by omega
 clear hl hh hb
 go_enter Tryz.func31,Tryz.ntmps31
 go_wp2
 refine bodyPost_ret (v :=Fi x (b++lo) (b++hi)) (by simp [results,Fi,Tryz.results31,go_sem, *]) rfl ⟨rfl, ?_⟩
 exact Bb w _ _
set_option maxHeartbeats 1000000 in
theorem Y9 (t :Wd) (w :World) (ht :t.size≤100000) :Calls Tryz.prog 17 #[.string t] w fun e w'=>e= .returned (Fi noW (Dr t) (Ds t)) ∧Below w.heap.size w w' :=by
 have HB :=fun w=>Fa noW w (by decide)
 have HR :=fun w=>Jw t w (by omega)
 have HW :=fun w=>Sy noW (noW++ ⟨#[255]⟩) noW (Ek t) w (by decide) (by decide) (by rw [Ld];omega)
 have e1 :Hid (Dr t=Ek t++noW) :=rfl
 have e2 :Hid (Ds t=Ek t++ (noW++ ⟨#[255]⟩)) :=rfl
 rw [←e1.out,←e2.out] at HW
 generalize Dr t=lo at e1 HW⊢
 generalize Ds t=hi at e2 HW⊢
 generalize Ek t=b at HR HW
 generalize (noW++ ⟨#[255]⟩ :Wd) =f at HB HW
 clear e1 e2 ht
 unfold Fi at HW⊢
 go_enter Tryz.func17,Tryz.ntmps17
 go_wp2_with (first | (go_at_call 54;go_fit (HB _);rintro e w1 ⟨rfl,hb1⟩;have b1 := (hb1.block w.heap.size (by simp)).trans (Ab w (.cells #[.string noW, .string noW, .string noW] 53))) | (go_at_call 32;go_fit (HR _);rintro e w2 ⟨rfl,rfl⟩) | (go_at_call 31;go_fit (HW _);rintro e w3 ⟨rfl,hb3⟩;have b3 := (hb3.block w.heap.size (lt_of_block b1)).trans b1;have d0 :=Aa b3 (j :=0) rfl;have d1 :=Aa b3 (j :=1) rfl;have d2 :=Aa b3 (j :=2) rfl;have d3 : ∀o,w3.frozen? ⟨w.heap.size,o,none⟩ =false := (fun o=>by simp [World.frozen?,b3])))
 exact N3 _ _ _ Tryz.results17 rfl rfl b3 (Ad (Ad (Ao w _) hb1) hb3) (Nat.le_refl _) Tryz.underlying53 (by kernel_rfl)
set_option maxHeartbeats 1000000 in
theorem Ku (nmv :Wd) (so :Option Addr) (sn sc :Nat) (ro :Option Addr) (rn rc :Nat) (w :World) :
  Calls Tryz.prog 28 #[.agg #[.string nmv, .slice so sn sc], .slice ro rn rc] w fun e w'=>e= .returned (.bool (decide (0<rn) &&decide (rn=sn))) ∧Below w.heap.size w w' :=by
 by_cases h0 :0<rn
 ·by_cases h1 :rn=sn
  ·subst h1
   have q0 : (0 :Int) < (rn :Int) :=by omega
   go_enter Tryz.func28,Tryz.ntmps28
   go_wp2
   go_ret
   exact ⟨Ag (by simp [h0]),Ao _ _⟩
  ·have q0 : (0 :Int) < (rn :Int) :=by omega
   have q1 : ¬ (rn :Int) = (sn :Int) :=by omega
   go_enter Tryz.func28,Tryz.ntmps28
   go_wp2
   go_ret
   exact ⟨Ag (by simp [h1];omega),Ao _ _⟩
 ·have q0 : ¬ (0 :Int) < (rn :Int) :=by omega
  go_enter Tryz.func28,Tryz.ntmps28
  go_wp2
  go_ret
  exact ⟨Ag (by simp),Ao _ _⟩
set_option maxHeartbeats 2000000 in
theorem L4 (t :TabD) (x :IdxD) (sv :Value) (C :Nat) (w :World) (hl :IsL Cc (fun k=>k<C) w sv t.cols) (hC :C≤w.heap.size) :
  Calls Tryz.prog 34 #[.agg #[.string t.name,sv], .agg #[.string x.name, .string x.table, .string x.col]] w fun e w'=>e= .returned (.int .i64 (Dq t x)) ∧Below w.heap.size w w' :=by
 obtain ⟨tn,cols⟩ :=t
 obtain ⟨xn,xt,xc⟩ :=x
 simp only at hl⊢
 obtain ⟨ao,c,rfl⟩ :=hl.shape
 have hb2 :=Bb w (.cells #[.string tn, .slice ao cols.length c] 43) (.cells #[.string xn, .string xt, .string xc] 89)
 have HF :=Jj cols tn (.slice ao cols.length c) xc C _ (hl.keep (Af (hb2.mono hC))) (Nat.le_trans hC hb2.size)
 have E :Hid (Dq ⟨tn,cols⟩ ⟨xn,xt,xc⟩ =if xt=tn then Cy cols xc else -1) :=rfl
 generalize Dq ⟨tn,cols⟩ ⟨xn,xt,xc⟩ =r at E
 generalize Cy cols xc=q at E HF
 clear hl
 by_cases h :xt=tn
 ·have hq : (xt.toList==tn.toList) =true :=by rw [G5];simp [h]
  have E2 :Hid (r=q) :=by show _=_;rw [E.out,if_pos h]
  clear E
  clear h
  go_enter Tryz.func34,Tryz.ntmps34
  go_wp2_with (go_at_call 71;go_fit HF;rintro e w1 ⟨rfl,hb1⟩)
  go_ret
  exact ⟨An (by rw [E2.out]),Ad hb2 hb1⟩
 ·have hq : (xt.toList==tn.toList) =false :=by rw [G5];simp [h]
  have E2 :Hid (r= -1) :=by show _=_;rw [E.out,if_neg h]
  clear E HF
  go_enter Tryz.func34,Tryz.ntmps34
  go_wp2
  go_ret
  exact ⟨An (by rw [E2.out]),hb2⟩
end Go.Proofs.YthehiijgnepcfaaGreat

namespace Go.Proofs.YthehiijgnepcfaaGreat
open Go.RowKit
theorem Gu {P :Program} {w :World} {ops :Array Oper} {o :Oper} {a :Act} {K :Act→World→Prop} {Q :Exit→Act→World→Prop} {E :Prop} (hgd :o.guard=none) (s x :Operand) (t :TypeId)
  (ho :o.op= .call {callee := .builtin .append,args := #[s,x],argTypes := #[t,t]})
  (base :Nat) (e :TypeId) (i :TypeInfo) (z :Value) (size bytes :Nat) (ht :P.underlying t=some (.slice e)) (hi :P.info? e=some i) (hz :i.zero=some z)
  (hsize :i.size=size) (hby :i.bytes=bytes) (hzs :z.cells.size=size) (hsz :0<size)
  (v :Value) (n :Nat) (xs :List Value) (hs :a.eval s=v) (hown :w.ownsRow base e size v n xs)
  (ad :Addr) (m c :Nat) (news :List Value) (hx :a.eval x= .slice (some ad) m c) (hl :news.length=m*size) (hnews : ∀j u,news[j]? =some u→w.cell? (ad.add j) =some u) (h1 : ∀u∈news,u.oneCell'=true)
  (h63 :n+m≤maxLen) (hbytes : (n+m) *bytes≤140737488355328) (hbase :base≤w.heap.size)
  (h : ∀v' w',w'.ownsRow base e size v' (n+m) (xs++news) →w.grownBy w' v.ownBlock→ (v'.ownBlock=v.ownBlock∨v'.ownBlock=some w.heap.size) →K (a.put o.dst v') w') :
  if Region.wanted o (yielded ops a.tmps) =true then Oper.wp P o a w K Q else E :=by
 have hw :Region.wanted o (yielded ops a.tmps) =true :=by simp [Region.wanted,hgd]
 rw [if_pos hw]
 obtain ⟨v',w',hr,h2,h3,h4,h5⟩ :=run_append_own_at (P :=P) w base t o.type e i z size bytes ht hi hz hsize hby hzs hsz v n xs hown ad m c news hl hnews h1 h63 hbytes hbase
 unfold Oper.wp execOp
 simp only [ho,resolve,invoke,builtin,Sem.run_bind,Sem.run_pure,Result.andThen_ok,List.map_toArray,List.map_cons,List.map_nil,hs,hx,hr]
 exact h v' w' h2 h3 h5
theorem Qc {P :Program} {w :World} {ops :Array Oper} {o :Oper} {a :Act} {K :Act→World→Prop} {Q :Exit→Act→World→Prop} {E :Prop} (hgd :o.guard=none) (s x :Operand) (t :TypeId)
  (ho :o.op= .call {callee := .builtin .append,args := #[s,x],argTypes := #[t,t]})
  (base :Nat) (e :TypeId) (i :TypeInfo) (size :Nat) (ht :P.underlying t=some (.slice e)) (hi :P.info? e=some i)
  (v :Value) (n :Nat) (xs :List Value) (hs :a.eval s=v) (hown :w.ownsRow base e size v n xs) (hx :a.eval x= .slice none 0 0)
  (h :K (a.put o.dst v) w) :
  if Region.wanted o (yielded ops a.tmps) =true then Oper.wp P o a w K Q else E :=by
 have hw :Region.wanted o (yielded ops a.tmps) =true :=by simp [Region.wanted,hgd]
 rw [if_pos hw]
 have hrun :=run_append_owned_none (P :=P) (w :=w) base t o.type e i size ht hi v n xs hown
 unfold Oper.wp
 simp [execOp,ho,resolve,invoke,builtin,hs,hx,hrun,Result.andThen]
 exact h
def Far (B :Nat) (w :World) (z v :Value) :Prop := (∀j,v.ownBlock=some j→B≤j∧j<w.heap.size) ∧ (z.ownBlock=none∨v.ownBlock≠z.ownBlock)
theorem Sz {w :World} {ops :Array Oper} {o :Oper} {a :Act} {K :Act→World→Prop} {Q :Exit→Act→World→Prop} {E :Prop} (hgd :o.guard=none) (s x :Operand)
  (ho :o.op= .call {callee := .builtin .append,args := #[s,x],argTypes := #[29,29]})
  (hs :a.eval s= .slice none 0 0) (xv :Value) (L :List ByteArray) (hx :a.eval x=xv) (hL :Aj w xv L) (hl :L.length≤1048576)
  (h : ∀ao c w',Aj w' (.slice ao L.length c) L→Below w.heap.size w w'→ (∀j,(Value.slice ao L.length c).ownBlock=some j→w.heap.size≤j∧j<w'.heap.size) →K (a.put o.dst (.slice ao L.length c)) w') :
  if Region.wanted o (yielded ops a.tmps) =true then Oper.wp Tryz.prog o a w K Q else E :=by
 obtain ⟨i0,hi,hz0,hz1,hz2⟩ :=info_parts Hh
 have own0 :=World.ownsRow_nil w w.heap.size 9 1
 have fin : ∀v' w',w'.ownsRow w.heap.size 9 1 v' L.length (L.map .string) →Below w.heap.size w w'→K (a.put o.dst v') w' :=by
  intro v' w' ho' hb'
  have hst :Aj w' v' L :=Dz.of_own ho'
  obtain ⟨ao,c,rfl⟩ :=Dz.shape hst
  exact h ao c w' hst hb' (fun j hj=>ho'.lt j hj)
 rcases hL.2 with ⟨h0,ao,cap,rfl,hnil⟩ | ⟨h0,b,off,cap,rfl,hb,hc,hm,hcell⟩
 ·have hLn :=List.eq_nil_of_length_eq_zero h0
  subst hLn
  rcases ao with _ | ad
  ·obtain rfl :=hnil rfl
   exact Qc hgd s x 29 ho w.heap.size 9 i0 1 Tryz.underlying29 hi _ 0 [] hs own0 hx (fin _ _ own0 (Below.refl _ _))
  ·refine Gu hgd s x 29 ho w.heap.size 9 i0 _ 1 16 Tryz.underlying29 hi hz0 hz1 hz2 rfl (by decide) _ 0 [] hs own0 ad 0 cap [] hx (by simp) (by intro j u hj;simp at hj) (by simp) (by simp [maxLen]) (by omega) (Nat.le_refl _) ?_
   intro v' w' ho' hg' _
   exact fin v' w' ho' ((Below.refl _ _).grown hg' (Nat.le_refl _) (fun k hk=>by simp [Value.ownBlock] at hk))
 ·refine Gu hgd s x 29 ho w.heap.size 9 i0 _ 1 16 Tryz.underlying29 hi hz0 hz1 hz2 rfl (by decide) _ 0 [] hs own0 ⟨b,off,none⟩ L.length cap (L.map .string) hx (by simp) (by intro j u hj;rw [Addr.add_lit];exact hcell j u hj) (Kr L) (by simp only [maxLen];omega) (by omega) (Nat.le_refl _) ?_
  intro v' w' ho' hg' _
  rw [Nat.zero_add,List.nil_append] at ho'
  exact fin v' w' ho' ((Below.refl _ _).grown hg' (Nat.le_refl _) (fun k hk=>by simp [Value.ownBlock] at hk))
theorem Afw {w :World} {ops :Array Oper} {o :Oper} {a :Act} {K :Act→World→Prop} {Q :Exit→Act→World→Prop} {E :Prop} (hgd :o.guard=none) (s x :Operand)
  (ho :o.op= .call {callee := .builtin .append,args := #[s,x],argTypes := #[29,29]})
  (hs :a.eval s= .slice none 0 0) (xv :Value) (L :List ByteArray) (n :Nat) (hn :L.length=n) (hx :a.eval x=xv) (hL :Aj w xv L) (hl :n≤1048576)
  (h : ∀ao c w',Aj w' (.slice ao n c) L→Below w.heap.size w w'→ (∀j,(Value.slice ao n c).ownBlock=some j→w.heap.size≤j∧j<w'.heap.size) →K (a.put o.dst (.slice ao n c)) w') :
  if Region.wanted o (yielded ops a.tmps) =true then Oper.wp Tryz.prog o a w K Q else E :=by
 subst hn
 exact Sz hgd s x ho hs xv L hx hL hl h
end Go.Proofs.YthehiijgnepcfaaGreat

namespace Go.Proofs.YthehiijgnepcfaaGreat
open Go.RowKit
theorem Aea {I :List IdxD} {t :TabD} {r :List V} {k :Nat} {x :IdxD} (h :I[k]? =some x) :iks (I.take (k+1)) t r=iks (I.take k) t r++ (Mi t r x).toList :=by
 rw [List.take_add_one,h]
 simp only [iks,List.filterMap_append,Option.toList_some]
 cases hx :Mi t r x<;>simp [hx]
theorem Aeb {l :List ColD} {s :Wd} :Cy l s= -1∨ ∃p :Nat,Cy l s= (p :Int) ∧p<l.length :=by
 rcases J7 l (fun x=>decide (x.name=s)) with ⟨h1,_⟩ | ⟨k,x,h1,h2,_⟩
 ·exact .inl h1
 ·exact .inr ⟨k,h1,(List.getElem?_eq_some_iff.1 h2).1⟩
theorem Qd (t :TabD) (x :IdxD) :Dq t x= -1∨ ∃p :Nat,Dq t x= (p :Int) ∧p<t.cols.length :=by
 unfold Dq
 split
 ·exact Aeb
 ·exact .inl rfl
theorem Ab6 {G W :World} {g rb :Nat} {a0 a1 a2 a3 a4 a5 a6 :Value} {o1 o2 :Nat}
  (h :G.cell? ⟨g,0,none⟩ =some a0∧G.cell? ⟨rb,o1,none⟩ =some a1∧G.cell? ⟨rb,o1+1,none⟩ =some a2∧G.cell? ⟨rb,o1+2,none⟩ =some a3∧G.cell? ⟨rb,o2,none⟩ =some a4∧G.cell? ⟨rb,o2+1,none⟩ =some a5∧G.cell? ⟨rb,o2+2,none⟩ =some a6)
  (h1 :W.heap[g]? =G.heap[g]?) (h2 :W.heap[rb]? =G.heap[rb]?) :
  W.cell? ⟨g,0,none⟩ =some a0∧W.cell? ⟨rb,o1,none⟩ =some a1∧W.cell? ⟨rb,o1+1,none⟩ =some a2∧W.cell? ⟨rb,o1+2,none⟩ =some a3∧W.cell? ⟨rb,o2,none⟩ =some a4∧W.cell? ⟨rb,o2+1,none⟩ =some a5∧W.cell? ⟨rb,o2+2,none⟩ =some a6 :=by
 obtain ⟨c0,c1,c2,c3,c4,c5,c6⟩ :=h
 exact ⟨(World.cell?_of_block h1).trans c0,(World.cell?_of_block h2).trans c1,(World.cell?_of_block h2).trans c2,(World.cell?_of_block h2).trans c3,(World.cell?_of_block h2).trans c4,(World.cell?_of_block h2).trans c5,(World.cell?_of_block h2).trans c6⟩
set_option maxRecDepth 100000 in
set_option maxHeartbeats 4000000 in
theorem U4 (I :List IdxD) (t :TabD) (r :List V) (tv iv sv rv :Value) (C :Nat) (w :World) (htv :E1 tv)
  (hi :IsL Fg (fun k=>k<C) w iv I) (hl :IsL Cc (fun k=>k<C) w sv t.cols) (hC :C≤w.heap.size) (hr :Bp w rv r) (hrl :r.length=t.cols.length) (h0 :0<r.length) (hs : ∀v∈r,v.s.size≤maxLen) (hin : ∀x∈I,x.name.size≤1000000) (hn :I.length≤1000000) :
  Calls Tryz.prog 53 #[.agg #[tv,iv], .agg #[.string t.name,sv],rv] w fun e w'=> ∃kv,e= .returned kv∧Aj w' kv (iks I t r) ∧Below w.heap.size w w' :=by
 obtain ⟨to',tn,tc,rfl⟩ :=htv
 obtain ⟨io,ic,rfl⟩ :=hi.shape
 obtain ⟨so,sc,rfl⟩ :=hl.shape
 obtain ⟨i0,hi0,hz0,hz1,hz2⟩ :=info_parts Hh
 rcases hr with ⟨_,rfl⟩ | ⟨rb,ro,rcap,rfl,hrb,hR⟩
 ·simp at h0
 have hb2 :=Bb w (.cells #[.slice to' tn tc, .slice io I.length ic] 25) (.cells #[.string t.name, .slice so t.cols.length sc] 43)
 generalize hW : (w.alloc (.cells #[.slice to' tn tc, .slice io I.length ic] 25)).alloc (.cells #[.string t.name, .slice so t.cols.length sc] 43) =W2 at hb2
 have bC :W2.heap[w.heap.size]? =some (.cells #[.slice to' tn tc, .slice io I.length ic] 25) :=by rw [←hW];exact Ac (Ab w _) _
 have bT :W2.heap[w.heap.size+1]? =some (.cells #[.string t.name, .slice so t.cols.length sc] 43) :=by rw [←hW];exact Aq _ _ _
 have cC1 :=Aa bC (j :=1) rfl
 have hW2s :Hid (W2.heap.size=w.heap.size+2) :=by show _=_;rw [←hW];simp
 have HW :Hid _ :=hW
 clear hW
 have HI :Hid _ :=hi
 have HL :Hid _ :=hl
 have HS :Hid _ :=hs
 have HN :Hid _ :=hin
 clear hi hl hs hin
 have HRL :Hid _ :=hrl
 clear hrl
 go_enter Tryz.func53,Tryz.ntmps53
 go_upto_region 1 with fail
 rw [HW.out]
 go_wp2
 go_loopw [7,14] (fun kv i wr=> ∃k :Nat,k≤I.length∧i= .int .i64 k∧wr.ownsRow W2.heap.size 9 1 kv (iks (I.take k) t r).length ((iks (I.take k) t r).map .string) ∧Below W2.heap.size W2 wr) (fun _ i _=>I.length - (intOf i).toNat)
 case atStart=>exact ⟨0,Nat.zero_le _,rfl,World.ownsRow_nil _ _ _ _,Below.refl _ _⟩
 case round=>
  obtain ⟨k,hk,rfl,hown,hbel⟩ :=hrel
  by_cases hlt :k<I.length
  ·obtain ⟨x,hx⟩ : ∃x,I[k]? =some x := ⟨_,List.getElem?_eq_getElem hlt⟩
   obtain ⟨b,off,cs,rfl,hbC,hbl,hR1,hcell⟩ :=A4 HI.out hx
   obtain rfl :=hR1
   have hbw :Below w.heap.size w wr :=hb2.trans (hbel.mono (by have :=hb2.size;omega))
   have d0 := (hbw.cell (p := ⟨b,off+k*3,none⟩) hbl).trans (by have :=hcell 0 _ rfl;simpa [Fg] using this)
   have d1 := (hbw.cell (p := ⟨b,off+k*3+1,none⟩) hbl).trans (by have :=hcell 1 _ rfl;simpa [Fg] using this)
   have d2 := (hbw.cell (p := ⟨b,off+k*3+2,none⟩) hbl).trans (by have :=hcell 2 _ rfl;simpa [Fg] using this)
   have hsz :=hbel.size
   have hw2 :w.heap.size+2≤wr.heap.size :=by have :=hW2s.out;omega
   have k0 : (0 :Int) ≤ (k :Int) :=by omega
   have k1 : (k :Int) < (I.length :Int) :=by omega
   have bT' := (hbel.block (w.heap.size+1) (lt_of_block bT)).trans bT
   have t0 :=Aa bT' (j :=0) rfl
   have t1 :=Aa bT' (j :=1) rfl
   have t0a := ((Ao wr (.cells #[.string x.name, .string x.table, .string x.col] 89)).cell (p := ⟨w.heap.size+1,0,none⟩) (show w.heap.size+1<_ by omega)).trans t0
   have t1a := ((Ao wr (.cells #[.string x.name, .string x.table, .string x.col] 89)).cell (p := ⟨w.heap.size+1,1,none⟩) (show w.heap.size+1<_ by omega)).trans t1
   have HX :=L4 t x (.slice so t.cols.length sc) C (wr.alloc (.cells #[.string x.name, .string x.table, .string x.col] 89)) (IsL.keep HL.out (Af ((hbw.alloc (by omega) _).mono hC))) (Nat.le_trans hC (hbw.alloc (by omega) _).size)
   have HXI :Hid (iks (I.take (k+1)) t r=iks (I.take k) t r++ (Mi t r x).toList) :=Aea hx
   have hxn :=HN.out x (List.mem_of_getElem? hx)
   clear hx hcell
   rcases Qd t x with hq | ⟨p,hq,hp⟩
   ·have E2 :Hid (iks (I.take (k+1)) t r=iks (I.take k) t r) :=by show _=_;rw [HXI.out,Mi,hq];simp
    rw [hq] at HX
    clear hq HXI
    go_wp2_with (go_at_call 34;go_fit HX;rintro e w1 ⟨rfl,hb1⟩)
    go_roundw
    case rel=>exact ⟨k+1,by omega,by go_num,by rw [E2.out];exact Ar hown (Ad (Ao _ _) hb1),hbel.trans ((Ad (Ao _ _) hb1).mono hsz)⟩
    case measure=>simp [intOf];omega
   ·have hpr :p<r.length :=by rw [HRL.out];exact hp
    obtain ⟨v,hv⟩ : ∃v,r[p]? =some v := ⟨_,List.getElem?_eq_getElem hpr⟩
    obtain ⟨u,hu⟩ : ∃u,r[0]? =some u := ⟨_,List.getElem?_eq_getElem h0⟩
    have E2 :Hid (iks (I.take (k+1)) t r=iks (I.take k) t r++ [Fh x.name v u]) :=by
     show _=_
     rw [HXI.out,Mi,hq,if_pos (by omega)]
     simp only [Int.toNat_natCast,Option.toList_some]
     rw [List.getD_eq_getElem?_getD,hv,show r.headD zero=u from by rw [List.headD_eq_head?_getD,List.head?_eq_getElem?,hu];rfl]
     rfl
    rw [hq] at HX
    obtain ⟨e0,e1,e2⟩ :=hR p v hv
    obtain ⟨f0,f1,f2⟩ :=hR 0 u hu
    simp only [Nat.zero_mul,Nat.add_zero] at f0 f1 f2
    have HK :=fun W=>Wb x.name v u W hxn (HS.out v (List.mem_of_getElem? hv)) (HS.out u (List.mem_of_getElem? hu))
    have p0 : (0 :Int) ≤ (p :Int) :=by omega
    have p1 : (p :Int) < (r.length :Int) :=by omega
    have p2 : (0 :Int) < (r.length :Int) :=by omega
    clear hq HXI hv hu hpr hp
    generalize Fh x.name v u=key at E2 HK
    obtain ⟨vk,vn,vs⟩ :=v
    obtain ⟨uk,un,us⟩ :=u
    simp only [V.val] at HK
    have hnl : (iks (I.take k) t r).length≤1000000 :=Nat.le_trans (Rc _ _ _) (by simp;omega)
    have ho0 :=hown.lt
    go_wp2_with (go_at_call 34;go_fit HX;rintro e w1 ⟨rfl,hb1⟩)
    have hbw1 :Below w.heap.size w w1 :=hbw.trans ((Ad (Ao _ _) hb1).mono (by omega))
    have bX := (hb1.block wr.heap.size (by simp)).trans (Ab wr _)
    have hwr1 :wr.heap.size<w1.heap.size :=lt_of_block bX
    have hrb1 :rb<w1.heap.size :=Nat.lt_of_lt_of_le hrb hbw1.size
    have KS :Hid _ :=fun W=>Ab6 (W :=W) ⟨Aa bX (j :=0) (u := .string x.name) rfl,(hbw1.cell (p := ⟨rb,ro+p*3,none⟩) hrb).trans e0,(hbw1.cell (p := ⟨rb,ro+p*3+1,none⟩) hrb).trans e1,(hbw1.cell (p := ⟨rb,ro+p*3+2,none⟩) hrb).trans e2,(hbw1.cell (p := ⟨rb,ro,none⟩) hrb).trans f0,(hbw1.cell (p := ⟨rb,ro+1,none⟩) hrb).trans f1,(hbw1.cell (p := ⟨rb,ro+2,none⟩) hrb).trans f2⟩
    have s0 :=KS.out w1.drew rfl rfl
    have own1 :=Ar hown (Ad (Ao _ _) hb1)
    go_region_held3 (fun W=>W.cell? ⟨wr.heap.size,0,none⟩ =some (.string x.name) ∧W.cell? ⟨rb,ro+p*3,none⟩ =some (.int .i64 vk) ∧W.cell? ⟨rb,ro+p*3+1,none⟩ =some (.int .i64 vn) ∧W.cell? ⟨rb,ro+p*3+2,none⟩ =some (.string vs) ∧W.cell? ⟨rb,ro,none⟩ =some (.int .i64 uk) ∧W.cell? ⟨rb,ro+1,none⟩ =some (.int .i64 un) ∧W.cell? ⟨rb,ro+2,none⟩ =some (.string us))
     (with_reducible first | exact s4 | exact s3 | exact s2 | exact s0)
     (first
      | (go_at_call 102;go_fit (HK _);rintro e w2 ⟨rfl,hb2'⟩;have hB2 :Below w1.heap.size w1 w2 :=Ad (Below.refl _ _).drew hb2';have s2 :=KS.out w2 (hB2.block _ hwr1) (hB2.block _ hrb1);have hB3 :Below w1.heap.size w1 (w2.alloc (.cells #[.string key] 9)) :=hB2.alloc hB2.size _;have s3 :=KS.out _ (hB3.block _ hwr1) (hB3.block _ hrb1))
      | (refine Gu (by rfl) _ _ 29 (by rfl) W2.heap.size 9 i0 _ 1 16 Tryz.underlying29 hi0 hz0 hz1 hz2 rfl (by decide) u7 _ _ (by rfl) (Ar own1 hB3) ⟨w2.heap.size,0,none⟩ 1 1 [.string key] (by rfl) rfl (Cl _ _ _) (by simp;rfl) (by simp only [maxLen];omega) (by omega) (by have :=hB3.size;omega) ?_;intro zv w3 own3 gr3 at3;have s4 :=KS.out w3 ((gr3.block _ (Nat.lt_of_lt_of_le hwr1 hB3.size) (fun h=>by have := (ho0 _ h.symm).2;omega)).trans (hB3.block _ hwr1)) ((gr3.block _ (Nat.lt_of_lt_of_le hrb1 hB3.size) (fun h=>by have := (ho0 _ h.symm).1;have :=hb2.size;omega)).trans (hB3.block _ hrb1))))
    go_wp2
    go_roundw
    case rel=>
     refine ⟨k+1,by omega,by go_num, ?_, ?_⟩
     ·rw [E2.out,List.length_append,List.map_append];exact own3
     ·exact Below.grown (hbel.trans ((Ad (Ad (Ao _ _) hb1) hB3).mono hsz)) gr3 (by have :=hB3.size;omega) (fun q hq=> (ho0 q hq).1)
    case measure=>simp [intOf];omega
  ·have hkn :k=I.length :=by omega
   subst hkn
   have v1 : ¬ ((I.length :Int) < (I.length :Int)) :=by omega
   rw [List.take_length] at hown
   go_wp2
   go_ret
   exact ⟨_,rfl,Dz.of_own hown,hb2.trans (hbel.mono hb2.size)⟩
end Go.Proofs.YthehiijgnepcfaaGreat


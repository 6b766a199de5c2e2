/-
  8 texts of this proof in one, in build order: RTest5, RTest6, IsValue, RLit, RExpr, RTwo, RStm0, RWher.
-/
import Derived.Test.YtifjaegfpdjikaaGreatDoorRows
import Derived.WalkKit
import Derived.WalkSpells
import Derived.WalkLawsBesides
import Derived.Laws.IdiomStrings
import Derived.Deep.Cut
import Derived.Deep.RegionHeld3
import Derived.Deep.MidRow
import Derived.Test.YtifjaegfpdjikaaGreatDoorJ01
import Derived.Test.YtifjaegfpdjikaaGreatDoorJ05
import Derived.Test.YtifjaegfpdjikaaGreatDoorJ06
import Derived.Test.YtifjaegfpdjikaaGreatDoorJ11
import Derived.Test.YtifjaegfpdjikaaGreatDoorJ12
set_option linter.unusedSimpArgs false
set_option linter.unusedVariables false
namespace Go.Proofs.YtifjaegfpdjikaaGreatDoor
open Go.RowKit
set_option maxRecDepth 100000 in
set_option maxHeartbeats 4000000 in
theorem X8 (d :Int) (hd :d≠0) (RA RB :Option E) (sl :Value) (L :List Wd) (w :World) (hl :L.length≤1600) (hL :Ak w sl L) (hi :Cu [kOr,Dd] 0 0 none L=none) (x0 :Wd) (hx :L[0]? =some x0) (hxn :x0≠Ec) (hni :X6 L) (i j :Nat) (hc :B1 [kEq,kLt] 0 0 L=some (i,j)) (hj :j≤10)
  (hS : ∀W sl,Below w.heap.size w W→Ak W sl (L.take i) →Calls Tryz.prog 104 #[sl, .int .i64 d] W (Bj RA W))
  (hT : ∀W sl,Below w.heap.size w W→Ak W sl (L.drop (i+1)) →Calls Tryz.prog 104 #[sl, .int .i64 d] W (Bj RB W)) :
  Calls Tryz.prog 87 #[sl, .int .i64 d] w (Bj (RA.bind fun a=>RB.map fun b=>Cd (5+j) [a,b]) w) :=by
 have hd0 : (d==0) =false :=by simpa using hd
 have h0 :0<L.length := (List.getElem?_eq_some_iff.1 hx).1
 have LA :=G7 _ _ L [kOr,Dd] ((w.alloc (.cells Ap 37)).alloc (.cells #[.string kOr, .string Dd] 9)) hl ((hL.below ((Below.refl _ _).alloc (Nat.le_refl _) _)).below ((Below.refl _ _).alloc (Nat.le_refl _) _)) (Lr (w.alloc (.cells Ap 37)) kOr Dd)
 rw [hi] at LA
 simp only [World.size_alloc] at LA
 rw [show D9 none= (-1 :Int) from rfl] at LA
 generalize hW : (w.alloc (.cells Ap 37)).alloc (.cells #[.string kOr, .string Dd] 9) =W at LA
 have HW :Hid _ :=hW
 have hb0 :Below w.heap.size w W :=by rw [←hW];exact ((Below.refl _ _).alloc (Nat.le_refl _) _).alloc (by simp) _
 have b0 :W.heap[w.heap.size]? =some (.cells Ap 37) :=by rw [←hW];exact Ae (Ad w _) _
 have HWs :Hid (W.heap.size=w.heap.size+2) :=by rw [Hid,←hW,World.size_alloc,World.size_alloc]
 clear hW
 have hLW :=hL.below hb0
 have CU :=Gu _ _ L [kEq,kLt] _ hl (hLW.below ((Below.refl _ _).alloc (Nat.le_refl _) (.cells #[.string kEq, .string kLt] 9))) (Lr W kEq kLt)
 rw [hc] at CU
 have hbX :Below w.heap.size w (W.alloc (.cells #[.string kEq, .string kLt] 9)) :=hb0.alloc hb0.size _
 have b1 :=Ae b0 (.cells #[.string kEq, .string kLt] 9)
 obtain ⟨b,off,cap,rfl,hcap,hcell⟩ :=A0 hLW h0
 have hcx :W.cell? ⟨b,off,none⟩ =some (.string x0) :=hcell 0 _ hx
 have hbx : (x0.toList== [110,111,116]) =false :=by rw [An];simpa using hxn
 have hq : ((L.length :Int) ==0) =false :=beq_eq_false_iff_ne.2 (by omega)
 have key : ((L.length :Int) ≤2) ∨ ((2 :Int) <L.length∧ ∃y1,W.cell? ⟨b,off+ (L.length - 2),none⟩ =some (.string y1) ∧ (y1.toList== [105,115]) =false) ∨ ((2 :Int) <L.length∧ ∃y1 y2,W.cell? ⟨b,off+ (L.length - 2),none⟩ =some (.string y1) ∧W.cell? ⟨b,off+ (L.length - 1),none⟩ =some (.string y2) ∧ (y1.toList== [105,115]) =true∧ (y2.toList== [110,117,108,108]) =false) :=by
  rcases hni with h | ⟨h,y1,k1,k2⟩ | ⟨h,y2,k1,k2,k3⟩
  ·exact .inl (by omega)
  ·exact .inr (.inl ⟨by omega,y1,hcell _ _ k1,by rw [An];simpa using k2⟩)
  ·exact .inr (.inr ⟨by omega,kIs,y2,hcell _ _ k1,hcell _ _ k2,by rw [An];simp,by rw [An];simpa using k3⟩)
 have HLW :Hid _ :=hLW
 have HSF :Hid (∀sl W,(∀V,Ak V (.slice (some ⟨b,off,none⟩) L.length cap) L→Ak V sl (L.take i)) →Below w.heap.size w W→Calls Tryz.prog 104 #[sl, .int .i64 d] W (Bj RA W)) :=fun sl W hsl h=>hS W sl h (hsl W (hL.below h))
 have HTF :Hid (∀sl W,(∀V,Ak V (.slice (some ⟨b,off,none⟩) L.length cap) L→Ak V sl (L.drop (i+1))) →Below w.heap.size w W→Calls Tryz.prog 104 #[sl, .int .i64 d] W (Bj RB W)) :=fun sl W hsl h=>hT W sl h (hsl W (hL.below h))
 have HLw :Hid (Ak w (.slice (some ⟨b,off,none⟩) L.length cap) L) :=hL
 clear hL hLW hcell hx hi hxn hni hc hS hT HLW
 generalize L.length=nn at*
 rcases key with key | ⟨key,y1,z1,z2⟩ | ⟨key,y1,y2,z1,z2,z3,z4⟩
 all_goals
  go_enter Tryz.func87,Tryz.ntmps87
  go_wp2_with fail
  rw [HW.out]
  go_fit LA
  rintro e W ⟨rfl,rfl⟩
  go_wp2_with (first
   | (go_at_call 31;go_must (go_fit CU;rintro e w1 ⟨a,c',k,rfl,⟨hs,rfl,hil⟩,hb1⟩;obtain ⟨a2,n2,d2,rfl,hn2⟩ :=Ax (hs w HLw.out).1;obtain ⟨a3,n3,d3,rfl,hn3⟩ :=Ax (hs w HLw.out).2;have hbB :Below w.heap.size w w1 :=hbX.trans (hb1.mono hbX.size);have SM :=HSF.out _ w1 (fun V h=> (hs V h).1) hbB;have TF :=fun W' h=>HTF.out (.slice a3 n3 d3) W' (fun V h=> (hs V h).2) h;clear hs hn2 hn3;have b2 := (hb1.block _ (lt_of_block b1)).trans b1;have hs1 :=hb1.size))
   | (go_at_call 104;go_fit SM;rintro e w2 ⟨v,ok,x,rfl,hE,hR,hb2⟩;have HR :Hid _ :=hR;clear hR;have b3 := (hb2.block _ (lt_of_block b2)).trans b2;obtain ⟨op,xv,xs,nmv,xn,ao,kk,c,rfl⟩ :=hE.shape;obtain ⟨xk,xi,xs2⟩ :=xv;have hbC :Below w.heap.size w w2 :=hbB.trans (hb2.mono hbB.size);have TM :=TF (w2.alloc (.cells #[.int .i64 op, .int .i64 xk, .int .i64 xi, .string xs2, .string xs, .string nmv, .int .i64 xn, .slice ao kk c] 37)) (hbC.alloc hbC.size _))
   | (go_at_call 104;go_fit TM;rintro e w3 ⟨v2,ok2,x2,rfl,hE2,hR2,hb3⟩;have HR2 :Hid _ :=hR2;clear hR2;obtain ⟨op2,yv,ys,nm2,yn,ao2,k2,c2,rfl⟩ :=hE2.shape;obtain ⟨yk,yi,ys2⟩ :=yv;have b4 := (hb3.block _ (lt_of_block (Ae b3 (.cells #[.int .i64 op, .int .i64 xk, .int .i64 xi, .string xs2, .string xs, .string nmv, .int .i64 xn, .slice ao kk c] 37)))).trans (Ae b3 (.cells #[.int .i64 op, .int .i64 xk, .int .i64 xi, .string xs2, .string xs, .string nmv, .int .i64 xn, .slice ao kk c] 37));have c3 := (hb3.block _ (lt_of_block (Ad w2 (.cells #[.int .i64 op, .int .i64 xk, .int .i64 xi, .string xs2, .string xs, .string nmv, .int .i64 xn, .slice ao kk c] 37)))).trans (Ad w2 (.cells #[.int .i64 op, .int .i64 xk, .int .i64 xi, .string xs2, .string xs, .string nmv, .int .i64 xn, .slice ao kk c] 37));obtain ⟨l0,l1,l2,l3,l4,l5,l6,l7⟩ :=Cq (Ae c3 (.cells #[.int .i64 op2, .int .i64 yk, .int .i64 yi, .string ys2, .string ys, .string nm2, .int .i64 yn, .slice ao2 k2 c2] 37)) rfl;obtain ⟨⟨r0,r1,r2,r3,r4,r5,r6,r7⟩,f0,f1,f2,f3,f4,f5,f6,f7⟩ :=Ca (Ae (Ae b4 (.cells #[.int .i64 op2, .int .i64 yk, .int .i64 yi, .string ys2, .string ys, .string nm2, .int .i64 yn, .slice ao2 k2 c2] 37)) (.cells #[.int .i64 op, .int .i64 xk, .int .i64 xi, .string xs2, .string xs, .string nmv, .int .i64 xn, .slice ao kk c, .int .i64 op2, .int .i64 yk, .int .i64 yi, .string ys2, .string ys, .string nm2, .int .i64 yn, .slice ao2 k2 c2] 37))))
  all_goals
   obtain ⟨hN,hBN⟩ :=Ot (o :=5+ (j :Int)) hbB (by have :=HWs.out;rw [World.size_alloc] at hs1;omega) hb2 hE hE2 hb3
   refine bodyPost_ret (v := .tuple #[.agg #[.int .i64 (5+ (j :Int)), .int .i64 zero.k, .int .i64 zero.n, .string zero.s, .string noW, .string noW, .int .i64 0, .slice (some ⟨w3.heap.size+1,0,none⟩) 2 2], .bool _]) (by simp [results,Tryz.results87,go_sem,r0,r1,r2,r3,r4,r5,r6,r7];exact ⟨⟨rfl,rfl,rfl⟩,rfl⟩) rfl ⟨_,_,_,rfl,hN, ?_,hBN⟩
   rw [HR.out,HR2.out]
   cases ok<;>cases ok2<;>first | rfl | contradiction
end Go.Proofs.YtifjaegfpdjikaaGreatDoor

namespace Go.Proofs.YtifjaegfpdjikaaGreatDoor
open Go.RowKit
theorem Acd {X :List Wd} {L :List Wd} {d :Int} {i k j :Nat} :B1 X d i L=some (k,j) →j<X.length :=by
 induction L generalizing d i with
 | nil=>intro h;simp [B1] at h
 | cons x l ih=>
  intro h
  rw [B1] at h
  split at h
  ·rename_i m hm
   cases h
   split at hm
   ·rw [List.findIdx?_eq_some_iff_getElem] at hm;exact hm.1
   ·cases hm
  ·exact ih h
theorem Abd {L :List Wd} (h :2<L.length) {y1 y2 :Wd} (h1 :L[L.length - 2]? =some y1) (h2 :L[L.length - 1]? =some y2) :L.drop (L.length - 2) = [y1,y2] :=by
 rw [Kq h1,show L.length - 2+1=L.length - 1 from by omega,Kq h2,List.drop_eq_nil_of_le (by omega)]
theorem X9 (sub subT :List Wd→Option E) (D :Nat) (hD :D≤50) (hs :Cz 104 (Il sub) ((D :Int) +1) 1600) (ht :Cz 87 subT (D :Int) 1600) :Cz 87 (Hn sub subT) ((D :Int) +1) 1600 :=by
 intro sl L w _ hl he hL hw
 have hd : (D :Int) +1≠0 :=by omega
 rcases Nat.eq_zero_or_pos L.length with h0 | h0
 ·have e :L= [] :=List.length_eq_zero_iff.1 h0
  subst e
  obtain ⟨ao,cap,rfl⟩ :=hL.shape
  have e2 :Hn sub subT [] =none :=by simp [Hn]
  rw [e2]
  exact X3 _ hd ao cap w
 have hne :L≠ [] :=by rintro rfl;simp at h0
 cases hi :Cu [kOr,Dd] 0 0 none L with
 | some i=>
  have e2 :Hn sub subT L=none :=by rw [Hn,hi];simp
  rw [e2]
  exact X4 _ hd sl L w h0 hl hL i hi
 | none=>
  obtain ⟨x0,hx⟩ : ∃x,L[0]? =some x := ⟨_,List.getElem?_eq_getElem h0⟩
  have hhd :L.head? =some x0 :=by rw [List.head?_eq_getElem?];exact hx
  have hT1 :Hn sub subT L=if x0=Ec then (subT (L.drop 1)).map fun a=>Cd 9 [a] else if 2<L.length∧L.drop (L.length - 2) = [kIs,Be] then (Il sub (L.take (L.length - 2))).map fun a=>Cd 10 [a] else match B1 [kEq,kLt] 0 0 L with
    | some (i,k) => (Il sub (L.take i)).bind fun a=> (Il sub (L.drop (i+1))).map fun b=>Cd (5+k) [a,b]
    | none=>Il sub L :=by
   rw [Hn,if_neg (by rw [hi];simpa using hne),hhd]
   simp only [Option.some.injEq]
   rfl
  rw [hT1]
  by_cases hn :x0=Ec
  ·rw [if_pos hn]
   subst hn
   refine X5 _ hd (by omega) (by omega) (subT (L.drop 1)) sl L w hl hL hi hx (fun W sl' h1 h2=> ?_)
   rw [show ((D :Int) +1 - 1) = (D :Int) from by omega]
   exact ht sl' _ W (by simp;omega) (by simp;omega) (he.next h1) h2 (hw.drop 1)
  rw [if_neg hn]
  by_cases hc2 :2<L.length∧L.drop (L.length - 2) = [kIs,Be]
  ·rw [if_pos hc2]
   have e1 :L[L.length - 2]? =some kIs :=by
    have :=congrArg (fun l=>l[0]?) hc2.2
    simp only [List.getElem?_drop] at this
    simpa using this
   have e2 :L[L.length - 1]? =some Be :=by
    have :=congrArg (fun l=>l[1]?) hc2.2
    simp only [List.getElem?_drop] at this
    rw [show L.length - 2+1=L.length - 1 from by omega] at this
    simpa using this
   exact Zv _ hd (Il sub (L.take (L.length - 2))) sl L w hl hL hi x0 hx hn hc2.1 e1 e2 (fun W sl' h1 h2=>hs sl' _ W (by simp;omega) (by simp;omega) (he.next h1) h2 (hw.take _))
  rw [if_neg hc2]
  have hni :X6 L :=by
   by_cases h2 :2<L.length
   ·obtain ⟨y1,k1⟩ : ∃y,L[L.length - 2]? =some y := ⟨_,List.getElem?_eq_getElem (by omega)⟩
    obtain ⟨y2,k2⟩ : ∃y,L[L.length - 1]? =some y := ⟨_,List.getElem?_eq_getElem (by omega)⟩
    by_cases g1 :y1=kIs
    ·subst g1
     refine .inr (.inr ⟨h2,y2,k1,k2,fun g2=>hc2 ⟨h2, ?_⟩⟩)
     rw [Abd h2 k1 k2,g2]
    ·exact .inr (.inl ⟨h2,y1,k1,g1⟩)
   ·exact .inl (by omega)
  cases hc :B1 [kEq,kLt] 0 0 L with
  | none=>exact X7 _ hd (Il sub L) sl L w hl hL hi x0 hx hn hni hc (fun W h=>hs sl L W hl hl (he.next h) (hL.below h) hw)
  | some r=>
   obtain ⟨i,j⟩ :=r
   have hj :=Acd hc
   have hil :=Zp hc
   exact X8 _ hd (Il sub (L.take i)) (Il sub (L.drop (i+1))) sl L w hl hL hi x0 hx hn hni i j hc (by simp at hj;omega) (fun W sl' h1 h2=>hs sl' _ W (by simp;omega) (by simp;omega) (he.next h1) h2 (hw.take _)) (fun W sl' h1 h2=>hs sl' _ W (by simp;omega) (by simp;omega) (he.next h1) h2 (hw.drop _))
theorem Ph :Cz 87 (fun _=>none) 0 1600 :=by
 intro sl L w _ hl he hL hw
 obtain ⟨ao,cap,rfl⟩ :=hL.shape
 exact Vs ao _ cap w
end Go.Proofs.YtifjaegfpdjikaaGreatDoor

namespace Go.Proofs.YtifjaegfpdjikaaGreatDoor
open Go.RowKit
theorem bytesRow_at (s :ByteArray) (cap j :Nat) (h :j<s.size) : (bytesRow s cap)[j]? =some (.int .u8 (s[j].toNat :Int)) :=by
 have h' :j<s.data.size :=h
 unfold bytesRow
 rw [Array.getElem?_append_left (by simpa using h'),Array.getElem?_map,Array.getElem?_eq_getElem h']
 rfl
theorem Ace (s :ByteArray) :s.toList= [] ↔s.size=0 :=by
 rw [ByteArray.toList_eq,←Bi]
 cases s.data.toList<;>simp
def Zw (w :World) (k n :Int) (s :ByteArray) (wr :World) :Prop :=
 wr.heap[w.heap.size]? =some (.cells #[.int .i64 k, .int .i64 n, .string s] 35 (0,0)) ∧ (∀j (h :j<s.size),wr.cell? ⟨w.heap.size+1,j,none⟩ =some (.int .u8 (s[j].toNat :Int))) ∧Below w.heap.size w wr
theorem Ur (w :World) (k n :Int) (s :ByteArray) (cap :Nat) (fr :Nat×Nat) :
  Zw w k n s (((w.alloc (Obj.cells #[.int .i64 k, .int .i64 n, .string s] 35)).alloc (Obj.cells (bytesRow s cap) 5 fr)).drew) :=by
 refine ⟨Ae (Ad w _) _,fun j h=> ?_,(((Below.refl _ _).alloc (Nat.le_refl _) _).alloc (by simp) _).drew⟩
 have :=Ad (w.alloc (Obj.cells #[.int .i64 k, .int .i64 n, .string s] 35)) (Obj.cells (bytesRow s cap) 5 fr)
 refine Aa (t :=5) (fr :=fr) ?_ (bytesRow_at s cap j h)
 rw [show (w.alloc (Obj.cells #[.int .i64 k, .int .i64 n, .string s] 35)).heap.size=w.heap.size+1 from by simp] at this
 exact this
set_option maxHeartbeats 4000000 in
theorem Vt (v :V) (w :World) (hs :v.s.size≤maxLen) :
  Calls Tryz.prog 123 #[v.val] w fun e w'=>e= .returned (.bool (Dk v)) ∧Below w.heap.size w w' :=by
 obtain ⟨k,n,s⟩ :=v
 show Calls Tryz.prog 123 #[.agg #[.int .i64 k, .int .i64 n, .string s]] w _
 have HG :Hid (Dk ⟨k,n,s⟩ = (if k=0 then decide (n=0) &&decide (s.size=0) else if k=1 then decide (-1000000≤n) &&decide (n≤1000000) &&decide (s.size=0) else if k=2 then decide (n=0) &&decide (s.size≤8) &&F1 s.data.toList else false)) :=rfl
 generalize Dk ⟨k,n,s⟩ =G at HG⊢
 simp only [maxLen] at hs
 have hcv :=run_bytes_of_string (P :=Tryz.prog) (w.alloc (Obj.cells #[.int .i64 k, .int .i64 n, .string s] 35)) 9 86 5 s Tryz.underlying9 Tryz.underlying86 Tryz.underlying5
 go_enter Tryz.func123,Tryz.ntmps123
 go_wp2
 go_loopw [3,10] (fun ok i wr=> ∃j :Nat,j≤s.size∧i= .int .i64 j∧ok= .bool (F1 (s.data.toList.take j)) ∧Zw w k n s wr) (fun _ i _=>s.size - (intOf i).toNat)
 case atStart=>exact ⟨0,Nat.zero_le _,rfl,rfl,Ur w k n s _ _⟩
 case round=>
  clear hcv
  obtain ⟨j,hj,rfl,rfl,hinv⟩ :=hrel
  by_cases hlt :j<s.size
  ·have hc :=hinv.2.1 j hlt
   have hsn :Hid (F1 (s.data.toList.take (j+1)) = (F1 (s.data.toList.take j) &&J1 (s[j].toNat :Int))) :=by show _=_;rw [Nk s j hlt,P7]
   have hb :Hid (J1 (s[j].toNat :Int) = (decide (32≤ (s[j].toNat :Int)) &&decide ((s[j].toNat :Int) ≤126) && ((s[j].toNat :Int) !=39))) :=rfl
   generalize F1 (s.data.toList.take j) =g at hsn
   generalize (s[j].toNat :Int) =c at hc hsn hb
   cases g
   ·go_wp2
    go_roundw
    case rel=>exact ⟨j+1,by omega,by go_num,by rw [hsn.out];rfl,hinv⟩
    case measure=>simp [intOf];omega
   ·by_cases h1 :32≤c<;>by_cases h2 :c<127<;>by_cases h3 :c=39
    all_goals
     go_wp2
     go_roundw
     case rel=>exact ⟨j+1,by omega,by go_num,by rw [hsn.out,hb.out];first | rfl | (congr 1;simp_all;done) | (congr 1;simp_all;omega),hinv⟩
     case measure=>simp [intOf];omega
  ·have e :s.data.toList.take j=s.data.toList :=Tl s j (by omega)
   rw [e]
   clear e
   have C0 :=Aa hinv.1 (j :=0) rfl
   have C1 :=Aa hinv.1 (j :=1) rfl
   have C2 :=Aa hinv.1 (j :=2) rfl
   have hbel :=hinv.2.2
   clear hinv
   generalize F1 s.data.toList=g at HG
   have hnil :Hid (s.toList= [] ↔s.size=0) :=Ace s
   by_cases h0 :k=0
   ·subst h0
    go_wp2
    all_goals
     go_ret
     exact ⟨Ci (by have hn :=hnil.out;rw [HG.out];simp only [if_true];simp_all),hbel⟩
   by_cases h1 :k=1
   ·subst h1
    by_cases hse :s.size=0
    ·have he :s.toList.isEmpty=true :=by rw [L5];exact decide_eq_true hse
     rcases (show n< -1000000∨1000000<n∨ (-1000000≤n∧n≤1000000) from by omega) with hn | hn | ⟨hn,hm⟩
     all_goals
      go_wp2
      all_goals
       go_ret
       exact ⟨Ci (by rw [HG.out];simp [hse];try omega),hbel⟩
    ·have he :s.toList.isEmpty=false :=by rw [L5];exact decide_eq_false hse
     go_wp2
     all_goals
      go_ret
      exact ⟨Ci (by rw [HG.out];simp [hse]),hbel⟩
   by_cases h2 :k=2
   ·subst h2
    by_cases hn :n=0
    ·subst hn
     cases g<;>by_cases h9 :s.size<9
     all_goals
      go_wp2
      all_goals
       go_ret
       exact ⟨Ci (by rw [HG.out];simp;try omega),hbel⟩
    ·go_wp2
     all_goals
      go_ret
      exact ⟨Ci (by rw [HG.out];simp [hn]),hbel⟩
   go_wp2
   all_goals
    go_ret
    exact ⟨Ci (by rw [HG.out];simp [h0,h1,h2]),hbel⟩
end Go.Proofs.YtifjaegfpdjikaaGreatDoor

namespace Go.Proofs.YtifjaegfpdjikaaGreatDoor
open Go.RowKit
set_option maxRecDepth 100000 in
set_option maxHeartbeats 2000000 in
theorem M8 (k n :Int) (s :Wd) (ok :Bool) (w :World) (hs :s.size≤maxLen) :
  Calls Tryz.prog 122 #[.agg #[.int .i64 k, .int .i64 n, .string s], .bool ok] w (Bj (if (ok&&Dk ⟨k,n,s⟩) =true then some (D5 ⟨k,n,s⟩) else none) w) :=by
 have hb0 :Below w.heap.size w ((w.alloc (.cells #[.int .i64 k, .int .i64 n, .string s] 35)).alloc (.cells Ap 37)).drew := (((Below.refl _ _).alloc (Nat.le_refl _) _).alloc (by simp) _).drew
 have b0 : (((w.alloc (.cells #[.int .i64 k, .int .i64 n, .string s] 35)).alloc (.cells Ap 37)).drew).heap[w.heap.size+1]? =some (.cells Ap 37) :=Fk w _ _
 have b1 : (((w.alloc (.cells #[.int .i64 k, .int .i64 n, .string s] 35)).alloc (.cells Ap 37)).drew).heap[w.heap.size]? =some (.cells #[.int .i64 k, .int .i64 n, .string s] 35) :=Ae (Ad w _) _
 have IV :=Vt ⟨k,n,s⟩ ((w.alloc (.cells #[.int .i64 k, .int .i64 n, .string s] 35)).alloc (.cells Ap 37)).drew hs
 simp only [V.val] at IV
 generalize hR : (if (ok&&Dk ⟨k,n,s⟩) =true then some (D5 ⟨k,n,s⟩) else none) =R
 have HR :Hid _ :=hR
 clear hR
 generalize Dk ⟨k,n,s⟩ =g at IV HR
 cases ok
 ·clear IV
  go_enter Tryz.func122,Tryz.ntmps122
  go_wp2_with fail
  go_region
  go_wp2_with fail
  exact bodyPost_ret (v := .tuple #[.agg (A2 1 ⟨k,n,s⟩ noW noW 0 (.slice none 0 0)), .bool false]) (by simp [results,Tryz.results122,go_sem]) rfl ⟨_,_,_,rfl,Lb _ _ ⟨k,n,s⟩,HR.out.symm,(((Below.refl _ _).alloc (Nat.le_refl _) _).alloc (by simp) _).drew⟩
 ·go_enter Tryz.func122,Tryz.ntmps122
  go_wp2_with fail
  go_region_with (go_at_call 123;go_must (go_fit IV;rintro e w1 ⟨rfl,hb1⟩;have b2 := (hb1.block _ (lt_of_block b0)).trans b0;have c2 := (hb1.block _ (lt_of_block b1)).trans b1;have m0 :=Aa c2 (j :=0) rfl;have m1 :=Aa c2 (j :=1) rfl;have m2 :=Aa c2 (j :=2) rfl;have hbB :=hb0.trans (hb1.mono hb0.size);obtain ⟨⟨r0,r1,r2,r3,r4,r5,r6,r7⟩,f0,f1,f2,f3,f4,f5,f6,f7⟩ :=Ca b2))
  all_goals
   go_wp2_with fail
   refine bodyPost_ret (v := .tuple #[.agg #[.int .i64 1, .int .i64 k, .int .i64 n, .string s, .string noW, .string noW, .int .i64 0, .slice none 0 0], .bool g]) (by simp [results,Tryz.results122,go_sem,r0,r1,r2,r3,r4,r5,r6,r7]) rfl ⟨_,_,_,rfl,Lb _ _ ⟨k,n,s⟩,HR.out.symm,Bk hbB (by omega) _ _ _ _ _ _ _ _⟩
end Go.Proofs.YtifjaegfpdjikaaGreatDoor

namespace Go.Proofs.YtifjaegfpdjikaaGreatDoor
open Go.RowKit
theorem Q1 {w w1 w2 :World} {r :Nat} {x :E} {op xn :Int} {xv :V} {xs nmv :Wd} {sv :Value} (hr :w.heap.size≤r) (hb1 :Below w.heap.size w w1) (h1 :r+1≤w1.heap.size) (hb2 :Below w1.heap.size w1 w2) (hE :IsE (Fr w1.heap.size) w2 x (.agg (A2 op xv xs nmv xn sv))) :
  IsE (Fr w.heap.size) (set8 w2 r (.int .i64 op) (.int .i64 xv.k) (.int .i64 xv.n) (.string xv.s) (.string xs) (.string nmv) (.int .i64 xn) sv) x (.agg (A2 op xv xs nmv xn sv)) ∧
  Below w.heap.size w (set8 w2 r (.int .i64 op) (.int .i64 xv.k) (.int .i64 xv.n) (.string xv.s) (.string xs) (.string nmv) (.int .i64 xn) sv) :=by
 refine ⟨?_,Bk (hb1.trans (hb2.mono hb1.size)) hr _ _ _ _ _ _ _ _⟩
 have g1 :IsE (Fr (r+1)) w2 x (.agg (A2 op xv xs nmv xn sv)) :=IsE.mono (fun k _ hk=>by have :w1.heap.size≤k :=hk;show r+1≤k;omega) _ _ hE
 exact IsE.mono (fun k _ hk=>by have :r+1≤k :=hk;show w.heap.size≤k;omega) _ _ (IsE.keep ((Keeps.refl _ _).set8 (show ¬r+1≤r by omega) _ _ _ _ _ _ _ _) _ _ g1)
set_option maxRecDepth 100000 in
set_option maxHeartbeats 2000000 in
theorem Pj (t :List Wd→Option E) (d :Int) (ht :Cz 62 t d 1600) (sl :Value) (L :List Wd) (w :World) (hl :L.length≤1600) (he :Env w) (hL :Ak w sl L) (hw :Whole L) (hi :Hs L=none) :
  Calls Tryz.prog 32 #[sl, .int .i64 d] w (Bj (t L) w) :=by
 obtain ⟨a1,n1,c1,rfl,hn1⟩ :=Ax hL
 generalize hV : ((w.alloc (.cells #[.slice a1 n1 c1] 32)).alloc (.cells #[.int .i64 d] 3)).alloc (.cells Ap 37) =V
 have hbV :Below w.heap.size w V :=by rw [←hV];exact (((Below.refl _ _).alloc (Nat.le_refl _) _).alloc (by simp) _).alloc (by simp;omega) _
 have hVs :V.heap.size=w.heap.size+3 :=by rw [←hV,World.size_alloc,World.size_alloc,World.size_alloc]
 have v0 :V.heap[w.heap.size]? =some (.cells #[.slice a1 n1 c1] 32) :=by rw [←hV];exact Ae (Ae (Ad w _) _) _
 have v1 :V.heap[w.heap.size+1]? =some (.cells #[.int .i64 d] 3) :=by rw [←hV];exact Ae (Fk w _ _) _
 have v2 :V.heap[w.heap.size+2]? =some (.cells Ap 37) :=by
  rw [←hV]
  have :=Ad ((w.alloc (.cells #[.slice a1 n1 c1] 32)).alloc (.cells #[.int .i64 d] 3)) (.cells Ap 37)
  rw [World.size_alloc,World.size_alloc] at this
  exact this
 have LA :=G7 _ _ L [kOr] _ hl ((hL.below hbV).below ((Below.refl _ _).alloc (Nat.le_refl _) _)) (Gv V kOr)
 rw [show Cu [kOr] 0 0 none L=none from hi,show D9 none= (-1 :Int) from rfl,hVs] at LA
 rw [←hV] at LA
 generalize hW : (((w.alloc (.cells #[.slice a1 n1 c1] 32)).alloc (.cells #[.int .i64 d] 3)).alloc (.cells Ap 37)).alloc (.cells #[.string kOr] 9) =W at LA
 have HW :Hid _ :=hW
 rw [hV] at hW
 have hb0 :Below w.heap.size w W :=by rw [←hW];exact hbV.alloc hbV.size _
 have b0 :W.heap[w.heap.size+2]? =some (.cells Ap 37) :=by rw [←hW];exact Ae v2 _
 have m0 :W.cell? ⟨w.heap.size,0,none⟩ =some (.slice a1 n1 c1) :=by rw [←hW];exact Aa (Ae v0 _) rfl
 have m1 :W.cell? ⟨w.heap.size+1,0,none⟩ =some (.int .i64 d) :=by rw [←hW];exact Aa (Ae v1 _) rfl
 have HWs :Hid (W.heap.size=w.heap.size+4) :=by rw [Hid,←hW,World.size_alloc,hVs]
 clear hW hV hbV hVs v0 v1 v2
 have TM :=ht (.slice a1 n1 c1) L W hl hl (he.next hb0) (hL.below hb0) hw
 generalize t L=R at TM⊢
 clear hL hw ht hi hn1 hl L
 go_enter Tryz.func32,Tryz.ntmps32
 go_wp2_with fail
 rw [HW.out]
 go_fit LA
 rintro e W ⟨rfl,rfl⟩
 go_wp2_with (go_at_call 62;go_must (go_fit TM;rintro e w2 ⟨v,ok,x,rfl,hE,hR,hb2⟩;have HR :Hid _ :=hR;clear hR;have b2 := (hb2.block _ (lt_of_block b0)).trans b0;obtain ⟨op,xv,xs,nmv,xn,ao,kk,c,rfl⟩ :=hE.shape;obtain ⟨xk,xi,xs2⟩ :=xv;obtain ⟨⟨r0,r1,r2,r3,r4,r5,r6,r7⟩,f0,f1,f2,f3,f4,f5,f6,f7⟩ :=Ca b2))
 obtain ⟨hN,hBN⟩ :=Q1 (r :=w.heap.size+2) (by omega) hb0 (by have :=HWs.out;omega) hb2 hE
 exact bodyPost_ret (v := .tuple #[.agg #[.int .i64 op, .int .i64 xk, .int .i64 xi, .string xs2, .string xs, .string nmv, .int .i64 xn, .slice ao kk c], .bool ok]) (by simp [results,Tryz.results32,go_sem,r0,r1,r2,r3,r4,r5,r6,r7]) rfl ⟨_,_,_,rfl,hN,HR.out,hBN⟩
end Go.Proofs.YtifjaegfpdjikaaGreatDoor

namespace Go.Proofs.YtifjaegfpdjikaaGreatDoor
open Go.RowKit
def Of (B :Nat) (W wx :World) (pa :Nat) (ok :Bool) (R :Option E) :Prop :=
 ∃op xk xi xs2 xs nmv xn ao kk c x,wx.heap[pa]? =some (.cells #[.int .i64 op, .int .i64 xk, .int .i64 xi, .string xs2, .string xs, .string nmv, .int .i64 xn, .slice ao kk c] 37) ∧B≤pa∧IsE (Fr B) wx x (.agg (A2 op ⟨xk,xi,xs2⟩ xs nmv xn (.slice ao kk c))) ∧R= (if ok=true then some x else none) ∧Below B W wx
theorem Py {W w2 :World} {x :E} {op xk xi xn :Int} {xs2 xs nmv :Wd} {ao :Option Addr} {kk c :Nat} {ok :Bool} {R :Option E} (hE :IsE (Fr W.heap.size) w2 x (.agg (A2 op ⟨xk,xi,xs2⟩ xs nmv xn (.slice ao kk c)))) (hR :R= (if ok=true then some x else none)) (hb :Below W.heap.size W w2) :
  Of W.heap.size W (w2.alloc (.cells #[.int .i64 op, .int .i64 xk, .int .i64 xi, .string xs2, .string xs, .string nmv, .int .i64 xn, .slice ao kk c] 37)) w2.heap.size ok R :=
 ⟨op,xk,xi,xs2,xs,nmv,xn,ao,kk,c,x,Ad w2 _,hb.size,IsE.keep ((Keeps.refl _ _).alloc _) _ _ hE,hR,hb.alloc hb.size _⟩
theorem Ya {w :World} {b :Nat} {a0 a1 a2 a3 a4 a5 a6 a7 :Value} {t :TypeId} (h :w.heap[b]? =some (.cells #[a0,a1,a2,a3,a4,a5,a6,a7] t)) (v0 v1 v2 v3 v4 v5 v6 v7 :Value) : (set8 w b v0 v1 v2 v3 v4 v5 v6 v7).heap[b]? =some (.cells #[v0,v1,v2,v3,v4,v5,v6,v7] t) :=by
 have h7 :=upd (upd (upd (upd (upd (upd (upd (upd h 0 v0) 1 v1) 2 v2) 3 v3) 4 v4) 5 v5) 6 v6) 7 v7
 simp only [List.setIfInBounds_toArray,List.set_cons_zero,List.set_cons_succ] at h7
 exact h7
theorem Pz {W w2 :World} {x :E} {op xk xi xn :Int} {xs2 xs nmv :Wd} {ao :Option Addr} {kk c :Nat} {ok :Bool} {R :Option E} (hE :IsE (Fr (W.heap.size+1)) w2 x (.agg (A2 op ⟨xk,xi,xs2⟩ xs nmv xn (.slice ao kk c)))) (hR :R= (if ok=true then some x else none)) (hb :Below W.heap.size W w2) (h8 :w2.heap[W.heap.size]? =some (.cells Ap 37)) :
  Of W.heap.size W (set8 w2 W.heap.size (.int .i64 op) (.int .i64 xk) (.int .i64 xi) (.string xs2) (.string xs) (.string nmv) (.int .i64 xn) (.slice ao kk c)) W.heap.size ok R :=
 ⟨op,xk,xi,xs2,xs,nmv,xn,ao,kk,c,x,Ya h8 _ _ _ _ _ _ _ _,Nat.le_refl _,IsE.mono (fun k _ hk=>by have :W.heap.size+1≤k :=hk;show W.heap.size≤k;omega) _ _ (IsE.keep ((Keeps.refl _ _).set8 (show ¬W.heap.size+1≤W.heap.size by omega) _ _ _ _ _ _ _ _) _ _ hE),hR,Bk hb (Nat.le_refl _) _ _ _ _ _ _ _ _⟩
theorem Us {w W w1 w2 :World} {x y :E} {op op2 xn yn o :Int} {xv yv :V} {xs nmv ys nm2 :Wd} {sv sv2 :Value} (hb0 :Below w.heap.size w W) (h1 :w.heap.size+1≤W.heap.size) (hb1 :Below W.heap.size W w1) (hE :IsE (Fr W.heap.size) w1 x (.agg (A2 op xv xs nmv xn sv))) (hb2 :Below w1.heap.size w1 w2) (hE2 :IsE (Fr w1.heap.size) w2 y (.agg (A2 op2 yv ys nm2 yn sv2))) :
  IsE (Fr w.heap.size) (set8 (w2.alloc (.cells (A2 op xv xs nmv xn sv++A2 op2 yv ys nm2 yn sv2) 37)) w.heap.size (.int .i64 o) (.int .i64 zero.k) (.int .i64 zero.n) (.string zero.s) (.string noW) (.string noW) (.int .i64 0) (.slice (some ⟨w2.heap.size,0,none⟩) 2 2)) (Cd o [x,y]) (.agg (A2 o zero noW noW 0 (.slice (some ⟨w2.heap.size,0,none⟩) 2 2))) ∧
  Below w.heap.size w (set8 (w2.alloc (.cells (A2 op xv xs nmv xn sv++A2 op2 yv ys nm2 yn sv2) 37)) w.heap.size (.int .i64 o) (.int .i64 zero.k) (.int .i64 zero.n) (.string zero.s) (.string noW) (.string noW) (.int .i64 0) (.slice (some ⟨w2.heap.size,0,none⟩) 2 2)) :=by
 have s1 :=hb1.size
 have s2 :=hb2.size
 have k2 :Below w.heap.size w w2 := (hb0.trans (hb1.mono hb0.size)).trans (hb2.mono (by omega))
 constructor
 ·have g1 :IsE (Fr (w.heap.size+1)) w2 x (.agg (A2 op xv xs nmv xn sv)) :=IsE.mono (fun k _ hk=>by have :W.heap.size≤k :=hk;show w.heap.size+1≤k;omega) _ _ (IsE.keep (Bb hb2) _ _ hE)
  have g2 :IsE (Fr (w.heap.size+1)) w2 y (.agg (A2 op2 yv ys nm2 yn sv2)) :=IsE.mono (fun k _ hk=>by have h :w1.heap.size≤k :=hk;show w.heap.size+1≤k;omega) _ _ hE2
  have g6 :=Jz g1 g2 (show w.heap.size+1≤w2.heap.size by omega)
  exact IsE.mono (fun k _ hk=>by have :w.heap.size+1≤k :=hk;show w.heap.size≤k;omega) _ _ (IsE.keep ((Keeps.refl _ _).set8 (show ¬w.heap.size+1≤w.heap.size by omega) _ _ _ _ _ _ _ _) _ _ (Ha (op :=o) (x :=zero) (s :=noW) (name :=noW) (n :=0) g6))
 ·exact Bk (k2.alloc (by omega) _) (Nat.le_refl _) _ _ _ _ _ _ _ _
set_option maxRecDepth 100000 in
set_option maxHeartbeats 4000000 in
theorem Acf (RA RB :Option E) (o d :Int) (p q i b off cap :Nat) (L :List Wd) (w :World) (hil :i<L.length) (hl :L.length≤1600) (hL :Ak w (.slice (some ⟨b,off,none⟩) L.length cap) L) (hp :w.cell? ⟨p,0,none⟩ =some (.slice (some ⟨b,off,none⟩) L.length cap)) (hq :w.cell? ⟨q,0,none⟩ =some (.int .i64 d)) (hp1 :p<w.heap.size) (hq1 :q<w.heap.size)
  (hS : ∀W,Below w.heap.size w W→Calls Tryz.prog 32 #[.slice (some ⟨b,off,none⟩) i cap, .int .i64 d] W (Bj RA W))
  (hT : ∀W sl,Below w.heap.size w W→Ak W sl (L.drop (i+1)) →Calls Tryz.prog 62 #[sl, .int .i64 d] W (Bj RB W)) :
  Calls Tryz.prog 60 #[.int .i64 o, .int .i64 i, .func (.func 32) #[] #[], .func (.func 62) #[] #[], .pointer (some ⟨p,0,none⟩), .pointer (some ⟨q,0,none⟩)] w (Bj (RA.bind fun a=>RB.map fun b=>Cd o [a,b]) w) :=by
 generalize hW :w.alloc (.cells Ap 37) =W
 have HW :Hid _ :=hW
 have hb0 :Below w.heap.size w W :=by rw [←hW];exact (Below.refl _ _).alloc (Nat.le_refl _) _
 have b0 :W.heap[w.heap.size]? =some (.cells Ap 37) :=by rw [←hW];exact Ad w _
 have HWs :Hid (W.heap.size=w.heap.size+1) :=by rw [Hid,←hW];exact World.size_alloc _ _
 clear hW
 have m0 : ∀V,Below w.heap.size w V→V.cell? ⟨p,0,none⟩ =some (.slice (some ⟨b,off,none⟩) L.length cap) :=fun V h=> (h.cell (p := ⟨p,0,none⟩) hp1).trans hp
 have m1 : ∀V,Below w.heap.size w V→V.cell? ⟨q,0,none⟩ =some (.int .i64 d) :=fun V h=> (h.cell (p := ⟨q,0,none⟩) hq1).trans hq
 have n0 :=m0 W hb0
 have n1 :=m1 W hb0
 have n2 :=m0 (W.alloc (.cells Ap 37)) (hb0.alloc hb0.size _)
 have n3 :=m1 (W.alloc (.cells Ap 37)) (hb0.alloc hb0.size _)
 have KS :Hid _ :=fun V (h :Below w.heap.size w V) =>And.intro (m0 V h) (m1 V h)
 clear m0 m1
 have IHa :=hS W.drew hb0.drew
 have IHb :=hS (W.alloc (.cells Ap 37)).drew (hb0.alloc hb0.size _).drew
 have q0 : (0 :Int) ≤ (i :Int) :=by omega
 have q1 : (i :Int) +1≤ (L.length :Int) :=by omega
 have hcap := (A7 hL (by omega)).2.1
 have q2 : (i :Int) ≤ (cap :Int) :=by omega
 have key :Hid _ :=Kr (b :=b) (off :=off) (cap :=cap) hil
 have HL :Hid _ :=hL
 have HT :Hid _ :=hT
 clear hL hS hT
 generalize hnn :L.length=nn at*
 have HN :Hid _ :=hnn
 clear hnn
 go_enter Tryz.func60,Tryz.ntmps60
 go_upto_region 1 with fail
 rw [HW.out]
 go_cut [12,13] from 16 (fun s12 s13 wx=> ∃pa ok,s12= .pointer (some ⟨pa,0,none⟩) ∧s13= .bool ok∧Of W.heap.size W wx pa ok RA)
 case first=>
  go_region_held3 (fun w'=>w'.cell? ⟨p,0,none⟩ =some (.slice (some ⟨b,off,none⟩) nn cap) ∧w'.cell? ⟨q,0,none⟩ =some (.int .i64 d))
   (with_reducible first | exact KS.out _ hb0.drew | exact KS.out _ (hb0.alloc hb0.size _).drew | exact KS.out _ hz | exact KS.out _ (hz.alloc hz.size _) | exact KS.out _ (Bk (hz.alloc hz.size _) hz.size _ _ _ _ _ _ _ _) | exact KS.out _ (Bk hz hb0.size _ _ _ _ _ _ _ _))
   (first
    | (go_at_call 32;refine (IHa).mono ?_;rintro e w2 ⟨v,ok,x,rfl,hE,hR,hb2⟩;have HR :Hid _ :=hR;clear hR;obtain ⟨op,xv,xs,nmv,xn,ao,kk,c,rfl⟩ :=hE.shape;obtain ⟨xk,xi,xs2⟩ :=xv;have hz :Below w.heap.size w w2 :=hb0.drew.trans (hb2.mono hb0.size))
    | (go_at_call 32;refine (IHb).mono ?_;rintro e w2 ⟨v,ok,x,rfl,hE,hR,hb2⟩;have HR :Hid _ :=hR;clear hR;have b2 := (hb2.block _ (lt_of_block (w := (W.alloc (.cells Ap 37)).drew) (Ad W _))).trans (Ad W (.cells Ap 37));obtain ⟨op,xv,xs,nmv,xn,ao,kk,c,rfl⟩ :=hE.shape;obtain ⟨xk,xi,xs2⟩ :=xv;obtain ⟨⟨r0,r1,r2,r3,r4,r5,r6,r7⟩,f0,f1,f2,f3,f4,f5,f6,f7⟩ :=Ca b2;have hz :Below w.heap.size w w2 := (hb0.alloc hb0.size _).drew.trans (hb2.mono (hb0.alloc hb0.size _).size)))
  ·go_wp2_with fail
   go_meet
   case rel=>exact ⟨_,_,rfl,rfl,Py hE HR.out ((Below.refl _ W).drew.trans hb2)⟩
  ·go_wp2_with fail
   go_meet
   case rel=>exact ⟨_,_,rfl,rfl,Pz (by have h :=hE;rw [show (W.alloc (.cells Ap 37)).drew.heap.size=W.heap.size+1 from World.size_alloc _ _] at h;exact h) HR.out (((Below.refl _ W).alloc (Nat.le_refl _) _).drew.trans (hb2.mono (by rw [show (W.alloc (.cells Ap 37)).drew.heap.size=W.heap.size+1 from World.size_alloc _ _];omega))) b2⟩
 case rest=>
  obtain ⟨pa,okx,rfl,rfl,opx,k1,k2,s2,s1,nm1,nx,aox,kkx,cx,x,hpa,hpa1,hEx,hRx,hbx⟩ :=hcut
  obtain ⟨V1,hV1⟩ : ∃V,V=wc := ⟨_,rfl⟩
  subst hV1
  have HRX :Hid _ :=hRx
  have hb1 :Below w.heap.size w V1 :=hb0.trans (hbx.mono hb0.size)
  have b1 := (hbx.block _ (lt_of_block b0)).trans b0
  clear hRx n0 n1 n2 n3 IHa IHb b0
  have n0 := (KS.out V1 hb1).1
  have n1 := (KS.out V1 hb1).2
  have n2 := (KS.out (V1.alloc (.cells Ap 37)) (hb1.alloc hb1.size _)).1
  have n3 := (KS.out (V1.alloc (.cells Ap 37)) (hb1.alloc hb1.size _)).2
  have TF :=fun V (h1 :Below w.heap.size w V) v (h2 :Ak V v (L.drop (i+1))) =>HT.out V v h1 h2
  have HLL :Hid (Ak w (.slice (some ⟨b,off,none⟩) nn cap) L) :=by have h :=HL.out;rw [Hid,Ak,HN.out];exact h
  have key2 :=key.out
  clear HT key HL
  rcases key2 with ⟨rfl,hdr⟩ | ⟨hcp,hdr⟩
  ·have IHa :=TF V1.drew hb1.drew _ (hdr _ (HLL.out.below hb1.drew))
   have IHb :=TF (V1.alloc (.cells Ap 37)).drew (hb1.alloc hb1.size _).drew _ (hdr _ (HLL.out.below (hb1.alloc hb1.size _).drew))
   have i3 : (0 :Int) ≤ (i :Int) +1 :=by omega
   have i4 : ((i :Int) +1).toNat=i+1 :=by omega
   have i5 :IntKind.i64.wrap ((i :Int) +1) = (i :Int) +1 :=by rw [IntKind.wrap_i64];omega
   clear TF hdr HLL
   go_upto_region 2 with fail
   go_cut [14,15] from 16 (fun s14 s15 wx=> ∃pb ok,s14= .pointer (some ⟨pb,0,none⟩) ∧s15= .bool ok∧Of V1.heap.size V1 wx pb ok RB)
   case first=>
    go_region_held3 (fun w'=>w'.cell? ⟨p,0,none⟩ =some (.slice (some ⟨b,off,none⟩) nn (i+1)) ∧w'.cell? ⟨q,0,none⟩ =some (.int .i64 d))
     (with_reducible first | exact KS.out _ hb1.drew | exact KS.out _ (hb1.alloc hb1.size _).drew | exact KS.out _ hz | exact KS.out _ (hz.alloc hz.size _) | exact KS.out _ (Bk (hz.alloc hz.size _) hz.size _ _ _ _ _ _ _ _) | exact KS.out _ (Bk hz hb1.size _ _ _ _ _ _ _ _))
     (first
      | (go_at_call 62;refine (IHa).mono ?_;rintro e w2 ⟨v,ok,x,rfl,hE,hR,hb2⟩;have HR :Hid _ :=hR;clear hR;obtain ⟨op,xv,xs,nmv,xn,ao,kk,c,rfl⟩ :=hE.shape;obtain ⟨xk,xi,xs2⟩ :=xv;have hz :Below w.heap.size w w2 :=hb1.drew.trans (hb2.mono hb1.size))
      | (go_at_call 62;refine (IHb).mono ?_;rintro e w2 ⟨v,ok,x,rfl,hE,hR,hb2⟩;have HR :Hid _ :=hR;clear hR;have b2 := (hb2.block _ (lt_of_block (w := (V1.alloc (.cells Ap 37)).drew) (Ad V1 _))).trans (Ad V1 (.cells Ap 37));obtain ⟨op,xv,xs,nmv,xn,ao,kk,c,rfl⟩ :=hE.shape;obtain ⟨xk,xi,xs2⟩ :=xv;obtain ⟨⟨r0,r1,r2,r3,r4,r5,r6,r7⟩,f0,f1,f2,f3,f4,f5,f6,f7⟩ :=Ca b2;have hz :Below w.heap.size w w2 := (hb1.alloc hb1.size _).drew.trans (hb2.mono (hb1.alloc hb1.size _).size)))
    ·go_wp2_with fail
     go_meet
     case rel=>exact ⟨_,_,rfl,rfl,Py hE HR.out ((Below.refl _ V1).drew.trans hb2)⟩
    ·go_wp2_with fail
     go_meet
     case rel=>exact ⟨_,_,rfl,rfl,Pz (by have h :=hE;rw [show (V1.alloc (.cells Ap 37)).drew.heap.size=V1.heap.size+1 from World.size_alloc _ _] at h;exact h) HR.out (((Below.refl _ V1).alloc (Nat.le_refl _) _).drew.trans (hb2.mono (by rw [show (V1.alloc (.cells Ap 37)).drew.heap.size=V1.heap.size+1 from World.size_alloc _ _];omega))) b2⟩
   case rest=>
    obtain ⟨pb,oky,rfl,rfl,opy,j1,j2,t2,t1,nm2,ny,aoy,kky,cy,y,hpb,hpb1,hEy,hRy,hby⟩ :=hcut
    obtain ⟨V2,hV2⟩ : ∃V,V=wc := ⟨_,rfl⟩
    subst hV2
    have HRY :Hid _ :=hRy
    have bR :=Ae ((hby.block _ (lt_of_block b1)).trans b1) (.cells #[.int .i64 opx, .int .i64 k1, .int .i64 k2, .string s2, .string s1, .string nm1, .int .i64 nx, .slice aox kkx cx, .int .i64 opy, .int .i64 j1, .int .i64 j2, .string t2, .string t1, .string nm2, .int .i64 ny, .slice aoy kky cy] 37)
    have hpa2 := (hby.block _ (lt_of_block hpa)).trans hpa
    obtain ⟨l0,l1,l2,l3,l4,l5,l6,l7⟩ :=Cq hpa2 rfl
    obtain ⟨m0,m1,m2,m3,m4,m5,m6,m7⟩ :=Cq hpb rfl
    obtain ⟨⟨r0,r1,r2,r3,r4,r5,r6,r7⟩,f0,f1,f2,f3,f4,f5,f6,f7⟩ :=Ca bR
    obtain ⟨hN,hBN⟩ :=Us (o :=o) hb0 (by have :=HWs.out;omega) hbx hEx hby hEy
    have HE :Hid _ :=And.intro hN hBN
    clear hRy n0 n1 n2 n3 IHa IHb hN hBN hEx hEy hbx hby hpa hpb
    go_wp2_with fail
    all_goals
     refine bodyPost_ret (v := .tuple #[.agg #[.int .i64 o, .int .i64 zero.k, .int .i64 zero.n, .string zero.s, .string noW, .string noW, .int .i64 0, .slice (some ⟨V2.heap.size,0,none⟩) 2 2], .bool _]) (by simp [results,Tryz.results60,go_sem,r0,r1,r2,r3,r4,r5,r6,r7];exact ⟨⟨rfl,rfl,rfl⟩,rfl⟩) rfl ⟨_,_,_,rfl,HE.out.1, ?_,HE.out.2⟩
     rw [HRX.out,HRY.out]
     cases okx<;>cases oky<;>first | rfl | contradiction
  ·have IHa :=TF V1.drew hb1.drew _ (hdr _ (HLL.out.below hb1.drew))
   have IHb :=TF (V1.alloc (.cells Ap 37)).drew (hb1.alloc hb1.size _).drew _ (hdr _ (HLL.out.below (hb1.alloc hb1.size _).drew))
   have i3 : (0 :Int) ≤ (i :Int) +1 :=by omega
   have i4 : ((i :Int) +1).toNat=i+1 :=by omega
   have i5 :IntKind.i64.wrap ((i :Int) +1) = (i :Int) +1 :=by rw [IntKind.wrap_i64];omega
   clear TF hdr HLL
   go_upto_region 2 with fail
   go_cut [14,15] from 16 (fun s14 s15 wx=> ∃pb ok,s14= .pointer (some ⟨pb,0,none⟩) ∧s15= .bool ok∧Of V1.heap.size V1 wx pb ok RB)
   case first=>
    go_region_held3 (fun w'=>w'.cell? ⟨p,0,none⟩ =some (.slice (some ⟨b,off,none⟩) nn cap) ∧w'.cell? ⟨q,0,none⟩ =some (.int .i64 d))
     (with_reducible first | exact KS.out _ hb1.drew | exact KS.out _ (hb1.alloc hb1.size _).drew | exact KS.out _ hz | exact KS.out _ (hz.alloc hz.size _) | exact KS.out _ (Bk (hz.alloc hz.size _) hz.size _ _ _ _ _ _ _ _) | exact KS.out _ (Bk hz hb1.size _ _ _ _ _ _ _ _))
     (first
      | (go_at_call 62;refine (IHa).mono ?_;rintro e w2 ⟨v,ok,x,rfl,hE,hR,hb2⟩;have HR :Hid _ :=hR;clear hR;obtain ⟨op,xv,xs,nmv,xn,ao,kk,c,rfl⟩ :=hE.shape;obtain ⟨xk,xi,xs2⟩ :=xv;have hz :Below w.heap.size w w2 :=hb1.drew.trans (hb2.mono hb1.size))
      | (go_at_call 62;refine (IHb).mono ?_;rintro e w2 ⟨v,ok,x,rfl,hE,hR,hb2⟩;have HR :Hid _ :=hR;clear hR;have b2 := (hb2.block _ (lt_of_block (w := (V1.alloc (.cells Ap 37)).drew) (Ad V1 _))).trans (Ad V1 (.cells Ap 37));obtain ⟨op,xv,xs,nmv,xn,ao,kk,c,rfl⟩ :=hE.shape;obtain ⟨xk,xi,xs2⟩ :=xv;obtain ⟨⟨r0,r1,r2,r3,r4,r5,r6,r7⟩,f0,f1,f2,f3,f4,f5,f6,f7⟩ :=Ca b2;have hz :Below w.heap.size w w2 := (hb1.alloc hb1.size _).drew.trans (hb2.mono (hb1.alloc hb1.size _).size)))
    ·go_wp2_with fail
     go_meet
     case rel=>exact ⟨_,_,rfl,rfl,Py hE HR.out ((Below.refl _ V1).drew.trans hb2)⟩
    ·go_wp2_with fail
     go_meet
     case rel=>exact ⟨_,_,rfl,rfl,Pz (by have h :=hE;rw [show (V1.alloc (.cells Ap 37)).drew.heap.size=V1.heap.size+1 from World.size_alloc _ _] at h;exact h) HR.out (((Below.refl _ V1).alloc (Nat.le_refl _) _).drew.trans (hb2.mono (by rw [show (V1.alloc (.cells Ap 37)).drew.heap.size=V1.heap.size+1 from World.size_alloc _ _];omega))) b2⟩
   case rest=>
    obtain ⟨pb,oky,rfl,rfl,opy,j1,j2,t2,t1,nm2,ny,aoy,kky,cy,y,hpb,hpb1,hEy,hRy,hby⟩ :=hcut
    obtain ⟨V2,hV2⟩ : ∃V,V=wc := ⟨_,rfl⟩
    subst hV2
    have HRY :Hid _ :=hRy
    have bR :=Ae ((hby.block _ (lt_of_block b1)).trans b1) (.cells #[.int .i64 opx, .int .i64 k1, .int .i64 k2, .string s2, .string s1, .string nm1, .int .i64 nx, .slice aox kkx cx, .int .i64 opy, .int .i64 j1, .int .i64 j2, .string t2, .string t1, .string nm2, .int .i64 ny, .slice aoy kky cy] 37)
    have hpa2 := (hby.block _ (lt_of_block hpa)).trans hpa
    obtain ⟨l0,l1,l2,l3,l4,l5,l6,l7⟩ :=Cq hpa2 rfl
    obtain ⟨m0,m1,m2,m3,m4,m5,m6,m7⟩ :=Cq hpb rfl
    obtain ⟨⟨r0,r1,r2,r3,r4,r5,r6,r7⟩,f0,f1,f2,f3,f4,f5,f6,f7⟩ :=Ca bR
    obtain ⟨hN,hBN⟩ :=Us (o :=o) hb0 (by have :=HWs.out;omega) hbx hEx hby hEy
    have HE :Hid _ :=And.intro hN hBN
    clear hRy n0 n1 n2 n3 IHa IHb hN hBN hEx hEy hbx hby hpa hpb
    go_wp2_with fail
    all_goals
     refine bodyPost_ret (v := .tuple #[.agg #[.int .i64 o, .int .i64 zero.k, .int .i64 zero.n, .string zero.s, .string noW, .string noW, .int .i64 0, .slice (some ⟨V2.heap.size,0,none⟩) 2 2], .bool _]) (by simp [results,Tryz.results60,go_sem,r0,r1,r2,r3,r4,r5,r6,r7];exact ⟨⟨rfl,rfl,rfl⟩,rfl⟩) rfl ⟨_,_,_,rfl,HE.out.1, ?_,HE.out.2⟩
     rw [HRX.out,HRY.out]
     cases okx<;>cases oky<;>first | rfl | contradiction
end Go.Proofs.YtifjaegfpdjikaaGreatDoor

namespace Go.Proofs.YtifjaegfpdjikaaGreatDoor
open Go.RowKit
structure But2 (a b :Nat) (w w' :World) :Prop where
 os :w'.os=w.os
 tape :w'.tape=w.tape
 output :w'.output=w.output
 size :w.heap.size≤w'.heap.size
 block : ∀k,k<w.heap.size→k≠a→k≠b→w'.heap[k]? =w.heap[k]?
theorem But2.refl (a b :Nat) (w :World) :But2 a b w w := ⟨rfl,rfl,rfl,Nat.le_refl _,fun _ _ _ _=>rfl⟩
theorem But2.trans {a b :Nat} {u v w :World} (h :But2 a b u v) (k :But2 a b v w) :But2 a b u w :=
 ⟨k.os.trans h.os,k.tape.trans h.tape,k.output.trans h.output,Nat.le_trans h.size k.size,fun i hi hn hm=> (k.block i (Nat.lt_of_lt_of_le hi h.size) hn hm).trans (h.block i hi hn hm)⟩
theorem But2.of_but {a b :Nat} {w w' :World} (h :But a w w') :But2 a b w w' := ⟨h.os,h.tape,h.output,h.size,fun k hk hn _=>h.block k hk hn⟩
theorem But2.of_below {a b :Nat} {w w' :World} (h :Below w.heap.size w w') :But2 a b w w' := .of_but (.of_below h)
theorem But2.set_a {a b :Nat} {w w' :World} (h :But2 a b w w') (o :Nat) (u :Value) :But2 a b w (w'.setCell ⟨a,o,none⟩ u) :=
 h.trans ⟨rfl,rfl,rfl,by simp [World.setCell],fun k _ hn _=>Below.heap_setCell _ _ _ _ hn⟩
theorem But2.set_b {a b :Nat} {w w' :World} (h :But2 a b w w') (o :Nat) (u :Value) :But2 a b w (w'.setCell ⟨b,o,none⟩ u) :=
 h.trans ⟨rfl,rfl,rfl,by simp [World.setCell],fun k _ _ hn=>Below.heap_setCell _ _ _ _ hn⟩
theorem But2.alloc {a b :Nat} {w w' :World} (h :But2 a b w w') (o :Obj) :But2 a b w (w'.alloc o) :=h.trans (.of_below ((Below.refl _ _).alloc (Nat.le_refl _) o))
theorem But2.drew {a b :Nat} {w w' :World} (h :But2 a b w w') :But2 a b w w'.drew := ⟨h.os,h.tape,h.output,h.size,h.block⟩
theorem But2.keeps {a b :Nat} {F :Nat→Prop} {w w' :World} (h :But2 a b w w') (hF : ¬F a) (hG : ¬F b) :Keeps F w w' := ⟨h.size,fun k h1 h2=>h.block k h2 (by rintro rfl;exact hF h1) (by rintro rfl;exact hG h1)⟩
theorem But2.below {a b B :Nat} {w w' :World} (h :But2 a b w w') (hB :B≤a) (hC :B≤b) (ha :B≤w.heap.size) :Below B w w' := ⟨h.os,h.tape,h.output,h.size,fun k hk=>h.block k (by omega) (by omega) (by omega)⟩
structure S3 (w wx :World) (sl :Value) (arr :Array Value) :Prop where
 l :wx.heap[w.heap.size]? =some (.cells #[sl] 32)
 r :wx.heap[w.heap.size+1]? =some (.cells Ah 39)
 s :wx.heap[w.heap.size+2]? =some (.cells arr 39)
 b :Below w.heap.size w wx
theorem S3.next {w wx wy :World} {sl :Value} {arr :Array Value} (h :S3 w wx sl arr) (hb :Below wx.heap.size wx wy) :S3 w wy sl arr :=
 ⟨(hb.block _ (lt_of_block h.l)).trans h.l,(hb.block _ (lt_of_block h.r)).trans h.r,(hb.block _ (lt_of_block h.s)).trans h.s,h.b.trans (hb.mono h.b.size)⟩
theorem S3.alloc {w wx :World} {sl :Value} {arr :Array Value} (h :S3 w wx sl arr) (o :Obj) :S3 w (wx.alloc o) sl arr :=h.next ((Below.refl _ _).alloc (Nat.le_refl _) _)
theorem S3.drew {w wx :World} {sl :Value} {arr :Array Value} (h :S3 w wx sl arr) :S3 w wx.drew sl arr := ⟨h.l,h.r,h.s,h.b.drew⟩
theorem S3.size {w wx :World} {sl :Value} {arr :Array Value} (h :S3 w wx sl arr) :w.heap.size+3≤wx.heap.size :=by have :=lt_of_block h.s;omega
theorem S3.set {w wx :World} {sl :Value} {arr :Array Value} (h :S3 w wx sl arr) (i :Nat) (v :Value) :S3 w (wx.setCell ⟨w.heap.size+2,i,none⟩ v) sl (arr.setIfInBounds i v) :=
 ⟨Aj h.l (by omega) _ _,Aj h.r (by omega) _ _,upd h.s i v,h.b.setCell (p := ⟨w.heap.size+2,i,none⟩) (by simp) _⟩
theorem S3.cut {w wx :World} {sl :Value} {arr :Array Value} (h :S3 w wx sl arr) (v :Value) :S3 w (wx.setCell ⟨w.heap.size,0,none⟩ v) v arr :=
 ⟨upd h.l 0 v,Aj h.r (by omega) _ _,Aj h.s (by omega) _ _,h.b.setCell (p := ⟨w.heap.size,0,none⟩) (Nat.le_refl _) _⟩
theorem S3.but {w wx wy :World} {sl sl' :Value} {arr :Array Value} (h :S3 w wx sl arr) (hb :But w.heap.size wx wy) (hl :wy.heap[w.heap.size]? =some (.cells #[sl'] 32)) :S3 w wy sl' arr :=
 ⟨hl,(hb.block _ (lt_of_block h.r) (by omega)).trans h.r,(hb.block _ (lt_of_block h.s) (by omega)).trans h.s,h.b.trans (hb.below (Nat.le_refl _) (Nat.le_trans (by omega) h.size))⟩
def Ac0 (w :World) (sl :Value) (arr :Array Value) (T :Wd) :Prop := ∀W,S3 w W sl arr→Calls Tryz.prog 27 #[.string T, .pointer (some ⟨w.heap.size,0,none⟩)] W fun e w'=>e= .returned (.bool false) ∧S3 w w' sl arr
theorem Bz {T :Wd} {K :List Wd} (hH :IsHead T K) {w :World} {sl :Value} {L :List Wd} (he :Env w) (hL :Ak w sl L) (hw :Whole L) (hK :L.take K.length≠K) (arr :Array Value) :Ac0 w sl arr T :=by
 intro W hS
 have heW :=he.next hS.b
 by_cases hk :K.length≤L.length
 ·exact (Acc T K hH w.heap.size sl L w W heW hL hw hS.b hS.l hk hK).mono fun e w' ⟨h1,h2⟩ => ⟨h1,hS.next h2⟩
 ·obtain ⟨ao,n,cap,rfl,hn⟩ :=Ax hL
  exact (X1 T K hH w.heap.size ao n cap W heW hS.l (by omega)).mono fun e w' ⟨h1,h2⟩ => ⟨h1,hS.next h2⟩
def Acg (w :World) (sl :Value) (arr :Array Value) (T :Wd) (L' :List Wd) :Prop := ∀W,S3 w W sl arr→Calls Tryz.prog 27 #[.string T, .pointer (some ⟨w.heap.size,0,none⟩)] W fun e w'=>e= .returned (.bool true) ∧ ∃ao n c,S3 w w' (.slice ao n c) arr∧Ak w (.slice ao n c) L'
theorem D4 {T :Wd} {K :List Wd} (hH :IsHead T K) {w :World} {sl :Value} {L :List Wd} (he :Env w) (hL :Ak w sl L) (hw :Whole L) (hK :L.take K.length=K) (arr :Array Value) :Acg w sl arr T (L.drop K.length) :=by
 intro W hS
 have heW :=he.next hS.b
 have hk :K.length≤L.length :=by have :=congrArg List.length hK;simp at this;omega
 exact (Abb T K hH w.heap.size sl L w W heW hL hw hS.b hS.l hk hK).mono fun e w' ⟨h1,ao,n,c,h2,h3,h4⟩ => ⟨h1,ao,n,c,hS.but h4 h2,h3⟩
def Cv (R :Option Stm) (w :World) (e :Ending) (w' :World) :Prop := ∃kind name table col cols rows sets frm out op xk xn xs s nmv n8 sl order down n ok,e= .returned (.tuple #[.agg (sA kind name table col cols rows sets frm out op xk xn xs s nmv n8 sl order down n), .bool ok]) ∧ (Dz cols∧Dz rows∧Dz sets∧Dz frm∧Dz out∧Dz sl∧Dz order) ∧ (if ok=true then∃st,R=some st∧Fq.R (Fr w.heap.size) w' st (sA kind name table col cols rows sets frm out op xk xn xs s nmv n8 sl order down n).toList else R=none) ∧Below w.heap.size w w'
end Go.Proofs.YtifjaegfpdjikaaGreatDoor

namespace Go.Proofs.YtifjaegfpdjikaaGreatDoor
open Go.RowKit
set_option maxRecDepth 100000 in
set_option maxHeartbeats 4000000 in
theorem Yb (sl :Value) (arr :Array Value) (L :List Wd) (w W :World) (hl :L.length≤1600) (hL :Ak w sl L) (hS :S3 w W sl arr) (hc :B1 [Db] 0 0 L=none) :
  Calls Tryz.prog 30 #[.pointer (some ⟨w.heap.size,0,none⟩), .pointer (some ⟨w.heap.size+2,0,none⟩)] W fun e w'=>e= .returned (.bool true) ∧Below W.heap.size W w' :=by
 have CU :=Gu sl _ L [Db] _ hl (hL.below (hS.alloc (.cells #[.string Db] 9)).b) (Gv W Db)
 rw [hc] at CU
 obtain ⟨ao,n,cap,rfl,hn⟩ :=Ax hL
 have c0 :W.cell? ⟨w.heap.size,0,none⟩ =some (.slice ao n cap) :=Aa hS.l rfl
 clear hL hc hS hn
 go_enter Tryz.func30,Tryz.ntmps30
 go_wp2_with (go_at_call 31;go_must (go_fit CU;rintro e w2 ⟨a,c,k,rfl,⟨rfl,rfl,rfl⟩,hb2⟩))
 go_ret
 exact ⟨rfl,((Below.refl _ _).alloc (Nat.le_refl _) _).trans (hb2.mono (by simp))⟩
set_option maxRecDepth 100000 in
set_option maxHeartbeats 4000000 in
theorem Yc (RX :Option E) (sl :Value) (kind :Int) (name table col :Wd) (cols rows sets frm out order :Value) (down :Bool) (m :Int) (L :List Wd) (w W :World) (hl :L.length≤1600) (hL :Ak w sl L) (hS :S3 w W sl (sA kind name table col cols rows sets frm out 0 0 0 noW noW noW 0 (.slice none 0 0) order down m)) (i j :Nat) (hc :B1 [Db] 0 0 L=some (i,j))
  (hX : ∀V v,Below w.heap.size w V→Ak V v (L.drop (i+1)) →Calls Tryz.prog 32 #[v, .int .i64 6] V (Bj RX V)) :
  Calls Tryz.prog 30 #[.pointer (some ⟨w.heap.size,0,none⟩), .pointer (some ⟨w.heap.size+2,0,none⟩)] W fun e w'=> ∃ok x op xk xn xs s nmv n8 ao kk c ao' n' c',e= .returned (.bool ok) ∧S3 w w' (.slice ao' n' c') (sA kind name table col cols rows sets frm out op xk xn xs s nmv n8 (.slice ao kk c) order down m) ∧Ak w (.slice ao' n' c') (L.take i) ∧IsE (Fr W.heap.size) w' x (.agg (A2 op ⟨xk,xn,xs⟩ s nmv n8 (.slice ao kk c))) ∧RX= (if ok=true then some x else none) ∧But2 w.heap.size (w.heap.size+2) W w' :=by
 have CU :=Gu sl _ L [Db] _ hl (hL.below (hS.alloc (.cells #[.string Db] 9)).b) (Gv W Db)
 rw [hc] at CU
 have hS1 :=hS.alloc (.cells #[.string Db] 9)
 have HL :Hid _ :=hL
 obtain ⟨ao0,n0,cap0,rfl,hn⟩ :=Ax hL
 have c0 :W.cell? ⟨w.heap.size,0,none⟩ =some (.slice ao0 n0 cap0) :=Aa hS.l rfl
 have sW :=hS.size
 have HX :Hid _ :=hX
 clear hL hc hX hn
 go_enter Tryz.func30,Tryz.ntmps30
 go_upto_region 5 with (first
  | (go_at_call 31;go_must (go_fit CU;rintro e w2 ⟨a,c,k,rfl,⟨hsl,rfl,hil⟩,hb2⟩;obtain ⟨hA,hB⟩ :=hsl _ HL.out;have HA :Hid _ :=hA;have HB :Hid _ :=hB;obtain ⟨aoa,na,ca,rfl,hna⟩ :=Ax hA;obtain ⟨aob,nb,cb,rfl,hnb⟩ :=Ax hB;clear hsl hA hB hna hnb;have hS2 :=hS1.next hb2;have EX :=HX.out w2 _ hS2.b (HB.out.below hS2.b)))
  | (go_at_call 32;go_must (go_fit EX;rintro e w3 ⟨v,ok,x,rfl,hE,hR,hb3⟩;have HR :Hid _ :=hR;clear hR;obtain ⟨op,xv,xs,nmv,xn,ao,kk,cc,rfl⟩ :=hE.shape;obtain ⟨xk,xi,xs2⟩ :=xv;have hS3 :=hS2.next hb3)))
 have hS4 :=hS3.alloc (.cells #[.int .i64 op, .int .i64 xk, .int .i64 xi, .string xs2, .string xs, .string nmv, .int .i64 xn, .slice ao kk cc] 37)
 have bE :=Ad w3 (.cells #[.int .i64 op, .int .i64 xk, .int .i64 xi, .string xs2, .string xs, .string nmv, .int .i64 xn, .slice ao kk cc] 37)
 have hz :Below W.heap.size W (w3.alloc (.cells #[.int .i64 op, .int .i64 xk, .int .i64 xi, .string xs2, .string xs, .string nmv, .int .i64 xn, .slice ao kk cc] 37)) := ((((Below.refl _ W).alloc (Nat.le_refl _) _).trans (hb2.mono (by simp))).trans (hb3.mono (by have :=hb2.size;simp at this;omega))).alloc (by have :=hb2.size;have :=hb3.size;simp at*;omega) _
 have hE2 :IsE (Fr W.heap.size) (w3.alloc (.cells #[.int .i64 op, .int .i64 xk, .int .i64 xi, .string xs2, .string xs, .string nmv, .int .i64 xn, .slice ao kk cc] 37)) x (.agg (A2 op ⟨xk,xi,xs2⟩ xs nmv xn (.slice ao kk cc))) :=IsE.mono (fun k _ hk=>by have h :w2.heap.size≤k :=hk;have :=hb2.size;simp at this;show W.heap.size≤k;omega) _ _ (IsE.keep ((Keeps.refl _ _).alloc _) _ _ hE)
 have hg3 :w.heap.size+3≤w3.heap.size :=hS3.size
 generalize hW4 :w3.alloc (.cells #[.int .i64 op, .int .i64 xk, .int .i64 xi, .string xs2, .string xs, .string nmv, .int .i64 xn, .slice ao kk cc] 37) =W4 at*
 clear hW4 hS1 hS2 hS3 hb2 hb3 hE CU EX
 generalize w3.heap.size=be at*
 obtain ⟨l0,l1,l2,l3,l4,l5,l6,l7⟩ :=Cq bE rfl
 have p0 :W4.cell? ⟨w.heap.size,0,none⟩ =some _ :=Aa hS4.l (j :=0) rfl
 have p1 :=Ab hS4.l 0
 have s9 :W4.cell? ⟨w.heap.size+2,9,none⟩ =some _ :=Aa hS4.s (j :=9) rfl
 have f9 :=Ab hS4.s 9
 have s10 :W4.cell? ⟨w.heap.size+2,10,none⟩ =some _ :=Aa hS4.s (j :=10) rfl
 have f10 :=Ab hS4.s 10
 have s11 :W4.cell? ⟨w.heap.size+2,11,none⟩ =some _ :=Aa hS4.s (j :=11) rfl
 have f11 :=Ab hS4.s 11
 have s12 :W4.cell? ⟨w.heap.size+2,12,none⟩ =some _ :=Aa hS4.s (j :=12) rfl
 have f12 :=Ab hS4.s 12
 have s13 :W4.cell? ⟨w.heap.size+2,13,none⟩ =some _ :=Aa hS4.s (j :=13) rfl
 have f13 :=Ab hS4.s 13
 have s14 :W4.cell? ⟨w.heap.size+2,14,none⟩ =some _ :=Aa hS4.s (j :=14) rfl
 have f14 :=Ab hS4.s 14
 have s15 :W4.cell? ⟨w.heap.size+2,15,none⟩ =some _ :=Aa hS4.s (j :=15) rfl
 have f15 :=Ab hS4.s 15
 have s16 :W4.cell? ⟨w.heap.size+2,16,none⟩ =some _ :=Aa hS4.s (j :=16) rfl
 have f16 :=Ab hS4.s 16
 go_region
 all_goals
  go_wp2_with fail
  go_ret
  have hs := (((((((((hS4.cut (.slice aoa na ca)).set 9 (.int .i64 op)).set 10 (.int .i64 xk)).set 11 (.int .i64 xi)).set 12 (.string xs2)).set 13 (.string xs)).set 14 (.string nmv)).set 15 (.int .i64 xn)).set 16 (.slice ao kk cc)).drew
  have hB := ((((((((((But2.refl w.heap.size (w.heap.size+2) W4).set_a 0 (.slice aoa na ca)).set_b 9 (.int .i64 op)).set_b 10 (.int .i64 xk)).set_b 11 (.int .i64 xi)).set_b 12 (.string xs2)).set_b 13 (.string xs)).set_b 14 (.string nmv)).set_b 15 (.int .i64 xn)).set_b 16 (.slice ao kk cc)).drew
  simp only [List.setIfInBounds_toArray,List.set_cons_zero,List.set_cons_succ] at hs
  exact ⟨ok,x,op,xk,xi,xs2,xs,nmv,xn,ao,kk,cc,aoa,na,ca,rfl,hs,HA.out,IsE.keep (hB.keeps (show ¬W.heap.size≤w.heap.size by omega) (show ¬W.heap.size≤w.heap.size+2 by omega)) _ _ hE2,HR.out,(But2.of_below hz).trans hB⟩
end Go.Proofs.YtifjaegfpdjikaaGreatDoor


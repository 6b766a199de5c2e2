/-
  4 texts of this proof in one, in build order: YRef, YBindM, YMade, YBind.
-/
import Derived.Deep.MidRow
import Derived.Laws.MakeOwn
import Derived.Test.YtmgkcjiejmhgcaaGreatDoorJ07
set_option linter.unusedSimpArgs false
set_option linter.unusedVariables false
namespace Go.Proofs.YtmgkcjiejmhgcaaGreatDoor
open Go.RowKit Go.Maps
structure RefS where
 found :Nat
 kind :Int
 n :Int
 ahead :Nat
def Ez (t :TabD) (s name :Wd) :Bool :=decide (0≤Bk t.cols name) && (decide (s.size=0) || decide (s=t.name))
def Di (s name :Wd) (r :RefS) (t :TabD) :RefS :=
 ⟨if Ez t s name then r.found+1 else r.found,if Ez t s name then ((t.cols[(Bk t.cols name).toNat]?).map ColD.ty).getD 0 else r.kind,if Ez t s name then (r.ahead :Int) +Bk t.cols name else r.n,r.ahead+t.cols.length⟩
def Bx (S :List TabD) (s name :Wd) (n :Int) :RefS :=S.foldl (Di s name) ⟨0,0,n,0⟩
theorem Mo (S :List TabD) (t :TabD) (s name :Wd) (n :Int) :Bx (S++ [t]) s name n=Di s name (Bx S s name n) t :=by simp [Bx]
theorem F6 (l :List ColD) (s :Wd) :Bk l s= -1∨ ∃ (k :Nat) (x :ColD),Bk l s= (k :Int) ∧l[k]? =some x∧x.name=s :=by
 rcases Fq l (fun x=>decide (x.name=s)) with ⟨h1,_⟩ | ⟨k,x,h1,h2,h3,_⟩
 ·exact .inl h1
 ·exact .inr ⟨k,x,h1,h2,by simpa using h3⟩
theorem T6 {a :Int} (h :0≤a) (h2 :a≤4000000000) :IntKind.i64.wrap a=a :=by rw [IntKind.wrap_i64];omega
theorem Ay {P :Program} {fn :Func} {p q r :Tmp} {ty :TypeId} (h :fn.results= #[.cell p ty, .tmp q, .tmp r]) (tmps :Array Value) (w :World) (g :Nat) (t :TypeId) (cs :Array Value) (fr :Nat×Nat) (d :TypeDesc) (v u :Value)
  (hp :tmps.getD p undef= .pointer (some ⟨g,0,none⟩)) (hq :tmps.getD q undef=v) (hr :tmps.getD r undef=u) (hg :w.heap[g]? =some (.cells cs t fr))
  (hu :P.underlying ty=some d) (hd : (match d with | .struct _ | .array _ _=>true | _=>false) =true) (hi : (P.info? ty).map (·.size) =some cs.size) :
  (results fn tmps).run P w= .ok (.tuple #[.agg cs,v,u]) w :=by
 have hp' :tmps[p]?.getD undef= .pointer (some ⟨g,0,none⟩) :=by simpa using hp
 have hq' :tmps[q]?.getD undef=v :=by simpa using hq
 have hr' :tmps[r]?.getD undef=u :=by simpa using hr
 simp [results,h,hp',hq',hr',asAddr,run_loadVar_row w g t ty cs fr d hg hu hd hi]
theorem Ai : (Tryz.prog.info? 34).map (·.size) =some 8 :=by kernel_rfl
theorem A8 (op :Int) (x :V) (s name :Wd) (n :Int) (ao :Option Addr) (k c :Nat) : (Ad op x s name n (.slice ao k c)).all (·.oneCell') =true :=by simp [Value.oneCell']
def Jt (op :Int) (x :V) (s name :Wd) (ao :Option Addr) (k c :Nat) (r :RefS) :Value :=
 if r.found=1 then .tuple #[.agg (Ad op x s name r.n (.slice ao k c)), .int .i64 r.kind, .int .i64 0] else .tuple #[.agg (Ad 0 zero noW noW 0 (.slice none 0 0)), .int .i64 0, .int .i64 3]
theorem Nw {op :Int} {x :V} {s name :Wd} {ao :Option Addr} {k c :Nat} {r :RefS} (h :r.found=1) :Jt op x s name ao k c r= .tuple #[.agg (Ad op x s name r.n (.slice ao k c)), .int .i64 r.kind, .int .i64 0] :=if_pos h
theorem Nx {op :Int} {x :V} {s name :Wd} {ao :Option Addr} {k c :Nat} {r :RefS} (h : ¬r.found=1) :Jt op x s name ao k c r= .tuple #[.agg (Ad 0 zero noW noW 0 (.slice none 0 0)), .int .i64 0, .int .i64 3] :=if_neg h
set_option maxRecDepth 100000 in
set_option maxHeartbeats 4000000 in
theorem Sb (S :List TabD) (sv :Value) (op :Int) (x :V) (s name :Wd) (n :Int) (ao :Option Addr) (k c :Nat) (C :Nat) (w :World) (hl :IsL A4 (fun k=>k<C) w sv S) (hC :C≤w.heap.size) (hS :S.length≤1000) (hsc : ∀t∈S,t.cols.length≤1000000) :
  Calls Tryz.prog 130 #[sv, .agg (Ad op x s name n (.slice ao k c))] w fun e w'=>e= .returned (Jt op x s name ao k c (Bx S s name n)) ∧Below w.heap.size w w' :=by
 obtain ⟨so,sc,rfl⟩ :=hl.shape
 obtain ⟨xk,xn,xs⟩ :=x
 have hb2 :=Bz w (.cells (Ad op ⟨xk,xn,xs⟩ s name n (.slice ao k c)) 34) (.cells (Ad 0 zero noW noW 0 (.slice none 0 0)) 34)
 have hB0 : ((w.alloc (.cells (Ad op ⟨xk,xn,xs⟩ s name n (.slice ao k c)) 34)).alloc (.cells (Ad 0 zero noW noW 0 (.slice none 0 0)) 34)).heap[w.heap.size]? =some (.cells (Ad op ⟨xk,xn,xs⟩ s name n (.slice ao k c)) 34) :=Ae (Ab _ _) _
 have hB1 : ((w.alloc (.cells (Ad op ⟨xk,xn,xs⟩ s name n (.slice ao k c)) 34)).alloc (.cells (Ad 0 zero noW noW 0 (.slice none 0 0)) 34)).heap[w.heap.size+1]? =some (.cells (Ad 0 zero noW noW 0 (.slice none 0 0)) 34) :=A0 _ _ _
 generalize hr :Jt op ⟨xk,xn,xs⟩ s name ao k c (Bx S s name n) =R
 have HR :Hid (Jt op ⟨xk,xn,xs⟩ s name ao k c (Bx S s name n) =R) :=hr
 clear hr
 go_enter Tryz.func130,Tryz.ntmps130
 go_wp2
 go_loopw [7,8,9,15] (fun fv kv av i wr=> ∃ (j :Nat) (q :RefS),j≤S.length∧i= .int .i64 j∧fv= .int .i64 (q.found :Nat) ∧kv= .int .i64 q.kind∧av= .int .i64 (q.ahead :Nat) ∧Hid (Bx (S.take j) s name n=q) ∧q.found≤j∧q.ahead≤j*1000000∧wr.heap[w.heap.size]? =some (.cells (Ad op ⟨xk,xn,xs⟩ s name q.n (.slice ao k c)) 34) ∧wr.heap[w.heap.size+1]? =some (.cells (Ad 0 zero noW noW 0 (.slice none 0 0)) 34) ∧Below w.heap.size w wr) (fun _ _ _ i _=>S.length - (intOf i).toNat)
 case atStart=>exact ⟨0,⟨0,0,n,0⟩,Nat.zero_le _,rfl,rfl,rfl,rfl,rfl,Nat.le_refl _,by simp,hB0,hB1,hb2⟩
 case round=>
  obtain ⟨j,q,hj,rfl,rfl,rfl,rfl,HQ,hq1,hq2,hE,hZ,hbel⟩ :=hrel
  clear hB0 hB1
  have hlt0 :=lt_of_block hE
  have hlt1 :=lt_of_block hZ
  by_cases hjl :j<S.length
  ·obtain ⟨t,ht⟩ : ∃t,S[j]? =some t := ⟨_,List.getElem?_eq_getElem hjl⟩
   have hst :Hid (Bx (S.take (j+1)) s name n=Di s name q t) :=by
    show _=_
    rw [List.take_add_one,ht]
    exact (Mo _ _ _ _ _).trans (by rw [HQ.out])
   have htc :=hsc t (List.mem_of_getElem? ht)
   obtain ⟨b,off,cs,rfl,hbC,hb,⟨cv,rfl,hcv⟩,hcell⟩ :=Av (hl.keep (Ag (hbel.mono hC))) ht
   obtain ⟨co,cc,rfl⟩ :=hcv.shape
   have d0 :=hcell 0 _ rfl
   have d1 :=hcell 1 _ rfl
   simp only [A4,Nat.add_zero] at d0 d1
   have j0 : (0 :Int) ≤ (j :Int) :=by omega
   have j1 : (j :Int) < (S.length :Int) :=by omega
   have e2 :=Aa hE (j :=4) rfl
   have e3 :=Aa hE (j :=5) rfl
   have hbx :=Aq wr (.cells #[.string t.name, .slice co t.cols.length cc] 47)
   have HF :=Hr t.cols t.name (.slice co t.cols.length cc) name C _ (hcv.keep (Ag (hbx.mono (Nat.le_trans hC hbel.size)))) (Nat.le_trans (Nat.le_trans hC hbel.size) hbx.size)
   clear hcell ht
   go_upto_region 6 with (go_at_call 15;go_fit HF;rintro e w1 ⟨rfl,hb1⟩)
   have hbT :=Ak hbx hb1
   have hbw1 :Below w.heap.size w w1 :=hbel.trans (hbT.mono hbel.size)
   have hE1 := (hbT.block _ hlt0).trans hE
   have hZ1 := (hbT.block _ hlt1).trans hZ
   have hT1 :w1.heap[wr.heap.size]? =some (.cells #[.string t.name, .slice co t.cols.length cc] 47) := (hb1.block _ (by simp)).trans (Ab _ _)
   have g4 :=Aa hE1 (j :=4) rfl
   have t0 :=Aa hT1 (j :=0) rfl
   have t1 :=Aa hT1 (j :=1) rfl
   have w3 :wrap64 ((q.ahead :Int) + (t.cols.length :Int)) = (q.ahead :Int) + (t.cols.length :Int) :=by unfold wrap64;omega
   have HST0 :Hid (Di s name q t= ⟨if Ez t s name then q.found+1 else q.found,if Ez t s name then ((t.cols[(Bk t.cols name).toNat]?).map ColD.ty).getD 0 else q.kind,if Ez t s name then (q.ahead :Int) +Bk t.cols name else q.n,q.ahead+t.cols.length⟩) :=rfl
   have HIT :Hid (Ez t s name= (decide (0≤Bk t.cols name) && (s.toList.isEmpty || (s.toList==t.name.toList)))) :=by show _=_;rw [Ez,Gm,Bu]
   have HM :Ez t s name=false→Di s name q t= ⟨q.found,q.kind,q.n,q.ahead+t.cols.length⟩ :=fun h=>by rw [HST0.out,h];rfl
   by_cases hneg :Bk t.cols name= -1
   ·have HST :Hid (Di s name q t= ⟨q.found,q.kind,q.n,q.ahead+t.cols.length⟩) :=HM (by rw [HIT.out,hneg];rfl)
    rw [hneg]
    clear HF HM HIT HST0 hneg
    generalize Di s name q t=q' at hst HST
    have hst2 :Hid (Bx (S.take (j+1)) s name n= ⟨q.found,q.kind,q.n,q.ahead+t.cols.length⟩) :=hst.out.trans HST.out
    go_wp2_with fail
    go_roundw
    case rel=>exact ⟨j+1,⟨q.found,q.kind,q.n,q.ahead+t.cols.length⟩,by omega,by go_num,rfl,rfl,by simp,hst2,by simp only;omega,by simp only;omega,hE1,hZ1,hbw1⟩
    case measure=> (try clear q4);(try clear w3);simp [intOf];omega
   ·obtain ⟨kk,x,hk1,hk2,_⟩ : ∃ (k :Nat) (x :ColD),Bk t.cols name= (k :Int) ∧t.cols[k]? =some x∧x.name=name :=by
     rcases F6 t.cols name with h | h
     ·exact absurd h hneg
     ·exact h
    rw [hk1]
    rw [hk1] at HIT
    have hkl :kk<t.cols.length := (List.getElem?_eq_some_iff.1 hk2).1
    obtain ⟨cb,cof,ccs,rfl,hcbC,hcb,hcR,hccell⟩ :=Av (hcv.keep (Ag (hbT.mono (Nat.le_trans hC hbel.size)))) hk2
    obtain rfl :=hcR
    have c1 :=hccell 1 _ rfl
    simp only [Bg] at c1
    have q0 : (0 :Int) ≤ (kk :Int) :=by omega
    have q1 : (kk :Int) < (t.cols.length :Int) :=by omega
    have q4 :IntKind.i64.wrap ((q.ahead :Int) + (kk :Int)) = (q.ahead :Int) + (kk :Int) :=T6 (by omega) (by omega)
    have HH :Ez t s name=true→Di s name q t= ⟨q.found+1,x.ty,(q.ahead :Int) + (kk :Int),q.ahead+t.cols.length⟩ :=fun h=>by
     rw [HST0.out,h,hk1]
     simp [hk2]
    have g6 :=Aa hE1 (j :=6) rfl
    have f6 : ∀o,w1.frozen? ⟨w.heap.size,o,none⟩ =false :=fun o=>by simp [World.frozen?,hE1]
    have hcw :cb<w.heap.size :=Nat.lt_of_lt_of_le hcbC hC
    clear HF HST0 hneg hk1 hk2 hccell
    cases hem :s.toList.isEmpty
    ·cases heq : (s.toList==t.name.toList)
     ·have HST :Hid (Di s name q t= ⟨q.found,q.kind,q.n,q.ahead+t.cols.length⟩) :=HM (by rw [HIT.out,hem,heq];simp)
      clear HM HIT HH
      generalize Di s name q t=q' at hst HST
      have hst2 :Hid (Bx (S.take (j+1)) s name n= ⟨q.found,q.kind,q.n,q.ahead+t.cols.length⟩) :=hst.out.trans HST.out
      clear hst HST
      go_wp2_with fail
      go_roundw
      case rel=>clear q4 w3;exact ⟨j+1,⟨q.found,q.kind,q.n,q.ahead+t.cols.length⟩,by omega,by go_num,rfl,rfl,by simp,hst2,by simp only;omega,by simp only;omega,hE1,hZ1,hbw1⟩
      case measure=> (try clear q4);(try clear w3);simp [intOf];omega
     ·have HST :Hid (Di s name q t= ⟨q.found+1,x.ty,(q.ahead :Int) + (kk :Int),q.ahead+t.cols.length⟩) :=HH (by rw [HIT.out,hem,heq];simp)
      clear HM HIT HH
      generalize Di s name q t=q' at hst HST
      have hst2 :Hid (Bx (S.take (j+1)) s name n= ⟨q.found+1,x.ty,(q.ahead :Int) + (kk :Int),q.ahead+t.cols.length⟩) :=hst.out.trans HST.out
      clear hst HST
      go_wp2_with fail
      go_region_held3 (fun w'=>w'.cell? ⟨wr.heap.size,1,none⟩ =some (.slice (some ⟨cb,cof,none⟩) t.cols.length cc) ∧w'.cell? ⟨cb,cof+kk*3+1,none⟩ =some (.int .i64 x.ty)) (first | exact ⟨t1,c1⟩ | exact ⟨(Hq (by omega) _ _ _).trans t1,(Hq (by omega) _ _ _).trans c1⟩)
       (first | fail)
      go_wp2
      go_roundw
      case rel=>clear q4 w3;exact ⟨j+1,⟨q.found+1,x.ty,(q.ahead :Int) + (kk :Int),q.ahead+t.cols.length⟩,by omega,by go_num,by simp,rfl,by simp,hst2,by simp only;omega,by simp only;omega,Cl hE1 6 _,(Below.heap_setCell _ _ _ _ (show w.heap.size+1≠w.heap.size by omega)).trans hZ1,hbw1.drew.setCell (show w.heap.size≤w.heap.size from Nat.le_refl _) _⟩
      case measure=> (try clear q4);(try clear w3);simp [intOf];omega
    ·have HST :Hid (Di s name q t= ⟨q.found+1,x.ty,(q.ahead :Int) + (kk :Int),q.ahead+t.cols.length⟩) :=HH (by rw [HIT.out,hem];simp)
     clear HM HIT HH
     generalize Di s name q t=q' at hst HST
     have hst2 :Hid (Bx (S.take (j+1)) s name n= ⟨q.found+1,x.ty,(q.ahead :Int) + (kk :Int),q.ahead+t.cols.length⟩) :=hst.out.trans HST.out
     clear hst HST
     go_wp2_with fail
     go_region_held3 (fun w'=>w'.cell? ⟨wr.heap.size,1,none⟩ =some (.slice (some ⟨cb,cof,none⟩) t.cols.length cc) ∧w'.cell? ⟨cb,cof+kk*3+1,none⟩ =some (.int .i64 x.ty)) (first | exact ⟨t1,c1⟩ | exact ⟨(Hq (by omega) _ _ _).trans t1,(Hq (by omega) _ _ _).trans c1⟩)
      (first | fail)
     go_wp2
     go_roundw
     case rel=>clear q4 w3;exact ⟨j+1,⟨q.found+1,x.ty,(q.ahead :Int) + (kk :Int),q.ahead+t.cols.length⟩,by omega,by go_num,by simp,rfl,by simp,hst2,by simp only;omega,by simp only;omega,Cl hE1 6 _,(Below.heap_setCell _ _ _ _ (show w.heap.size+1≠w.heap.size by omega)).trans hZ1,hbw1.drew.setCell (show w.heap.size≤w.heap.size from Nat.le_refl _) _⟩
     case measure=> (try clear q4);(try clear w3);simp [intOf];omega
  ·have hjj :j=S.length :=by omega
   subst hjj
   have HQ2 :Hid (R=Jt op ⟨xk,xn,xs⟩ s name ao k c q) :=by show _=_;rw [←HR.out,←HQ.out,List.take_length]
   have j1 : ¬ (S.length :Int) < (S.length :Int) :=by omega
   clear HQ HR
   by_cases hf1 :q.found=1
   ·have hf2 : ((q.found :Int) !=1) =false :=by rw [hf1];rfl
    have HF1 :Hid (q.found=1) :=hf1
    clear hf1
    have hone :=A8 op ⟨xk,xn,xs⟩ s name q.n ao k c
    go_wp2_with (first | refine wpList_load_row rfl 34 _ rfl w.heap.size rfl 34 _ _ _ hE Tryz.underlying34 rfl Ai ?_ | refine wpList_store_row rfl 34 _ _ rfl (w.heap.size+1) _ rfl rfl 34 _ hZ Ai rfl hone ?_)
    exact bodyPost_ret (v := .tuple #[.agg (Ad op ⟨xk,xn,xs⟩ s name q.n (.slice ao k c)), .int .i64 q.kind, .int .i64 0]) (Ay Tryz.results130 _ _ (w.heap.size+1) 34 _ _ _ _ _ rfl rfl rfl (An hZ) Tryz.underlying34 rfl Ai) rfl ⟨by rw [HQ2.out,Nw HF1.out],Below.row hbel (by omega) _⟩
   ·have hf2 : ((q.found :Int) !=1) =true :=by simp;omega
    have HF1 :Hid (¬q.found=1) :=hf1
    clear hf1
    have hone :=A8 0 zero noW noW 0 none 0 0
    go_wp2_with (first | refine wpList_store_row rfl 34 _ _ rfl (w.heap.size+1) _ rfl rfl 34 _ hZ Ai rfl hone ?_)
    exact bodyPost_ret (v := .tuple #[.agg (Ad 0 zero noW noW 0 (.slice none 0 0)), .int .i64 0, .int .i64 3]) (Ay Tryz.results130 _ _ (w.heap.size+1) 34 _ _ _ _ _ rfl rfl rfl (An hZ) Tryz.underlying34 rfl Ai) rfl ⟨by rw [HQ2.out,Nx HF1.out],Below.row hbel (by omega) _⟩
end Go.Proofs.YtmgkcjiejmhgcaaGreatDoor

namespace Go.Proofs.YtmgkcjiejmhgcaaGreatDoor
mutual
def A3 (S :List TabD) :E→Except Int (E×Int)
 | .mk op x s name n l=>
  if op=1 then .ok (.mk op x s name n l,x.k)
  else if op=2 then
   if (Bx S s name n).found=1 then .ok (.mk op x s name (Bx S s name n).n l,(Bx S s name n).kind) else .error 3
  else match Bb S l with
   | .error m=> .error m
   | .ok r=>if I4 op (r.map Prod.snd) then .ok (.mk op x s name n (r.map Prod.fst),Gw op) else .error 5
def Bb (S :List TabD) :List E→Except Int (List (E×Int))
 | [] => .ok []
 | e ::l=>match A3 S e with
  | .error m=> .error m
  | .ok r=>match Bb S l with
   | .error m=> .error m
   | .ok rs=> .ok (r ::rs)
end
theorem Ei (S :List TabD) : ∀ (l :List E) (e :E),Bb S (l++ [e]) =match Bb S l with
  | .error m=> .error m
  | .ok rs=>match A3 S e with
   | .error m=> .error m
   | .ok r=> .ok (rs++ [r])
 | [],e=>by
  simp only [List.nil_append,Bb]
 | x ::l,e=>by
  simp only [List.cons_append,Bb,Ei S l e]
  cases A3 S x with
  | error m=>rfl
  | ok r=>
   cases Bb S l with
   | error m=>rfl
   | ok rs=>cases A3 S e<;>rfl
theorem E5 (S :List TabD) : ∀ (l m :List E),(∀k,Bb S l= .error k→Bb S (l++m) = .error k)
 | [],m,k,h=>by simp [Bb] at h
 | x ::l,m,k,h=>by
  simp only [List.cons_append,Bb] at h⊢
  cases hx :A3 S x with
  | error j=>rw [hx] at h;exact h
  | ok r=>
   rw [hx] at h
   simp only at h⊢
   cases hl :Bb S l with
   | error j=>
    rw [hl] at h
    rw [E5 S l m j hl]
    exact h
   | ok rs=>rw [hl] at h;cases h
end Go.Proofs.YtmgkcjiejmhgcaaGreatDoor

namespace Go.Proofs.YtmgkcjiejmhgcaaGreatDoor
open Go.RowKit
theorem Kp {b :Nat} {t :TypeId} {fr :Nat×Nat} : ∀ (vs old pre post :List Value) (w :World),w.heap[b]? =some (.cells (pre++old++post).toArray t fr) →old.length=vs.length→ (w.setCells b pre.length vs).heap[b]? =some (.cells (pre++vs++post).toArray t fr)
 | [],old,pre,post,w,h,hl=>by
  have :old= [] :=List.eq_nil_of_length_eq_zero (by simpa using hl)
  subst this
  simpa [World.setCells] using h
 | v ::vs,[],pre,post,w,h,hl=>by simp at hl
 | v ::vs,y ::old,pre,post,w,h,hl=>by
  have h1 :=Cl h pre.length v
  have e : (pre++ (y ::old) ++post).toArray.setIfInBounds pre.length v= ((pre++ [v]) ++old++post).toArray :=by simp
  rw [e] at h1
  have :=Kp vs old (pre++ [v]) post _ h1 (by simpa using hl)
  rw [World.setCells]
  simpa using this
theorem Ct {B g :Nat} (hB :B≤g) {a :World} : ∀ (vs :List Value) (o :Nat) (w :World),Below B a w→Below B a (w.setCells g o vs)
 | [],_,_,h=>h
 | v ::vs,o,_,h=>Ct hB vs (o+1) _ (h.setCell (p := ⟨g,o,none⟩) hB v)
theorem Bp (g :Nat) : ∀ (vs :List Value) (o :Nat) (w :World),(w.setCells g o vs).heap.size=w.heap.size
 | [],_,_=>rfl
 | v ::vs,o,w=>by rw [World.setCells,Bp g vs];simp [World.setCell]
theorem Be {g k :Nat} (hne :k≠g) : ∀ (vs :List Value) (o :Nat) (w :World),(w.setCells g o vs).heap[k]? =w.heap[k]?
 | [],_,_=>rfl
 | v ::vs,o,w=>by rw [World.setCells,Be hne vs,Below.heap_setCell w ⟨g,o,none⟩ v k hne]
theorem Fs {F :Nat→Prop} {g :Nat} (hg : ¬F g) (vs :List Value) (o :Nat) (w :World) :Keeps F w (w.setCells g o vs) :=
 ⟨by rw [Bp];exact Nat.le_refl _,fun k hk _=>Be (by rintro rfl;exact hg hk) vs o w⟩
def Cf {α :Type} (K :Elem α) (F :Nat→Prop) (w :World) (g n :Nat) (l :List α) :Prop :=
 ∃cs rest t,w.heap[g]? =some (.cells (cs++rest).toArray t) ∧ (cs++rest).length=n*K.size∧All K F w l cs
theorem G9 {α :Type} (K :Elem α) (F :Nat→Prop) {w :World} {arr :Array Value} {t :TypeId} {n :Nat} (h :arr.size=n*K.size) :Cf K F (w.alloc (.cells arr t)) w.heap.size n [] :=
 ⟨[],arr.toList,t,by simpa using Ab w _,by simpa using h,rfl⟩
theorem Cf.keep {α :Type} {K :Elem α} {F :Nat→Prop} {w w' :World} {g n :Nat} {l :List α} (h :Cf K F w g n l) (hk :Keeps F w w') (hg :w'.heap[g]? =w.heap[g]?) :Cf K F w' g n l :=by
 obtain ⟨cs,rest,t,h1,h2,h3⟩ :=h
 exact ⟨cs,rest,t,hg.trans h1,h2,h3.keep hk⟩
theorem Cf.lt {α :Type} {K :Elem α} {F :Nat→Prop} {w :World} {g n :Nat} {l :List α} (h :Cf K F w g n l) :g<w.heap.size :=by
 obtain ⟨cs,rest,t,h1,_⟩ :=h
 exact lt_of_block h1
theorem Cf.below {α :Type} {K :Elem α} {F :Nat→Prop} {w w' :World} {g n :Nat} {l :List α} (h :Cf K F w g n l) (hb :Below w.heap.size w w') :Cf K F w' g n l :=h.keep (Ar hb) (hb.block g h.lt)
theorem Cf.there {α :Type} {K :Elem α} {F :Nat→Prop} {w :World} {g n :Nat} {l :List α} (h :Cf K F w g n l) {i :Nat} (hi :i<n) :w.there g (i*K.size) K.size :=by
 obtain ⟨cs,rest,t,h1,h2,_⟩ :=h
 intro j hj
 have hlt :i*K.size+j< (cs++rest).length :=by
  rw [h2]
  have : (i+1) *K.size≤n*K.size :=Nat.mul_le_mul_right _ hi
  rw [Nat.add_mul] at this
  omega
 refine ⟨?_,by simp [World.frozen?,h1]⟩
 rw [Aa h1 (j :=i*K.size+j) (u := (cs++rest)[i*K.size+j]) (by simp)]
 rfl
theorem Cf.set {α :Type} {K :Elem α} {F :Nat→Prop} {w :World} {g n :Nat} {l :List α} (h :Cf K F w g n l) (hl :l.length<n) (hg : ¬F g) {a :α} {c :List Value} (hc :K.R F w a c) :Cf K F (w.setCells g (l.length*K.size) c) g n (l++ [a]) :=by
 obtain ⟨cs,rest,t,h1,h2,h3⟩ :=h
 have e1 :=h3.length
 have e2 :=K.len hc
 have hle :K.size≤rest.length :=by
  rw [List.length_append] at h2
  have : (l.length+1) *K.size≤n*K.size :=Nat.mul_le_mul_right _ hl
  rw [Nat.add_mul] at this
  omega
 have hk :=Fs hg c (l.length*K.size) w
 refine ⟨cs++c,rest.drop K.size,t, ?_, ?_,(h3.keep hk).append (All.one (K.keep hk hc))⟩
 ·have h1' :w.heap[g]? =some (.cells (cs++rest.take K.size++rest.drop K.size).toArray t) :=by rw [List.append_assoc,List.take_append_drop];exact h1
  have :=Kp c (rest.take K.size) cs (rest.drop K.size) w h1' (by rw [List.length_take,e2];omega)
  rwa [e1] at this
 ·simp only [List.length_append,List.length_drop] at h2⊢
  omega
theorem Cf.set1 {α :Type} {K :Elem α} {F :Nat→Prop} {w :World} {g n :Nat} {l :List α} (h :Cf K F w g n l) (hl :l.length<n) (hg : ¬F g) (hK :K.size=1) {a :α} {v :Value} (hc :K.R F w a [v]) :Cf K F (w.setCell ⟨g,l.length,none⟩ v) g n (l++ [a]) :=by
 have :=h.set hl hg hc
 rw [hK,Nat.mul_one] at this
 exact this
theorem Cf.whole {α :Type} {K :Elem α} {F F' :Nat→Prop} {w :World} {g n :Nat} {l :List α} (h :Cf K F w g n l) (hl :l.length=n) (hF : ∀k,F k→F' k) (hg :F' g) (hn :n≤maxLen) :IsL K F' w (.slice (some ⟨g,0,none⟩) n n) l :=by
 obtain ⟨cs,rest,t,h1,h2,h3⟩ :=h
 subst hl
 have e1 :=h3.length
 have hr :rest= [] :=List.eq_nil_of_length_eq_zero (by rw [List.length_append] at h2;omega)
 subst hr
 refine ⟨cs,⟨e1, ?_⟩,h3.mono fun k _=>hF k⟩
 by_cases h0 :l.length=0
 ·exact .inl ⟨h0,_,_,by rw [h0],fun h=>by cases h⟩
 ·refine .inr ⟨by omega,g,0,l.length,rfl,hg,lt_of_block h1,Nat.le_refl _,hn,fun j u hj=> ?_⟩
  rw [Nat.zero_add]
  exact Aa h1 (by simpa using hj)
theorem Mp {w :World} {g o n :Nat} (h :w.there g o n) {j :Nat} (hj :j<n) : (∃u,w.cell? ⟨g,o+j,none⟩ =some u) ∧w.frozen? ⟨g,o+j,none⟩ =false :=
 ⟨Option.isSome_iff_exists.1 (h j hj).1,(h j hj).2⟩
end Go.Proofs.YtmgkcjiejmhgcaaGreatDoor

namespace Go.Proofs.YtmgkcjiejmhgcaaGreatDoor
open Go.RowKit Go.Maps
def Er (S :List TabD) (e :E) (B :Nat) (w' :World) (v :Value) :Prop :=
 match A3 S e with
 | .error m=>v= .tuple #[.agg (Ad 0 zero noW noW 0 (.slice none 0 0)), .int .i64 0, .int .i64 m]
 | .ok r=> ∃ (op :Int) (x :V) (s name :Wd) (n :Int) (ao :Option Addr) (k c :Nat),v= .tuple #[.agg (Ad op x s name n (.slice ao k c)), .int .i64 r.2, .int .i64 0] ∧IsE (Fr B) w' r.1 (.agg (Ad op x s name n (.slice ao k c)))
theorem A9 {S :List TabD} {e :E} {m :Int} (h :A3 S e= .error m) {B :Nat} {w' :World} {v :Value} :Er S e B w' v↔v= .tuple #[.agg (Ad 0 zero noW noW 0 (.slice none 0 0)), .int .i64 0, .int .i64 m] :=by unfold Er;rw [h]
theorem Bi {S :List TabD} {e :E} {r :E×Int} (h :A3 S e= .ok r) {B :Nat} {w' :World} {v :Value} :Er S e B w' v↔ ∃ (op :Int) (x :V) (s name :Wd) (n :Int) (ao :Option Addr) (k c :Nat),v= .tuple #[.agg (Ad op x s name n (.slice ao k c)), .int .i64 r.2, .int .i64 0] ∧IsE (Fr B) w' r.1 (.agg (Ad op x s name n (.slice ao k c))) :=by unfold Er;rw [h]
mutual
theorem Ew (S :List TabD) : ∀ (e :E) (m :Int),A3 S e= .error m→m=3∨m=5
 | .mk op x s name n l,m,h=>by
  rw [A3] at h
  split at h
  ·cases h
  ·split at h
   ·split at h
    ·cases h
    ·exact .inl (by simpa using h.symm)
   ·cases hl :Bb S l with
    | error j=>
     rw [hl] at h
     simp only [Except.error.injEq] at h
     subst h
     exact J4 S l _ hl
    | ok r=>
     rw [hl] at h
     simp only at h
     split at h
     ·cases h
     ·exact .inr (by simpa using h.symm)
theorem J4 (S :List TabD) : ∀ (l :List E) (m :Int),Bb S l= .error m→m=3∨m=5
 | [],m,h=>by rw [Bb] at h;cases h
 | e ::l,m,h=>by
  rw [Bb] at h
  cases he :A3 S e with
  | error j=>
   rw [he] at h
   simp only [Except.error.injEq] at h
   subst h
   exact Ew S e _ he
  | ok r=>
   rw [he] at h
   simp only at h
   cases hl :Bb S l with
   | error j=>
    rw [hl] at h
    simp only [Except.error.injEq] at h
    subst h
    exact J4 S l _ hl
   | ok rs=>rw [hl] at h;cases h
end
theorem Le (S :List TabD) (x :V) (s name :Wd) (n :Int) (l :List E) :A3 S (.mk 1 x s name n l) = .ok (.mk 1 x s name n l,x.k) :=by rw [A3];rfl
theorem Lf (S :List TabD) (x :V) (s name :Wd) (n :Int) (l :List E) :A3 S (.mk 2 x s name n l) =if (Bx S s name n).found=1 then .ok (.mk 2 x s name (Bx S s name n).n l,(Bx S s name n).kind) else .error 3 :=by rw [A3];rfl
theorem J5 (S :List TabD) {op :Int} (h1 :op≠1) (h2 :op≠2) (x :V) (s name :Wd) (n :Int) (l :List E) :A3 S (.mk op x s name n l) =match Bb S l with
   | .error m=> .error m
   | .ok r=>if I4 op (r.map Prod.snd) then .ok (.mk op x s name n (r.map Prod.fst),Gw op) else .error 5 :=by
 rw [A3,if_neg h1,if_neg h2]
 all_goals (cases Bb S l<;>rfl)
def Qy (S :List TabD) (d :Nat) :Prop := ∀ (e :E) (v sv :Value) (C :Nat) (w :World),IsE (fun k=>k<C) w e v→IsL A4 (fun k=>k<C) w sv S→C≤w.heap.size→geB d e=true→
  Calls Tryz.prog 120 #[sv,v] w fun r w'=> (∃v,r= .returned v∧Er S e w.heap.size w' v) ∧Below w.heap.size w w'
theorem Dn {F :Nat→Prop} {w :World} {op :Int} {x :V} {s name :Wd} {n :Int} {ao :Option Addr} {c :Nat} (h :ao=none→c=0) :IsE F w (.mk op x s name n []) (.agg (Ad op x s name n (.slice ao 0 c))) :=
 Dd ⟨[],⟨rfl, .inl ⟨rfl,ao,c,rfl,h⟩⟩,by rw [Cs]⟩
theorem I5 {F :Nat→Prop} {w :World} {op :Int} {x :V} {s name :Wd} {n :Int} {ao :Option Addr} {k c :Nat} (h :IsE F w (.mk op x s name n []) (.agg (Ad op x s name n (.slice ao k c)))) :k=0∧ (ao=none→c=0) :=by
 obtain ⟨sv,h1,cs,hr,_⟩ :=h.open
 have h2 :sv= .slice ao k c :=by simpa using (Value.agg.inj h1).symm
 subst h2
 rcases hr.2 with ⟨_,a,c',h3,h4⟩ | ⟨h0,_⟩
 ·cases h3;exact ⟨rfl,h4⟩
 ·simp at h0
def I6 (w :World) (g :Nat) (op :Int) (xk xn :Int) (xs s name :Wd) (n :Int) (sv :Value) :Prop :=w.cell? ⟨g,0,none⟩ =some (.int .i64 op) ∧w.cell? ⟨g,1,none⟩ =some (.int .i64 xk) ∧w.cell? ⟨g,2,none⟩ =some (.int .i64 xn) ∧w.cell? ⟨g,3,none⟩ =some (.string xs) ∧w.cell? ⟨g,4,none⟩ =some (.string s) ∧w.cell? ⟨g,5,none⟩ =some (.string name) ∧w.cell? ⟨g,6,none⟩ =some (.int .i64 n) ∧w.cell? ⟨g,7,none⟩ =some sv
theorem Jd {w :World} {g :Nat} {op xk xn :Int} {xs s name :Wd} {n :Int} {sv :Value} {t :TypeId} {fr :Nat×Nat} (h :w.heap[g]? =some (.cells (Ad op ⟨xk,xn,xs⟩ s name n sv) t fr)) :I6 w g op xk xn xs s name n sv :=
 ⟨Aa h rfl,Aa h rfl,Aa h rfl,Aa h rfl,Aa h rfl,Aa h rfl,Aa h rfl,Aa h rfl⟩
theorem T7 (w :World) (op xk xn :Int) (xs s name :Wd) (n :Int) (sv :Value) (t :TypeId) (o :Obj) :I6 ((w.alloc (.cells (Ad op ⟨xk,xn,xs⟩ s name n sv) t)).alloc o) w.heap.size op xk xn xs s name n sv :=Jd (Ae (Ab _ _) _)
set_option maxRecDepth 100000 in
set_option maxHeartbeats 4000000 in
theorem Xr (S :List TabD) (sv :Value) (x :V) (s name :Wd) (n :Int) (ao :Option Addr) (c :Nat) (w :World) (hc :ao=none→c=0) (hsv :Dx sv) :
  Calls Tryz.prog 120 #[sv, .agg (Ad 1 x s name n (.slice ao 0 c))] w fun r w'=> (∃v,r= .returned v∧Er S (.mk 1 x s name n []) w.heap.size w' v) ∧Below w.heap.size w w' :=by
 obtain ⟨so,sl,sc,rfl⟩ :=hsv
 obtain ⟨xk,xn,xs⟩ :=x
 have hb2 :=Bz w (.cells (Ad 1 ⟨xk,xn,xs⟩ s name n (.slice ao 0 c)) 34) (.cells (Ad 0 zero noW noW 0 (.slice none 0 0)) 34)
 have hB0 : ((w.alloc (.cells (Ad 1 ⟨xk,xn,xs⟩ s name n (.slice ao 0 c)) 34)).alloc (.cells (Ad 0 zero noW noW 0 (.slice none 0 0)) 34)).heap[w.heap.size]? =some (.cells (Ad 1 ⟨xk,xn,xs⟩ s name n (.slice ao 0 c)) 34) :=Ae (Ab _ _) _
 have hB1 : ((w.alloc (.cells (Ad 1 ⟨xk,xn,xs⟩ s name n (.slice ao 0 c)) 34)).alloc (.cells (Ad 0 zero noW noW 0 (.slice none 0 0)) 34)).heap[w.heap.size+1]? =some (.cells (Ad 0 zero noW noW 0 (.slice none 0 0)) 34) :=A0 _ _ _
 go_enter Tryz.func120,Tryz.ntmps120
 go_wp2_with fail
 go_region_held3 (fun w'=>w'.cell? ⟨w.heap.size,0,none⟩ =some (.int .i64 1) ∧w'.cell? ⟨w.heap.size,1,none⟩ =some (.int .i64 xk) ∧w'.cell? ⟨w.heap.size,2,none⟩ =some (.int .i64 xn) ∧w'.cell? ⟨w.heap.size,3,none⟩ =some (.string xs) ∧w'.cell? ⟨w.heap.size,4,none⟩ =some (.string s) ∧w'.cell? ⟨w.heap.size,5,none⟩ =some (.string name) ∧w'.cell? ⟨w.heap.size,6,none⟩ =some (.int .i64 n) ∧w'.cell? ⟨w.heap.size,7,none⟩ =some (.slice ao 0 c)) (exact T7 _ _ _ _ _ _ _ _ _ _ _)
  (first | fail)
 go_wp2
 exact bodyPost_ret (v := .tuple #[.agg (Ad 1 ⟨xk,xn,xs⟩ s name n (.slice ao 0 c)), .int .i64 xk, .int .i64 0]) (Ay Tryz.results120 _ _ (w.heap.size+1) 34 _ _ _ _ _ rfl rfl rfl (A0 _ _ _) Tryz.underlying34 rfl Ai) rfl ⟨⟨_,rfl,(Bi (Le S _ _ _ _ _)).2 ⟨1,⟨xk,xn,xs⟩,s,name,n,ao,0,c,rfl,Dn hc⟩⟩,(Bz _ _ _).drew⟩
set_option maxRecDepth 100000 in
set_option maxHeartbeats 4000000 in
theorem Xs (S :List TabD) (sv :Value) (x :V) (s name :Wd) (n :Int) (ao :Option Addr) (c C :Nat) (w :World) (hc :ao=none→c=0) (hl :IsL A4 (fun k=>k<C) w sv S) (hC :C≤w.heap.size) (hS :S.length≤1000) (hsc : ∀t∈S,t.cols.length≤1000000) :
  Calls Tryz.prog 120 #[sv, .agg (Ad 2 x s name n (.slice ao 0 c))] w fun r w'=> (∃v,r= .returned v∧Er S (.mk 2 x s name n []) w.heap.size w' v) ∧Below w.heap.size w w' :=by
 obtain ⟨so,sc,rfl⟩ :=hl.shape
 obtain ⟨xk,xn,xs⟩ :=x
 have hb2 :=Bz w (.cells (Ad 2 ⟨xk,xn,xs⟩ s name n (.slice ao 0 c)) 34) (.cells (Ad 0 zero noW noW 0 (.slice none 0 0)) 34)
 have HR :=Sb S (.slice so S.length sc) 2 ⟨xk,xn,xs⟩ s name n ao 0 c C _ (hl.keep (Ag (hb2.mono hC))) (Nat.le_trans hC hb2.size) hS hsc
 have hone :=fun n=>A8 2 ⟨xk,xn,xs⟩ s name n ao 0 c
 have hone0 :=A8 0 zero noW noW 0 none 0 0
 have HB :Hid (A3 S (.mk 2 ⟨xk,xn,xs⟩ s name n []) =if (Bx S s name n).found=1 then .ok (.mk 2 ⟨xk,xn,xs⟩ s name (Bx S s name n).n [],(Bx S s name n).kind) else .error 3) :=Lf S _ _ _ _ _
 generalize Bx S s name n=q at HR HB
 clear hl
 by_cases hf1 :q.found=1
 ·rw [Nw hf1] at HR
  have HB2 :Hid (A3 S (.mk 2 ⟨xk,xn,xs⟩ s name n []) = .ok (.mk 2 ⟨xk,xn,xs⟩ s name q.n [],q.kind)) :=HB.out.trans (if_pos hf1)
  clear HB hf1
  go_enter Tryz.func120,Tryz.ntmps120
  go_upto_region 6 with (first | (go_at_call 130;go_fit HR;rintro e w1 ⟨rfl,hb1⟩;have hZ :w1.heap[w.heap.size+1]? =some (.cells (Ad 0 zero noW noW 0 (.slice none 0 0)) 34) := (hb1.block _ (by simp)).trans (A0 _ _ _)) | refine wpList_store_row rfl 34 _ _ rfl (w.heap.size+1) _ rfl rfl 34 _ hZ Ai rfl (hone _) ?_)
  exact bodyPost_ret (v := .tuple #[.agg (Ad 2 ⟨xk,xn,xs⟩ s name q.n (.slice ao 0 c)), .int .i64 q.kind, .int .i64 0]) (Ay Tryz.results120 _ _ (w.heap.size+1) 34 _ _ _ _ _ rfl rfl rfl (An hZ) Tryz.underlying34 rfl Ai) rfl ⟨⟨_,rfl,(Bi HB2.out).2 ⟨2,⟨xk,xn,xs⟩,s,name,q.n,ao,0,c,rfl,Dn hc⟩⟩,Below.row (Ak hb2 hb1) (by omega) _⟩
 ·rw [Nx hf1] at HR
  have HB2 :Hid (A3 S (.mk 2 ⟨xk,xn,xs⟩ s name n []) = .error 3) :=HB.out.trans (if_neg hf1)
  clear HB hf1
  go_enter Tryz.func120,Tryz.ntmps120
  go_upto_region 6 with (first | (go_at_call 130;go_fit HR;rintro e w1 ⟨rfl,hb1⟩;have hZ :w1.heap[w.heap.size+1]? =some (.cells (Ad 0 zero noW noW 0 (.slice none 0 0)) 34) := (hb1.block _ (by simp)).trans (A0 _ _ _)) | refine wpList_store_row rfl 34 _ _ rfl (w.heap.size+1) _ rfl rfl 34 _ hZ Ai rfl hone0 ?_)
  exact bodyPost_ret (v := .tuple #[.agg (Ad 0 zero noW noW 0 (.slice none 0 0)), .int .i64 0, .int .i64 3]) (Ay Tryz.results120 _ _ (w.heap.size+1) 34 _ _ _ _ _ rfl rfl rfl (An hZ) Tryz.underlying34 rfl Ai) rfl ⟨⟨_,rfl,(A9 HB2.out).2 rfl⟩,Below.row (Ak hb2 hb1) (by omega) _⟩
end Go.Proofs.YtmgkcjiejmhgcaaGreatDoor


/-
  1 texts of this proof in one, in build order: YBindRow.
-/
import Derived.Deep.RegionHeld3
import Derived.Test.YtmgkcjiejmhgcaaGreatDoorJ10
set_option linter.unusedSimpArgs false
set_option linter.unusedVariables false
namespace Go.Proofs.YtmgkcjiejmhgcaaGreatDoor
open Go.RowKit Go.Maps
def Ba {α β :Type} (f :α→Except Int β) :List α→Except Int (List β)
 | [] => .ok []
 | a ::l=>match f a with
  | .error m=> .error m
  | .ok b=>match Ba f l with
   | .error m=> .error m
   | .ok bs=> .ok (b ::bs)
theorem Ec {α β :Type} (f :α→Except Int β) : ∀ (l :List α) (a :α),Ba f (l++ [a]) =match Ba f l with
  | .error m=> .error m
  | .ok bs=>match f a with
   | .error m=> .error m
   | .ok b=> .ok (bs++ [b])
 | [],a=>by
  simp only [List.nil_append,Ba]
 | x ::l,a=>by
  simp only [List.cons_append,Ba,Ec f l a]
  cases f x with
  | error m=>rfl
  | ok r=>
   cases Ba f l with
   | error m=>rfl
   | ok rs=>cases f a<;>rfl
theorem Ek {α β :Type} (f :α→Except Int β) : ∀ (l m :List α) (k :Int),Ba f l= .error k→Ba f (l++m) = .error k
 | [],m,k,h=>by simp [Ba] at h
 | x ::l,m,k,h=>by
  simp only [List.cons_append,Ba] at h⊢
  cases hx :f x with
  | error j=>rw [hx] at h;exact h
  | ok r=>
   rw [hx] at h
   simp only at h⊢
   cases hl :Ba f l with
   | error j=>
    rw [hl] at h
    rw [Ek f l m j hl]
    exact h
   | ok rs=>rw [hl] at h;cases h
theorem M7 {α β :Type} (f :α→Except Int β) (P :Int→Prop) (hf : ∀a m,f a= .error m→P m) : ∀ (l :List α) (m :Int),Ba f l= .error m→P m
 | [],m,h=>by simp [Ba] at h
 | x ::l,m,h=>by
  simp only [Ba] at h
  cases hx :f x with
  | error j=>
   rw [hx] at h
   obtain rfl :=Except.error.inj h
   exact hf x _ hx
  | ok r=>
   rw [hx] at h
   simp only at h
   cases hl :Ba f l with
   | error j=>
    rw [hl] at h
    obtain rfl :=Except.error.inj h
    exact M7 f P hf l _ hl
   | ok rs=>rw [hl] at h;cases h
def Fa (p :ColD×E) :Except Int E :=asR [] p.1.ty p.2
def Es (cols :List ColD) (row :List E) :Except Int (List E) :=if row.length=cols.length then Ba Fa (cols.zip row) else .error 5
theorem Q0 {cols :List ColD} {row :List E} {m :Int} (h :Es cols row= .error m) :m=3∨m=5 :=by
 unfold Es at h
 split at h
 ·exact M7 Fa (fun m=>m=3∨m=5) (fun a m ha=>Ft ha) _ m h
 ·exact .inr (Except.error.inj h).symm
def Fu (cols :List ColD) (rows :List (List E)) :Except Int (List (List E)) :=Ba (Es cols) rows
theorem O9 {cols :List ColD} {rows :List (List E)} {m :Int} (h :Fu cols rows= .error m) :m=3∨m=5 :=M7 _ (fun m=>m=3∨m=5) (fun _ _ ha=>Q0 ha) _ m h
theorem Xv {cols :List ColD} {row :List E} {j :Nat} {c :ColD} {a :E} (hc :cols[j]? =some c) (ha :row[j]? =some a) : (cols.zip row).take (j+1) = (cols.zip row).take j++ [(c,a)] :=by
 rw [List.take_add_one]
 have : (cols.zip row)[j]? =some (c,a) :=by rw [List.getElem?_zip_eq_some];exact ⟨hc,ha⟩
 rw [this];rfl
def Lh (w' :World) (g gc o1 ge :Nat) (cv :Value) (ty op xk xn :Int) (xs s name :Wd) (n :Int) (sv :Value) :Prop :=
 w'.cell? ⟨g,1,none⟩ =some cv∧w'.cell? ⟨gc,o1,none⟩ =some (.int .i64 ty) ∧I6 w' ge op xk xn xs s name n sv
theorem Lh.below {w w' :World} {B g gc o1 ge :Nat} {cv :Value} {ty op xk xn :Int} {xs s name :Wd} {n :Int} {sv :Value} (h :Lh w g gc o1 ge cv ty op xk xn xs s name n sv) (hb :Below B w w') (h1 :g<B) (h2 :gc<B) (h3 :ge<B) :Lh w' g gc o1 ge cv ty op xk xn xs s name n sv :=by
 obtain ⟨a,b,c0,c1,c2,c3,c4,c5,c6,c7⟩ :=h
 exact ⟨(hb.cell (p := ⟨g,1,none⟩) h1).trans a,(hb.cell (p := ⟨gc,o1,none⟩) h2).trans b,(hb.cell (p := ⟨ge,0,none⟩) h3).trans c0,(hb.cell (p := ⟨ge,1,none⟩) h3).trans c1,(hb.cell (p := ⟨ge,2,none⟩) h3).trans c2,(hb.cell (p := ⟨ge,3,none⟩) h3).trans c3,(hb.cell (p := ⟨ge,4,none⟩) h3).trans c4,(hb.cell (p := ⟨ge,5,none⟩) h3).trans c5,(hb.cell (p := ⟨ge,6,none⟩) h3).trans c6,(hb.cell (p := ⟨ge,7,none⟩) h3).trans c7⟩
theorem Lh.cells {w :World} {g gc o1 ge :Nat} {cv :Value} {ty op xk xn :Int} {xs s name :Wd} {n :Int} {sv :Value} (h :Lh w g gc o1 ge cv ty op xk xn xs s name n sv) {b :Nat} (h1 :g≠b) (h2 :gc≠b) (h3 :ge≠b) (o :Nat) (vs :List Value) :Lh (w.setCells b o vs) g gc o1 ge cv ty op xk xn xs s name n sv :=by
 have e : ∀ (k p :Nat),k≠b→ (w.setCells b o vs).cell? ⟨k,p,none⟩ =w.cell? ⟨k,p,none⟩ :=fun k p hk=>by unfold World.cell?;simp only [Be hk vs o w]
 obtain ⟨a,b,c0,c1,c2,c3,c4,c5,c6,c7⟩ :=h
 exact ⟨(e _ _ h1).trans a,(e _ _ h2).trans b,(e _ _ h3).trans c0,(e _ _ h3).trans c1,(e _ _ h3).trans c2,(e _ _ h3).trans c3,(e _ _ h3).trans c4,(e _ _ h3).trans c5,(e _ _ h3).trans c6,(e _ _ h3).trans c7⟩
set_option maxRecDepth 100000 in
set_option maxHeartbeats 4000000 in
theorem Sc (tn :Wd) (cols :List ColD) (cv :Value) (d :Nat) (l :List E) (lv :Value) (C :Nat) (w :World) (he :IsL As (fun k=>k<C) w lv l) (hl :IsL Bg (fun k=>k<C) w cv cols) (hC :C≤w.heap.size) (hg : ∀a∈l,geB d a=true) (hn :l.length≤1000000000) :
  Calls Tryz.prog 117 #[.agg #[.string tn,cv],lv] w fun r w'=> (∃u,r= .returned u∧Ha As (Es cols l) (Fr w.heap.size) w' u) ∧Below w.heap.size w w' :=by
 obtain ⟨so,sc,rfl⟩ :=hl.shape
 obtain ⟨ao,c,rfl⟩ :=he.shape
 have hb1 :=Aq w (.cells #[.string tn, .slice so cols.length sc] 47)
 by_cases hlen :l.length=cols.length
 ·have HR :Hid (Es cols l=Ba Fa (cols.zip l)) :=if_pos hlen
  have hI : (l.length :Int) = (cols.length :Int) :=by omega
  obtain ⟨arr1,ha1,hmk1⟩ :=J6 (w.alloc (.cells #[.string tn, .slice so cols.length sc] 47)) cols.length (by omega)
  have hst :Cf As (Fr (w.heap.size+2)) ((w.alloc (.cells #[.string tn, .slice so cols.length sc] 47)).alloc (.cells arr1 34)) (w.heap.size+1) cols.length [] :=by
   have :=G9 As (Fr (w.heap.size+2)) (w :=w.alloc (.cells #[.string tn, .slice so cols.length sc] 47)) (t :=34) (n :=cols.length) ha1
   rwa [show (w.alloc (.cells #[.string tn, .slice so cols.length sc] 47)).heap.size=w.heap.size+1 by simp] at this
  have hT0 : ((w.alloc (.cells #[.string tn, .slice so cols.length sc] 47)).alloc (.cells arr1 34)).heap[w.heap.size]? =some (.cells #[.string tn, .slice so cols.length sc] 47) :=Ae (Ab _ _) _
  have hbW :=Bz w (.cells #[.string tn, .slice so cols.length sc] 47) (.cells arr1 34)
  rw [hlen]
  go_enter Tryz.func117,Tryz.ntmps117
  go_wp2_with fail
  clear hmk1
  go_loopw [21] (fun i wr=> ∃ (j :Nat) (rs :List E),j≤cols.length∧i= .int .i64 j∧Hid (Ba Fa ((cols.zip l).take j) = .ok rs) ∧Hid (rs.length=j) ∧wr.heap[w.heap.size]? =some (.cells #[.string tn, .slice so cols.length sc] 47) ∧Cf As (Fr (w.heap.size+2)) wr (w.heap.size+1) cols.length rs∧Below w.heap.size w wr∧w.heap.size+2≤wr.heap.size) (fun i _=>cols.length - (intOf i).toNat)
  case atStart=>exact ⟨0,[],Nat.zero_le _,rfl,by show _=_;rw [List.take_zero,Ba],rfl,hT0,hst,hbW,by simp⟩
  case round=>
   obtain ⟨j,rs,hj,rfl,HQ,HL,hT,hM1,hbel,hsz⟩ :=hrel
   clear hst hbW ha1 hT0
   have q2 :=HL.out
   by_cases hjl :j<cols.length
   ·obtain ⟨a,ha⟩ : ∃a,l[j]? =some a := ⟨_,List.getElem?_eq_getElem (by omega)⟩
    obtain ⟨cd,hcd⟩ : ∃a,cols[j]? =some a := ⟨_,List.getElem?_eq_getElem hjl⟩
    have HT :Hid ((cols.zip l).take (j+1) = (cols.zip l).take j++ [(cd,a)]) :=Xv hcd ha
    have hga :=hg a (List.mem_of_getElem? ha)
    obtain ⟨b,off,cs,rfl,hbC,hb,hR,hcell⟩ :=Av (he.keep (Ag (hbel.mono hC))) ha
    obtain ⟨op',xk',xn',xs',s',name',n',ao',k',c',rfl⟩ :=Cm hR
    obtain ⟨cb,cof,ccs,rfl,hcbC,hcb,hcR,hccell⟩ :=Av (hl.keep (Ag (hbel.mono hC))) hcd
    obtain rfl :=hcR
    have c1 :=hccell 1 _ rfl
    have d0 :=hcell 0 _ rfl
    have d1 :=hcell 1 _ rfl
    have d2 :=hcell 2 _ rfl
    have d3 :=hcell 3 _ rfl
    have d4 :=hcell 4 _ rfl
    have d5 :=hcell 5 _ rfl
    have d6 :=hcell 6 _ rfl
    have d7 :=hcell 7 _ rfl
    simp only [As,Bg,Nat.add_zero] at c1 d0 d1 d2 d3 d4 d5 d6 d7
    have j0 : (0 :Int) ≤ (j :Int) :=by omega
    have j1 : (j :Int) < (cols.length :Int) :=by omega
    have hbx :=Aq wr (.cells (Ad op' ⟨xk',xn',xs'⟩ s' name' n' (.slice ao' k' c')) 34)
    have HI : ∀ (W :World) (ae :Option Addr) (ce :Nat),(ae=none→ce=0) →Below wr.heap.size wr W→Calls Tryz.prog 118 #[.slice ae 0 ce, .int .i64 cd.ty, .agg (Ad op' ⟨xk',xn',xs'⟩ s' name' n' (.slice ao' k' c'))] W fun r w'=> (∃u,r= .returned u∧Mc (asR [] cd.ty a) (Fr (w.heap.size+2)) w' u) ∧Below W.heap.size W w' :=fun W ae ce hae hW=> (J7 [] (by decide) (fun _ h=>by cases h) d cd.ty a _ (.slice ae 0 ce) C W (IsE.keep (Ag (hW.mono (Nat.le_trans hC hbel.size))) _ _ hR.2) ⟨[],⟨rfl, .inl ⟨rfl,ae,ce,rfl,hae⟩⟩,rfl⟩ (Nat.le_trans (Nat.le_trans hC hbel.size) hW.size) hga).mono (fun r w' ⟨⟨u,hu,ha⟩,hb'⟩ => ⟨⟨u,hu,by
     revert ha
     cases asR [] cd.ty a with
     | error m=>exact id
     | ok e2=>
      rintro ⟨o1,o2,o3,o4,o5,o6,o7,o8,hq,hE⟩
      exact ⟨o1,o2,o3,o4,o5,o6,o7,o8,hq,IsE.mono (fun k _ hk=>Nat.le_trans (Nat.le_trans hsz hW.size) hk) _ _ hE⟩⟩,hb'⟩)
    have t1 :=Aa hT (j :=1) rfl
    have hlt0 :=lt_of_block hT
    have S0 :Lh (wr.alloc (.cells (Ad op' ⟨xk',xn',xs'⟩ s' name' n' (.slice ao' k' c')) 34)).drew w.heap.size cb (cof+j*3+1) wr.heap.size (.slice (some ⟨cb,cof,none⟩) cols.length sc) cd.ty op' xk' xn' xs' s' name' n' (.slice ao' k' c') := ⟨(hbx.cell (p := ⟨w.heap.size,1,none⟩) hlt0).trans t1,(hbx.cell (p := ⟨cb,cof+j*3+1,none⟩) hcb).trans c1,Jd (Ab _ _)⟩
    have S1 :Lh ((wr.alloc (.cells (Ad op' ⟨xk',xn',xs'⟩ s' name' n' (.slice ao' k' c')) 34)).alloc (.cells #[] 47)).drew w.heap.size cb (cof+j*3+1) wr.heap.size (.slice (some ⟨cb,cof,none⟩) cols.length sc) cd.ty op' xk' xn' xs' s' name' n' (.slice ao' k' c') :=Lh.below (w :=wr.alloc (.cells (Ad op' ⟨xk',xn',xs'⟩ s' name' n' (.slice ao' k' c')) 34)) S0 (Aq (wr.alloc (.cells (Ad op' ⟨xk',xn',xs'⟩ s' name' n' (.slice ao' k' c')) 34)) (.cells #[] 47)).drew (Nat.lt_of_lt_of_le hlt0 hbx.size) (Nat.lt_of_lt_of_le hcb hbx.size) (by simp)
    have hbx2 :Below wr.heap.size wr ((wr.alloc (.cells (Ad op' ⟨xk',xn',xs'⟩ s' name' n' (.slice ao' k' c')) 34)).alloc (.cells #[] 47)).drew := (Bz wr _ _).drew
    have HI1 :=HI _ (some ⟨wr.heap.size+1,0,none⟩) 0 (fun h=>by cases h) hbx2
    have hcw :cb<w.heap.size :=Nat.lt_of_lt_of_le hcbC hC
    clear hcell hccell hR ha hcd HI hg he hl hbx
    rcases har :asR [] cd.ty a with m | e2
    ·have hm :=Ft har
     have HI2 :=HI1.mono (R' :=fun r w'=> ∃ (op :Int) (x :V) (s name :Wd) (n :Int) (ao :Option Addr) (k c :Nat),r= .returned (.tuple #[.agg (Ad op x s name n (.slice ao k c)), .int .i64 m]) ∧IsE (Fr (w.heap.size+1+1)) w' (.mk 0 zero noW noW 0 []) (.agg (Ad op x s name n (.slice ao k c))) ∧Below ((wr.alloc (.cells (Ad op' ⟨xk',xn',xs'⟩ s' name' n' (.slice ao' k' c')) 34)).alloc (.cells #[] 47)).drew.heap.size ((wr.alloc (.cells (Ad op' ⟨xk',xn',xs'⟩ s' name' n' (.slice ao' k' c')) 34)).alloc (.cells #[] 47)).drew w') (by
      rintro e w' ⟨⟨v,rfl,hv⟩,hb'⟩
      rw [har] at hv
      obtain rfl :=hv
      exact ⟨0,zero,noW,noW,0,none,0,0,rfl,Dn fun _=>rfl,hb'⟩)
     have HE :Hid (Es cols l= .error m) :=by
      show _=_
      have hs :Ba Fa ((cols.zip l).take (j+1)) = .error m :=by rw [HT.out,Ec,HQ.out];simp only [Fa,har]
      have :=Ek Fa ((cols.zip l).take (j+1)) ((cols.zip l).drop (j+1)) m hs
      rw [List.take_append_drop] at this
      rw [HR.out,this]
     clear HI1 har HQ HL HT HR
     rcases hm with rfl | rfl
     all_goals
      go_wp2_with fail
      refine wp_region_held_drew (S := (fun w'=>Lh w' w.heap.size cb (cof+j*3+1) wr.heap.size (.slice (some ⟨cb,cof,none⟩) cols.length sc) cd.ty op' xk' xn' xs' s' name' n' (.slice ao' k' c'))) (by kernel_rfl) ?_ (fun hHeld=> ?_)
      ·exact S0
      refine wpAnyH_take (i :=0) (v := ?_) rfl (by kernel_rfl) (by kernel_rfl) (by kernel_rfl) (fun _ _ _ h=>h) (Or.inl ⟨by rfl, ?_⟩) (by assumption) ?_
      rotate_left
      ·intro W' hSw;obtain ⟨a0,a1,b0,b1,b2,b3,b4,b5,b6,b7⟩ :=hSw;go_simp;all_goals (with_reducible rfl)
      try simp only [Act.put,List.setIfInBounds_toArray,List.set_cons_zero,List.set_cons_succ]
      refine wpAnyH_take (i :=1) (v := ?_) rfl (by kernel_rfl) (by kernel_rfl) (by kernel_rfl) (fun _ _ _ h=>h) (Or.inl ⟨by rfl, ?_⟩) (by assumption) ?_
      rotate_left
      ·intro W' hSw;obtain ⟨a0,a1,b0,b1,b2,b3,b4,b5,b6,b7⟩ :=hSw;go_simp;all_goals (with_reducible rfl)
      try simp only [Act.put,List.setIfInBounds_toArray,List.set_cons_zero,List.set_cons_succ]
      refine wpAnyH_take (i :=3) (v := ?_) rfl (by kernel_rfl) (by kernel_rfl) (by kernel_rfl) (fun _ _ _ h=>h) (Or.inl ⟨by rfl, ?_⟩) (by assumption) ?_
      rotate_left
      ·intro W' hSw;obtain ⟨a0,a1,b0,b1,b2,b3,b4,b5,b6,b7⟩ :=hSw;go_simp;all_goals (with_reducible rfl)
      try simp only [Act.put,List.setIfInBounds_toArray,List.set_cons_zero,List.set_cons_succ]
      refine wpAnyH_take (i :=4) (v := ?_) rfl (by kernel_rfl) (by kernel_rfl) (by kernel_rfl) (fun _ _ _ h=>h) (Or.inl ⟨by rfl, ?_⟩) (by assumption) ?_
      rotate_left
      ·intro W' hSw;obtain ⟨a0,a1,b0,b1,b2,b3,b4,b5,b6,b7⟩ :=hSw;go_simp;all_goals (with_reducible rfl)
      try simp only [Act.put,List.setIfInBounds_toArray,List.set_cons_zero,List.set_cons_succ]
      refine wpAnyH_take (i :=5) (v := ?_) rfl (by kernel_rfl) (by kernel_rfl) (by kernel_rfl) (fun _ _ _ h=>h) (Or.inl ⟨by rfl, ?_⟩) (by assumption) ?_
      rotate_left
      ·intro W' hSw;obtain ⟨a0,a1,b0,b1,b2,b3,b4,b5,b6,b7⟩ :=hSw;go_simp;all_goals (with_reducible rfl)
      try simp only [Act.put,List.setIfInBounds_toArray,List.set_cons_zero,List.set_cons_succ]
      refine wpAnyH_take (i :=6) (v := ?_) rfl (by kernel_rfl) (by kernel_rfl) (by kernel_rfl) (fun _ _ _ h=>h) (Or.inl ⟨by rfl, ?_⟩) (by assumption) ?_
      rotate_left
      ·intro W' hSw;obtain ⟨a0,a1,b0,b1,b2,b3,b4,b5,b6,b7⟩ :=hSw;go_simp;all_goals (with_reducible rfl)
      try simp only [Act.put,List.setIfInBounds_toArray,List.set_cons_zero,List.set_cons_succ]
      refine wpAnyH_take (i :=7) (v := ?_) rfl (by kernel_rfl) (by kernel_rfl) (by kernel_rfl) (fun _ _ _ h=>h) (Or.inl ⟨by rfl, ?_⟩) (by assumption) ?_
      rotate_left
      ·intro W' hSw;obtain ⟨a0,a1,b0,b1,b2,b3,b4,b5,b6,b7⟩ :=hSw;go_simp;all_goals (with_reducible rfl)
      try simp only [Act.put,List.setIfInBounds_toArray,List.set_cons_zero,List.set_cons_succ]
      refine wpAnyH_take (i :=8) (v := ?_) rfl (by kernel_rfl) (by kernel_rfl) (by kernel_rfl) (fun _ _ _ h=>h) (Or.inl ⟨by rfl, ?_⟩) (by assumption) ?_
      rotate_left
      ·intro W' hSw;obtain ⟨a0,a1,b0,b1,b2,b3,b4,b5,b6,b7⟩ :=hSw;go_simp;all_goals (with_reducible rfl)
      try simp only [Act.put,List.setIfInBounds_toArray,List.set_cons_zero,List.set_cons_succ]
      refine wpAnyH_take (i :=9) (v := ?_) rfl (by kernel_rfl) (by kernel_rfl) (by kernel_rfl) (fun _ _ _ h=>h) (Or.inl ⟨by rfl, ?_⟩) (by assumption) ?_
      rotate_left
      ·intro W' hSw;obtain ⟨a0,a1,b0,b1,b2,b3,b4,b5,b6,b7⟩ :=hSw;go_simp;all_goals (with_reducible rfl)
      try simp only [Act.put,List.setIfInBounds_toArray,List.set_cons_zero,List.set_cons_succ]
      refine wpAnyH_ready (rs := [2]) (by kernel_rfl) (by simp) ?_
      refine (AllReadyH.cons rfl (fun K hK=> ?_) AllReadyH.nil)
      go_simp
      go_wp2_with fail
      refine hK.out _ _ ?_ (fun hHeld=> ?_)
      ·exact S1
      clear hK K
      try simp only [Act.put,List.setIfInBounds_toArray,List.set_cons_zero,List.set_cons_succ]
      refine wpAnyH_ready (rs := [10]) (by kernel_rfl) (by simp) ?_
      refine (AllReadyH.cons rfl (fun K hK=> ?_) AllReadyH.nil)
      go_simp
      (go_at_call 118;refine HI2.mono ?_;rintro r w1 ⟨op2,x2,s2,name2,n2,ao2,k2,c2,rfl,hE2,hb1⟩;obtain ⟨x2k,x2n,x2s⟩ :=x2;have hbT :=Ak hbx2 hb1;obtain ⟨mt,mm1⟩ :=J8 (g :=w.heap.size+1) hM1 hbT hjl q2 hE2;have hone :=A8 op2 ⟨x2k,x2n,x2s⟩ s2 name2 n2 ao2 k2 c2;have S2 :=S1.below hb1 (Nat.lt_of_lt_of_le hlt0 hbx2.size) (Nat.lt_of_lt_of_le hcb hbx2.size) (by simp [World.drew];omega))
      go_wp2_with fail
      refine hK.out _ _ ?_ (fun hHeld=> ?_)
      ·exact S2
      clear hK K
      try simp only [Act.put,List.setIfInBounds_toArray,List.set_cons_zero,List.set_cons_succ]
      refine wpAnyH_take (i :=11) (v := ?_) rfl (by kernel_rfl) (by kernel_rfl) (by kernel_rfl) (fun _ _ _ h=>h) (Or.inl ⟨by rfl, ?_⟩) (by assumption) ?_
      rotate_left
      ·intro W' hSw;obtain ⟨a0,a1,b0,b1,b2,b3,b4,b5,b6,b7⟩ :=hSw;go_simp;all_goals (with_reducible rfl)
      try simp only [Act.put,List.setIfInBounds_toArray,List.set_cons_zero,List.set_cons_succ]
      refine wpAnyH_take (i :=12) (v := ?_) rfl (by kernel_rfl) (by kernel_rfl) (by kernel_rfl) (fun _ _ _ h=>h) (Or.inl ⟨by rfl, ?_⟩) (by assumption) ?_
      rotate_left
      ·intro W' hSw;obtain ⟨a0,a1,b0,b1,b2,b3,b4,b5,b6,b7⟩ :=hSw;go_simp;all_goals (with_reducible rfl)
      try simp only [Act.put,List.setIfInBounds_toArray,List.set_cons_zero,List.set_cons_succ]
      refine wpAnyH_take (i :=13) (v := ?_) rfl (by kernel_rfl) (by kernel_rfl) (by kernel_rfl) (fun _ _ _ h=>h) (Or.inl ⟨by rfl, ?_⟩) (by assumption) ?_
      rotate_left
      ·intro W' hSw;obtain ⟨a0,a1,b0,b1,b2,b3,b4,b5,b6,b7⟩ :=hSw;go_simp;all_goals (with_reducible rfl)
      try simp only [Act.put,List.setIfInBounds_toArray,List.set_cons_zero,List.set_cons_succ]
      refine wpAnyH_take (i :=14) (v := ?_) rfl (by kernel_rfl) (by kernel_rfl) (by kernel_rfl) (fun _ _ _ h=>h) (Or.inl ⟨by rfl, ?_⟩) (by assumption) ?_
      rotate_left
      ·intro W' hSw;obtain ⟨a0,a1,b0,b1,b2,b3,b4,b5,b6,b7⟩ :=hSw;go_simp;all_goals (with_reducible rfl)
      try simp only [Act.put,List.setIfInBounds_toArray,List.set_cons_zero,List.set_cons_succ]
      refine wpAnyH_ready (rs := [15]) (by kernel_rfl) (by simp) ?_
      refine (AllReadyH.cons rfl (fun K hK=> ?_) AllReadyH.nil)
      refine Ju rfl 34 _ _ rfl (w.heap.size+1) (j*8) (Ad op2 ⟨x2k,x2n,x2s⟩ s2 name2 n2 (.slice ao2 k2 c2)) ?_ ?_ ?_ ?_ ?_ ?_;exact rfl;exact rfl;exact mt;exact Ai;exact hone
      refine hK.out _ _ ?_ (fun hHeld=> ?_)
      ·exact S2.cells (by omega) (by omega) (by omega) _ _
      clear hK K
      try simp only [Act.put]
      refine wpAnyH_take (i :=16) (v := ?_) rfl (by kernel_rfl) (by kernel_rfl) (by kernel_rfl) (fun _ _ _ h=>h) (Or.inl ⟨by rfl, ?_⟩) (by assumption) ?_
      rotate_left
      ·intro W' hSw;obtain ⟨a0,a1,b0,b1,b2,b3,b4,b5,b6,b7⟩ :=hSw;go_simp;all_goals (with_reducible rfl)
      try simp only [Act.put,List.setIfInBounds_toArray,List.set_cons_zero,List.set_cons_succ]
      refine wpAnyH_done (by kernel_rfl) ?_ _
      go_wp2_with fail
      go_ret2
      refine ⟨⟨_,rfl, ?_⟩,Ct (show w.heap.size≤w.heap.size+1 by omega) _ _ _ (hbel.trans (hbT.mono hbel.size))⟩
      rw [HE.out]
      rfl
    ·have HI2 :=HI1.mono (R' :=fun r w'=> ∃ (op :Int) (x :V) (s name :Wd) (n :Int) (ao :Option Addr) (k c :Nat),r= .returned (.tuple #[.agg (Ad op x s name n (.slice ao k c)), .int .i64 0]) ∧IsE (Fr (w.heap.size+1+1)) w' e2 (.agg (Ad op x s name n (.slice ao k c))) ∧Below ((wr.alloc (.cells (Ad op' ⟨xk',xn',xs'⟩ s' name' n' (.slice ao' k' c')) 34)).alloc (.cells #[] 47)).drew.heap.size ((wr.alloc (.cells (Ad op' ⟨xk',xn',xs'⟩ s' name' n' (.slice ao' k' c')) 34)).alloc (.cells #[] 47)).drew w') (by
      rintro e w' ⟨⟨v,rfl,hv⟩,hb'⟩
      rw [har] at hv
      obtain ⟨op,x,s,name,n,ao,k,c,rfl,hE'⟩ :=hv
      exact ⟨op,x,s,name,n,ao,k,c,rfl,hE',hb'⟩)
     have HS :Hid (Ba Fa ((cols.zip l).take (j+1)) = .ok (rs++ [e2])) :=by show _=_;rw [HT.out,Ec,HQ.out];simp only [Fa,har]
     have HL2 :Hid ((rs++ [e2]).length=j+1) :=by show _=_;rw [List.length_append,q2];rfl
     clear HI1 har HQ HL HT HR
     go_wp2_with fail
     refine wp_region_held_drew (S := (fun w'=>Lh w' w.heap.size cb (cof+j*3+1) wr.heap.size (.slice (some ⟨cb,cof,none⟩) cols.length sc) cd.ty op' xk' xn' xs' s' name' n' (.slice ao' k' c'))) (by kernel_rfl) ?_ (fun hHeld=> ?_)
     ·exact S0
     refine wpAnyH_take (i :=0) (v := ?_) rfl (by kernel_rfl) (by kernel_rfl) (by kernel_rfl) (fun _ _ _ h=>h) (Or.inl ⟨by rfl, ?_⟩) (by assumption) ?_
     rotate_left
     ·intro W' hSw;obtain ⟨a0,a1,b0,b1,b2,b3,b4,b5,b6,b7⟩ :=hSw;go_simp;all_goals (with_reducible rfl)
     try simp only [Act.put,List.setIfInBounds_toArray,List.set_cons_zero,List.set_cons_succ]
     refine wpAnyH_take (i :=1) (v := ?_) rfl (by kernel_rfl) (by kernel_rfl) (by kernel_rfl) (fun _ _ _ h=>h) (Or.inl ⟨by rfl, ?_⟩) (by assumption) ?_
     rotate_left
     ·intro W' hSw;obtain ⟨a0,a1,b0,b1,b2,b3,b4,b5,b6,b7⟩ :=hSw;go_simp;all_goals (with_reducible rfl)
     try simp only [Act.put,List.setIfInBounds_toArray,List.set_cons_zero,List.set_cons_succ]
     refine wpAnyH_take (i :=3) (v := ?_) rfl (by kernel_rfl) (by kernel_rfl) (by kernel_rfl) (fun _ _ _ h=>h) (Or.inl ⟨by rfl, ?_⟩) (by assumption) ?_
     rotate_left
     ·intro W' hSw;obtain ⟨a0,a1,b0,b1,b2,b3,b4,b5,b6,b7⟩ :=hSw;go_simp;all_goals (with_reducible rfl)
     try simp only [Act.put,List.setIfInBounds_toArray,List.set_cons_zero,List.set_cons_succ]
     refine wpAnyH_take (i :=4) (v := ?_) rfl (by kernel_rfl) (by kernel_rfl) (by kernel_rfl) (fun _ _ _ h=>h) (Or.inl ⟨by rfl, ?_⟩) (by assumption) ?_
     rotate_left
     ·intro W' hSw;obtain ⟨a0,a1,b0,b1,b2,b3,b4,b5,b6,b7⟩ :=hSw;go_simp;all_goals (with_reducible rfl)
     try simp only [Act.put,List.setIfInBounds_toArray,List.set_cons_zero,List.set_cons_succ]
     refine wpAnyH_take (i :=5) (v := ?_) rfl (by kernel_rfl) (by kernel_rfl) (by kernel_rfl) (fun _ _ _ h=>h) (Or.inl ⟨by rfl, ?_⟩) (by assumption) ?_
     rotate_left
     ·intro W' hSw;obtain ⟨a0,a1,b0,b1,b2,b3,b4,b5,b6,b7⟩ :=hSw;go_simp;all_goals (with_reducible rfl)
     try simp only [Act.put,List.setIfInBounds_toArray,List.set_cons_zero,List.set_cons_succ]
     refine wpAnyH_take (i :=6) (v := ?_) rfl (by kernel_rfl) (by kernel_rfl) (by kernel_rfl) (fun _ _ _ h=>h) (Or.inl ⟨by rfl, ?_⟩) (by assumption) ?_
     rotate_left
     ·intro W' hSw;obtain ⟨a0,a1,b0,b1,b2,b3,b4,b5,b6,b7⟩ :=hSw;go_simp;all_goals (with_reducible rfl)
     try simp only [Act.put,List.setIfInBounds_toArray,List.set_cons_zero,List.set_cons_succ]
     refine wpAnyH_take (i :=7) (v := ?_) rfl (by kernel_rfl) (by kernel_rfl) (by kernel_rfl) (fun _ _ _ h=>h) (Or.inl ⟨by rfl, ?_⟩) (by assumption) ?_
     rotate_left
     ·intro W' hSw;obtain ⟨a0,a1,b0,b1,b2,b3,b4,b5,b6,b7⟩ :=hSw;go_simp;all_goals (with_reducible rfl)
     try simp only [Act.put,List.setIfInBounds_toArray,List.set_cons_zero,List.set_cons_succ]
     refine wpAnyH_take (i :=8) (v := ?_) rfl (by kernel_rfl) (by kernel_rfl) (by kernel_rfl) (fun _ _ _ h=>h) (Or.inl ⟨by rfl, ?_⟩) (by assumption) ?_
     rotate_left
     ·intro W' hSw;obtain ⟨a0,a1,b0,b1,b2,b3,b4,b5,b6,b7⟩ :=hSw;go_simp;all_goals (with_reducible rfl)
     try simp only [Act.put,List.setIfInBounds_toArray,List.set_cons_zero,List.set_cons_succ]
     refine wpAnyH_take (i :=9) (v := ?_) rfl (by kernel_rfl) (by kernel_rfl) (by kernel_rfl) (fun _ _ _ h=>h) (Or.inl ⟨by rfl, ?_⟩) (by assumption) ?_
     rotate_left
     ·intro W' hSw;obtain ⟨a0,a1,b0,b1,b2,b3,b4,b5,b6,b7⟩ :=hSw;go_simp;all_goals (with_reducible rfl)
     try simp only [Act.put,List.setIfInBounds_toArray,List.set_cons_zero,List.set_cons_succ]
     refine wpAnyH_ready (rs := [2]) (by kernel_rfl) (by simp) ?_
     refine (AllReadyH.cons rfl (fun K hK=> ?_) AllReadyH.nil)
     go_simp
     go_wp2_with fail
     refine hK.out _ _ ?_ (fun hHeld=> ?_)
     ·exact S1
     clear hK K
     try simp only [Act.put,List.setIfInBounds_toArray,List.set_cons_zero,List.set_cons_succ]
     refine wpAnyH_ready (rs := [10]) (by kernel_rfl) (by simp) ?_
     refine (AllReadyH.cons rfl (fun K hK=> ?_) AllReadyH.nil)
     go_simp
     (go_at_call 118;refine HI2.mono ?_;rintro r w1 ⟨op2,x2,s2,name2,n2,ao2,k2,c2,rfl,hE2,hb1⟩;obtain ⟨x2k,x2n,x2s⟩ :=x2;have hbT :=Ak hbx2 hb1;obtain ⟨mt,mm1⟩ :=J8 (g :=w.heap.size+1) hM1 hbT hjl q2 hE2;have hone :=A8 op2 ⟨x2k,x2n,x2s⟩ s2 name2 n2 ao2 k2 c2;have S2 :=S1.below hb1 (Nat.lt_of_lt_of_le hlt0 hbx2.size) (Nat.lt_of_lt_of_le hcb hbx2.size) (by simp [World.drew];omega))
     go_wp2_with fail
     refine hK.out _ _ ?_ (fun hHeld=> ?_)
     ·exact S2
     clear hK K
     try simp only [Act.put,List.setIfInBounds_toArray,List.set_cons_zero,List.set_cons_succ]
     refine wpAnyH_take (i :=11) (v := ?_) rfl (by kernel_rfl) (by kernel_rfl) (by kernel_rfl) (fun _ _ _ h=>h) (Or.inl ⟨by rfl, ?_⟩) (by assumption) ?_
     rotate_left
     ·intro W' hSw;obtain ⟨a0,a1,b0,b1,b2,b3,b4,b5,b6,b7⟩ :=hSw;go_simp;all_goals (with_reducible rfl)
     try simp only [Act.put,List.setIfInBounds_toArray,List.set_cons_zero,List.set_cons_succ]
     refine wpAnyH_take (i :=12) (v := ?_) rfl (by kernel_rfl) (by kernel_rfl) (by kernel_rfl) (fun _ _ _ h=>h) (Or.inl ⟨by rfl, ?_⟩) (by assumption) ?_
     rotate_left
     ·intro W' hSw;obtain ⟨a0,a1,b0,b1,b2,b3,b4,b5,b6,b7⟩ :=hSw;go_simp;all_goals (with_reducible rfl)
     try simp only [Act.put,List.setIfInBounds_toArray,List.set_cons_zero,List.set_cons_succ]
     refine wpAnyH_take (i :=13) (v := ?_) rfl (by kernel_rfl) (by kernel_rfl) (by kernel_rfl) (fun _ _ _ h=>h) (Or.inl ⟨by rfl, ?_⟩) (by assumption) ?_
     rotate_left
     ·intro W' hSw;obtain ⟨a0,a1,b0,b1,b2,b3,b4,b5,b6,b7⟩ :=hSw;go_simp;all_goals (with_reducible rfl)
     try simp only [Act.put,List.setIfInBounds_toArray,List.set_cons_zero,List.set_cons_succ]
     refine wpAnyH_take (i :=14) (v := ?_) rfl (by kernel_rfl) (by kernel_rfl) (by kernel_rfl) (fun _ _ _ h=>h) (Or.inl ⟨by rfl, ?_⟩) (by assumption) ?_
     rotate_left
     ·intro W' hSw;obtain ⟨a0,a1,b0,b1,b2,b3,b4,b5,b6,b7⟩ :=hSw;go_simp;all_goals (with_reducible rfl)
     try simp only [Act.put,List.setIfInBounds_toArray,List.set_cons_zero,List.set_cons_succ]
     refine wpAnyH_ready (rs := [15]) (by kernel_rfl) (by simp) ?_
     refine (AllReadyH.cons rfl (fun K hK=> ?_) AllReadyH.nil)
     refine Ju rfl 34 _ _ rfl (w.heap.size+1) (j*8) (Ad op2 ⟨x2k,x2n,x2s⟩ s2 name2 n2 (.slice ao2 k2 c2)) ?_ ?_ ?_ ?_ ?_ ?_;exact rfl;exact rfl;exact mt;exact Ai;exact hone
     refine hK.out _ _ ?_ (fun hHeld=> ?_)
     ·exact S2.cells (by omega) (by omega) (by omega) _ _
     clear hK K
     try simp only [Act.put]
     refine wpAnyH_take (i :=16) (v := ?_) rfl (by kernel_rfl) (by kernel_rfl) (by kernel_rfl) (fun _ _ _ h=>h) (Or.inl ⟨by rfl, ?_⟩) (by assumption) ?_
     rotate_left
     ·intro W' hSw;obtain ⟨a0,a1,b0,b1,b2,b3,b4,b5,b6,b7⟩ :=hSw;go_simp;all_goals (with_reducible rfl)
     try simp only [Act.put,List.setIfInBounds_toArray,List.set_cons_zero,List.set_cons_succ]
     refine wpAnyH_done (by kernel_rfl) ?_ _
     go_wp2_with fail
     go_roundw
     case rel=>exact ⟨j+1,rs++ [e2],by omega,by go_num,HS,HL2,(Be (show w.heap.size≠w.heap.size+1 by omega) _ _ _).trans ((hbT.block _ hlt0).trans hT),mm1,Ct (show w.heap.size≤w.heap.size+1 by omega) _ _ _ (hbel.trans (hbT.mono hbel.size)),by have :=hbT.size;simp [Bp];omega⟩
     case measure=>simp [intOf];omega
   ·have hjl2 :j=cols.length :=by omega
    subst hjl2
    have HE :Hid (Es cols l= .ok rs) :=by
     show _=_
     have :=HQ.out
     rw [List.take_of_length_le (by rw [List.length_zip];omega)] at this
     rw [HR.out,this]
    have hw1 :IsL As (Fr w.heap.size) wr (.slice (some ⟨w.heap.size+1,0,none⟩) cols.length cols.length) rs :=hM1.whole q2 (fun k hk=>Nat.le_trans (by omega) hk) (show w.heap.size≤w.heap.size+1 by omega) (Nat.le_trans (show cols.length≤1000000000 by omega) (by decide))
    clear q2 HL HQ HR
    go_wp2_with fail
    go_ret2
    refine ⟨⟨_,rfl, ?_⟩,hbel⟩
    rw [HE.out]
    exact ⟨_,_,_,rfl,hw1⟩
 ·have HE :Hid (Es cols l= .error 5) :=if_neg hlen
  have hne : ((l.length :Int) == (cols.length :Int)) =false :=by simp;omega
  clear he hl hg
  go_enter Tryz.func117,Tryz.ntmps117
  go_wp2_with fail
  go_ret2
  refine ⟨⟨_,rfl, ?_⟩,hb1⟩
  rw [HE.out]
  rfl
theorem Q1 : (Tryz.prog.info? 30).map (fun i=> (i.zero,i.size,i.bytes)) =some (some (.slice none 0 0),1,24) :=by kernel_rfl
theorem Vo (W :World) (n :Nat) (hn :n≤1000000000000) : ∃arr :Array Value,arr.size=n*1∧ (Instr.makeSlice 27 (.int .i64 (n :Int)) (.int .i64 (n :Int))).run Tryz.prog W= .ok (.slice (some ⟨W.heap.size,0,none⟩) n n) (W.alloc (.cells arr 30)) :=by
 obtain ⟨i0,hi,hz0,hz1,hz2⟩ :=info_parts Q1
 have hmk :=run_make (P :=Tryz.prog) W 27 30 i0 _ Tryz.underlying27 hi hz0 .i64 .i64 n n (by omega) (Int.le_refl _) (by rw [hz2];omega) (by omega)
 rw [hz1,Int.toNat_natCast] at hmk
 exact ⟨_,size_madeCells _ _,hmk⟩
theorem Q2 {W w1 :World} {g n j :Nat} {le :List (List E)} {ao :Option Addr} {k c :Nat} {e :List E}
  (h1 :Cf Ds (Fr (g+1)) W g n le) (hb :Below W.heap.size W w1) (hj :j<n) (l1 :le.length=j) (he :IsL As (Fr (g+1)) w1 (.slice ao k c) e) :
  (∃u,w1.cell? ⟨g,j,none⟩ =some u) ∧w1.frozen? ⟨g,j,none⟩ =false∧Cf Ds (Fr (g+1)) (w1.setCell ⟨g,j,none⟩ (.slice ao k c)) g n (le++ [e]) :=by
 subst l1
 have m1 :=h1.below hb
 have t1 :=Mp (m1.there hj) (j :=0) (by decide)
 simp only [Ds,Nat.mul_one,Nat.add_zero] at t1
 exact ⟨t1.1,t1.2,m1.set1 hj (show ¬g+1≤g by omega) rfl (a :=e) (v := .slice ao k c) ⟨_,rfl,he⟩⟩
set_option maxRecDepth 100000 in
set_option maxHeartbeats 4000000 in
theorem Q3 (tn :Wd) (cols :List ColD) (cv :Value) (d :Nat) (l :List (List E)) (lv :Value) (C :Nat) (w :World) (he :IsL Ds (fun k=>k<C) w lv l) (hl :IsL Bg (fun k=>k<C) w cv cols) (hC :C≤w.heap.size) (hg : ∀r∈l,∀a∈r,geB d a=true) (hn :l.length≤1000000000) (hn2 : ∀r∈l,r.length≤1000000000) :
  Calls Tryz.prog 96 #[.agg #[.string tn,cv],lv] w fun r w'=> (∃u,r= .returned u∧Ha Ds (Fu cols l) (Fr w.heap.size) w' u) ∧Below w.heap.size w w' :=by
 obtain ⟨so,sc,rfl⟩ :=hl.shape
 obtain ⟨ao,c,rfl⟩ :=he.shape
 have hb1 :=Aq w (.cells #[.string tn, .slice so cols.length sc] 47)
 obtain ⟨arr1,ha1,hmk1⟩ :=Vo (w.alloc (.cells #[.string tn, .slice so cols.length sc] 47)) l.length (by omega)
 have hst :Cf Ds (Fr (w.heap.size+1+1)) ((w.alloc (.cells #[.string tn, .slice so cols.length sc] 47)).alloc (.cells arr1 30)) (w.heap.size+1) l.length [] :=by
  have :=G9 Ds (Fr (w.heap.size+1+1)) (w :=w.alloc (.cells #[.string tn, .slice so cols.length sc] 47)) (t :=30) (n :=l.length) ha1
  rwa [show (w.alloc (.cells #[.string tn, .slice so cols.length sc] 47)).heap.size=w.heap.size+1 by simp] at this
 have hT0 : ((w.alloc (.cells #[.string tn, .slice so cols.length sc] 47)).alloc (.cells arr1 30)).heap[w.heap.size]? =some (.cells #[.string tn, .slice so cols.length sc] 47) :=Ae (Ab _ _) _
 have hbW :=Bz w (.cells #[.string tn, .slice so cols.length sc] 47) (.cells arr1 30)
 go_enter Tryz.func96,Tryz.ntmps96
 go_wp2_with fail
 clear hmk1
 go_loopw [15] (fun i wr=> ∃ (j :Nat) (rs :List (List E)),j≤l.length∧i= .int .i64 j∧Hid (Ba (Es cols) (l.take j) = .ok rs) ∧Hid (rs.length=j) ∧wr.heap[w.heap.size]? =some (.cells #[.string tn, .slice so cols.length sc] 47) ∧Cf Ds (Fr (w.heap.size+1+1)) wr (w.heap.size+1) l.length rs∧Below w.heap.size w wr∧w.heap.size+2≤wr.heap.size) (fun i _=>l.length - (intOf i).toNat)
 case atStart=>exact ⟨0,[],Nat.zero_le _,rfl,by show _=_;rw [List.take_zero,Ba],rfl,hT0,hst,hbW,by simp⟩
 case round=>
  obtain ⟨j,rs,hj,rfl,HQ,HL,hT,hM1,hbel,hsz⟩ :=hrel
  clear hst hbW ha1 hT0
  have q2 :=HL.out
  by_cases hjl :j<l.length
  ·obtain ⟨a,ha⟩ : ∃a,l[j]? =some a := ⟨_,List.getElem?_eq_getElem hjl⟩
   have HT :Hid (l.take (j+1) =l.take j++ [a]) :=by show _=_;rw [List.take_add_one,ha];rfl
   have hga :=hg a (List.mem_of_getElem? ha)
   have hna :=hn2 a (List.mem_of_getElem? ha)
   obtain ⟨b,off,cs,rfl,hbC,hb,hR,hcell⟩ :=Av (he.keep (Ag (hbel.mono hC))) ha
   obtain ⟨asv,rfl,hRL⟩ :=hR
   obtain ⟨ao',c',rfl⟩ :=hRL.shape
   have d0 :=hcell 0 _ rfl
   simp only [Ds,Nat.mul_one,Nat.add_zero] at d0
   have t0 :=Aa hT (j :=0) rfl
   have t1 :=Aa hT (j :=1) rfl
   have hlt0 :=lt_of_block hT
   have j0 : (0 :Int) ≤ (j :Int) :=by omega
   have j1 : (j :Int) < (l.length :Int) :=by omega
   have HI :=Sc tn cols (.slice so cols.length sc) d a (.slice ao' a.length c') C wr hRL (hl.keep (Ag (hbel.mono hC))) (Nat.le_trans hC hbel.size) hga hna
   clear hcell hRL ha hg he hl hn2
   rcases hbr :Es cols a with m | r
   ·have hm :=Q0 hbr
    have HI2 :=HI.mono (R' :=fun e w'=>e= .returned (.tuple #[.slice none 0 0, .int .i64 m]) ∧Below wr.heap.size wr w') (by
     rintro e w' ⟨⟨v,rfl,hv⟩,hb'⟩
     rw [hbr] at hv
     obtain rfl :=hv
     exact ⟨rfl,hb'⟩)
    have HE :Hid (Fu cols l= .error m) :=by
     show _=_
     have hs :Ba (Es cols) (l.take (j+1)) = .error m :=by rw [HT.out,Ec,HQ.out];simp only [hbr]
     have :=Ek (Es cols) (l.take (j+1)) (l.drop (j+1)) m hs
     rw [List.take_append_drop] at this
     unfold Fu
     exact this
    clear HI hbr HQ HL HT
    rcases hm with rfl | rfl
    all_goals
     go_wp2_with (first | (go_at_call 117;refine HI2.mono ?_;rintro e w1 ⟨rfl,hb1⟩;obtain ⟨⟨u,mu⟩,mf,mm1⟩ :=Q2 hM1 hb1 hjl q2 (IsL.nil As _ w1)))
     go_ret2
     refine ⟨⟨_,rfl, ?_⟩,(hbel.trans (hb1.mono hbel.size)).setCell (show w.heap.size≤w.heap.size+1 by omega) _⟩
     rw [HE.out]
     rfl
   ·have HI2 :=HI.mono (R' :=fun e w'=> ∃ (ao :Option Addr) (k c :Nat),e= .returned (.tuple #[.slice ao k c, .int .i64 0]) ∧IsL As (Fr (w.heap.size+1+1)) w' (.slice ao k c) r∧Below wr.heap.size wr w') (by
     rintro e w' ⟨⟨v,rfl,hv⟩,hb'⟩
     rw [hbr] at hv
     obtain ⟨ao,k,c,rfl,hL⟩ :=hv
     exact ⟨ao,k,c,rfl,hL.mono (fun k _ hk=>Nat.le_trans hsz hk),hb'⟩)
    have HS :Hid (Ba (Es cols) (l.take (j+1)) = .ok (rs++ [r])) :=by show _=_;rw [HT.out,Ec,HQ.out];simp only [hbr]
    have HL2 :Hid ((rs++ [r]).length=j+1) :=by show _=_;rw [List.length_append,q2];rfl
    clear HI hbr HQ HL HT
    go_wp2_with (first | (go_at_call 117;refine HI2.mono ?_;rintro e w1 ⟨ao2,k2,c2,rfl,hL2,hb1⟩;obtain ⟨⟨u,mu⟩,mf,mm1⟩ :=Q2 hM1 hb1 hjl q2 hL2))
    go_roundw
    case rel=>exact ⟨j+1,rs++ [r],by omega,by go_num,HS,HL2,(Below.heap_setCell _ _ _ _ (show w.heap.size≠w.heap.size+1 by omega)).trans ((hb1.block _ hlt0).trans hT),mm1,(hbel.trans (hb1.mono hbel.size)).setCell (show w.heap.size≤w.heap.size+1 by omega) _,by have :=hb1.size;simp;omega⟩
    case measure=>simp [intOf];omega
  ·have hjl2 :j=l.length :=by omega
   subst hjl2
   have HE :Hid (Fu cols l= .ok rs) :=by
    show _=_
    have :=HQ.out
    rw [List.take_length] at this
    exact this
   have hw1 :IsL Ds (Fr w.heap.size) wr (.slice (some ⟨w.heap.size+1,0,none⟩) l.length l.length) rs :=hM1.whole q2 (fun k hk=>Nat.le_trans (by omega) hk) (show w.heap.size≤w.heap.size+1 by omega) (Nat.le_trans hn (by decide))
   clear q2 HL HQ
   go_wp2_with fail
   go_ret2
   refine ⟨⟨_,rfl, ?_⟩,hbel⟩
   rw [HE.out]
   exact ⟨_,_,_,rfl,hw1⟩
end Go.Proofs.YtmgkcjiejmhgcaaGreatDoor


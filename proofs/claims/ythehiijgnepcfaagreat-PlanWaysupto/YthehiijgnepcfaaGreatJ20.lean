/-
  4 texts of this proof in one, in build order: YBind, YType, YBind2, YBindAs.
-/
import Derived.Test.YthehiijgnepcfaaGreatJ15
import Derived.Test.YthehiijgnepcfaaGreatJ19
set_option linter.unusedSimpArgs false
set_option linter.unusedVariables false
namespace Go.Proofs.YthehiijgnepcfaaGreat
open Go.RowKit Go.Maps
def Ie (S :List TabD) (e :E) (B :Nat) (w' :World) (v :Value) :Prop :=
 match Bh S e with
 | .error m=>v= .tuple #[.agg (Ae 0 zero noW noW 0 (.slice none 0 0)), .int .i64 0, .int .i64 m]
 | .ok r=> ∃ (op :Int) (x :V) (s name :Wd) (n :Int) (ao :Option Addr) (k c :Nat),v= .tuple #[.agg (Ae op x s name n (.slice ao k c)), .int .i64 r.2, .int .i64 0] ∧IsE (Fr B) w' r.1 (.agg (Ae op x s name n (.slice ao k c)))
theorem Dx {S :List TabD} {e :E} {m :Int} (h :Bh S e= .error m) {B :Nat} {w' :World} {v :Value} :Ie S e B w' v↔v= .tuple #[.agg (Ae 0 zero noW noW 0 (.slice none 0 0)), .int .i64 0, .int .i64 m] :=by unfold Ie;rw [h]
theorem Ha {S :List TabD} {e :E} {r :E×Int} (h :Bh S e= .ok r) {B :Nat} {w' :World} {v :Value} :Ie S e B w' v↔ ∃ (op :Int) (x :V) (s name :Wd) (n :Int) (ao :Option Addr) (k c :Nat),v= .tuple #[.agg (Ae op x s name n (.slice ao k c)), .int .i64 r.2, .int .i64 0] ∧IsE (Fr B) w' r.1 (.agg (Ae op x s name n (.slice ao k c))) :=by unfold Ie;rw [h]
mutual
theorem Js (S :List TabD) : ∀ (e :E) (m :Int),Bh S e= .error m→m=3∨m=5
 | .mk op x s name n l,m,h=>by
  rw [Bh] at h
  split at h
  ·cases h
  ·split at h
   ·split at h
    ·cases h
    ·exact .inl (by simpa using h.symm)
   ·cases hl :A1 S l with
    | error j=>
     rw [hl] at h
     simp only [Except.error.injEq] at h
     subst h
     exact Mq S l _ hl
    | ok r=>
     rw [hl] at h
     simp only at h
     split at h
     ·cases h
     ·exact .inr (by simpa using h.symm)
theorem Mq (S :List TabD) : ∀ (l :List E) (m :Int),A1 S l= .error m→m=3∨m=5
 | [],m,h=>by rw [A1] at h;cases h
 | e ::l,m,h=>by
  rw [A1] at h
  cases he :Bh S e with
  | error j=>
   rw [he] at h
   simp only [Except.error.injEq] at h
   subst h
   exact Js S e _ he
  | ok r=>
   rw [he] at h
   simp only at h
   cases hl :A1 S l with
   | error j=>
    rw [hl] at h
    simp only [Except.error.injEq] at h
    subst h
    exact Mq S l _ hl
   | ok rs=>rw [hl] at h;cases h
end
theorem Uf (S :List TabD) (x :V) (s name :Wd) (n :Int) (l :List E) :Bh S (.mk 1 x s name n l) = .ok (.mk 1 x s name n l,x.k) :=by rw [Bh];rfl
theorem Ug (S :List TabD) (x :V) (s name :Wd) (n :Int) (l :List E) :Bh S (.mk 2 x s name n l) =if (Bx S s name n).found=1 then .ok (.mk 2 x s name (Bx S s name n).n l,(Bx S s name n).kind) else .error 3 :=by rw [Bh];rfl
theorem Wu (S :List TabD) {op :Int} (h1 :op≠1) (h2 :op≠2) (x :V) (s name :Wd) (n :Int) (l :List E) :Bh S (.mk op x s name n l) =match A1 S l with
   | .error m=> .error m
   | .ok r=>if Qn op (r.map Prod.snd) then .ok (.mk op x s name n (r.map Prod.fst),Jm op) else .error 5 :=by
 rw [Bh,if_neg h1,if_neg h2]
 all_goals (cases A1 S l<;>rfl)
def Wv (S :List TabD) (d :Nat) :Prop := ∀ (e :E) (v sv :Value) (C :Nat) (w :World),IsE (fun k=>k<C) w e v→IsL Cq (fun k=>k<C) w sv S→C≤w.heap.size→geB d e=true→
  Calls Tryz.prog 136 #[sv,v] w fun r w'=> (∃v,r= .returned v∧Ie S e w.heap.size w' v) ∧Below w.heap.size w w'
theorem G1 {F :Nat→Prop} {w :World} {op :Int} {x :V} {s name :Wd} {n :Int} {ao :Option Addr} {c :Nat} (h :ao=none→c=0) :IsE F w (.mk op x s name n []) (.agg (Ae op x s name n (.slice ao 0 c))) :=
 In ⟨[],⟨rfl, .inl ⟨rfl,ao,c,rfl,h⟩⟩,by rw [Cp]⟩
theorem Oc {F :Nat→Prop} {w :World} {op :Int} {x :V} {s name :Wd} {n :Int} {ao :Option Addr} {k c :Nat} (h :IsE F w (.mk op x s name n []) (.agg (Ae op x s name n (.slice ao k c)))) :k=0∧ (ao=none→c=0) :=by
 obtain ⟨sv,h1,cs,hr,_⟩ :=h.open
 have h2 :sv= .slice ao k c :=by simpa using (Value.agg.inj h1).symm
 subst h2
 rcases hr.2 with ⟨_,a,c',h3,h4⟩ | ⟨h0,_⟩
 ·cases h3;exact ⟨rfl,h4⟩
 ·simp at h0
def K6 (w :World) (g :Nat) (op :Int) (xk xn :Int) (xs s name :Wd) (n :Int) (sv :Value) :Prop :=w.cell? ⟨g,0,none⟩ =some (.int .i64 op) ∧w.cell? ⟨g,1,none⟩ =some (.int .i64 xk) ∧w.cell? ⟨g,2,none⟩ =some (.int .i64 xn) ∧w.cell? ⟨g,3,none⟩ =some (.string xs) ∧w.cell? ⟨g,4,none⟩ =some (.string s) ∧w.cell? ⟨g,5,none⟩ =some (.string name) ∧w.cell? ⟨g,6,none⟩ =some (.int .i64 n) ∧w.cell? ⟨g,7,none⟩ =some sv
theorem Lh {w :World} {g :Nat} {op xk xn :Int} {xs s name :Wd} {n :Int} {sv :Value} {t :TypeId} {fr :Nat×Nat} (h :w.heap[g]? =some (.cells (Ae op ⟨xk,xn,xs⟩ s name n sv) t fr)) :K6 w g op xk xn xs s name n sv :=
 ⟨Aa h rfl,Aa h rfl,Aa h rfl,Aa h rfl,Aa h rfl,Aa h rfl,Aa h rfl,Aa h rfl⟩
theorem Aaz (w :World) (op xk xn :Int) (xs s name :Wd) (n :Int) (sv :Value) (t :TypeId) (o :Obj) :K6 ((w.alloc (.cells (Ae op ⟨xk,xn,xs⟩ s name n sv) t)).alloc o) w.heap.size op xk xn xs s name n sv :=Lh (Ac (Ab _ _) _)
set_option maxRecDepth 100000 in
set_option maxHeartbeats 4000000 in
theorem Aeq (S :List TabD) (sv :Value) (x :V) (s name :Wd) (n :Int) (ao :Option Addr) (c :Nat) (w :World) (hc :ao=none→c=0) (hsv :E1 sv) :
  Calls Tryz.prog 136 #[sv, .agg (Ae 1 x s name n (.slice ao 0 c))] w fun r w'=> (∃v,r= .returned v∧Ie S (.mk 1 x s name n []) w.heap.size w' v) ∧Below w.heap.size w w' :=by
 obtain ⟨so,sl,sc,rfl⟩ :=hsv
 obtain ⟨xk,xn,xs⟩ :=x
 have hb2 :=Bb w (.cells (Ae 1 ⟨xk,xn,xs⟩ s name n (.slice ao 0 c)) 34) (.cells (Ae 0 zero noW noW 0 (.slice none 0 0)) 34)
 have hB0 : ((w.alloc (.cells (Ae 1 ⟨xk,xn,xs⟩ s name n (.slice ao 0 c)) 34)).alloc (.cells (Ae 0 zero noW noW 0 (.slice none 0 0)) 34)).heap[w.heap.size]? =some (.cells (Ae 1 ⟨xk,xn,xs⟩ s name n (.slice ao 0 c)) 34) :=Ac (Ab _ _) _
 have hB1 : ((w.alloc (.cells (Ae 1 ⟨xk,xn,xs⟩ s name n (.slice ao 0 c)) 34)).alloc (.cells (Ae 0 zero noW noW 0 (.slice none 0 0)) 34)).heap[w.heap.size+1]? =some (.cells (Ae 0 zero noW noW 0 (.slice none 0 0)) 34) :=Aq _ _ _
 go_enter Tryz.func136,Tryz.ntmps136
 go_wp2_with fail
 go_region_held3 (fun w'=>w'.cell? ⟨w.heap.size,0,none⟩ =some (.int .i64 1) ∧w'.cell? ⟨w.heap.size,1,none⟩ =some (.int .i64 xk) ∧w'.cell? ⟨w.heap.size,2,none⟩ =some (.int .i64 xn) ∧w'.cell? ⟨w.heap.size,3,none⟩ =some (.string xs) ∧w'.cell? ⟨w.heap.size,4,none⟩ =some (.string s) ∧w'.cell? ⟨w.heap.size,5,none⟩ =some (.string name) ∧w'.cell? ⟨w.heap.size,6,none⟩ =some (.int .i64 n) ∧w'.cell? ⟨w.heap.size,7,none⟩ =some (.slice ao 0 c)) (exact Aaz _ _ _ _ _ _ _ _ _ _ _)
  (first | fail)
 go_wp2
 exact bodyPost_ret (v := .tuple #[.agg (Ae 1 ⟨xk,xn,xs⟩ s name n (.slice ao 0 c)), .int .i64 xk, .int .i64 0]) (Dc Tryz.results136 _ _ (w.heap.size+1) 34 _ _ _ _ _ rfl rfl rfl (Aq _ _ _) Tryz.underlying34 rfl As) rfl ⟨⟨_,rfl,(Ha (Uf S _ _ _ _ _)).2 ⟨1,⟨xk,xn,xs⟩,s,name,n,ao,0,c,rfl,G1 hc⟩⟩,(Bb _ _ _).drew⟩
set_option maxRecDepth 100000 in
set_option maxHeartbeats 4000000 in
theorem Aer (S :List TabD) (sv :Value) (x :V) (s name :Wd) (n :Int) (ao :Option Addr) (c C :Nat) (w :World) (hc :ao=none→c=0) (hl :IsL Cq (fun k=>k<C) w sv S) (hC :C≤w.heap.size) (hS :S.length≤1000) (hsc : ∀t∈S,t.cols.length≤1000000) :
  Calls Tryz.prog 136 #[sv, .agg (Ae 2 x s name n (.slice ao 0 c))] w fun r w'=> (∃v,r= .returned v∧Ie S (.mk 2 x s name n []) w.heap.size w' v) ∧Below w.heap.size w w' :=by
 obtain ⟨so,sc,rfl⟩ :=hl.shape
 obtain ⟨xk,xn,xs⟩ :=x
 have hb2 :=Bb w (.cells (Ae 2 ⟨xk,xn,xs⟩ s name n (.slice ao 0 c)) 34) (.cells (Ae 0 zero noW noW 0 (.slice none 0 0)) 34)
 have HR :=Yj S (.slice so S.length sc) 2 ⟨xk,xn,xs⟩ s name n ao 0 c C _ (hl.keep (Af (hb2.mono hC))) (Nat.le_trans hC hb2.size) hS hsc
 have hone :=fun n=>Bk 2 ⟨xk,xn,xs⟩ s name n ao 0 c
 have hone0 :=Bk 0 zero noW noW 0 none 0 0
 have HB :Hid (Bh S (.mk 2 ⟨xk,xn,xs⟩ s name n []) =if (Bx S s name n).found=1 then .ok (.mk 2 ⟨xk,xn,xs⟩ s name (Bx S s name n).n [],(Bx S s name n).kind) else .error 3) :=Ug S _ _ _ _ _
 generalize Bx S s name n=q at HR HB
 clear hl
 by_cases hf1 :q.found=1
 ·rw [R0 hf1] at HR
  have HB2 :Hid (Bh S (.mk 2 ⟨xk,xn,xs⟩ s name n []) = .ok (.mk 2 ⟨xk,xn,xs⟩ s name q.n [],q.kind)) :=HB.out.trans (if_pos hf1)
  clear HB hf1
  go_enter Tryz.func136,Tryz.ntmps136
  go_upto_region 6 with (first | (go_at_call 168;go_fit HR;rintro e w1 ⟨rfl,hb1⟩;have hZ :w1.heap[w.heap.size+1]? =some (.cells (Ae 0 zero noW noW 0 (.slice none 0 0)) 34) := (hb1.block _ (by simp)).trans (Aq _ _ _)) | refine wpList_store_row rfl 34 _ _ rfl (w.heap.size+1) _ rfl rfl 34 _ hZ As rfl (hone _) ?_)
  exact bodyPost_ret (v := .tuple #[.agg (Ae 2 ⟨xk,xn,xs⟩ s name q.n (.slice ao 0 c)), .int .i64 q.kind, .int .i64 0]) (Dc Tryz.results136 _ _ (w.heap.size+1) 34 _ _ _ _ _ rfl rfl rfl (Au hZ) Tryz.underlying34 rfl As) rfl ⟨⟨_,rfl,(Ha HB2.out).2 ⟨2,⟨xk,xn,xs⟩,s,name,q.n,ao,0,c,rfl,G1 hc⟩⟩,Below.row (Ad hb2 hb1) (by omega) _⟩
 ·rw [R4 hf1] at HR
  have HB2 :Hid (Bh S (.mk 2 ⟨xk,xn,xs⟩ s name n []) = .error 3) :=HB.out.trans (if_neg hf1)
  clear HB hf1
  go_enter Tryz.func136,Tryz.ntmps136
  go_upto_region 6 with (first | (go_at_call 168;go_fit HR;rintro e w1 ⟨rfl,hb1⟩;have hZ :w1.heap[w.heap.size+1]? =some (.cells (Ae 0 zero noW noW 0 (.slice none 0 0)) 34) := (hb1.block _ (by simp)).trans (Aq _ _ _)) | refine wpList_store_row rfl 34 _ _ rfl (w.heap.size+1) _ rfl rfl 34 _ hZ As rfl hone0 ?_)
  exact bodyPost_ret (v := .tuple #[.agg (Ae 0 zero noW noW 0 (.slice none 0 0)), .int .i64 0, .int .i64 3]) (Dc Tryz.results136 _ _ (w.heap.size+1) 34 _ _ _ _ _ rfl rfl rfl (Au hZ) Tryz.underlying34 rfl As) rfl ⟨⟨_,rfl,(Dx HB2.out).2 rfl⟩,Below.row (Ad hb2 hb1) (by omega) _⟩
end Go.Proofs.YthehiijgnepcfaaGreat

namespace Go.Proofs.YthehiijgnepcfaaGreat
def J1 (ty :Int) (v :V) :Prop := (v.k=0∨v.k=ty) ∧ (v.k≠3→good v=true)
def Vg (cs :List ColD) (row :List V) :Prop :=row.length=cs.length∧ ∀ (i :Nat) (c :ColD) (v :V),cs[i]? =some c→row[i]? =some v→good v=true∧ (v.k=0∨v.k=c.ty)
def Fs (S :List TabD) :List ColD :=S.flatMap TabD.cols
theorem Acx :good zero=true :=rfl
theorem Fw (ty :Int) :J1 ty zero := ⟨.inl rfl,fun _=>Acx⟩
theorem Mr (n :Int) :J1 3 (Dg n) :=by
 unfold Dg
 split
 ·exact ⟨.inr rfl,fun h=>absurd rfl h⟩
 ·exact Fw 3
theorem Tf (b :Bool) :J1 3 (whV b) := ⟨.inr rfl,fun h=>absurd rfl h⟩
theorem Ww (n :Int) :J1 1 (Jy n) :=by
 unfold Jy
 split
 ·rename_i h;exact ⟨.inr rfl,fun _=>h⟩
 ·exact Fw 1
theorem Aes {op :Int} (h :op=9∨op=10) (a :V) :J1 (Jm op) (Hz op a) :=by
 rcases h with rfl | rfl
 ·exact Mr _
 ·exact Tf _
theorem Aet {op :Int} (h :3≤op∧op≤8) (a b :V) :J1 (Jm op) (Eo op a b) :=by
 rcases (show op=3∨op=4∨op=5∨op=6∨op=7∨op=8 by omega) with rfl | rfl | rfl | rfl | rfl | rfl
 ·show J1 1 (if _ then (if a.k=1 then Jy (a.n+b.n) else zero) else zero)
  split
  ·split
   ·exact Ww _
   ·exact Fw _
  ·exact Fw _
 ·show J1 1 (if _ then (if a.k=1 then Jy (a.n - b.n) else zero) else zero)
  split
  ·split
   ·exact Ww _
   ·exact Fw _
  ·exact Fw _
 ·show J1 3 (if _ then whV _ else zero)
  split
  ·exact Tf _
  ·exact Fw _
 ·show J1 3 (if _ then whV _ else zero)
  split
  ·exact Tf _
  ·exact Fw _
 ·exact Mr _
 ·exact Mr _
theorem Acy (s name :Wd) (n :Int) : ∀ (S P :List TabD) (r :RefS),r.ahead= (Fs P).length→ (r.found≠0→ ∃ (i :Nat) (c :ColD),r.n= (i :Int) ∧ (Fs P)[i]? =some c∧r.kind=c.ty) →
  (S.foldl (Cd s name) r).found≠0→ ∃ (i :Nat) (c :ColD),(S.foldl (Cd s name) r).n= (i :Int) ∧ (Fs (P++S))[i]? =some c∧ (S.foldl (Cd s name) r).kind=c.ty
 | [],P,r,_,h2,h3=>by simpa using h2 h3
 | t ::S,P,r,h1,h2,h3=>by
  have e1 :Fs (P++ [t]) =Fs P++t.cols :=by simp [Fs]
  have hc :P++t ::S= (P++ [t]) ++S :=by simp
  rw [hc]
  refine Acy s name n S (P++ [t]) (Cd s name r t) ?_ ?_ h3
  ·rw [e1,List.length_append,Cd,h1]
  ·intro hf
   rw [e1]
   by_cases hh :J0 t s name=true
   ·have hh' :=hh
    simp only [J0,Bool.and_eq_true,decide_eq_true_eq] at hh'
    rcases Lr t.cols name with hm | ⟨k,x,hk1,hk2,_⟩
    ·rw [hm] at hh';omega
    ·refine ⟨(Fs P).length+k,x, ?_, ?_, ?_⟩
     ·simp only [Cd,hh,if_true,hk1,h1];omega
     ·rw [List.getElem?_append_right (by omega)]
      simpa using hk2
     ·simp [Cd,hh,hk1,hk2]
   ·simp only [Cd,hh] at hf⊢
    obtain ⟨i,c,q1,q2,q3⟩ :=h2 (by simpa using hf)
    refine ⟨i,c,by simpa using q1, ?_,by simpa using q3⟩
    rw [List.getElem?_append_left (List.getElem?_eq_some_iff.1 q2).1]
    exact q2
theorem Od {S :List TabD} {s name :Wd} {n :Int} (h : (Bx S s name n).found=1) : ∃ (i :Nat) (c :ColD),(Bx S s name n).n= (i :Int) ∧ (Fs S)[i]? =some c∧ (Bx S s name n).kind=c.ty :=by
 have :=Acy s name n S [] ⟨0,0,n,0⟩ rfl (fun h=>absurd rfl h) (by unfold Bx at h;omega)
 simpa [Bx] using this
theorem Aa0 {S :List TabD} {row :List V} (hr :Vg (Fs S) row) {d :Nat} {e :E} {r :E×Int} (hb :Bh S e= .ok r) (hg :geB d e=true) :J1 r.2 (ev row r.1) :=by
 obtain ⟨op,x,s,name,n,l⟩ :=e
 cases d with
 | zero=>simp [geB] at hg
 | succ d=>
  simp only [geB,Bool.and_eq_true,decide_eq_true_eq] at hg
  obtain ⟨⟨hlen,hleaf⟩,_⟩ :=hg
  by_cases h1 :op=1
  ·subst h1
   rw [Uf] at hb
   obtain rfl :=Except.ok.inj hb
   have hl :l= [] :=List.eq_nil_of_length_eq_zero (by simp [Dd] at hlen;simpa using hlen)
   subst hl
   have hx :good x=true :=by simpa [Jl] using hleaf
   exact ⟨.inr rfl,fun _=>hx⟩
  ·by_cases h2 :op=2
   ·subst h2
    rw [Ug] at hb
    have hl :l= [] :=List.eq_nil_of_length_eq_zero (by simp [Dd] at hlen;simpa using hlen)
    subst hl
    by_cases hf : (Bx S s name n).found=1
    ·rw [if_pos hf] at hb
     obtain rfl :=Except.ok.inj hb
     obtain ⟨i,c,q1,q2,q3⟩ :=Od hf
     have hi :i<row.length :=by rw [hr.1];exact (List.getElem?_eq_some_iff.1 q2).1
     have hv :=hr.2 i c row[i] q2 (List.getElem?_eq_getElem hi)
     have he :ev row (.mk 2 x s name (Bx S s name n).n []) =row[i] :=by
      rw [ev,q1,if_pos (by rfl),evs]
      simp [Qk,Fk,Gz,hi]
     simp only [he]
     exact ⟨by rw [q3];exact hv.2,fun _=>hv.1⟩
    ·rw [if_neg hf] at hb;cases hb
   ·rw [Wu S h1 h2] at hb
    cases hbs :A1 S l with
    | error m=>rw [hbs] at hb;cases hb
    | ok rs=>
     rw [hbs] at hb
     simp only at hb
     have hle :=R5 S l rs hbs
     split at hb
     ·obtain rfl :=Except.ok.inj hb
      simp only
      rw [Id]
      have ha : (op=9∨op=10) ∨ (3≤op∧op≤8) :=by
       simp only [Dd,h1,h2] at hlen
       by_cases q :op=9∨op=10
       ·exact .inl q
       ·by_cases q2 :3≤op∧op≤8
        ·exact .inr q2
        ·simp [q,q2] at hlen
      rcases ha with ha | ha
      ·have hl1 :l.length=1 :=by simp [Dd,h1,h2,ha] at hlen;omega
       have hk : (B6 op (rs.map Prod.fst)) =rs.map Prod.fst :=by
        unfold B6
        rw [if_pos]
        rw [List.length_map,hle,hl1,Gy,if_pos ha]
       rw [hk]
       obtain ⟨a,rfl⟩ : ∃a,rs= [a] :=List.length_eq_one_iff.1 (hle.trans hl1)
       exact Aes ha _
      ·have hn9 : ¬ (op=9∨op=10) :=by omega
       have hl1 :l.length=2 :=by simp [Dd,h1,h2,hn9,ha] at hlen;omega
       have hk : (B6 op (rs.map Prod.fst)) =rs.map Prod.fst :=by
        unfold B6
        rw [if_pos]
        rw [List.length_map,hle,hl1,Gy,if_neg hn9,if_pos ha]
       rw [hk]
       obtain ⟨a,b,rfl⟩ : ∃a b,rs= [a,b] :=by
        have h2 :=hle.trans hl1
        match rs,h2 with
        | [a,b],_=>exact ⟨a,b,rfl⟩
       exact Aet ha _ _
     ·cases hb
end Go.Proofs.YthehiijgnepcfaaGreat

namespace Go.Proofs.YthehiijgnepcfaaGreat
open Go.RowKit Go.Maps
theorem D5 {P :Program} {w :World} {ops :Array Oper} {o :Oper} {a :Act} {K :Act→World→Prop} {Q :Exit→Act→World→Prop} {X :Prop} (hgd :o.guard=none) (ty :TypeId) (x y :Operand) (ho :o.op= .store ty x y)
  (g :Nat) (cells :Array Value) (hx :a.eval x= .pointer (some ⟨g,0,none⟩)) (hy :a.eval y= .agg cells)
  (t :TypeId) (old :Array Value) (hg :w.heap[g]? =some (.cells old t (0,0))) (hi : (P.info? ty).map (·.size) =some cells.size)
  (hold :old.size=cells.size) (h1 :cells.all (·.oneCell') =true)
  (h :K (a.put o.dst undef) (w.setRow g cells)) :if Region.wanted o (yielded ops a.tmps) =true then Oper.wp P o a w K Q else X :=by
 rw [if_pos (by simp [Region.wanted,hgd])]
 exact wp_store_row ty x y ho g cells hx hy t old hg hi hold h1 h
theorem K6.row {w :World} {g :Nat} {op xk xn :Int} {xs s name :Wd} {n :Int} {sv :Value} (h :K6 w g op xk xn xs s name n sv) {b :Nat} (hb :g≠b) (cells :Array Value) :K6 (w.setRow b cells) g op xk xn xs s name n sv :=by
 have e : ∀o,(w.setRow b cells).cell? ⟨g,o,none⟩ =w.cell? ⟨g,o,none⟩ :=fun o=>by simp [World.setRow,World.cell?,Array.getElem?_modify,Ne.symm hb]
 unfold K6
 simp only [e]
 exact h
theorem Uh : (Tryz.prog.info? 34).map (fun i=> (i.zero,i.size,i.bytes)) =some (some (.agg #[.int .i64 0, .int .i64 0, .int .i64 0, .string ⟨#[]⟩, .string ⟨#[]⟩, .string ⟨#[]⟩, .int .i64 0, .slice none 0 0]),8,104) :=by kernel_rfl
theorem Aeu : (Tryz.prog.info? 3).map (fun i=> (i.zero,i.size,i.bytes)) =some (some (.int .i64 0),1,8) :=by kernel_rfl
theorem Ms (W :World) (n :Nat) (hn :n≤1000000000000) : ∃arr :Array Value,arr.size=n*8∧ (Instr.makeSlice 30 (.int .i64 (n :Int)) (.int .i64 (n :Int))).run Tryz.prog W= .ok (.slice (some ⟨W.heap.size,0,none⟩) n n) (W.alloc (.cells arr 34)) :=by
 obtain ⟨i0,hi,hz0,hz1,hz2⟩ :=info_parts Uh
 have hmk :=run_make (P :=Tryz.prog) W 30 34 i0 _ Tryz.underlying30 hi hz0 .i64 .i64 n n (by omega) (Int.le_refl _) (by rw [hz2];omega) (by omega)
 rw [hz1,Int.toNat_natCast] at hmk
 exact ⟨_,size_madeCells _ _,hmk⟩
theorem Acz (W :World) (n :Nat) (hn :n≤1000000000000) : ∃arr :Array Value,arr.size=n*1∧ (Instr.makeSlice 208 (.int .i64 (n :Int)) (.int .i64 (n :Int))).run Tryz.prog W= .ok (.slice (some ⟨W.heap.size,0,none⟩) n n) (W.alloc (.cells arr 3)) :=by
 obtain ⟨i0,hi,hz0,hz1,hz2⟩ :=info_parts Aeu
 have hmk :=run_make (P :=Tryz.prog) W 208 3 i0 _ Tryz.underlying208 hi hz0 .i64 .i64 n n (by omega) (Int.le_refl _) (by rw [hz2];omega) (by omega)
 rw [hz1,Int.toNat_natCast] at hmk
 exact ⟨_,size_madeCells _ _,hmk⟩
theorem Aev (w :World) (o1 o2 :Obj) (a1 a2 :Array Value) (t1 t2 :TypeId) (n :Nat) (F :Nat→Prop) (h1 :a1.size=n*8) (h2 :a2.size=n*1) :
  ((((w.alloc o1).alloc o2).alloc (.cells a1 t1)).alloc (.cells a2 t2)).heap[w.heap.size]? =some o1∧ ((((w.alloc o1).alloc o2).alloc (.cells a1 t1)).alloc (.cells a2 t2)).heap[w.heap.size+1]? =some o2∧
  Cf Az F ((((w.alloc o1).alloc o2).alloc (.cells a1 t1)).alloc (.cells a2 t2)) (w.heap.size+1+1) n [] ∧Cf Io F ((((w.alloc o1).alloc o2).alloc (.cells a1 t1)).alloc (.cells a2 t2)) (w.heap.size+1+1+1) n [] ∧
  Below w.heap.size w ((((w.alloc o1).alloc o2).alloc (.cells a1 t1)).alloc (.cells a2 t2)) ∧w.heap.size+4≤ ((((w.alloc o1).alloc o2).alloc (.cells a1 t1)).alloc (.cells a2 t2)).heap.size :=by
 have m1 :Cf Az F (((w.alloc o1).alloc o2).alloc (.cells a1 t1)) (w.heap.size+1+1) n [] :=by
  have :=Ja Az F (w := (w.alloc o1).alloc o2) (t :=t1) (n :=n) h1
  rwa [show ((w.alloc o1).alloc o2).heap.size=w.heap.size+1+1 from by simp] at this
 have m2 :Cf Io F ((((w.alloc o1).alloc o2).alloc (.cells a1 t1)).alloc (.cells a2 t2)) (w.heap.size+1+1+1) n [] :=by
  have :=Ja Io F (w := ((w.alloc o1).alloc o2).alloc (.cells a1 t1)) (t :=t2) (n :=n) h2
  rwa [show (((w.alloc o1).alloc o2).alloc (.cells a1 t1)).heap.size=w.heap.size+1+1+1 from by simp] at this
 exact ⟨Ac (Ac (Ac (Ab _ _) _) _) _,Ac (Ac (Aq _ _ _) _) _,m1.below (Ao _ _),m2,(Cb _ _ _ _).alloc (by simp;omega) _,by simp⟩
theorem Oe {W w1 :World} {g n j :Nat} {le :List E} {li :List Int} {op :Int} {x :V} {s name :Wd} {i :Int} {ao :Option Addr} {k c :Nat} {e :E} {ty :Int}
  (h1 :Cf Az (Fr (g+4)) W (g+1+1) n le) (h2 :Cf Io (Fr (g+4)) W (g+1+1+1) n li) (hb :Below W.heap.size W w1) (hj :j<n) (l1 :le.length=j) (l2 :li.length=j)
  (he :IsE (Fr (g+4)) w1 e (.agg (Ae op x s name i (.slice ao k c)))) :
  w1.there (g+1+1) (j*8) 8∧ (∃u,(w1.setCells (g+1+1) (j*8) (Ae op x s name i (.slice ao k c)).toList).cell? ⟨g+1+1+1,j,none⟩ =some u) ∧ (w1.setCells (g+1+1) (j*8) (Ae op x s name i (.slice ao k c)).toList).frozen? ⟨g+1+1+1,j,none⟩ =false∧
  Cf Az (Fr (g+4)) ((w1.setCells (g+1+1) (j*8) (Ae op x s name i (.slice ao k c)).toList).setCell ⟨g+1+1+1,j,none⟩ (.int .i64 ty)) (g+1+1) n (le++ [e]) ∧
  Cf Io (Fr (g+4)) ((w1.setCells (g+1+1) (j*8) (Ae op x s name i (.slice ao k c)).toList).setCell ⟨g+1+1+1,j,none⟩ (.int .i64 ty)) (g+1+1+1) n (li++ [ty]) :=by
 subst l1
 have m1 :=h1.below hb
 have m2 :=h2.below hb
 have hn1 : ¬Fr (g+4) (g+1+1) :=by show ¬_≤_;omega
 have hn2 : ¬Fr (g+4) (g+1+1+1) :=by show ¬_≤_;omega
 have n1 :=m1.set hj hn1 (a :=e) (c := (Ae op x s name i (.slice ao k c)).toList) ⟨rfl,he⟩
 have n2 :Cf Io (Fr (g+4)) (w1.setCells (g+1+1) (le.length*8) (Ae op x s name i (.slice ao k c)).toList) (g+1+1+1) n li :=m2.keep (G8 hn1 _ _ _) (Cg (by omega) _ _ _)
 have t2 :=Pu (n2.there hj) (j :=0) (by decide)
 simp only [Io,Nat.mul_one,Nat.add_zero] at t2
 refine ⟨m1.there hj,t2.1,t2.2,n1.keep ((Keeps.refl _ _).set hn2 _ _) (Below.heap_setCell _ _ _ _ (by simp)), ?_⟩
 have :=n2.set1 (by omega) hn2 rfl (a :=ty) (v := .int .i64 ty) rfl
 rwa [l2] at this
theorem Zo {w w1 :World} {g k :Nat} {x :Obj} (hk :k<w.heap.size) (hn :k<g+1+1) (hb :Below w.heap.size w w1) (hx :w.heap[k]? =some x) (o :Nat) (vs :List Value) (i :Nat) (v :Value) :
  ((w1.setCells (g+1+1) o vs).setCell ⟨g+1+1+1,i,none⟩ v).heap[k]? =some x :=
 (Below.heap_setCell _ _ _ _ (show k≠g+1+1+1 by omega)).trans ((Cg (show k≠g+1+1 by omega) _ _ _).trans ((hb.block _ hk).trans hx))
set_option maxRecDepth 100000 in
set_option maxHeartbeats 4000000 in
theorem Agv (S :List TabD) (d :Nat) (ih :Wv S d) (sv :Value) (op :Int) (x :V) (s name :Wd) (n :Int) (l :List E) (ao :Option Addr) (c C :Nat) (w :World) (h1 :op≠1) (h2 :op≠2) (he :IsL Az (fun k=>k<C) w (.slice ao l.length c) l) (hl :IsL Cq (fun k=>k<C) w sv S) (hC :C≤w.heap.size) (hg : ∀a∈l,geB d a=true) (hl2 :l.length≤2) :
  Calls Tryz.prog 136 #[sv, .agg (Ae op x s name n (.slice ao l.length c))] w fun r w'=> (∃v,r= .returned v∧Ie S (.mk op x s name n l) w.heap.size w' v) ∧Below w.heap.size w w' :=by
 obtain ⟨so,sc,rfl⟩ :=hl.shape
 obtain ⟨xk,xn,xs⟩ :=x
 have e1 : (op==1) =false :=by simpa using h1
 have e2 : (op==2) =false :=by simpa using h2
 have HB :Hid (Bh S (.mk op ⟨xk,xn,xs⟩ s name n l) =match A1 S l with
   | .error m=> .error m
   | .ok r=>if Qn op (r.map Prod.snd) then .ok (.mk op ⟨xk,xn,xs⟩ s name n (r.map Prod.fst),Jm op) else .error 5) :=Wu S h1 h2 _ _ _ _ _
 have hb2 :=Bb w (.cells (Ae op ⟨xk,xn,xs⟩ s name n (.slice ao l.length c)) 34) (.cells (Ae 0 zero noW noW 0 (.slice none 0 0)) 34)
 have hB0 : ((w.alloc (.cells (Ae op ⟨xk,xn,xs⟩ s name n (.slice ao l.length c)) 34)).alloc (.cells (Ae 0 zero noW noW 0 (.slice none 0 0)) 34)).heap[w.heap.size]? =some (.cells (Ae op ⟨xk,xn,xs⟩ s name n (.slice ao l.length c)) 34) :=Ac (Ab _ _) _
 have hB1 : ((w.alloc (.cells (Ae op ⟨xk,xn,xs⟩ s name n (.slice ao l.length c)) 34)).alloc (.cells (Ae 0 zero noW noW 0 (.slice none 0 0)) 34)).heap[w.heap.size+1]? =some (.cells (Ae 0 zero noW noW 0 (.slice none 0 0)) 34) :=Aq _ _ _
 clear h1 h2
 go_enter Tryz.func136,Tryz.ntmps136
 go_wp2_with fail
 obtain ⟨arr1,ha1,hmk1⟩ :=Ms ((w.alloc (.cells (Ae op ⟨xk,xn,xs⟩ s name n (.slice ao l.length c)) 34)).alloc (.cells (Ae 0 zero noW noW 0 (.slice none 0 0)) 34)) l.length (by omega)
 erw [hmk1]
 go_wp2_with fail
 obtain ⟨arr2,ha2,hmk2⟩ :=Acz (((w.alloc (.cells (Ae op ⟨xk,xn,xs⟩ s name n (.slice ao l.length c)) 34)).alloc (.cells (Ae 0 zero noW noW 0 (.slice none 0 0)) 34)).alloc (.cells arr1 34)) l.length (by omega)
 erw [hmk2]
 have hst :=Aev w (.cells (Ae op ⟨xk,xn,xs⟩ s name n (.slice ao l.length c)) 34) (.cells (Ae 0 zero noW noW 0 (.slice none 0 0)) 34) arr1 arr2 34 3 l.length (Fr (w.heap.size+4)) ha1 ha2
 clear hmk1 hmk2 ha1 ha2 hb2 hB0 hB1
 obtain ⟨st0,st1,st2,st3,st4,st5⟩ :=hst
 go_wp2_with fail
 go_loopw [39] (fun i wr=> ∃ (j :Nat) (rs :List (E×Int)),j≤l.length∧i= .int .i64 j∧Hid (A1 S (l.take j) = .ok rs) ∧Hid (rs.length=j) ∧wr.heap[w.heap.size]? =some (.cells (Ae op ⟨xk,xn,xs⟩ s name n (.slice ao l.length c)) 34) ∧wr.heap[w.heap.size+1]? =some (.cells (Ae 0 zero noW noW 0 (.slice none 0 0)) 34) ∧Cf Az (Fr (w.heap.size+4)) wr (w.heap.size+1+1) l.length (rs.map Prod.fst) ∧Cf Io (Fr (w.heap.size+4)) wr (w.heap.size+1+1+1) l.length (rs.map Prod.snd) ∧Below w.heap.size w wr∧w.heap.size+4≤wr.heap.size) (fun i _=>l.length - (intOf i).toNat)
 case atStart=>exact ⟨0,[],Nat.zero_le _,rfl,by show _=_;rw [List.take_zero,A1],rfl,st0,st1,st2,st3,st4,st5⟩
 case round=>
  obtain ⟨j,rs,hj,rfl,HQ,HL,hE,hZ,hM1,hM2,hbel,hsz⟩ :=hrel
  clear st0 st1 st2 st3 st4 st5
  by_cases hjl :j<l.length
  ·obtain ⟨a,ha⟩ : ∃a,l[j]? =some a := ⟨_,List.getElem?_eq_getElem hjl⟩
   have HT :Hid (l.take (j+1) =l.take j++ [a]) :=by show _=_;rw [List.take_add_one,ha];rfl
   have hga :=hg a (List.mem_of_getElem? ha)
   obtain ⟨b,off,cs,rfl,hbC,hb,hR,hcell⟩ :=A4 (he.keep (Af (hbel.mono hC))) ha
   obtain ⟨op',xk',xn',xs',s',name',n',ao',k',c',rfl⟩ :=Ej hR
   have d0 :=hcell 0 _ rfl
   have d1 :=hcell 1 _ rfl
   have d2 :=hcell 2 _ rfl
   have d3 :=hcell 3 _ rfl
   have d4 :=hcell 4 _ rfl
   have d5 :=hcell 5 _ rfl
   have d6 :=hcell 6 _ rfl
   have d7 :=hcell 7 _ rfl
   simp only [Az,Nat.add_zero] at d0 d1 d2 d3 d4 d5 d6 d7
   have j0 : (0 :Int) ≤ (j :Int) :=by omega
   have j1 : (j :Int) < (l.length :Int) :=by omega
   have hbx :=Ao wr (.cells (Ae op' ⟨xk',xn',xs'⟩ s' name' n' (.slice ao' k' c')) 34)
   have HI :=ih a (.agg (Ae op' ⟨xk',xn',xs'⟩ s' name' n' (.slice ao' k' c'))) (.slice so S.length sc) C (wr.alloc (.cells (Ae op' ⟨xk',xn',xs'⟩ s' name' n' (.slice ao' k' c')) 34)) (IsE.keep (Af (hbx.mono (Nat.le_trans hC hbel.size))) _ _ hR.2) ((hl.keep (Af (hbel.mono hC))).keep (Af (hbx.mono (Nat.le_trans hC hbel.size)))) (Nat.le_trans (Nat.le_trans hC hbel.size) hbx.size) hga
   clear hcell hR ha ih hg
   have hlt0 :=lt_of_block hE
   have hlt1 :=lt_of_block hZ
   have q2 :=HL.out
   have l1 : (rs.map Prod.fst).length=j :=by rw [List.length_map];exact q2
   have l2 : (rs.map Prod.snd).length=j :=by rw [List.length_map];exact q2
   rcases hbr :Bh S a with m | r
   ·rcases Js S a m hbr with rfl | rfl
    ·have HI2 :=HI.mono (R' :=fun e w'=> ∃ (op :Int) (x :V) (s name :Wd) (n :Int) (ao :Option Addr) (k c :Nat) (z :Int),e= .returned (.tuple #[.agg (Ae op x s name n (.slice ao k c)), .int .i64 z, .int .i64 3]) ∧IsE (Fr (w.heap.size+4)) w' (.mk 0 zero noW noW 0 []) (.agg (Ae op x s name n (.slice ao k c))) ∧Below (wr.heap.size+1) (wr.alloc (.cells (Ae op' ⟨xk',xn',xs'⟩ s' name' n' (.slice ao' k' c')) 34)) w') (by
      rintro e w' ⟨⟨v,rfl,hv⟩,hb'⟩
      obtain rfl := (Dx hbr).1 hv
      exact ⟨0,zero,noW,noW,0,none,0,0,0,rfl,G1 fun _=>rfl,by simpa using hb'⟩)
     have HE :Hid (Bh S (.mk op ⟨xk,xn,xs⟩ s name n l) = .error 3) :=by
      show _=_
      have hs :A1 S (l.take (j+1)) = .error 3 :=by rw [HT.out,Gh,HQ.out,hbr]
      have :=Hu S (l.take (j+1)) (l.drop (j+1)) 3 hs
      rw [List.take_append_drop] at this
      rw [HB.out,this]
     have hone0 :=Bk 0 zero noW noW 0 none 0 0
     clear HI hbr HB HQ HL HT q2
     go_wp2_with (first | (go_at_call 136;refine HI2.mono ?_;rintro e w1 ⟨op2,x2,s2,name2,n2,ao2,k2,c2,z,rfl,hE2,hb1⟩;obtain ⟨x2k,x2n,x2s⟩ :=x2;have hbT :=Ad hbx (by simpa using hb1);obtain ⟨mt,⟨u,mu⟩,mf,mm1,mm2⟩ :=Oe (ty :=z) hM1 hM2 hbT hjl l1 l2 hE2;have hone :=Bk op2 ⟨x2k,x2n,x2s⟩ s2 name2 n2 ao2 k2 c2;have hZ2 :=Zo (g :=w.heap.size) hlt1 (by omega) hbT hZ (j*8) (Ae op2 ⟨x2k,x2n,x2s⟩ s2 name2 n2 (.slice ao2 k2 c2)).toList j (.int .i64 z)) | (refine wpList_store_row rfl 34 _ _ rfl (w.heap.size+1) (Ae 0 zero noW noW 0 (.slice none 0 0)) ?_ ?_ 34 (Ae 0 zero noW noW 0 (.slice none 0 0)) ?_ ?_ ?_ ?_ ?_;exact rfl;exact rfl;exact hZ2;exact As;exact rfl;exact hone0) | (refine wpList_store_mid rfl 34 _ _ rfl (w.heap.size+1+1) (j*8) (Ae op2 ⟨x2k,x2n,x2s⟩ s2 name2 n2 (.slice ao2 k2 c2)) ?_ ?_ ?_ ?_ ?_ ?_;exact rfl;exact rfl;exact mt;exact As;exact hone))
     have hbw1 :Below w.heap.size w w1 :=hbel.trans (hbT.mono hbel.size)
     exact bodyPost_ret (v := .tuple #[.agg (Ae 0 zero noW noW 0 (.slice none 0 0)), .int .i64 0, .int .i64 3]) (Dc Tryz.results136 _ _ (w.heap.size+1) 34 _ _ _ _ _ rfl rfl rfl (Au hZ2) Tryz.underlying34 rfl As) rfl ⟨⟨_,rfl,(Dx HE.out).2 rfl⟩,Below.row ((Cv (show w.heap.size≤w.heap.size+1+1 by omega) _ _ _ hbw1).setCell (show w.heap.size≤w.heap.size+1+1+1 by omega) _) (by omega) _⟩
    ·have HI2 :=HI.mono (R' :=fun e w'=> ∃ (op :Int) (x :V) (s name :Wd) (n :Int) (ao :Option Addr) (k c :Nat) (z :Int),e= .returned (.tuple #[.agg (Ae op x s name n (.slice ao k c)), .int .i64 z, .int .i64 5]) ∧IsE (Fr (w.heap.size+4)) w' (.mk 0 zero noW noW 0 []) (.agg (Ae op x s name n (.slice ao k c))) ∧Below (wr.heap.size+1) (wr.alloc (.cells (Ae op' ⟨xk',xn',xs'⟩ s' name' n' (.slice ao' k' c')) 34)) w') (by
      rintro e w' ⟨⟨v,rfl,hv⟩,hb'⟩
      obtain rfl := (Dx hbr).1 hv
      exact ⟨0,zero,noW,noW,0,none,0,0,0,rfl,G1 fun _=>rfl,by simpa using hb'⟩)
     have HE :Hid (Bh S (.mk op ⟨xk,xn,xs⟩ s name n l) = .error 5) :=by
      show _=_
      have hs :A1 S (l.take (j+1)) = .error 5 :=by rw [HT.out,Gh,HQ.out,hbr]
      have :=Hu S (l.take (j+1)) (l.drop (j+1)) 5 hs
      rw [List.take_append_drop] at this
      rw [HB.out,this]
     have hone0 :=Bk 0 zero noW noW 0 none 0 0
     clear HI hbr HB HQ HL HT q2
     go_wp2_with (first | (go_at_call 136;refine HI2.mono ?_;rintro e w1 ⟨op2,x2,s2,name2,n2,ao2,k2,c2,z,rfl,hE2,hb1⟩;obtain ⟨x2k,x2n,x2s⟩ :=x2;have hbT :=Ad hbx (by simpa using hb1);obtain ⟨mt,⟨u,mu⟩,mf,mm1,mm2⟩ :=Oe (ty :=z) hM1 hM2 hbT hjl l1 l2 hE2;have hone :=Bk op2 ⟨x2k,x2n,x2s⟩ s2 name2 n2 ao2 k2 c2;have hZ2 :=Zo (g :=w.heap.size) hlt1 (by omega) hbT hZ (j*8) (Ae op2 ⟨x2k,x2n,x2s⟩ s2 name2 n2 (.slice ao2 k2 c2)).toList j (.int .i64 z)) | (refine wpList_store_row rfl 34 _ _ rfl (w.heap.size+1) (Ae 0 zero noW noW 0 (.slice none 0 0)) ?_ ?_ 34 (Ae 0 zero noW noW 0 (.slice none 0 0)) ?_ ?_ ?_ ?_ ?_;exact rfl;exact rfl;exact hZ2;exact As;exact rfl;exact hone0) | (refine wpList_store_mid rfl 34 _ _ rfl (w.heap.size+1+1) (j*8) (Ae op2 ⟨x2k,x2n,x2s⟩ s2 name2 n2 (.slice ao2 k2 c2)) ?_ ?_ ?_ ?_ ?_ ?_;exact rfl;exact rfl;exact mt;exact As;exact hone))
     have hbw1 :Below w.heap.size w w1 :=hbel.trans (hbT.mono hbel.size)
     exact bodyPost_ret (v := .tuple #[.agg (Ae 0 zero noW noW 0 (.slice none 0 0)), .int .i64 0, .int .i64 5]) (Dc Tryz.results136 _ _ (w.heap.size+1) 34 _ _ _ _ _ rfl rfl rfl (Au hZ2) Tryz.underlying34 rfl As) rfl ⟨⟨_,rfl,(Dx HE.out).2 rfl⟩,Below.row ((Cv (show w.heap.size≤w.heap.size+1+1 by omega) _ _ _ hbw1).setCell (show w.heap.size≤w.heap.size+1+1+1 by omega) _) (by omega) _⟩
   ·have HI2 :=HI.mono (R' :=fun e w'=> ∃ (op :Int) (x :V) (s name :Wd) (n :Int) (ao :Option Addr) (k c :Nat),e= .returned (.tuple #[.agg (Ae op x s name n (.slice ao k c)), .int .i64 r.2, .int .i64 0]) ∧IsE (Fr (w.heap.size+4)) w' r.1 (.agg (Ae op x s name n (.slice ao k c))) ∧Below (wr.heap.size+1) (wr.alloc (.cells (Ae op' ⟨xk',xn',xs'⟩ s' name' n' (.slice ao' k' c')) 34)) w') (by
     rintro e w' ⟨⟨v,rfl,hv⟩,hb'⟩
     obtain ⟨op,x,s,name,n,ao,k,c,rfl,hE'⟩ := (Ha hbr).1 hv
     exact ⟨op,x,s,name,n,ao,k,c,rfl,IsE.mono (fun k _ hk=>by exact Nat.le_trans (by simp;omega) hk) _ _ hE',by simpa using hb'⟩)
    have HBR :Hid (Bh S a= .ok r) :=hbr
    clear HI hbr
    have HS :Hid (A1 S (l.take (j+1)) = .ok (rs++ [r])) :=by show _=_;rw [HT.out,Gh,HQ.out,HBR.out]
    have HL2 :Hid ((rs++ [r]).length=j+1) :=by show _=_;rw [List.length_append,q2];rfl
    clear HQ HL HT HBR q2
    go_wp2_with (first | (go_at_call 136;refine HI2.mono ?_;rintro e w1 ⟨op2,x2,s2,name2,n2,ao2,k2,c2,rfl,hE2,hb1⟩;obtain ⟨r1,r2⟩ :=r;obtain ⟨x2k,x2n,x2s⟩ :=x2;have hbT :=Ad hbx (by simpa using hb1);obtain ⟨mt,⟨u,mu⟩,mf,mm1,mm2⟩ :=Oe (ty :=r2) hM1 hM2 hbT hjl l1 l2 hE2;have hone :=Bk op2 ⟨x2k,x2n,x2s⟩ s2 name2 n2 ao2 k2 c2) | (refine wpList_store_mid rfl 34 _ _ rfl (w.heap.size+1+1) (j*8) (Ae op2 ⟨x2k,x2n,x2s⟩ s2 name2 n2 (.slice ao2 k2 c2)) ?_ ?_ ?_ ?_ ?_ ?_;exact rfl;exact rfl;exact mt;exact As;exact hone))
    have hbw1 :Below w.heap.size w w1 :=hbel.trans (hbT.mono hbel.size)
    go_roundw
    case rel=>exact ⟨j+1,rs++ [(r1,r2)],by omega,by go_num,HS,HL2,(Below.heap_setCell _ _ _ _ (show w.heap.size≠w.heap.size+1+1+1 by omega)).trans ((Cg (show w.heap.size≠w.heap.size+1+1 by omega) _ _ _).trans ((hbT.block _ hlt0).trans hE)),(Below.heap_setCell _ _ _ _ (show w.heap.size+1≠w.heap.size+1+1+1 by omega)).trans ((Cg (show w.heap.size+1≠w.heap.size+1+1 by omega) _ _ _).trans ((hbT.block _ hlt1).trans hZ)),by rw [List.map_append];exact mm1,by rw [List.map_append];exact mm2,(Cv (show w.heap.size≤w.heap.size+1+1 by omega) _ _ _ hbw1).setCell (show w.heap.size≤w.heap.size+1+1+1 by omega) _,by have :=hbT.size;simp [Ef];omega⟩
    case measure=>simp [intOf];omega
  ·have hjl2 :j=l.length :=by omega
   subst hjl2
   have hlt0 :=lt_of_block hE
   have hlt1 :=lt_of_block hZ
   have q2 :=HL.out
   have HQ2 :Hid (A1 S l= .ok rs) :=by
    have :=HQ.out
    rw [List.take_length] at this
    exact this
   have hw1 :IsL Az (Fr (w.heap.size+2)) wr (.slice (some ⟨w.heap.size+1+1,0,none⟩) l.length l.length) (rs.map Prod.fst) :=hM1.whole (by rw [List.length_map];exact q2) (fun k hk=>Nat.le_trans (by omega) hk) (show w.heap.size+2≤w.heap.size+1+1 by omega) (Nat.le_trans hl2 (by decide))
   have hw2 :IsL Io (Fr w.heap.size) wr (.slice (some ⟨w.heap.size+1+1+1,0,none⟩) l.length l.length) (rs.map Prod.snd) :=hM2.whole (by rw [List.length_map];exact q2) (fun k hk=>Nat.le_trans (by omega) hk) (show w.heap.size≤w.heap.size+1+1+1 by omega) (Nat.le_trans hl2 (by decide))
   have HF :=Agu op (rs.map Prod.snd) _ _ wr hw2
   have e0 :=Aa hE (j :=0) rfl
   have hone0 :=Bk 0 zero noW noW 0 none 0 0
   clear q2 hM1 hM2 hw2 HQ HL ih hg he hl
   cases hfb :Qn op (rs.map Prod.snd)
   ·rw [hfb] at HF
    have HE :Hid (Bh S (.mk op ⟨xk,xn,xs⟩ s name n l) = .error 5) :=by
     show _=_
     rw [HB.out,HQ2.out]
     simp only [hfb]
     rfl
    clear HB HQ2 hfb hw1
    go_wp2_with (first | (go_at_call 169;go_fit HF;rintro e w1 ⟨rfl,hb1⟩;have hZ1 := (hb1.block _ hlt1).trans hZ) | (refine wpList_store_row rfl 34 _ _ rfl (w.heap.size+1) (Ae 0 zero noW noW 0 (.slice none 0 0)) ?_ ?_ 34 (Ae 0 zero noW noW 0 (.slice none 0 0)) ?_ ?_ ?_ ?_ ?_;exact rfl;exact rfl;exact hZ1;exact As;exact rfl;exact hone0))
    exact bodyPost_ret (v := .tuple #[.agg (Ae 0 zero noW noW 0 (.slice none 0 0)), .int .i64 0, .int .i64 5]) (Dc Tryz.results136 _ _ (w.heap.size+1) 34 _ _ _ _ _ rfl rfl rfl (Au hZ1) Tryz.underlying34 rfl As) rfl ⟨⟨_,rfl,(Dx HE.out).2 rfl⟩,Below.row (hbel.trans (hb1.mono hbel.size)) (by omega) _⟩
   ·rw [hfb] at HF
    have HE :Hid (Bh S (.mk op ⟨xk,xn,xs⟩ s name n l) = .ok (.mk op ⟨xk,xn,xs⟩ s name n (rs.map Prod.fst),Jm op)) :=by
     show _=_
     rw [HB.out,HQ2.out]
     simp only [hfb]
     rfl
    have HT :=fun W=>Aax op W
    generalize hty :Jm op=ty at HT HE
    clear HB HQ2 hfb hty
    go_wp2_with (first | (go_at_call 169;go_fit HF;rintro e w1 ⟨rfl,hb1⟩;have hZ1 := (hb1.block _ hlt1).trans hZ;have hE1 := (hb1.block _ hlt0).trans hE;have g7 :=Aa hE1 (j :=7) rfl;have f7 :w1.frozen? ⟨w.heap.size,7,none⟩ =false :=by simp [World.frozen?,hE1]))
    have hEW : (w1.setCell ⟨w.heap.size,7,none⟩ (.slice (some ⟨w.heap.size+1+1,0,none⟩) l.length l.length)).heap[w.heap.size]? =some (.cells (Ae op ⟨xk,xn,xs⟩ s name n (.slice (some ⟨w.heap.size+1+1,0,none⟩) l.length l.length)) 34) :=Do hE1 7 _
    have hZW : (w1.setCell ⟨w.heap.size,7,none⟩ (.slice (some ⟨w.heap.size+1+1,0,none⟩) l.length l.length)).heap[w.heap.size+1]? =some (.cells (Ae 0 zero noW noW 0 (.slice none 0 0)) 34) := (Below.heap_setCell _ _ _ _ (show w.heap.size+1≠w.heap.size by omega)).trans hZ1
    have hbW :Below w.heap.size w (w1.setCell ⟨w.heap.size,7,none⟩ (.slice (some ⟨w.heap.size+1+1,0,none⟩) l.length l.length)) := (hbel.trans (hb1.mono hbel.size)).setCell (Nat.le_refl _) _
    have hwW :IsL Az (Fr (w.heap.size+2)) (w1.setCell ⟨w.heap.size,7,none⟩ (.slice (some ⟨w.heap.size+1+1,0,none⟩) l.length l.length)) (.slice (some ⟨w.heap.size+1+1,0,none⟩) l.length l.length) (rs.map Prod.fst) :=hw1.keep ((Bd hb1).trans ((Keeps.refl _ _).set (show ¬w.heap.size+2≤w.heap.size by omega) _ _))
    generalize w1.setCell ⟨w.heap.size,7,none⟩ (.slice (some ⟨w.heap.size+1+1,0,none⟩) l.length l.length) =W at hEW hZW hbW hwW⊢
    have S0 :=Lh hEW
    clear hE1 hZ1 g7 f7 hb1 hw1 hE hZ hlt0 hlt1 hbel
    have honeL :=Bk op ⟨xk,xn,xs⟩ s name n (some ⟨w.heap.size+1+1,0,none⟩) l.length l.length
    refine wp_region_held_drew (S := (fun w'=>K6 w' w.heap.size op xk xn xs s name n (.slice (some ⟨w.heap.size+1+1,0,none⟩) l.length l.length))) (by kernel_rfl) ?_ (fun hHeld=> ?_)
    ·exact S0
    refine wpAnyH_take (i :=0) (v := ?_) rfl (by kernel_rfl) (by kernel_rfl) (by kernel_rfl) (fun _ _ _ h=>h) (Or.inl ⟨by rfl, ?_⟩) (by assumption) ?_
    rotate_left
    ·intro W' hSw;obtain ⟨a0,a1,a2,a3,a4,a5,a6,a7⟩ :=hSw;go_simp;all_goals (with_reducible rfl)
    refine wpAnyH_take (i :=1) (v := ?_) rfl (by kernel_rfl) (by kernel_rfl) (by kernel_rfl) (fun _ _ _ h=>h) (Or.inl ⟨by rfl, ?_⟩) (by assumption) ?_
    rotate_left
    ·intro W' hSw;obtain ⟨a0,a1,a2,a3,a4,a5,a6,a7⟩ :=hSw;go_simp;all_goals (with_reducible rfl)
    refine wpAnyH_take (i :=2) (v := ?_) rfl (by kernel_rfl) (by kernel_rfl) (by kernel_rfl) (fun _ _ _ h=>h) (Or.inl ⟨by rfl, ?_⟩) (by assumption) ?_
    rotate_left
    ·intro W' hSw;obtain ⟨a0,a1,a2,a3,a4,a5,a6,a7⟩ :=hSw;go_simp;all_goals (with_reducible rfl)
    refine wpAnyH_ready (rs := [3]) (by kernel_rfl) (by simp) ?_
    refine (AllReadyH.cons rfl (fun K hK=> ?_) AllReadyH.nil)
    go_simp
    (go_at_call 170;refine (HT _).mono ?_;rintro e w2 ⟨rfl,rfl⟩)
    go_wp2_with fail
    refine hK.out _ _ ?_ (fun hHeld=> ?_)
    ·exact hHeld
    clear hK K
    refine wpAnyH_ready (rs := [4]) (by kernel_rfl) (by simp) ?_
    refine (AllReadyH.cons rfl (fun K hK=> ?_) AllReadyH.nil)
    refine D5 rfl 34 _ _ rfl (w.heap.size+1) (Ae op ⟨xk,xn,xs⟩ s name n (.slice (some ⟨w.heap.size+1+1,0,none⟩) l.length l.length)) ?_ ?_ 34 (Ae 0 zero noW noW 0 (.slice none 0 0)) ?_ ?_ ?_ ?_ ?_;exact rfl;exact rfl;exact hZW;exact As;exact rfl;exact honeL
    refine hK.out _ _ ?_ (fun hHeld=> ?_)
    ·exact hHeld.row (by omega) _
    clear hK K
    try simp only [Act.put]
    refine wpAnyH_take (i :=5) (v := ?_) rfl (by kernel_rfl) (by kernel_rfl) (by kernel_rfl) (fun _ _ _ h=>h) (Or.inl ⟨by rfl, ?_⟩) (by assumption) ?_
    rotate_left
    ·intro W' hSw;obtain ⟨a0,a1,a2,a3,a4,a5,a6,a7⟩ :=hSw;go_simp;all_goals (with_reducible rfl)
    refine wpAnyH_take (i :=6) (v := ?_) rfl (by kernel_rfl) (by kernel_rfl) (by kernel_rfl) (fun _ _ _ h=>h) (Or.inl ⟨by rfl, ?_⟩) (by assumption) ?_
    rotate_left
    ·intro W' hSw;obtain ⟨a0,a1,a2,a3,a4,a5,a6,a7⟩ :=hSw;go_simp;all_goals (with_reducible rfl)
    refine wpAnyH_done (by kernel_rfl) ?_ _
    go_wp2_with fail
    have hwF := (hwW.keep ((Keeps.refl _ W).drew.row (show ¬w.heap.size+2≤w.heap.size+1 by omega) (Ae op ⟨xk,xn,xs⟩ s name n (.slice (some ⟨w.heap.size+1+1,0,none⟩) l.length l.length)))).mono (F' :=Fr w.heap.size) (fun k _ hk=>Nat.le_trans (by omega) hk)
    exact bodyPost_ret (v := .tuple #[.agg (Ae op ⟨xk,xn,xs⟩ s name n (.slice (some ⟨w.heap.size+1+1,0,none⟩) l.length l.length)), .int .i64 ty, .int .i64 0]) (Dc Tryz.results136 _ _ (w.heap.size+1) 34 _ _ _ _ _ rfl rfl rfl (Au hZW) Tryz.underlying34 rfl As) rfl ⟨⟨_,rfl,(Ha HE.out).2 ⟨op,⟨xk,xn,xs⟩,s,name,n,_,_,_,rfl,In (Ajh.1 hwF)⟩⟩,Below.row hbW.drew (by omega) _⟩
theorem Ac0 {d :Nat} {op :Int} {x :V} {s name :Wd} {n :Int} {l :List E} (h :geB (d+1) (.mk op x s name n l) =true) : (∀a∈l,geB d a=true) ∧l.length≤2∧ (op=1∨op=2→l= []) :=by
 simp only [geB,Bool.and_eq_true,decide_eq_true_eq,List.all_eq_true] at h
 obtain ⟨⟨h1,_⟩,h3⟩ :=h
 refine ⟨h3, ?_,fun ho=> ?_⟩
 ·unfold Dd at h1
  split at h1
  ·omega
  ·split at h1
   ·omega
   ·split at h1<;>omega
 ·rw [Dd,if_pos ho] at h1
  exact List.eq_nil_of_length_eq_zero (by omega)
theorem Qo (S :List TabD) (hS :S.length≤1000) (hsc : ∀t∈S,t.cols.length≤1000000) : ∀d,Wv S d
 | 0=>by
  intro e v sv C w _ _ _ hg
  simp [geB] at hg
 | d+1=>by
  intro e v sv C w he hl hC hg
  obtain ⟨op,x,s,name,n,l⟩ :=e
  obtain ⟨sv8,rfl,hEs⟩ :=he.open
  obtain ⟨h3,h2,h0⟩ :=Ac0 hg
  have hL :=Ajh.2 hEs
  obtain ⟨ao,c,rfl⟩ :=hL.shape
  by_cases o1 :op=1
  ·subst o1
   obtain rfl :=h0 (.inl rfl)
   exact Aeq S sv x s name n ao c w (Oc he).2 (Ge hl)
  ·by_cases o2 :op=2
   ·subst o2
    obtain rfl :=h0 (.inr rfl)
    exact Aer S sv x s name n ao c C w (Oc he).2 hl hC hS hsc
   ·exact Agv S d (Qo S hS hsc d) sv op x s name n l ao c C w o1 o2 hL hl hC h3 h2
end Go.Proofs.YthehiijgnepcfaaGreat

namespace Go.Proofs.YthehiijgnepcfaaGreat
open Go.RowKit Go.Maps
def asR (S :List TabD) (want :Int) (e :E) :Except Int E :=
 match Bh S e with
 | .error m=> .error m
 | .ok r=>if E4 r.2 want then .ok r.1 else .error 5
theorem Kp {S :List TabD} {want :Int} {e :E} {m :Int} (h :asR S want e= .error m) :m=3∨m=5 :=by
 unfold asR at h
 cases hb :Bh S e with
 | error k=>
  rw [hb] at h
  obtain rfl :=Except.error.inj h
  exact Js S e _ hb
 | ok r=>
  rw [hb] at h
  simp only at h
  split at h
  ·cases h
  ·exact .inr (Except.error.inj h).symm
def R6 (R :Except Int E) (F :Nat→Prop) (w' :World) (v :Value) :Prop :=
 match R with
 | .error m=>v= .tuple #[.agg (Ae 0 zero noW noW 0 (.slice none 0 0)), .int .i64 m]
 | .ok e=> ∃ (op :Int) (x :V) (s name :Wd) (n :Int) (ao :Option Addr) (k c :Nat),v= .tuple #[.agg (Ae op x s name n (.slice ao k c)), .int .i64 0] ∧IsE F w' e (.agg (Ae op x s name n (.slice ao k c)))
theorem Wx (w :World) (o1 o2 :Obj) {w1 :World} (hb :Below ((w.alloc o1).alloc o2).heap.size ((w.alloc o1).alloc o2) w1) (o3 :Obj) : (w1.alloc o3).heap[w.heap.size+1]? =some o2 :=
 Ac ((hb.block _ (by simp)).trans (Aq w o1 o2)) _
set_option maxRecDepth 100000 in
set_option maxHeartbeats 4000000 in
theorem Mt (S :List TabD) (hS :S.length≤1000) (hsc : ∀t∈S,t.cols.length≤1000000) (d :Nat) (want :Int) (e :E) (v sv :Value) (C :Nat) (w :World) (he :IsE (fun k=>k<C) w e v) (hl :IsL Cq (fun k=>k<C) w sv S) (hC :C≤w.heap.size) (hg :geB d e=true) :
  Calls Tryz.prog 134 #[sv, .int .i64 want,v] w fun r w'=> (∃u,r= .returned u∧R6 (asR S want e) (Fr w.heap.size) w' u) ∧Below w.heap.size w w' :=by
 obtain ⟨so,sc,rfl⟩ :=hl.shape
 obtain ⟨op',⟨xk',xn',xs'⟩,s',name',n',ao',k',c',rfl⟩ : ∃ (op :Int) (x :V) (s name :Wd) (n :Int) (ao :Option Addr) (k c :Nat),v= .agg (Ae op x s name n (.slice ao k c)) :=by
  obtain ⟨op,x,s,name,n,l⟩ :=e
  obtain ⟨sv8,rfl,hEs⟩ :=he.open
  obtain ⟨ao,c,rfl⟩ := (Ajh.2 hEs).shape
  exact ⟨op,x,s,name,n,ao,_,c,rfl⟩
 have hb2 :=Bb w (.cells (Ae op' ⟨xk',xn',xs'⟩ s' name' n' (.slice ao' k' c')) 34) (.cells (Ae 0 zero noW noW 0 (.slice none 0 0)) 34)
 have HI :=Qo S hS hsc d e _ (.slice so S.length sc) C _ (IsE.keep (Af (hb2.mono hC)) _ _ he) (hl.keep (Af (hb2.mono hC))) (Nat.le_trans hC hb2.size) hg
 have hone0 :=Bk 0 zero noW noW 0 none 0 0
 clear he hl hg hS hsc
 rcases hbr :Bh S e with m | r
 ·have HA :Hid (asR S want e= .error m) :=by show _=_;unfold asR;rw [hbr]
  have hm :=Js S e m hbr
  have HI2 :=HI.mono (R' :=fun r w'=> ∃ (op :Int) (x :V) (s name :Wd) (n :Int) (ao :Option Addr) (k c :Nat) (z :Int),r= .returned (.tuple #[.agg (Ae op x s name n (.slice ao k c)), .int .i64 z, .int .i64 m]) ∧Below ((w.alloc (.cells (Ae op' ⟨xk',xn',xs'⟩ s' name' n' (.slice ao' k' c')) 34)).alloc (.cells (Ae 0 zero noW noW 0 (.slice none 0 0)) 34)).heap.size ((w.alloc (.cells (Ae op' ⟨xk',xn',xs'⟩ s' name' n' (.slice ao' k' c')) 34)).alloc (.cells (Ae 0 zero noW noW 0 (.slice none 0 0)) 34)) w') (by
   rintro e w' ⟨⟨v,rfl,hv⟩,hb'⟩
   obtain rfl := (Dx hbr).1 hv
   exact ⟨0,zero,noW,noW,0,none,0,0,0,rfl,hb'⟩)
  clear HI hbr
  rcases hm with rfl | rfl
  all_goals
   go_enter Tryz.func134,Tryz.ntmps134
   go_wp2_with (first | (go_at_call 136;refine HI2.mono ?_;rintro e w1 ⟨op2,x2,s2,name2,n2,ao2,k2,c2,z,rfl,hb1⟩;obtain ⟨x2k,x2n,x2s⟩ :=x2;have hZ :=fun o3=>Wx w _ _ hb1 o3;have hbT :=Ad hb2 hb1) | (refine wpList_store_row rfl 34 _ _ rfl (w.heap.size+1) (Ae 0 zero noW noW 0 (.slice none 0 0)) ?_ ?_ 34 (Ae 0 zero noW noW 0 (.slice none 0 0)) ?_ ?_ ?_ ?_ ?_;exact rfl;exact rfl;exact hZ _;exact As;exact rfl;exact hone0))
   refine bodyPost_ret (A2 Tryz.results134 _ _ (w.heap.size+1) 34 _ _ _ _ rfl rfl (Au (hZ _)) Tryz.underlying34 rfl As) rfl ⟨⟨_,rfl, ?_⟩,Below.row (hbT.alloc hbT.size _) (by omega) _⟩
   rw [HA.out]
   rfl
 ·obtain ⟨e2,ty⟩ :=r
  have HA :Hid (asR S want e=if E4 ty want then .ok e2 else .error 5) :=by show _=_;unfold asR;rw [hbr]
  have HI2 :=HI.mono (R' :=fun r w'=> ∃ (op :Int) (x :V) (s name :Wd) (n :Int) (ao :Option Addr) (k c :Nat),r= .returned (.tuple #[.agg (Ae op x s name n (.slice ao k c)), .int .i64 ty, .int .i64 0]) ∧IsE (Fr (w.heap.size+2)) w' e2 (.agg (Ae op x s name n (.slice ao k c))) ∧Below ((w.alloc (.cells (Ae op' ⟨xk',xn',xs'⟩ s' name' n' (.slice ao' k' c')) 34)).alloc (.cells (Ae 0 zero noW noW 0 (.slice none 0 0)) 34)).heap.size ((w.alloc (.cells (Ae op' ⟨xk',xn',xs'⟩ s' name' n' (.slice ao' k' c')) 34)).alloc (.cells (Ae 0 zero noW noW 0 (.slice none 0 0)) 34)) w') (by
   rintro e w' ⟨⟨v,rfl,hv⟩,hb'⟩
   obtain ⟨op,x,s,name,n,ao,k,c,rfl,hE'⟩ := (Ha hbr).1 hv
   exact ⟨op,x,s,name,n,ao,k,c,rfl,IsE.mono (fun k _ hk=>Nat.le_trans (by simp) hk) _ _ hE',hb'⟩)
  have HC :=fun W=>Ob ty want W
  clear HI hbr
  generalize E4 ty want=cb at HA HC
  cases cb
  ·go_enter Tryz.func134,Tryz.ntmps134
   go_wp2_with (first | (go_at_call 136;refine HI2.mono ?_;rintro e w1 ⟨op2,x2,s2,name2,n2,ao2,k2,c2,rfl,hE,hb1⟩;obtain ⟨x2k,x2n,x2s⟩ :=x2;have hZ :=fun o3=>Wx w _ _ hb1 o3;have hbT :=Ad hb2 hb1) | (go_at_call 167;refine (HC _).mono ?_;rintro e w2 ⟨rfl,rfl⟩) | (refine wpList_store_row rfl 34 _ _ rfl (w.heap.size+1) (Ae 0 zero noW noW 0 (.slice none 0 0)) ?_ ?_ 34 (Ae 0 zero noW noW 0 (.slice none 0 0)) ?_ ?_ ?_ ?_ ?_;exact rfl;exact rfl;exact hZ _;exact As;exact rfl;exact hone0))
   refine bodyPost_ret (A2 Tryz.results134 _ _ (w.heap.size+1) 34 _ _ _ _ rfl rfl (Au (hZ _)) Tryz.underlying34 rfl As) rfl ⟨⟨_,rfl, ?_⟩,Below.row (hbT.alloc hbT.size _) (by omega) _⟩
   rw [HA.out]
   rfl
  ·go_enter Tryz.func134,Tryz.ntmps134
   go_wp2_with (first | (go_at_call 136;refine HI2.mono ?_;rintro e w1 ⟨op2,x2,s2,name2,n2,ao2,k2,c2,rfl,hE,hb1⟩;obtain ⟨x2k,x2n,x2s⟩ :=x2;have hZ :=fun o3=>Wx w _ _ hb1 o3;have hbT :=Ad hb2 hb1;have honeL :=Bk op2 ⟨x2k,x2n,x2s⟩ s2 name2 n2 ao2 k2 c2) | (go_at_call 167;refine (HC _).mono ?_;rintro e w2 ⟨rfl,rfl⟩) | (refine wpList_store_row rfl 34 _ _ rfl (w.heap.size+1) (Ae op2 ⟨x2k,x2n,x2s⟩ s2 name2 n2 (.slice ao2 k2 c2)) ?_ ?_ 34 (Ae 0 zero noW noW 0 (.slice none 0 0)) ?_ ?_ ?_ ?_ ?_;exact rfl;exact rfl;exact hZ _;exact As;exact rfl;exact honeL))
   refine bodyPost_ret (A2 Tryz.results134 _ _ (w.heap.size+1) 34 _ _ _ _ rfl rfl (Au (hZ _)) Tryz.underlying34 rfl As) rfl ⟨⟨_,rfl, ?_⟩,Below.row (hbT.alloc hbT.size _) (by omega) _⟩
   rw [HA.out]
   refine ⟨op2,⟨x2k,x2n,x2s⟩,s2,name2,n2,ao2,k2,c2,rfl, ?_⟩
   exact IsE.mono (fun k _ hk=>Nat.le_trans (by omega) hk) _ _ (IsE.keep (((Keeps.refl _ _).alloc _).row (show ¬w.heap.size+2≤w.heap.size+1 by omega) _) _ _ hE)
end Go.Proofs.YthehiijgnepcfaaGreat


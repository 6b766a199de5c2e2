/-
  2 texts of this proof in one, in build order: YTypes, PPut.
-/
import Derived.Test.YthehiijgnepcfaaGreatJ07
import Derived.Test.YthehiijgnepcfaaGreatJ10
import Derived.Test.YthehiijgnepcfaaGreatJ20
import Derived.Test.YthehiijgnepcfaaGreatJ26
import Derived.Test.YthehiijgnepcfaaGreatJ27
set_option linter.unusedSimpArgs false
set_option linter.unusedVariables false
namespace Go.Proofs.YthehiijgnepcfaaGreat
mutual
theorem Pz (S :List TabD) : ∀ (e :E) (r :E×Int),Bh S e= .ok r→r.1.nodes=e.nodes∧ (Ci e→Ci r.1)
 | .mk op x s name n l,r,h=>by
  rw [Bh] at h
  split at h
  ·obtain rfl :=Except.ok.inj h
   exact ⟨rfl,id⟩
  ·split at h
   ·split at h
    ·obtain rfl :=Except.ok.inj h
     exact ⟨rfl,fun hf=>by rw [Ci] at hf⊢;exact hf⟩
    ·cases h
   ·cases hl :A1 S l with
    | error j=>rw [hl] at h;cases h
    | ok rs=>
     rw [hl] at h
     simp only at h
     obtain ⟨h1,h2⟩ :=On S l rs hl
     split at h
     ·obtain rfl :=Except.ok.inj h
      exact ⟨by simp only [E.nodes,h1],fun hf=>by rw [Ci] at hf⊢;exact ⟨hf.1,h2 hf.2⟩⟩
     ·cases h
theorem On (S :List TabD) : ∀ (l :List E) (rs :List (E×Int)),A1 S l= .ok rs→Ce (rs.map Prod.fst) =Ce l∧ (Iy l→Iy (rs.map Prod.fst))
 | [],rs,h=>by
  rw [A1] at h
  obtain rfl :=Except.ok.inj h
  exact ⟨rfl,id⟩
 | e ::l,rs,h=>by
  rw [A1] at h
  cases he :Bh S e with
  | error j=>rw [he] at h;cases h
  | ok r=>
   rw [he] at h
   simp only at h
   cases hl :A1 S l with
   | error j=>rw [hl] at h;cases h
   | ok rs'=>
    rw [hl] at h
    obtain rfl :=Except.ok.inj h
    obtain ⟨h1,h2⟩ :=Pz S e r he
    obtain ⟨h3,h4⟩ :=On S l rs' hl
    exact ⟨by simp only [List.map_cons,Ce,h1,h3],fun hf=>by rw [Iy] at hf;rw [List.map_cons,Iy];exact ⟨h2 hf.1,h4 hf.2⟩⟩
end
theorem Aa5 {t :TabD} {row :List V} (h :Ee t row=true) :Vg t.cols row :=by
 simp only [Ee,Bool.and_eq_true,decide_eq_true_eq,Bool.not_eq_true'] at h
 refine ⟨h.1,fun i c v hc hv=> ?_⟩
 have hi := (List.getElem?_eq_some_iff.1 hc).1
 have :=G6 h.2 i (Nat.zero_le _) (by omega)
 unfold Hn at this
 rw [hc,hv] at this
 simp only [Bool.not_eq_false',Aab,Bool.and_eq_true,Bool.or_eq_true,decide_eq_true_eq,Bool.not_eq_true'] at this
 exact ⟨this.1,this.2.elim .inr (fun h=> .inl h.2)⟩
theorem Adg {t :TabD} {row :List V} (hr :Vg t.cols row) {ty :Int} {d :Nat} {e e' :E} (h :asR [t] ty e= .ok e') (hg :geB d e=true) :J1 ty (ev row e') ∧e'.nodes=e.nodes∧ (Ci e→Ci e') :=by
 unfold asR at h
 cases hb :Bh [t] e with
 | error m=>rw [hb] at h;cases h
 | ok r=>
  rw [hb] at h
  simp only at h
  split at h
  ·rename_i hcb
   obtain rfl :=Except.ok.inj h
   have h1 :=Aa0 (S := [t]) (by simpa [Fs] using hr) hb hg
   obtain ⟨h2,h3⟩ :=Pz [t] e r hb
   refine ⟨⟨?_,h1.2⟩,h2,h3⟩
   simp only [E4,Bool.or_eq_true,decide_eq_true_eq] at hcb
   rcases h1.1 with h | h
   ·exact .inl h
   ·rcases hcb with hc | hc
    ·exact .inr (h.trans hc)
    ·exact .inl (h.trans hc)
  ·cases h
theorem Adh {t :TabD} : ∀ {seen :List Wd} {l rs :List (Wd×E)},Bs t seen l= .ok rs→ ∀q∈rs,∃p∈l,q.1=p.1∧0≤Cy t.cols q.1∧asR [t] (Qq t.cols q.1) p.2= .ok q.2
 | seen,[],rs,h,q,hq=>by
  simp only [Bs,Except.ok.injEq] at h
  subst h
  cases hq
 | seen,x ::l,rs,h,q,hq=>by
  simp only [Bs] at h
  cases hx :Jd t seen x with
  | error j=>rw [hx] at h;cases h
  | ok r=>
   rw [hx] at h
   simp only at h
   cases hl :Bs t (seen++ [x.1]) l with
   | error j=>rw [hl] at h;cases h
   | ok rs'=>
    rw [hl] at h
    simp only [Except.ok.injEq] at h
    subst h
    rcases List.mem_cons.1 hq with rfl | hq
    ·refine ⟨x,List.mem_cons_self, ?_⟩
     unfold Jd at hx
     split at hx
     ·cases hx
     ·split at hx
      ·cases hx
      ·cases ha :asR [t] (Qq t.cols x.1) x.2 with
       | error k=>rw [ha] at hx;cases hx
       | ok e=>
        rw [ha] at hx
        obtain rfl :=Except.ok.inj hx
        exact ⟨rfl,by show 0≤Cy t.cols x.1;omega,ha⟩
    ·obtain ⟨p,hp,h1⟩ :=Adh hl q hq
     exact ⟨p,List.mem_cons_of_mem _ hp,h1⟩
theorem Ah6 {ct :CatD} {st st2 :Stm} (h :C4 ct st= .ok st2) (hk :st.kind=6) :C8 ct=true∧D4 st=true∧ ∃t,Cr ct.tables st.table=some t∧Bs t [] st.sets= .ok st2.sets∧whR [t] st.wher= .ok st2.wher :=by
 unfold C4 at h
 split at h
 ·cases h
 ·rename_i hn
  have h1 :C8 ct=true :=by cases hc :C8 ct with | true=>rfl | false=>exact absurd (.inl hc) hn
  have h2 :D4 st=true :=by cases hc :D4 st with | true=>rfl | false=>exact absurd (.inr hc) hn
  refine ⟨h1,h2, ?_⟩
  unfold Du at h
  rw [if_neg (by omega),if_neg (by omega),if_neg (by omega),if_pos (by omega)] at h
  unfold Dh at h
  cases ht :Cr ct.tables st.table with
  | none=>rw [ht] at h;cases h
  | some t=>
   rw [ht] at h
   simp only at h
   cases hr :Ix t.cols st.rows with
   | error k=>rw [hr] at h;cases h
   | ok r=>
    rw [hr] at h
    simp only at h
    cases hs :Bs t [] st.sets with
    | error k=>rw [hs] at h;cases h
    | ok q=>
     rw [hs] at h
     simp only at h
     cases hw :whR [t] st.wher with
     | error k=>rw [hw] at h;cases h
     | ok e=>
      rw [hw] at h
      obtain rfl :=Except.ok.inj h
      exact ⟨t,rfl,hs,hw⟩
theorem Afe {t :TabD} {row :List V} (hr :Vg t.cols row) {e e' :E} (h :whR [t] e= .ok e') (hg :e.opn≠0→geB 40 e=true) : ((ev row e').k=0∨ (ev row e').k=3) ∧e'.nodes=e.nodes∧ (Ci e→Ci e') :=by
 unfold whR at h
 split at h
 ·rename_i h0
  obtain rfl :=Except.ok.inj h
  refine ⟨.inl ?_,rfl,id⟩
  obtain ⟨op,x,s,name,n,l⟩ :=e
  simp only [E.opn] at h0
  subst h0
  rw [Id]
  have :B6 0 l= [] :=by
   unfold B6
   split
   ·rename_i h
    exact List.eq_nil_of_length_eq_zero h
   ·rfl
  rw [this]
  rfl
 ·rename_i h0
  have :=Adg hr h (hg h0)
  exact ⟨this.1.1,this.2⟩
theorem Ai5 {ct :CatD} (h :C8 ct=true) {s :Wd} {t :TabD} (ht :Cr ct.tables s=some t) : ∀c∈t.cols,c.ty=1∨c.ty=2 :=by
 simp only [C8,Bool.and_eq_true,Jk,Bool.not_eq_true',decide_eq_true_eq] at h
 obtain ⟨⟨_,h2,_⟩,_⟩ :=h
 rw [Gw] at h2
 have := (List.any_eq_false.1 h2) t (Uk ht)
 simp only [Bool.not_eq_true',Bool.not_eq_false,Hy,Bool.and_eq_true,decide_eq_true_eq,Mh] at this
 intro c hc
 obtain ⟨i,hi,rfl⟩ :=List.getElem_of_mem hc
 have h3 :=G6 (by simpa using this.2) i (Nat.zero_le _) (by omega)
 simp only [Kt,List.getElem?_eq_getElem hi] at h3
 simp only [Bool.or_eq_false_iff,Bool.not_eq_false',J8,Bool.and_eq_true,Bool.or_eq_true,decide_eq_true_eq] at h3
 exact h3.1.2
end Go.Proofs.YthehiijgnepcfaaGreat

namespace Go.Proofs.YthehiijgnepcfaaGreat
open Go.RowKit
set_option maxRecDepth 100000 in
set_option maxHeartbeats 4000000 in
theorem Sd (I :List IdxD) (t :TabD) (r :List V) (T :List Pg) (pv tv iv sv rv :Value) (C :Nat) (w :World) (hp :A5 w pv T) (hg :Ap T) (hT :T.length≤1000000) (htv :E1 tv)
  (hi :IsL Fg (fun k=>k<C) w iv I) (hl :IsL Cc (fun k=>k<C) w sv t.cols) (hC :C≤w.heap.size) (hr :Bp w rv r) (hrl :r.length=t.cols.length) (h0 :0<r.length) (hr4 :r.length≤1000000) (hs : ∀v∈r,v.s.size≤maxLen) (hin : ∀x∈I,x.name.size≤1000000) (htn :t.name.size≤1000000) (hn :I.length≤1000000) :
  Calls Tryz.prog 16 #[pv, .agg #[tv,iv], .agg #[.string t.name,sv],rv] w fun e w'=>Agh w w' e (putRow (flat T) I t r) (T.length+1+I.length) :=by
 obtain ⟨to',tn,tc,rfl⟩ :=htv
 obtain ⟨psv,rfl,hpp⟩ :=hp
 obtain ⟨po,pc,rfl⟩ :=Dk hpp
 have hIK :=fun W (h :Below w.heap.size w W) =>U4 I t r (.slice to' tn tc) iv sv rv C W (Al _ _ _) (hi.keep (Af (h.mono hC))) (hl.keep (Af (h.mono hC))) (Nat.le_trans hC h.size) (hr.below h) hrl h0 hs hin hn
 obtain ⟨io,ic,rfl⟩ :=hi.shape
 obtain ⟨so,sc,rfl⟩ :=hl.shape
 rcases hr with ⟨_,rfl⟩ | ⟨rb,ro,rcap,rfl,hrb,hR⟩
 ·simp at h0
 have st :=Aaf (.slice to' tn tc) (.slice io I.length ic) (.string t.name) (.slice so t.cols.length sc) hpp hg
 generalize hW : (((w.alloc (.cells #[.slice po T.length pc] 48)).alloc (.cells #[.slice to' tn tc, .slice io I.length ic] 25)).alloc (.cells #[.string t.name, .slice so t.cols.length sc] 43)).alloc (.cells #[.slice none 0 0] 48) =W4 at st
 have HW :Hid _ :=hW
 clear hW hi hl
 have e0 :=Aa st.tab (j :=0) rfl
 have e1 :=Aa st.tab (j :=1) rfl
 have HF :=Ku t.name so t.cols.length sc (some ⟨rb,ro,none⟩) r.length rcap W4
 rw [show (decide (0<r.length) &&decide (r.length=t.cols.length)) =true by rw [decide_eq_true h0,decide_eq_true hrl];rfl] at HF
 obtain ⟨u,hu⟩ : ∃u,r[0]? =some u := ⟨_,List.getElem?_eq_getElem h0⟩
 have hhd :r.headD zero=u :=by rw [List.headD_eq_head?_getD,List.head?_eq_getElem?,hu];rfl
 have HR :=fun W=>Mk t.name u W htn (hs u (List.mem_of_getElem? hu))
 rw [show Gs t.name u=rk t r by rw [rk,hhd]] at HR
 obtain ⟨f0,f1,f2⟩ :=hR 0 u hu
 simp only [Nat.zero_mul,Nat.add_zero] at f0 f1 f2
 have HS :Hid _ :=hs
 have HIK :Hid _ :=hIK
 have p2 : (0 :Int) < (r.length :Int) :=by omega
 have hrl2 :Hid _ :=hrl
 clear hs hIK hu hhd hrl
 obtain ⟨uk,un,us⟩ :=u
 simp only [V.val] at HR
 simp only at f0 f1 f2
 go_enter Tryz.func16,Tryz.ntmps16
 go_upto_region 1 with fail
 rw [HW.out]
 go_wp2_with (go_at_call 28;go_fit HF;rintro e w1 ⟨rfl,hb1⟩)
 have st1 :=st.below hb1
 have hbw1 :=st1.bel
 have KS :Hid _ :=fun W (h :Below w1.heap.size w1 W) =>Ab9 (W :=W) (show W.cell? ⟨w.heap.size+2,0,none⟩ =some (.string t.name) from Aa (st1.below h).tab (j :=0) rfl) (((hbw1.trans (h.mono hbw1.size)).cell (p := ⟨rb,ro,none⟩) hrb).trans f0) (((hbw1.trans (h.mono hbw1.size)).cell (p := ⟨rb,ro+1,none⟩) hrb).trans f1) (((hbw1.trans (h.mono hbw1.size)).cell (p := ⟨rb,ro+2,none⟩) hrb).trans f2)
 have KT :Hid _ :=fun W (h :Below w1.heap.size w1 W) (x :Value) =>U5 (W :=W) (g :=w.heap.size) (x :=x) (KS.out W h) (show w.heap.size+2≠w.heap.size by omega) (show rb≠w.heap.size by omega)
 have q0 :=Aa st1.blk (j :=0) rfl
 have HK :=fun W (h :Below w1.heap.size w1 W) =>J9 r (.slice (some ⟨rb,ro,none⟩) r.length rcap) W (.inr ⟨rb,ro,rcap,rfl,Nat.lt_of_lt_of_le hrb (hbw1.trans (h.mono hbw1.size)).size,hR.below (hbw1.trans (h.mono hbw1.size)) hrb⟩) (by omega) HS.out
 have HP :=fun W (h :Below w1.heap.size w1 W) =>Zb T (.agg #[.slice po T.length pc]) (rk t r) (str (Ax r).1) W ⟨_,rfl,st1.pgs.below h⟩ hg (by omega)
 have EF :Hid (putRow (flat T) I t r=Ho (Ec (flat T) (rk t r) (str (Ax r).1)) (iks I t r)) :=rfl
 go_cut [4] from 16 (fun s4 wx=>s4= .pointer (some ⟨w.heap.size,0,none⟩) ∧ ∃ao k c T1,TrSt w #[.slice to' tn tc, .slice io I.length ic] #[.string t.name, .slice so t.cols.length sc] (Ec (flat T) (rk t r) (str (Ax r).1)) (T.length+1) ao k c T1 wx)
 case first=>
  refine wp_region_held_drew (S := (fun W=>W.cell? ⟨w.heap.size+2,0,none⟩ =some (.string t.name) ∧W.cell? ⟨rb,ro,none⟩ =some (.int .i64 uk) ∧W.cell? ⟨rb,ro+1,none⟩ =some (.int .i64 un) ∧W.cell? ⟨rb,ro+2,none⟩ =some (.string us))) (by kernel_rfl) ?_ (fun hHeld=> ?_)
  ·exact KS.out _ (Below.refl _ _).drew
  refine wpAnyH_take (i :=1) (v := ?_) rfl (by kernel_rfl) (by kernel_rfl) (by kernel_rfl) (fun _ _ _ h=>h) (Or.inl ⟨by rfl, ?_⟩) (by assumption) ?_
  rotate_left
  ·intro w hSw;(try dsimp only at hSw);go_simp;all_goals (with_reducible rfl)
  refine wpAnyH_take (i :=2) (v := ?_) rfl (by kernel_rfl) (by kernel_rfl) (by kernel_rfl) (fun _ _ _ h=>h) (Or.inl ⟨by rfl, ?_⟩) (by assumption) ?_
  rotate_left
  ·intro w hSw;(try dsimp only at hSw);go_simp;all_goals (with_reducible rfl)
  refine wpAnyH_take (i :=3) (v := ?_) rfl (by kernel_rfl) (by kernel_rfl) (by kernel_rfl) (fun _ _ _ h=>h) (Or.inl ⟨by rfl, ?_⟩) (by assumption) ?_
  rotate_left
  ·intro w hSw;(try dsimp only at hSw);go_simp;all_goals (with_reducible rfl)
  refine wpAnyH_take (i :=4) (v := ?_) rfl (by kernel_rfl) (by kernel_rfl) (by kernel_rfl) (fun _ _ _ h=>h) (Or.inl ⟨by rfl, ?_⟩) (by assumption) ?_
  rotate_left
  ·intro w hSw;(try dsimp only at hSw);go_simp;all_goals (with_reducible rfl)
  refine wpAnyH_take (i :=5) (v := ?_) rfl (by kernel_rfl) (by kernel_rfl) (by kernel_rfl) (fun _ _ _ h=>h) (Or.inl ⟨by rfl, ?_⟩) (by assumption) ?_
  rotate_left
  ·intro w hSw;(try dsimp only at hSw);go_simp;all_goals (with_reducible rfl)
  refine wpAnyH_take (i :=7) (v := ?_) rfl (by kernel_rfl) (by kernel_rfl) (by kernel_rfl) (fun _ _ _ h=>h) (Or.inl ⟨by rfl, ?_⟩) (by assumption) ?_
  rotate_left
  ·intro w hSw;(try dsimp only at hSw);go_simp;all_goals (with_reducible rfl)
  refine wpAnyH_ready (rs := [0,6]) (by kernel_rfl) (by simp) ?_
  refine (AllReadyH.cons rfl (fun K hK=> ?_) (AllReadyH.cons rfl (fun K hK=> ?_) AllReadyH.nil))
  ·go_simp
   go_wp2_with fail
   refine hK.out _ _ ?_ (fun hHeld=> ?_)
   ·exact KS.out _ (Below.refl _ _).drew
   clear hK K
   refine wpAnyH_ready (rs := [6]) (by kernel_rfl) (by simp) ?_
   refine (AllReadyH.cons rfl (fun K hK=> ?_) AllReadyH.nil)
   go_simp
   (go_at_call 21;go_fit (HR _);rintro e w2 ⟨rfl,hb2⟩;have hB2 :Below w1.heap.size w1 w2 :=Ad (Below.refl _ _).drew hb2;have q2 :=Aa (st1.below hB2).blk (j :=0) rfl)
   go_wp2_with fail
   refine hK.out _ _ ?_ (fun hHeld=> ?_)
   ·exact KS.out _ hB2
   clear hK K
   refine wpAnyH_ready (rs := [8]) (by kernel_rfl) (by simp) ?_
   refine (AllReadyH.cons rfl (fun K hK=> ?_) AllReadyH.nil)
   go_simp
   (go_at_call 52;go_fit (HK _ hB2);rintro e w3 ⟨rfl,hb3⟩;have hB3 :Below w1.heap.size w1 w3 :=Ad hB2 hb3;have q3 :=Aa (st1.below hB3).blk (j :=0) rfl)
   go_wp2_with fail
   refine hK.out _ _ ?_ (fun hHeld=> ?_)
   ·exact KS.out _ hB3
   clear hK K
   refine wpAnyH_ready (rs := [9]) (by kernel_rfl) (by simp) ?_
   refine (AllReadyH.cons rfl (fun K hK=> ?_) AllReadyH.nil)
   go_simp
   (go_at_call 51;go_fit (HP _ hB3);rintro e w4 ⟨pv4,T4,rfl,hp4,hb4,hg4,hf4,hl4⟩;obtain ⟨sv4,rfl,hp4⟩ :=hp4;obtain ⟨ao4,c4,rfl⟩ :=Dk hp4;have hB4 :Below w1.heap.size w1 w4 :=Ad hB3 hb4;have q4 :=Aa (st1.below hB4).blk (j :=0) rfl;have z4 :w4.frozen? ⟨w.heap.size,0,none⟩ =false := (by simp [World.frozen?,(st1.below hB4).blk]))
   go_wp2_with fail
   refine hK.out _ _ ?_ (fun hHeld=> ?_)
   ·exact KS.out _ hB4
   clear hK K
   refine wpAnyH_ready (rs := [10]) (by kernel_rfl) (by simp) ?_
   refine (AllReadyH.cons rfl (fun K hK=> ?_) AllReadyH.nil)
   go_simp
   go_wp2_with fail
   refine hK.out _ _ ?_ (fun hHeld=> ?_)
   ·exact KT.out _ hB4 _
   clear hK K
   refine wpAnyH_done (by kernel_rfl) ?_ _
   go_wp2_with fail
   go_meet
   case rel=>exact ⟨rfl,ao4,T4.length,c4,T4,st1.store hB4 hp4 hg4 hf4 hl4⟩
  ·go_simp
   (go_at_call 21;go_fit (HR _);rintro e w2 ⟨rfl,hb2⟩;have hB2 :Below w1.heap.size w1 w2 :=Ad (Below.refl _ _).drew hb2;have q2 :=Aa (st1.below hB2).blk (j :=0) rfl)
   go_wp2_with fail
   refine hK.out _ _ ?_ (fun hHeld=> ?_)
   ·exact KS.out _ hB2
   clear hK K
   refine wpAnyH_ready (rs := [0,8]) (by kernel_rfl) (by simp) ?_
   refine (AllReadyH.cons rfl (fun K hK=> ?_) (AllReadyH.cons rfl (fun K hK=> ?_) AllReadyH.nil))
   ·go_simp
    go_wp2_with fail
    refine hK.out _ _ ?_ (fun hHeld=> ?_)
    ·exact KS.out _ hB2
    clear hK K
    refine wpAnyH_ready (rs := [8]) (by kernel_rfl) (by simp) ?_
    refine (AllReadyH.cons rfl (fun K hK=> ?_) AllReadyH.nil)
    go_simp
    (go_at_call 52;go_fit (HK _ hB2);rintro e w3 ⟨rfl,hb3⟩;have hB3 :Below w1.heap.size w1 w3 :=Ad hB2 hb3;have q3 :=Aa (st1.below hB3).blk (j :=0) rfl)
    go_wp2_with fail
    refine hK.out _ _ ?_ (fun hHeld=> ?_)
    ·exact KS.out _ hB3
    clear hK K
    refine wpAnyH_ready (rs := [9]) (by kernel_rfl) (by simp) ?_
    refine (AllReadyH.cons rfl (fun K hK=> ?_) AllReadyH.nil)
    go_simp
    (go_at_call 51;go_fit (HP _ hB3);rintro e w4 ⟨pv4,T4,rfl,hp4,hb4,hg4,hf4,hl4⟩;obtain ⟨sv4,rfl,hp4⟩ :=hp4;obtain ⟨ao4,c4,rfl⟩ :=Dk hp4;have hB4 :Below w1.heap.size w1 w4 :=Ad hB3 hb4;have q4 :=Aa (st1.below hB4).blk (j :=0) rfl;have z4 :w4.frozen? ⟨w.heap.size,0,none⟩ =false := (by simp [World.frozen?,(st1.below hB4).blk]))
    go_wp2_with fail
    refine hK.out _ _ ?_ (fun hHeld=> ?_)
    ·exact KS.out _ hB4
    clear hK K
    refine wpAnyH_ready (rs := [10]) (by kernel_rfl) (by simp) ?_
    refine (AllReadyH.cons rfl (fun K hK=> ?_) AllReadyH.nil)
    go_simp
    go_wp2_with fail
    refine hK.out _ _ ?_ (fun hHeld=> ?_)
    ·exact KT.out _ hB4 _
    clear hK K
    refine wpAnyH_done (by kernel_rfl) ?_ _
    go_wp2_with fail
    go_meet
    case rel=>exact ⟨rfl,ao4,T4.length,c4,T4,st1.store hB4 hp4 hg4 hf4 hl4⟩
   ·go_simp
    (go_at_call 52;go_fit (HK _ hB2);rintro e w3 ⟨rfl,hb3⟩;have hB3 :Below w1.heap.size w1 w3 :=Ad hB2 hb3;have q3 :=Aa (st1.below hB3).blk (j :=0) rfl)
    go_wp2_with fail
    refine hK.out _ _ ?_ (fun hHeld=> ?_)
    ·exact KS.out _ hB3
    clear hK K
    refine wpAnyH_ready (rs := [0]) (by kernel_rfl) (by simp) ?_
    refine (AllReadyH.cons rfl (fun K hK=> ?_) AllReadyH.nil)
    go_simp
    go_wp2_with fail
    refine hK.out _ _ ?_ (fun hHeld=> ?_)
    ·exact KS.out _ hB3
    clear hK K
    refine wpAnyH_ready (rs := [9]) (by kernel_rfl) (by simp) ?_
    refine (AllReadyH.cons rfl (fun K hK=> ?_) AllReadyH.nil)
    go_simp
    (go_at_call 51;go_fit (HP _ hB3);rintro e w4 ⟨pv4,T4,rfl,hp4,hb4,hg4,hf4,hl4⟩;obtain ⟨sv4,rfl,hp4⟩ :=hp4;obtain ⟨ao4,c4,rfl⟩ :=Dk hp4;have hB4 :Below w1.heap.size w1 w4 :=Ad hB3 hb4;have q4 :=Aa (st1.below hB4).blk (j :=0) rfl;have z4 :w4.frozen? ⟨w.heap.size,0,none⟩ =false := (by simp [World.frozen?,(st1.below hB4).blk]))
    go_wp2_with fail
    refine hK.out _ _ ?_ (fun hHeld=> ?_)
    ·exact KS.out _ hB4
    clear hK K
    refine wpAnyH_ready (rs := [10]) (by kernel_rfl) (by simp) ?_
    refine (AllReadyH.cons rfl (fun K hK=> ?_) AllReadyH.nil)
    go_simp
    go_wp2_with fail
    refine hK.out _ _ ?_ (fun hHeld=> ?_)
    ·exact KT.out _ hB4 _
    clear hK K
    refine wpAnyH_done (by kernel_rfl) ?_ _
    go_wp2_with fail
    go_meet
    case rel=>exact ⟨rfl,ao4,T4.length,c4,T4,st1.store hB4 hp4 hg4 hf4 hl4⟩
 case rest=>
  obtain ⟨rfl,ao5,k5,c5,T5,st5⟩ :=hcut
  have x0 :=Aa st5.cat (j :=0) rfl
  have x1 :=Aa st5.cat (j :=1) rfl
  have x2 :=Aa st5.tab (j :=0) rfl
  have x3 :=Aa st5.tab (j :=1) rfl
  have HX :=HIK.out wc st5.bel
  have HKL :Hid ((iks I t r).length≤I.length) :=Rc I t r
  generalize iks I t r=K at HX EF HKL
  have hKb :K.length≤1000000 :=Nat.le_trans HKL.out hn
  clear HK HP HR HF KS KT q0
  go_wp2_with (go_at_call 53;go_fit HX;rintro e w6 ⟨kv,rfl,hkv,hb6⟩;obtain ⟨ko,kc,rfl⟩ :=Dz.shape hkv)
  go_loopw [31] (fun i wr=> ∃k :Nat,k≤K.length∧i= .int .i64 k∧Aj wr (.slice ko K.length kc) K∧ ∃ao2 k2 c2 T2,TrSt w #[.slice to' tn tc, .slice io I.length ic] #[.string t.name, .slice so t.cols.length sc] (Ho (Ec (flat T) (rk t r) (str (Ax r).1)) (K.take k)) (T.length+1+k) ao2 k2 c2 T2 wr) (fun i _=>K.length - (intOf i).toNat)
  case atStart=>exact ⟨0,Nat.zero_le _,rfl,hkv,ao5,k5,c5,T5,st5.below hb6⟩
  case round=>
   obtain ⟨k,hk,rfl,hks,ao2,k2,c2,T2,st2⟩ :=hrel
   by_cases hlt :k<K.length
   ·obtain ⟨key,hx⟩ : ∃x,K[k]? =some x := ⟨_,List.getElem?_eq_getElem hlt⟩
    obtain ⟨b,off,cap,hsl,hb,_,_,hcell⟩ :=hks.at (by omega)
    cases hsl
    have d0 :=hcell k key hx
    have y0 :=Aa st2.blk (j :=0) rfl
    have HT2 :=Zb T2 (.agg #[.slice ao2 k2 c2]) key noW _ ⟨_,rfl,st2.pgs⟩ st2.good (by have :=st2.len;have :=HKL.out;omega)
    have E2 :Hid (Ho (Ec (flat T) (rk t r) (str (Ax r).1)) (K.take (k+1)) =Ec (Ho (Ec (flat T) (rk t r) (str (Ax r).1)) (K.take k)) key noW) :=Aag hx
    have v0 : (0 :Int) ≤ (k :Int) :=by omega
    have v1 : (k :Int) < (K.length :Int) :=by omega
    clear hx hcell
    go_wp2_with (go_at_call 51;go_fit HT2;rintro e w7 ⟨pv7,T7,rfl,hp7,hb7,hg7,hf7,hl7⟩;obtain ⟨sv7,rfl,hp7⟩ :=hp7;obtain ⟨ao7,c7,rfl⟩ :=Dk hp7;have z7 :w7.frozen? ⟨w.heap.size,0,none⟩ =false := (by simp [World.frozen?,(st2.below hb7).blk]);have y7 :=Aa (st2.below hb7).blk (j :=0) rfl)
    go_roundw
    case rel=>exact ⟨k+1,by omega,by go_num,N4 (hks.below hb7) (st2.below hb7).blk _,ao7,T7.length,c7,T7,st2.store hb7 hp7 hg7 (by rw [hf7,st2.flat,E2.out]) (Nat.le_trans hl7 (by have :=st2.len;omega))⟩
    case measure=>simp [intOf];omega
   ·have hkn :k=K.length :=by omega
    subst hkn
    have v1 : ¬ ((K.length :Int) < (K.length :Int)) :=by omega
    have y0 :=Aa st2.blk (j :=0) rfl
    have y1 :=Aa st2.res (j :=0) rfl
    have y2 :wr.frozen? ⟨w.heap.size+3,0,none⟩ =false :=by simp [World.frozen?,st2.res]
    rw [List.take_length] at st2
    go_wp2
    have hfin :=Do st2.res 0 (.slice ao2 k2 c2)
    refine bodyPost_ret (v := .agg #[.slice ao2 k2 c2]) (results_cell_row Tryz.results16 _ _ (w.heap.size+3) 48 #[.slice ao2 k2 c2] _ _ rfl hfin Tryz.underlying48 rfl (by kernel_rfl)) rfl ?_
    exact ⟨_,T2,rfl,⟨_,rfl,Ka st2.pgs st2.res _⟩,st2.good,by rw [st2.flat,EF.out],Nat.le_trans st2.len (by have :=HKL.out;omega),st2.bel.setCell (show w.heap.size≤w.heap.size+3 by omega) _⟩
end Go.Proofs.YthehiijgnepcfaaGreat


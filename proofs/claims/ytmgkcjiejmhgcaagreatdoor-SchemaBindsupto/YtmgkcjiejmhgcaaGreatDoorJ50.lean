/-
  1 texts of this proof in one, in build order: BLaw.
-/
import Derived.Deep.CutRange
import Derived.Deep.CutBlock
import Derived.Deep.DeepCutAuto
import Derived.BigQuiet
import Derived.Deep.RegionHeld3
import Derived.Test.YtmgkcjiejmhgcaaGreatDoorJ43
import Derived.Test.YtmgkcjiejmhgcaaGreatDoorJ49
set_option linter.unusedSimpArgs false
set_option linter.unusedVariables false
namespace Go.Proofs.YtmgkcjiejmhgcaaGreatDoor
open Go.RowKit Go.Maps
set_option maxRecDepth 100000 in
set_option maxHeartbeats 8000000 in
theorem Yv (ct :CatD) (st :Stm) (tv iv :Value) (arr :Array Value) (w :World) (hc :Bh (fun k=>k<w.heap.size) w ct (.agg #[tv,iv])) (hR :Abs.R (fun k=>k<w.heap.size) w st arr.toList) (hf :LwFit ct st) (hen :EnvM w) :
  Calls Tryz.prog 3 #[.agg #[tv,iv], .agg arr] w fun r w'=>r= .returned (.bool true) ∧Below w.heap.size w w' :=by
 have hsl1 :=El (show IsL A4 _ w tv ct.tables by obtain ⟨_,_,e,h1,_⟩ :=hc;cases e;exact h1)
 have hsl2 :=El (show IsL B7 _ w iv ct.indexes by obtain ⟨_,_,e,_,h1⟩ :=hc;cases e;exact h1)
 have h20 :arr.size=20 :=by have :=Abs.len hR;rw [Array.length_toList] at this;exact this
 have hb2 :=Bz w (.cells #[tv,iv] 25) (.cells arr 36)
 have hC0 :HasC ((w.alloc (.cells #[tv,iv] 25)).alloc (.cells arr 36)) w.heap.size #[tv,iv] ct := ⟨Ae (Ab _ _) _,(hc.keep (Ar hb2)).mono fun k _ hk=>Nat.lt_of_lt_of_le hk hb2.size,rfl⟩
 have hS0 :HasS ((w.alloc (.cells #[tv,iv] 25)).alloc (.cells arr 36)) (w.heap.size+1) arr st := ⟨A0 w _ _,Abs.mono (fun k _ hk=>Nat.lt_of_lt_of_le hk hb2.size) (Abs.keep (Ar hb2) hR),h20⟩
 have HF :Hid (LwFit ct st) :=hf
 have HEN :Hid (EnvM w) :=hen
 clear hc hR hf hen
 go_enter Tryz.func3,Tryz.ntmps3
 go_upto_region 1 with fail
 generalize hV : (w.alloc (.cells #[tv,iv] 25)).alloc (.cells arr 36) =V at*
 have HV :Hid _ :=hV
 clear hV
 have HC1 :=fun U (hb :Below V.heap.size V U) =>Ut (hC0.at hb) HF.out.tl HF.out.il HF.out.cl
 have HC3 :=fun U (hb :Below V.heap.size V U) =>Uu (hS0.at hb) HF.out.fp
 go_cut [5,6] from 17 to 20 (fun p q wx=> ∃pd px dv xa,p= .pointer (some ⟨pd,0,none⟩) ∧q= .pointer (some ⟨px,0,none⟩) ∧HasC wx pd dv ct∧HasS wx px xa st∧Below V.heap.size V wx)
 case first=>
  refine wp_region_held_drew (S :=Below V.heap.size V) (by kernel_rfl) ?_ (fun hHeld=> ?_)
  ·exact (Below.refl _ _).drew
  refine wpAnyH_take (i :=0) (v := .agg #[tv,iv]) rfl (by kernel_rfl) (by kernel_rfl) (by kernel_rfl) (fun _ _ _ h=>h) (Bt rfl 25 _ rfl w.heap.size rfl #[tv,iv] 25 _ (fun _ h=> (Below.block h _ hC0.lt).trans hC0.blk) Tryz.underlying25 rfl hC0.info) (by assumption) ?_
  try simp only [Act.put,List.setIfInBounds_toArray,List.set_cons_zero,List.set_cons_succ]
  refine wpAnyH_take (i :=2) (v := .agg arr) rfl (by kernel_rfl) (by kernel_rfl) (by kernel_rfl) (fun _ _ _ h=>h) (Bt rfl 36 _ rfl (w.heap.size+1) rfl arr 36 _ (fun _ h=> (Below.block h _ hS0.lt).trans hS0.blk) Tryz.underlying36 rfl hS0.info) (by assumption) ?_
  try simp only [Act.put,List.setIfInBounds_toArray,List.set_cons_zero,List.set_cons_succ]
  refine wpAnyH_ready (rs := [1,4,5]) (by kernel_rfl) (by simp) ?_
  refine (AllReadyH.cons rfl (fun K hK=> ?_) (AllReadyH.cons rfl (fun K hK=> ?_) (AllReadyH.cons rfl (fun K hK=> ?_) AllReadyH.nil)))
  ·go_simp
   (go_at_call 4;go_fit (HC1 _ ((Below.refl V.heap.size V).drew));rintro e U1 ⟨dv,rfl,hD⟩;have hD4 :Hid (2=dv.size) :=hD.size.symm)
   go_wp2_with fail
   refine hK.out _ _ ?_ (fun hHeld=> ?_)
   ·exact (Ac (Below.refl V.heap.size V).drew hD.bel)
   clear hK K
   try simp only [Act.put,List.setIfInBounds_toArray,List.set_cons_zero,List.set_cons_succ]
   refine wpAnyH_ready (rs := [3,4,5]) (by kernel_rfl) (by simp) ?_
   refine (AllReadyH.cons rfl (fun K hK=> ?_) (AllReadyH.cons rfl (fun K hK=> ?_) (AllReadyH.cons rfl (fun K hK=> ?_) AllReadyH.nil)))
   ·go_simp
    (go_at_call 5;go_fit (HC3 _ (Ac (Below.refl V.heap.size V).drew hD.bel));rintro e U3 ⟨xa,rfl,hX⟩;have hX4 :Hid (20=xa.size) :=hX.size.symm)
    go_wp2_with fail
    refine hK.out _ _ ?_ (fun hHeld=> ?_)
    ·exact (Ac (Ac (Below.refl V.heap.size V).drew hD.bel) hX.bel)
    clear hK K
    try simp only [Act.put,List.setIfInBounds_toArray,List.set_cons_zero,List.set_cons_succ]
    refine wpAnyH_ready (rs := [4,5]) (by kernel_rfl) (by simp) ?_
    refine (AllReadyH.cons rfl (fun K hK=> ?_) (AllReadyH.cons rfl (fun K hK=> ?_) AllReadyH.nil))
    ·go_simp
     go_wp2_with fail
     refine hK.out _ _ ?_ (fun hHeld=> ?_)
     ·exact (Af (Ac (Ac (Below.refl V.heap.size V).drew hD.bel) hX.bel) Ap)
     clear hK K
     try simp only [Act.put,List.setIfInBounds_toArray,List.set_cons_zero,List.set_cons_succ]
     refine wpAnyH_ready (rs := [5]) (by kernel_rfl) (by simp) ?_
     refine (AllReadyH.cons rfl (fun K hK=> ?_) AllReadyH.nil)
     ·go_simp
      go_wp2_with fail
      refine hK.out _ _ ?_ (fun hHeld=> ?_)
      ·exact (Af (Af (Ac (Ac (Below.refl V.heap.size V).drew hD.bel) hX.bel) Ap) Ao)
      clear hK K
      try simp only [Act.put,List.setIfInBounds_toArray,List.set_cons_zero,List.set_cons_succ]
      refine wpAnyH_ready (rs := [6]) (by kernel_rfl) (by simp) ?_
      refine (AllReadyH.cons rfl (fun K hK=> ?_) AllReadyH.nil)
      refine At rfl 25 _ _ rfl U3.heap.size dv ?_ ?_ 25 #[.slice none 0 0, .slice none 0 0] ?_ ?_ ?_ ?_ ?_;exact rfl;exact rfl;exact (A7 (Af (Below.refl _ (U3.alloc Ap)) Ao) (Ab U3 Ap));exact hD.info;exact hD4.out;exact hD.one
      refine hK.out _ _ ?_ (fun hHeld=> ?_)
      ·exact (Below.row (Af (Af (Ac (Ac (Below.refl V.heap.size V).drew hD.bel) hX.bel) Ap) Ao) (Ac (Ac (Below.refl V.heap.size V).drew hD.bel) hX.bel).size _)
      clear hK K
      try simp only [Act.put]
      refine wpAnyH_ready (rs := [7]) (by kernel_rfl) (by simp) ?_
      refine (AllReadyH.cons rfl (fun K hK=> ?_) AllReadyH.nil)
      refine At rfl 36 _ _ rfl (U3.heap.size+1) xa ?_ ?_ 36 Ah ?_ ?_ ?_ ?_ ?_;exact rfl;exact rfl;exact (Aw (A7 (Below.refl _ _) (A0 U3 Ap Ao)) (Nat.ne_of_gt (Nat.lt_succ_self _)) _);exact hX.info;exact hX4.out;exact hX.one
      refine hK.out _ _ ?_ (fun hHeld=> ?_)
      ·exact (Below.row (Below.row (Af (Af (Ac (Ac (Below.refl V.heap.size V).drew hD.bel) hX.bel) Ap) Ao) (Ac (Ac (Below.refl V.heap.size V).drew hD.bel) hX.bel).size _) (Nat.le_succ_of_le (Ac (Ac (Below.refl V.heap.size V).drew hD.bel) hX.bel).size) _)
      clear hK K
      try simp only [Act.put]
      refine wpAnyH_done (by kernel_rfl) ?_ _
      go_wp2_with fail
      go_meet
      case rel=>exact ⟨_,_,dv,xa,rfl,rfl,D8 (Af (Af (Ac (Ac (Below.refl V.heap.size V).drew hD.bel) hX.bel) Ap) Ao) (hD.at (Af (Af (Ac (Below.refl _ _) hX.bel) Ap) Ao)) (hX.at (Af (Af (Below.refl _ U3) Ap) Ao)) hD.size hX.size (Ac (Ac (Below.refl V.heap.size V).drew hD.bel) hX.bel).size (Nat.le_succ_of_le (Ac (Ac (Below.refl V.heap.size V).drew hD.bel) hX.bel).size) (A7 (Af (Below.refl _ (U3.alloc Ap)) Ao) (Ab U3 Ap)) (A7 (Below.refl _ _) (A0 U3 Ap Ao)) (.inr (Ac (Below.refl _ _) hX.bel).size) (.inr (Nat.le_succ_of_le (Ac (Below.refl _ _) hX.bel).size)) (.inr (Nat.le_refl _)) (.inr (Nat.le_succ _))⟩
    ·go_simp
     go_wp2_with fail
     refine hK.out _ _ ?_ (fun hHeld=> ?_)
     ·exact (Af (Ac (Ac (Below.refl V.heap.size V).drew hD.bel) hX.bel) Ao)
     clear hK K
     try simp only [Act.put,List.setIfInBounds_toArray,List.set_cons_zero,List.set_cons_succ]
     refine wpAnyH_ready (rs := [4]) (by kernel_rfl) (by simp) ?_
     refine (AllReadyH.cons rfl (fun K hK=> ?_) AllReadyH.nil)
     ·go_simp
      go_wp2_with fail
      refine hK.out _ _ ?_ (fun hHeld=> ?_)
      ·exact (Af (Af (Ac (Ac (Below.refl V.heap.size V).drew hD.bel) hX.bel) Ao) Ap)
      clear hK K
      try simp only [Act.put,List.setIfInBounds_toArray,List.set_cons_zero,List.set_cons_succ]
      refine wpAnyH_ready (rs := [6]) (by kernel_rfl) (by simp) ?_
      refine (AllReadyH.cons rfl (fun K hK=> ?_) AllReadyH.nil)
      refine At rfl 25 _ _ rfl (U3.heap.size+1) dv ?_ ?_ 25 #[.slice none 0 0, .slice none 0 0] ?_ ?_ ?_ ?_ ?_;exact rfl;exact rfl;exact (A7 (Below.refl _ _) (A0 U3 Ao Ap));exact hD.info;exact hD4.out;exact hD.one
      refine hK.out _ _ ?_ (fun hHeld=> ?_)
      ·exact (Below.row (Af (Af (Ac (Ac (Below.refl V.heap.size V).drew hD.bel) hX.bel) Ao) Ap) (Nat.le_succ_of_le (Ac (Ac (Below.refl V.heap.size V).drew hD.bel) hX.bel).size) _)
      clear hK K
      try simp only [Act.put]
      refine wpAnyH_ready (rs := [7]) (by kernel_rfl) (by simp) ?_
      refine (AllReadyH.cons rfl (fun K hK=> ?_) AllReadyH.nil)
      refine At rfl 36 _ _ rfl U3.heap.size xa ?_ ?_ 36 Ah ?_ ?_ ?_ ?_ ?_;exact rfl;exact rfl;exact (Aw (A7 (Af (Below.refl _ (U3.alloc Ao)) Ap) (Ab U3 Ao)) (Nat.ne_of_lt (Nat.lt_succ_self _)) _);exact hX.info;exact hX4.out;exact hX.one
      refine hK.out _ _ ?_ (fun hHeld=> ?_)
      ·exact (Below.row (Below.row (Af (Af (Ac (Ac (Below.refl V.heap.size V).drew hD.bel) hX.bel) Ao) Ap) (Nat.le_succ_of_le (Ac (Ac (Below.refl V.heap.size V).drew hD.bel) hX.bel).size) _) (Ac (Ac (Below.refl V.heap.size V).drew hD.bel) hX.bel).size _)
      clear hK K
      try simp only [Act.put]
      refine wpAnyH_done (by kernel_rfl) ?_ _
      go_wp2_with fail
      go_meet
      case rel=>exact ⟨_,_,dv,xa,rfl,rfl,D8 (Af (Af (Ac (Ac (Below.refl V.heap.size V).drew hD.bel) hX.bel) Ao) Ap) (hD.at (Af (Af (Ac (Below.refl _ _) hX.bel) Ao) Ap)) (hX.at (Af (Af (Below.refl _ U3) Ao) Ap)) hD.size hX.size (Nat.le_succ_of_le (Ac (Ac (Below.refl V.heap.size V).drew hD.bel) hX.bel).size) (Ac (Ac (Below.refl V.heap.size V).drew hD.bel) hX.bel).size (A7 (Below.refl _ _) (A0 U3 Ao Ap)) (A7 (Af (Below.refl _ (U3.alloc Ao)) Ap) (Ab U3 Ao)) (.inr (Nat.le_succ_of_le (Ac (Below.refl _ _) hX.bel).size)) (.inr (Ac (Below.refl _ _) hX.bel).size) (.inr (Nat.le_succ _)) (.inr (Nat.le_refl _))⟩
   ·go_simp
    go_wp2_with fail
    refine hK.out _ _ ?_ (fun hHeld=> ?_)
    ·exact (Af (Ac (Below.refl V.heap.size V).drew hD.bel) Ap)
    clear hK K
    try simp only [Act.put,List.setIfInBounds_toArray,List.set_cons_zero,List.set_cons_succ]
    refine wpAnyH_ready (rs := [3,5]) (by kernel_rfl) (by simp) ?_
    refine (AllReadyH.cons rfl (fun K hK=> ?_) (AllReadyH.cons rfl (fun K hK=> ?_) AllReadyH.nil))
    ·go_simp
     (go_at_call 5;go_fit (HC3 _ (Af (Ac (Below.refl V.heap.size V).drew hD.bel) Ap));rintro e U3 ⟨xa,rfl,hX⟩;have hX4 :Hid (20=xa.size) :=hX.size.symm)
     go_wp2_with fail
     refine hK.out _ _ ?_ (fun hHeld=> ?_)
     ·exact (Ac (Af (Ac (Below.refl V.heap.size V).drew hD.bel) Ap) hX.bel)
     clear hK K
     try simp only [Act.put,List.setIfInBounds_toArray,List.set_cons_zero,List.set_cons_succ]
     refine wpAnyH_ready (rs := [5]) (by kernel_rfl) (by simp) ?_
     refine (AllReadyH.cons rfl (fun K hK=> ?_) AllReadyH.nil)
     ·go_simp
      go_wp2_with fail
      refine hK.out _ _ ?_ (fun hHeld=> ?_)
      ·exact (Af (Ac (Af (Ac (Below.refl V.heap.size V).drew hD.bel) Ap) hX.bel) Ao)
      clear hK K
      try simp only [Act.put,List.setIfInBounds_toArray,List.set_cons_zero,List.set_cons_succ]
      refine wpAnyH_ready (rs := [6]) (by kernel_rfl) (by simp) ?_
      refine (AllReadyH.cons rfl (fun K hK=> ?_) AllReadyH.nil)
      refine At rfl 25 _ _ rfl U1.heap.size dv ?_ ?_ 25 #[.slice none 0 0, .slice none 0 0] ?_ ?_ ?_ ?_ ?_;exact rfl;exact rfl;exact (A7 (Af (Ac (Below.refl _ _) hX.bel) Ao) (Ab U1 Ap));exact hD.info;exact hD4.out;exact hD.one
      refine hK.out _ _ ?_ (fun hHeld=> ?_)
      ·exact (Below.row (Af (Ac (Af (Ac (Below.refl V.heap.size V).drew hD.bel) Ap) hX.bel) Ao) (Ac (Below.refl V.heap.size V).drew hD.bel).size _)
      clear hK K
      try simp only [Act.put]
      refine wpAnyH_ready (rs := [7]) (by kernel_rfl) (by simp) ?_
      refine (AllReadyH.cons rfl (fun K hK=> ?_) AllReadyH.nil)
      refine At rfl 36 _ _ rfl U3.heap.size xa ?_ ?_ 36 Ah ?_ ?_ ?_ ?_ ?_;exact rfl;exact rfl;exact (Aw (A7 (Below.refl _ _) (Ab U3 Ao)) (Nat.ne_of_gt (Bo (w :=U1) (o :=Ap) (Ac (Below.refl _ _) hX.bel))) _);exact hX.info;exact hX4.out;exact hX.one
      refine hK.out _ _ ?_ (fun hHeld=> ?_)
      ·exact (Below.row (Below.row (Af (Ac (Af (Ac (Below.refl V.heap.size V).drew hD.bel) Ap) hX.bel) Ao) (Ac (Below.refl V.heap.size V).drew hD.bel).size _) (Ac (Af (Ac (Below.refl V.heap.size V).drew hD.bel) Ap) hX.bel).size _)
      clear hK K
      try simp only [Act.put]
      refine wpAnyH_done (by kernel_rfl) ?_ _
      go_wp2_with fail
      go_meet
      case rel=>exact ⟨_,_,dv,xa,rfl,rfl,D8 (Af (Ac (Af (Ac (Below.refl V.heap.size V).drew hD.bel) Ap) hX.bel) Ao) (hD.at (Af (Ac (Af (Below.refl _ U1) Ap) hX.bel) Ao)) (hX.at (Af (Below.refl _ U3) Ao)) hD.size hX.size (Ac (Below.refl V.heap.size V).drew hD.bel).size (Ac (Af (Ac (Below.refl V.heap.size V).drew hD.bel) Ap) hX.bel).size (A7 (Af (Ac (Below.refl _ _) hX.bel) Ao) (Ab U1 Ap)) (A7 (Below.refl _ _) (Ab U3 Ao)) (.inr (Nat.le_refl _)) (.inr (Ac (Af (Below.refl _ U1) Ap) hX.bel).size) (.inl (Bo (w :=U1) (o :=Ap) (Below.refl _ _))) (.inr (Nat.le_refl _))⟩
    ·go_simp
     go_wp2_with fail
     refine hK.out _ _ ?_ (fun hHeld=> ?_)
     ·exact (Af (Af (Ac (Below.refl V.heap.size V).drew hD.bel) Ap) Ao)
     clear hK K
     try simp only [Act.put,List.setIfInBounds_toArray,List.set_cons_zero,List.set_cons_succ]
     refine wpAnyH_ready (rs := [3]) (by kernel_rfl) (by simp) ?_
     refine (AllReadyH.cons rfl (fun K hK=> ?_) AllReadyH.nil)
     ·go_simp
      (go_at_call 5;go_fit (HC3 _ (Af (Af (Ac (Below.refl V.heap.size V).drew hD.bel) Ap) Ao));rintro e U3 ⟨xa,rfl,hX⟩;have hX4 :Hid (20=xa.size) :=hX.size.symm)
      go_wp2_with fail
      refine hK.out _ _ ?_ (fun hHeld=> ?_)
      ·exact (Ac (Af (Af (Ac (Below.refl V.heap.size V).drew hD.bel) Ap) Ao) hX.bel)
      clear hK K
      try simp only [Act.put,List.setIfInBounds_toArray,List.set_cons_zero,List.set_cons_succ]
      refine wpAnyH_ready (rs := [6]) (by kernel_rfl) (by simp) ?_
      refine (AllReadyH.cons rfl (fun K hK=> ?_) AllReadyH.nil)
      refine At rfl 25 _ _ rfl U1.heap.size dv ?_ ?_ 25 #[.slice none 0 0, .slice none 0 0] ?_ ?_ ?_ ?_ ?_;exact rfl;exact rfl;exact (A7 (Ac (Af (Below.refl _ (U1.alloc Ap)) Ao) hX.bel) (Ab U1 Ap));exact hD.info;exact hD4.out;exact hD.one
      refine hK.out _ _ ?_ (fun hHeld=> ?_)
      ·exact (Below.row (Ac (Af (Af (Ac (Below.refl V.heap.size V).drew hD.bel) Ap) Ao) hX.bel) (Ac (Below.refl V.heap.size V).drew hD.bel).size _)
      clear hK K
      try simp only [Act.put]
      refine wpAnyH_ready (rs := [7]) (by kernel_rfl) (by simp) ?_
      refine (AllReadyH.cons rfl (fun K hK=> ?_) AllReadyH.nil)
      refine At rfl 36 _ _ rfl (U1.heap.size+1) xa ?_ ?_ 36 Ah ?_ ?_ ?_ ?_ ?_;exact rfl;exact rfl;exact (Aw (A7 (Ac (Below.refl _ _) hX.bel) (A0 U1 Ap Ao)) (Nat.ne_of_gt (Nat.lt_succ_self _)) _);exact hX.info;exact hX4.out;exact hX.one
      refine hK.out _ _ ?_ (fun hHeld=> ?_)
      ·exact (Below.row (Below.row (Ac (Af (Af (Ac (Below.refl V.heap.size V).drew hD.bel) Ap) Ao) hX.bel) (Ac (Below.refl V.heap.size V).drew hD.bel).size _) (Nat.le_succ_of_le (Ac (Below.refl V.heap.size V).drew hD.bel).size) _)
      clear hK K
      try simp only [Act.put]
      refine wpAnyH_done (by kernel_rfl) ?_ _
      go_wp2_with fail
      go_meet
      case rel=>exact ⟨_,_,dv,xa,rfl,rfl,D8 (Ac (Af (Af (Ac (Below.refl V.heap.size V).drew hD.bel) Ap) Ao) hX.bel) (hD.at (Ac (Af (Af (Below.refl _ U1) Ap) Ao) hX.bel)) (hX.at (Below.refl _ _)) hD.size hX.size (Ac (Below.refl V.heap.size V).drew hD.bel).size (Nat.le_succ_of_le (Ac (Below.refl V.heap.size V).drew hD.bel).size) (A7 (Ac (Af (Below.refl _ (U1.alloc Ap)) Ao) hX.bel) (Ab U1 Ap)) (A7 (Ac (Below.refl _ _) hX.bel) (A0 U1 Ap Ao)) (.inr (Nat.le_refl _)) (.inr (Nat.le_succ _)) (.inl (Bo (w :=U1) (o :=Ap) (Af (Below.refl _ (U1.alloc Ap)) Ao))) (.inl (Gs (w :=U1) (o :=Ap) (o2 :=Ao) (Below.refl _ _)))⟩
   ·go_simp
    go_wp2_with fail
    refine hK.out _ _ ?_ (fun hHeld=> ?_)
    ·exact (Af (Ac (Below.refl V.heap.size V).drew hD.bel) Ao)
    clear hK K
    try simp only [Act.put,List.setIfInBounds_toArray,List.set_cons_zero,List.set_cons_succ]
    refine wpAnyH_ready (rs := [3,4]) (by kernel_rfl) (by simp) ?_
    refine (AllReadyH.cons rfl (fun K hK=> ?_) (AllReadyH.cons rfl (fun K hK=> ?_) AllReadyH.nil))
    ·go_simp
     (go_at_call 5;go_fit (HC3 _ (Af (Ac (Below.refl V.heap.size V).drew hD.bel) Ao));rintro e U3 ⟨xa,rfl,hX⟩;have hX4 :Hid (20=xa.size) :=hX.size.symm)
     go_wp2_with fail
     refine hK.out _ _ ?_ (fun hHeld=> ?_)
     ·exact (Ac (Af (Ac (Below.refl V.heap.size V).drew hD.bel) Ao) hX.bel)
     clear hK K
     try simp only [Act.put,List.setIfInBounds_toArray,List.set_cons_zero,List.set_cons_succ]
     refine wpAnyH_ready (rs := [4]) (by kernel_rfl) (by simp) ?_
     refine (AllReadyH.cons rfl (fun K hK=> ?_) AllReadyH.nil)
     ·go_simp
      go_wp2_with fail
      refine hK.out _ _ ?_ (fun hHeld=> ?_)
      ·exact (Af (Ac (Af (Ac (Below.refl V.heap.size V).drew hD.bel) Ao) hX.bel) Ap)
      clear hK K
      try simp only [Act.put,List.setIfInBounds_toArray,List.set_cons_zero,List.set_cons_succ]
      refine wpAnyH_ready (rs := [6]) (by kernel_rfl) (by simp) ?_
      refine (AllReadyH.cons rfl (fun K hK=> ?_) AllReadyH.nil)
      refine At rfl 25 _ _ rfl U3.heap.size dv ?_ ?_ 25 #[.slice none 0 0, .slice none 0 0] ?_ ?_ ?_ ?_ ?_;exact rfl;exact rfl;exact (A7 (Below.refl _ _) (Ab U3 Ap));exact hD.info;exact hD4.out;exact hD.one
      refine hK.out _ _ ?_ (fun hHeld=> ?_)
      ·exact (Below.row (Af (Ac (Af (Ac (Below.refl V.heap.size V).drew hD.bel) Ao) hX.bel) Ap) (Ac (Af (Ac (Below.refl V.heap.size V).drew hD.bel) Ao) hX.bel).size _)
      clear hK K
      try simp only [Act.put]
      refine wpAnyH_ready (rs := [7]) (by kernel_rfl) (by simp) ?_
      refine (AllReadyH.cons rfl (fun K hK=> ?_) AllReadyH.nil)
      refine At rfl 36 _ _ rfl U1.heap.size xa ?_ ?_ 36 Ah ?_ ?_ ?_ ?_ ?_;exact rfl;exact rfl;exact (Aw (A7 (Af (Ac (Below.refl _ _) hX.bel) Ap) (Ab U1 Ao)) (Nat.ne_of_lt (Bo (w :=U1) (o :=Ao) (Ac (Below.refl _ _) hX.bel))) _);exact hX.info;exact hX4.out;exact hX.one
      refine hK.out _ _ ?_ (fun hHeld=> ?_)
      ·exact (Below.row (Below.row (Af (Ac (Af (Ac (Below.refl V.heap.size V).drew hD.bel) Ao) hX.bel) Ap) (Ac (Af (Ac (Below.refl V.heap.size V).drew hD.bel) Ao) hX.bel).size _) (Ac (Below.refl V.heap.size V).drew hD.bel).size _)
      clear hK K
      try simp only [Act.put]
      refine wpAnyH_done (by kernel_rfl) ?_ _
      go_wp2_with fail
      go_meet
      case rel=>exact ⟨_,_,dv,xa,rfl,rfl,D8 (Af (Ac (Af (Ac (Below.refl V.heap.size V).drew hD.bel) Ao) hX.bel) Ap) (hD.at (Af (Ac (Af (Below.refl _ U1) Ao) hX.bel) Ap)) (hX.at (Af (Below.refl _ U3) Ap)) hD.size hX.size (Ac (Af (Ac (Below.refl V.heap.size V).drew hD.bel) Ao) hX.bel).size (Ac (Below.refl V.heap.size V).drew hD.bel).size (A7 (Below.refl _ _) (Ab U3 Ap)) (A7 (Af (Ac (Below.refl _ _) hX.bel) Ap) (Ab U1 Ao)) (.inr (Ac (Af (Below.refl _ U1) Ao) hX.bel).size) (.inr (Nat.le_refl _)) (.inr (Nat.le_refl _)) (.inl (Bo (w :=U1) (o :=Ao) (Below.refl _ _)))⟩
    ·go_simp
     go_wp2_with fail
     refine hK.out _ _ ?_ (fun hHeld=> ?_)
     ·exact (Af (Af (Ac (Below.refl V.heap.size V).drew hD.bel) Ao) Ap)
     clear hK K
     try simp only [Act.put,List.setIfInBounds_toArray,List.set_cons_zero,List.set_cons_succ]
     refine wpAnyH_ready (rs := [3]) (by kernel_rfl) (by simp) ?_
     refine (AllReadyH.cons rfl (fun K hK=> ?_) AllReadyH.nil)
     ·go_simp
      (go_at_call 5;go_fit (HC3 _ (Af (Af (Ac (Below.refl V.heap.size V).drew hD.bel) Ao) Ap));rintro e U3 ⟨xa,rfl,hX⟩;have hX4 :Hid (20=xa.size) :=hX.size.symm)
      go_wp2_with fail
      refine hK.out _ _ ?_ (fun hHeld=> ?_)
      ·exact (Ac (Af (Af (Ac (Below.refl V.heap.size V).drew hD.bel) Ao) Ap) hX.bel)
      clear hK K
      try simp only [Act.put,List.setIfInBounds_toArray,List.set_cons_zero,List.set_cons_succ]
      refine wpAnyH_ready (rs := [6]) (by kernel_rfl) (by simp) ?_
      refine (AllReadyH.cons rfl (fun K hK=> ?_) AllReadyH.nil)
      refine At rfl 25 _ _ rfl (U1.heap.size+1) dv ?_ ?_ 25 #[.slice none 0 0, .slice none 0 0] ?_ ?_ ?_ ?_ ?_;exact rfl;exact rfl;exact (A7 (Ac (Below.refl _ _) hX.bel) (A0 U1 Ao Ap));exact hD.info;exact hD4.out;exact hD.one
      refine hK.out _ _ ?_ (fun hHeld=> ?_)
      ·exact (Below.row (Ac (Af (Af (Ac (Below.refl V.heap.size V).drew hD.bel) Ao) Ap) hX.bel) (Nat.le_succ_of_le (Ac (Below.refl V.heap.size V).drew hD.bel).size) _)
      clear hK K
      try simp only [Act.put]
      refine wpAnyH_ready (rs := [7]) (by kernel_rfl) (by simp) ?_
      refine (AllReadyH.cons rfl (fun K hK=> ?_) AllReadyH.nil)
      refine At rfl 36 _ _ rfl U1.heap.size xa ?_ ?_ 36 Ah ?_ ?_ ?_ ?_ ?_;exact rfl;exact rfl;exact (Aw (A7 (Ac (Af (Below.refl _ (U1.alloc Ao)) Ap) hX.bel) (Ab U1 Ao)) (Nat.ne_of_lt (Nat.lt_succ_self _)) _);exact hX.info;exact hX4.out;exact hX.one
      refine hK.out _ _ ?_ (fun hHeld=> ?_)
      ·exact (Below.row (Below.row (Ac (Af (Af (Ac (Below.refl V.heap.size V).drew hD.bel) Ao) Ap) hX.bel) (Nat.le_succ_of_le (Ac (Below.refl V.heap.size V).drew hD.bel).size) _) (Ac (Below.refl V.heap.size V).drew hD.bel).size _)
      clear hK K
      try simp only [Act.put]
      refine wpAnyH_done (by kernel_rfl) ?_ _
      go_wp2_with fail
      go_meet
      case rel=>exact ⟨_,_,dv,xa,rfl,rfl,D8 (Ac (Af (Af (Ac (Below.refl V.heap.size V).drew hD.bel) Ao) Ap) hX.bel) (hD.at (Ac (Af (Af (Below.refl _ U1) Ao) Ap) hX.bel)) (hX.at (Below.refl _ _)) hD.size hX.size (Nat.le_succ_of_le (Ac (Below.refl V.heap.size V).drew hD.bel).size) (Ac (Below.refl V.heap.size V).drew hD.bel).size (A7 (Ac (Below.refl _ _) hX.bel) (A0 U1 Ao Ap)) (A7 (Ac (Af (Below.refl _ (U1.alloc Ao)) Ap) hX.bel) (Ab U1 Ao)) (.inr (Nat.le_succ _)) (.inr (Nat.le_refl _)) (.inl (Gs (w :=U1) (o :=Ao) (o2 :=Ap) (Below.refl _ _))) (.inl (Bo (w :=U1) (o :=Ao) (Af (Below.refl _ (U1.alloc Ao)) Ap)))⟩
  ·go_simp
   go_wp2_with fail
   refine hK.out _ _ ?_ (fun hHeld=> ?_)
   ·exact (Af (Below.refl V.heap.size V).drew Ap)
   clear hK K
   try simp only [Act.put,List.setIfInBounds_toArray,List.set_cons_zero,List.set_cons_succ]
   refine wpAnyH_ready (rs := [1,5]) (by kernel_rfl) (by simp) ?_
   refine (AllReadyH.cons rfl (fun K hK=> ?_) (AllReadyH.cons rfl (fun K hK=> ?_) AllReadyH.nil))
   ·go_simp
    (go_at_call 4;go_fit (HC1 _ (Af (Below.refl V.heap.size V).drew Ap));rintro e U1 ⟨dv,rfl,hD⟩;have hD4 :Hid (2=dv.size) :=hD.size.symm)
    go_wp2_with fail
    refine hK.out _ _ ?_ (fun hHeld=> ?_)
    ·exact (Ac (Af (Below.refl V.heap.size V).drew Ap) hD.bel)
    clear hK K
    try simp only [Act.put,List.setIfInBounds_toArray,List.set_cons_zero,List.set_cons_succ]
    refine wpAnyH_ready (rs := [3,5]) (by kernel_rfl) (by simp) ?_
    refine (AllReadyH.cons rfl (fun K hK=> ?_) (AllReadyH.cons rfl (fun K hK=> ?_) AllReadyH.nil))
    ·go_simp
     (go_at_call 5;go_fit (HC3 _ (Ac (Af (Below.refl V.heap.size V).drew Ap) hD.bel));rintro e U3 ⟨xa,rfl,hX⟩;have hX4 :Hid (20=xa.size) :=hX.size.symm)
     go_wp2_with fail
     refine hK.out _ _ ?_ (fun hHeld=> ?_)
     ·exact (Ac (Ac (Af (Below.refl V.heap.size V).drew Ap) hD.bel) hX.bel)
     clear hK K
     try simp only [Act.put,List.setIfInBounds_toArray,List.set_cons_zero,List.set_cons_succ]
     refine wpAnyH_ready (rs := [5]) (by kernel_rfl) (by simp) ?_
     refine (AllReadyH.cons rfl (fun K hK=> ?_) AllReadyH.nil)
     ·go_simp
      go_wp2_with fail
      refine hK.out _ _ ?_ (fun hHeld=> ?_)
      ·exact (Af (Ac (Ac (Af (Below.refl V.heap.size V).drew Ap) hD.bel) hX.bel) Ao)
      clear hK K
      try simp only [Act.put,List.setIfInBounds_toArray,List.set_cons_zero,List.set_cons_succ]
      refine wpAnyH_ready (rs := [6]) (by kernel_rfl) (by simp) ?_
      refine (AllReadyH.cons rfl (fun K hK=> ?_) AllReadyH.nil)
      refine At rfl 25 _ _ rfl V.drew.heap.size dv ?_ ?_ 25 #[.slice none 0 0, .slice none 0 0] ?_ ?_ ?_ ?_ ?_;exact rfl;exact rfl;exact (A7 (Af (Ac (Ac (Below.refl _ _) hD.bel) hX.bel) Ao) (Ab V.drew Ap));exact hD.info;exact hD4.out;exact hD.one
      refine hK.out _ _ ?_ (fun hHeld=> ?_)
      ·exact (Below.row (Af (Ac (Ac (Af (Below.refl V.heap.size V).drew Ap) hD.bel) hX.bel) Ao) ((Below.refl V.heap.size V).drew).size _)
      clear hK K
      try simp only [Act.put]
      refine wpAnyH_ready (rs := [7]) (by kernel_rfl) (by simp) ?_
      refine (AllReadyH.cons rfl (fun K hK=> ?_) AllReadyH.nil)
      refine At rfl 36 _ _ rfl U3.heap.size xa ?_ ?_ 36 Ah ?_ ?_ ?_ ?_ ?_;exact rfl;exact rfl;exact (Aw (A7 (Below.refl _ _) (Ab U3 Ao)) (Nat.ne_of_gt (Bo (w :=V.drew) (o :=Ap) (Ac (Ac (Below.refl _ _) hD.bel) hX.bel))) _);exact hX.info;exact hX4.out;exact hX.one
      refine hK.out _ _ ?_ (fun hHeld=> ?_)
      ·exact (Below.row (Below.row (Af (Ac (Ac (Af (Below.refl V.heap.size V).drew Ap) hD.bel) hX.bel) Ao) ((Below.refl V.heap.size V).drew).size _) (Ac (Ac (Af (Below.refl V.heap.size V).drew Ap) hD.bel) hX.bel).size _)
      clear hK K
      try simp only [Act.put]
      refine wpAnyH_done (by kernel_rfl) ?_ _
      go_wp2_with fail
      go_meet
      case rel=>exact ⟨_,_,dv,xa,rfl,rfl,D8 (Af (Ac (Ac (Af (Below.refl V.heap.size V).drew Ap) hD.bel) hX.bel) Ao) (hD.at (Af (Ac (Below.refl _ _) hX.bel) Ao)) (hX.at (Af (Below.refl _ U3) Ao)) hD.size hX.size ((Below.refl V.heap.size V).drew).size (Ac (Ac (Af (Below.refl V.heap.size V).drew Ap) hD.bel) hX.bel).size (A7 (Af (Ac (Ac (Below.refl _ _) hD.bel) hX.bel) Ao) (Ab V.drew Ap)) (A7 (Below.refl _ _) (Ab U3 Ao)) (.inl (Bo (w :=V.drew) (o :=Ap) (Below.refl _ _))) (.inr (Ac (Below.refl _ _) hX.bel).size) (.inl (Bo (w :=V.drew) (o :=Ap) (Ac (Below.refl _ _) hD.bel))) (.inr (Nat.le_refl _))⟩
    ·go_simp
     go_wp2_with fail
     refine hK.out _ _ ?_ (fun hHeld=> ?_)
     ·exact (Af (Ac (Af (Below.refl V.heap.size V).drew Ap) hD.bel) Ao)
     clear hK K
     try simp only [Act.put,List.setIfInBounds_toArray,List.set_cons_zero,List.set_cons_succ]
     refine wpAnyH_ready (rs := [3]) (by kernel_rfl) (by simp) ?_
     refine (AllReadyH.cons rfl (fun K hK=> ?_) AllReadyH.nil)
     ·go_simp
      (go_at_call 5;go_fit (HC3 _ (Af (Ac (Af (Below.refl V.heap.size V).drew Ap) hD.bel) Ao));rintro e U3 ⟨xa,rfl,hX⟩;have hX4 :Hid (20=xa.size) :=hX.size.symm)
      go_wp2_with fail
      refine hK.out _ _ ?_ (fun hHeld=> ?_)
      ·exact (Ac (Af (Ac (Af (Below.refl V.heap.size V).drew Ap) hD.bel) Ao) hX.bel)
      clear hK K
      try simp only [Act.put,List.setIfInBounds_toArray,List.set_cons_zero,List.set_cons_succ]
      refine wpAnyH_ready (rs := [6]) (by kernel_rfl) (by simp) ?_
      refine (AllReadyH.cons rfl (fun K hK=> ?_) AllReadyH.nil)
      refine At rfl 25 _ _ rfl V.drew.heap.size dv ?_ ?_ 25 #[.slice none 0 0, .slice none 0 0] ?_ ?_ ?_ ?_ ?_;exact rfl;exact rfl;exact (A7 (Ac (Af (Ac (Below.refl _ _) hD.bel) Ao) hX.bel) (Ab V.drew Ap));exact hD.info;exact hD4.out;exact hD.one
      refine hK.out _ _ ?_ (fun hHeld=> ?_)
      ·exact (Below.row (Ac (Af (Ac (Af (Below.refl V.heap.size V).drew Ap) hD.bel) Ao) hX.bel) ((Below.refl V.heap.size V).drew).size _)
      clear hK K
      try simp only [Act.put]
      refine wpAnyH_ready (rs := [7]) (by kernel_rfl) (by simp) ?_
      refine (AllReadyH.cons rfl (fun K hK=> ?_) AllReadyH.nil)
      refine At rfl 36 _ _ rfl U1.heap.size xa ?_ ?_ 36 Ah ?_ ?_ ?_ ?_ ?_;exact rfl;exact rfl;exact (Aw (A7 (Ac (Below.refl _ _) hX.bel) (Ab U1 Ao)) (Nat.ne_of_gt (Bo (w :=V.drew) (o :=Ap) (Ac (Below.refl _ _) hD.bel))) _);exact hX.info;exact hX4.out;exact hX.one
      refine hK.out _ _ ?_ (fun hHeld=> ?_)
      ·exact (Below.row (Below.row (Ac (Af (Ac (Af (Below.refl V.heap.size V).drew Ap) hD.bel) Ao) hX.bel) ((Below.refl V.heap.size V).drew).size _) (Ac (Af (Below.refl V.heap.size V).drew Ap) hD.bel).size _)
      clear hK K
      try simp only [Act.put]
      refine wpAnyH_done (by kernel_rfl) ?_ _
      go_wp2_with fail
      go_meet
      case rel=>exact ⟨_,_,dv,xa,rfl,rfl,D8 (Ac (Af (Ac (Af (Below.refl V.heap.size V).drew Ap) hD.bel) Ao) hX.bel) (hD.at (Ac (Af (Below.refl _ U1) Ao) hX.bel)) (hX.at (Below.refl _ _)) hD.size hX.size ((Below.refl V.heap.size V).drew).size (Ac (Af (Below.refl V.heap.size V).drew Ap) hD.bel).size (A7 (Ac (Af (Ac (Below.refl _ _) hD.bel) Ao) hX.bel) (Ab V.drew Ap)) (A7 (Ac (Below.refl _ _) hX.bel) (Ab U1 Ao)) (.inl (Bo (w :=V.drew) (o :=Ap) (Below.refl _ _))) (.inr (Nat.le_refl _)) (.inl (Bo (w :=V.drew) (o :=Ap) (Af (Ac (Below.refl _ _) hD.bel) Ao))) (.inl (Bo (w :=U1) (o :=Ao) (Below.refl _ _)))⟩
   ·go_simp
    go_wp2_with fail
    refine hK.out _ _ ?_ (fun hHeld=> ?_)
    ·exact (Af (Af (Below.refl V.heap.size V).drew Ap) Ao)
    clear hK K
    try simp only [Act.put,List.setIfInBounds_toArray,List.set_cons_zero,List.set_cons_succ]
    refine wpAnyH_ready (rs := [1]) (by kernel_rfl) (by simp) ?_
    refine (AllReadyH.cons rfl (fun K hK=> ?_) AllReadyH.nil)
    ·go_simp
     (go_at_call 4;go_fit (HC1 _ (Af (Af (Below.refl V.heap.size V).drew Ap) Ao));rintro e U1 ⟨dv,rfl,hD⟩;have hD4 :Hid (2=dv.size) :=hD.size.symm)
     go_wp2_with fail
     refine hK.out _ _ ?_ (fun hHeld=> ?_)
     ·exact (Ac (Af (Af (Below.refl V.heap.size V).drew Ap) Ao) hD.bel)
     clear hK K
     try simp only [Act.put,List.setIfInBounds_toArray,List.set_cons_zero,List.set_cons_succ]
     refine wpAnyH_ready (rs := [3]) (by kernel_rfl) (by simp) ?_
     refine (AllReadyH.cons rfl (fun K hK=> ?_) AllReadyH.nil)
     ·go_simp
      (go_at_call 5;go_fit (HC3 _ (Ac (Af (Af (Below.refl V.heap.size V).drew Ap) Ao) hD.bel));rintro e U3 ⟨xa,rfl,hX⟩;have hX4 :Hid (20=xa.size) :=hX.size.symm)
      go_wp2_with fail
      refine hK.out _ _ ?_ (fun hHeld=> ?_)
      ·exact (Ac (Ac (Af (Af (Below.refl V.heap.size V).drew Ap) Ao) hD.bel) hX.bel)
      clear hK K
      try simp only [Act.put,List.setIfInBounds_toArray,List.set_cons_zero,List.set_cons_succ]
      refine wpAnyH_ready (rs := [6]) (by kernel_rfl) (by simp) ?_
      refine (AllReadyH.cons rfl (fun K hK=> ?_) AllReadyH.nil)
      refine At rfl 25 _ _ rfl V.drew.heap.size dv ?_ ?_ 25 #[.slice none 0 0, .slice none 0 0] ?_ ?_ ?_ ?_ ?_;exact rfl;exact rfl;exact (A7 (Ac (Ac (Af (Below.refl _ (V.drew.alloc Ap)) Ao) hD.bel) hX.bel) (Ab V.drew Ap));exact hD.info;exact hD4.out;exact hD.one
      refine hK.out _ _ ?_ (fun hHeld=> ?_)
      ·exact (Below.row (Ac (Ac (Af (Af (Below.refl V.heap.size V).drew Ap) Ao) hD.bel) hX.bel) ((Below.refl V.heap.size V).drew).size _)
      clear hK K
      try simp only [Act.put]
      refine wpAnyH_ready (rs := [7]) (by kernel_rfl) (by simp) ?_
      refine (AllReadyH.cons rfl (fun K hK=> ?_) AllReadyH.nil)
      refine At rfl 36 _ _ rfl (V.drew.heap.size+1) xa ?_ ?_ 36 Ah ?_ ?_ ?_ ?_ ?_;exact rfl;exact rfl;exact (Aw (A7 (Ac (Ac (Below.refl _ _) hD.bel) hX.bel) (A0 V.drew Ap Ao)) (Nat.ne_of_gt (Nat.lt_succ_self _)) _);exact hX.info;exact hX4.out;exact hX.one
      refine hK.out _ _ ?_ (fun hHeld=> ?_)
      ·exact (Below.row (Below.row (Ac (Ac (Af (Af (Below.refl V.heap.size V).drew Ap) Ao) hD.bel) hX.bel) ((Below.refl V.heap.size V).drew).size _) (Nat.le_succ_of_le ((Below.refl V.heap.size V).drew).size) _)
      clear hK K
      try simp only [Act.put]
      refine wpAnyH_done (by kernel_rfl) ?_ _
      go_wp2_with fail
      go_meet
      case rel=>exact ⟨_,_,dv,xa,rfl,rfl,D8 (Ac (Ac (Af (Af (Below.refl V.heap.size V).drew Ap) Ao) hD.bel) hX.bel) (hD.at (Ac (Below.refl _ _) hX.bel)) (hX.at (Below.refl _ _)) hD.size hX.size ((Below.refl V.heap.size V).drew).size (Nat.le_succ_of_le ((Below.refl V.heap.size V).drew).size) (A7 (Ac (Ac (Af (Below.refl _ (V.drew.alloc Ap)) Ao) hD.bel) hX.bel) (Ab V.drew Ap)) (A7 (Ac (Ac (Below.refl _ _) hD.bel) hX.bel) (A0 V.drew Ap Ao)) (.inl (Bo (w :=V.drew) (o :=Ap) (Af (Below.refl _ (V.drew.alloc Ap)) Ao))) (.inl (Gs (w :=V.drew) (o :=Ap) (o2 :=Ao) (Below.refl _ _))) (.inl (Bo (w :=V.drew) (o :=Ap) (Ac (Af (Below.refl _ (V.drew.alloc Ap)) Ao) hD.bel))) (.inl (Gs (w :=V.drew) (o :=Ap) (o2 :=Ao) (Ac (Below.refl _ _) hD.bel)))⟩
  ·go_simp
   go_wp2_with fail
   refine hK.out _ _ ?_ (fun hHeld=> ?_)
   ·exact (Af (Below.refl V.heap.size V).drew Ao)
   clear hK K
   try simp only [Act.put,List.setIfInBounds_toArray,List.set_cons_zero,List.set_cons_succ]
   refine wpAnyH_ready (rs := [1,4]) (by kernel_rfl) (by simp) ?_
   refine (AllReadyH.cons rfl (fun K hK=> ?_) (AllReadyH.cons rfl (fun K hK=> ?_) AllReadyH.nil))
   ·go_simp
    (go_at_call 4;go_fit (HC1 _ (Af (Below.refl V.heap.size V).drew Ao));rintro e U1 ⟨dv,rfl,hD⟩;have hD4 :Hid (2=dv.size) :=hD.size.symm)
    go_wp2_with fail
    refine hK.out _ _ ?_ (fun hHeld=> ?_)
    ·exact (Ac (Af (Below.refl V.heap.size V).drew Ao) hD.bel)
    clear hK K
    try simp only [Act.put,List.setIfInBounds_toArray,List.set_cons_zero,List.set_cons_succ]
    refine wpAnyH_ready (rs := [3,4]) (by kernel_rfl) (by simp) ?_
    refine (AllReadyH.cons rfl (fun K hK=> ?_) (AllReadyH.cons rfl (fun K hK=> ?_) AllReadyH.nil))
    ·go_simp
     (go_at_call 5;go_fit (HC3 _ (Ac (Af (Below.refl V.heap.size V).drew Ao) hD.bel));rintro e U3 ⟨xa,rfl,hX⟩;have hX4 :Hid (20=xa.size) :=hX.size.symm)
     go_wp2_with fail
     refine hK.out _ _ ?_ (fun hHeld=> ?_)
     ·exact (Ac (Ac (Af (Below.refl V.heap.size V).drew Ao) hD.bel) hX.bel)
     clear hK K
     try simp only [Act.put,List.setIfInBounds_toArray,List.set_cons_zero,List.set_cons_succ]
     refine wpAnyH_ready (rs := [4]) (by kernel_rfl) (by simp) ?_
     refine (AllReadyH.cons rfl (fun K hK=> ?_) AllReadyH.nil)
     ·go_simp
      go_wp2_with fail
      refine hK.out _ _ ?_ (fun hHeld=> ?_)
      ·exact (Af (Ac (Ac (Af (Below.refl V.heap.size V).drew Ao) hD.bel) hX.bel) Ap)
      clear hK K
      try simp only [Act.put,List.setIfInBounds_toArray,List.set_cons_zero,List.set_cons_succ]
      refine wpAnyH_ready (rs := [6]) (by kernel_rfl) (by simp) ?_
      refine (AllReadyH.cons rfl (fun K hK=> ?_) AllReadyH.nil)
      refine At rfl 25 _ _ rfl U3.heap.size dv ?_ ?_ 25 #[.slice none 0 0, .slice none 0 0] ?_ ?_ ?_ ?_ ?_;exact rfl;exact rfl;exact (A7 (Below.refl _ _) (Ab U3 Ap));exact hD.info;exact hD4.out;exact hD.one
      refine hK.out _ _ ?_ (fun hHeld=> ?_)
      ·exact (Below.row (Af (Ac (Ac (Af (Below.refl V.heap.size V).drew Ao) hD.bel) hX.bel) Ap) (Ac (Ac (Af (Below.refl V.heap.size V).drew Ao) hD.bel) hX.bel).size _)
      clear hK K
      try simp only [Act.put]
      refine wpAnyH_ready (rs := [7]) (by kernel_rfl) (by simp) ?_
      refine (AllReadyH.cons rfl (fun K hK=> ?_) AllReadyH.nil)
      refine At rfl 36 _ _ rfl V.drew.heap.size xa ?_ ?_ 36 Ah ?_ ?_ ?_ ?_ ?_;exact rfl;exact rfl;exact (Aw (A7 (Af (Ac (Ac (Below.refl _ _) hD.bel) hX.bel) Ap) (Ab V.drew Ao)) (Nat.ne_of_lt (Bo (w :=V.drew) (o :=Ao) (Ac (Ac (Below.refl _ _) hD.bel) hX.bel))) _);exact hX.info;exact hX4.out;exact hX.one
      refine hK.out _ _ ?_ (fun hHeld=> ?_)
      ·exact (Below.row (Below.row (Af (Ac (Ac (Af (Below.refl V.heap.size V).drew Ao) hD.bel) hX.bel) Ap) (Ac (Ac (Af (Below.refl V.heap.size V).drew Ao) hD.bel) hX.bel).size _) ((Below.refl V.heap.size V).drew).size _)
      clear hK K
      try simp only [Act.put]
      refine wpAnyH_done (by kernel_rfl) ?_ _
      go_wp2_with fail
      go_meet
      case rel=>exact ⟨_,_,dv,xa,rfl,rfl,D8 (Af (Ac (Ac (Af (Below.refl V.heap.size V).drew Ao) hD.bel) hX.bel) Ap) (hD.at (Af (Ac (Below.refl _ _) hX.bel) Ap)) (hX.at (Af (Below.refl _ U3) Ap)) hD.size hX.size (Ac (Ac (Af (Below.refl V.heap.size V).drew Ao) hD.bel) hX.bel).size ((Below.refl V.heap.size V).drew).size (A7 (Below.refl _ _) (Ab U3 Ap)) (A7 (Af (Ac (Ac (Below.refl _ _) hD.bel) hX.bel) Ap) (Ab V.drew Ao)) (.inr (Ac (Below.refl _ _) hX.bel).size) (.inl (Bo (w :=V.drew) (o :=Ao) (Below.refl _ _))) (.inr (Nat.le_refl _)) (.inl (Bo (w :=V.drew) (o :=Ao) (Ac (Below.refl _ _) hD.bel)))⟩
    ·go_simp
     go_wp2_with fail
     refine hK.out _ _ ?_ (fun hHeld=> ?_)
     ·exact (Af (Ac (Af (Below.refl V.heap.size V).drew Ao) hD.bel) Ap)
     clear hK K
     try simp only [Act.put,List.setIfInBounds_toArray,List.set_cons_zero,List.set_cons_succ]
     refine wpAnyH_ready (rs := [3]) (by kernel_rfl) (by simp) ?_
     refine (AllReadyH.cons rfl (fun K hK=> ?_) AllReadyH.nil)
     ·go_simp
      (go_at_call 5;go_fit (HC3 _ (Af (Ac (Af (Below.refl V.heap.size V).drew Ao) hD.bel) Ap));rintro e U3 ⟨xa,rfl,hX⟩;have hX4 :Hid (20=xa.size) :=hX.size.symm)
      go_wp2_with fail
      refine hK.out _ _ ?_ (fun hHeld=> ?_)
      ·exact (Ac (Af (Ac (Af (Below.refl V.heap.size V).drew Ao) hD.bel) Ap) hX.bel)
      clear hK K
      try simp only [Act.put,List.setIfInBounds_toArray,List.set_cons_zero,List.set_cons_succ]
      refine wpAnyH_ready (rs := [6]) (by kernel_rfl) (by simp) ?_
      refine (AllReadyH.cons rfl (fun K hK=> ?_) AllReadyH.nil)
      refine At rfl 25 _ _ rfl U1.heap.size dv ?_ ?_ 25 #[.slice none 0 0, .slice none 0 0] ?_ ?_ ?_ ?_ ?_;exact rfl;exact rfl;exact (A7 (Ac (Below.refl _ _) hX.bel) (Ab U1 Ap));exact hD.info;exact hD4.out;exact hD.one
      refine hK.out _ _ ?_ (fun hHeld=> ?_)
      ·exact (Below.row (Ac (Af (Ac (Af (Below.refl V.heap.size V).drew Ao) hD.bel) Ap) hX.bel) (Ac (Af (Below.refl V.heap.size V).drew Ao) hD.bel).size _)
      clear hK K
      try simp only [Act.put]
      refine wpAnyH_ready (rs := [7]) (by kernel_rfl) (by simp) ?_
      refine (AllReadyH.cons rfl (fun K hK=> ?_) AllReadyH.nil)
      refine At rfl 36 _ _ rfl V.drew.heap.size xa ?_ ?_ 36 Ah ?_ ?_ ?_ ?_ ?_;exact rfl;exact rfl;exact (Aw (A7 (Ac (Af (Ac (Below.refl _ _) hD.bel) Ap) hX.bel) (Ab V.drew Ao)) (Nat.ne_of_lt (Bo (w :=V.drew) (o :=Ao) (Ac (Below.refl _ _) hD.bel))) _);exact hX.info;exact hX4.out;exact hX.one
      refine hK.out _ _ ?_ (fun hHeld=> ?_)
      ·exact (Below.row (Below.row (Ac (Af (Ac (Af (Below.refl V.heap.size V).drew Ao) hD.bel) Ap) hX.bel) (Ac (Af (Below.refl V.heap.size V).drew Ao) hD.bel).size _) ((Below.refl V.heap.size V).drew).size _)
      clear hK K
      try simp only [Act.put]
      refine wpAnyH_done (by kernel_rfl) ?_ _
      go_wp2_with fail
      go_meet
      case rel=>exact ⟨_,_,dv,xa,rfl,rfl,D8 (Ac (Af (Ac (Af (Below.refl V.heap.size V).drew Ao) hD.bel) Ap) hX.bel) (hD.at (Ac (Af (Below.refl _ U1) Ap) hX.bel)) (hX.at (Below.refl _ _)) hD.size hX.size (Ac (Af (Below.refl V.heap.size V).drew Ao) hD.bel).size ((Below.refl V.heap.size V).drew).size (A7 (Ac (Below.refl _ _) hX.bel) (Ab U1 Ap)) (A7 (Ac (Af (Ac (Below.refl _ _) hD.bel) Ap) hX.bel) (Ab V.drew Ao)) (.inr (Nat.le_refl _)) (.inl (Bo (w :=V.drew) (o :=Ao) (Below.refl _ _))) (.inl (Bo (w :=U1) (o :=Ap) (Below.refl _ _))) (.inl (Bo (w :=V.drew) (o :=Ao) (Af (Ac (Below.refl _ _) hD.bel) Ap)))⟩
   ·go_simp
    go_wp2_with fail
    refine hK.out _ _ ?_ (fun hHeld=> ?_)
    ·exact (Af (Af (Below.refl V.heap.size V).drew Ao) Ap)
    clear hK K
    try simp only [Act.put,List.setIfInBounds_toArray,List.set_cons_zero,List.set_cons_succ]
    refine wpAnyH_ready (rs := [1]) (by kernel_rfl) (by simp) ?_
    refine (AllReadyH.cons rfl (fun K hK=> ?_) AllReadyH.nil)
    ·go_simp
     (go_at_call 4;go_fit (HC1 _ (Af (Af (Below.refl V.heap.size V).drew Ao) Ap));rintro e U1 ⟨dv,rfl,hD⟩;have hD4 :Hid (2=dv.size) :=hD.size.symm)
     go_wp2_with fail
     refine hK.out _ _ ?_ (fun hHeld=> ?_)
     ·exact (Ac (Af (Af (Below.refl V.heap.size V).drew Ao) Ap) hD.bel)
     clear hK K
     try simp only [Act.put,List.setIfInBounds_toArray,List.set_cons_zero,List.set_cons_succ]
     refine wpAnyH_ready (rs := [3]) (by kernel_rfl) (by simp) ?_
     refine (AllReadyH.cons rfl (fun K hK=> ?_) AllReadyH.nil)
     ·go_simp
      (go_at_call 5;go_fit (HC3 _ (Ac (Af (Af (Below.refl V.heap.size V).drew Ao) Ap) hD.bel));rintro e U3 ⟨xa,rfl,hX⟩;have hX4 :Hid (20=xa.size) :=hX.size.symm)
      go_wp2_with fail
      refine hK.out _ _ ?_ (fun hHeld=> ?_)
      ·exact (Ac (Ac (Af (Af (Below.refl V.heap.size V).drew Ao) Ap) hD.bel) hX.bel)
      clear hK K
      try simp only [Act.put,List.setIfInBounds_toArray,List.set_cons_zero,List.set_cons_succ]
      refine wpAnyH_ready (rs := [6]) (by kernel_rfl) (by simp) ?_
      refine (AllReadyH.cons rfl (fun K hK=> ?_) AllReadyH.nil)
      refine At rfl 25 _ _ rfl (V.drew.heap.size+1) dv ?_ ?_ 25 #[.slice none 0 0, .slice none 0 0] ?_ ?_ ?_ ?_ ?_;exact rfl;exact rfl;exact (A7 (Ac (Ac (Below.refl _ _) hD.bel) hX.bel) (A0 V.drew Ao Ap));exact hD.info;exact hD4.out;exact hD.one
      refine hK.out _ _ ?_ (fun hHeld=> ?_)
      ·exact (Below.row (Ac (Ac (Af (Af (Below.refl V.heap.size V).drew Ao) Ap) hD.bel) hX.bel) (Nat.le_succ_of_le ((Below.refl V.heap.size V).drew).size) _)
      clear hK K
      try simp only [Act.put]
      refine wpAnyH_ready (rs := [7]) (by kernel_rfl) (by simp) ?_
      refine (AllReadyH.cons rfl (fun K hK=> ?_) AllReadyH.nil)
      refine At rfl 36 _ _ rfl V.drew.heap.size xa ?_ ?_ 36 Ah ?_ ?_ ?_ ?_ ?_;exact rfl;exact rfl;exact (Aw (A7 (Ac (Ac (Af (Below.refl _ (V.drew.alloc Ao)) Ap) hD.bel) hX.bel) (Ab V.drew Ao)) (Nat.ne_of_lt (Nat.lt_succ_self _)) _);exact hX.info;exact hX4.out;exact hX.one
      refine hK.out _ _ ?_ (fun hHeld=> ?_)
      ·exact (Below.row (Below.row (Ac (Ac (Af (Af (Below.refl V.heap.size V).drew Ao) Ap) hD.bel) hX.bel) (Nat.le_succ_of_le ((Below.refl V.heap.size V).drew).size) _) ((Below.refl V.heap.size V).drew).size _)
      clear hK K
      try simp only [Act.put]
      refine wpAnyH_done (by kernel_rfl) ?_ _
      go_wp2_with fail
      go_meet
      case rel=>exact ⟨_,_,dv,xa,rfl,rfl,D8 (Ac (Ac (Af (Af (Below.refl V.heap.size V).drew Ao) Ap) hD.bel) hX.bel) (hD.at (Ac (Below.refl _ _) hX.bel)) (hX.at (Below.refl _ _)) hD.size hX.size (Nat.le_succ_of_le ((Below.refl V.heap.size V).drew).size) ((Below.refl V.heap.size V).drew).size (A7 (Ac (Ac (Below.refl _ _) hD.bel) hX.bel) (A0 V.drew Ao Ap)) (A7 (Ac (Ac (Af (Below.refl _ (V.drew.alloc Ao)) Ap) hD.bel) hX.bel) (Ab V.drew Ao)) (.inl (Gs (w :=V.drew) (o :=Ao) (o2 :=Ap) (Below.refl _ _))) (.inl (Bo (w :=V.drew) (o :=Ao) (Af (Below.refl _ (V.drew.alloc Ao)) Ap))) (.inl (Gs (w :=V.drew) (o :=Ao) (o2 :=Ap) (Ac (Below.refl _ _) hD.bel))) (.inl (Bo (w :=V.drew) (o :=Ao) (Ac (Af (Below.refl _ (V.drew.alloc Ao)) Ap) hD.bel)))⟩
 case rest=>
  obtain ⟨pd,px,dv,xa,rfl,rfl,hD1,hX1,hb1⟩ :=hcut
  obtain ⟨V1,hV1⟩ : ∃V,V=wc := ⟨_,rfl⟩
  subst hV1
  have hC1 :=hC0.below hb1
  have hS1 :=hS0.below hb1
  have hbw1 :=hb2.trans (hb1.mono hb2.size)
  clear HC1 HC3 hC0 hS0 hb1 hb2
  obtain ⟨o,ho⟩ : ∃o,o=Bw ct st := ⟨_,rfl⟩
  have HO :Hid (o=Bw ct st) :=ho
  have HB :Calls Tryz.prog 6 #[.agg dv, .agg xa] V1 fun r w'=> ∃arr,r= .returned (.tuple #[.agg arr, .int .i64 (Ie o)]) ∧SbOk V1 w' o arr :=by
   have :=Po ct (.agg dv) st xa.toList V1.heap.size V1 hD1.is hX1.is (Nat.le_refl _) HF.out.fc HF.out.fb
   rw [Array.toArray_toList,←ho] at this
   exact this.mono fun _ _ h=>Y7 h
  clear ho
  go_upto_region 3 with (first | (refine wpList_load_row rfl 25 _ rfl pd ?_ 25 _ (0,0) _ hD1.blk Tryz.underlying25 ?_ ?_ ?_;exact rfl;exact rfl;exact hD1.info) | (refine wpList_load_row rfl 36 _ rfl px ?_ 36 _ (0,0) _ hX1.blk Tryz.underlying36 ?_ ?_ ?_;exact rfl;exact rfl;exact hX1.info) | (go_at_call 6;go_fit HB;rintro e U ⟨aa,rfl,hA⟩;have hA4 :Hid (20=aa.size) :=hA.size.symm) | (refine wpList_store_row rfl 36 _ _ rfl U.heap.size aa ?_ ?_ 36 Ah ?_ ?_ ?_ ?_ ?_;exact rfl;exact rfl;exact (Ab U (.cells Ah 36));exact hA.info;exact hA4.out;exact hA.one))
  have h1 :=Ty hA
  generalize hV2 : (U.alloc (.cells Ah 36)).setRow U.heap.size aa=V2 at*
  generalize U.heap.size=pa at*
  obtain ⟨hA2,hb12⟩ :=h1
  have hC2 :=hC1.below hb12
  have hS2 :=hS1.below hb12
  have hD2 :=hD1.below hb12
  have hX2 :=hX1.below hb12
  have hbw2 :=hbw1.trans (hb12.mono hbw1.size)
  clear hV2 hA hA4 HB hb12 hC1 hS1 hD1 hX1
  have HB :Calls Tryz.prog 7 #[.agg #[tv,iv], .agg arr] V2 fun r w'=> ∃arr,r= .returned (.tuple #[.agg arr, .int .i64 (Ie o)]) ∧SbOk V2 w' o arr :=by
   have :=Th ct (.agg #[tv,iv]) st arr V2.heap.size V2 hC2.is hS2.is (Nat.le_refl _) (HEN.out.next hbw2) HF.out
   rw [←HO.out] at this
   exact this.mono fun _ _ h=>Y7 h
  rename_i K3 hK3
  have HK3 :Hid _ :=hK3
  clear hK3
  go_wp2_with (first | (refine wpList_load_row rfl 25 _ rfl w.heap.size ?_ 25 _ (0,0) _ hC2.blk Tryz.underlying25 ?_ ?_ ?_;exact rfl;exact rfl;exact hC2.info) | (refine wpList_load_row rfl 36 _ rfl (w.heap.size+1) ?_ 36 _ (0,0) _ hS2.blk Tryz.underlying36 ?_ ?_ ?_;exact rfl;exact rfl;exact hS2.info) | (go_at_call 7;go_fit HB;rintro e U2 ⟨ba,rfl,hB⟩;have hB4 :Hid (20=ba.size) :=hB.size.symm) | (refine wpList_store_row rfl 36 _ _ rfl U2.heap.size ba ?_ ?_ 36 Ah ?_ ?_ ?_ ?_ ?_;exact rfl;exact rfl;exact (Ab U2 (.cells Ah 36));exact hB.info;exact hB4.out;exact hB.one))
  refine HK3.out _ _ ?_
  have h1 :=Ty hB
  generalize hV3 : (U2.alloc (.cells Ah 36)).setRow U2.heap.size ba=V at*
  generalize U2.heap.size=pb at*
  obtain ⟨hB,hb23⟩ :=h1
  have hC :=hC2.below hb23
  have hS :=hS2.below hb23
  have hD :=hD2.below hb23
  have hX :=hX2.below hb23
  have hA :=hA2.below hb23
  have hbw :=hbw2.trans (hb23.mono hbw2.size)
  clear hV3 hB4 HB hb23 hC2 hS2 hD2 hX2 hA2 hbw1 hbw2
  exact Yn ct st o tv iv arr w V pd px pa pb dv xa aa ba ⟨hbw,hC,hS,hD,hX,hA,hB⟩ HO HF HEN.out _ _ _ _ (by kernel_rfl)
end Go.Proofs.YtmgkcjiejmhgcaaGreatDoor


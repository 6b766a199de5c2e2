/-
  1 texts of this proof in one, in build order: WIns.
-/
import Derived.Test.YtmgkcjiejmhgcaaGreatDoorJ17
set_option linter.unusedSimpArgs false
set_option linter.unusedVariables false
namespace Go.Proofs.YtmgkcjiejmhgcaaGreatDoor
open Go.RowKit
open Go.Maps
theorem Rb {α :Type} (X cs1 cs2 cx :List α) (hX :X.take (cs1.length+cs2.length) =cs1++cs2) (hl :cs1.length+cx.length+cs2.length≤X.length) :
  (splice (splice X (cs1.length+cx.length) cs2) cs1.length cx).take (cs1.length+ (cx.length+cs2.length)) =cs1++ (cx++cs2) :=by
 have e1 :X.take cs1.length=cs1 :=by
  have :=congrArg (List.take cs1.length) hX
  rw [List.take_take,Nat.min_eq_left (by omega),List.take_left] at this
  exact this
 have hL : (splice X (cs1.length+cx.length) cs2).length=X.length :=length_splice _ _ _ hl
 have e2 : (splice X (cs1.length+cx.length) cs2).take cs1.length=cs1 :=by
  have :=congrArg (List.take cs1.length) (Jl X (cs1.length+cx.length) cs2 (by omega))
  rw [List.take_take,Nat.min_eq_left (by omega),List.take_take,Nat.min_eq_left (by omega),e1] at this
  exact this
 have e3 : ((splice X (cs1.length+cx.length) cs2).drop (cs1.length+cx.length)).take cs2.length=cs2 :=by
  have :=Ee X (cs1.length+cx.length) cs2 (by omega)
  rw [←List.take_append_drop (cs1.length+cx.length) (splice X (cs1.length+cx.length) cs2),Jl X _ _ (by omega)] at this
  generalize (splice X (cs1.length+cx.length) cs2).drop (cs1.length+cx.length) =D at this⊢
  have h3 :=congrArg (List.drop (cs1.length+cx.length)) this
  rw [List.drop_left' (by simp;omega),List.take_append] at h3
  rw [List.take_of_length_le (l :=X.take _) (by simp;omega),List.drop_left' (by simp;omega)] at h3
  rw [show cs1.length+cx.length+cs2.length - (X.take (cs1.length+cx.length)).length=cs2.length by simp;omega] at h3
  exact h3
 rw [splice,e2,List.take_append,List.take_of_length_le (l :=cs1) (by omega),show cs1.length+ (cx.length+cs2.length) - cs1.length=cx.length+cs2.length by omega,List.take_append,List.take_of_length_le (l :=cx) (by omega),show cx.length+cs2.length - cx.length=cs2.length by omega,e3]
theorem Rc {α :Type} (X cs1 cs2 cx :List α) (hX :X.take cs1.length=cs1) (hl :cs1.length+cx.length+cs2.length≤X.length) :
  (splice (splice X cs1.length cx) (cs1.length+cx.length) cs2).take (cs1.length+ (cx.length+cs2.length)) =cs1++ (cx++cs2) :=by
 have hL : (splice X cs1.length cx).length=X.length :=length_splice _ _ _ (by omega)
 rw [←Nat.add_assoc,Ee _ _ _ (by omega),Ee _ _ _ (by omega),hX]
 simp
set_option maxRecDepth 100000 in
set_option maxHeartbeats 8000000 in
theorem Aar (cs1 cs2 cx :List Value) (n1 n2 :Nat) (v :Value) (B vb :Nat) (w :World) (ho :w.ownsRow B 47 2 v (n1+n2) (cs1++cs2)) (h1 :cs1.length=n1*2) (h2 :cs2.length=n2*2) (hx :cx.length=2)
  (one : ∀u∈cs1++cs2,u.oneCell'=true) (onex : ∀u∈cx,u.oneCell'=true) (hn :n1+n2≤1000000) (hv :w.heap[vb]? =some (.cells cx.toArray 47)) (hne :v.ownBlock≠some vb) (hB :B≤w.heap.size) :
  Calls Tryz.prog 81 #[v, .int .i64 n1, .slice (some ⟨vb,0,none⟩) 1 1] w fun e w'=> ∃v',e= .returned v'∧w'.ownsRow B 47 2 v' (n1+n2+1) (cs1++ (cx++cs2)) ∧Below B w w' :=by
 obtain ⟨i0,hi0,hz0,hz1,hz2⟩ :=info_parts Na
 have hvw :=lt_of_block hv
 have hvc : ∀j u,cx[j]? =some u→w.cell? ((⟨vb,0,none⟩ :Addr).add j) =some u :=fun j u hj=>by
  rw [Addr.add_lit,Nat.zero_add];exact Aa hv (by simpa using hj)
 rcases Nat.eq_zero_or_pos n2 with rfl | h0
 ·obtain rfl :cs2= [] :=List.eq_nil_of_length_eq_zero (by omega)
  simp only [List.append_nil,Nat.add_zero] at ho hn⊢
  have HV :Hid _ :=hvc
  have hgo : ∀ao cap,v= .slice ao n1 cap→ (ao=none→n1=0∧cap=0) → (∀a,ao=some a→ ∃g,a= ⟨g,0,none⟩) →Calls Tryz.prog 81 #[v, .int .i64 n1, .slice (some ⟨vb,0,none⟩) 1 1] w fun e w'=> ∃v',e= .returned v'∧w'.ownsRow B 47 2 v' (n1+1) (cs1++cx) ∧Below B w w' :=by
   intro ao cap hve hnil hsome
   subst hve
   have HO :Hid _ :=ho
   have fin : ∀v' w',w'.ownsRow B 47 2 v' (n1+1) (cs1++cx) →w.grownBy w' (Value.slice ao n1 cap).ownBlock→Below B w w' :=fun v' w' _ hg=> (Below.refl _ _).grown hg hB fun k hk=> (ho.lt k hk).1
   clear ho hvc
   cases ao with
   | none=>
    obtain ⟨rfl,rfl⟩ :=hnil rfl
    go_enter Tryz.func81,Tryz.ntmps81
    go_wp2_with (at_builtin;refine wpList_append_own_at _ rfl _ _ 22 rfl B 47 i0 (.agg #[.string ⟨#[]⟩, .slice none 0 0]) 2 40 Tryz.underlying22 hi0 hz0 hz1 hz2 rfl (by decide) _ _ _ rfl HO.out ⟨vb,0,none⟩ 1 1 cx rfl hx HV.out onex (by decide) (by decide) hB ?_)
    intro v' w1 hown hgrow _ _
    go_wp2
    go_ret
    exact ⟨v',rfl,hown,fin _ _ hown hgrow⟩
   | some a=>
    obtain ⟨g,rfl⟩ :=hsome a rfl
    by_cases hcn :cap=n1
    all_goals
     go_enter Tryz.func81,Tryz.ntmps81
     go_wp2_with (at_builtin;refine wpList_append_own_at _ rfl _ _ 22 rfl B 47 i0 (.agg #[.string ⟨#[]⟩, .slice none 0 0]) 2 40 Tryz.underlying22 hi0 hz0 hz1 hz2 rfl (by decide) _ _ _ rfl HO.out ⟨vb,0,none⟩ 1 1 cx rfl hx HV.out onex (by simp only [maxLen];omega) (by omega) hB ?_)
     intro v' w1 hown hgrow _ _
     go_wp2
     go_ret
     exact ⟨v',rfl,hown,fin _ _ hown hgrow⟩
  rcases Gn ho with ⟨rfl,rfl⟩ | ⟨g,cap,X,rfl,_,_,_,_,_,_⟩
  ·exact hgo none 0 rfl (fun _=> ⟨rfl,rfl⟩) (fun a h=>by cases h)
  ·exact hgo _ cap rfl (fun h=>by cases h) (fun a h=>by cases h;exact ⟨_,rfl⟩)
 ·rcases Gn ho with ⟨rfl,hz⟩ | ⟨g,cap,X,rfl,hBg,hX,hncap,hcapm,hXl,hXt⟩
  ·omega
  have hgw :=lt_of_block hX
  have hvb :vb≠g :=by rintro rfl;exact hne rfl
  have hlen :X.length=cap*2 :=hXl
  have one1 : ∀u∈cs2,u.oneCell'=true :=fun u hu=>one u (by simp [hu])
  have hsrc2 : ∀j u,cs2[j]? =some u→X[n1*2+j]? =some u :=fun j u hj=>by
   have hjl := (List.getElem?_eq_some_iff.1 hj).1
   have : (cs1++cs2)[n1*2+j]? =some u :=by rw [←h1,List.getElem?_append_right (by omega),Nat.add_sub_cancel_left];exact hj
   rw [←hXt,List.getElem?_take_of_lt (by omega)] at this
   exact this
  simp only [maxLen] at hcapm
  have q1 : ¬ ((n1 :Int) = ((n1+n2 :Nat) :Int)) :=by omega
  have q2 : ¬ (cap=n1) :=by omega
  have q3 : (n1 :Int) ≤ ((n1+n2 :Nat) :Int) :=by omega
  by_cases hroom :n1+n2+1≤cap
  ·have hov : ∀o lb cb,(callFunc 112 #[.slice (some ⟨vb,0,none⟩) 1 1, .slice (some ⟨g,o,none⟩) lb cb]).run Tryz.prog w= .ok (.value (.bool false)) w :=fun o lb cb=>by
    rw [run_callFunc_extern Tryz.func112 (by kernel_rfl) (by kernel_rfl) (by kernel_rfl) (e :=Extern.SlicesOverlaps.overlaps #[22,22] #[4]) (by kernel_rfl),
     Lib.run_overlaps_apart w 22 4 47 Tryz.underlying22 2 Tryz.sizeOf47 ⟨vb,0,none⟩ ⟨g,o,none⟩ 1 1 lb cb hvb 47 47 2 X.length (by simp [World.shape?,hv,hx]) (by simp [World.shape?,hX]) (by omega) (by simp [World.frozen?,hv]) (by simp [World.frozen?,hv])]
    rfl
   have r1 : ((n1+n2 :Nat) :Int) +1≤ (cap :Int) :=by omega
   have r2 : ¬ (cap=n1+1) :=by omega
   have r3 : ¬ ((cap :Int) < ((n1+n2 :Nat) :Int) +1) :=by omega
   have r4 : (n1 :Int) +1≤ ((n1+n2 :Nat) :Int) +1 :=by omega
   have r5 : (n1 :Int) ≤ ((n1+n2 :Nat) :Int) +1 :=by omega
   have hw1 :IntKind.i64.wrap ((n1 :Int) +1) = (n1 :Int) +1 :=by rw [IntKind.wrap_i64];omega
   have hb1 : (0 :Int) ≤ (n1 :Int) +1 :=by omega
   have htn : ((n1 :Int) +1).toNat=n1+1 :=by omega
   have HXT :Hid (X.take ((n1+n2) *2) =cs1++cs2) :=hXt
   have HS2 :Hid _ :=hsrc2
   have HOV :Hid _ :=hov
   have hm1 :cs2.length=Nat.min (n1+n2+1 - n1) (n1+n2+1 - (n1+1)) *2 :=by simp only [Nat.min_def];split<;>omega
   have hm2 :cs2.length=Nat.min (n1+n2+1 - n1) (n1+n2 - n1) *2 :=by simp only [Nat.min_def];split<;>omega
   have hm3 :cx.length=Nat.min 1 (n1+n2+1 - n1) *2 :=by simp only [Nat.min_def];split<;>omega
   have hf1 : (n1+1) *2+cs2.length≤X.length :=by omega
   have HF2 :Hid (n1*2+cx.length≤X.length) := (by omega :_≤_)
   have HM :Hid _ :=And.intro hm1 hm2
   have HM3 :Hid _ :=hm3
   have HEND :Hid _ :=Rb X cs1 cs2 cx (by rw [h1,h2,←Nat.add_mul];exact hXt) (by omega)
   have HL2 :Hid _ :=length_splice X ((n1+1) *2) cs2 hf1
   clear hm1 hm2 hm3
   generalize hnn :n1+n2=n at*
   have HNN :Hid _ :=hnn
   clear hXt hsrc2 ho hov hnn
   go_enter Tryz.func81,Tryz.ntmps81
   go_wp2_with (simp only [HOV.out])
   go_region_law (refine Ht (by rfl) _ _ 22 22 (by rfl) 47 2 Tryz.underlying22 Cj g ((n1+1) *2) (n - n1) (cap - (n1+1)) ⟨g,n1*2,none⟩ (n+1 - n1) (cap - n1) (by simp [Act.eval,Act.put]) (by simp [Act.eval,Act.put]) X 47 (by exact hX) cs2 HM.out.2 (fun j u hj=>by rw [Addr.add_lit];exact Aa (w :=w) hX (by have :=HS2.out j u hj;simpa using this)) hf1 one1 ?_;intro w2 hX2 hg2)
   have hv2 := (hg2.block vb hvw (fun e=>hvb (by cases e;rfl))).trans hv
   have HV2 :Hid (∀j u,cx[j]? =some u→w2.cell? ((⟨vb,0,none⟩ :Addr).add j) =some u) :=fun j u hj=>by rw [Addr.add_lit,Nat.zero_add];exact Aa hv2 (by simpa using hj)
   have HX2 :Hid _ :=hX2
   clear hX2
   obtain ⟨w3,hrun,hX3,hg3⟩ :=Hs (P :=Tryz.prog) (w :=w2) 22 22 47 2 Tryz.underlying22 Cj g (n1*2) (n+1 - n1) (cap - n1) ⟨vb,0,none⟩ 1 1 _ 47 HX2.out cx HM3.out HV2.out (by rw [HL2.out];exact HF2.out) onex
   have HX3 :Hid _ :=hX3
   clear hX3
   go_wp2
   go_ret
   have hgg :w.grownBy w3 (some g) :=Ci (Cw _ ((Below.refl _ w).drew)) (Ci hg2 hg3)
   refine ⟨_,rfl, ?_,Hd hgg hBg hB⟩
   have e1 :=HEND.out
   rw [h1,hx,h2] at e1
   rw [show n1*2+2= (n1+1) *2 by omega] at e1
   refine Iv hBg HX3.out hroom (by simp only [maxLen];exact hcapm) ?_ ?_
   ·rw [length_splice _ _ _ (by rw [HL2.out];exact HF2.out),HL2.out];exact hXl
   ·rw [←e1,show n1*2+ (2+n2*2) = (n+1) *2 by have :=HNN.out;omega]
  ·obtain rfl :cap=n1+n2 :=by omega
   have hkk : ((n1+n2 :Nat) :Int) +1 - (n1 :Int) = ((n2+1 :Nat) :Int) :=by omega
   have hG :grownCap w (n1+ (n2+1)) (n1+n2) 47≤maxLen :=grownCap_le_maxLen w (n1+ (n2+1)) (n1+n2) _ (by unfold maxLen;omega)
   have hGe :=grownCap_ge w (n1+ (n2+1)) (n1+n2) 47
   have hold : (Builtin.firstCells i0.size n1 (.slice (some ⟨g,0,none⟩) n1 (n1+n2))).run Tryz.prog w.drew= .ok cs1.toArray w.drew :=by
    rw [hz1]
    exact run_firstCells_some w.drew 2 n1 ⟨g,0,none⟩ n1 (n1+n2) cs1 h1 (fun j u hj=>by
     rw [Addr.add_lit,Nat.zero_add]
     have hjl := (List.getElem?_eq_some_iff.1 hj).1
     refine Aa (w :=w) hX ?_
     have : (cs1++cs2)[j]? =some u :=by rw [List.getElem?_append_left hjl];exact hj
     rw [←hXt,List.getElem?_take_of_lt (by omega)] at this
     simpa using this)
   have hrz : ∀ty,(Builtin.append_ #[22,3] ty #[.slice (some ⟨g,0,none⟩) n1 (n1+n2), .int .i64 (((n1+n2 :Nat) :Int) +1 - (n1 :Int))]).run Tryz.prog w= .ok (.slice (some ⟨w.heap.size,0,none⟩) (n1+ (n2+1)) (grownCap w (n1+ (n2+1)) (n1+n2) 47)) (w.drew.alloc (.cells (cs1.toArray++Builtin.zeroCells ((.agg #[.string ⟨#[]⟩, .slice none 0 0]) :Value).cells (n2+1) ++Builtin.zeroCells ((.agg #[.string ⟨#[]⟩, .slice none 0 0]) :Value).cells (grownCap w (n1+ (n2+1)) (n1+n2) 47 - (n1+ (n2+1)))) 47)) :=fun ty=>by
    rw [hkk]
    exact Lib.run_append_grow_zeros w 22 3 ty 47 i0 _ .i64 .i64 Tryz.underlying22 Tryz.underlying3 hi0 hz0 (some ⟨g,0,none⟩) n1 (n1+n2) cs1 hold (n2+1) (by omega) (by rw [hz1];decide) (by omega) (by omega) (by simp only [hz2];exact Nat.le_trans (Nat.mul_le_mul_right 40 (show n2+1≤1000001 by omega)) (by decide)) (by simp only [hz2];exact growslice_fits (by omega) (Nat.le_trans (Nat.mul_le_mul_right 40 (show n1+ (n2+1) ≤1000001 by omega)) (by decide)))
   generalize hGG :grownCap w (n1+ (n2+1)) (n1+n2) 47=G at*
   obtain ⟨Y,hY⟩ : ∃Y :List Value,Y.toArray=cs1.toArray++Builtin.zeroCells ((.agg #[.string ⟨#[]⟩, .slice none 0 0]) :Value).cells (n2+1) ++Builtin.zeroCells ((.agg #[.string ⟨#[]⟩, .slice none 0 0]) :Value).cells (G - (n1+ (n2+1))) := ⟨_,Array.toArray_toList⟩
   rw [←hY] at hrz
   have hYl :Y.length=G*2 :=by
    have :=congrArg Array.size hY
    rw [List.size_toArray,Array.size_append,Array.size_append] at this
    simp only [Builtin.zeroCells,Array.size_map,Array.size_range,List.size_toArray,Value.cells] at this
    rw [this,h1]
    simp
    try omega
   have hYt :Y.take cs1.length=cs1 :=by
    have :=congrArg Array.toList hY
    simp only [Array.toList_append] at this
    rw [this,List.append_assoc,List.take_left]
   generalize hW1 : (w.drew.alloc (.cells Y.toArray 47)) =W1 at hrz
   have hb1 :W1.heap[w.heap.size]? =some (.cells Y.toArray 47) :=by rw [←hW1];exact Ab w.drew _
   have hbl :Below w.heap.size w W1 :=by rw [←hW1];exact ((Below.refl _ w).drew).alloc (Nat.le_refl _) _
   have hv2 := (hbl.block vb hvw).trans hv
   have HV2 : ∀j u,cx[j]? =some u→W1.cell? ((⟨vb,0,none⟩ :Addr).add j) =some u :=fun j u hj=>by rw [Addr.add_lit,Nat.zero_add];exact Aa hv2 (by simpa using hj)
   have hm3 :cx.length=Nat.min 1 (n1+ (n2+1) - n1) *2 :=by simp only [Nat.min_def];split<;>omega
   obtain ⟨w3,hrun3,hX3,hg3⟩ :=Hs (P :=Tryz.prog) (w :=W1) 22 22 47 2 Tryz.underlying22 Cj w.heap.size (n1*2) (n1+ (n2+1) - n1) (G - n1) ⟨vb,0,none⟩ 1 1 _ 47 hb1 cx hm3 HV2 (by omega) onex
   have hL3 : (splice Y (n1*2) cx).length=Y.length :=length_splice _ _ _ (by omega)
   have hXg :w3.heap[g]? =some (.cells X.toArray 47) := ((hg3.block g (Nat.lt_of_lt_of_le hgw hbl.size) (fun e=>by cases e;omega)).trans (hbl.block g hgw)).trans hX
   have hm4 :cs2.length=Nat.min (n1+n2 - n1) (n1+ (n2+1) - (n1+1)) *2 :=by simp only [Nat.min_def];split<;>omega
   have HEND :Hid _ :=Rc Y cs1 cs2 cx hYt (by omega)
   have hw1 :IntKind.i64.wrap ((n1 :Int) +1) = (n1 :Int) +1 :=by rw [IntKind.wrap_i64];omega
   have hbb1 : (0 :Int) ≤ (n1 :Int) +1 :=by omega
   have htn : ((n1 :Int) +1).toNat=n1+1 :=by omega
   have s1 : ((n1+n2 :Nat) :Int) < ((n1+n2 :Nat) :Int) +1 :=by omega
   have s2 : ¬ (G=n1) :=by omega
   have s3 : ¬ (G=n1+1) :=by omega
   have s4 : (n1 :Int) ≤ ((n1+ (n2+1) :Nat) :Int) :=by omega
   have s5 : (n1 :Int) +1≤ ((n1+ (n2+1) :Nat) :Int) :=by omega
   have hfit4 : (n1+1) *2+cs2.length≤ (splice Y (n1*2) cx).length :=by omega
   have HS2 :Hid _ :=hsrc2
   have HM4 :Hid _ :=hm4
   have HF4 :Hid _ :=hfit4
   have HX3 :Hid _ :=hX3
   have hnn :Hid (n1+ (n2+1) =n1+n2+1) := (by omega :_=_)
   have hG1 :Hid (n1+n2+1≤G) := (by omega :_≤_)
   have HYL :Hid _ :=hL3.trans hYl
   clear hm3 hm4 hfit4 hsrc2 hX3 hXt hYt hold ho hW1 hY hL3 hYl hGe
   generalize hn1 :n1+ (n2+1) =N1 at*
   generalize hn0 :n1+n2=n at*
   have HN0 :Hid _ :=hn0
   have HN1 :Hid _ :=hn1
   clear hn0 hn1 hkk
   go_enter Tryz.func81,Tryz.ntmps81
   go_wp2_with (at_builtin;refine Lib.wpList_append_run _ rfl _ _ _ _ rfl _ _ rfl rfl _ _ (hrz _) ?_)
   go_region_law (refine Ht (by rfl) _ _ 22 22 (by rfl) 47 2 Tryz.underlying22 Cj w.heap.size ((n1+1) *2) (N1 - (n1+1)) (G - (n1+1)) ⟨g,n1*2,none⟩ (n - n1) (n - n1) (by simp [Act.eval,Act.put]) (by simp [Act.eval,Act.put]) _ 47 (by exact HX3.out) cs2 HM4.out (fun j u hj=>by rw [Addr.add_lit];exact Aa (w :=w3) hXg (by have :=HS2.out j u hj;simpa using this)) HF4.out one1 ?_;intro w4 hX4 hg4)
   have HX4 :Hid _ :=hX4
   clear hX4
   go_wp2
   go_ret
   have hgg :W1.grownBy w4 (some w.heap.size) :=Ci hg3 (Ci (Cw _ ((Below.refl _ w3).drew)) hg4)
   have hbb :Below w.heap.size w w4 :=hbl.trans (Hd hgg (Nat.le_refl _) hbl.size)
   refine ⟨_,rfl, ?_,hbb.mono hB⟩
   have e1 :=HEND.out
   rw [h1,hx,h2] at e1
   rw [show n1*2+2= (n1+1) *2 by omega] at e1
   have hN :N1=n+1 :=by have a1 :=HN0.out;have a2 :=HN1.out;omega
   subst hN
   refine Iv hB HX4.out hG1.out hG ?_ ?_
   ·rw [length_splice _ _ _ HF4.out];exact HYL.out
   ·rw [←e1,show n1*2+ (2+n2*2) = (n+1) *2 by have :=HN0.out;omega]
set_option maxRecDepth 100000 in
set_option maxHeartbeats 8000000 in
theorem Aas (cs1 cs2 cx :List Value) (n1 n2 :Nat) (v :Value) (B vb :Nat) (w :World) (ho :w.ownsRow B 64 3 v (n1+n2) (cs1++cs2)) (h1 :cs1.length=n1*3) (h2 :cs2.length=n2*3) (hx :cx.length=3)
  (one : ∀u∈cs1++cs2,u.oneCell'=true) (onex : ∀u∈cx,u.oneCell'=true) (hn :n1+n2≤1000000) (hv :w.heap[vb]? =some (.cells cx.toArray 64)) (hne :v.ownBlock≠some vb) (hB :B≤w.heap.size) :
  Calls Tryz.prog 85 #[v, .int .i64 n1, .slice (some ⟨vb,0,none⟩) 1 1] w fun e w'=> ∃v',e= .returned v'∧w'.ownsRow B 64 3 v' (n1+n2+1) (cs1++ (cx++cs2)) ∧Below B w w' :=by
 obtain ⟨i0,hi0,hz0,hz1,hz2⟩ :=info_parts Nb
 have hvw :=lt_of_block hv
 have hvc : ∀j u,cx[j]? =some u→w.cell? ((⟨vb,0,none⟩ :Addr).add j) =some u :=fun j u hj=>by
  rw [Addr.add_lit,Nat.zero_add];exact Aa hv (by simpa using hj)
 rcases Nat.eq_zero_or_pos n2 with rfl | h0
 ·obtain rfl :cs2= [] :=List.eq_nil_of_length_eq_zero (by omega)
  simp only [List.append_nil,Nat.add_zero] at ho hn⊢
  have HV :Hid _ :=hvc
  have hgo : ∀ao cap,v= .slice ao n1 cap→ (ao=none→n1=0∧cap=0) → (∀a,ao=some a→ ∃g,a= ⟨g,0,none⟩) →Calls Tryz.prog 85 #[v, .int .i64 n1, .slice (some ⟨vb,0,none⟩) 1 1] w fun e w'=> ∃v',e= .returned v'∧w'.ownsRow B 64 3 v' (n1+1) (cs1++cx) ∧Below B w w' :=by
   intro ao cap hve hnil hsome
   subst hve
   have HO :Hid _ :=ho
   have fin : ∀v' w',w'.ownsRow B 64 3 v' (n1+1) (cs1++cx) →w.grownBy w' (Value.slice ao n1 cap).ownBlock→Below B w w' :=fun v' w' _ hg=> (Below.refl _ _).grown hg hB fun k hk=> (ho.lt k hk).1
   clear ho hvc
   cases ao with
   | none=>
    obtain ⟨rfl,rfl⟩ :=hnil rfl
    go_enter Tryz.func85,Tryz.ntmps85
    go_wp2_with (at_builtin;refine wpList_append_own_at _ rfl _ _ 23 rfl B 64 i0 (.agg #[.string ⟨#[]⟩, .string ⟨#[]⟩, .string ⟨#[]⟩]) 3 48 Tryz.underlying23 hi0 hz0 hz1 hz2 rfl (by decide) _ _ _ rfl HO.out ⟨vb,0,none⟩ 1 1 cx rfl hx HV.out onex (by decide) (by decide) hB ?_)
    intro v' w1 hown hgrow _ _
    go_wp2
    go_ret
    exact ⟨v',rfl,hown,fin _ _ hown hgrow⟩
   | some a=>
    obtain ⟨g,rfl⟩ :=hsome a rfl
    by_cases hcn :cap=n1
    all_goals
     go_enter Tryz.func85,Tryz.ntmps85
     go_wp2_with (at_builtin;refine wpList_append_own_at _ rfl _ _ 23 rfl B 64 i0 (.agg #[.string ⟨#[]⟩, .string ⟨#[]⟩, .string ⟨#[]⟩]) 3 48 Tryz.underlying23 hi0 hz0 hz1 hz2 rfl (by decide) _ _ _ rfl HO.out ⟨vb,0,none⟩ 1 1 cx rfl hx HV.out onex (by simp only [maxLen];omega) (by omega) hB ?_)
     intro v' w1 hown hgrow _ _
     go_wp2
     go_ret
     exact ⟨v',rfl,hown,fin _ _ hown hgrow⟩
  rcases Gn ho with ⟨rfl,rfl⟩ | ⟨g,cap,X,rfl,_,_,_,_,_,_⟩
  ·exact hgo none 0 rfl (fun _=> ⟨rfl,rfl⟩) (fun a h=>by cases h)
  ·exact hgo _ cap rfl (fun h=>by cases h) (fun a h=>by cases h;exact ⟨_,rfl⟩)
 ·rcases Gn ho with ⟨rfl,hz⟩ | ⟨g,cap,X,rfl,hBg,hX,hncap,hcapm,hXl,hXt⟩
  ·omega
  have hgw :=lt_of_block hX
  have hvb :vb≠g :=by rintro rfl;exact hne rfl
  have hlen :X.length=cap*3 :=hXl
  have one1 : ∀u∈cs2,u.oneCell'=true :=fun u hu=>one u (by simp [hu])
  have hsrc2 : ∀j u,cs2[j]? =some u→X[n1*3+j]? =some u :=fun j u hj=>by
   have hjl := (List.getElem?_eq_some_iff.1 hj).1
   have : (cs1++cs2)[n1*3+j]? =some u :=by rw [←h1,List.getElem?_append_right (by omega),Nat.add_sub_cancel_left];exact hj
   rw [←hXt,List.getElem?_take_of_lt (by omega)] at this
   exact this
  simp only [maxLen] at hcapm
  have q1 : ¬ ((n1 :Int) = ((n1+n2 :Nat) :Int)) :=by omega
  have q2 : ¬ (cap=n1) :=by omega
  have q3 : (n1 :Int) ≤ ((n1+n2 :Nat) :Int) :=by omega
  by_cases hroom :n1+n2+1≤cap
  ·have hov : ∀o lb cb,(callFunc 114 #[.slice (some ⟨vb,0,none⟩) 1 1, .slice (some ⟨g,o,none⟩) lb cb]).run Tryz.prog w= .ok (.value (.bool false)) w :=fun o lb cb=>by
    rw [run_callFunc_extern Tryz.func114 (by kernel_rfl) (by kernel_rfl) (by kernel_rfl) (e :=Extern.SlicesOverlaps.overlaps #[23,23] #[4]) (by kernel_rfl),
     Lib.run_overlaps_apart w 23 4 64 Tryz.underlying23 3 Tryz.sizeOf64 ⟨vb,0,none⟩ ⟨g,o,none⟩ 1 1 lb cb hvb 64 64 3 X.length (by simp [World.shape?,hv,hx]) (by simp [World.shape?,hX]) (by omega) (by simp [World.frozen?,hv]) (by simp [World.frozen?,hv])]
    rfl
   have r1 : ((n1+n2 :Nat) :Int) +1≤ (cap :Int) :=by omega
   have r2 : ¬ (cap=n1+1) :=by omega
   have r3 : ¬ ((cap :Int) < ((n1+n2 :Nat) :Int) +1) :=by omega
   have r4 : (n1 :Int) +1≤ ((n1+n2 :Nat) :Int) +1 :=by omega
   have r5 : (n1 :Int) ≤ ((n1+n2 :Nat) :Int) +1 :=by omega
   have hw1 :IntKind.i64.wrap ((n1 :Int) +1) = (n1 :Int) +1 :=by rw [IntKind.wrap_i64];omega
   have hb1 : (0 :Int) ≤ (n1 :Int) +1 :=by omega
   have htn : ((n1 :Int) +1).toNat=n1+1 :=by omega
   have HXT :Hid (X.take ((n1+n2) *3) =cs1++cs2) :=hXt
   have HS2 :Hid _ :=hsrc2
   have HOV :Hid _ :=hov
   have hm1 :cs2.length=Nat.min (n1+n2+1 - n1) (n1+n2+1 - (n1+1)) *3 :=by simp only [Nat.min_def];split<;>omega
   have hm2 :cs2.length=Nat.min (n1+n2+1 - n1) (n1+n2 - n1) *3 :=by simp only [Nat.min_def];split<;>omega
   have hm3 :cx.length=Nat.min 1 (n1+n2+1 - n1) *3 :=by simp only [Nat.min_def];split<;>omega
   have hf1 : (n1+1) *3+cs2.length≤X.length :=by omega
   have HF2 :Hid (n1*3+cx.length≤X.length) := (by omega :_≤_)
   have HM :Hid _ :=And.intro hm1 hm2
   have HM3 :Hid _ :=hm3
   have HEND :Hid _ :=Rb X cs1 cs2 cx (by rw [h1,h2,←Nat.add_mul];exact hXt) (by omega)
   have HL2 :Hid _ :=length_splice X ((n1+1) *3) cs2 hf1
   clear hm1 hm2 hm3
   generalize hnn :n1+n2=n at*
   have HNN :Hid _ :=hnn
   clear hXt hsrc2 ho hov hnn
   go_enter Tryz.func85,Tryz.ntmps85
   go_wp2_with (simp only [HOV.out])
   go_region_law (refine Ht (by rfl) _ _ 23 23 (by rfl) 64 3 Tryz.underlying23 Hf g ((n1+1) *3) (n - n1) (cap - (n1+1)) ⟨g,n1*3,none⟩ (n+1 - n1) (cap - n1) (by simp [Act.eval,Act.put]) (by simp [Act.eval,Act.put]) X 64 (by exact hX) cs2 HM.out.2 (fun j u hj=>by rw [Addr.add_lit];exact Aa (w :=w) hX (by have :=HS2.out j u hj;simpa using this)) hf1 one1 ?_;intro w2 hX2 hg2)
   have hv2 := (hg2.block vb hvw (fun e=>hvb (by cases e;rfl))).trans hv
   have HV2 :Hid (∀j u,cx[j]? =some u→w2.cell? ((⟨vb,0,none⟩ :Addr).add j) =some u) :=fun j u hj=>by rw [Addr.add_lit,Nat.zero_add];exact Aa hv2 (by simpa using hj)
   have HX2 :Hid _ :=hX2
   clear hX2
   obtain ⟨w3,hrun,hX3,hg3⟩ :=Hs (P :=Tryz.prog) (w :=w2) 23 23 64 3 Tryz.underlying23 Hf g (n1*3) (n+1 - n1) (cap - n1) ⟨vb,0,none⟩ 1 1 _ 64 HX2.out cx HM3.out HV2.out (by rw [HL2.out];exact HF2.out) onex
   have HX3 :Hid _ :=hX3
   clear hX3
   go_wp2
   go_ret
   have hgg :w.grownBy w3 (some g) :=Ci (Cw _ ((Below.refl _ w).drew)) (Ci hg2 hg3)
   refine ⟨_,rfl, ?_,Hd hgg hBg hB⟩
   have e1 :=HEND.out
   rw [h1,hx,h2] at e1
   rw [show n1*3+3= (n1+1) *3 by omega] at e1
   refine Iv hBg HX3.out hroom (by simp only [maxLen];exact hcapm) ?_ ?_
   ·rw [length_splice _ _ _ (by rw [HL2.out];exact HF2.out),HL2.out];exact hXl
   ·rw [←e1,show n1*3+ (3+n2*3) = (n+1) *3 by have :=HNN.out;omega]
  ·obtain rfl :cap=n1+n2 :=by omega
   have hkk : ((n1+n2 :Nat) :Int) +1 - (n1 :Int) = ((n2+1 :Nat) :Int) :=by omega
   have hG :grownCap w (n1+ (n2+1)) (n1+n2) 64≤maxLen :=grownCap_le_maxLen w (n1+ (n2+1)) (n1+n2) _ (by unfold maxLen;omega)
   have hGe :=grownCap_ge w (n1+ (n2+1)) (n1+n2) 64
   have hold : (Builtin.firstCells i0.size n1 (.slice (some ⟨g,0,none⟩) n1 (n1+n2))).run Tryz.prog w.drew= .ok cs1.toArray w.drew :=by
    rw [hz1]
    exact run_firstCells_some w.drew 3 n1 ⟨g,0,none⟩ n1 (n1+n2) cs1 h1 (fun j u hj=>by
     rw [Addr.add_lit,Nat.zero_add]
     have hjl := (List.getElem?_eq_some_iff.1 hj).1
     refine Aa (w :=w) hX ?_
     have : (cs1++cs2)[j]? =some u :=by rw [List.getElem?_append_left hjl];exact hj
     rw [←hXt,List.getElem?_take_of_lt (by omega)] at this
     simpa using this)
   have hrz : ∀ty,(Builtin.append_ #[23,3] ty #[.slice (some ⟨g,0,none⟩) n1 (n1+n2), .int .i64 (((n1+n2 :Nat) :Int) +1 - (n1 :Int))]).run Tryz.prog w= .ok (.slice (some ⟨w.heap.size,0,none⟩) (n1+ (n2+1)) (grownCap w (n1+ (n2+1)) (n1+n2) 64)) (w.drew.alloc (.cells (cs1.toArray++Builtin.zeroCells ((.agg #[.string ⟨#[]⟩, .string ⟨#[]⟩, .string ⟨#[]⟩]) :Value).cells (n2+1) ++Builtin.zeroCells ((.agg #[.string ⟨#[]⟩, .string ⟨#[]⟩, .string ⟨#[]⟩]) :Value).cells (grownCap w (n1+ (n2+1)) (n1+n2) 64 - (n1+ (n2+1)))) 64)) :=fun ty=>by
    rw [hkk]
    exact Lib.run_append_grow_zeros w 23 3 ty 64 i0 _ .i64 .i64 Tryz.underlying23 Tryz.underlying3 hi0 hz0 (some ⟨g,0,none⟩) n1 (n1+n2) cs1 hold (n2+1) (by omega) (by rw [hz1];decide) (by omega) (by omega) (by simp only [hz2];exact Nat.le_trans (Nat.mul_le_mul_right 48 (show n2+1≤1000001 by omega)) (by decide)) (by simp only [hz2];exact growslice_fits (by omega) (Nat.le_trans (Nat.mul_le_mul_right 48 (show n1+ (n2+1) ≤1000001 by omega)) (by decide)))
   generalize hGG :grownCap w (n1+ (n2+1)) (n1+n2) 64=G at*
   obtain ⟨Y,hY⟩ : ∃Y :List Value,Y.toArray=cs1.toArray++Builtin.zeroCells ((.agg #[.string ⟨#[]⟩, .string ⟨#[]⟩, .string ⟨#[]⟩]) :Value).cells (n2+1) ++Builtin.zeroCells ((.agg #[.string ⟨#[]⟩, .string ⟨#[]⟩, .string ⟨#[]⟩]) :Value).cells (G - (n1+ (n2+1))) := ⟨_,Array.toArray_toList⟩
   rw [←hY] at hrz
   have hYl :Y.length=G*3 :=by
    have :=congrArg Array.size hY
    rw [List.size_toArray,Array.size_append,Array.size_append] at this
    simp only [Builtin.zeroCells,Array.size_map,Array.size_range,List.size_toArray,Value.cells] at this
    rw [this,h1]
    simp
    try omega
   have hYt :Y.take cs1.length=cs1 :=by
    have :=congrArg Array.toList hY
    simp only [Array.toList_append] at this
    rw [this,List.append_assoc,List.take_left]
   generalize hW1 : (w.drew.alloc (.cells Y.toArray 64)) =W1 at hrz
   have hb1 :W1.heap[w.heap.size]? =some (.cells Y.toArray 64) :=by rw [←hW1];exact Ab w.drew _
   have hbl :Below w.heap.size w W1 :=by rw [←hW1];exact ((Below.refl _ w).drew).alloc (Nat.le_refl _) _
   have hv2 := (hbl.block vb hvw).trans hv
   have HV2 : ∀j u,cx[j]? =some u→W1.cell? ((⟨vb,0,none⟩ :Addr).add j) =some u :=fun j u hj=>by rw [Addr.add_lit,Nat.zero_add];exact Aa hv2 (by simpa using hj)
   have hm3 :cx.length=Nat.min 1 (n1+ (n2+1) - n1) *3 :=by simp only [Nat.min_def];split<;>omega
   obtain ⟨w3,hrun3,hX3,hg3⟩ :=Hs (P :=Tryz.prog) (w :=W1) 23 23 64 3 Tryz.underlying23 Hf w.heap.size (n1*3) (n1+ (n2+1) - n1) (G - n1) ⟨vb,0,none⟩ 1 1 _ 64 hb1 cx hm3 HV2 (by omega) onex
   have hL3 : (splice Y (n1*3) cx).length=Y.length :=length_splice _ _ _ (by omega)
   have hXg :w3.heap[g]? =some (.cells X.toArray 64) := ((hg3.block g (Nat.lt_of_lt_of_le hgw hbl.size) (fun e=>by cases e;omega)).trans (hbl.block g hgw)).trans hX
   have hm4 :cs2.length=Nat.min (n1+n2 - n1) (n1+ (n2+1) - (n1+1)) *3 :=by simp only [Nat.min_def];split<;>omega
   have HEND :Hid _ :=Rc Y cs1 cs2 cx hYt (by omega)
   have hw1 :IntKind.i64.wrap ((n1 :Int) +1) = (n1 :Int) +1 :=by rw [IntKind.wrap_i64];omega
   have hbb1 : (0 :Int) ≤ (n1 :Int) +1 :=by omega
   have htn : ((n1 :Int) +1).toNat=n1+1 :=by omega
   have s1 : ((n1+n2 :Nat) :Int) < ((n1+n2 :Nat) :Int) +1 :=by omega
   have s2 : ¬ (G=n1) :=by omega
   have s3 : ¬ (G=n1+1) :=by omega
   have s4 : (n1 :Int) ≤ ((n1+ (n2+1) :Nat) :Int) :=by omega
   have s5 : (n1 :Int) +1≤ ((n1+ (n2+1) :Nat) :Int) :=by omega
   have hfit4 : (n1+1) *3+cs2.length≤ (splice Y (n1*3) cx).length :=by omega
   have HS2 :Hid _ :=hsrc2
   have HM4 :Hid _ :=hm4
   have HF4 :Hid _ :=hfit4
   have HX3 :Hid _ :=hX3
   have hnn :Hid (n1+ (n2+1) =n1+n2+1) := (by omega :_=_)
   have hG1 :Hid (n1+n2+1≤G) := (by omega :_≤_)
   have HYL :Hid _ :=hL3.trans hYl
   clear hm3 hm4 hfit4 hsrc2 hX3 hXt hYt hold ho hW1 hY hL3 hYl hGe
   generalize hn1 :n1+ (n2+1) =N1 at*
   generalize hn0 :n1+n2=n at*
   have HN0 :Hid _ :=hn0
   have HN1 :Hid _ :=hn1
   clear hn0 hn1 hkk
   go_enter Tryz.func85,Tryz.ntmps85
   go_wp2_with (at_builtin;refine Lib.wpList_append_run _ rfl _ _ _ _ rfl _ _ rfl rfl _ _ (hrz _) ?_)
   go_region_law (refine Ht (by rfl) _ _ 23 23 (by rfl) 64 3 Tryz.underlying23 Hf w.heap.size ((n1+1) *3) (N1 - (n1+1)) (G - (n1+1)) ⟨g,n1*3,none⟩ (n - n1) (n - n1) (by simp [Act.eval,Act.put]) (by simp [Act.eval,Act.put]) _ 64 (by exact HX3.out) cs2 HM4.out (fun j u hj=>by rw [Addr.add_lit];exact Aa (w :=w3) hXg (by have :=HS2.out j u hj;simpa using this)) HF4.out one1 ?_;intro w4 hX4 hg4)
   have HX4 :Hid _ :=hX4
   clear hX4
   go_wp2
   go_ret
   have hgg :W1.grownBy w4 (some w.heap.size) :=Ci hg3 (Ci (Cw _ ((Below.refl _ w3).drew)) hg4)
   have hbb :Below w.heap.size w w4 :=hbl.trans (Hd hgg (Nat.le_refl _) hbl.size)
   refine ⟨_,rfl, ?_,hbb.mono hB⟩
   have e1 :=HEND.out
   rw [h1,hx,h2] at e1
   rw [show n1*3+3= (n1+1) *3 by omega] at e1
   have hN :N1=n+1 :=by have a1 :=HN0.out;have a2 :=HN1.out;omega
   subst hN
   refine Iv hB HX4.out hG1.out hG ?_ ?_
   ·rw [length_splice _ _ _ HF4.out];exact HYL.out
   ·rw [←e1,show n1*3+ (3+n2*3) = (n+1) *3 by have :=HN0.out;omega]
end Go.Proofs.YtmgkcjiejmhgcaaGreatDoor


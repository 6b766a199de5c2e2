/-
  4 texts of this proof in one, in build order: BCopyC, BOwn, BLab, BUntil.
-/
import Derived.Deep.RegionHeld3
import Derived.Test.YtmgkcjiejmhgcaaGreatDoorJ05
import Derived.Test.YtmgkcjiejmhgcaaGreatDoorJ08
import Derived.Test.YtmgkcjiejmhgcaaGreatDoorJ13
import Derived.Test.YtmgkcjiejmhgcaaGreatDoorJ15
import Derived.Test.YtmgkcjiejmhgcaaGreatDoorJ21
set_option linter.unusedSimpArgs false
set_option linter.unusedVariables false
namespace Go.Proofs.YtmgkcjiejmhgcaaGreatDoor
open Go.RowKit Go.Maps
theorem Ph : (Tryz.prog.info? 66).map (fun i=> (i.zero,i.size,i.bytes)) =some (some (.agg #[.string ⟨#[]⟩, .int .i64 0, .bool false]),3,32) :=by kernel_rfl
theorem Pi : (Tryz.prog.info? 64).map (fun i=> (i.zero,i.size,i.bytes)) =some (some (.agg #[.string ⟨#[]⟩, .string ⟨#[]⟩, .string ⟨#[]⟩]),3,48) :=by kernel_rfl
theorem Pj : (Tryz.prog.info? 47).map (fun i=> (i.zero,i.size,i.bytes)) =some (some (.agg #[.string ⟨#[]⟩, .slice none 0 0]),2,40) :=by kernel_rfl
theorem Tq {F :Nat→Prop} {w :World} (x :ColD) (c :List Value) (h :Bg.R F w x c) : ∀u∈c,u.oneCell'=true :=by
 obtain rfl :c=_ :=h
 simp [Value.oneCell']
theorem Zv {F :Nat→Prop} {w :World} (x :IdxD) (c :List Value) (h :B7.R F w x c) : ∀u∈c,u.oneCell'=true :=by
 obtain rfl :c=_ :=h
 simp [Value.oneCell']
theorem Jh {α :Type} {K :Elem α} {F :Nat→Prop} {ty :TypeId} {w w' :World} {l :List α} {z :Value} {cs :List Value} (hK : ∀ (F F' :Nat→Prop) (w w' :World) a c,K.R F w a c→K.R F' w' a c) (ho :w'.ownsRow w.heap.size ty K.size z (0+l.length) ([] ++cs)) (ha :All K F w l cs) :Bl K ty 0 w.heap.size z l w' :=by
 rw [Nat.zero_add,List.nil_append] at ho
 refine ⟨cs,ho, ?_⟩
 have : ∀ {l :List α} {cs :List Value},All K F w l cs→All K (FX 0 w.heap.size z) w' l cs :=by
  intro l
  induction l with
  | nil=>intro cs h;exact h
  | cons a l ih=>
   rintro cs ⟨c,rest,h1,h2,h3⟩
   exact ⟨c,rest,h1,hK _ _ _ _ a c h2,ih h3⟩
 exact this ha
theorem Gy {w w' :World} (hg :w.grownBy w' none) :Below w.heap.size w w' := (Below.refl _ _).grown hg (Nat.le_refl _) fun _ h=>by cases h
def Gz (g B :Nat) (w w' :World) :Prop :=w.heap.size≤w'.heap.size∧ ∀k,k<B→k≠g→w'.heap[k]? =w.heap[k]?
theorem Gz.refl (g B :Nat) (w :World) :Gz g B w w := ⟨Nat.le_refl _,fun _ _ _=>rfl⟩
theorem Gz.trans {g B :Nat} {u v w :World} (h :Gz g B u v) (k :Gz g B v w) :Gz g B u w := ⟨Nat.le_trans h.1 k.1,fun i h1 h2=> (k.2 i h1 h2).trans (h.2 i h1 h2)⟩
theorem Gz.below {g B :Nat} {u v w :World} (h :Gz g B u v) (hb :Below B v w) :Gz g B u w :=h.trans ⟨hb.size,fun k hk _=>hb.block k hk⟩
theorem Gz.set {g B :Nat} {u v :World} (h :Gz g B u v) (o :Nat) (x :Value) :Gz g B u (v.setCell ⟨g,o,none⟩ x) :=h.trans ⟨by simp [World.setCell],fun k _ hn=>Below.heap_setCell _ _ _ k hn⟩
set_option maxRecDepth 100000 in
set_option maxHeartbeats 8000000 in
theorem Sr (T :List TabD) (I :List IdxD) (v :Value) (F :Nat→Prop) (w :World) (h :Bh F w ⟨T,I⟩ v) (hT :T.length≤16777216) (hI :I.length≤16777216) (hc : ∀t∈T,t.cols.length≤16777216) :
  Calls Tryz.prog 4 #[v] w fun e w'=> (∃v',e= .returned v'∧Bh (Fr w.heap.size) w' ⟨T,I⟩ v') ∧Below w.heap.size w w' :=by
 obtain ⟨tv,iv,rfl,hl,hi⟩ :=h
 simp only at hl hi
 obtain ⟨to',tc,rfl⟩ :=hl.shape
 obtain ⟨io,ic,rfl⟩ :=hi.shape
 obtain ⟨i0,ii0,iz0,iz1,iz2⟩ :=info_parts Pi
 obtain ⟨i1,ti0,tz0,tz1,tz2⟩ :=info_parts Pj
 obtain ⟨i2,ci0,cz0,cz1,cz2⟩ :=info_parts Ph
 have hb2 :=Bz w (.cells #[.slice to' T.length tc, .slice io I.length ic] 25) (.cells #[.slice none 0 0, .slice none 0 0] 25)
 have bA :=Ae (Ab w (.cells #[.slice to' T.length tc, .slice io I.length ic] 25)) (.cells #[.slice none 0 0, .slice none 0 0] 25)
 have bR :=A0 w (.cells #[.slice to' T.length tc, .slice io I.length ic] 25) (.cells #[.slice none 0 0, .slice none 0 0] 25)
 generalize hW : (w.alloc (.cells #[.slice to' T.length tc, .slice io I.length ic] 25)).alloc (.cells #[.slice none 0 0, .slice none 0 0] 25) =W0 at hb2 bA bR
 have HW :Hid _ :=hW
 clear hW
 have HL :Hid _ :=hl
 have hi0 :IsL B7 F W0 (.slice io I.length ic) I :=hi.keep (Ar hb2)
 have a0 :=Aa bA (j :=0) rfl
 have a1 :=Aa bA (j :=1) rfl
 clear hl hi
 go_enter Tryz.func4,Tryz.ntmps4
 go_upto_region 1 with fail
 rw [HW.out]
 go_upto_region 2 with (at_builtin;go_must (refine By (K :=B7) (l :=I) rfl _ _ 23 rfl W0.heap.size 64 i0 _ 48 Tryz.underlying23 ii0 iz0 iz1 iz2 rfl (by decide) _ 0 [] rfl (World.ownsRow_nil _ _ _ _) rfl hi0 Zv (by simp only [maxLen];omega) (by omega) (Nat.le_refl _) ?_;intro zi W1 csI hownI hallI hgI _;have hbI :=Gy hgI;have hzi :=Jh (fun _ _ _ _ _ _ h=>h) hownI hallI;obtain ⟨zio,zic,rfl⟩ :=hzi.shape))
 have bA1 := (hbI.block _ (lt_of_block bA)).trans bA
 have bR1 := (hbI.block _ (lt_of_block bR)).trans bR
 have hs0 :=hb2.size
 have hs1 :=hbI.size
 have hA0 :=lt_of_block bA
 have hR0 :=lt_of_block bR
 have hb1w :Below w.heap.size w W1 :=hb2.trans (hbI.mono hs0)
 have a0' :=Aa (Ae bA1 (.cells #[.slice none 0 0, .slice zio I.length zic] 25)) (j :=0) rfl
 have bC :=Ab W1 (.cells #[.slice none 0 0, .slice zio I.length zic] 25)
 have hb1c :=Aq W1 (.cells #[.slice none 0 0, .slice zio I.length zic] 25)
 have hzi2 :IsL B7 (fun k=>w.heap.size+1<k∧k<W1.heap.size) (W1.alloc (.cells #[.slice none 0 0, .slice zio I.length zic] 25)) (.slice zio I.length zic) I :=by
  refine IsL.keep (hzi.isL.mono fun k hk h=> ⟨?_,hk⟩) (Ar hb1c)
  rcases h with h | h
  ·exact absurd h (Nat.not_lt_zero _)
  ·omega
 have hbR2 :=Ae bR1 (.cells #[.slice none 0 0, .slice zio I.length zic] 25)
 have HG :Hid (W1.heap.size+1= (W1.alloc (.cells #[.slice none 0 0, .slice zio I.length zic] 25)).heap.size) :=by show _=_;simp
 have hbW2 :Below w.heap.size w (W1.alloc (.cells #[.slice none 0 0, .slice zio I.length zic] 25)) :=hb1w.trans (hb1c.mono hb1w.size)
 generalize W1.alloc (.cells #[.slice none 0 0, .slice zio I.length zic] 25) =W2 at*
 clear hgI hownI hallI hzi hi0 a0 a1 HW
 go_wp2_with fail
 go_loopw [13] (fun i wr=> ∃ (k :Nat) (zt :Value),k≤T.length∧i= .int .i64 k∧wr.heap[W1.heap.size]? =some (.cells #[zt, .slice zio I.length zic] 25) ∧Bl A4 47 0 W2.heap.size zt (T.take k) wr∧Gz W1.heap.size W2.heap.size W2 wr∧Below w.heap.size w wr) (fun i _=>T.length - (intOf i).toNat)
 case atStart=>exact ⟨0,_,Nat.zero_le _,rfl,bC,Ed _ _ _ _ _,Gz.refl _ _ _,hbW2⟩
 case round=>
  obtain ⟨k,zt,hk,rfl,bC3,hA,hbut,hbel⟩ :=hrel
  obtain ⟨V0,hV0⟩ : ∃V,V=wr := ⟨_,rfl⟩
  subst hV0
  have hgs :=HG.out
  have hvs :=hbut.1
  by_cases hlt :k<T.length
  ·obtain ⟨t,ht⟩ : ∃t,T[k]? =some t := ⟨_,List.getElem?_eq_getElem hlt⟩
   have HT :Hid (T.take (k+1) =T.take k++ [t]) :=by show _=_;rw [List.take_add_one,ht];rfl
   have htc :=hc t (List.mem_of_getElem? ht)
   obtain ⟨b,off,cs,hso,hbC,hbl,⟨cv,rfl,hcv⟩,hcell⟩ :=Av HL.out ht
   cases hso
   obtain ⟨co,cc,rfl⟩ :=hcv.shape
   have d0 := (hbel.cell (p := ⟨b,_,none⟩) hbl).trans (hcell 0 _ rfl)
   have d1 := (hbel.cell (p := ⟨b,_,none⟩) hbl).trans (hcell 1 _ rfl)
   simp only [A4,Nat.add_zero] at d0 d1
   have j0 : (0 :Int) ≤ (k :Int) :=by omega
   have j1 : (k :Int) < (T.length :Int) :=by omega
   have hbx :=Aq V0 (.cells #[.string t.name, .slice co t.cols.length cc] 47)
   have bX :=Ab V0 (.cells #[.string t.name, .slice co t.cols.length cc] 47)
   have hcv1 :IsL Bg F (V0.alloc (.cells #[.string t.name, .slice co t.cols.length cc] 47)) (.slice co t.cols.length cc) t.cols :=hcv.keep (Ar (hbel.trans (hbx.mono hbel.size)))
   have x1 :=Aa bX (j :=1) rfl
   obtain ⟨zo,zc,hzv⟩ :=hA.shape
   have HLK :Hid ((T.take k).length=k) :=by show _=_;rw [List.length_take];omega
   rw [HLK.out] at hzv
   subst hzv
   have HA :Hid _ :=hA
   have hV1 : (V0.alloc (.cells #[.string t.name, .slice co t.cols.length cc] 47)).heap.size=V0.heap.size+1 :=by simp
   generalize hV1e :V0.alloc (.cells #[.string t.name, .slice co t.cols.length cc] 47) =V1 at*
   have HV1 :Hid _ :=hV1e
   clear hcell ht hA hV1e hcv
   go_upto_region 5 with fail
   rw [HV1.out]
   go_upto_region 6 with (at_builtin;go_must (refine By (K :=Bg) (l :=t.cols) rfl _ _ 26 rfl V1.heap.size 66 i2 _ 32 Tryz.underlying26 ci0 cz0 cz1 cz2 rfl (by decide) _ 0 [] rfl (World.ownsRow_nil _ _ _ _) rfl hcv1 Tq (by simp only [maxLen];omega) (by omega) (Nat.le_refl _) ?_;intro zk V2 csK hownK hallK hgK _;have hbK :=Gy hgK;have hzk :=Jh (fun _ _ _ _ _ _ h=>h) hownK hallK;obtain ⟨zko,zkc,rfl⟩ :=hzk.shape;have bX2 := (hbK.block _ (lt_of_block bX)).trans bX;have f1 := (show V2.frozen? ⟨V0.heap.size,1,none⟩ =false by simp only [World.frozen?,bX2];rfl);have x1b :=Aa bX2 (j :=1) rfl;clear hgK hownK))
   have bX3 : (V2.setCell ⟨V0.heap.size,1,none⟩ (.slice zko t.cols.length zkc)).heap[V0.heap.size]? =some (.cells #[.string t.name, .slice zko t.cols.length zkc] 47) :=Cl bX2 1 _
   have hb03 :Below V0.heap.size V0 (V2.setCell ⟨V0.heap.size,1,none⟩ (.slice zko t.cols.length zkc)) := (hbx.trans (hbK.mono (by omega))).setCell (Nat.le_refl _) _
   have hzk3 :=hzk.keepLow (w' :=V2.setCell ⟨V0.heap.size,1,none⟩ (.slice zko t.cols.length zkc)) (fun k hk _=>Below.heap_setCell _ _ _ k (show k≠V0.heap.size by omega)) (by simp [World.setCell])
   have y0 :=Aa bX3 (j :=0) rfl
   have y1 :=Aa bX3 (j :=1) rfl
   generalize V2.setCell ⟨V0.heap.size,1,none⟩ (.slice zko t.cols.length zkc) =V3 at*
   have hb34 :=Aq V3 (.cells [.string t.name, .slice zko t.cols.length zkc].toArray 47)
   have hb04 :Below V0.heap.size V0 (V3.alloc (.cells [.string t.name, .slice zko t.cols.length zkc].toArray 47)) :=hb03.trans (hb34.mono hb03.size)
   have hCl :=lt_of_block bC3
   have bC3' := (hb03.block _ hCl).trans bC3
   have bC4 := (hb04.block _ hCl).trans bC3
   have c0 :=Aa bC3' (j :=0) rfl
   obtain ⟨cs0,hown0,hall0⟩ :=HA.out
   rw [HLK.out] at hown0
   have hown4 :=Az hown0 hb04
   have hall4 :=hall0.keep (Ar hb04)
   have hnew :=Cp V3 [.string t.name, .slice zko t.cols.length zkc] 47
   have hbase :W2.heap.size≤ (V3.alloc (.cells [.string t.name, .slice zko t.cols.length zkc].toArray 47)).heap.size :=Nat.le_trans hvs hb04.size
   have HRX :Hid (A4.R (FX 0 W2.heap.size (.slice zo k zc)) (V3.alloc (.cells [.string t.name, .slice zko t.cols.length zkc].toArray 47)) t [.string t.name, .slice zko t.cols.length zkc]) :=by
    refine ⟨_,rfl,IsL.keep (hzk3.isL.mono fun k hk h=> .inr ⟨?_,fun e=> ?_⟩) (Ar hb34)⟩
    ·rcases h with h | h
     ·exact absurd h (Nat.not_lt_zero _)
     ·omega
    ·have := (hown0.lt k e.symm).2
     rcases h with h | h
     ·exact absurd h (Nat.not_lt_zero _)
     ·omega
   have HOW :Hid _ :=hall4
   clear bX bX2 bX3 x1 x1b hzk hzk3 hall0 hall4 hallK hcv1 d0 d1
   go_wp2_with (first | (at_builtin;go_must (refine wpList_append_own_at _ rfl _ _ 22 rfl W2.heap.size 47 i1 _ 2 40 Tryz.underlying22 ti0 tz0 tz1 tz2 rfl (by decide) _ _ _ rfl hown4 ⟨V3.heap.size,0,none⟩ 1 1 [.string t.name, .slice zko t.cols.length zkc] rfl rfl ?h0 ?h1 (by simp only [maxLen];omega) (by omega) hbase ?h2)))
   case h0=>simpa using hnew
   case h1=>simp only [List.forall_mem_cons];repeat (first | exact fun _ h=>absurd h List.not_mem_nil | refine ⟨rfl, ?_⟩)
   case h2=>
    intro z2 V5 hown5 hg5 _ hat
    have hst :=Cb (K :=A4) (ty :=47) (a :=t) (Nat.zero_le _) (fun k hk=> (hown0.lt k hk).1) (by rw [HLK.out];exact hown5) HOW.out HRX.out hg5 (by simpa using hat)
    have hne :some W1.heap.size≠ (Value.slice zo k zc).ownBlock :=fun e=>by have := (hown0.lt _ e.symm).1;omega
    have bC5 :=Bf hg5 bC4 hne
    have c05 :=Aa bC5 (j :=0) rfl
    have fC5 :V5.frozen? ⟨W1.heap.size,0,none⟩ =false :=by simp only [World.frozen?,bC5];rfl
    have hbb :Below w.heap.size w V5 := (hbel.trans (hb04.mono hbel.size)).grown hg5 (by omega) fun k hk=>Nat.le_trans (by omega) (hown0.lt k hk).1
    have hbl5 :Below W2.heap.size V0 V5 := (hb04.mono hvs).grown hg5 hbase fun k hk=> (hown0.lt k hk).1
    obtain ⟨zo2,zc2,hz2⟩ :=hst.shape
    rw [List.length_append,HLK.out,List.length_singleton] at hz2
    subst hz2
    have bC6 : (V5.setCell ⟨W1.heap.size,0,none⟩ (.slice zo2 (k+1) zc2)).heap[W1.heap.size]? =some (.cells #[.slice zo2 (k+1) zc2, .slice zio I.length zic] 25) :=Cl bC5 0 _
    have hst6 :=hst.keepLow (w' :=V5.setCell ⟨W1.heap.size,0,none⟩ (.slice zo2 (k+1) zc2)) (fun k hk _=>Below.heap_setCell _ _ _ k (show k≠W1.heap.size by omega)) (by simp [World.setCell])
    go_wp2_with fail
    go_roundw
    case rel=>exact ⟨k+1,_,by omega,by go_num,bC6,by rw [HT.out];exact hst6,(hbut.below hbl5).set _ _,hbb.setCell (show w.heap.size≤W1.heap.size by omega) _⟩
    case measure=>simp [intOf];omega
  ·have hkn :k=T.length :=by omega
   subst hkn
   rw [List.take_length] at hA
   obtain ⟨zo,zc,hzv⟩ :=hA.shape
   subst hzv
   have j1 : ¬ ((T.length :Int) < (T.length :Int)) :=by omega
   have c0 :=Aa bC3 (j :=0) rfl
   have c1 :=Aa bC3 (j :=1) rfl
   have bR3 := (hbut.2 (w.heap.size+1) (by omega) (by omega)).trans hbR2
   have r0 :=Aa bR3 (j :=0) rfl
   have r1 :=Aa bR3 (j :=1) rfl
   have rf : ∀o,V0.frozen? ⟨w.heap.size+1,o,none⟩ =false :=fun o=>by simp only [World.frozen?,bR3];rfl
   have hzi3 :IsL B7 (fun k=>w.heap.size≤k∧k≠w.heap.size+1) V0 (.slice zio I.length zic) I := (hzi2.keep ⟨hvs,fun k hk _=>hbut.2 k (by omega) (by omega)⟩).mono fun k _ h=> ⟨by omega,by omega⟩
   have hgR :W1.heap.size≠w.heap.size+1 :=by omega
   go_wp2_with fail
   refine bodyPost_ret (v := .agg #[.slice zo T.length zc, .slice zio I.length zic]) (results_cell_row Tryz.results4 _ _ (w.heap.size+1) 25 #[.slice zo T.length zc, .slice zio I.length zic] _ _ rfl (Ix bR3 _ _) Tryz.underlying25 rfl (by kernel_rfl)) rfl ?_
   have hk :Keeps (fun k=>w.heap.size≤k∧k≠w.heap.size+1) V0 ((V0.setCell ⟨w.heap.size+1,0,none⟩ (.slice zo T.length zc)).setCell ⟨w.heap.size+1,1,none⟩ (.slice zio I.length zic)) := ((Keeps.refl _ _).set (fun h=>h.2 rfl) _ _).set (fun h=>h.2 rfl) _ _
   refine ⟨⟨_,rfl,_,_,rfl, ?_, ?_⟩,(hbel.setCell (show w.heap.size≤w.heap.size+1 by omega) _).setCell (show w.heap.size≤w.heap.size+1 by omega) _⟩
   ·exact ((hA.isL.mono (F' :=fun k=>w.heap.size≤k∧k≠w.heap.size+1) fun k hk h=>by
     rcases h with h | h
     ·exact absurd h (Nat.not_lt_zero _)
     ·exact ⟨by omega,by omega⟩).keep hk).mono fun k _ h=>h.1
   ·have hzz :IsL B7 (fun k=>w.heap.size≤k∧k≠w.heap.size+1) V0 (.slice zio I.length zic) I :=hzi3
    exact (hzz.keep hk).mono fun k _ h=>h.1
end Go.Proofs.YtmgkcjiejmhgcaaGreatDoor

namespace Go.Proofs.YtmgkcjiejmhgcaaGreatDoor
open Go.RowKit Go.Maps
def G0 {α :Type} (K :Elem α) (ty :TypeId) (lo :Nat) (F :Nat→Prop) (w :World) (z :Value) (l :List α) :Prop :=
 ∃cs,w.ownsRow lo ty K.size z l.length cs∧ (∀k,z.ownBlock=some k→ ¬F k) ∧All K F w l cs
theorem G0.mono {α :Type} {K :Elem α} {ty :TypeId} {lo :Nat} {F F' :Nat→Prop} {w :World} {z :Value} {l :List α} (h :G0 K ty lo F w z l) (hF : ∀k,k<w.heap.size→F k→F' k) (hz : ∀k,z.ownBlock=some k→ ¬F' k) :G0 K ty lo F' w z l :=by
 obtain ⟨cs,h1,_,h3⟩ :=h
 exact ⟨cs,h1,hz,h3.mono hF⟩
theorem G0.keep {α :Type} {K :Elem α} {ty :TypeId} {lo :Nat} {F :Nat→Prop} {w w' :World} {z :Value} {l :List α} (h :G0 K ty lo F w z l) (hk : ∀k,(F k∨z.ownBlock=some k) →k<w.heap.size→w'.heap[k]? =w.heap[k]?) (hs :w.heap.size≤w'.heap.size) :G0 K ty lo F w' z l :=by
 obtain ⟨cs,⟨g1,g2⟩,h2,h3⟩ :=h
 refine ⟨cs,⟨g1, ?_⟩,h2,h3.keep ⟨hs,fun k hf hl=>hk k (.inl hf) hl⟩⟩
 rcases g2 with g2 | ⟨g,cap,cur,hv,hg,hh,r⟩
 ·exact .inl g2
 ·exact .inr ⟨g,cap,cur,hv,hg,by rw [hk g (.inr (by rw [hv];rfl)) (lt_of_block hh)];exact hh,r⟩
theorem G0.isL {α :Type} {K :Elem α} {ty :TypeId} {lo :Nat} {F :Nat→Prop} {w :World} {z :Value} {l :List α} (h :G0 K ty lo F w z l) :IsL K (fun k=>F k∨lo≤k) w z l :=by
 obtain ⟨cs,h1,_,h3⟩ :=h
 exact ⟨cs,Cu.of_own h1 (fun k hk=> .inr hk),h3.mono fun k _ hf=> .inl hf⟩
theorem G0.shape {α :Type} {K :Elem α} {ty :TypeId} {lo :Nat} {F :Nat→Prop} {w :World} {z :Value} {l :List α} (h :G0 K ty lo F w z l) : ∃ao c,z= .slice ao l.length c :=h.isL.shape
theorem V9 {w :World} {B g n cap size :Nat} {t :TypeId} {cs :List Value} (h :w.ownsRow B t size (.slice (some ⟨g,0,none⟩) n cap) n cs) (j :Nat) (v :Value) : (w.setCell ⟨g,j,none⟩ v).ownsRow B t size (.slice (some ⟨g,0,none⟩) n cap) n (cs.set j v) :=by
 obtain ⟨h1,h2⟩ :=h
 refine ⟨by rw [List.length_set];exact h1, ?_⟩
 rcases h2 with ⟨h2,_⟩ | ⟨g',cap',cur,he,hg,hh,hn,hm,hs,ht⟩
 ·cases h2
 ·cases he
  refine .inr ⟨g,cap,_,rfl,hg,upd hh j v,hn,hm,by simp;exact hs, ?_⟩
  rw [←ht,Array.toList_setIfInBounds,List.take_set]
theorem Lq {B g n cap size :Nat} {t :TypeId} : ∀ (vs :List Value) (w :World) (pre mid post :List Value),w.ownsRow B t size (.slice (some ⟨g,0,none⟩) n cap) n (pre++mid++post) →mid.length=vs.length→ (w.setCells g pre.length vs).ownsRow B t size (.slice (some ⟨g,0,none⟩) n cap) n (pre++vs++post)
 | [],w,pre,mid,post,h,hm=>by
  have :mid= [] :=List.eq_nil_of_length_eq_zero hm
  subst this
  exact h
 | v ::vs,w,pre,m ::mid,post,h,hm=>by
  have h1 :=V9 h pre.length v
  rw [List.append_assoc,List.set_append_right _ _ (Nat.le_refl _),Nat.sub_self,List.cons_append,List.set_cons_zero] at h1
  have h2 :=Lq vs (w.setCell ⟨g,pre.length,none⟩ v) (pre++ [v]) mid post (by simpa using h1) (by simpa using hm)
  rw [List.length_append,List.length_singleton,show pre++ [v] ++vs++post=pre++v ::vs++post by simp] at h2
  exact h2
 | _ ::_,_,_,[],_,_,hm=>by simp at hm
theorem O1 {α :Type} {K :Elem α} {F :Nat→Prop} {w :World} : ∀ {l :List α} {cs :List Value} {j :Nat} {x :α} {c :List Value},All K F w l cs→j<l.length→K.R F w x c→ ∃pre mid post,cs=pre++mid++post∧pre.length=j*K.size∧mid.length=c.length∧All K F w (l.set j x) (pre++c++post)
 | a ::l,cs,0,x,c,h,_,hx=>by
  obtain ⟨d,rest,rfl,h2,h3⟩ :=h
  exact ⟨[],d,rest,by simp,by simp,by rw [K.len h2,K.len hx],by simpa using ⟨c,rest,rfl,hx,h3⟩⟩
 | a ::l,cs,j+1,x,c,h,hj,hx=>by
  obtain ⟨d,rest,rfl,h2,h3⟩ :=h
  obtain ⟨pre,mid,post,rfl,g2,g3,g4⟩ :=O1 h3 (by simpa using hj) hx
  refine ⟨d++pre,mid,post,by simp,by rw [List.length_append,g2,K.len h2,Nat.add_mul];omega,g3, ?_⟩
  rw [List.set_cons_succ]
  exact ⟨d,pre++c++post,by simp,h2,g4⟩
 | [],_,_,_,_,_,hj,_=>by simp at hj
theorem Lr {g :Nat} : ∀ (vs :List Value) (o :Nat) (w :World),(w.setCells g o vs).heap.size=w.heap.size∧ ∀k,k≠g→ (w.setCells g o vs).heap[k]? =w.heap[k]?
 | [],_,_=> ⟨rfl,fun _ _=>rfl⟩
 | v ::vs,o,w=>by
  obtain ⟨h1,h5⟩ :=Lr vs (o+1) (w.setCell ⟨g,o,none⟩ v)
  exact ⟨h1.trans (by simp [World.setCell]),fun k hk=> (h5 k hk).trans (Below.heap_setCell w ⟨g,o,none⟩ v k hk)⟩
theorem G0.put {α :Type} {K :Elem α} {ty :TypeId} {lo :Nat} {F :Nat→Prop} {w :World} {z :Value} {l :List α} (h :G0 K ty lo F w z l) {j :Nat} (hj :j<l.length) (hK :0<K.size) {x :α} {c :List Value} (hx :K.R F w x c) :
  ∃g cap,z= .slice (some ⟨g,0,none⟩) l.length cap∧lo≤g∧ ¬F g∧w.there g (j*K.size) c.length∧G0 K ty lo F (w.setCells g (j*K.size) c) z (l.set j x) :=by
 obtain ⟨cs,h1,h2,h3⟩ :=h
 have hcl :=K.len hx
 obtain ⟨g,cap,cur,hz,hg,hh,hn,hsz⟩ : ∃g cap cur,z= .slice (some ⟨g,0,none⟩) l.length cap∧lo≤g∧w.heap[g]? =some (.cells cur ty) ∧l.length≤cap∧cur.size=cap*K.size :=by
  rcases h1.2 with ⟨_,h0⟩ | ⟨g,cap,cur,he,hg,hh,hn,hm,hs,ht⟩
  ·omega
  ·exact ⟨g,cap,cur,he,hg,hh,hn,hs⟩
 subst hz
 have hnF : ¬F g :=h2 g rfl
 obtain ⟨pre,mid,post,rfl,g2,g3,g4⟩ :=O1 h3 hj hx
 have hle : (j+1) *K.size≤cap*K.size :=Nat.mul_le_mul_right _ (by omega)
 rw [Nat.add_mul,Nat.one_mul] at hle
 obtain ⟨e1,e5⟩ :=Lr (g :=g) c (j*K.size) w
 refine ⟨g,cap,rfl,hg,hnF,fun i hi=> ⟨?_,by simp only [World.frozen?,hh];rfl⟩,⟨pre++c++post, ?_, ?_, ?_⟩⟩
 ·have hlt :j*K.size+i<cur.size :=by omega
  rw [Aa hh (j :=j*K.size+i) (Array.getElem?_eq_getElem hlt)]
  rfl
 ·rw [List.length_set]
  have :=Lq c w pre mid post h1 g3
  rwa [g2] at this
 ·exact h2
 ·exact g4.keep ⟨by rw [e1];exact Nat.le_refl _,fun k hf _=>e5 k (by rintro rfl;exact hnF hf)⟩
end Go.Proofs.YtmgkcjiejmhgcaaGreatDoor

namespace Go.Proofs.YtmgkcjiejmhgcaaGreatDoor
open Go.RowKit Go.Maps
def Ck {α :Type} (K :Elem α) (ty :TypeId) (lab :Nat→Nat) (c base :Nat) (w :World) (z :Value) (l :List α) :Prop :=
 G0 K ty base (fun k=>base≤k∧lab k=c+1) w z l∧ ∀k,z.ownBlock=some k→lab k=c
section
variable {α :Type} {K :Elem α} {ty :TypeId} {lab lab' :Nat→Nat} {c base :Nat} {w w' :World} {z :Value} {l :List α}
theorem Ck.keep (h :Ck K ty lab c base w z l) (hk : ∀k,base≤k→k<w.heap.size→ (lab k=c∨lab k=c+1) →w'.heap[k]? =w.heap[k]?) (hs :w.heap.size≤w'.heap.size) :Ck K ty lab c base w' z l :=by
 refine ⟨h.1.keep (fun k hf hl=> ?_) hs,h.2⟩
 rcases hf with hf | hf
 ·exact hk k hf.1 hl (.inr hf.2)
 ·obtain ⟨cs,ho,_⟩ :=h.1
  exact hk k (ho.lt k hf).1 hl (.inl (h.2 k hf))
theorem Ck.ext (h :Ck K ty lab c base w z l) (he : ∀k,k<w.heap.size→lab' k=lab k) :Ck K ty lab' c base w z l :=by
 obtain ⟨⟨cs,ho,h2,h3⟩,h4⟩ :=h
 have hz : ∀k,z.ownBlock=some k→lab' k=c :=fun k hk=> (he k (ho.lt k hk).2).trans (h4 k hk)
 exact ⟨⟨cs,ho,fun k hk hf=>by have :=hz k hk;omega,h3.mono fun k hk hf=> ⟨hf.1,(he k hk).trans hf.2⟩⟩,hz⟩
theorem Ck.isL (h :Ck K ty lab c base w z l) :IsL K (Fr base) w z l :=h.1.isL.mono fun k _ hf=>hf.elim (·.1) id
theorem Ck.shape (h :Ck K ty lab c base w z l) : ∃ao n,z= .slice ao l.length n :=h.1.shape
theorem Ck.lt (h :Ck K ty lab c base w z l) : ∀k,z.ownBlock=some k→base≤k∧k<w.heap.size :=by
 obtain ⟨⟨cs,ho,_,_⟩,_⟩ :=h
 exact fun k hk=>ho.lt k hk
end
def Eu (lab :Nat→Nat) (n :Nat) (z :Value) (c :Nat) :Nat→Nat :=fun k=>if k<n then lab k else if some k=z.ownBlock then c else c+1
theorem Hh (lab :Nat→Nat) (n :Nat) (z :Value) (c :Nat) : ∀k,k<n→Eu lab n z c k=lab k :=fun k hk=>if_pos hk
theorem Ck.made {α :Type} {K :Elem α} {ty :TypeId} {lab :Nat→Nat} {c base n :Nat} {w :World} {z :Value} {l :List α} (h :Bl K ty 0 n z l w) (hb :base≤n) :Ck K ty (Eu lab n z c) c base w z l :=by
 obtain ⟨cs,ho,ha⟩ :=h
 have hz : ∀k,z.ownBlock=some k→Eu lab n z c k=c :=fun k hk=>by
  have := (ho.lt k hk).1
  rw [Eu,if_neg (by omega),if_pos hk.symm]
 refine ⟨⟨cs,H8 ho hb,fun k hk hf=>by have :=hz k hk;omega,ha.mono fun k hk hf=> ?_⟩,hz⟩
 rcases hf with hf | hf
 ·exact absurd hf (Nat.not_lt_zero _)
 ·exact ⟨by omega,by rw [Eu,if_neg (by omega),if_neg hf.2]⟩
def Md (lab :Nat→Nat) (c :Nat) (w w' :World) :Prop :=w.heap.size≤w'.heap.size∧ ∀k,k<w.heap.size→lab k≠c→w'.heap[k]? =w.heap[k]?
theorem Md.refl (lab :Nat→Nat) (c :Nat) (w :World) :Md lab c w w := ⟨Nat.le_refl _,fun _ _ _=>rfl⟩
theorem Md.below {lab :Nat→Nat} {c :Nat} {u v w :World} (h :Md lab c u v) (hb :Below v.heap.size v w) :Md lab c u w :=
 ⟨Nat.le_trans h.1 hb.size,fun k hk hl=> (hb.block k (Nat.lt_of_lt_of_le hk h.1)).trans (h.2 k hk hl)⟩
theorem Md.sets {lab :Nat→Nat} {c g :Nat} {u v :World} (h :Md lab c u v) (hg :g<u.heap.size→lab g=c) (o :Nat) (vs :List Value) :Md lab c u (v.setCells g o vs) :=
 ⟨by rw [Bp];exact h.1,fun k hk hl=> (Be (by rintro rfl;exact hl (hg hk)) vs o v).trans (h.2 k hk hl)⟩
def Ip (tr te :TypeId) (lab :Nat→Nat) (base :Nat) (w :World) (z :Value) (rows :List (List E)) :Prop :=
 ∃cs,w.ownsRow base tr 1 z rows.length cs∧ (∀k,z.ownBlock=some k→lab k=1) ∧ ∀j r,rows[j]? =some r→ ∃v,cs[j]? =some v∧Ck As te lab (20+2*j) base w v r
section
variable {tr te :TypeId} {lab lab' :Nat→Nat} {base :Nat} {w w' :World} {z :Value} {rows :List (List E)}
theorem Ja {base size n :Nat} {t :TypeId} {z :Value} {cs :List Value} {w w' :World} (h :w.ownsRow base t size z n cs) (hk : ∀k,z.ownBlock=some k→w'.heap[k]? =w.heap[k]?) :w'.ownsRow base t size z n cs :=by
 obtain ⟨g1,g2⟩ :=h
 refine ⟨g1, ?_⟩
 rcases g2 with g2 | ⟨g,cap,cur,hv,hg,hh,r⟩
 ·exact .inl g2
 ·exact .inr ⟨g,cap,cur,hv,hg,by rw [hk g (by rw [hv];rfl)];exact hh,r⟩
theorem Ip.keep (h :Ip tr te lab base w z rows) (hk : ∀k,base≤k→k<w.heap.size→ (lab k=1∨20≤lab k) →w'.heap[k]? =w.heap[k]?) (hs :w.heap.size≤w'.heap.size) :Ip tr te lab base w' z rows :=by
 obtain ⟨cs,h1,h2,h3⟩ :=h
 refine ⟨cs,Ja h1 fun k e=>hk k (h1.lt k e).1 (h1.lt k e).2 (.inl (h2 k e)),h2,fun j r hj=> ?_⟩
 obtain ⟨v,g1,g2⟩ :=h3 j r hj
 exact ⟨v,g1,g2.keep (fun k hb hl hc=>hk k hb hl (.inr (by omega))) hs⟩
theorem Ip.ext (h :Ip tr te lab base w z rows) (he : ∀k,k<w.heap.size→lab' k=lab k) :Ip tr te lab' base w z rows :=by
 obtain ⟨cs,h1,h2,h3⟩ :=h
 refine ⟨cs,h1,fun k e=> (he k (h1.lt k e).2).trans (h2 k e),fun j r hj=> ?_⟩
 obtain ⟨v,g1,g2⟩ :=h3 j r hj
 exact ⟨v,g1,g2.ext he⟩
theorem Ri {F :Nat→Prop} {w :World} : ∀ {rows :List (List E)} {cs :List Value},cs.length=rows.length→ (∀ (j :Nat) (r :List E),rows[j]? =some r→ ∃v,cs[j]? =some v∧IsL As F w v r) →All Ds F w rows cs
 | [],cs,hl,_=>List.eq_nil_of_length_eq_zero hl
 | r ::rows,[],hl,_=>by simp at hl
 | r ::rows,v ::cs,hl,h=>by
  refine ⟨[v],cs,rfl, ?_,Ri (by simpa using hl) fun j r' hj=>by simpa using h (j+1) r' (by simpa using hj)⟩
  obtain ⟨v',h1,h2⟩ :=h 0 r rfl
  obtain rfl :v=v' :=by simpa using h1
  exact ⟨v,rfl,h2⟩
theorem Ip.isL (h :Ip tr te lab base w z rows) :IsL Ds (Fr base) w z rows :=by
 obtain ⟨cs,h1,h2,h3⟩ :=h
 refine ⟨cs,Cu.of_own h1 (fun k hk=>hk),Ri (by have :=h1.1;simpa using this) fun j r hj=> ?_⟩
 obtain ⟨v,g1,g2⟩ :=h3 j r hj
 exact ⟨v,g1,g2.isL⟩
theorem Ip.shape (h :Ip tr te lab base w z rows) : ∃ao n,z= .slice ao rows.length n :=h.isL.shape
end
end Go.Proofs.YtmgkcjiejmhgcaaGreatDoor

namespace Go.Proofs.YtmgkcjiejmhgcaaGreatDoor
open Go
section
variable {P :Program} {ops :Array Oper} {Q :Exit→Act→World→Prop} {md :Region.Mode} {S :World→Prop} {z :Nat}
def Rj (md :Region.Mode) (ops :Array Oper) (z i :Nat) :Bool :=match ops[z]? with
 | some o=>o.after.any fun e=>Region.binds md e&&e.on==i
 | none=>false
def F7 (P :Program) (md :Region.Mode) (ops :Array Oper) (Q :Exit→Act→World→Prop) (S :World→Prop) (z :Nat) :Nat→Array Bool→Act→World→Prop
 | 0,listed,a,w=>Region.ready md ops listed= [] ∧Q .normal a w
 | fuel+1,listed,a,w=> (Region.ready md ops listed= [] →Q .normal a w) ∧
  ∀i∈Region.ready md ops listed,wpOp P ops Q i (fun a' w'=> ((listed.setIfInBounds i true).getD z true=false→S w') ∧F7 P md ops Q S z fuel (listed.setIfInBounds i true) a' w') a w
theorem Jw : ∀ (fuel :Nat) (listed :Array Bool) (a :Act) (w :World),F7 P md ops Q S z fuel listed a w→wpAny P md ops Q fuel listed a w
 | 0,_,_,_,h=>h
 | fuel+1,_,_,_,h=> ⟨h.1,fun i hi=>wpOp_mono (fun a' w' h'=>Jw fuel _ a' w' h'.2) (h.2 i hi)⟩
theorem Rk {i :Nat} {oi :Oper} {v :Value} (hi :ops[i]? =some oi) (hsel : ∀ (j :Nat) (o :Oper) cs b,ops[j]? =some o→o.op≠ .select cs b)
  (hQ : ∀c a w,Q (.panic c) (a.put oi.dst v) w→Q (.panic c) a w) (hz :Rj md ops z i=true) (hiz :i≠z) :
  ∀ (fuel :Nat) (listed :Array Bool) (a :Act) (w :World),
   (∀j oj,ops[j]? =some oj→j≠i→listed.getD j true=false→ (∀e∈oj.after,Region.binds md e=true→e.on≠i) →oi.apart ops oj=true) →
   listed.getD z true=false→i∈Region.ready md ops listed→YieldsIf P ops S oi v a→S w→
   F7 P md ops Q S z fuel (listed.setIfInBounds i true) (a.put oi.dst v) w→F7 P md ops Q S z (fuel+1) listed a w :=by
 intro fuel
 induction fuel with
 | zero=>
  intro listed a w _ _ hr hy hS H
  refine ⟨fun h=> (by rw [h] at hr;cases hr),fun j hj=> ?_⟩
  by_cases hji :j=i
  ·subst hji;exact hy.wpOp hi hS ⟨fun _=>hS,H⟩
  ·have :=ready_mono hj hji
   rw [H.1] at this
   cases this
 | succ fuel ih=>
  intro listed a w hfree hzl hr hy hS H
  refine ⟨fun h=> (by rw [h] at hr;cases hr),fun j hj=> ?_⟩
  by_cases hji :j=i
  ·subst hji;exact hy.wpOp hi hS ⟨fun _=>hS,H⟩
  ·have h1 :=H.2 j (ready_mono hj hji)
   obtain ⟨hjun,oj,hoj,hall⟩ :=mem_ready.1 hj
   have hnot : ∀e∈oj.after,Region.binds md e=true→e.on≠i :=fun e he hb heq=>by
    have h1 :=hall e he hb
    have h0 := (mem_ready.1 hr).1
    rw [heq] at h1
    rcases Nat.lt_or_ge i listed.size with h' | h'
    ·simp [h'] at h0 h1;rw [h0] at h1;cases h1
    ·simp [Array.getElem?_eq_none h'] at h1
   have hjz :j≠z :=by
    rintro rfl
    rw [Rj,hoj] at hz
    obtain ⟨e,he,h2⟩ :=Array.any_eq_true'.1 hz
    simp only [Bool.and_eq_true,beq_iff_eq] at h2
    exact hnot e he h2.1 h2.2
   have h2 :=wpOp_putIf hoj (hfree j oj hoj hji hjun hnot) (fun cs b=>hsel i oi cs b hi) (fun cs b=>hsel j oj cs b hoj) hQ hy h1
   have hfree' : ∀k ok,ops[k]? =some ok→k≠i→ (listed.setIfInBounds j true).getD k true=false→
     (∀e∈ok.after,Region.binds md e=true→e.on≠i) →oi.apart ops ok=true :=fun k ok hk hki hun hno=>by
    refine hfree k ok hk hki ?_ hno
    by_cases hjk :j=k
    ·subst hjk;exact hjun
    ·rw [getD_set_ne true hjk] at hun;exact hun
   have hzl' : (listed.setIfInBounds j true).getD z true=false :=by rw [getD_set_ne true hjz];exact hzl
   refine wpOp_mono (fun a' w' h3=> ⟨fun _=>h3.2.1 (by rw [getD_set_ne true hjz,getD_set_ne true hiz];exact hzl),ih (listed.setIfInBounds j true) a' w' hfree' hzl' (ready_mono hr (Ne.symm hji)) h3.1 (h3.2.1 (by rw [getD_set_ne true hjz,getD_set_ne true hiz];exact hzl)) ?_⟩) h2
   rw [Array.setIfInBounds_comm _ _ hji]
   exact h3.2.2
theorem Bc {i :Nat} {oi :Oper} {v :Value} {fuel :Nat} {listed :Array Bool} {a :Act} {w :World} (hi :ops[i]? =some oi)
  (hs :Region.noSelect ops=true) (hf :Region.free md ops listed i=true) (hr : (Region.ready md ops listed).contains i=true) (hz : (Rj md ops z i&& !(i==z) && !listed.getD z true) =true)
  (hQ : ∀c a w,Q (.panic c) (a.put oi.dst v) w→Q (.panic c) a w) (hy :YieldsIf P ops S oi v a) (hS :S w)
  (h :F7 P md ops Q S z fuel (listed.setIfInBounds i true) (a.put oi.dst v) w) :F7 P md ops Q S z (fuel+1) listed a w :=by
 simp only [Bool.and_eq_true,Bool.not_eq_true',beq_eq_false_iff_ne] at hz
 exact Rk hi (Region.noSelect_spec hs) hQ hz.1.1 hz.1.2 fuel listed a w (Region.free_spec hi hf) hz.2 (by simpa using hr) hy hS h
theorem Hv {listed :Array Bool} {a :Act} {w :World} (hr :Region.ready md ops listed= []) (h :Q .normal a w) :
  ∀fuel,F7 P md ops Q S z fuel listed a w
 | 0=> ⟨hr,h⟩
 | _+1=> ⟨fun _=>h,by rw [hr];simp⟩
theorem Bd {i :Nat} {o :Oper} {fuel :Nat} {listed :Array Bool} {a :Act} {w :World} (hr :Region.ready md ops listed= [i]) (ho :ops[i]? =some o)
  (h : ∀K' :Act→World→Prop,Shut (∀a w,((listed.setIfInBounds i true).getD z true=false→S w) →F7 P md ops Q S z fuel (listed.setIfInBounds i true) a w→K' a w) →if Region.wanted o (yielded ops a.tmps) =true then Oper.wp P o a w K' Q else K' (a.put o.dst undef) w) :F7 P md ops Q S z (fuel+1) listed a w :=by
 refine ⟨fun h0=>absurd (hr▸h0) (by simp),fun j hj=> ?_⟩
 rw [hr] at hj
 obtain rfl :=List.mem_singleton.1 hj
 exact wpOp_step ho (fun K' hK=>h K' (fun a w hS hW=>hK a w ⟨hS,hW⟩))
theorem Fb {id :Nat} {a :Act} {w :World} (hm :P.follows .mixedOrders=true)
  (h :F7 P .any ops Q S z ops.size (Array.replicate ops.size false) a w.drew) : (Code.region id ops true).wp P Q a w :=
 wp_region_any hm (Jw _ _ _ _ h)
end
end Go.Proofs.YtmgkcjiejmhgcaaGreatDoor


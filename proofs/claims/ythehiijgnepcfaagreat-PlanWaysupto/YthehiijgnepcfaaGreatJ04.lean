/-
  2 texts of this proof in one, in build order: TReplaced, TRange.
-/
import Derived.Maps.AppendAt
import Derived.Deep.Cut
import Derived.Deep.DeepFit
import Derived.Test.YthehiijgnepcfaaGreatJ03
set_option linter.unusedSimpArgs false
set_option linter.unusedVariables false
attribute [local go_sem↓] Go.wp_at_zero Go.wp_at_succ
namespace Go.Proofs.YthehiijgnepcfaaGreat
open Go.RowKit
theorem Pgs.one {w :World} : ∀ {rs :List (Value×Value)} {T :List Pg},Pgs w rs T→ ∀u∈Bg rs,u.oneCell'=true
 | [],[],_,u,hu=>by simp [Bg] at hu
 | r ::rs,p ::T,h,u,hu=>by
  have e :Bg (r ::rs) =r.1 ::r.2 ::Bg rs :=by simp [Bg]
  rw [e] at hu
  rcases List.mem_cons.1 hu with rfl | hu
  ·obtain ⟨a,c,e⟩ :=h.1.shape;rw [e];rfl
  ·rcases List.mem_cons.1 hu with rfl | hu
   ·obtain ⟨a,c,e⟩ :=h.2.1.shape;rw [e];rfl
   ·exact Pgs.one h.2.2 u hu
theorem Dz.head {size :Nat} {w :World} {b off n cap :Nat} {cs ds :List Value} {m :Nat} (h :Dz size w (.slice (some ⟨b,off,none⟩) n cap) n (cs++ds)) (h0 :0<n) (hc :cs.length=m*size) (hm :m≤n) :Dz size w (.slice (some ⟨b,off,none⟩) m cap) m cs :=by
 refine ⟨hc, ?_⟩
 rcases h.2 with ⟨rfl,_⟩ | ⟨_,b',off',cap',e,hb,hn,hx,hcell⟩
 ·omega
 ·simp only [Value.slice.injEq,Option.some.injEq,Addr.mk.injEq] at e
  obtain ⟨⟨rfl,rfl,_⟩,_,rfl⟩ :=e
  rcases Nat.eq_zero_or_pos m with rfl | hm0
  ·exact .inl ⟨rfl,_,cap,rfl,fun h=>by cases h⟩
  ·exact .inr ⟨hm0,b,off,cap,rfl,hb,by omega,hx,fun j u hj=>hcell j u (by rw [List.getElem?_append_left (List.getElem?_eq_some_iff.1 hj).1];exact hj)⟩
theorem Dz.rest {size :Nat} {w :World} {b off n cap :Nat} {cs ds :List Value} {m :Nat} (h :Dz size w (.slice (some ⟨b,off,none⟩) n cap) n (cs++ds)) (h0 :0<n) (hc :cs.length=m*size) (hm :m<n) :Dz size w (.slice (some ⟨b,off+m*size,none⟩) (n - m) (cap - m)) (n - m) ds :=by
 have hl :=h.1
 rw [List.length_append,hc] at hl
 refine ⟨by rw [Nat.sub_mul];omega, ?_⟩
 rcases h.2 with ⟨rfl,_⟩ | ⟨_,b',off',cap',e,hb,hn,hx,hcell⟩
 ·omega
 ·simp only [Value.slice.injEq,Option.some.injEq,Addr.mk.injEq] at e
  obtain ⟨⟨rfl,rfl,_⟩,_,rfl⟩ :=e
  refine .inr ⟨by omega,b,off+m*size,cap - m,rfl,hb,by omega,by omega,fun j u hj=> ?_⟩
  rw [Nat.add_assoc,←hc]
  exact hcell _ u (by rw [List.getElem?_append_right (by omega),Nat.add_sub_cancel_left];exact hj)
theorem Dz.none {size :Nat} {w :World} {ad :Addr} {cap :Nat} :Dz size w (.slice (some ad) 0 cap) 0 [] := ⟨by simp, .inl ⟨rfl,_,cap,rfl,fun h=>by cases h⟩⟩
theorem Tt {w :World} {b off cap :Nat} {L M :List ByteArray} (h :Aj w (.slice (some ⟨b,off,none⟩) (L++M).length cap) (L++M)) (h0 :0< (L++M).length) :Aj w (.slice (some ⟨b,off,none⟩) L.length cap) L :=by
 unfold Aj at h
 rw [List.map_append] at h
 exact Dz.head h h0 (by simp) (by simp)
theorem Tu {w :World} {b off cap :Nat} {L M :List ByteArray} (h :Aj w (.slice (some ⟨b,off,none⟩) (L++M).length cap) (L++M)) (h0 :0<M.length) :Aj w (.slice (some ⟨b,off+L.length,none⟩) M.length (cap - L.length)) M :=by
 unfold Aj at h
 rw [List.map_append] at h
 have :=Dz.rest h (by simp;omega) (m :=L.length) (by simp) (by simp;omega)
 rw [Nat.mul_one,List.length_append,Nat.add_sub_cancel_left] at this
 exact this
def Cx (p :Pg) :List Pg :=if p.K.length≤4 then [p] else [⟨p.K.take 2,p.V.take 2⟩,⟨p.K.drop 2,p.V.drop 2⟩]
theorem Ns {w :World} {g cap :Nat} {kv vv :Value} {p :Pg} (hb :w.heap[g]? =some (.cells #[kv,vv] 111)) (hk :Aj w kv p.K) (hv :Aj w vv p.V) (hc :1≤cap) (hm :cap≤maxLen) :Aw w (.slice (some ⟨g,0,none⟩) 1 cap) [p] :=by
 refine ⟨[(kv,vv)],⟨by simp [Bg], .inr ⟨by simp,g,0,cap,rfl,lt_of_block hb,by simpa using hc,hm,fun j u hj=> ?_⟩⟩,hk,hv,trivial⟩
 rw [Nat.zero_add]
 exact Aa hb (by simpa [Bg] using hj)
theorem Abs {w :World} {g cap :Nat} {kv vv kv' vv' :Value} {p q :Pg} (hb :w.heap[g]? =some (.cells #[kv,vv,kv',vv'] 111)) (hk :Aj w kv p.K) (hv :Aj w vv p.V) (hk' :Aj w kv' q.K) (hv' :Aj w vv' q.V) (hc :2≤cap) (hm :cap≤maxLen) :Aw w (.slice (some ⟨g,0,none⟩) 2 cap) [p,q] :=by
 refine ⟨[(kv,vv),(kv',vv')],⟨by simp [Bg], .inr ⟨by simp,g,0,cap,rfl,lt_of_block hb,by simpa using hc,hm,fun j u hj=> ?_⟩⟩,hk,hv,hk',hv',trivial⟩
 rw [Nat.zero_add]
 exact Aa hb (by simpa [Bg] using hj)
set_option maxHeartbeats 400000 in
theorem Vr (p :Pg) (kv vv :Value) (w :World) (hk :Aj w kv p.K) (hv :Aj w vv p.V) (h4 :p.K.length≤4) :
  Calls Tryz.prog 100 #[.agg #[kv,vv]] w fun e w'=> ∃sv,e= .returned sv∧Aw w' sv (Cx p) ∧Below w.heap.size w w' :=by
 rw [Cx,if_pos h4]
 have hkk :=hid hk
 have hvv :=hid hv
 obtain ⟨ka,kc,rfl⟩ :=hk.shape
 obtain ⟨va,vc,rfl⟩ :=hv.shape
 clear hk hv
 generalize p.K.length=n at*
 generalize p.V.length=m at*
 have i0 : (n :Int) ≤4 :=by omega
 go_enter Tryz.func100,Tryz.ntmps100
 go_wp2
 go_ret
 have hbl :Below w.heap.size w ((w.alloc (.cells #[.slice ka n kc, .slice va m vc] 111)).alloc (.cells #[.slice ka n kc, .slice va m vc] 111)) := ((Below.refl _ w).alloc (Nat.le_refl _) _).alloc (by simp) _
 refine ⟨_,rfl,Ns (g :=w.heap.size+1) (by have :=Ab (w.alloc (.cells #[.slice ka n kc, .slice va m vc] 111)) (.cells #[.slice ka n kc, .slice va m vc] 111);rwa [World.size_alloc] at this) (hkk.out.below hbl) (hvv.out.below hbl) (by decide) (by decide),hbl⟩
set_option maxHeartbeats 2000000 in
theorem Z3 (K1 K2 V1 V2 :List ByteArray) (kb ko kc vb vo vc :Nat) (w :World) (hk :Aj w (.slice (some ⟨kb,ko,none⟩) (K1++K2).length kc) (K1++K2)) (hv :Aj w (.slice (some ⟨vb,vo,none⟩) (V1++V2).length vc) (V1++V2)) (hkc :5≤kc) (hkm :kc≤maxLen) (hvc :5≤vc) (hvm :vc≤maxLen)
  (h1 :K1.length=2) (h2 :K2.length=3) (h3 :V1.length=2) (h4 :V2.length=3) :
  Calls Tryz.prog 100 #[.agg #[.slice (some ⟨kb,ko,none⟩) 5 kc, .slice (some ⟨vb,vo,none⟩) 5 vc]] w fun e w'=> ∃sv,e= .returned sv∧Aw w' sv [⟨K1,V1⟩,⟨K2,V2⟩] ∧Below w.heap.size w w' :=by
 have a1 :=Tt hk (by simp;omega)
 have a2 :=Tu hk (by omega)
 have b1 :=Tt hv (by simp;omega)
 have b2 :=Tu hv (by omega)
 rw [h1] at a1 a2
 rw [h2] at a2
 rw [h3] at b1 b2
 rw [h4] at b2
 have cp1 :=fun W (h :Below w.heap.size w W) =>Im ⟨K1,V1⟩ _ _ W (a1.below h) (b1.below h) (by simp only;omega) (by simp only;omega) (by simp only;omega)
 have cp2 :=fun W (h :Below w.heap.size w W) =>Im ⟨K2,V2⟩ _ _ W (a2.below h) (b2.below h) (by simp only;omega) (by simp only;omega) (by simp only;omega)
 simp only [h1,h2,h3,h4] at cp1 cp2
 have H :=hid (And.intro h1 (And.intro h2 (And.intro h3 h4)))
 clear a1 a2 b1 b2 hk hv h1 h2 h3 h4
 unfold maxLen at hkm hvm
 have i1 : (2 :Int) ≤ (kc :Int) :=by omega
 have i2 : (2 :Int) ≤ (vc :Int) :=by omega
 have i3 : ¬ (kc=2) :=by omega
 have i4 : ¬ (vc=2) :=by omega
 have i5 : (5 :Int) ≤ (kc :Int) :=by omega
 have i6 : (5 :Int) ≤ (vc :Int) :=by omega
 generalize hW0 :w.alloc (.cells #[.slice (some ⟨kb,ko,none⟩) 5 kc, .slice (some ⟨vb,vo,none⟩) 5 vc] 111) =W0
 have hB0 :Below w.heap.size w W0 :=by rw [←hW0];exact (Below.refl _ w).alloc (Nat.le_refl _) _
 have hs0 :W0.heap.size=w.heap.size+1 :=by rw [←hW0];simp
 have c0 :W0.cell? ⟨w.heap.size,0,none⟩ =some (.slice (some ⟨kb,ko,none⟩) 5 kc) :=by rw [←hW0];exact Aa (Ab w _) rfl
 have c1 :W0.cell? ⟨w.heap.size,1,none⟩ =some (.slice (some ⟨vb,vo,none⟩) 5 vc) :=by rw [←hW0];exact Aa (Ab w _) rfl
 go_enter Tryz.func100,Tryz.ntmps100
 go_wp2
 clear hW0
 go_region_held3 (fun w'=>w'.cell? ⟨w.heap.size,0,none⟩ =some (.slice (some ⟨kb,ko,none⟩) 5 kc) ∧w'.cell? ⟨w.heap.size,1,none⟩ =some (.slice (some ⟨vb,vo,none⟩) 5 vc))
  (first | exact ⟨(World.cell?_alloc_past _ _ _ hZ).trans s02,(World.cell?_alloc_past _ _ _ hZ).trans s12⟩ | exact ⟨s02,s12⟩ | exact ⟨s01,s11⟩ | exact ⟨c0,c1⟩)
  (first
   | (go_at_call_of 97 (Value.agg #[.slice (some ⟨kb,ko,none⟩) 2 kc, .slice (some ⟨vb,vo,none⟩) 2 vc]);refine (cp1 _ hB0.drew).mono ?_;rintro e w1 ⟨g1,k1,g2,k2,rfl,ho1,ho2,hgg,hb1⟩;obtain ⟨hcc,hff⟩ :=C9 hb1;have hA :w.heap.size<W0.drew.heap.size := (by show _<W0.heap.size;omega);have hz1 :=hB0.drew.trans (hb1.mono (show w.heap.size≤W0.drew.heap.size from hB0.size));have s01 := (hcc _ _ hA).trans c0;have s11 := (hcc _ _ hA).trans c1)
   | (go_at_call 97;refine (cp2 _ hz1).mono ?_;rintro e w2 ⟨g3,k3,g4,k4,rfl,ho3,ho4,hgg',hb2⟩;obtain ⟨hcc,hff⟩ :=C9 hb2;replace hA :=Nat.lt_of_lt_of_le hA hb1.size;have hZ :=Nat.lt_of_lt_of_le hA hb2.size;have s02 := (hcc _ _ hA).trans s01;have s12 := (hcc _ _ hA).trans s11))
 go_wp2
 go_ret
 have hz2 :Below w.heap.size w w2 :=hz1.trans (hb2.mono hz1.size)
 obtain ⟨h1,h2,h3,h4⟩ :=H.out
 have hbl :Below w2.heap.size w2 (w2.alloc (.cells #[.slice (some ⟨g1,0,none⟩) 2 k1, .slice (some ⟨g2,0,none⟩) 2 k2, .slice (some ⟨g3,0,none⟩) 3 k3, .slice (some ⟨g4,0,none⟩) 3 k4] 111)) := (Below.refl _ _).alloc (Nat.le_refl _) _
 have q1 := ((ho1.strs).below hb2).below hbl
 have q2 := ((ho2.strs).below hb2).below hbl
 have q3 := (ho3.strs).below hbl
 have q4 := (ho4.strs).below hbl
 simp only [h1,h2,h3,h4] at q1 q2 q3 q4
 exact ⟨_,rfl,Abs (p := ⟨K1,V1⟩) (q := ⟨K2,V2⟩) (Ab w2 _) q1 q2 q3 q4 (by decide) (by decide),hz2.trans (hbl.mono hz2.size)⟩
theorem Q6 (p :Pg) (kv vv :Value) (w :World) (hk :Aj w kv p.K) (hv :Aj w vv p.V) (h5 :p.K.length≤5) (hl :p.V.length=p.K.length) :
  Calls Tryz.prog 100 #[.agg #[kv,vv]] w fun e w'=> ∃sv,e= .returned sv∧Aw w' sv (Cx p) ∧Below w.heap.size w w' :=by
 by_cases h4 :p.K.length≤4
 ·exact Vr p kv vv w hk hv h4
 ·rw [Cx,if_neg h4]
  have hn :p.K.length=5 :=by omega
  have hm :p.V.length=5 :=by omega
  obtain ⟨kb,ko,kc,rfl,_,hkc,hkm,_⟩ :=hk.at (by omega)
  obtain ⟨vb,vo,vc,rfl,_,hvc,hvm,_⟩ :=hv.at (by omega)
  rw [hn] at hkc
  rw [hm] at hvc
  have :=Z3 (p.K.take 2) (p.K.drop 2) (p.V.take 2) (p.V.drop 2) kb ko kc vb vo vc w (by rw [List.take_append_drop];exact hk) (by rw [List.take_append_drop];exact hv) hkc hkm hvc hvm (by simp;omega) (by simp;omega) (by simp;omega) (by simp;omega)
  rw [hn,hm]
  exact this
theorem Z4 {w :World} {b off n cap :Nat} {A M :List Pg} (h :Aw w (.slice (some ⟨b,off,none⟩) n cap) (A++M)) (hn :n= (A++M).length) (h0 :0<n) :Aw w (.slice (some ⟨b,off,none⟩) A.length cap) A :=by
 obtain ⟨rows,h1,h2⟩ :=h
 have hp :=h2.part
 have hrl :=h2.length
 refine ⟨rows.take A.length, ?_,hp.1⟩
 subst hn
 rw [←List.take_append_drop A.length rows,M7] at h1
 refine Dz.head h1 h0 ?_ (by simp)
 rw [Jv,hp.1.length]
theorem Z5 {w :World} {b off n cap :Nat} {A M :List Pg} (h :Aw w (.slice (some ⟨b,off,none⟩) n cap) (A++M)) (hn :n= (A++M).length) (h0 :0<M.length) :Aw w (.slice (some ⟨b,off+A.length*2,none⟩) M.length (cap - A.length)) M :=by
 obtain ⟨rows,h1,h2⟩ :=h
 have hp :=h2.part
 refine ⟨rows.drop A.length, ?_,hp.2⟩
 subst hn
 rw [←List.take_append_drop A.length rows,M7] at h1
 have :=Dz.rest h1 (by simp;omega) (m :=A.length) (by rw [Jv,hp.1.length]) (by simp;omega)
 rw [List.length_append,Nat.add_sub_cancel_left] at this
 exact this
theorem Af3 (A P B :List Pg) (s1 s2 s3 :Value) (g cap :Nat) (w :World) (hb :w.heap[g]? =some (.cells #[s1,s2,s3] 46)) (h1 :Aw w s1 A) (h2 :Aw w s2 P) (h3 :Aw w s3 B) (hs : (A.length+P.length+B.length) *48≤140737488355328) :
  Calls Tryz.prog 138 #[.slice (some ⟨g,0,none⟩) 3 cap] w fun e w'=> ∃ao c,e= .returned (.slice ao (A++P++B).length c) ∧Aw w' (.slice ao (A++P++B).length c) (A++P++B) ∧Below w.heap.size w w' :=by
 obtain ⟨r1,a1,p1⟩ :=h1
 obtain ⟨r2,a2,p2⟩ :=h2
 obtain ⟨r3,a3,p3⟩ :=h3
 have key :=Af2 [(s1,A.length,Bg r1),(s2,P.length,Bg r2),(s3,B.length,Bg r3)] g cap w (lt_of_block hb) (by
   intro i x hx
   match i,hx with
   | 0,hx=>simp at hx;subst hx;exact Aa hb rfl
   | 1,hx=>simp at hx;subst hx;exact Aa hb rfl
   | 2,hx=>simp at hx;subst hx;exact Aa hb rfl
   | n+3,hx=>simp at hx) (by
   intro x hx
   simp only [List.mem_cons,List.not_mem_nil,or_false] at hx
   rcases hx with rfl | rfl | rfl
   ·exact ⟨a1,p1.one⟩
   ·exact ⟨a2,p2.one⟩
   ·exact ⟨a3,p3.one⟩) (by simp) (by simp [Ow.sum];omega)
 refine key.mono ?_
 rintro e w' ⟨v,rfl,hr,hbl⟩
 have hsum :Ow.sum [(s1,A.length,Bg r1),(s2,P.length,Bg r2),(s3,B.length,Bg r3)] = (A++P++B).length :=by simp [Ow.sum] <;>omega
 have hall :Ow.all [(s1,A.length,Bg r1),(s2,P.length,Bg r2),(s3,B.length,Bg r3)] =Bg (r1++r2++r3) :=by simp [Ow.all,Bg]
 rw [hsum,hall] at hr
 obtain ⟨ao,c,rfl⟩ :=hr.shape
 exact ⟨ao,c,rfl,⟨r1++r2++r3,hr,((p1.keep hbl (Nat.le_refl _)).append (p2.keep hbl (Nat.le_refl _))).append (p3.keep hbl (Nat.le_refl _))⟩,hbl⟩
theorem L0 {size :Nat} {w :World} {sv :Value} {n :Nat} {cs :List Value} (h :Dz size w sv n cs) {g :Nat} {i :Nat} (v :Value) (hn :sv.ownBlock≠some g) :Dz size (w.setCell ⟨g,i,none⟩ v) sv n cs :=by
 refine ⟨h.1, ?_⟩
 rcases h.2 with h2 | ⟨h0,b,off,cap,rfl,hlt,hc,hm,hcell⟩
 ·exact .inl h2
 ·refine .inr ⟨h0,b,off,cap,rfl, ?_,hc,hm,fun j u hj=> ?_⟩
  ·exact Nat.lt_of_lt_of_le hlt ((Below.refl 0 w).setCell (p := ⟨g,i,none⟩) (Nat.zero_le _) v).size
  ·rw [World.cell?_setCell_other]
   ·exact hcell j u hj
   ·intro e
    simp only [Addr.mk.injEq] at e
    exact hn (by simp [Value.ownBlock,e.1])
theorem Vs {w :World} {sv :Value} {L :List ByteArray} (h :Aj w sv L) {g :Nat} {t :TypeId} (hb :w.heap[g]? =some (.cells #[.slice none 0 0] t)) (v :Value) :Aj (w.setCell ⟨g,0,none⟩ v) sv L :=by
 rcases Nat.eq_zero_or_pos L.length with h0 | h0
 ·refine ⟨h.1, ?_⟩
  rcases h.2 with h2 | ⟨h1,_⟩
  ·exact .inl h2
  ·omega
 ·obtain ⟨b,off,cap,rfl,_,_,_,hc⟩ :=h.at h0
  refine L0 h v fun e=> ?_
  obtain rfl :b=g :=by simpa [Value.ownBlock] using e
  obtain ⟨x,hx⟩ : ∃x,L[0]? =some x := ⟨_,List.getElem?_eq_getElem h0⟩
  have :=hc 0 x hx
  simp only [World.cell?,hb,Nat.add_zero] at this
  cases off with
  | zero=>simp at this
  | succ k=>simp at this
theorem Pgs.set {w :World} {g :Nat} {t :TypeId} (hb :w.heap[g]? =some (.cells #[.slice none 0 0] t)) (v :Value) : ∀ {rs :List (Value×Value)} {T :List Pg},Pgs w rs T→Pgs (w.setCell ⟨g,0,none⟩ v) rs T
 | [],[],_=>trivial
 | _ ::_,_ ::_,h=> ⟨Vs h.1 hb v,Vs h.2.1 hb v,Pgs.set hb v h.2.2⟩
theorem Gq {w :World} {sv :Value} {T :List Pg} (h :Aw w sv T) {g :Nat} {t :TypeId} (hb :w.heap[g]? =some (.cells #[.slice none 0 0] t)) (v :Value) :Aw (w.setCell ⟨g,0,none⟩ v) sv T :=by
 obtain ⟨rows,h1,h2⟩ :=h
 refine ⟨rows, ?_,Pgs.set hb v h2⟩
 rcases Nat.eq_zero_or_pos T.length with h0 | h0
 ·refine ⟨h1.1, ?_⟩
  rcases h1.2 with h3 | ⟨h3,_⟩
  ·exact .inl h3
  ·omega
 ·have h1' :=h1
  rcases h1.2 with ⟨h3,_⟩ | ⟨_,b,off,cap,rfl,_,_,_,hc⟩
  ·omega
  ·refine L0 h1' v fun e=> ?_
   obtain rfl :b=g :=by simpa [Value.ownBlock] using e
   have hl :=h1'.1
   obtain ⟨x,hx⟩ : ∃x,(Bg rows)[1]? =some x := ⟨_,List.getElem?_eq_getElem (by omega)⟩
   have :=hc 1 x hx
   simp only [World.cell?,hb] at this
   simp at this
set_option maxHeartbeats 2000000 in
theorem Ks (A M B P :List Pg) (tv pv :Value) (t :Nat) (w :World) (ht :A5 w tv (A++ (M++B))) (hp :Aw w pv P) (hM :0<M.length) (htm :t=A.length+M.length) (hs : (A.length+P.length+B.length) *48≤140737488355328) :
  Calls Tryz.prog 98 #[tv, .int .i64 A.length, .int .i64 t,pv] w fun e w'=> ∃tv',e= .returned tv'∧A5 w' tv' (A++P++B) ∧Below w.heap.size w w' :=by
 obtain ⟨sv,rfl,hT⟩ :=ht
 have hlen : (A++ (M++B)).length=A.length+M.length+B.length :=by simp;omega
 obtain ⟨b,off,cap,rfl,hb,hcap,hcm,hHP⟩ :=hT.at (by omega)
 have e1 :=Z4 hT rfl (by omega)
 have hT2 :=hT
 rw [←List.append_assoc] at hT2
 have e3 : ∃s3,s3= (if cap=t then (⟨b,off,none⟩ :Addr) else ⟨b,off+t*2,none⟩) ∧Aw w (.slice (some s3) ((A++ (M++B)).length - t) (cap - t)) B :=by
  refine ⟨_,rfl, ?_⟩
  rcases Nat.eq_zero_or_pos B.length with h0 | h0
  ·have hl : (A++ (M++B)).length - t=0 :=by omega
   rw [hl]
   obtain rfl :=List.eq_nil_of_length_eq_zero h0
   exact ⟨[],Dz.none,trivial⟩
  ·rw [if_neg (by omega)]
   have :=Z5 hT2 (by simp<;>omega) h0
   rw [List.length_append,←htm] at this
   have hl : (A++ (M++B)).length - t=B.length :=by omega
   rw [hl]
   exact this
 obtain ⟨s3,hs3,e3⟩ :=e3
 have cc :=fun W g (hW :Below w.heap.size w W) hb=>Af3 A P B _ pv _ g 3 W hb (e1.below hW) (hp.below hW) (e3.below hW) hs
 have ht1 :t≤ (A++ (M++B)).length :=by omega
 have ha1 :A.length≤ (A++ (M++B)).length :=by omega
 obtain ⟨po,pc,rfl⟩ : ∃po pc,pv= .slice po P.length pc :=by obtain ⟨rows,h1,_⟩ :=hp;exact h1.shape
 clear hT hT2 e1 e3 hp hHP hlen hs htm
 generalize hres :A++P++B=R at*
 generalize A.length=a at*
 generalize (A++ (M++B)).length=n at*
 generalize P.length=pl at*
 clear hM
 unfold maxLen at hcm
 have i1 : (0 :Int) ≤ (a :Int) :=by omega
 have i2 : (a :Int) ≤ (cap :Int) :=by omega
 have i3 : (0 :Int) ≤ (t :Int) :=by omega
 have i4 : (t :Int) ≤ (n :Int) :=by omega
 have i5 : (n :Int) ≤ (cap :Int) :=by omega
 have i6 : (a :Int) ≤ (n :Int) :=by omega
 generalize hW0 : (w.alloc (.cells #[.slice (some ⟨b,off,none⟩) n cap] 48)).alloc (.cells #[.slice none 0 0] 48) =W0
 have hB0 :Below w.heap.size w W0 :=by rw [←hW0];exact ((Below.refl _ w).alloc (Nat.le_refl _) _).alloc (by simp) _
 have hs0 :W0.heap.size=w.heap.size+1+1 :=by rw [←hW0];simp
 have c0 :W0.cell? ⟨w.heap.size,0,none⟩ =some (.slice (some ⟨b,off,none⟩) n cap) :=by rw [←hW0];exact Aa (Ac (Ab w _) _) rfl
 have r0 :W0.heap[w.heap.size+1]? =some (.cells #[.slice none 0 0] 48) :=by
  rw [←hW0];have :=Ab (w.alloc (.cells #[.slice (some ⟨b,off,none⟩) n cap] 48)) (.cells #[.slice none 0 0] 48)
  rwa [World.size_alloc] at this
 have q0 :W0.cell? ⟨w.heap.size+1,0,none⟩ =some (.slice none 0 0) :=Aa r0 rfl
 have f0 :W0.frozen? ⟨w.heap.size+1,0,none⟩ =false :=by simp [World.frozen?,r0]
 have hne1 : ∀i j,(⟨w.heap.size+1,i,none⟩ :Addr) ≠ ⟨w.heap.size,j,none⟩ :=fun i j h=>by simp at h
 have hA :w.heap.size<W0.heap.size :=by omega
 have hA' :w.heap.size+1<W0.heap.size :=by omega
 by_cases hct :cap=t
 ·rw [if_pos hct] at hs3
  subst hs3
  subst hct
  obtain rfl :n=cap :=by omega
  simp only [Nat.sub_self] at cc
  have hBz :Below w.heap.size w (W0.alloc (.cells #[.slice (some ⟨b,off,none⟩) a n, .slice po pl pc, .slice (some ⟨b,off,none⟩) 0 0] 46)).drew := (hB0.alloc hB0.size _).drew
  have cw :=cc (W0.alloc (.cells #[.slice (some ⟨b,off,none⟩) a n, .slice po pl pc, .slice (some ⟨b,off,none⟩) 0 0] 46)).drew (w.heap.size+1+1) hBz (by rw [←hs0];exact Ab W0 _)
  have hA2 :w.heap.size< (W0.alloc (.cells #[.slice (some ⟨b,off,none⟩) a n, .slice po pl pc, .slice (some ⟨b,off,none⟩) 0 0] 46)).drew.heap.size :=by
   show _< (W0.alloc _).heap.size
   simp;omega
  have hA2' :w.heap.size+1< (W0.alloc (.cells #[.slice (some ⟨b,off,none⟩) a n, .slice po pl pc, .slice (some ⟨b,off,none⟩) 0 0] 46)).drew.heap.size :=by
   show _< (W0.alloc _).heap.size
   simp;omega
  have s01 : (W0.alloc (.cells #[.slice (some ⟨b,off,none⟩) a n, .slice po pl pc, .slice (some ⟨b,off,none⟩) 0 0] 46)).drew.cell? ⟨w.heap.size,0,none⟩ =some (.slice (some ⟨b,off,none⟩) n n) := (World.cell?_alloc_past _ _ _ hA).trans c0
  have q01 : (W0.alloc (.cells #[.slice (some ⟨b,off,none⟩) a n, .slice po pl pc, .slice (some ⟨b,off,none⟩) 0 0] 46)).drew.cell? ⟨w.heap.size+1,0,none⟩ =some (.slice none 0 0) := (World.cell?_alloc_past _ _ _ hA').trans q0
  have f01 : (W0.alloc (.cells #[.slice (some ⟨b,off,none⟩) a n, .slice po pl pc, .slice (some ⟨b,off,none⟩) 0 0] 46)).drew.frozen? ⟨w.heap.size+1,0,none⟩ =false := ((Below.refl W0.heap.size W0).alloc (Nat.le_refl _) _).frozen (p := ⟨w.heap.size+1,0,none⟩) hA' |>.trans f0
  have r01 := ((Below.refl W0.heap.size W0).alloc (Nat.le_refl _) (.cells #[.slice (some ⟨b,off,none⟩) a n, .slice po pl pc, .slice (some ⟨b,off,none⟩) 0 0] 46)).block _ hA' |>.trans r0
  clear cc
  go_enter Tryz.func98,Tryz.ntmps98
  go_wp2
  clear hW0 r0
  go_region_held3 (fun w'=>w'.cell? ⟨w.heap.size,0,none⟩ =some (.slice (some ⟨b,off,none⟩) n n))
   (first | exact (World.cell?_setCell_other _ _ _ _ (hne1 _ _)).trans s02 | exact s02 | exact s01 | exact c0)
   (first
    | (go_at_call 138;refine cw.mono ?_;rintro e w1 ⟨ao,c,rfl,ho,hb1⟩;obtain ⟨hcc,hff⟩ :=C9 hb1;have s02 := (hcc _ _ hA2).trans s01;have q02 := (hcc _ _ hA2').trans q01;have f02 := (hff _ _ hA2').trans f01;have r02 := (hb1.block _ hA2').trans r01))
  go_wp2
  refine bodyPost_ret (v := .agg #[.slice ao R.length c]) (by simp [results,Tryz.results98,go_sem, *]) rfl ?_
  have hz :Below w.heap.size w w1 :=hBz.trans (hb1.mono hBz.size)
  refine ⟨_,rfl,⟨_,rfl, ?_⟩,hz.setCell (by simp) _⟩
  exact Gq ho r02 _
 ·rw [if_neg hct] at hs3
  subst hs3
  have hBz :Below w.heap.size w (W0.alloc (.cells #[.slice (some ⟨b,off,none⟩) a cap, .slice po pl pc, .slice (some ⟨b,off+t*2,none⟩) (n - t) (cap - t)] 46)).drew := (hB0.alloc hB0.size _).drew
  have cw :=cc (W0.alloc (.cells #[.slice (some ⟨b,off,none⟩) a cap, .slice po pl pc, .slice (some ⟨b,off+t*2,none⟩) (n - t) (cap - t)] 46)).drew (w.heap.size+1+1) hBz (by rw [←hs0];exact Ab W0 _)
  have hA2 :w.heap.size< (W0.alloc (.cells #[.slice (some ⟨b,off,none⟩) a cap, .slice po pl pc, .slice (some ⟨b,off+t*2,none⟩) (n - t) (cap - t)] 46)).drew.heap.size :=by
   show _< (W0.alloc _).heap.size
   simp;omega
  have hA2' :w.heap.size+1< (W0.alloc (.cells #[.slice (some ⟨b,off,none⟩) a cap, .slice po pl pc, .slice (some ⟨b,off+t*2,none⟩) (n - t) (cap - t)] 46)).drew.heap.size :=by
   show _< (W0.alloc _).heap.size
   simp;omega
  have s01 : (W0.alloc (.cells #[.slice (some ⟨b,off,none⟩) a cap, .slice po pl pc, .slice (some ⟨b,off+t*2,none⟩) (n - t) (cap - t)] 46)).drew.cell? ⟨w.heap.size,0,none⟩ =some (.slice (some ⟨b,off,none⟩) n cap) := (World.cell?_alloc_past _ _ _ hA).trans c0
  have q01 : (W0.alloc (.cells #[.slice (some ⟨b,off,none⟩) a cap, .slice po pl pc, .slice (some ⟨b,off+t*2,none⟩) (n - t) (cap - t)] 46)).drew.cell? ⟨w.heap.size+1,0,none⟩ =some (.slice none 0 0) := (World.cell?_alloc_past _ _ _ hA').trans q0
  have f01 : (W0.alloc (.cells #[.slice (some ⟨b,off,none⟩) a cap, .slice po pl pc, .slice (some ⟨b,off+t*2,none⟩) (n - t) (cap - t)] 46)).drew.frozen? ⟨w.heap.size+1,0,none⟩ =false := ((Below.refl W0.heap.size W0).alloc (Nat.le_refl _) _).frozen (p := ⟨w.heap.size+1,0,none⟩) hA' |>.trans f0
  have r01 := ((Below.refl W0.heap.size W0).alloc (Nat.le_refl _) (.cells #[.slice (some ⟨b,off,none⟩) a cap, .slice po pl pc, .slice (some ⟨b,off+t*2,none⟩) (n - t) (cap - t)] 46)).block _ hA' |>.trans r0
  clear cc
  go_enter Tryz.func98,Tryz.ntmps98
  go_wp2
  clear hW0 r0
  go_region_held3 (fun w'=>w'.cell? ⟨w.heap.size,0,none⟩ =some (.slice (some ⟨b,off,none⟩) n cap))
   (first | exact (World.cell?_setCell_other _ _ _ _ (hne1 _ _)).trans s02 | exact s02 | exact s01 | exact c0)
   (first
    | (go_at_call 138;refine cw.mono ?_;rintro e w1 ⟨ao,c,rfl,ho,hb1⟩;obtain ⟨hcc,hff⟩ :=C9 hb1;have s02 := (hcc _ _ hA2).trans s01;have q02 := (hcc _ _ hA2').trans q01;have f02 := (hff _ _ hA2').trans f01;have r02 := (hb1.block _ hA2').trans r01))
  go_wp2
  refine bodyPost_ret (v := .agg #[.slice ao R.length c]) (by simp [results,Tryz.results98,go_sem, *]) rfl ?_
  have hz :Below w.heap.size w w1 :=hBz.trans (hb1.mono hBz.size)
  refine ⟨_,rfl,⟨_,rfl, ?_⟩,hz.setCell (by simp) _⟩
  exact Gq ho r02 _
end Go.Proofs.YthehiijgnepcfaaGreat

namespace Go.Proofs.YthehiijgnepcfaaGreat
open Go.RowKit
def rq (lo hi :ByteArray) (x :ByteArray×ByteArray) :Bool := !klt x.1 lo&&klt x.1 hi
def rng (T :List Pg) (lo hi :ByteArray) :List (ByteArray×ByteArray) := (flat T).filter (rq lo hi)
theorem Abt {T :List Pg} {k :Nat} {p :Pg} (h :T[k]? =some p) :flat (T.take (k+1)) =flat (T.take k) ++p.K.zip p.V :=by
 rw [List.take_add_one,h,Dj]
 simp [flat]
theorem Vt {T :List Pg} {lo hi :ByteArray} (h : ∀p∈T,p.ok) (hk : ∀x∈Bc T,klt x lo=true∨klt x hi=false) :rng T lo hi= [] :=by
 refine D7 fun x hx=> ?_
 have :x.1∈Bc T :=by rw [←Eq h];exact List.mem_map.2 ⟨x,hx,rfl⟩
 unfold rq
 rcases hk _ this with e | e<;>simp [e]
theorem Z6 {p :Pg} (hok :p.ok) (hr :Bo p.K) {lo hi :ByteArray} (hlh :klt lo hi=true) (hl :klt (Br p) lo=false) :
  ∃K1 M K4 V1 MV V4,p.K=K1++ (M++K4) ∧p.V=V1++ (MV++V4) ∧V1.length=K1.length∧MV.length=M.length∧ (∀x∈K1,klt x lo=true) ∧ (∀x∈M++K4,klt x lo=false) ∧ (∀x∈K1++M,klt x hi=true) ∧ (∀x∈K4,klt x hi=false) ∧0< (M++K4).length∧ (p.K.zip p.V).filter (rq lo hi) =M.zip MV :=by
 obtain ⟨K1,K2,e,h1,h2⟩ :=Mb p.K hr lo
 have hr2 :Bo K2 :=by rw [e] at hr;exact (D8.1 hr).2.1
 obtain ⟨M,K4,rfl,h3,h4⟩ :=Mb K2 hr2 hi
 have hvl :=hok.2.2
 rw [e] at hvl
 simp only [List.length_append] at hvl
 refine ⟨K1,M,K4,p.V.take K1.length,(p.V.drop K1.length).take M.length,(p.V.drop K1.length).drop M.length,e, ?_,by simp;omega,by simp;omega,h1,h2, ?_,h4, ?_, ?_⟩
 ·rw [List.take_append_drop,List.take_append_drop]
 ·intro x hx
  rcases List.mem_append.1 hx with hx | hx
  ·exact Bu (h1 x hx) hlh
  ·exact h3 x hx
 ·rcases Nat.eq_zero_or_pos (M++K4).length with h0 | h0
  ·exfalso
   have :=List.eq_nil_of_length_eq_zero h0
   rw [this,List.append_nil] at e
   have :=h1 (Br p) (by have :=Gn hok;rw [e] at this;exact this)
   rw [hl] at this;cases this
  ·exact h0
 ·have ev :p.V=p.V.take K1.length++ ((p.V.drop K1.length).take M.length++ (p.V.drop K1.length).drop M.length) :=by rw [List.take_append_drop,List.take_append_drop]
  conv=>lhs;rw [e,ev]
  rw [List.zip_append (by simp;omega),List.zip_append (by simp;omega),List.filter_append,List.filter_append]
  rw [D7 (l :=K1.zip _) fun x hx=>by unfold rq;rw [h1 _ (List.of_mem_zip hx).1];rfl]
  rw [D7 (l :=K4.zip _) fun x hx=>by unfold rq;rw [h4 _ (List.of_mem_zip hx).1];simp]
  rw [Ij (l :=M.zip _) fun x hx=>by unfold rq;rw [h2 _ (List.mem_append_left _ (List.of_mem_zip hx).1),h3 _ (List.of_mem_zip hx).1];rfl]
  simp
theorem Vu {w :World} {b off cap :Nat} {A M B :List ByteArray} (h :Aj w (.slice (some ⟨b,off,none⟩) (A++ (M++B)).length cap) (A++ (M++B))) : ∀j u,(M.map Value.string)[j]? =some u→w.cell? ((⟨b,off+A.length,none⟩ :Addr).add j) =some u :=by
 intro j u hj
 have hjl := (List.getElem?_eq_some_iff.1 hj).1
 simp only [List.length_map] at hjl
 obtain ⟨b',off',c,e,_,_,_,hc⟩ :=h.at (by simp;omega)
 simp only [Value.slice.injEq,Option.some.injEq,Addr.mk.injEq] at e
 obtain ⟨⟨rfl,rfl,_⟩,_,rfl⟩ :=e
 rw [Addr.add_lit,Nat.add_assoc]
 rw [List.getElem?_map] at hj
 cases hx :M[j]? with
 | none=>rw [hx] at hj;cases hj
 | some s=>
  rw [hx] at hj
  have :=hc (A.length+j) s (by rw [List.getElem?_append_right (by omega),Nat.add_sub_cancel_left,List.getElem?_append_left hjl];exact hx)
  rw [this];exact hj
theorem Tv {w w' :World} {base :Nat} {e :TypeId} {size :Nat} {v :Value} {n :Nat} {xs :List Value} {r :Option Nat} (h :w.ownsRow base e size v n xs) (hg :w.grownBy w' r) (hne :r=none∨v.ownBlock≠r) :w'.ownsRow base e size v n xs :=by
 obtain ⟨h1,h2⟩ :=h
 refine ⟨h1, ?_⟩
 rcases h2 with h2 | ⟨g,cap,cur,hv,hgb,hh,rest⟩
 ·exact .inl h2
 ·refine .inr ⟨g,cap,cur,hv,hgb,(hg.block g (lt_of_block hh) ?_).trans hh,rest⟩
  rcases hne with rfl | hne
  ·simp
  ·rw [hv] at hne;simpa [Value.ownBlock] using hne
theorem Abu {a8 a9 b8 b9 :Option Nat} {h4 h5 :Nat} (h :a8=none∨a8≠a9) (e8 :b8=a8∨b8=some h4) (e9 :b9=a9∨b9=some h5) (l8 : ∀k,b8=some k→k<h5) (l9 : ∀k,a9=some k→k<h4) : (b8=none∨b8≠b9) ∧ (a9=none∨b8≠a9) :=by
 have hb :b8=none∨b8≠a9 :=by
  rcases e8 with rfl | rfl
  ·exact h
  ·right;intro e;have :=l9 _ e.symm;omega
 refine ⟨?_, ?_⟩
 ·rcases e9 with rfl | rfl
  ·exact hb
  ·right;intro e;have :=l8 _ e;omega
 ·rcases hb with e | e
  ·cases a9 with
   | none=>exact .inl rfl
   | some k=>right;rw [e];simp
  ·exact .inr e
def H9 (w w' :World) (e :Ending) (R :List (ByteArray×ByteArray)) :Prop :=
 ∃kv vv,e= .returned (.tuple #[kv,vv]) ∧Aj w' kv (R.map Prod.fst) ∧Aj w' vv (R.map Prod.snd) ∧Below w.heap.size w w'
set_option maxHeartbeats 4000000 in
theorem Z7 (T :List Pg) (tv :Value) (lo hi :ByteArray) (w :World) (h :A5 w tv T) (hg :Ap T) (hlh :klt lo hi=true) (hn :T.length≤1048576) (h0 :0<T.length) :
  Calls Tryz.prog 24 #[tv, .string lo, .string hi] w fun e w'=>H9 w w' e (rng T lo hi) :=by
 obtain ⟨i0,hi0,hz0,hz1,hz2⟩ :=info_parts Hh
 have gc :=fun W (hW :Below w.heap.size w W) =>Gp T tv W (h.below hW) hg
 have pc :=fun W (hW :Below w.heap.size w W) =>Il T tv lo W (h.below hW) hg (by omega)
 obtain ⟨A,B,eT,hcA,hA,hB⟩ :=Ll T hg lo
 change pf T lo=A.length at hcA
 rw [hcA] at pc
 obtain ⟨sv,rfl,hs⟩ :=h
 obtain ⟨b,off,cap,rfl,hbl,hcap,hcm,hT⟩ :=hs.at h0
 have hlh' :Op.bytesLess lo.toList hi.toList=true :=hlh
 generalize hW0 :w.alloc (.cells #[.slice (some ⟨b,off,none⟩) T.length cap] 48) =W0
 have hB0 :Below w.heap.size w W0 :=by rw [←hW0];exact (Below.refl _ w).alloc (Nat.le_refl _) _
 have b0 :W0.heap[w.heap.size]? =some (.cells #[.slice (some ⟨b,off,none⟩) T.length cap] 48) :=by rw [←hW0];exact Ab w _
 have cb0 :W0.cell? ⟨w.heap.size,0,none⟩ =some (.slice (some ⟨b,off,none⟩) T.length cap) :=Aa b0 rfl
 have hA0 :=lt_of_block b0
 have g0 :=gc _ hB0
 have hAT :A.length≤T.length :=by rw [eT];simp
 have hstart :rng (T.take A.length) lo hi= [] :=by
  have e :T.take A.length=A :=by rw [eT];simp
  rw [e]
  exact Vt (fun q hq=>hg.1 q (by rw [eT];simp [hq])) fun x hx=> .inl (hA x hx)
 have hpage : ∀k p,A.length≤k→T[k]? =some p→klt (Br p) lo=false :=by
  intro k p hk hp
  rw [eT,List.getElem?_append_right hk] at hp
  exact hB p (List.mem_of_getElem? hp)
 have HPg :=hid hpage
 have HSt :=hid hstart
 have HG :=hid hg
 have HT :=hid hT
 have HLH :=hid hlh
 clear hpage hstart hg hT hs gc eT hA hB hcA
 generalize hN :T.length=n at*
 have HN :=hid hN
 clear hN
 generalize A.length=a at*
 unfold maxLen at hcm
 go_enter Tryz.func24,Tryz.ntmps24
 go_wp2_with (first
  | (go_at_call 55;go_must (go_fit g0;rintro e w1 ⟨rfl,hb1⟩;have cb1 := (hb1.cell (p := ⟨w.heap.size,0,none⟩) hA0).trans cb0;have hbz :=hB0.trans (hb1.mono hB0.size);have hZ1 :=Nat.lt_of_lt_of_le hA0 hb1.size))
  | (go_at_call 58;go_must (go_fit (pc _ hbz);rintro e w2 ⟨rfl,hb2⟩;have cb2 := (hb2.cell (p := ⟨w.heap.size,0,none⟩) hZ1).trans cb1;have hbz2 :=hbz.trans (hb2.mono hbz.size);have hZ2 :=Nat.lt_of_lt_of_le hZ1 hb2.size)))
 go_loopw [8,9,10] (fun z8 z9 i wr=> ∃ (k :Nat) (KL VL :List ByteArray),a≤k∧k≤n∧i= .int .i64 k∧KL.length≤4*k∧VL.length=KL.length∧wr.ownsRow w2.heap.size 9 1 z8 KL.length (KL.map .string) ∧wr.ownsRow w2.heap.size 9 1 z9 VL.length (VL.map .string) ∧ (z8.ownBlock=none∨z8.ownBlock≠z9.ownBlock) ∧Below w2.heap.size w2 wr∧Hid (KL= (rng (T.take k) lo hi).map Prod.fst∧VL= (rng (T.take k) lo hi).map Prod.snd)) (fun _ _ i _=>n - (intOf i).toNat)
 case atStart=>exact ⟨a,[],[],Nat.le_refl _,hAT,rfl,by simp,rfl,World.ownsRow_nil _ _ _ _,World.ownsRow_nil _ _ _ _, .inl rfl,Below.refl _ _,hid (by rw [HSt.out];exact ⟨rfl,rfl⟩)⟩
 case round=>
  obtain ⟨k,KL,VL,hak,hkn,rfl,h4k,hvl,own8,own9,hdis,hbel,HR⟩ :=hrel
  have hbw :Below w.heap.size w wr :=hbz2.trans (hbel.mono hbz2.size)
  have cbr :wr.cell? ⟨w.heap.size,0,none⟩ =some (.slice (some ⟨b,off,none⟩) n cap) := (hbel.cell (p := ⟨w.heap.size,0,none⟩) hZ2).trans cb2
  have hbr :b<wr.heap.size :=Nat.lt_of_lt_of_le hbl hbw.size
  by_cases hlt :k<n
  ·obtain ⟨p,hp⟩ : ∃p,T[k]? =some p := ⟨_,List.getElem?_eq_getElem (by rw [HN.out];omega)⟩
   obtain ⟨hok,hrise⟩ :=HG.out.page hp
   obtain ⟨kv,vv,d0,d1,hk1,hv1⟩ :=HT.out k p hp
   have hk :=hk1.below hbw
   have hv :=hv1.below hbw
   have c0 := (hbw.cell (p := ⟨b,off+k*2,none⟩) hbl).trans d0
   have c1 := (hbw.cell (p := ⟨b,off+k*2+1,none⟩) hbl).trans d1
   clear hk1 d0 d1
   obtain ⟨kb,ko,kc,rfl,hkb,hkc,hkm,hkcell⟩ :=hk.at hok.1
   obtain ⟨vb,vo,vc,rfl,hvb,hvc,hvm,hvcell⟩ :=hv.at (by rw [hok.2.2];exact hok.1)
   have cf :wr.cell? ⟨kb,ko,none⟩ =some (.string (Dn p)) :=by have :=hkcell 0 _ (Tr hok.1);rwa [Nat.add_zero] at this
   have g0' : (0 :Int) < (p.K.length :Int) :=by have :=hok.1;omega
   have j0 : (0 :Int) ≤ (k :Int) :=by omega
   have j1 : (k :Int) < (n :Int) :=by omega
   clear hkcell hvcell
   cases hf :klt (Dn p) hi
   ·have hf' :Op.bytesLess (Dn p).toList hi.toList=false :=hf
    have hend :rng T lo hi=rng (T.take k) lo hi :=by
     have hd :rng (T.drop k) lo hi= [] :=by
      have hgd :Ap (T.take k++T.drop k) :=by rw [List.take_append_drop];exact HG.out
      refine Vt (hgd.part.2.1) fun x hx=> .inr ?_
      have hkT :k<T.length :=by rw [HN.out];omega
      have hpe :T[k] =p :=by rw [List.getElem?_eq_getElem hkT] at hp;simpa using hp
      rw [List.drop_eq_getElem_cons hkT,hpe] at hx
      have hr :=hgd.part.2.2
      rw [List.drop_eq_getElem_cons hkT,hpe,Da] at hr
      rw [Da] at hx
      have hge :x=Dn p∨klt (Dn p) x=true :=by
       rcases List.mem_append.1 hx with hx | hx
       ·exact Q3 hrise hx
       ·exact .inr ((D8.1 hr).2.2 _ (Q0 hok) x hx)
      rcases hge with rfl | hge
      ·exact hf
      ·cases hxh :klt x hi with
       | false=>rfl
       | true=>have :=Bu hge hxh;rw [hf] at this;cases this
     have e :rng T lo hi=rng (T.take k++T.drop k) lo hi :=by rw [List.take_append_drop]
     rw [e,rng,Dj,List.filter_append]
     show _++rng (T.drop k) lo hi=_
     rw [hd,List.append_nil];rfl
    have HE :=hid hend
    clear hend
    go_wp2
    go_ret2
    refine ⟨_,_,rfl, ?_, ?_,hbw⟩
    ·rw [HE.out,←HR.out.1];exact Dz.of_own own8
    ·rw [HE.out,←HR.out.2];exact Dz.of_own own9
   ·have hf' :Op.bytesLess (Dn p).toList hi.toList=true :=hf
    obtain ⟨K1,M,K4,V1,MV,V4,eK,eV,l1,lM,q1,q2,q3,q4,q5,hfil⟩ :=Z6 hok hrise HLH.out (HPg.out k p hak hp)
    have sr1 :=fun W (hW :Below wr.heap.size wr W) =>Mc K1 (M++K4) lo _ W (by rw [←eK];exact hk.below hW) q1 q2 (by rw [←eK];exact hok.2.1)
    have sr2 :=fun W (hW :Below wr.heap.size wr W) =>Mc (K1++M) K4 hi _ W (by rw [List.append_assoc,←eK];exact hk.below hW) q3 q4 (by rw [List.append_assoc,←eK];exact hok.2.1)
    have nk :=fun W (hW :Below wr.heap.size wr W) =>Vu (A :=K1) (M :=M) (B :=K4) (b :=kb) (off :=ko) (cap :=kc) (w :=W) (by rw [←eK];exact hk.below hW)
    have nv :=fun W (hW :Below w.heap.size w W) =>Vu (A :=V1) (M :=MV) (B :=V4) (b :=vb) (off :=vo) (cap :=vc) (w :=W) (by rw [←eV];exact hv1.below hW)
    rw [l1] at nv
    have hkl :p.K.length=K1.length+M.length+K4.length :=by rw [eK];simp;omega
    have hlen4 :=hok.2.1
    have hvk :=hok.2.2
    have q5' :0<M.length+K4.length :=by simpa using q5
    have HN1 :=hid (show (rng (T.take (k+1)) lo hi).map Prod.fst=KL++M∧ (rng (T.take (k+1)) lo hi).map Prod.snd=VL++MV by
     rw [HR.out.1,HR.out.2,rng,Abt hp,List.filter_append,hfil,List.map_append,List.map_append,List.map_fst_zip (by omega),List.map_snd_zip (by omega)]
     exact ⟨rfl,rfl⟩)
    have tl : (K1++M).length=K1.length+M.length :=by simp
    rw [tl] at sr2
    clear eK eV q1 q2 q3 q4 q5 hfil hp hk hv hv1 hrise l1 tl
    have HMV :=hid lM
    generalize hpl :p.K.length=pl at*
    generalize hpv :p.V.length=pv at*
    generalize K1.length=f at*
    generalize hml :M.length=ml at*
    generalize K4.length=x4 at*
    generalize decide ((M++K4).head? =some lo) =t1 at sr1
    generalize decide (K4.head? =some hi) =t2 at sr2
    unfold maxLen at hkm hvm
    have u0 : (0 :Int) ≤ (f :Int) :=by omega
    have u1 : (f :Int) ≤ (f :Int) + (ml :Int) :=by omega
    have u2 : (f :Int) + (ml :Int) ≤ (kc :Int) :=by omega
    have u3 : (f :Int) + (ml :Int) ≤ (vc :Int) :=by omega
    have u6 : ((f :Int) + (ml :Int)).toNat=f+ml :=by omega
    have u7 : (0 :Int) ≤ (f :Int) + (ml :Int) :=by omega
    have u4 : ¬ (kc=f) :=by omega
    have u5 : ¬ (vc=f) :=by omega
    have HKS :=hid (And.intro hkl (And.intro hvk hml))
    have hfm :f+ml - f=ml :=by omega
    have hmv :MV.length=ml :=lM
    have hk4 :KL.length+ml≤4* (k+1) :=by omega
    clear hkl hvk lM hml hpl hpv
    obtain ⟨W1,hW1⟩ : ∃W1,wr.alloc (.cells #[.slice (some ⟨kb,ko,none⟩) pl kc, .slice (some ⟨vb,vo,none⟩) pv vc] 111) =W1 := ⟨_,rfl⟩
    have hy1 :Below wr.heap.size wr W1 :=by rw [←hW1];exact (Below.refl _ _).alloc (Nat.le_refl _) _
    have w1b :W1.heap[wr.heap.size]? =some (.cells #[.slice (some ⟨kb,ko,none⟩) pl kc, .slice (some ⟨vb,vo,none⟩) pv vc] 111) :=by rw [←hW1];exact Ab wr _
    have w1k :W1.cell? ⟨wr.heap.size,0,none⟩ =some (.slice (some ⟨kb,ko,none⟩) pl kc) :=Aa w1b rfl
    have w1l :=lt_of_block w1b
    go_upto_region 10 with (first
     | (go_at_call 59;go_fit (sr1 W1 hy1);rintro e w3 ⟨rfl,hb3⟩;have b3 := (hb3.block _ w1l).trans w1b;have k3 :w3.cell? ⟨wr.heap.size,0,none⟩ =some (.slice (some ⟨kb,ko,none⟩) pl kc) :=Aa b3 rfl;have hy3 :=hy1.trans (hb3.mono hy1.size);have l3 :=lt_of_block b3)
     | (go_at_call 59;go_fit (sr2 w3 hy3);rintro e w4 ⟨rfl,hb4⟩;have b4 := (hb4.block _ l3).trans b3;have k4 :w4.cell? ⟨wr.heap.size,0,none⟩ =some (.slice (some ⟨kb,ko,none⟩) pl kc) :=Aa b4 rfl;have hy4 :=hy3.trans (hb4.mono hy3.size)))
    have o84 :w4.ownsRow w2.heap.size 9 1 u8 KL.length (KL.map .string) :=Ar own8 hy4
    have o94 :w4.ownsRow w2.heap.size 9 1 u9 VL.length (VL.map .string) :=Ar own9 hy4
    have nk4 :=nk w4 hy4
    have hw24 :w2.heap.size≤w4.heap.size :=Nat.le_trans hbel.size hy4.size
    clear sr1 sr2 nk hcap
    go_wp2_with (at_builtin;go_must (refine wpList_append_own_at _ rfl _ _ 29 rfl w2.heap.size 9 i0 (.string ⟨#[]⟩) 1 16 Tryz.underlying29 hi0 hz0 hz1 hz2 rfl (by decide) _ _ _ rfl o84 ⟨kb,ko+f,none⟩ ml (kc - f) (M.map .string) (by first | rfl | (simp;done)) (by simp;exact HKS.out.2.2) nk4 (Kr _) (by simp only [maxLen];omega) (by omega) hw24 ?_))
    intro z8 w5 o85 gr8 _ at8
    have h5l : ∀j,z8.ownBlock=some j→j<w5.heap.size :=fun j hj=> (o85.lt j hj).2
    have h4l : ∀j,u9.ownBlock=some j→j<w4.heap.size :=fun j hj=> (o94.lt j hj).2
    have o95 :w5.ownsRow w2.heap.size 9 1 u9 VL.length (VL.map .string) :=Tv o94 gr8 (by rcases hdis with e | e;exact .inl e;exact .inr (Ne.symm e))
    have b5 :w5.heap[wr.heap.size]? =some (.cells #[.slice (some ⟨kb,ko,none⟩) pl kc, .slice (some ⟨vb,vo,none⟩) pv vc] 111) := (gr8.block _ (lt_of_block b4) (Qw o84 b4 (by decide))).trans b4
    have v5 :w5.cell? ⟨wr.heap.size,1,none⟩ =some (.slice (some ⟨vb,vo,none⟩) pv vc) :=Aa b5 rfl
    have hz5 :Below w2.heap.size w2 w5 := (hbel.trans (hy4.mono hbel.size)).grown gr8 hw24 (fun j hj=> (o84.lt j hj).1)
    have hz05 :Below w.heap.size w w5 :=hbz2.trans (hz5.mono hbz2.size)
    have nv5 :=nv w5 hz05
    have hw25 :w2.heap.size≤w5.heap.size :=hz5.size
    clear nv nk4 o84 w1k k3 k4 hW1
    go_wp2_with (at_builtin;go_must (refine wpList_append_own_at _ rfl _ _ 29 rfl w2.heap.size 9 i0 (.string ⟨#[]⟩) 1 16 Tryz.underlying29 hi0 hz0 hz1 hz2 rfl (by decide) _ _ _ rfl o95 ⟨vb,vo+f,none⟩ ml (vc - f) (MV.map .string) (by first | rfl | (simp;done)) (by simp;exact hmv) nv5 (Kr _) (by simp only [maxLen];omega) (by omega) hw25 ?_))
    intro z9 w6 o96 gr9 _ at9
    obtain ⟨ap1,ap2⟩ :=Abu hdis at8 at9 h5l h4l
    have o86 :=Tv o85 gr9 ap2
    have hz6 :Below w2.heap.size w2 w6 :=hz5.grown gr9 hw25 (fun j hj=> (o95.lt j hj).1)
    go_wp2
    go_roundw
    case rel=>
     refine ⟨k+1,KL++M,VL++MV,by omega,by omega,by go_num, ?_, ?_, ?_, ?_,ap1,hz6,hid ⟨HN1.out.1.symm,HN1.out.2.symm⟩⟩
     ·rw [List.length_append,HKS.out.2.2];exact hk4
     ·rw [List.length_append,List.length_append,HKS.out.2.2,hmv,hvl]
     ·rw [List.length_append,List.map_append,HKS.out.2.2];exact o86
     ·rw [List.length_append,List.map_append,hmv];first | exact o96 | (rw [hvl];exact o96)
    case measure=>simp [intOf];omega
  ·have hkn' :k=n :=by omega
   subst hkn'
   have hend :rng T lo hi=rng (T.take k) lo hi :=by rw [←HN.out,List.take_length]
   have HE :=hid hend
   clear hend
   go_wp2
   go_ret2
   refine ⟨_,_,rfl, ?_, ?_,hbw⟩
   ·rw [HE.out,←HR.out.1];exact Dz.of_own own8
   ·rw [HE.out,←HR.out.2];exact Dz.of_own own9
set_option maxHeartbeats 1000000 in
theorem Tw (n :Nat) (so :Option Addr) (sc :Nat) (lo hi :ByteArray) (w :World) (bad :Bool) (g0 :Calls Tryz.prog 55 #[.agg #[.slice so n sc]] (w.alloc (.cells #[.slice so n sc] 48)) fun e w'=>e= .returned (.bool bad) ∧Below (w.alloc (.cells #[.slice so n sc] 48)).heap.size (w.alloc (.cells #[.slice so n sc] 48)) w') (hb :bad=false∨klt lo hi=false) :
  Calls Tryz.prog 24 #[.agg #[.slice so n sc], .string lo, .string hi] w fun e w'=>H9 w w' e [] :=by
 have hB0 :Below w.heap.size w (w.alloc (.cells #[.slice so n sc] 48)) := (Below.refl _ w).alloc (Nat.le_refl _) _
 cases bad
 ·go_enter Tryz.func24,Tryz.ntmps24
  go_wp2_with (go_at_call 55;go_must (go_fit g0;rintro e w1 ⟨rfl,hb1⟩))
  go_ret2
  exact ⟨_,_,rfl,Dz.nil 1 _,Dz.nil 1 _,hB0.trans (hb1.mono hB0.size)⟩
 ·have hl :Op.bytesLess lo.toList hi.toList=false :=by rcases hb with h | h;cases h;exact h
  go_enter Tryz.func24,Tryz.ntmps24
  go_wp2_with (go_at_call 55;go_must (go_fit g0;rintro e w1 ⟨rfl,hb1⟩))
  go_ret2
  exact ⟨_,_,rfl,Dz.nil 1 _,Dz.nil 1 _,hB0.trans (hb1.mono hB0.size)⟩
set_option maxHeartbeats 1000000 in
theorem X6 (so :Option Addr) (sc :Nat) (lo hi :ByteArray) (w :World) (h :A5 w (.agg #[.slice so 0 sc]) []) (hlh :klt lo hi=true) :
  Calls Tryz.prog 24 #[.agg #[.slice so 0 sc], .string lo, .string hi] w fun e w'=>H9 w w' e [] :=by
 have hl :Op.bytesLess lo.toList hi.toList=true :=hlh
 have hge :Ap [] := ⟨by simp,by simp [Bc,Bo]⟩
 have hB0 :Below w.heap.size w (w.alloc (.cells #[.slice so 0 sc] 48)) := (Below.refl _ w).alloc (Nat.le_refl _) _
 have g0 :=Gp [] _ _ (h.below hB0) hge
 have pc :=fun W (hW :Below w.heap.size w W) =>Il [] _ lo W (h.below hW) hge (by decide)
 change∀W,_→Calls Tryz.prog 58 _ W fun e w'=>e= .returned (.int .i64 ((0 :Nat) :Int)) ∧_ at pc
 go_enter Tryz.func24,Tryz.ntmps24
 go_wp2_with (first
  | (go_at_call 55;go_must (go_fit g0;rintro e w1 ⟨rfl,hb1⟩;have cb1 :w1.cell? ⟨w.heap.size,0,none⟩ =some (.slice so 0 sc) :=Aa ((hb1.block _ (by simp)).trans (Ab w _)) rfl;have hbz :=hB0.trans (hb1.mono hB0.size);have hZ1 :w.heap.size<w1.heap.size :=block_lt_of_cell cb1))
  | (go_at_call 58;go_must (go_fit (pc _ hbz);rintro e w2 ⟨rfl,hb2⟩;have cb2 := (hb2.cell (p := ⟨w.heap.size,0,none⟩) hZ1).trans cb1)))
 refine wp_loop_rounds 1 ?_
 rw [rounds_succ]
 go_wp2
 go_ret2
 exact ⟨_,_,rfl,Dz.nil 1 _,Dz.nil 1 _,hbz.trans (hb2.mono hbz.size)⟩
def Hv (g :Bool) (T :List Pg) (lo hi :ByteArray) :List (ByteArray×ByteArray) :=if g then rng T lo hi else []
theorem Ahc (T :List Pg) (lo hi :ByteArray) (h :klt lo hi=false) :rng T lo hi= [] :=by
 refine D7 fun x _=> ?_
 unfold rq
 cases h1 :klt x.1 hi with
 | false=>simp
 | true=>
  have :klt x.1 lo=true :=by
   rcases I0 h with rfl | h2
   ·exact h1
   ·exact Bu h1 h2
  simp [this]
theorem Tx (g :Bool) (T :List Pg) (hgb :g=true↔Ap T) (tv :Value) (lo hi :ByteArray) (w :World) (h :A5 w tv T) (hn :T.length≤1048576) :
  Calls Tryz.prog 24 #[tv, .string lo, .string hi] w fun e w'=>H9 w w' e (Hv g T lo hi) :=by
 have h' :=h
 obtain ⟨sv,rfl,hs⟩ :=h'
 obtain ⟨so,sc,rfl⟩ : ∃ao c,sv= .slice ao T.length c :=by obtain ⟨rows,h1,_⟩ :=hs;exact h1.shape
 have hB0 :Below w.heap.size w (w.alloc (.cells #[.slice so T.length sc] 48)) := (Below.refl _ w).alloc (Nat.le_refl _) _
 by_cases hg :Ap T
 ·rw [Hv,if_pos (hgb.2 hg)]
  cases hlh :klt lo hi with
  | false=>rw [Ahc T lo hi hlh];exact Tw _ _ _ _ _ _ true (Gp T _ _ (h.below hB0) hg) (.inr hlh)
  | true=>
   rcases Nat.eq_zero_or_pos T.length with h0 | h0
   ·obtain rfl :=List.eq_nil_of_length_eq_zero h0
    exact X6 so sc lo hi w h hlh
   ·exact Z7 T _ lo hi w h hg hlh hn h0
 ·rw [Hv,if_neg (fun e=>hg (hgb.1 e))]
  exact Tw _ _ _ _ _ _ false (Sk T _ _ (h.below hB0) hg) (.inl rfl)
theorem Ad1 (T :List Pg) (hg :Ap T) {lo mid hi :ByteArray} (h1 :klt mid lo=false) (h2 :klt hi mid=false) :rng T lo hi=rng T lo mid++rng T mid hi :=by
 have hr :=hg.rise
 unfold rng
 generalize flat T=F at hr
 induction F with
 | nil=>rfl
 | cons x F ih=>
  rw [List.map_cons,Bo,List.pairwise_cons] at hr
  have ih' :=ih hr.2
  have le_lo : ∀y :ByteArray,klt y mid=false→klt y lo=false :=fun y hy=>by
   cases h :klt y lo with
   | false=>rfl
   | true=>have :=Ii h h1;rw [hy] at this;cases this
  have lt_hi : ∀y :ByteArray,klt y mid=true→klt y hi=true :=fun y hy=>Ii hy h2
  cases hm :klt x.1 mid with
  | true=>
   have q2 :rq mid hi x=false :=by simp [rq,hm]
   have e :rq lo hi x=rq lo mid x :=by simp [rq,hm,lt_hi _ hm]
   rw [List.filter_cons,List.filter_cons,List.filter_cons,q2,e,ih']
   cases rq lo mid x<;>simp
  | false=>
   have hall : ∀y∈F,klt y.1 mid=false :=fun y hy=>by
    have :=hr.1 y.1 (List.mem_map.2 ⟨y,hy,rfl⟩)
    cases h :klt y.1 mid with
    | false=>rfl
    | true=>have :=Bu this h;rw [hm] at this;cases this
   have q1 :rq lo mid x=false :=by simp [rq,hm]
   have n1 :F.filter (rq lo mid) = [] :=D7 fun y hy=>by simp [rq,hall y hy]
   have e :rq lo hi x=rq mid hi x :=by simp [rq,hm,le_lo _ hm]
   rw [n1,List.nil_append] at ih'
   rw [List.filter_cons,List.filter_cons,List.filter_cons,q1,e,ih',n1]
   cases rq mid hi x<;>simp
theorem Aiz (g :Bool) (T :List Pg) (hgb :g=true↔Ap T) {lo mid hi :ByteArray} (h1 :klt mid lo=false) (h2 :klt hi mid=false) :Hv g T lo hi=Hv g T lo mid++Hv g T mid hi :=by
 unfold Hv
 split
 ·rename_i e
  exact Ad1 T (hgb.1 e) h1 h2
 ·rfl
theorem Aj1 (g :Bool) (T :List Pg) {lo hi :ByteArray} : ∀x∈Hv g T lo hi,klt x.1 lo=false∧klt x.1 hi=true :=by
 unfold Hv
 split
 ·intro x hx
  have := (List.mem_filter.1 hx).2
  simpa [rq] using this
 ·intro x hx;cases hx
theorem Ph (g :Bool) (T :List Pg) (hgb :g=true↔Ap T) {lo hi :ByteArray} : (Hv g T lo hi).length≤4*T.length :=by
 unfold Hv
 split
 ·rename_i e
  have h :=hgb.1 e
  have h1 :=List.length_filter_le (rq lo hi) (flat T)
  have h2 :=Xt h.1
  have h3 :=Pb h.1
  unfold rng;omega
 ·simp
end Go.Proofs.YthehiijgnepcfaaGreat


/-
  2 texts of this proof in one, in build order: YScope, YMay.
-/
import Derived.Test.YtmgkcjiejmhgcaaGreatDoorJ13
set_option linter.unusedSimpArgs false
set_option linter.unusedVariables false
namespace Go.Proofs.YtmgkcjiejmhgcaaGreatDoor
open Go.RowKit Go.Maps
def Br {α β :Type} (f :List α→α→Except Int β) :List α→List α→Except Int (List β)
 | _,[] => .ok []
 | seen,p ::l=>match f seen p with
  | .error m=> .error m
  | .ok q=>match Br f (seen++ [p]) l with
   | .error m=> .error m
   | .ok qs=> .ok (q ::qs)
theorem Iq {α β :Type} (f :List α→α→Except Int β) : ∀ (seen l :List α) (p :α),Br f seen (l++ [p]) =match Br f seen l with
  | .error m=> .error m
  | .ok qs=>match f (seen++l) p with
   | .error m=> .error m
   | .ok q=> .ok (qs++ [q])
 | seen,[],p=>by
  simp only [List.nil_append,Br,List.append_nil]
 | seen,x ::l,p=>by
  simp only [List.cons_append,Br,Iq f (seen++ [x]) l p]
  rw [show seen++ [x] ++l=seen++x ::l by simp]
  cases f seen x with
  | error m=>rfl
  | ok r=>
   cases Br f (seen++ [x]) l with
   | error m=>rfl
   | ok rs=>cases f (seen++x ::l) p<;>rfl
theorem Jb {α β :Type} (f :List α→α→Except Int β) : ∀ (seen l m :List α) (k :Int),Br f seen l= .error k→Br f seen (l++m) = .error k
 | seen,[],m,k,h=>by simp [Br] at h
 | seen,x ::l,m,k,h=>by
  simp only [List.cons_append,Br] at h⊢
  cases hx :f seen x with
  | error j=>rw [hx] at h;exact h
  | ok r=>
   rw [hx] at h
   simp only at h⊢
   cases hl :Br f (seen++ [x]) l with
   | error j=>
    rw [hl] at h
    rw [Jb f _ l m j hl]
    exact h
   | ok rs=>rw [hl] at h;cases h
def Cd (T :List TabD) (seen :List Wd) (s :Wd) :Except Int TabD :=
 match A5 T s with
 | none=> .error 3
 | some t=>if Dy seen s then .error 4 else .ok t
def Df (T :List TabD) (l :List Wd) :Except Int (List TabD) :=if l.length<1∨2<l.length then .error 1 else Br (Cd T) [] l
theorem Rl : (Tryz.prog.info? 47).map (fun i=> (i.zero,i.size,i.bytes)) =some (some (.agg #[.string ⟨#[]⟩, .slice none 0 0]),2,40) :=by kernel_rfl
theorem Bl.kept {α :Type} {K :Elem α} {ty :TypeId} {C base b :Nat} {z :Value} {A :List α} {w w' :World} (h :Bl K ty C base z A w) (hg :w.grownBy w' (some b)) (h1 :C≤b) (h2 :b<base) :Bl K ty C base z A w' :=by
 obtain ⟨cs,h3,h4⟩ :=h
 have hz :=h3.lt
 refine ⟨cs,h3.kept hg (by
  cases hb :z.ownBlock with
  | none=>exact .inl rfl
  | some k=>exact .inr (fun e=>by have := (hz k hb).1;have :=Option.some.inj e;omega)),h4.keep ⟨hg.size,fun k hk hl=>hg.block k hl (fun e=>by
   have :=Option.some.inj e
   rcases hk with h | h
   ·omega
   ·have :=h.1;omega)⟩⟩
set_option maxRecDepth 100000 in
set_option maxHeartbeats 8000000 in
theorem Ss (T :List TabD) (tv iv :Value) (hiv :Dx iv) (l :List Wd) (fv :Value) (C :Nat) (w :World) (ht :IsL A4 (fun k=>k<C) w tv T) (hl :IsL Fz (fun k=>k<C) w fv l) (hC :C≤w.heap.size) (hs : ∀s∈l,s.size≤maxLen) :
  Calls Tryz.prog 99 #[.agg #[tv,iv],fv] w fun r w'=> (∃u,r= .returned u∧Ha A4 (Df T l) (Fx C w.heap.size) w' u) ∧Below w.heap.size w w' :=by
 obtain ⟨to',tc,rfl⟩ :=ht.shape
 obtain ⟨fo,fc,rfl⟩ :=hl.shape
 obtain ⟨io,iN,ic,rfl⟩ :=hiv
 obtain ⟨i0,hi,hz0,hz1,hz2⟩ :=info_parts Rl
 have hb1 :=Aq w (.cells #[.slice to' T.length tc, .slice io iN ic] 25)
 by_cases hout :l.length<1∨2<l.length
 ·have HE :Hid (Df T l= .error 1) :=if_pos hout
  clear ht hl hs
  by_cases h1 :l.length<1
  ·have q1 : (l.length :Int) <1 :=by omega
   go_enter Tryz.func99,Tryz.ntmps99
   go_wp2_with fail
   go_ret2
   refine ⟨⟨_,rfl, ?_⟩,hb1⟩
   rw [HE.out]
   rfl
  ·have q1 : ¬ (l.length :Int) <1 :=by omega
   have q2 : (2 :Int) < (l.length :Int) :=by omega
   go_enter Tryz.func99,Tryz.ntmps99
   go_wp2_with fail
   go_ret2
   refine ⟨⟨_,rfl, ?_⟩,hb1⟩
   rw [HE.out]
   rfl
 ·have HE0 :Hid (Df T l=Br (Cd T) [] l) :=if_neg hout
  have q1 : ¬ (l.length :Int) <1 :=by omega
  have q2 : ¬ (2 :Int) < (l.length :Int) :=by omega
  have hl2 :l.length≤2 :=by omega
  have hT0 : ((w.alloc (.cells #[.slice to' T.length tc, .slice io iN ic] 25)).alloc (.map #[] 0)).heap[w.heap.size]? =some (.cells #[.slice to' T.length tc, .slice io iN ic] 25) :=Ae (Ab _ _) _
  have hC0 :Cnt ((w.alloc (.cells #[.slice to' T.length tc, .slice io iN ic] 25)).alloc (.map #[] 0)) (w.heap.size+1) [] :=by
   have :=Mz (w.alloc (.cells #[.slice to' T.length tc, .slice io iN ic] 25))
   rwa [show (w.alloc (.cells #[.slice to' T.length tc, .slice io iN ic] 25)).heap.size=w.heap.size+1 by simp] at this
  have hbW :=Bz w (.cells #[.slice to' T.length tc, .slice io iN ic] 25) (.map #[] 0)
  have hmm := @run_makeMap Tryz.prog
  clear hout
  go_enter Tryz.func99,Tryz.ntmps99
  go_wp2_with fail
  clear hmm
  go_loopw [7,23] (fun zv i wr=> ∃ (j :Nat) (rs :List TabD),j≤l.length∧i= .int .i64 j∧Hid (Br (Cd T) [] (l.take j) = .ok rs) ∧Hid (rs.length=j) ∧wr.heap[w.heap.size]? =some (.cells #[.slice to' T.length tc, .slice io iN ic] 25) ∧Cnt wr (w.heap.size+1) (l.take j) ∧Bl A4 47 C (w.heap.size+2) zv rs wr∧Below w.heap.size w wr∧w.heap.size+2≤wr.heap.size) (fun _ i _=>l.length - (intOf i).toNat)
  case atStart=>exact ⟨0,[],Nat.zero_le _,rfl,by show _=_;rw [List.take_zero,Br],rfl,hT0,hC0,Ed _ _ _ _ _,hbW,by simp⟩
  case round=>
   obtain ⟨j,rs,hj,rfl,HQ,HL,hT,hCn,hA,hbel,hsz⟩ :=hrel
   clear hT0 hC0 hbW
   have q3 :=HL.out
   subst q3
   by_cases hjl :rs.length<l.length
   ·obtain ⟨a,ha⟩ : ∃a,l[rs.length]? =some a := ⟨_,List.getElem?_eq_getElem hjl⟩
    have HT :Hid (l.take (rs.length+1) =l.take rs.length++ [a]) :=by show _=_;rw [List.take_add_one,ha];rfl
    have hsa :=hs a (List.mem_of_getElem? ha)
    have HX : ∀m,Cd T (l.take rs.length) a= .error m→Df T l= .error m :=fun m hm=>by
     have hs :Br (Cd T) [] (l.take (rs.length+1)) = .error m :=by rw [HT.out,Iq,HQ.out];simp only [List.nil_append,hm]
     have :=Jb (Cd T) [] (l.take (rs.length+1)) (l.drop (rs.length+1)) m hs
     rw [List.take_append_drop] at this
     rw [HE0.out,this]
    have HY : ∀q,Cd T (l.take rs.length) a= .ok q→Br (Cd T) [] (l.take (rs.length+1)) = .ok (rs++ [q]) :=fun q hq=>by
     rw [HT.out,Iq,HQ.out];simp only [List.nil_append,hq]
    have HZ :Hid (Cd T (l.take rs.length) a=match A5 T a with
     | none=> .error 3
     | some t=>if Dy (l.take rs.length) a then .error 4 else .ok t) :=rfl
    obtain ⟨b,off,cs,rfl,hbC,hb,hR,hcell⟩ :=Av (hl.keep (Ag (hbel.mono hC))) ha
    obtain rfl :=hR
    have d0 :=hcell 0 _ rfl
    simp only [Fz,Nat.mul_one,Nat.add_zero] at d0
    have j0 : (0 :Int) ≤ (rs.length :Int) :=by omega
    have j1 : (rs.length :Int) < (l.length :Int) :=by omega
    have t0 :=Aa hT (j :=0) rfl
    have t1 :=Aa hT (j :=1) rfl
    have hlt0 :=lt_of_block hT
    have HA :=fun (W :World) (h :Cnt W (w.heap.size+1) (l.take rs.length)) =>K8 (w.heap.size+1) (l.take rs.length) a W h hsa (by simp;omega)
    have htl :=ht.keep (Ag (hbel.mono hC))
    clear hcell ha hs hl
    rcases htab :A5 T a with _ | t
    ·have HE :Hid (Df T l= .error 3) :=HX 3 (by rw [HZ.out,htab])
     have HF :=Ep htab (.slice to' T.length tc) (.slice io iN ic) ⟨io,iN,ic,rfl⟩ C wr htl (Nat.le_trans hC hbel.size)
     clear HA HX HY HZ HQ HL HT htab
     go_wp2_with (first | (go_at_call 17;go_fit HF;rintro e w1 ⟨rfl,hb1⟩))
     go_ret2
     refine ⟨⟨_,rfl, ?_⟩,(hbel.trans (hb1.mono hbel.size)).alloc (Nat.le_trans hbel.size hb1.size) _⟩
     rw [HE.out]
     rfl
    ·have HF :=Eo htab (.slice to' T.length tc) (.slice io iN ic) ⟨io,iN,ic,rfl⟩ C wr htl (Nat.le_trans hC hbel.size)
     rw [htab] at HZ
     simp only at HZ
     cases hmb :Dy (l.take rs.length) a
     ·rw [hmb] at HA HZ
      simp only [Bool.false_eq_true,if_false] at HZ
      have HS :Hid (Br (Cd T) [] (l.take (rs.length+1)) = .ok (rs++ [t])) :=HY t HZ.out
      have HL2 :Hid ((rs++ [t]).length=rs.length+1) :=by show _=_;rw [List.length_append];rfl
      have HT2 :Hid (l.take rs.length++ [a] =l.take (rs.length+1)) :=HT.out.symm
      have hrs :rs.length≤2 :=by omega
      obtain ⟨zo,zc,hzv⟩ :=hA.shape
      clear HX HY HZ HQ HL HT htab hmb
      subst hzv
      go_wp2_with (first | (go_at_call 17;go_fit HF;rintro e w1 ⟨ao2,n2,c2,rfl,hcL,hb1⟩;have hbx :Below wr.heap.size wr (w1.alloc (.cells #[.string t.name, .slice ao2 n2 c2] 47)) :=hb1.alloc hb1.size _;have hC1 :=hCn.below hbx;have hP :=Ab w1 (.cells #[.string t.name, .slice ao2 n2 c2] 47)) | (go_at_call 77;go_fit (HA _ hC1);rintro e w2 ⟨rfl,hC2,hg2⟩;have hP2 :=Bf hg2 hP (by have :=hb1.size;simp;omega);have p0 :=Aa hP2 (j :=0) rfl;have p1 :=Aa hP2 (j :=1) rfl;obtain ⟨cs2,hown2,hall2⟩ := (hA.below hbx).kept hg2 (by omega) (by omega);have hB3 :=Aq w2 (.cells [.string t.name, .slice ao2 n2 c2].toArray 47);have hown3 :=Az hown2 hB3;have hall3 :=hall2.keep (Ar hB3);have hnew :=Cp w2 [.string t.name, .slice ao2 n2 c2] 47;have hsz2 :w.heap.size+2≤w2.heap.size :=Nat.le_trans hsz (Nat.le_trans hbx.size hg2.size);have hbase :w.heap.size+2≤ (w2.alloc (.cells [.string t.name, .slice ao2 n2 c2].toArray 47)).heap.size :=Nat.le_trans hsz2 hB3.size) | (at_builtin;go_must (refine wpList_append_own_at _ rfl _ _ 127 rfl (w.heap.size+2) 47 i0 _ 2 40 Tryz.underlying127 hi hz0 hz1 hz2 rfl (by decide) _ _ _ rfl hown3 ⟨w2.heap.size,0,none⟩ 1 1 [.string t.name, .slice ao2 n2 c2] rfl rfl hnew ?h1 (by simp only [maxLen];omega) (by omega) hbase ?h2)))
      case h1=>simp only [List.forall_mem_cons];repeat (first | exact fun _ h=>absurd h List.not_mem_nil | refine ⟨rfl, ?_⟩)
      case h2=>
       intro z2 w4 hown4 hg4 _ hat
       have hat' :z2.ownBlock= (Value.slice zo rs.length zc).ownBlock∨z2.ownBlock=some (w2.alloc (.cells [.string t.name, .slice ao2 n2 c2].toArray 47)).heap.size :=by simpa using hat
       have hz : ∀k,(Value.slice zo rs.length zc).ownBlock=some k→w.heap.size+2≤k :=fun k hk=> (hown2.lt k hk).1
       have hcL2 :IsL Bg (fun k=>k<C) (w2.alloc (.cells [.string t.name, .slice ao2 n2 c2].toArray 47)) (.slice ao2 n2 c2) t.cols := ((hcL.keep (Ag ((Aq w1 _).mono (Nat.le_trans hC (Nat.le_trans hbel.size hb1.size))))).keep ⟨hg2.size,fun k hk hl=>hg2.block k hl (fun e=>by have :=Option.some.inj e;have :k<C :=hk;omega)⟩).keep (Ar hB3)
       have hst :=Cb (K :=A4) (ty :=47) (a :=t) (c := [.string t.name, .slice ao2 n2 c2]) (by omega) hz hown4 hall3 ⟨_,rfl,hcL2.mono (fun k _ h=> .inl h)⟩ hg4 hat'
       have hb2w :Below w.heap.size w w2 :=Below.grow (hbel.trans (hbx.mono hbel.size)) hg2 (Nat.le_trans hbel.size hbx.size) (by omega)
       have hbb :Below w.heap.size w w4 := (hb2w.trans (hB3.mono hb2w.size)).grown hg4 (Nat.le_trans (by omega) hbase) fun k hk=>Nat.le_trans (by omega) (hz k hk)
       have hnz : ∀k,k<w.heap.size+2→some k≠ (Value.slice zo rs.length zc).ownBlock :=fun k hk e=>by have :=hz k e.symm;omega
       have hT4 :w4.heap[w.heap.size]? =some (.cells #[.slice to' T.length tc, .slice io iN ic] 25) :=Bf hg4 ((hB3.block _ (by omega)).trans (Bf hg2 ((hbx.block _ hlt0).trans hT) (by simp))) (hnz _ (by omega))
       have hC4 :Cnt w4 (w.heap.size+1) (l.take (rs.length+1)) :=by rw [←HT2.out];exact (hC2.below hB3).kept hg4 (hnz _ (by omega))
       have hs4 :w.heap.size+2≤w4.heap.size :=Nat.le_trans hbase hg4.size
       go_wp2_with fail
       go_roundw
       case rel=>exact ⟨rs.length+1,rs++ [t],by omega,by go_num,HS,HL2,hT4,hC4,hst,hbb,hs4⟩
       case measure=>simp [intOf];omega
     ·rw [hmb] at HA HZ
      have HE :Hid (Df T l= .error 4) :=HX 4 (by rw [HZ.out];rfl)
      clear HX HY HZ HQ HL HT htab hmb
      go_wp2_with (first | (go_at_call 17;go_fit HF;rintro e w1 ⟨ao2,n2,c2,rfl,hcL,hb1⟩;have hbx :Below wr.heap.size wr (w1.alloc (.cells #[.string t.name, .slice ao2 n2 c2] 47)) :=hb1.alloc hb1.size _;have hC1 :=hCn.below hbx) | (go_at_call 77;go_fit (HA _ hC1);rintro e w2 ⟨rfl,hC2,hg2⟩))
      go_ret2
      refine ⟨⟨_,rfl, ?_⟩,Below.grow (hbel.trans (hbx.mono hbel.size)) hg2 (Nat.le_trans hbel.size hbx.size) (by omega)⟩
      rw [HE.out]
      rfl
   ·have hjl2 :rs.length=l.length :=by omega
    have HE :Hid (Df T l= .ok rs) :=by
     show _=_
     have :=HQ.out
     rw [hjl2,List.take_length] at this
     rw [HE0.out,this]
    obtain ⟨zo,zc,hzv⟩ :=hA.shape
    subst hzv
    have hw1 :=hA.isL.mono (F' :=Fx C w.heap.size) (fun k _ h=>h.imp id (fun h=>Nat.le_trans (by omega) h))
    clear HL HQ
    go_wp2_with fail
    go_ret2
    refine ⟨⟨_,rfl, ?_⟩,hbel⟩
    rw [HE.out]
    exact ⟨_,_,_,rfl,hw1⟩
end Go.Proofs.YtmgkcjiejmhgcaaGreatDoor

namespace Go.Proofs.YtmgkcjiejmhgcaaGreatDoor
open Go.RowKit Go.Maps
def Dw (ct :CatD) (name :Wd) (cols :List ColD) :Int :=if Cv ⟨name,cols⟩ =false then 1 else if (A5 ct.tables name).isSome then 4 else if 3≤ct.tables.length then 8 else 0
def Eg (s :Wd) (x :IdxD) :Bool :=decide (x.name=s)
def Hw (ct :CatD) (name table col :Wd) :Int :=if nm name=false then 1 else if E8 ct.tables table col=false then 3 else if A1 (atI ct.indexes (Eg name)) 0 ct.indexes.length then 4 else if 4≤ct.indexes.length then 8 else 0
def Gi (ct :CatD) (name :Wd) :Int :=if (A5 ct.tables name).isSome then 0 else 3
set_option maxRecDepth 100000 in
set_option maxHeartbeats 4000000 in
theorem Su (ct :CatD) (cv :Value) (C :Nat) (w :World) (hc :Bh (fun k=>k<C) w ct cv) (hC :C≤w.heap.size)
  (kind :Int) (name table col :Wd) (colsv rowsv setsv frmv outv :Value) (op xk xn :Int) (xs s nmv :Wd) (n8 :Int) (sl order :Value) (down :Bool) (n :Int) :
  Calls Tryz.prog 57 #[cv, .agg (sA kind name table col colsv rowsv setsv frmv outv op xk xn xs s nmv n8 sl order down n)] w fun r w'=>r= .returned (.int .i64 (Gi ct name)) ∧Below w.heap.size w w' :=by
 obtain ⟨tv,iv,rfl,htl,hil⟩ :=hc
 have hb2 :=Bz w (.cells #[tv,iv] 25) (.cells (sA kind name table col colsv rowsv setsv frmv outv op xk xn xs s nmv n8 sl order down n) 36)
 have hsl :=El hil
 rcases htab :A5 ct.tables name with _ | t
 ·have HE :Hid (Gi ct name=3) :=by show _=_;unfold Gi;rw [htab];rfl
  have HF :=Ep htab tv iv hsl C _ (htl.keep (Ag (hb2.mono hC))) (Nat.le_trans hC hb2.size)
  clear htl hil htab
  go_enter Tryz.func57,Tryz.ntmps57
  go_wp2_with (first | (go_at_call 17;go_fit HF;rintro e w1 ⟨rfl,hb1⟩))
  go_ret
  exact ⟨A6 HE.out.symm,(Ak hb2 hb1).alloc (Ak hb2 hb1).size _⟩
 ·have HE :Hid (Gi ct name=0) :=by show _=_;unfold Gi;rw [htab];rfl
  have HF :=Eo htab tv iv hsl C _ (htl.keep (Ag (hb2.mono hC))) (Nat.le_trans hC hb2.size)
  clear htl hil htab
  go_enter Tryz.func57,Tryz.ntmps57
  go_wp2_with (first | (go_at_call 17;go_fit HF;rintro e w1 ⟨ao2,n2,c2,rfl,hcL,hb1⟩))
  go_ret
  exact ⟨A6 HE.out.symm,(Ak hb2 hb1).alloc (Ak hb2 hb1).size _⟩
set_option maxRecDepth 100000 in
set_option maxHeartbeats 8000000 in
theorem Qj (ct :CatD) (cv :Value) (C :Nat) (w :World) (hc :Bh (fun k=>k<C) w ct cv) (hC :C≤w.heap.size) (cols :List ColD)
  (kind :Int) (name table col :Wd) (colsv rowsv setsv frmv outv :Value) (op xk xn :Int) (xs s nmv :Wd) (n8 :Int) (sl order :Value) (down :Bool) (n :Int) (hcl :IsL Bg (fun k=>k<C) w colsv cols) (hf :Js ⟨name,cols⟩) :
  Calls Tryz.prog 55 #[cv, .agg (sA kind name table col colsv rowsv setsv frmv outv op xk xn xs s nmv n8 sl order down n)] w fun r w'=>r= .returned (.int .i64 (Dw ct name cols)) ∧Below w.heap.size w w' :=by
 obtain ⟨tv,iv,rfl,htl,hil⟩ :=hc
 obtain ⟨to',tc,rfl⟩ :=htl.shape
 obtain ⟨co,cc,rfl⟩ :=hcl.shape
 have hb2 :=Bz w (.cells #[.slice to' ct.tables.length tc,iv] 25) (.cells (sA kind name table col (.slice co cols.length cc) rowsv setsv frmv outv op xk xn xs s nmv n8 sl order down n) 36)
 have hB0 : ((w.alloc (.cells #[.slice to' ct.tables.length tc,iv] 25)).alloc (.cells (sA kind name table col (.slice co cols.length cc) rowsv setsv frmv outv op xk xn xs s nmv n8 sl order down n) 36)).heap[w.heap.size]? =some (.cells #[.slice to' ct.tables.length tc,iv] 25) :=Ae (Ab _ _) _
 have hB1 :=A0 w (.cells #[.slice to' ct.tables.length tc,iv] 25) (.cells (sA kind name table col (.slice co cols.length cc) rowsv setsv frmv outv op xk xn xs s nmv n8 sl order down n) 36)
 have hsl :=El hil
 have HG :=fun (W :World) (h :Below w.heap.size w W) =>Ib ⟨name,cols⟩ (.slice co cols.length cc) C W (hcl.keep (Ag (h.mono hC))) (Nat.le_trans hC h.size) hf
 have HX : ∃ (b :Bool),(A5 ct.tables name).isSome=b∧Calls Tryz.prog 17 #[.agg #[.slice to' ct.tables.length tc,iv], .string name] ((w.alloc (.cells #[.slice to' ct.tables.length tc,iv] 25)).alloc (.cells (sA kind name table col (.slice co cols.length cc) rowsv setsv frmv outv op xk xn xs s nmv n8 sl order down n) 36)) fun e w'=> ∃ (tn :Wd) (ao :Option Addr) (k c :Nat),e= .returned (.tuple #[.agg #[.string tn, .slice ao k c], .bool b]) ∧Below ((w.alloc (.cells #[.slice to' ct.tables.length tc,iv] 25)).alloc (.cells (sA kind name table col (.slice co cols.length cc) rowsv setsv frmv outv op xk xn xs s nmv n8 sl order down n) 36)).heap.size ((w.alloc (.cells #[.slice to' ct.tables.length tc,iv] 25)).alloc (.cells (sA kind name table col (.slice co cols.length cc) rowsv setsv frmv outv op xk xn xs s nmv n8 sl order down n) 36)) w' :=by
  rcases htab :A5 ct.tables name with _ | t
  ·refine ⟨false,rfl,(Ep htab (.slice to' ct.tables.length tc) iv hsl C _ (htl.keep (Ag (hb2.mono hC))) (Nat.le_trans hC hb2.size)).mono ?_⟩
   rintro e w1 ⟨rfl,hb1⟩
   exact ⟨_,_,_,_,rfl,hb1⟩
  ·refine ⟨true,rfl,(Eo htab (.slice to' ct.tables.length tc) iv hsl C _ (htl.keep (Ag (hb2.mono hC))) (Nat.le_trans hC hb2.size)).mono ?_⟩
   rintro e w1 ⟨ao2,n2,c2,rfl,hcL,hb1⟩
   exact ⟨_,_,_,_,rfl,hb1⟩
 obtain ⟨b,hb,HF⟩ :=HX
 have HE :Hid (Dw ct name cols=if Cv ⟨name,cols⟩ =false then 1 else if b then 4 else if 3≤ct.tables.length then 8 else 0) :=by show _=_;unfold Dw;rw [hb]
 generalize Dw ct name cols=R at HE
 generalize Cv ⟨name,cols⟩ =g at HE HG
 generalize ct.tables.length=tl at*
 clear htl hil hcl hb hsl
 have hlt0 :=lt_of_block hB0
 have hlt1 :=lt_of_block hB1
 have hlq : (3≤tl∧ (3 :Int) ≤ (tl :Int)) ∨ (¬3≤tl∧ ¬ (3 :Int) ≤ (tl :Int)) :=by omega
 cases g
 ·go_enter Tryz.func55,Tryz.ntmps55
  go_wp2_with (first | (go_at_call 17;go_fit HF;rintro e w1 ⟨tn,ao2,n2,c2,rfl,hb1⟩;have hbx :Below w.heap.size w (w1.alloc (.cells #[.string tn, .slice ao2 n2 c2] 47)) := (Ak hb2 hb1).alloc (Ak hb2 hb1).size _;have z1 :=Aa (Ae ((hb1.block _ hlt1).trans hB1) (.cells #[.string tn, .slice ao2 n2 c2] 47)) (j :=1) rfl;have z4 :=Aa (Ae ((hb1.block _ hlt1).trans hB1) (.cells #[.string tn, .slice ao2 n2 c2] 47)) (j :=4) rfl) | (go_at_call 13;go_fit (HG _ hbx);rintro e w2 ⟨rfl,hb3⟩))
  go_ret
  exact ⟨A6 (by rw [HE.out];rfl),Ak hbx hb3⟩
 ·cases b
  ·rcases hlq with ⟨l1,l2⟩ | ⟨l1,l2⟩
   all_goals
    go_enter Tryz.func55,Tryz.ntmps55
    go_wp2_with (first | (go_at_call 17;go_fit HF;rintro e w1 ⟨tn,ao2,n2,c2,rfl,hb1⟩;have hbx :Below w.heap.size w (w1.alloc (.cells #[.string tn, .slice ao2 n2 c2] 47)) := (Ak hb2 hb1).alloc (Ak hb2 hb1).size _;have z1 :=Aa (Ae ((hb1.block _ hlt1).trans hB1) (.cells #[.string tn, .slice ao2 n2 c2] 47)) (j :=1) rfl;have z4 :=Aa (Ae ((hb1.block _ hlt1).trans hB1) (.cells #[.string tn, .slice ao2 n2 c2] 47)) (j :=4) rfl;have y0 :=Aa (Ae ((hb1.block _ hlt0).trans hB0) (.cells #[.string tn, .slice ao2 n2 c2] 47)) (j :=0) rfl;have hltx :=lt_of_block (Ae ((hb1.block _ hlt0).trans hB0) (.cells #[.string tn, .slice ao2 n2 c2] 47))) | (go_at_call 13;go_fit (HG _ hbx);rintro e w2 ⟨rfl,hb3⟩;have x0 := (hb3.cell (p := ⟨w.heap.size,0,none⟩) hltx).trans y0))
    go_ret
    exact ⟨A6 (by rw [HE.out];simp [l1]),Ak hbx hb3⟩
  ·go_enter Tryz.func55,Tryz.ntmps55
   go_wp2_with (first | (go_at_call 17;go_fit HF;rintro e w1 ⟨tn,ao2,n2,c2,rfl,hb1⟩;have hbx :Below w.heap.size w (w1.alloc (.cells #[.string tn, .slice ao2 n2 c2] 47)) := (Ak hb2 hb1).alloc (Ak hb2 hb1).size _;have z1 :=Aa (Ae ((hb1.block _ hlt1).trans hB1) (.cells #[.string tn, .slice ao2 n2 c2] 47)) (j :=1) rfl;have z4 :=Aa (Ae ((hb1.block _ hlt1).trans hB1) (.cells #[.string tn, .slice ao2 n2 c2] 47)) (j :=4) rfl) | (go_at_call 13;go_fit (HG _ hbx);rintro e w2 ⟨rfl,hb3⟩))
   go_ret
   exact ⟨A6 (by rw [HE.out];rfl),Ak hbx hb3⟩
set_option maxRecDepth 100000 in
set_option maxHeartbeats 2000000 in
theorem Rm (x :IdxD) (pb :Nat) (name :Wd) (w :World) (hp :w.cell? ⟨pb,1,none⟩ =some (.string name)) (hpb :pb<w.heap.size) :
  Calls Tryz.prog 95 #[.agg #[.string x.name, .string x.table, .string x.col], .pointer (some ⟨pb,0,none⟩)] w fun e w'=>e= .returned (.bool (Eg name x)) ∧Below w.heap.size w w' :=by
 have hbx :=Aq w (.cells #[.string x.name, .string x.table, .string x.col] 64)
 have h1 := (hbx.cell (p := ⟨pb,1,none⟩) hpb).trans hp
 have E :Hid (Eg name x= (x.name.toList==name.toList)) :=by show _=_;rw [Eg,Bu]
 generalize Eg name x=r at E
 go_enter Tryz.func95,Tryz.ntmps95
 go_wp2
 go_ret
 exact ⟨Aj E.out.symm,hbx⟩
set_option maxRecDepth 100000 in
set_option maxHeartbeats 8000000 in
theorem Sv (ct :CatD) (cv :Value) (C :Nat) (w :World) (hc :Bh (fun k=>k<C) w ct cv) (hC :C≤w.heap.size)
  (kind :Int) (name table col :Wd) (colsv rowsv setsv frmv outv :Value) (op xk xn :Int) (xs s nmv :Wd) (n8 :Int) (sl order :Value) (down :Bool) (n :Int) (hs :name.size≤maxLen) :
  Calls Tryz.prog 56 #[cv, .agg (sA kind name table col colsv rowsv setsv frmv outv op xk xn xs s nmv n8 sl order down n)] w fun r w'=>r= .returned (.int .i64 (Hw ct name table col)) ∧Below w.heap.size w w' :=by
 obtain ⟨tv,iv,rfl,htl,hil⟩ :=hc
 obtain ⟨io,ic,rfl⟩ :=hil.shape
 obtain ⟨to',tc,rfl⟩ :=htl.shape
 have hb2 :=Bz w (.cells #[.slice to' ct.tables.length tc, .slice io ct.indexes.length ic] 25) (.cells (sA kind name table col colsv rowsv setsv frmv outv op xk xn xs s nmv n8 sl order down n) 36)
 have hB0 : ((w.alloc (.cells #[.slice to' ct.tables.length tc, .slice io ct.indexes.length ic] 25)).alloc (.cells (sA kind name table col colsv rowsv setsv frmv outv op xk xn xs s nmv n8 sl order down n) 36)).heap[w.heap.size]? =some (.cells #[.slice to' ct.tables.length tc, .slice io ct.indexes.length ic] 25) :=Ae (Ab _ _) _
 have hB1 :=A0 w (.cells #[.slice to' ct.tables.length tc, .slice io ct.indexes.length ic] 25) (.cells (sA kind name table col colsv rowsv setsv frmv outv op xk xn xs s nmv n8 sl order down n) 36)
 have HN :=fun W=>Gl name W hs
 have HH :=Nu ct.tables (.slice to' ct.tables.length tc) (.slice io ct.indexes.length ic) ⟨_,_,_,rfl⟩ table col C _ (htl.keep (Ag (hb2.mono hC))) (Nat.le_trans hC hb2.size)
 have hlt0 :=lt_of_block hB0
 have hlt1 :=lt_of_block hB1
 have b1 :=Aa hB1 (j :=1) rfl
 have HC :=fun (W :World) (hW :Below ((w.alloc (.cells #[.slice to' ct.tables.length tc, .slice io ct.indexes.length ic] 25)).alloc (.cells (sA kind name table col colsv rowsv setsv frmv outv op xk xn xs s nmv n8 sl order down n) 36)).heap.size ((w.alloc (.cells #[.slice to' ct.tables.length tc, .slice io ct.indexes.length ic] 25)).alloc (.cells (sA kind name table col colsv rowsv setsv frmv outv op xk xn xs s nmv n8 sl order down n) 36)) W) =>M1 ct.indexes (fun k=>k<C) io ct.indexes.length ic (.pointer (some ⟨w.heap.size+1,0,none⟩)) (atI ct.indexes (Eg name))
  (fun _ W'=>Below W.heap.size W W') (fun W'=>Below W.heap.size W W') W (fun _ _ h=>h) (fun _ W' h=> (hil.keep (Ag (hb2.mono hC))).keep (Ag ((hW.trans (h.mono hW.size)).mono (Nat.le_trans hC hb2.size))))
  (by
   rintro i x cs W' hx h rfl
   refine (Rm x (w.heap.size+1) name W' ((h.cell (p := ⟨w.heap.size+1,1,none⟩) (Nat.lt_of_lt_of_le hlt1 hW.size)).trans ((hW.cell (p := ⟨w.heap.size+1,1,none⟩) hlt1).trans b1)) (Nat.lt_of_lt_of_le hlt1 (Nat.le_trans hW.size h.size))).mono ?_
   rintro e W2 ⟨rfl,hb⟩
   exact ⟨by simp [atI,hx],Ak h hb,fun _=>Ak h hb⟩)
  (Below.refl _ _)
 have HE :Hid (Hw ct name table col=if nm name=false then 1 else if E8 ct.tables table col=false then 3 else if A1 (atI ct.indexes (Eg name)) 0 ct.indexes.length then 4 else if 4≤ct.indexes.length then 8 else 0) :=rfl
 generalize Hw ct name table col=R at HE
 generalize nm name=gn at HE HN
 generalize E8 ct.tables table col=gh at HE HH
 generalize A1 (atI ct.indexes (Eg name)) 0 ct.indexes.length=gc at HE HC
 generalize ct.indexes.length=il at*
 clear htl hil
 have hlq : (4≤il∧ (4 :Int) ≤ (il :Int)) ∨ (¬4≤il∧ ¬ (4 :Int) ≤ (il :Int)) :=by omega
 cases gn
 ·go_enter Tryz.func56,Tryz.ntmps56
  go_wp2_with (first | (go_at_call 34;go_fit (HN _);rintro e w1 ⟨rfl,rfl⟩))
  go_ret
  exact ⟨A6 (by rw [HE.out];rfl),hb2⟩
 ·cases gh
  ·go_enter Tryz.func56,Tryz.ntmps56
   go_wp2_with (first | (go_at_call 34;go_fit (HN _);rintro e w1 ⟨rfl,rfl⟩) | (go_at_call 68;go_fit HH;rintro e w2 ⟨rfl,hb3⟩))
   go_ret
   exact ⟨A6 (by rw [HE.out];rfl),Ak hb2 hb3⟩
  ·cases gc
   ·rcases hlq with ⟨l1,l2⟩ | ⟨l1,l2⟩
    all_goals
     go_enter Tryz.func56,Tryz.ntmps56
     go_wp2_with (first | (go_at_call 34;go_fit (HN _);rintro e w1 ⟨rfl,rfl⟩) | (go_at_call 68;go_fit HH;rintro e w2 ⟨rfl,hb3⟩;have y1 := (hb3.cell (p := ⟨w.heap.size,1,none⟩) hlt0).trans (Aa hB0 (j :=1) rfl);have hlx :=Nat.lt_of_lt_of_le hlt0 hb3.size) | (go_at_call 69;go_fit (HC _ hb3);rintro e w4 ⟨rfl,hb4⟩;have y2 := (hb4.cell (p := ⟨w.heap.size,1,none⟩) hlx).trans y1))
     go_ret
     exact ⟨A6 (by rw [HE.out];simp [l1]),Ak (Ak hb2 hb3) hb4⟩
   ·go_enter Tryz.func56,Tryz.ntmps56
    go_wp2_with (first | (go_at_call 34;go_fit (HN _);rintro e w1 ⟨rfl,rfl⟩) | (go_at_call 68;go_fit HH;rintro e w2 ⟨rfl,hb3⟩;have y1 := (hb3.cell (p := ⟨w.heap.size,1,none⟩) hlt0).trans (Aa hB0 (j :=1) rfl)) | (go_at_call 69;go_fit (HC _ hb3);rintro e w4 ⟨rfl,hb4⟩))
    go_ret
    exact ⟨A6 (by rw [HE.out];rfl),Ak (Ak hb2 hb3) hb4⟩
end Go.Proofs.YtmgkcjiejmhgcaaGreatDoor


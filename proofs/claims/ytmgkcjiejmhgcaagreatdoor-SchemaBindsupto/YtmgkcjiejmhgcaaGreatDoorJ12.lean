/-
  1 texts of this proof in one, in build order: YBindSet.
-/
import Derived.Deep.CutRange
import Derived.Test.YtmgkcjiejmhgcaaGreatDoorJ11
set_option linter.unusedSimpArgs false
set_option linter.unusedVariables false
namespace Go.Proofs.YtmgkcjiejmhgcaaGreatDoor
open Go.RowKit Go.Maps
def M8 (cols :List ColD) (s :Wd) :Int := ((cols[(Bk cols s).toNat]?).map ColD.ty).getD 0
def Ff (t :TabD) (seen :List Wd) (p :Wd×E) :Except Int (Wd×E) :=
 if Bk t.cols p.1<0 then .error 3 else if Dy seen p.1 then .error 4 else match asR [t] (M8 t.cols p.1) p.2 with
  | .error m=> .error m
  | .ok e=> .ok (p.1,e)
def Bq (t :TabD) :List Wd→List (Wd×E) →Except Int (List (Wd×E))
 | _,[] => .ok []
 | seen,p ::l=>match Ff t seen p with
  | .error m=> .error m
  | .ok q=>match Bq t (seen++ [p.1]) l with
   | .error m=> .error m
   | .ok qs=> .ok (q ::qs)
theorem Ik (t :TabD) : ∀ (seen :List Wd) (l :List (Wd×E)) (p :Wd×E),Bq t seen (l++ [p]) =match Bq t seen l with
  | .error m=> .error m
  | .ok qs=>match Ff t (seen++l.map Prod.fst) p with
   | .error m=> .error m
   | .ok q=> .ok (qs++ [q])
 | seen,[],p=>by
  simp only [List.nil_append,Bq,List.map_nil,List.append_nil]
 | seen,x ::l,p=>by
  simp only [List.cons_append,Bq,Ik t (seen++ [x.1]) l p,List.map_cons]
  rw [show seen++ [x.1] ++l.map Prod.fst=seen++x.1 ::l.map Prod.fst by simp]
  cases Ff t seen x with
  | error m=>rfl
  | ok r=>
   cases Bq t (seen++ [x.1]) l with
   | error m=>rfl
   | ok rs=>cases Ff t (seen++x.1 ::l.map Prod.fst) p<;>rfl
theorem I7 (t :TabD) : ∀ (seen :List Wd) (l m :List (Wd×E)) (k :Int),Bq t seen l= .error k→Bq t seen (l++m) = .error k
 | seen,[],m,k,h=>by simp [Bq] at h
 | seen,x ::l,m,k,h=>by
  simp only [List.cons_append,Bq] at h⊢
  cases hx :Ff t seen x with
  | error j=>rw [hx] at h;exact h
  | ok r=>
   rw [hx] at h
   simp only at h⊢
   cases hl :Bq t (seen++ [x.1]) l with
   | error j=>
    rw [hl] at h
    rw [I7 t _ l m j hl]
    exact h
   | ok rs=>rw [hl] at h;cases h
theorem Xw {t :TabD} {seen :List Wd} {p :Wd×E} {m :Int} (h :Ff t seen p= .error m) :m=3∨m=4∨m=5 :=by
 unfold Ff at h
 split at h
 ·exact .inl (Except.error.inj h).symm
 ·split at h
  ·exact .inr (.inl (Except.error.inj h).symm)
  ·cases ha :asR [t] (M8 t.cols p.1) p.2 with
   | error k=>
    rw [ha] at h
    obtain rfl :=Except.error.inj h
    rcases Ft ha with h | h
    ·exact .inl h
    ·exact .inr (.inr h)
   | ok e=>rw [ha] at h;cases h
theorem Q4 : (Tryz.prog.info? 56).map (fun i=> (i.zero,i.size,i.bytes)) =some (some (.agg #[.string ⟨#[]⟩, .int .i64 0, .int .i64 0, .int .i64 0, .string ⟨#[]⟩, .string ⟨#[]⟩, .string ⟨#[]⟩, .int .i64 0, .slice none 0 0]),9,120) :=by kernel_rfl
theorem Xx : (Tryz.prog.info? 56).map (·.size) =some 9 :=by kernel_rfl
theorem Vp (W :World) (n :Nat) (hn :n≤1000000000000) : ∃arr :Array Value,arr.size=n*9∧ (Instr.makeSlice 28 (.int .i64 (n :Int)) (.int .i64 (n :Int))).run Tryz.prog W= .ok (.slice (some ⟨W.heap.size,0,none⟩) n n) (W.alloc (.cells arr 56)) :=by
 obtain ⟨i0,hi,hz0,hz1,hz2⟩ :=info_parts Q4
 have hmk :=run_make (P :=Tryz.prog) W 28 56 i0 _ Tryz.underlying28 hi hz0 .i64 .i64 n n (by omega) (Int.le_refl _) (by rw [hz2];omega) (by omega)
 rw [hz1,Int.toNat_natCast] at hmk
 exact ⟨_,size_madeCells _ _,hmk⟩
abbrev Hz (c :Wd) (op xk xn :Int) (xs s name :Wd) (n :Int) (sv :Value) :Array Value := #[.string c, .int .i64 op, .int .i64 xk, .int .i64 xn, .string xs, .string s, .string name, .int .i64 n,sv]
theorem Xy {W :World} {g n j :Nat} {le :List (Wd×E)} {cw :Wd} {op xk xn :Int} {xs s name :Wd} {i :Int} {ao :Option Addr} {k c :Nat} {e :E}
  (h1 :Cf C5 (Fr (g+1)) W g n le) (hj :j<n) (l1 :le.length=j) (he :IsE (Fr (g+1)) W e (.agg (Ad op ⟨xk,xn,xs⟩ s name i (.slice ao k c)))) :
  W.there g (j*9) 9∧Cf C5 (Fr (g+1)) (W.setCells g (j*9) (Hz cw op xk xn xs s name i (.slice ao k c)).toList) g n (le++ [(cw,e)]) :=by
 subst l1
 exact ⟨h1.there hj,h1.set hj (show ¬g+1≤g by omega) (a := (cw,e)) (c := (Hz cw op xk xn xs s name i (.slice ao k c)).toList) ⟨_,rfl,rfl,he⟩⟩
theorem T8 (c :Wd) (op xk xn :Int) (xs s name :Wd) (n :Int) (ao :Option Addr) (k cp :Nat) : (Hz c op xk xn xs s name n (.slice ao k cp)).all (·.oneCell') =true :=by simp [Value.oneCell']
theorem Ow (w :World) (g o :Nat) : ∀vs :List Value,w.grownBy (w.setCells g o vs) (some g) :=by
 intro vs
 refine ⟨?_, ?_, ?_,by rw [Bp];exact Nat.le_refl _,fun k _ hk=>Be (by rintro rfl;exact hk rfl) vs o w⟩
 ·induction vs generalizing o w with
  | nil=>rfl
  | cons v vs ih=>rw [World.setCells,ih];rfl
 ·induction vs generalizing o w with
  | nil=>rfl
  | cons v vs ih=>rw [World.setCells,ih];rfl
 ·induction vs generalizing o w with
  | nil=>rfl
  | cons v vs ih=>rw [World.setCells,ih];rfl
theorem Ox {W :World} {q :Nat} {tn :Wd} {cols :List ColD} {cv :Value} {ty :TypeId} (hq :W.heap[q]? =some (.cells #[.string tn,cv] ty)) (hc :IsL Bg (fun k=>k<W.heap.size) W cv cols) :IsL A4 (fun k=>k<W.heap.size) W (.slice (some ⟨q,0,none⟩) 1 1) [⟨tn,cols⟩] :=by
 refine ⟨[.string tn,cv],⟨rfl, .inr ⟨Nat.one_pos,q,0,1,rfl,lt_of_block hq,lt_of_block hq,Nat.le_refl _,by decide,fun j u hj=> ?_⟩⟩,All.one ⟨cv,rfl,hc⟩⟩
 rw [Nat.zero_add]
 exact Aa hq (by simpa using hj)
def Li (w' :World) (g gc o1 ge :Nat) (tn :Wd) (cv :Value) (ty :Int) (cw :Wd) (op xk xn :Int) (xs s name :Wd) (n :Int) (sv :Value) :Prop :=
 w'.heap[g]? =some (.cells #[.string tn,cv] 47) ∧w'.cell? ⟨gc,o1,none⟩ =some (.int .i64 ty) ∧w'.heap[ge]? =some (.cells (Hz cw op xk xn xs s name n sv) 56)
theorem Li.below {w w' :World} {B g gc o1 ge :Nat} {tn :Wd} {cv :Value} {ty :Int} {cw :Wd} {op xk xn :Int} {xs s name :Wd} {n :Int} {sv :Value} (h :Li w g gc o1 ge tn cv ty cw op xk xn xs s name n sv) (hb :Below B w w') (h1 :g<B) (h2 :gc<B) (h3 :ge<B) :Li w' g gc o1 ge tn cv ty cw op xk xn xs s name n sv :=by
 obtain ⟨a,b,c⟩ :=h
 exact ⟨(hb.block _ h1).trans a,(hb.cell (p := ⟨gc,o1,none⟩) h2).trans b,(hb.block _ h3).trans c⟩
theorem Li.row {w :World} {g gc o1 ge :Nat} {tn :Wd} {cv :Value} {ty :Int} {cw :Wd} {op xk xn :Int} {xs s name :Wd} {n :Int} {sv :Value} (h :Li w g gc o1 ge tn cv ty cw op xk xn xs s name n sv) {b :Nat} (h1 :g≠b) (h2 :gc≠b) (h3 :ge≠b) (cells :Array Value) :Li (w.setRow b cells) g gc o1 ge tn cv ty cw op xk xn xs s name n sv :=by
 obtain ⟨a,c,d⟩ :=h
 exact ⟨Aw a h1 _,by rw [←c];simp [World.setRow,World.cell?,Array.getElem?_modify,Ne.symm h2],Aw d h3 _⟩
theorem Li.cells {w' :World} {g gc o1 ge :Nat} {tn :Wd} {cv :Value} {ty :Int} {cw :Wd} {op xk xn :Int} {xs s name :Wd} {n :Int} {sv :Value} (h :Li w' g gc o1 ge tn cv ty cw op xk xn xs s name n sv) :
  w'.cell? ⟨g,0,none⟩ =some (.string tn) ∧w'.cell? ⟨g,1,none⟩ =some cv∧w'.cell? ⟨gc,o1,none⟩ =some (.int .i64 ty) ∧w'.cell? ⟨ge,0,none⟩ =some (.string cw) ∧w'.cell? ⟨ge,1,none⟩ =some (.int .i64 op) ∧w'.cell? ⟨ge,2,none⟩ =some (.int .i64 xk) ∧w'.cell? ⟨ge,3,none⟩ =some (.int .i64 xn) ∧w'.cell? ⟨ge,4,none⟩ =some (.string xs) ∧w'.cell? ⟨ge,5,none⟩ =some (.string s) ∧w'.cell? ⟨ge,6,none⟩ =some (.string name) ∧w'.cell? ⟨ge,7,none⟩ =some (.int .i64 n) ∧w'.cell? ⟨ge,8,none⟩ =some sv :=
 ⟨Aa h.1 rfl,Aa h.1 rfl,h.2.1,Aa h.2.2 rfl,Aa h.2.2 rfl,Aa h.2.2 rfl,Aa h.2.2 rfl,Aa h.2.2 rfl,Aa h.2.2 rfl,Aa h.2.2 rfl,Aa h.2.2 rfl,Aa h.2.2 rfl⟩
def Vq (W wx :World) (B :Nat) (e :E) (p :Nat) :Prop :=
 W.heap.size≤p∧Below W.heap.size W wx∧ ∃ (op :Int) (x :V) (s name :Wd) (n :Int) (ao :Option Addr) (k c :Nat),wx.heap[p]? =some (.cells (Ad op x s name n (.slice ao k c)) 34) ∧IsE (Fr B) wx e (.agg (Ad op x s name n (.slice ao k c)))
theorem Lj {W wa :World} {B p :Nat} {e :E} {op :Int} {x :V} {s name :Wd} {n :Int} {ao :Option Addr} {k c :Nat} {old :Array Value} (hp :W.heap.size≤p) (hb :Below W.heap.size W wa) (hz :wa.heap[p]? =some (.cells old 34)) (hE :IsE (fun k=>B≤k∧k≠p) wa e (.agg (Ad op x s name n (.slice ao k c)))) :Vq W (wa.setRow p (Ad op x s name n (.slice ao k c))) B e p :=
 ⟨hp,Below.row hb hp _,op,x,s,name,n,ao,k,c,An hz,IsE.mono (fun _ _ h=>h.1) _ _ (IsE.keep ((Keeps.refl _ _).row (fun h=>h.2 rfl) _) _ _ hE)⟩
set_option maxRecDepth 100000 in
set_option maxHeartbeats 8000000 in
theorem Q5 (tn :Wd) (cols :List ColD) (cv :Value) (d :Nat) (l :List (Wd×E)) (lv :Value) (C :Nat) (w :World) (he :IsL C5 (fun k=>k<C) w lv l) (hl :IsL Bg (fun k=>k<C) w cv cols) (hC :C≤w.heap.size) (hg : ∀p∈l,geB d p.2=true) (hn :l.length≤16777216) (hs : ∀p∈l,p.1.size≤maxLen) (hcl :cols.length≤1000000) :
  Calls Tryz.prog 97 #[.agg #[.string tn,cv],lv] w fun r w'=> (∃u,r= .returned u∧Ha C5 (Bq ⟨tn,cols⟩ [] l) (Fr w.heap.size) w' u) ∧Below w.heap.size w w' :=by
 obtain ⟨so,sc,rfl⟩ :=hl.shape
 obtain ⟨ao,c,rfl⟩ :=he.shape
 obtain ⟨arr1,ha1,hmk1⟩ :=Vp ((w.alloc (.cells #[.string tn, .slice so cols.length sc] 47)).alloc (.map #[] 0)) l.length (by omega)
 have hst :Cf C5 (Fr (w.heap.size+1+1+1)) (((w.alloc (.cells #[.string tn, .slice so cols.length sc] 47)).alloc (.map #[] 0)).alloc (.cells arr1 56)) (w.heap.size+1+1) l.length [] :=by
  have :=G9 C5 (Fr (w.heap.size+1+1+1)) (w := (w.alloc (.cells #[.string tn, .slice so cols.length sc] 47)).alloc (.map #[] 0)) (t :=56) (n :=l.length) ha1
  rwa [show ((w.alloc (.cells #[.string tn, .slice so cols.length sc] 47)).alloc (.map #[] 0)).heap.size=w.heap.size+1+1 by simp] at this
 have hT0 : (((w.alloc (.cells #[.string tn, .slice so cols.length sc] 47)).alloc (.map #[] 0)).alloc (.cells arr1 56)).heap[w.heap.size]? =some (.cells #[.string tn, .slice so cols.length sc] 47) :=Ae (Ae (Ab _ _) _) _
 have hC0 :Cnt (((w.alloc (.cells #[.string tn, .slice so cols.length sc] 47)).alloc (.map #[] 0)).alloc (.cells arr1 56)) (w.heap.size+1) [] :=by
  have :=Mz (w.alloc (.cells #[.string tn, .slice so cols.length sc] 47))
  rw [show (w.alloc (.cells #[.string tn, .slice so cols.length sc] 47)).heap.size=w.heap.size+1 by simp] at this
  exact O7 this _
 have hbW :Below w.heap.size w (((w.alloc (.cells #[.string tn, .slice so cols.length sc] 47)).alloc (.map #[] 0)).alloc (.cells arr1 56)) := (Bz w _ _).alloc (by simp;omega) _
 have hmm := @run_makeMap Tryz.prog
 go_enter Tryz.func97,Tryz.ntmps97
 go_wp2_with fail
 clear hmk1 hmm
 go_loopw [19] (fun i wr=> ∃ (j :Nat) (rs :List (Wd×E)),j≤l.length∧i= .int .i64 j∧Hid (Bq ⟨tn,cols⟩ [] (l.take j) = .ok rs) ∧Hid (rs.length=j) ∧wr.heap[w.heap.size]? =some (.cells #[.string tn, .slice so cols.length sc] 47) ∧Cnt wr (w.heap.size+1) ((l.take j).map Prod.fst) ∧Cf C5 (Fr (w.heap.size+1+1+1)) wr (w.heap.size+1+1) l.length rs∧Below w.heap.size w wr∧w.heap.size+3≤wr.heap.size) (fun i _=>l.length - (intOf i).toNat)
 case atStart=>exact ⟨0,[],Nat.zero_le _,rfl,by show _=_;rw [List.take_zero,Bq],rfl,hT0,hC0,hst,hbW,by simp⟩
 case round=>
  obtain ⟨j,rs,hj,rfl,HQ,HL,hT,hCn,hM1,hbel,hsz⟩ :=hrel
  clear hst hbW ha1 hT0 hC0
  have q2 :=HL.out
  by_cases hjl :j<l.length
  ·obtain ⟨a,ha⟩ : ∃a,l[j]? =some a := ⟨_,List.getElem?_eq_getElem hjl⟩
   have HT :Hid (l.take (j+1) =l.take j++ [a]) :=by show _=_;rw [List.take_add_one,ha];rfl
   have hga :=hg a (List.mem_of_getElem? ha)
   have hsa :=hs a (List.mem_of_getElem? ha)
   obtain ⟨cw,ae⟩ :=a
   simp only at hga hsa
   obtain ⟨b,off,cs,rfl,hbC,hb,hR,hcell⟩ :=Av (he.keep (Ag (hbel.mono hC))) ha
   obtain ⟨d8,rfl,hd8,hRE⟩ :=hR
   obtain ⟨op',⟨xk',xn',xs'⟩,s',name',n',ao',k',c',hq8,_⟩ :=Ov hRE
   obtain rfl :d8= [.int .i64 op', .int .i64 xk', .int .i64 xn', .string xs', .string s', .string name', .int .i64 n', .slice ao' k' c'] :=by have :=congrArg Array.toList (Value.agg.inj hq8);simpa using this
   clear hd8 hq8
   have d0 :=hcell 0 _ rfl
   have d1 :=hcell 1 _ rfl
   have d2 :=hcell 2 _ rfl
   have d3 :=hcell 3 _ rfl
   have d4 :=hcell 4 _ rfl
   have d5 :=hcell 5 _ rfl
   have d6 :=hcell 6 _ rfl
   have d7 :=hcell 7 _ rfl
   have d8 :=hcell 8 _ rfl
   simp only [C5,Nat.add_zero] at d0 d1 d2 d3 d4 d5 d6 d7 d8
   have j0 : (0 :Int) ≤ (j :Int) :=by omega
   have j1 : (j :Int) < (l.length :Int) :=by omega
   have t0 :=Aa hT (j :=0) rfl
   have t1 :=Aa hT (j :=1) rfl
   have hlt0 :=lt_of_block hT
   have hbx :=Aq wr (.cells (Hz cw op' xk' xn' xs' s' name' n' (.slice ao' k' c')) 56)
   have HF :=Hr cols tn (.slice so cols.length sc) cw C _ ((hl.keep (Ag (hbel.mono hC))).keep (Ag (hbx.mono (Nat.le_trans hC hbel.size)))) (Nat.le_trans (Nat.le_trans hC hbel.size) hbx.size)
   have HA :=fun (W :World) (h :Cnt W (w.heap.size+1) ((l.take j).map Prod.fst)) =>K8 (w.heap.size+1) ((l.take j).map Prod.fst) cw W h hsa (by simp;omega)
   have HX : ∀m,Ff ⟨tn,cols⟩ ((l.take j).map Prod.fst) (cw,ae) = .error m→Bq ⟨tn,cols⟩ [] l= .error m :=fun m hm=>by
    have hs :Bq ⟨tn,cols⟩ [] (l.take (j+1)) = .error m :=by rw [HT.out,Ik,HQ.out];simp only [List.nil_append,hm]
    have :=I7 ⟨tn,cols⟩ [] (l.take (j+1)) (l.drop (j+1)) m hs
    rwa [List.take_append_drop] at this
   have HY : ∀q,Ff ⟨tn,cols⟩ ((l.take j).map Prod.fst) (cw,ae) = .ok q→Bq ⟨tn,cols⟩ [] (l.take (j+1)) = .ok (rs++ [q]) :=fun q hq=>by
    rw [HT.out,Ik,HQ.out];simp only [List.nil_append,hq]
   have HN :Hid ((l.take (j+1)).map Prod.fst= (l.take j).map Prod.fst++ [cw]) :=by show _=_;rw [HT.out,List.map_append];rfl
   have HZ :Hid (Ff ⟨tn,cols⟩ ((l.take j).map Prod.fst) (cw,ae) =if Bk cols cw<0 then .error 3 else if Dy ((l.take j).map Prod.fst) cw then .error 4 else match asR [⟨tn,cols⟩] (M8 cols cw) ae with
    | .error m=> .error m
    | .ok e=> .ok (cw,e)) :=rfl
   generalize (l.take j).map Prod.fst=N at*
   rcases F6 cols cw with hneg | ⟨kk,x,hk1,hk2,_⟩
   ·have HE :Hid (Bq ⟨tn,cols⟩ [] l= .error 3) :=HX 3 (by rw [HZ.out,hneg];rfl)
    rw [hneg] at HF
    clear HA HX HY HZ HN HQ HL HT hcell hRE ha hg hs he hl hneg
    go_wp2_with (first | (go_at_call 15;go_fit HF;rintro e w1 ⟨rfl,hb1⟩;have hbT :=Ak hbx hb1))
    go_ret2
    refine ⟨⟨_,rfl, ?_⟩,hbel.trans (hbT.mono hbel.size)⟩
    rw [HE.out]
    rfl
   ·have hty :M8 cols cw=x.ty :=by unfold M8;rw [hk1];simp [hk2]
    have hkl :kk<cols.length := (List.getElem?_eq_some_iff.1 hk2).1
    obtain ⟨cb,cof,ccs,rfl,hcbC,hcb,hcR,hccell⟩ :=Av (hl.keep (Ag (hbel.mono hC))) hk2
    obtain rfl :=hcR
    have c1 :=hccell 1 _ rfl
    simp only [Bg] at c1
    have k0 : (0 :Int) ≤ (kk :Int) :=by omega
    have k1 : (kk :Int) < (cols.length :Int) :=by omega
    rw [hk1] at HF HZ
    rw [hty] at HZ
    have hn0 : ¬ ((kk :Int) <0) :=by omega
    rw [if_neg hn0] at HZ
    cases hmb :Dy N cw
    ·rw [hmb] at HA HZ
     simp only [Bool.false_eq_true,if_false] at HZ
     clear hk1 hk2 hccell hmb hcell ha hg hs
     go_wp2_with (first | (go_at_call 15;go_fit HF;rintro e w1 ⟨rfl,hb1⟩;have hbT :=Ak hbx hb1;have hC1 :=hCn.below hbT;have hSt := (hb1.block _ (show wr.heap.size<_ by simp)).trans (Ab wr _);have s0 :=Aa hSt (j :=0) rfl) | (go_at_call 77;go_fit (HA _ hC1);rintro e w2 ⟨rfl,hC2,hg2⟩))
     have hlw1 :wr.heap.size<w1.heap.size :=lt_of_block hSt
     have hbel2 :Below w.heap.size w w2 :=Below.grow (hbel.trans (hbT.mono hbel.size)) hg2 (Nat.le_trans hbel.size hbT.size) (by omega)
     have hT2 :w2.heap[w.heap.size]? =some (.cells #[.string tn, .slice (some ⟨cb,cof,none⟩) cols.length sc] 47) :=Bf hg2 ((hbT.block _ hlt0).trans hT) (by simp)
     have hcw :cb<w.heap.size :=Nat.lt_of_lt_of_le hcbC hC
     have SS :Li w2 w.heap.size cb (cof+kk*3+1) wr.heap.size tn (.slice (some ⟨cb,cof,none⟩) cols.length sc) x.ty cw op' xk' xn' xs' s' name' n' (.slice ao' k' c') := ⟨hT2,hg2.cell ((hbT.cell (p := ⟨cb,cof+kk*3+1,none⟩) hcb).trans c1) (by simp;omega),Bf hg2 hSt (by simp;omega)⟩
     have KS : ∀W,Below w2.heap.size w2 W→Li W w.heap.size cb (cof+kk*3+1) wr.heap.size tn (.slice (some ⟨cb,cof,none⟩) cols.length sc) x.ty cw op' xk' xn' xs' s' name' n' (.slice ao' k' c') :=fun W hW=>SS.below hW (Nat.lt_of_lt_of_le hlt0 (Nat.le_trans hbT.size hg2.size)) (Nat.lt_of_lt_of_le hcb (Nat.le_trans hbT.size hg2.size)) (Nat.lt_of_lt_of_le hlw1 hg2.size)
     have hM2 :Cf C5 (Fr (w.heap.size+1+1+1)) w2 (w.heap.size+1+1) l.length rs := (hM1.below hbT).keep ⟨hg2.size,fun k hk hl=>hg2.block k hl (by intro h;simp at h;have :w.heap.size+1+1+1≤k :=hk;omega)⟩ (hg2.block _ (hM1.below hbT).lt (by simp))
     have hKC :Keeps (fun k=>k<C) wr w2 := (Ag (hbT.mono (Nat.le_trans hC hbel.size))).trans ⟨hg2.size,fun k hk hl=>hg2.block k hl (by intro h;simp at h;have :k<C :=hk;omega)⟩
     have hEw :=IsE.mono (F' :=fun k=>k<w2.heap.size) (fun k hk _=>hk) _ _ (IsE.keep hKC _ _ hRE)
     have hlw := ((hl.keep (Ag (hbel.mono hC))).keep hKC).mono (F' :=fun k=>k<w2.heap.size) (fun k hk _=>hk)
     have HI : ∀ (Wc :World) (q :Nat),Below w2.heap.size w2 Wc→Wc.heap[q]? =some (.cells #[.string tn, .slice (some ⟨cb,cof,none⟩) cols.length sc] 47) →Calls Tryz.prog 118 #[.slice (some ⟨q,0,none⟩) 1 1, .int .i64 x.ty, .agg (Ad op' ⟨xk',xn',xs'⟩ s' name' n' (.slice ao' k' c'))] Wc fun r w'=> (∃u,r= .returned u∧Mc (asR [⟨tn,cols⟩] x.ty ae) (Fr Wc.heap.size) w' u) ∧Below Wc.heap.size Wc w' :=fun Wc q hW hq=>J7 [⟨tn,cols⟩] (show 1≤1000 by decide) (by simpa using hcl) d x.ty ae _ _ Wc.heap.size Wc (IsE.mono (fun k hk _=>hk) _ _ (IsE.keep (Ar hW) _ _ hEw)) (Ox hq ((hlw.keep (Ar hW)).mono (fun k hk _=>hk))) (Nat.le_refl _) hga
     have hlen2 :w.heap.size+3≤w2.heap.size :=Nat.le_trans hsz (Nat.le_trans hbT.size hg2.size)
     obtain ⟨m,e3,hme,HI2⟩ : ∃ (m :Int) (e3 :E),((asR [⟨tn,cols⟩] x.ty ae= .error m∧ (m=3∨m=5)) ∨ (asR [⟨tn,cols⟩] x.ty ae= .ok e3∧m=0)) ∧ ∀ (Wc :World) (q :Nat),Below w2.heap.size w2 Wc→Wc.heap[q]? =some (.cells #[.string tn, .slice (some ⟨cb,cof,none⟩) cols.length sc] 47) →Calls Tryz.prog 118 #[.slice (some ⟨q,0,none⟩) 1 1, .int .i64 x.ty, .agg (Ad op' ⟨xk',xn',xs'⟩ s' name' n' (.slice ao' k' c'))] Wc fun r w'=> ∃ (op :Int) (x :V) (s name :Wd) (n :Int) (ao :Option Addr) (k c :Nat),r= .returned (.tuple #[.agg (Ad op x s name n (.slice ao k c)), .int .i64 m]) ∧IsE (Fr Wc.heap.size) w' e3 (.agg (Ad op x s name n (.slice ao k c))) ∧Below Wc.heap.size Wc w' :=by
      rcases har :asR [⟨tn,cols⟩] x.ty ae with m | e2
      ·refine ⟨m, .mk 0 zero noW noW 0 [], .inl ⟨rfl,Ft har⟩,fun Wc q h1 h2=> (HI Wc q h1 h2).mono ?_⟩
       rintro r w' ⟨⟨u,rfl,hu⟩,hb'⟩
       rw [har] at hu
       obtain rfl :=hu
       exact ⟨0,zero,noW,noW,0,none,0,0,rfl,Dn fun _=>rfl,hb'⟩
      ·refine ⟨0,e2, .inr ⟨rfl,rfl⟩,fun Wc q h1 h2=> (HI Wc q h1 h2).mono ?_⟩
       rintro r w' ⟨⟨u,rfl,hu⟩,hb'⟩
       rw [har] at hu
       obtain ⟨op,x,s,name,n,ao,k,c,rfl,hE'⟩ :=hu
       exact ⟨op,x,s,name,n,ao,k,c,rfl,hE',hb'⟩
     have hme2 :Hid ((asR [⟨tn,cols⟩] x.ty ae= .error m∧ (m=3∨m=5)) ∨ (asR [⟨tn,cols⟩] x.ty ae= .ok e3∧m=0)) :=hme
     clear HI hme hEw hlw hKC hM1 hC1 hg2 SS hT2 s0 hSt hb1 hCn hRE he hl HA HF c1 t0 t1 d0 d1 d2 d3 d4 d5 d6 d7 d8
     go_cut [11,12] from 34 to 48 (fun s11 s12 wx=> ∃p,s11= .pointer (some ⟨p,0,none⟩) ∧s12= .int .i64 m∧Vq w2 wx (w.heap.size+1+1+1) e3 p)
     case first=>
      refine wp_region_held_drew (S := (fun w'=>Li w' w.heap.size cb (cof+kk*3+1) wr.heap.size tn (.slice (some ⟨cb,cof,none⟩) cols.length sc) x.ty cw op' xk' xn' xs' s' name' n' (.slice ao' k' c'))) (by kernel_rfl) ?_ (fun hHeld=> ?_)
      ·exact KS _ (Below.refl _ _).drew
      refine wpAnyH_take (i :=0) (oi := {dst :=some 35,op :=Go.Op.load 47 (Go.Operand.tmp 2),type :=47,pos := "bind.go:137",after := #[],guard :=none}) (v := ?_) rfl (by kernel_rfl) (by kernel_rfl) (by kernel_rfl) (fun _ _ _ h=>h) (Or.inl ⟨by rfl, ?_⟩) (by assumption) ?_
      rotate_left
      ·intro W' hSw;obtain ⟨a0,a1,a2,b0,b1,b2,b3,b4,b5,b6,b7,b8⟩ :=Li.cells hSw;go_simp;all_goals (with_reducible rfl)
      try simp only [Act.put,List.setIfInBounds_toArray,List.set_cons_zero,List.set_cons_succ]
      refine wpAnyH_take (i :=2) (oi := {dst :=some 37,op :=Go.Op.fieldAddr 47 (Go.Operand.tmp 2) 1,type :=0,pos := "bind.go:137",after := #[],guard :=none}) (v := ?_) rfl (by kernel_rfl) (by kernel_rfl) (by kernel_rfl) (fun _ _ _ h=>h) (Or.inl ⟨by rfl, ?_⟩) (by assumption) ?_
      rotate_left
      ·intro W' hSw;obtain ⟨a0,a1,a2,b0,b1,b2,b3,b4,b5,b6,b7,b8⟩ :=Li.cells hSw;go_simp;all_goals (with_reducible rfl)
      try simp only [Act.put,List.setIfInBounds_toArray,List.set_cons_zero,List.set_cons_succ]
      refine wpAnyH_take (i :=3) (oi := {dst :=some 38,op :=Go.Op.load 26 (Go.Operand.tmp 37),type :=26,pos := "bind.go:137",after := #[{on :=2,ground :=Go.Ground.data}],guard :=none}) (v := ?_) rfl (by kernel_rfl) (by kernel_rfl) (by kernel_rfl) (fun _ _ _ h=>h) (Or.inl ⟨by rfl, ?_⟩) (by assumption) ?_
      rotate_left
      ·intro W' hSw;obtain ⟨a0,a1,a2,b0,b1,b2,b3,b4,b5,b6,b7,b8⟩ :=Li.cells hSw;go_simp;all_goals (with_reducible rfl)
      try simp only [Act.put,List.setIfInBounds_toArray,List.set_cons_zero,List.set_cons_succ]
      refine wpAnyH_take (i :=4) (oi := {dst :=some 39,op :=Go.Op.move (Go.Operand.tmp 10),type :=3,pos := "bind.go:137",after := #[],guard :=none}) (v := ?_) rfl (by kernel_rfl) (by kernel_rfl) (by kernel_rfl) (fun _ _ _ h=>h) (Or.inl ⟨by rfl, ?_⟩) (by assumption) ?_
      rotate_left
      ·intro W' hSw;obtain ⟨a0,a1,a2,b0,b1,b2,b3,b4,b5,b6,b7,b8⟩ :=Li.cells hSw;go_simp;all_goals (with_reducible rfl)
      try simp only [Act.put,List.setIfInBounds_toArray,List.set_cons_zero,List.set_cons_succ]
      refine wpAnyH_take (i :=5) (oi := {dst :=some 40,op :=Go.Op.indexAddr 26 (Go.Operand.tmp 38) (Go.Operand.tmp 39),type :=0,pos := "bind.go:137",after := #[{on :=3,ground :=Go.Ground.data},{on :=4,ground :=Go.Ground.data}],guard :=none}) (v := ?_) rfl (by kernel_rfl) (by kernel_rfl) (by kernel_rfl) (fun _ _ _ h=>h) (Or.inl ⟨by rfl, ?_⟩) (by assumption) ?_
      rotate_left
      ·intro W' hSw;obtain ⟨a0,a1,a2,b0,b1,b2,b3,b4,b5,b6,b7,b8⟩ :=Li.cells hSw;go_simp;all_goals (with_reducible rfl)
      try simp only [Act.put,List.setIfInBounds_toArray,List.set_cons_zero,List.set_cons_succ]
      refine wpAnyH_take (i :=6) (oi := {dst :=some 41,op :=Go.Op.fieldAddr 66 (Go.Operand.tmp 40) 1,type :=0,pos := "bind.go:137",after := #[{on :=5,ground :=Go.Ground.data}],guard :=none}) (v := ?_) rfl (by kernel_rfl) (by kernel_rfl) (by kernel_rfl) (fun _ _ _ h=>h) (Or.inl ⟨by rfl, ?_⟩) (by assumption) ?_
      rotate_left
      ·intro W' hSw;obtain ⟨a0,a1,a2,b0,b1,b2,b3,b4,b5,b6,b7,b8⟩ :=Li.cells hSw;go_simp;all_goals (with_reducible rfl)
      try simp only [Act.put,List.setIfInBounds_toArray,List.set_cons_zero,List.set_cons_succ]
      refine wpAnyH_take (i :=7) (oi := {dst :=some 42,op :=Go.Op.load 3 (Go.Operand.tmp 41),type :=3,pos := "bind.go:137",after := #[{on :=6,ground :=Go.Ground.data}],guard :=none}) (v := ?_) rfl (by kernel_rfl) (by kernel_rfl) (by kernel_rfl) (fun _ _ _ h=>h) (Or.inl ⟨by rfl, ?_⟩) (by assumption) ?_
      rotate_left
      ·intro W' hSw;obtain ⟨a0,a1,a2,b0,b1,b2,b3,b4,b5,b6,b7,b8⟩ :=Li.cells hSw;go_simp;all_goals (with_reducible rfl)
      try simp only [Act.put,List.setIfInBounds_toArray,List.set_cons_zero,List.set_cons_succ]
      refine wpAnyH_take (i :=8) (oi := {dst :=some 43,op :=Go.Op.fieldAddr 56 (Go.Operand.tmp 9) 1,type :=0,pos := "bind.go:137",after := #[],guard :=none}) (v := ?_) rfl (by kernel_rfl) (by kernel_rfl) (by kernel_rfl) (fun _ _ _ h=>h) (Or.inl ⟨by rfl, ?_⟩) (by assumption) ?_
      rotate_left
      ·intro W' hSw;obtain ⟨a0,a1,a2,b0,b1,b2,b3,b4,b5,b6,b7,b8⟩ :=Li.cells hSw;go_simp;all_goals (with_reducible rfl)
      try simp only [Act.put,List.setIfInBounds_toArray,List.set_cons_zero,List.set_cons_succ]
      refine wpAnyH_take (i :=9) (oi := {dst :=some 44,op :=Go.Op.load 34 (Go.Operand.tmp 43),type :=34,pos := "bind.go:137",after := #[{on :=8,ground :=Go.Ground.data}],guard :=none}) (v := ?_) rfl (by kernel_rfl) (by kernel_rfl) (by kernel_rfl) (fun _ _ _ h=>h) (Or.inl ⟨by rfl, ?_⟩) (by assumption) ?_
      rotate_left
      ·intro W' hSw;obtain ⟨a0,a1,a2,b0,b1,b2,b3,b4,b5,b6,b7,b8⟩ :=Li.cells hSw;go_simp;all_goals (with_reducible rfl)
      try simp only [Act.put,List.setIfInBounds_toArray,List.set_cons_zero,List.set_cons_succ]
      refine wpAnyH_ready (rs := [1,14]) (by kernel_rfl) (by simp) ?_
      refine (AllReadyH.cons (o := {dst :=some 36,op :=Go.Op.buildSlice 127 1 #[(0,Go.Operand.tmp 35)],type :=127,pos := "bind.go:137",after := #[{on :=0,ground :=Go.Ground.data}],guard :=none}) rfl (fun K hK=> ?_) (AllReadyH.cons (o := {dst :=some 11,op :=Go.Op.alloc 34,type :=0,pos := "bind.go:137",after := #[],guard :=none}) rfl (fun K hK=> ?_) AllReadyH.nil))
      ·go_simp
       go_wp2_with fail
       refine hK.out _ _ ?_ (fun hHeld=> ?_)
       ·exact KS _ (Aq w2 _).drew
       clear hK K
       try simp only [Act.put,List.setIfInBounds_toArray,List.set_cons_zero,List.set_cons_succ]
       refine wpAnyH_ready (rs := [10,14]) (by kernel_rfl) (by simp) ?_
       refine (AllReadyH.cons (o := {dst :=some 45,op :=Go.Op.call {callee :=Go.Callee.value (Go.Operand.func 118),args := #[Go.Operand.tmp 36,Go.Operand.tmp 42,Go.Operand.tmp 44],argTypes := #[127,3,34]},type :=71,pos := "bind.go:137",after := #[{on :=1,ground :=Go.Ground.data},{on :=7,ground :=Go.Ground.data},{on :=9,ground :=Go.Ground.data}],guard :=none}) rfl (fun K hK=> ?_) (AllReadyH.cons (o := {dst :=some 11,op :=Go.Op.alloc 34,type :=0,pos := "bind.go:137",after := #[],guard :=none}) rfl (fun K hK=> ?_) AllReadyH.nil))
       ·go_simp
        (go_at_call 118;refine (HI2 (w2.alloc (.cells #[.string tn, .slice (some ⟨cb,cof,none⟩) cols.length sc] 47)).drew w2.heap.size (Aq w2 _).drew (Ab _ _)).mono ?_;rintro r w3 ⟨op2,x2,s2,name2,n2,ao2,k2,c2,rfl,hE2,hb3⟩;obtain ⟨x2k,x2n,x2s⟩ :=x2;have hone :=A8 op2 ⟨x2k,x2n,x2s⟩ s2 name2 n2 ao2 k2 c2;have hbw3 :Below w2.heap.size w2 w3 :=Ak (Aq w2 _).drew hb3)
        go_wp2_with fail
        refine hK.out _ _ ?_ (fun hHeld=> ?_)
        ·exact KS _ hbw3
        clear hK K
        try simp only [Act.put,List.setIfInBounds_toArray,List.set_cons_zero,List.set_cons_succ]
        refine wpAnyH_take (i :=11) (oi := {dst :=some 34,op :=Go.Op.move (Go.Operand.tmp 45),type :=71,pos := "bind.go:137",after := #[{on :=10,ground :=Go.Ground.data}],guard :=none}) (v := ?_) rfl (by kernel_rfl) (by kernel_rfl) (by kernel_rfl) (fun _ _ _ h=>h) (Or.inl ⟨by rfl, ?_⟩) (by assumption) ?_
        rotate_left
        ·intro W' hSw;obtain ⟨a0,a1,a2,b0,b1,b2,b3,b4,b5,b6,b7,b8⟩ :=Li.cells hSw;go_simp;all_goals (with_reducible rfl)
        try simp only [Act.put,List.setIfInBounds_toArray,List.set_cons_zero,List.set_cons_succ]
        refine wpAnyH_take (i :=12) (oi := {dst :=some 46,op :=Go.Op.extract (Go.Operand.tmp 34) 0,type :=34,pos := "bind.go:137",after := #[{on :=11,ground :=Go.Ground.data}],guard :=none}) (v := ?_) rfl (by kernel_rfl) (by kernel_rfl) (by kernel_rfl) (fun _ _ _ h=>h) (Or.inl ⟨by rfl, ?_⟩) (by assumption) ?_
        rotate_left
        ·intro W' hSw;obtain ⟨a0,a1,a2,b0,b1,b2,b3,b4,b5,b6,b7,b8⟩ :=Li.cells hSw;go_simp;all_goals (with_reducible rfl)
        try simp only [Act.put,List.setIfInBounds_toArray,List.set_cons_zero,List.set_cons_succ]
        refine wpAnyH_take (i :=13) (oi := {dst :=some 47,op :=Go.Op.extract (Go.Operand.tmp 34) 1,type :=39,pos := "bind.go:137",after := #[{on :=11,ground :=Go.Ground.data},{on :=15,ground :=Go.Ground.gcOnly Go.Departure.lateStores}],guard :=none}) (v := ?_) rfl (by kernel_rfl) (by kernel_rfl) (by kernel_rfl) (fun _ _ _ h=>h) (Or.inl ⟨by rfl, ?_⟩) (by assumption) ?_
        rotate_left
        ·intro W' hSw;obtain ⟨a0,a1,a2,b0,b1,b2,b3,b4,b5,b6,b7,b8⟩ :=Li.cells hSw;go_simp;all_goals (with_reducible rfl)
        try simp only [Act.put,List.setIfInBounds_toArray,List.set_cons_zero,List.set_cons_succ]
        refine wpAnyH_ready (rs := [14]) (by kernel_rfl) (by simp) ?_
        refine (AllReadyH.cons (o := {dst :=some 11,op :=Go.Op.alloc 34,type :=0,pos := "bind.go:137",after := #[],guard :=none}) rfl (fun K hK=> ?_) AllReadyH.nil)
        go_simp
        go_wp2_with fail
        refine hK.out _ _ ?_ (fun hHeld=> ?_)
        ·exact KS _ (hbw3.alloc hbw3.size _)
        clear hK K
        try simp only [Act.put,List.setIfInBounds_toArray,List.set_cons_zero,List.set_cons_succ]
        refine wpAnyH_ready (rs := [15]) (by kernel_rfl) (by simp) ?_
        refine (AllReadyH.cons (o := {dst :=none,op :=Go.Op.store 34 (Go.Operand.tmp 11) (Go.Operand.tmp 46),type :=0,pos := "bind.go:137",after := #[{on :=14,ground :=Go.Ground.data},{on :=12,ground :=Go.Ground.data},{on :=10,ground :=Go.Ground.chain},{on :=0,ground :=Go.Ground.phase},{on :=1,ground :=Go.Ground.phase},{on :=2,ground :=Go.Ground.phase},{on :=3,ground :=Go.Ground.phase},{on :=4,ground :=Go.Ground.phase},{on :=5,ground :=Go.Ground.phase},{on :=6,ground :=Go.Ground.phase},{on :=7,ground :=Go.Ground.phase},{on :=8,ground :=Go.Ground.phase},{on :=9,ground :=Go.Ground.phase},{on :=10,ground :=Go.Ground.phase},{on :=11,ground :=Go.Ground.phase},{on :=12,ground :=Go.Ground.phase},{on :=13,ground :=Go.Ground.textOnly Go.Departure.lateStores},{on :=14,ground :=Go.Ground.phase}],guard :=none}) rfl (fun K hK=> ?_) AllReadyH.nil)
        refine At rfl 34 _ _ rfl w3.heap.size (Ad op2 ⟨x2k,x2n,x2s⟩ s2 name2 n2 (.slice ao2 k2 c2)) ?_ ?_ 34 (Ad 0 zero noW noW 0 (.slice none 0 0)) ?_ ?_ ?_ ?_ ?_;exact rfl;exact rfl;exact (Ab w3 _);exact Ai;exact rfl;exact hone
        refine hK.out _ _ ?_ (fun hHeld=> ?_)
        ·exact KS _ (Below.row (hbw3.alloc hbw3.size _) hbw3.size _)
        clear hK K
        try simp only [Act.put]
        refine wpAnyH_take (i :=16) (oi := {dst :=some 12,op :=Go.Op.assign (Go.Operand.tmp 47),type :=39,pos := "bind.go:137",after := #[{on :=13,ground :=Go.Ground.data},{on :=15,ground :=Go.Ground.chain},{on :=0,ground :=Go.Ground.phase},{on :=1,ground :=Go.Ground.phase},{on :=2,ground :=Go.Ground.phase},{on :=3,ground :=Go.Ground.phase},{on :=4,ground :=Go.Ground.phase},{on :=5,ground :=Go.Ground.phase},{on :=6,ground :=Go.Ground.phase},{on :=7,ground :=Go.Ground.phase},{on :=8,ground :=Go.Ground.phase},{on :=9,ground :=Go.Ground.phase},{on :=10,ground :=Go.Ground.phase},{on :=11,ground :=Go.Ground.phase},{on :=12,ground :=Go.Ground.phase},{on :=13,ground :=Go.Ground.phase},{on :=14,ground :=Go.Ground.phase},{on :=15,ground :=Go.Ground.phase}],guard :=none}) (v := ?_) rfl (by kernel_rfl) (by kernel_rfl) (by kernel_rfl) (fun _ _ _ h=>h) (Or.inl ⟨by rfl, ?_⟩) (by assumption) ?_
        rotate_left
        ·intro W' hSw;obtain ⟨a0,a1,a2,b0,b1,b2,b3,b4,b5,b6,b7,b8⟩ :=Li.cells hSw;go_simp;all_goals (with_reducible rfl)
        try simp only [Act.put,List.setIfInBounds_toArray,List.set_cons_zero,List.set_cons_succ]
        refine wpAnyH_done (by kernel_rfl) ?_ _
        go_wp2_with fail
        go_meet
        case rel=>exact ⟨w3.heap.size,rfl,rfl,Lj hbw3.size (hbw3.alloc hbw3.size _) (Ab w3 _) (IsE.keep (Ar (Aq _ _)) _ _ (IsE.mono (fun k hk h=> ⟨Nat.le_trans (by simp [World.drew];omega) h,Nat.ne_of_lt hk⟩) _ _ hE2))⟩
       ·go_simp
        go_wp2_with fail
        refine hK.out _ _ ?_ (fun hHeld=> ?_)
        ·exact KS _ (Bz w2 _ _).drew
        clear hK K
        try simp only [Act.put,List.setIfInBounds_toArray,List.set_cons_zero,List.set_cons_succ]
        refine wpAnyH_ready (rs := [10]) (by kernel_rfl) (by simp) ?_
        refine (AllReadyH.cons (o := {dst :=some 45,op :=Go.Op.call {callee :=Go.Callee.value (Go.Operand.func 118),args := #[Go.Operand.tmp 36,Go.Operand.tmp 42,Go.Operand.tmp 44],argTypes := #[127,3,34]},type :=71,pos := "bind.go:137",after := #[{on :=1,ground :=Go.Ground.data},{on :=7,ground :=Go.Ground.data},{on :=9,ground :=Go.Ground.data}],guard :=none}) rfl (fun K hK=> ?_) AllReadyH.nil)
        go_simp
        (go_at_call 118;refine (HI2 ((w2.alloc (.cells #[.string tn, .slice (some ⟨cb,cof,none⟩) cols.length sc] 47)).alloc (.cells (Ad 0 zero noW noW 0 (.slice none 0 0)) 34)).drew w2.heap.size (Bz w2 _ _).drew (Ae (Ab _ _) _)).mono ?_;rintro r w3 ⟨op2,x2,s2,name2,n2,ao2,k2,c2,rfl,hE2,hb3⟩;obtain ⟨x2k,x2n,x2s⟩ :=x2;have hone :=A8 op2 ⟨x2k,x2n,x2s⟩ s2 name2 n2 ao2 k2 c2;have hbw3 :Below w2.heap.size w2 w3 :=Ak (Bz w2 _ _).drew hb3)
        go_wp2_with fail
        refine hK.out _ _ ?_ (fun hHeld=> ?_)
        ·exact KS _ hbw3
        clear hK K
        try simp only [Act.put,List.setIfInBounds_toArray,List.set_cons_zero,List.set_cons_succ]
        refine wpAnyH_take (i :=11) (oi := {dst :=some 34,op :=Go.Op.move (Go.Operand.tmp 45),type :=71,pos := "bind.go:137",after := #[{on :=10,ground :=Go.Ground.data}],guard :=none}) (v := ?_) rfl (by kernel_rfl) (by kernel_rfl) (by kernel_rfl) (fun _ _ _ h=>h) (Or.inl ⟨by rfl, ?_⟩) (by assumption) ?_
        rotate_left
        ·intro W' hSw;obtain ⟨a0,a1,a2,b0,b1,b2,b3,b4,b5,b6,b7,b8⟩ :=Li.cells hSw;go_simp;all_goals (with_reducible rfl)
        try simp only [Act.put,List.setIfInBounds_toArray,List.set_cons_zero,List.set_cons_succ]
        refine wpAnyH_take (i :=12) (oi := {dst :=some 46,op :=Go.Op.extract (Go.Operand.tmp 34) 0,type :=34,pos := "bind.go:137",after := #[{on :=11,ground :=Go.Ground.data}],guard :=none}) (v := ?_) rfl (by kernel_rfl) (by kernel_rfl) (by kernel_rfl) (fun _ _ _ h=>h) (Or.inl ⟨by rfl, ?_⟩) (by assumption) ?_
        rotate_left
        ·intro W' hSw;obtain ⟨a0,a1,a2,b0,b1,b2,b3,b4,b5,b6,b7,b8⟩ :=Li.cells hSw;go_simp;all_goals (with_reducible rfl)
        try simp only [Act.put,List.setIfInBounds_toArray,List.set_cons_zero,List.set_cons_succ]
        refine wpAnyH_take (i :=13) (oi := {dst :=some 47,op :=Go.Op.extract (Go.Operand.tmp 34) 1,type :=39,pos := "bind.go:137",after := #[{on :=11,ground :=Go.Ground.data},{on :=15,ground :=Go.Ground.gcOnly Go.Departure.lateStores}],guard :=none}) (v := ?_) rfl (by kernel_rfl) (by kernel_rfl) (by kernel_rfl) (fun _ _ _ h=>h) (Or.inl ⟨by rfl, ?_⟩) (by assumption) ?_
        rotate_left
        ·intro W' hSw;obtain ⟨a0,a1,a2,b0,b1,b2,b3,b4,b5,b6,b7,b8⟩ :=Li.cells hSw;go_simp;all_goals (with_reducible rfl)
        try simp only [Act.put,List.setIfInBounds_toArray,List.set_cons_zero,List.set_cons_succ]
        refine wpAnyH_ready (rs := [15]) (by kernel_rfl) (by simp) ?_
        refine (AllReadyH.cons (o := {dst :=none,op :=Go.Op.store 34 (Go.Operand.tmp 11) (Go.Operand.tmp 46),type :=0,pos := "bind.go:137",after := #[{on :=14,ground :=Go.Ground.data},{on :=12,ground :=Go.Ground.data},{on :=10,ground :=Go.Ground.chain},{on :=0,ground :=Go.Ground.phase},{on :=1,ground :=Go.Ground.phase},{on :=2,ground :=Go.Ground.phase},{on :=3,ground :=Go.Ground.phase},{on :=4,ground :=Go.Ground.phase},{on :=5,ground :=Go.Ground.phase},{on :=6,ground :=Go.Ground.phase},{on :=7,ground :=Go.Ground.phase},{on :=8,ground :=Go.Ground.phase},{on :=9,ground :=Go.Ground.phase},{on :=10,ground :=Go.Ground.phase},{on :=11,ground :=Go.Ground.phase},{on :=12,ground :=Go.Ground.phase},{on :=13,ground :=Go.Ground.textOnly Go.Departure.lateStores},{on :=14,ground :=Go.Ground.phase}],guard :=none}) rfl (fun K hK=> ?_) AllReadyH.nil)
        refine At rfl 34 _ _ rfl (w2.heap.size+1) (Ad op2 ⟨x2k,x2n,x2s⟩ s2 name2 n2 (.slice ao2 k2 c2)) ?_ ?_ 34 (Ad 0 zero noW noW 0 (.slice none 0 0)) ?_ ?_ ?_ ?_ ?_;exact rfl;exact rfl;exact ((hb3.block _ (by simp [World.drew])).trans (A0 _ _ _));exact Ai;exact rfl;exact hone
        refine hK.out _ _ ?_ (fun hHeld=> ?_)
        ·exact KS _ (Below.row hbw3 (show w2.heap.size≤ (w2.heap.size+1) by omega) _)
        clear hK K
        try simp only [Act.put]
        refine wpAnyH_take (i :=16) (oi := {dst :=some 12,op :=Go.Op.assign (Go.Operand.tmp 47),type :=39,pos := "bind.go:137",after := #[{on :=13,ground :=Go.Ground.data},{on :=15,ground :=Go.Ground.chain},{on :=0,ground :=Go.Ground.phase},{on :=1,ground :=Go.Ground.phase},{on :=2,ground :=Go.Ground.phase},{on :=3,ground :=Go.Ground.phase},{on :=4,ground :=Go.Ground.phase},{on :=5,ground :=Go.Ground.phase},{on :=6,ground :=Go.Ground.phase},{on :=7,ground :=Go.Ground.phase},{on :=8,ground :=Go.Ground.phase},{on :=9,ground :=Go.Ground.phase},{on :=10,ground :=Go.Ground.phase},{on :=11,ground :=Go.Ground.phase},{on :=12,ground :=Go.Ground.phase},{on :=13,ground :=Go.Ground.phase},{on :=14,ground :=Go.Ground.phase},{on :=15,ground :=Go.Ground.phase}],guard :=none}) (v := ?_) rfl (by kernel_rfl) (by kernel_rfl) (by kernel_rfl) (fun _ _ _ h=>h) (Or.inl ⟨by rfl, ?_⟩) (by assumption) ?_
        rotate_left
        ·intro W' hSw;obtain ⟨a0,a1,a2,b0,b1,b2,b3,b4,b5,b6,b7,b8⟩ :=Li.cells hSw;go_simp;all_goals (with_reducible rfl)
        try simp only [Act.put,List.setIfInBounds_toArray,List.set_cons_zero,List.set_cons_succ]
        refine wpAnyH_done (by kernel_rfl) ?_ _
        go_wp2_with fail
        go_meet
        case rel=>exact ⟨(w2.heap.size+1),rfl,rfl,Lj (show w2.heap.size≤ (w2.heap.size+1) by omega) hbw3 ((hb3.block _ (by simp [World.drew])).trans (A0 _ _ _)) (IsE.mono (fun k _ h=>by have h2 :w2.heap.size+2≤k :=Nat.le_trans (by simp [World.drew]) h;exact ⟨by omega,by omega⟩) _ _ hE2)⟩
      ·go_simp
       go_wp2_with fail
       refine hK.out _ _ ?_ (fun hHeld=> ?_)
       ·exact KS _ (Aq w2 _).drew
       clear hK K
       try simp only [Act.put,List.setIfInBounds_toArray,List.set_cons_zero,List.set_cons_succ]
       refine wpAnyH_ready (rs := [1]) (by kernel_rfl) (by simp) ?_
       refine (AllReadyH.cons (o := {dst :=some 36,op :=Go.Op.buildSlice 127 1 #[(0,Go.Operand.tmp 35)],type :=127,pos := "bind.go:137",after := #[{on :=0,ground :=Go.Ground.data}],guard :=none}) rfl (fun K hK=> ?_) AllReadyH.nil)
       go_simp
       go_wp2_with fail
       refine hK.out _ _ ?_ (fun hHeld=> ?_)
       ·exact KS _ (Bz w2 _ _).drew
       clear hK K
       try simp only [Act.put,List.setIfInBounds_toArray,List.set_cons_zero,List.set_cons_succ]
       refine wpAnyH_ready (rs := [10]) (by kernel_rfl) (by simp) ?_
       refine (AllReadyH.cons (o := {dst :=some 45,op :=Go.Op.call {callee :=Go.Callee.value (Go.Operand.func 118),args := #[Go.Operand.tmp 36,Go.Operand.tmp 42,Go.Operand.tmp 44],argTypes := #[127,3,34]},type :=71,pos := "bind.go:137",after := #[{on :=1,ground :=Go.Ground.data},{on :=7,ground :=Go.Ground.data},{on :=9,ground :=Go.Ground.data}],guard :=none}) rfl (fun K hK=> ?_) AllReadyH.nil)
       go_simp
       (go_at_call 118;refine (HI2 ((w2.alloc (.cells (Ad 0 zero noW noW 0 (.slice none 0 0)) 34)).alloc (.cells #[.string tn, .slice (some ⟨cb,cof,none⟩) cols.length sc] 47)).drew (w2.heap.size+1) (Bz w2 _ _).drew (A0 _ _ _)).mono ?_;rintro r w3 ⟨op2,x2,s2,name2,n2,ao2,k2,c2,rfl,hE2,hb3⟩;obtain ⟨x2k,x2n,x2s⟩ :=x2;have hone :=A8 op2 ⟨x2k,x2n,x2s⟩ s2 name2 n2 ao2 k2 c2;have hbw3 :Below w2.heap.size w2 w3 :=Ak (Bz w2 _ _).drew hb3)
       go_wp2_with fail
       refine hK.out _ _ ?_ (fun hHeld=> ?_)
       ·exact KS _ hbw3
       clear hK K
       try simp only [Act.put,List.setIfInBounds_toArray,List.set_cons_zero,List.set_cons_succ]
       refine wpAnyH_take (i :=11) (oi := {dst :=some 34,op :=Go.Op.move (Go.Operand.tmp 45),type :=71,pos := "bind.go:137",after := #[{on :=10,ground :=Go.Ground.data}],guard :=none}) (v := ?_) rfl (by kernel_rfl) (by kernel_rfl) (by kernel_rfl) (fun _ _ _ h=>h) (Or.inl ⟨by rfl, ?_⟩) (by assumption) ?_
       rotate_left
       ·intro W' hSw;obtain ⟨a0,a1,a2,b0,b1,b2,b3,b4,b5,b6,b7,b8⟩ :=Li.cells hSw;go_simp;all_goals (with_reducible rfl)
       try simp only [Act.put,List.setIfInBounds_toArray,List.set_cons_zero,List.set_cons_succ]
       refine wpAnyH_take (i :=12) (oi := {dst :=some 46,op :=Go.Op.extract (Go.Operand.tmp 34) 0,type :=34,pos := "bind.go:137",after := #[{on :=11,ground :=Go.Ground.data}],guard :=none}) (v := ?_) rfl (by kernel_rfl) (by kernel_rfl) (by kernel_rfl) (fun _ _ _ h=>h) (Or.inl ⟨by rfl, ?_⟩) (by assumption) ?_
       rotate_left
       ·intro W' hSw;obtain ⟨a0,a1,a2,b0,b1,b2,b3,b4,b5,b6,b7,b8⟩ :=Li.cells hSw;go_simp;all_goals (with_reducible rfl)
       try simp only [Act.put,List.setIfInBounds_toArray,List.set_cons_zero,List.set_cons_succ]
       refine wpAnyH_take (i :=13) (oi := {dst :=some 47,op :=Go.Op.extract (Go.Operand.tmp 34) 1,type :=39,pos := "bind.go:137",after := #[{on :=11,ground :=Go.Ground.data},{on :=15,ground :=Go.Ground.gcOnly Go.Departure.lateStores}],guard :=none}) (v := ?_) rfl (by kernel_rfl) (by kernel_rfl) (by kernel_rfl) (fun _ _ _ h=>h) (Or.inl ⟨by rfl, ?_⟩) (by assumption) ?_
       rotate_left
       ·intro W' hSw;obtain ⟨a0,a1,a2,b0,b1,b2,b3,b4,b5,b6,b7,b8⟩ :=Li.cells hSw;go_simp;all_goals (with_reducible rfl)
       try simp only [Act.put,List.setIfInBounds_toArray,List.set_cons_zero,List.set_cons_succ]
       refine wpAnyH_ready (rs := [15]) (by kernel_rfl) (by simp) ?_
       refine (AllReadyH.cons (o := {dst :=none,op :=Go.Op.store 34 (Go.Operand.tmp 11) (Go.Operand.tmp 46),type :=0,pos := "bind.go:137",after := #[{on :=14,ground :=Go.Ground.data},{on :=12,ground :=Go.Ground.data},{on :=10,ground :=Go.Ground.chain},{on :=0,ground :=Go.Ground.phase},{on :=1,ground :=Go.Ground.phase},{on :=2,ground :=Go.Ground.phase},{on :=3,ground :=Go.Ground.phase},{on :=4,ground :=Go.Ground.phase},{on :=5,ground :=Go.Ground.phase},{on :=6,ground :=Go.Ground.phase},{on :=7,ground :=Go.Ground.phase},{on :=8,ground :=Go.Ground.phase},{on :=9,ground :=Go.Ground.phase},{on :=10,ground :=Go.Ground.phase},{on :=11,ground :=Go.Ground.phase},{on :=12,ground :=Go.Ground.phase},{on :=13,ground :=Go.Ground.textOnly Go.Departure.lateStores},{on :=14,ground :=Go.Ground.phase}],guard :=none}) rfl (fun K hK=> ?_) AllReadyH.nil)
       refine At rfl 34 _ _ rfl w2.heap.size (Ad op2 ⟨x2k,x2n,x2s⟩ s2 name2 n2 (.slice ao2 k2 c2)) ?_ ?_ 34 (Ad 0 zero noW noW 0 (.slice none 0 0)) ?_ ?_ ?_ ?_ ?_;exact rfl;exact rfl;exact ((hb3.block _ (by simp [World.drew];omega)).trans (Ae (Ab _ _) _));exact Ai;exact rfl;exact hone
       refine hK.out _ _ ?_ (fun hHeld=> ?_)
       ·exact KS _ (Below.row hbw3 (show w2.heap.size≤w2.heap.size by omega) _)
       clear hK K
       try simp only [Act.put]
       refine wpAnyH_take (i :=16) (oi := {dst :=some 12,op :=Go.Op.assign (Go.Operand.tmp 47),type :=39,pos := "bind.go:137",after := #[{on :=13,ground :=Go.Ground.data},{on :=15,ground :=Go.Ground.chain},{on :=0,ground :=Go.Ground.phase},{on :=1,ground :=Go.Ground.phase},{on :=2,ground :=Go.Ground.phase},{on :=3,ground :=Go.Ground.phase},{on :=4,ground :=Go.Ground.phase},{on :=5,ground :=Go.Ground.phase},{on :=6,ground :=Go.Ground.phase},{on :=7,ground :=Go.Ground.phase},{on :=8,ground :=Go.Ground.phase},{on :=9,ground :=Go.Ground.phase},{on :=10,ground :=Go.Ground.phase},{on :=11,ground :=Go.Ground.phase},{on :=12,ground :=Go.Ground.phase},{on :=13,ground :=Go.Ground.phase},{on :=14,ground :=Go.Ground.phase},{on :=15,ground :=Go.Ground.phase}],guard :=none}) (v := ?_) rfl (by kernel_rfl) (by kernel_rfl) (by kernel_rfl) (fun _ _ _ h=>h) (Or.inl ⟨by rfl, ?_⟩) (by assumption) ?_
       rotate_left
       ·intro W' hSw;obtain ⟨a0,a1,a2,b0,b1,b2,b3,b4,b5,b6,b7,b8⟩ :=Li.cells hSw;go_simp;all_goals (with_reducible rfl)
       try simp only [Act.put,List.setIfInBounds_toArray,List.set_cons_zero,List.set_cons_succ]
       refine wpAnyH_done (by kernel_rfl) ?_ _
       go_wp2_with fail
       go_meet
       case rel=>exact ⟨w2.heap.size,rfl,rfl,Lj (show w2.heap.size≤w2.heap.size by omega) hbw3 ((hb3.block _ (by simp [World.drew];omega)).trans (Ae (Ab _ _) _)) (IsE.mono (fun k _ h=>by have h2 :w2.heap.size+2≤k :=Nat.le_trans (by simp [World.drew]) h;exact ⟨by omega,by omega⟩) _ _ hE2)⟩
     case rest=>
      obtain ⟨p,rfl,rfl,hp,hb4,op2,⟨x2k,x2n,x2s⟩,s2,name2,n2,ao2,k2,c2,hP,hE2⟩ :=hcut
      have hbx4 :Below w.heap.size w wc :=hbel2.trans (hb4.mono hbel2.size)
      rcases hme2.out with ⟨har,hm⟩ | ⟨har,rfl⟩
      ·have HE :Hid (Bq ⟨tn,cols⟩ [] l= .error m) :=HX m (by rw [HZ.out,har])
       clear HX HY HZ HN HQ HL HT KS HI2 hme2 har
       rcases hm with rfl | rfl
       all_goals
        go_wp2_with fail
        go_ret2
        refine ⟨⟨_,rfl, ?_⟩,hbx4⟩
        rw [HE.out]
        rfl
      ·have HS :Hid (Bq ⟨tn,cols⟩ [] (l.take (j+1)) = .ok (rs++ [(cw,e3)])) :=HY (cw,e3) (by rw [HZ.out,har])
       have HL2 :Hid ((rs++ [(cw,e3)]).length=j+1) :=by show _=_;rw [List.length_append,q2];rfl
       obtain ⟨z0,z1,z2,z3,z4,z5,z6,z7⟩ :=Jd hP
       have sc0 := (Li.cells (KS wc hb4)).2.2.2.1
       obtain ⟨mt,mm1⟩ :=Xy (cw :=cw) (hM2.below hb4) hjl q2 hE2
       have hone :=T8 cw op2 x2k x2n x2s s2 name2 n2 ao2 k2 c2
       have hC4 :Cnt (wc.setCells (w.heap.size+1+1) (j*9) (Hz cw op2 x2k x2n x2s s2 name2 n2 (.slice ao2 k2 c2)).toList) (w.heap.size+1) ((l.take (j+1)).map Prod.fst) :=by
        rw [HN.out]
        exact (hC2.below hb4).kept (Ow _ _ _ _) (by simp)
       have hT4 : (wc.setCells (w.heap.size+1+1) (j*9) (Hz cw op2 x2k x2n x2s s2 name2 n2 (.slice ao2 k2 c2)).toList).heap[w.heap.size]? =some (.cells #[.string tn, .slice (some ⟨cb,cof,none⟩) cols.length sc] 47) := (Be (by omega) _ _ _).trans (KS wc hb4).1
       clear HX HY HZ HN HQ HL HT KS HI2 hme2 har hP
       go_wp2_with (refine wpList_store_mid rfl 56 _ _ rfl (w.heap.size+1+1) (j*9) (Hz cw op2 x2k x2n x2s s2 name2 n2 (.slice ao2 k2 c2)) ?_ ?_ ?_ ?_ ?_ ?_;exact rfl;exact rfl;exact mt;exact Xx;exact hone)
       go_roundw
       case rel=>exact ⟨j+1,rs++ [(cw,e3)],by omega,by go_num,HS,HL2,hT4,hC4,mm1,Ct (show w.heap.size≤w.heap.size+1+1 by omega) _ _ _ hbx4,by have :=hb4.size;simp [Bp];omega⟩
       case measure=>simp [intOf];omega
    ·rw [hmb] at HA HZ
     have HE :Hid (Bq ⟨tn,cols⟩ [] l= .error 4) :=HX 4 HZ.out
     clear HX HY HZ HN HQ HL HT hcell hRE ha hg hs he hl hmb hk1 hk2 hccell
     go_wp2_with (first | (go_at_call 15;go_fit HF;rintro e w1 ⟨rfl,hb1⟩;have hbT :=Ak hbx hb1;have hC1 :=hCn.below hbT;have hSt := (hb1.block _ (show wr.heap.size<_ by simp)).trans (Ab wr _);have s0 :=Aa hSt (j :=0) rfl) | (go_at_call 77;go_fit (HA _ hC1);rintro e w2 ⟨rfl,hC2,hg2⟩))
     go_ret2
     refine ⟨⟨_,rfl, ?_⟩,Below.grow (hbel.trans (hbT.mono hbel.size)) hg2 (Nat.le_trans hbel.size hbT.size) (by omega)⟩
     rw [HE.out]
     rfl
  ·have hjl2 :j=l.length :=by omega
   subst hjl2
   have HE :Hid (Bq ⟨tn,cols⟩ [] l= .ok rs) :=by
    show _=_
    have :=HQ.out
    rw [List.take_length] at this
    exact this
   have hw1 :IsL C5 (Fr w.heap.size) wr (.slice (some ⟨w.heap.size+1+1,0,none⟩) l.length l.length) rs :=hM1.whole q2 (fun k hk=>Nat.le_trans (by omega) hk) (show w.heap.size≤w.heap.size+1+1 by omega) (Nat.le_trans hn (by decide))
   clear q2 HL HQ
   go_wp2_with fail
   go_ret2
   refine ⟨⟨_,rfl, ?_⟩,hbel⟩
   rw [HE.out]
   exact ⟨_,_,_,rfl,hw1⟩
end Go.Proofs.YtmgkcjiejmhgcaaGreatDoor


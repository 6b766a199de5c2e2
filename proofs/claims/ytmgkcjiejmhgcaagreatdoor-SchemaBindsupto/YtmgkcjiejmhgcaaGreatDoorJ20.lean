/-
  2 texts of this proof in one, in build order: WWith2, WWith3.
-/
import Derived.Test.YtmgkcjiejmhgcaaGreatDoorJ08
import Derived.Test.YtmgkcjiejmhgcaaGreatDoorJ10
import Derived.Test.YtmgkcjiejmhgcaaGreatDoorJ19
set_option linter.unusedSimpArgs false
set_option linter.unusedVariables false
namespace Go.Proofs.YtmgkcjiejmhgcaaGreatDoor
open Go.RowKit Go.Maps
def Fh {α :Type} (nm :α→Wd) (l :List α) (x :α) :List α :=l.filter (fun y=>klt (nm y) (nm x)) ++x ::l.filter (fun y=> !klt (nm y) (nm x))
def Jg (ct :CatD) (st :Stm) :CatD :=
 if st.kind=1 then ⟨Fh TabD.name ct.tables ⟨st.name,st.cols⟩,ct.indexes⟩
 else if st.kind=2 then ⟨ct.tables,Fh IdxD.name ct.indexes ⟨st.name,st.table,st.col⟩⟩
 else if st.kind=3 then ⟨ct.tables.filter (fun t=> !decide (t.name=st.name)),ct.indexes.filter (fun x=> !decide (x.table=st.name))⟩
 else ct
theorem All.split {α :Type} {K :Elem α} {F :Nat→Prop} {w :World} : ∀ {l m :List α} {cs :List Value},All K F w (l++m) cs→ ∃c1 c2,cs=c1++c2∧All K F w l c1∧All K F w m c2
 | [],m,cs,h=> ⟨[],cs,rfl,rfl,h⟩
 | a ::l,m,cs,h=>by
  obtain ⟨c,rest,rfl,h2,h3⟩ :=h
  obtain ⟨c1,c2,rfl,h4,h5⟩ :=All.split h3
  exact ⟨c++c1,c2,by simp,⟨c,c1,rfl,h2,h4⟩,h5⟩
theorem I9 {α :Type} (nm :α→Wd) (s :Wd) : ∀ (l :List α),Dj (l.map nm) →l=l.filter (fun y=>klt (nm y) s) ++l.filter (fun y=> !klt (nm y) s)
 | [],_=>rfl
 | a ::l,h=>by
  have hr :Dj (l.map nm) := (List.pairwise_cons.1 h).2
  have ha := (List.pairwise_cons.1 h).1
  cases hk :klt (nm a) s with
  | true=>
   rw [List.filter_cons,List.filter_cons,hk]
   simp only [if_true,Bool.not_true,List.cons_append]
   have :=I9 nm s l hr
   simp only [Bool.false_eq_true,if_false]
   exact congrArg (a :: ·) this
  | false=>
   have hn : ∀y∈l,klt (nm y) s=false :=fun y hy=>by
    cases hy2 :klt (nm y) s with
    | false=>rfl
    | true=>
     have :=H7 (ha (nm y) (List.mem_map_of_mem hy)) hy2
     rw [hk] at this;cases this
   rw [List.filter_cons,List.filter_cons,hk]
   simp only [Bool.false_eq_true,if_false,Bool.not_false,if_true]
   rw [List.filter_eq_nil_iff.2 (fun y hy=>by rw [hn y hy];decide),List.filter_eq_self.2 (fun y hy=>by rw [hn y hy];rfl)]
   rfl
def nmC :List Value→Wd
 | .string s ::_=>s
 | _=>noW
theorem V8 (c :List Value) (s :Wd) (r :List Value) (h :c= .string s ::r) :nmC c=s :=by subst h;rfl
theorem Lo {F :Nat→Prop} {w :World} {x :TabD} {c :List Value} (h :A4.R F w x c) :Gg c∧nmC c=x.name :=by
 obtain ⟨sv,rfl,hsv⟩ :=h
 obtain ⟨ao,cp,rfl⟩ :=hsv.shape
 exact ⟨⟨_,_,_,_,rfl⟩,rfl⟩
theorem Lp {F :Nat→Prop} {w :World} {x :IdxD} {c :List Value} (h :B7.R F w x c) :Gh c∧nmC c=x.name :=by
 obtain rfl :=h
 exact ⟨⟨_,_,_,rfl⟩,rfl⟩
theorem Rg {F :Nat→Prop} {w :World} {l :List TabD} {cs :List Value} (h :All A4 F w l cs) : ∃CS :List (List Value),cs=CS.flatten∧CS.length=l.length∧ (∀c∈CS,Gg c) ∧ (∀ (i :Nat) (x :TabD) (c :List Value),l[i]? =some x→CS[i]? =some c→A4.R F w x c∧nmC c=x.name) :=by
 obtain ⟨CS,h1,h2,h3⟩ :=Jv h
 have hs : ∀ (i :Nat) (x :TabD) (c :List Value),l[i]? =some x→CS[i]? =some c→Gg c∧nmC c=x.name :=fun i x c hx hc=>Lo (h3 i x c hx hc)
 refine ⟨CS,h1,h2,fun c hc=> ?_,fun i x c hx hc=> ⟨h3 i x c hx hc,(hs i x c hx hc).2⟩⟩
 obtain ⟨i,hi,rfl⟩ :=List.getElem_of_mem hc
 exact (hs i _ _ (List.getElem?_eq_getElem (by omega)) (List.getElem?_eq_getElem hi)).1
theorem X4 {F :Nat→Prop} {w :World} {sv :Value} {CS :List (List Value)} (hr :Cu F 2 w sv CS.length CS.flatten) (hs : ∀c∈CS,Gg c) :IsL Fv (fun _=>True) w sv CS :=
 ⟨CS.flatten,hr.mono fun _ _ _=>trivial,He rfl fun i x c h1 h2=>by rw [h1] at h2;cases h2;exact ⟨rfl,hs _ (List.mem_of_getElem? h1)⟩⟩
theorem Rh {F :Nat→Prop} {w :World} {l :List IdxD} {cs :List Value} (h :All B7 F w l cs) : ∃CS :List (List Value),cs=CS.flatten∧CS.length=l.length∧ (∀c∈CS,Gh c) ∧ (∀ (i :Nat) (x :IdxD) (c :List Value),l[i]? =some x→CS[i]? =some c→B7.R F w x c∧nmC c=x.name) :=by
 obtain ⟨CS,h1,h2,h3⟩ :=Jv h
 have hs : ∀ (i :Nat) (x :IdxD) (c :List Value),l[i]? =some x→CS[i]? =some c→Gh c∧nmC c=x.name :=fun i x c hx hc=>Lp (h3 i x c hx hc)
 refine ⟨CS,h1,h2,fun c hc=> ?_,fun i x c hx hc=> ⟨h3 i x c hx hc,(hs i x c hx hc).2⟩⟩
 obtain ⟨i,hi,rfl⟩ :=List.getElem_of_mem hc
 exact (hs i _ _ (List.getElem?_eq_getElem (by omega)) (List.getElem?_eq_getElem hi)).1
theorem X5 {F :Nat→Prop} {w :World} {sv :Value} {CS :List (List Value)} (hr :Cu F 3 w sv CS.length CS.flatten) (hs : ∀c∈CS,Gh c) :IsL Fw (fun _=>True) w sv CS :=
 ⟨CS.flatten,hr.mono fun _ _ _=>trivial,He rfl fun i x c h1 h2=>by rw [h1] at h2;cases h2;exact ⟨rfl,hs _ (List.mem_of_getElem? h1)⟩⟩
end Go.Proofs.YtmgkcjiejmhgcaaGreatDoor

namespace Go.Proofs.YtmgkcjiejmhgcaaGreatDoor
open Go.RowKit Go.Maps
theorem Jn {α β :Type} (p :Nat→Bool) (q :α→Bool) : ∀ (l :List α) (CS :List β) (i :Nat),CS.length=l.length→ (∀ (j :Nat) (x :α),l[j]? =some x→p (i+j) =q x) →
  (Cc p i CS).length= (l.filter (fun x=> !q x)).length∧ ∀ (R :α→β→Prop),(∀ (j :Nat) (x :α) (c :β),l[j]? =some x→CS[j]? =some c→R x c) → ∀ (j :Nat) (x :α) (c :β),(l.filter (fun x=> !q x))[j]? =some x→ (Cc p i CS)[j]? =some c→R x c
 | [],[],i,_,_=> ⟨rfl,fun R _ j x c hx=>by simp at hx⟩
 | [],_ ::_,i,h,_=>by simp at h
 | _ ::_,[],i,h,_=>by simp at h
 | a ::l,d ::CS,i,h,hp=>by
  have hpa :p i=q a :=by simpa using hp 0 a rfl
  have ih :=Jn p q l CS (i+1) (by simpa using h) fun j x hx=>by
   rw [show i+1+j=i+ (j+1) by omega];exact hp (j+1) x (by simpa using hx)
  rw [Cc,List.filter_cons,hpa]
  cases q a with
  | true=>
   simp only [if_true,Bool.not_true,Bool.false_eq_true,if_false]
   exact ⟨ih.1,fun R hR=>ih.2 R fun j x c hx hc=>hR (j+1) x c (by simpa using hx) (by simpa using hc)⟩
  | false=>
   simp only [Bool.false_eq_true,if_false,Bool.not_false,if_true,List.length_cons]
   refine ⟨by rw [ih.1],fun R hR j x c hx hc=> ?_⟩
   cases j with
   | zero=>simp at hx hc;subst hx;subst hc;exact hR 0 _ _ rfl rfl
   | succ j=>exact ih.2 R (fun j x c hx hc=>hR (j+1) x c (by simpa using hx) (by simpa using hc)) j x c (by simpa using hx) (by simpa using hc)
theorem Ue {F :Nat→Prop} {w :World} {sv :Value} {l :List TabD} (h :IsL A4 F w sv l) : ∃CS :List (List Value),CS.length=l.length∧Cu F 2 w sv CS.length CS.flatten∧ (∀c∈CS,Gg c) ∧ (∀ (i :Nat) (x :TabD) (c :List Value),l[i]? =some x→CS[i]? =some c→A4.R F w x c∧nmC c=x.name) :=by
 obtain ⟨cs,hr,ha⟩ :=h
 obtain ⟨CS,rfl,h2,h3,h4⟩ :=Rg ha
 exact ⟨CS,h2,by rw [h2];exact hr,h3,h4⟩
theorem Uf (l :List TabD) (x :TabD) (sv :Value) (cx :List Value) (C :Nat) (w :World) (h :IsL A4 (fun k=>k<C) w sv l) (hx :A4.R (fun k=>k<C) w x cx) (_ :C≤w.heap.size) (hr :Dj (l.map TabD.name)) (hl :l.length≤1000000) :
  Calls Tryz.prog 40 #[sv, .agg cx.toArray, .func (.func 41) #[] #[]] w fun e w'=> ∃v,e= .returned v∧IsL A4 (Fx C w.heap.size) w' v (Fh TabD.name l x) ∧Below w.heap.size w w' :=by
 have hsp :=I9 TabD.name x.name l hr
 generalize hl1 :l.filter (fun y=>klt y.name x.name) =l1 at hsp
 generalize hl2 :l.filter (fun y=> !klt y.name x.name) =l2 at hsp
 have hins :Fh TabD.name l x=l1++x ::l2 :=by rw [Fh,hl1,hl2]
 rw [hins]
 have k1 : ∀y∈l1,klt y.name x.name=true :=fun y hy=>by rw [←hl1] at hy;exact (List.mem_filter.1 hy).2
 have k2 : ∀y∈l2,klt y.name x.name=false :=fun y hy=>by rw [←hl2] at hy;simpa using (List.mem_filter.1 hy).2
 clear hl1 hl2 hins
 obtain ⟨cs,hrow,ha⟩ :=h
 rw [hsp] at ha
 obtain ⟨c1,c2,rfl,a1,a2⟩ :=All.split ha
 obtain ⟨CS1,rfl,e1,s1,r1⟩ :=Rg a1
 obtain ⟨CS2,rfl,e2,s2,r2⟩ :=Rg a2
 have hlen :l.length= (CS1++CS2).length :=by rw [hsp,List.length_append,List.length_append,e1,e2]
 have hs : ∀c∈CS1++CS2,Gg c :=fun c hc=> (List.mem_append.1 hc).elim (s1 c) (s2 c)
 have hraw :IsL Fv (fun _=>True) w sv (CS1++CS2) :=X4 (by rw [←hlen,List.flatten_append];exact hrow) hs
 obtain ⟨hxs,hxn⟩ :=Lo hx
 have hR :=hx
 obtain ⟨cv,rfl,hcv⟩ :=hx
 obtain ⟨co,cc,rfl⟩ :=hcv.shape
 refine (Uc CS1 CS2 nmC sv x.name co x.cols.length cc w hraw hs (fun c _ s r=>V8 c s r) ?_ ?_ (by rw [←hlen];exact hl)).mono ?_
 ·intro c hc
  obtain ⟨i,hi,rfl⟩ :=List.getElem_of_mem hc
  rw [(r1 i _ _ (List.getElem?_eq_getElem (by omega)) (List.getElem?_eq_getElem hi)).2]
  have :=k1 _ (List.getElem_mem (n :=i) (by omega))
  exact this
 ·intro c hc
  obtain ⟨i,hi,rfl⟩ :=List.getElem_of_mem hc
  rw [(r2 i _ _ (List.getElem?_eq_getElem (by omega)) (List.getElem?_eq_getElem hi)).2]
  have :=k2 _ (List.getElem_mem (n :=i) (by omega))
  exact this
 ·rintro e w' ⟨v,rfl,own,hb⟩
  have hA :=All.append ((a1.keep (Ar hb)).mono (F' :=Fx C w.heap.size) fun k _ hk=> .inl hk) (All.append (All.one (A4.mono (F' :=Fx C w.heap.size) (fun k _ hk=> .inl hk) (A4.keep (Ar hb) hR))) ((a2.keep (Ar hb)).mono (F' :=Fx C w.heap.size) fun k _ hk=> .inl hk))
  have hB :=Cu.of_own own (F :=Fx C w.heap.size) fun k hk=> .inr hk
  have hn : (l1++x ::l2).length=CS1.length+CS2.length+1 :=by simp only [List.length_append,List.length_cons];omega
  exact ⟨v,rfl,⟨_,(by rw [hn];exact hB),hA⟩,hb⟩
theorem Ug {F :Nat→Prop} {w :World} {sv :Value} {l :List IdxD} (h :IsL B7 F w sv l) : ∃CS :List (List Value),CS.length=l.length∧Cu F 3 w sv CS.length CS.flatten∧ (∀c∈CS,Gh c) ∧ (∀ (i :Nat) (x :IdxD) (c :List Value),l[i]? =some x→CS[i]? =some c→B7.R F w x c∧nmC c=x.name) :=by
 obtain ⟨cs,hr,ha⟩ :=h
 obtain ⟨CS,rfl,h2,h3,h4⟩ :=Rh ha
 exact ⟨CS,h2,by rw [h2];exact hr,h3,h4⟩
theorem Uh (l :List IdxD) (x :IdxD) (sv :Value) (cx :List Value) (C :Nat) (w :World) (h :IsL B7 (fun k=>k<C) w sv l) (hx :B7.R (fun k=>k<C) w x cx) (_ :C≤w.heap.size) (hr :Dj (l.map IdxD.name)) (hl :l.length≤1000000) :
  Calls Tryz.prog 42 #[sv, .agg cx.toArray, .func (.func 43) #[] #[]] w fun e w'=> ∃v,e= .returned v∧IsL B7 (Fx C w.heap.size) w' v (Fh IdxD.name l x) ∧Below w.heap.size w w' :=by
 have hsp :=I9 IdxD.name x.name l hr
 generalize hl1 :l.filter (fun y=>klt y.name x.name) =l1 at hsp
 generalize hl2 :l.filter (fun y=> !klt y.name x.name) =l2 at hsp
 have hins :Fh IdxD.name l x=l1++x ::l2 :=by rw [Fh,hl1,hl2]
 rw [hins]
 have k1 : ∀y∈l1,klt y.name x.name=true :=fun y hy=>by rw [←hl1] at hy;exact (List.mem_filter.1 hy).2
 have k2 : ∀y∈l2,klt y.name x.name=false :=fun y hy=>by rw [←hl2] at hy;simpa using (List.mem_filter.1 hy).2
 clear hl1 hl2 hins
 obtain ⟨cs,hrow,ha⟩ :=h
 rw [hsp] at ha
 obtain ⟨c1,c2,rfl,a1,a2⟩ :=All.split ha
 obtain ⟨CS1,rfl,e1,s1,r1⟩ :=Rh a1
 obtain ⟨CS2,rfl,e2,s2,r2⟩ :=Rh a2
 have hlen :l.length= (CS1++CS2).length :=by rw [hsp,List.length_append,List.length_append,e1,e2]
 have hs : ∀c∈CS1++CS2,Gh c :=fun c hc=> (List.mem_append.1 hc).elim (s1 c) (s2 c)
 have hraw :IsL Fw (fun _=>True) w sv (CS1++CS2) :=X5 (by rw [←hlen,List.flatten_append];exact hrow) hs
 obtain ⟨hxs,hxn⟩ :=Lp hx
 have hR :=hx
 obtain rfl :=hx
 refine (Ud CS1 CS2 nmC sv x.name x.table x.col w hraw hs (fun c _ s r=>V8 c s r) ?_ ?_ (by rw [←hlen];exact hl)).mono ?_
 ·intro c hc
  obtain ⟨i,hi,rfl⟩ :=List.getElem_of_mem hc
  rw [(r1 i _ _ (List.getElem?_eq_getElem (by omega)) (List.getElem?_eq_getElem hi)).2]
  have :=k1 _ (List.getElem_mem (n :=i) (by omega))
  exact this
 ·intro c hc
  obtain ⟨i,hi,rfl⟩ :=List.getElem_of_mem hc
  rw [(r2 i _ _ (List.getElem?_eq_getElem (by omega)) (List.getElem?_eq_getElem hi)).2]
  have :=k2 _ (List.getElem_mem (n :=i) (by omega))
  exact this
 ·rintro e w' ⟨v,rfl,own,hb⟩
  have hA :=All.append ((a1.keep (Ar hb)).mono (F' :=Fx C w.heap.size) fun k _ hk=> .inl hk) (All.append (All.one (B7.mono (F' :=Fx C w.heap.size) (fun k _ hk=> .inl hk) (B7.keep (Ar hb) hR))) ((a2.keep (Ar hb)).mono (F' :=Fx C w.heap.size) fun k _ hk=> .inl hk))
  have hB :=Cu.of_own own (F :=Fx C w.heap.size) fun k hk=> .inr hk
  have hn : (l1++x ::l2).length=CS1.length+CS2.length+1 :=by simp only [List.length_append,List.length_cons];omega
  exact ⟨v,rfl,⟨_,(by rw [hn];exact hB),hA⟩,hb⟩
def tbC :List Value→Wd
 | _ :: .string s ::_=>s
 | _=>noW
set_option maxHeartbeats 1000000 in
theorem Zp (nmv :Wd) (ao :Option Addr) (n c :Nat) (pb :Nat) (s :Wd) (w :World) (hp :w.cell? ⟨pb,1,none⟩ =some (.string s)) (hpb :pb<w.heap.size) :
  Calls Tryz.prog 45 #[.agg #[.string nmv, .slice ao n c], .pointer (some ⟨pb,0,none⟩)] w fun e w'=>e= .returned (.bool (decide (nmv=s))) ∧Below w.heap.size w w' :=by
 have E :Hid (decide (nmv=s) = (nmv.toList==s.toList)) := (Bu _ _).symm
 generalize decide (nmv=s) =r at E
 have hp1 := ((Aq w (.cells #[.string nmv, .slice ao n c] 47)).cell (p := ⟨pb,1,none⟩) hpb).trans hp
 go_enter Tryz.func45,Tryz.ntmps45
 go_wp2
 go_ret
 exact ⟨Aj (by rw [E.out]),Aq _ _⟩
set_option maxRecDepth 100000 in
set_option maxHeartbeats 4000000 in
theorem Ui (l :List TabD) (s :Wd) (sv :Value) (pb C :Nat) (w :World) (h :IsL A4 (fun k=>k<C) w sv l) (_ :C≤w.heap.size) (hp :w.cell? ⟨pb,1,none⟩ =some (.string s)) (hpb :pb<w.heap.size) (hl :l.length≤1000000) :
  Calls Tryz.prog 44 #[sv, .func (.func 45) #[] #[.pointer (some ⟨pb,0,none⟩)]] w fun e w'=> ∃v,e= .returned v∧IsL A4 (Fx C w.heap.size) w' v (l.filter (fun x=> !decide (x.name=s))) ∧Below w.heap.size w w' :=by
 obtain ⟨CS,e1,hrow,hs,hR⟩ :=Ue h
 have hone : ∀u∈CS.flatten,u.oneCell'=true :=fun u hu=>by
  obtain ⟨c,hc,hu⟩ :=List.mem_flatten.1 hu
  exact Pc (hs c hc) u hu
 have HC :=Ll CS.flatten CS.length sv _ w hrow hone (by rw [e1];omega)
 have hkf :=Jn (fun i=>decide (nmC (CS.getD i []) =s)) (fun x :TabD=>decide (x.name=s)) l CS 0 e1 (fun j x hx=>by
  have hj := (List.getElem?_eq_some_iff.1 hx).1
  have hc :CS[j]? =some (CS[j]'(by omega)) :=List.getElem?_eq_getElem (by omega)
  have hr := (hR j x _ hx hc).1
  simp only [Nat.zero_add,List.getD_eq_getElem?_getD,hc,Option.getD_some]
  have :nmC CS[j] =x.name :=by
   obtain ⟨sv,h1,_⟩ :=hr
   rw [h1];rfl
  rw [this])
 have HD :=fun (v :Value) (V :World) (hV :Below w.heap.size w V) (own :V.ownsRow w.heap.size 47 2 v CS.length CS.flatten) =>Oz CS v (.pointer (some ⟨pb,0,none⟩)) (fun i=>decide (nmC (CS.getD i []) =s)) w.heap.size V own hs hV.size (fun i cs W hi hW=>by
  have hlt :pb<V.heap.size :=Nat.lt_of_lt_of_le hpb hV.size
  have hpV := (hV.cell (p := ⟨pb,1,none⟩) hpb).trans hp
  have hpW :W.cell? ⟨pb,1,none⟩ =some (.string s) := (World.cell?_of_block (hW.block pb hlt (fun e=>by have := (own.lt pb e.symm).1;omega))).trans hpV
  obtain ⟨s0,a1,n1,c1,rfl⟩ :=hs cs (List.mem_of_getElem? hi)
  refine (Zp s0 a1 n1 c1 pb s W hpW (Nat.lt_of_lt_of_le hlt hW.size)).mono ?_
  rintro e W' ⟨rfl,hb⟩
  refine ⟨?_,hb⟩
  simp only [List.getD_eq_getElem?_getD,hi,Option.getD_some]
  rfl)
 have hall : ∀V,Below w.heap.size w V→All A4 (Fx C w.heap.size) V (l.filter (fun x=> !decide (x.name=s))) (Cc (fun i=>decide (nmC (CS.getD i []) =s)) 0 CS).flatten :=fun V hV=>
  He hkf.1 (hkf.2 _ fun j x c hx hc=>A4.mono (fun k _ hk=> .inl hk) (A4.keep (Ar hV) (hR j x c hx hc).1))
 have HA :Hid _ :=hall
 have HL :Hid _ :=hkf.1
 generalize Cc (fun i=>decide (nmC (CS.getD i []) =s)) 0 CS=KP at HD HA HL
 clear hall hkf h hrow hR
 go_enter Tryz.func44,Tryz.ntmps44
 go_wp2_with (first
  | (go_at_call 82;go_must (go_fit HC;rintro e V ⟨v,rfl,own,hbV⟩;have HD1 :=HD v V hbV own))
  | (go_at_call 87;go_must (go_fit HD1;rintro e V2 ⟨v2,rfl,own2,hg2,hb2⟩)))
 go_ret
 have hbb :Below w.heap.size w V2 :=hbV.trans hb2
 refine ⟨v2,rfl,⟨_, ?_,HA.out V2 hbb⟩,hbb⟩
 rw [←HL.out]
 exact Cu.of_own own2 fun k hk=> .inr hk
set_option maxHeartbeats 1000000 in
theorem Zq (nmv tb cl :Wd) (pb :Nat) (s :Wd) (w :World) (hp :w.cell? ⟨pb,1,none⟩ =some (.string s)) (hpb :pb<w.heap.size) :
  Calls Tryz.prog 47 #[.agg #[.string nmv, .string tb, .string cl], .pointer (some ⟨pb,0,none⟩)] w fun e w'=>e= .returned (.bool (decide (tb=s))) ∧Below w.heap.size w w' :=by
 have E :Hid (decide (tb=s) = (tb.toList==s.toList)) := (Bu _ _).symm
 generalize decide (tb=s) =r at E
 have hp1 := ((Aq w (.cells #[.string nmv, .string tb, .string cl] 64)).cell (p := ⟨pb,1,none⟩) hpb).trans hp
 go_enter Tryz.func47,Tryz.ntmps47
 go_wp2
 go_ret
 exact ⟨Aj (by rw [E.out]),Aq _ _⟩
set_option maxRecDepth 100000 in
set_option maxHeartbeats 4000000 in
theorem Uj (l :List IdxD) (s :Wd) (sv :Value) (pb C :Nat) (w :World) (h :IsL B7 (fun k=>k<C) w sv l) (_ :C≤w.heap.size) (hp :w.cell? ⟨pb,1,none⟩ =some (.string s)) (hpb :pb<w.heap.size) (hl :l.length≤1000000) :
  Calls Tryz.prog 46 #[sv, .func (.func 47) #[] #[.pointer (some ⟨pb,0,none⟩)]] w fun e w'=> ∃v,e= .returned v∧IsL B7 (Fx C w.heap.size) w' v (l.filter (fun x=> !decide (x.table=s))) ∧Below w.heap.size w w' :=by
 obtain ⟨CS,e1,hrow,hs,hR⟩ :=Ug h
 have hone : ∀u∈CS.flatten,u.oneCell'=true :=fun u hu=>by
  obtain ⟨c,hc,hu⟩ :=List.mem_flatten.1 hu
  exact Pe (hs c hc) u hu
 have HC :=Lm CS.flatten CS.length sv _ w hrow hone (by rw [e1];omega)
 have hkf :=Jn (fun i=>decide (tbC (CS.getD i []) =s)) (fun x :IdxD=>decide (x.table=s)) l CS 0 e1 (fun j x hx=>by
  have hj := (List.getElem?_eq_some_iff.1 hx).1
  have hc :CS[j]? =some (CS[j]'(by omega)) :=List.getElem?_eq_getElem (by omega)
  have hr := (hR j x _ hx hc).1
  simp only [Nat.zero_add,List.getD_eq_getElem?_getD,hc,Option.getD_some]
  have :tbC CS[j] =x.table :=by
   have h1 :_=_ :=hr
   rw [h1];rfl
  rw [this])
 have HD :=fun (v :Value) (V :World) (hV :Below w.heap.size w V) (own :V.ownsRow w.heap.size 64 3 v CS.length CS.flatten) =>O0 CS v (.pointer (some ⟨pb,0,none⟩)) (fun i=>decide (tbC (CS.getD i []) =s)) w.heap.size V own hs hV.size (fun i cs W hi hW=>by
  have hlt :pb<V.heap.size :=Nat.lt_of_lt_of_le hpb hV.size
  have hpV := (hV.cell (p := ⟨pb,1,none⟩) hpb).trans hp
  have hpW :W.cell? ⟨pb,1,none⟩ =some (.string s) := (World.cell?_of_block (hW.block pb hlt (fun e=>by have := (own.lt pb e.symm).1;omega))).trans hpV
  obtain ⟨s0,s1,s2,rfl⟩ :=hs cs (List.mem_of_getElem? hi)
  refine (Zq s0 s1 s2 pb s W hpW (Nat.lt_of_lt_of_le hlt hW.size)).mono ?_
  rintro e W' ⟨rfl,hb⟩
  refine ⟨?_,hb⟩
  simp only [List.getD_eq_getElem?_getD,hi,Option.getD_some]
  rfl)
 have hall : ∀V,Below w.heap.size w V→All B7 (Fx C w.heap.size) V (l.filter (fun x=> !decide (x.table=s))) (Cc (fun i=>decide (tbC (CS.getD i []) =s)) 0 CS).flatten :=fun V hV=>
  He hkf.1 (hkf.2 _ fun j x c hx hc=>B7.mono (fun k _ hk=> .inl hk) (B7.keep (Ar hV) (hR j x c hx hc).1))
 have HA :Hid _ :=hall
 have HL :Hid _ :=hkf.1
 generalize Cc (fun i=>decide (tbC (CS.getD i []) =s)) 0 CS=KP at HD HA HL
 clear hall hkf h hrow hR
 go_enter Tryz.func46,Tryz.ntmps46
 go_wp2_with (first
  | (go_at_call 86;go_must (go_fit HC;rintro e V ⟨v,rfl,own,hbV⟩;have HD1 :=HD v V hbV own))
  | (go_at_call 88;go_must (go_fit HD1;rintro e V2 ⟨v2,rfl,own2,hg2,hb2⟩)))
 go_ret
 have hbb :Below w.heap.size w V2 :=hbV.trans hb2
 refine ⟨v2,rfl,⟨_, ?_,HA.out V2 hbb⟩,hbb⟩
 rw [←HL.out]
 exact Cu.of_own own2 fun k hk=> .inr hk
end Go.Proofs.YtmgkcjiejmhgcaaGreatDoor


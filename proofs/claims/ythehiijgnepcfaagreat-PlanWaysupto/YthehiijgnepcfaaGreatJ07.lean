/-
  8 texts of this proof in one, in build order: YFind, Vals, FMath, PMath, First, Values, Args, PMem.
-/
import Derived.Test.YthehiijgnepcfaaGreatRows
import Derived.Laws.AppendOwn
import Derived.WalkKit
import Derived.WalkSpells
import Derived.WalkLawsBesides
import Derived.Lib.Bytealg
import Derived.Lib.IndexLaws
import Derived.Lib.EndianBits
import Derived.Deep.QuietTactic
import Derived.BigQuiet
import Derived.Test.YthehiijgnepcfaaGreatJ01
import Derived.Test.YthehiijgnepcfaaGreatJ02
import Derived.Test.YthehiijgnepcfaaGreatJ04
import Derived.Test.YthehiijgnepcfaaGreatJ05
import Derived.Test.YthehiijgnepcfaaGreatJ06
set_option linter.unusedSimpArgs false
set_option linter.unusedVariables false
namespace Go.Proofs.YthehiijgnepcfaaGreat
open Go.RowKit Go.Maps
theorem G5 (a b :Wd) : (a.toList==b.toList) =decide (a=b) :=by
 rw [Bool.eq_iff_iff,beq_iff_eq,decide_eq_true_eq,ByteArray.toList_eq,ByteArray.toList_eq]
 constructor
 ·intro h;exact ByteArray.ext (Array.toList_inj.1 h)
 ·rintro rfl;rfl
def Cy (l :List ColD) (s :Wd) :Int :=Ah (atI l fun x=>decide (x.name=s)) 0 l.length
def Cr (T :List TabD) (s :Wd) :Option TabD :=T.find? fun x=>decide (x.name=s)
set_option maxHeartbeats 1000000 in
theorem V8 (x :ColD) (pb :Nat) (s :Wd) (w :World) (hp :w.cell? ⟨pb,0,none⟩ =some (.string s)) (hpb :pb<w.heap.size) :
  Calls Tryz.prog 121 #[.agg #[.string x.name, .int .i64 x.ty, .bool x.must], .pointer (some ⟨pb,0,none⟩)] w fun e w'=>e= .returned (.bool (decide (x.name=s))) ∧Below w.heap.size w w' :=by
 obtain ⟨name,ty,must⟩ :=x
 simp only
 have E :Hid (decide (name=s) = (name.toList==s.toList)) := (G5 _ _).symm
 generalize decide (name=s) =r at E
 have hp1 := ((Ao w (.cells #[.string name, .int .i64 ty, .bool must] 63)).cell (p := ⟨pb,0,none⟩) hpb).trans hp
 go_enter Tryz.func121,Tryz.ntmps121
 go_wp2
 go_ret
 exact ⟨Ag (by rw [E.out]),Ao _ _⟩
set_option maxHeartbeats 1000000 in
theorem Sr (x :TabD) (sv :Value) (hsv :E1 sv) (pb :Nat) (s :Wd) (w :World) (hp :w.cell? ⟨pb,0,none⟩ =some (.string s)) (hpb :pb<w.heap.size) :
  Calls Tryz.prog 19 #[.agg #[.string x.name,sv], .pointer (some ⟨pb,0,none⟩)] w fun e w'=>e= .returned (.bool (decide (x.name=s))) ∧Below w.heap.size w w' :=by
 obtain ⟨name,cols⟩ :=x
 obtain ⟨ao,n,c,rfl⟩ :=hsv
 simp only
 have E :Hid (decide (name=s) = (name.toList==s.toList)) := (G5 _ _).symm
 generalize decide (name=s) =r at E
 have hp1 := ((Ao w (.cells #[.string name, .slice ao n c] 43)).cell (p := ⟨pb,0,none⟩) hpb).trans hp
 go_enter Tryz.func19,Tryz.ntmps19
 go_wp2
 go_ret
 exact ⟨Ag (by rw [E.out]),Ao _ _⟩
set_option maxHeartbeats 2000000 in
theorem Jj (l :List ColD) (nmv :Wd) (sv :Value) (s :Wd) (C :Nat) (w :World) (hl :IsL Cc (fun k=>k<C) w sv l) (hC :C≤w.heap.size) :
  Calls Tryz.prog 71 #[.agg #[.string nmv,sv], .string s] w fun e w'=>e= .returned (.int .i64 (Cy l s)) ∧Below w.heap.size w w' :=by
 obtain ⟨ao,c,rfl⟩ :=hl.shape
 have hb2 :=Bb w (.cells #[.string nmv, .slice ao l.length c] 43) (.cells #[.string s] 9)
 have HC :=U2 l (fun k=>k<C) ao l.length c (.pointer (some ⟨w.heap.size+1,0,none⟩)) (atI l fun x=>decide (x.name=s))
  (fun _ W=>W.cell? ⟨w.heap.size+1,0,none⟩ =some (.string s) ∧Below w.heap.size w W∧w.heap.size+2≤W.heap.size) (fun W=>Below w.heap.size w W)
  ((w.alloc (.cells #[.string nmv, .slice ao l.length c] 43)).alloc (.cells #[.string s] 9)) (fun i W h=>h.2.1) (fun i W h=>hl.keep (Af (h.2.1.mono hC)))
  (by
   rintro i x cs W hx ⟨h1,h2,h3⟩ rfl
   refine (V8 x (w.heap.size+1) s W h1 (by omega)).mono ?_
   rintro e W' ⟨rfl,hb⟩
   have hbW :Below w.heap.size w W' :=h2.trans (hb.mono h2.size)
   exact ⟨by rw [Eu hx],hbW,fun _=> ⟨(hb.cell (p := ⟨w.heap.size+1,0,none⟩) (show w.heap.size+1<W.heap.size by omega)).trans h1,hbW,Nat.le_trans h3 hb.size⟩⟩)
  ⟨Aa (Aq _ _ _) rfl,hb2,by simp⟩
 have E :Hid (Cy l s=Ah (atI l fun x=>decide (x.name=s)) 0 l.length) :=rfl
 generalize Cy l s=r at E
 generalize Ah (atI l fun x=>decide (x.name=s)) 0 l.length=q at E HC
 clear hl
 go_enter Tryz.func71,Tryz.ntmps71
 go_wp2_with (go_at_call 120;go_fit HC;rintro e w1 ⟨rfl,hb1⟩)
 go_ret
 exact ⟨An (by rw [E.out]),hb1⟩
theorem Y6 {fn :Func} {p q :Tmp} {w :World} {g :Nat} {a :Act} {c0 c1 :Value} {t :TypeId} {fr :Nat×Nat} {R :Ending→World→Prop} (nmv :Wd) (sv :Value) (there :Bool) (hr :fn.results= #[.cell p 43, .tmp q]) (hp :a.tmps.getD p undef= .pointer (some ⟨g,0,none⟩)) (hq :a.tmps.getD q undef= .bool there) (hd :a.defers= [])
  (hg :w.heap[g]? =some (.cells #[c0,c1] t fr)) (hR :R (.returned (.tuple #[.agg #[.string nmv,sv], .bool there])) ((w.setCell ⟨g,0,none⟩ (.string nmv)).setCell ⟨g,1,none⟩ sv)) :
  bodyPost Tryz.prog fn R .ret a ((w.setCell ⟨g,0,none⟩ (.string nmv)).setCell ⟨g,1,none⟩ sv) :=
 bodyPost_ret (A2 hr a.tmps _ g t _ fr _ _ hp hq (Do (Do hg 0 _) 1 _) Tryz.underlying43 rfl (by kernel_rfl)) hd hR
def Ad7 (T :List TabD) (s :Wd) (F :Nat→Prop) (w :World) (e :Ending) (w' :World) :Prop :=
 ∃nmv ao n c there,e= .returned (.tuple #[.agg #[.string nmv, .slice ao n c], .bool there]) ∧ (match Cr T s with | some t=>there=true∧nmv=t.name∧IsL Cc F w' (.slice ao n c) t.cols | none=>there=false∧nmv=noW∧ao=none∧n=0∧c=0) ∧Below w.heap.size w w'
set_option maxHeartbeats 2000000 in
theorem M8 (T :List TabD) (tv iv :Value) (hiv :E1 iv) (s :Wd) (C :Nat) (w :World) (hl :IsL Cq (fun k=>k<C) w tv T) (hC :C≤w.heap.size) :
  Calls Tryz.prog 6 #[.agg #[tv,iv], .string s] w (Ad7 T s (fun k=>k<C) w) :=by
 obtain ⟨ao,c,rfl⟩ :=hl.shape
 obtain ⟨io,il,ic,rfl⟩ :=hiv
 have hb3 :=Cb w (.cells #[.slice ao T.length c, .slice io il ic] 25) (.cells #[.string s] 9) (.cells #[.string noW, .slice none 0 0] 43)
 have HC :=Ra T (fun k=>k<C) ao T.length c (.pointer (some ⟨w.heap.size+1,0,none⟩)) (atI T fun x=>decide (x.name=s))
  (fun _ W=>W.cell? ⟨w.heap.size+1,0,none⟩ =some (.string s) ∧Below (w.heap.size+3) (((w.alloc (.cells #[.slice ao T.length c, .slice io il ic] 25)).alloc (.cells #[.string s] 9)).alloc (.cells #[.string noW, .slice none 0 0] 43)) W) (fun W=>Below (w.heap.size+3) (((w.alloc (.cells #[.slice ao T.length c, .slice io il ic] 25)).alloc (.cells #[.string s] 9)).alloc (.cells #[.string noW, .slice none 0 0] 43)) W)
  (((w.alloc (.cells #[.slice ao T.length c, .slice io il ic] 25)).alloc (.cells #[.string s] 9)).alloc (.cells #[.string noW, .slice none 0 0] 43)) (fun i W h=>h.2) (fun i W h=>hl.keep (Af ((hb3.mono hC).trans (h.2.mono (by omega)))))
  (by
   rintro i x cs W hx ⟨h1,h2⟩ ⟨sv,rfl,hsv⟩
   have hsz :=h2.size
   rw [show (((w.alloc (.cells #[.slice ao T.length c, .slice io il ic] 25)).alloc (.cells #[.string s] 9)).alloc (.cells #[.string noW, .slice none 0 0] 43)).heap.size=w.heap.size+3 from by simp] at hsz
   refine (Sr x sv (Ge hsv) (w.heap.size+1) s W h1 (by omega)).mono ?_
   rintro e W' ⟨rfl,hb⟩
   have hbW :=h2.trans (hb.mono hsz)
   exact ⟨by rw [Eu hx],hbW,fun _=> ⟨(hb.cell (p := ⟨w.heap.size+1,0,none⟩) (show w.heap.size+1<W.heap.size by omega)).trans h1,hbW⟩⟩)
  ⟨Aa (Ac (Aq _ _ _) _) rfl,Below.refl _ _⟩
 rcases J7 T (fun x=>decide (x.name=s)) with ⟨h1,h2⟩ | ⟨k,t,h1,h2,h3,h4⟩
 ·rw [h1] at HC
  have HP :Hid (Cr T s=none) :=h2
  clear h1 h2
  go_enter Tryz.func6,Tryz.ntmps6
  go_wp2_with (go_at_call 18;go_fit HC;rintro e w1 ⟨rfl,hb1⟩;obtain ⟨z1,q1,r1,s1,t1⟩ :=Fj (g :=w.heap.size) (hb1.mono (by simp)) (by simp))
  have hbl := (hb1.block (w.heap.size+2) (by omega)).trans (A6 w (.cells #[.slice ao T.length c, .slice io il ic] 25) (.cells #[.string s] 9) (.cells #[.string noW, .slice none 0 0] 43))
  have hbw :Below w.heap.size w w1 :=hb3.trans (hb1.mono (by omega))
  exact Y6 noW (.slice none 0 0) false Tryz.results6 rfl rfl rfl hbl ⟨noW,none,0,0,false,rfl,by rw [HP.out];exact ⟨rfl,rfl,rfl,rfl,rfl⟩,(hbw.setCell (show w.heap.size≤w.heap.size+2 by omega) _).setCell (show w.heap.size≤w.heap.size+2 by omega) _⟩
 ·rw [h1] at HC
  have HP :Hid (Cr T s=some t) :=h4
  obtain ⟨b,off,cs,rfl,hbC,hbl,⟨sv,rfl,hsv⟩,hcell⟩ :=A4 hl h2
  obtain ⟨so,sc,rfl⟩ :=hsv.shape
  have d0 :=hcell 0 _ rfl
  have d1 :=hcell 1 _ rfl
  simp only [Cq,Nat.add_zero] at d0 d1
  have hk :k<T.length := (List.getElem?_eq_some_iff.1 h2).1
  have k0 : (0 :Int) ≤ (k :Int) :=by omega
  have k1 : (k :Int) < (T.length :Int) :=by omega
  have k2 : ¬ (k :Int) <0 :=by omega
  clear h1 h2 h3 h4 hcell
  go_enter Tryz.func6,Tryz.ntmps6
  go_wp2_with (go_at_call 18;go_fit HC;rintro e w1 ⟨rfl,hb1⟩;obtain ⟨z1,q1,r1,s1,t1⟩ :=Fj (g :=w.heap.size) (hb1.mono (by simp)) (by simp);have hbw :Below w.heap.size w w1 :=hb3.trans (hb1.mono (by omega));have d2 := (hbw.cell (p := ⟨b,off+k*2,none⟩) hbl).trans d0;have d3 := (hbw.cell (p := ⟨b,off+k*2+1,none⟩) hbl).trans d1)
  have hbl2 := (hb1.block (w.heap.size+2) (by omega)).trans (A6 w (.cells #[.slice (some ⟨b,off,none⟩) T.length c, .slice io il ic] 25) (.cells #[.string s] 9) (.cells #[.string noW, .slice none 0 0] 43))
  have hbF :Below w.heap.size w ((w1.setCell ⟨w.heap.size+2,0,none⟩ (.string t.name)).setCell ⟨w.heap.size+2,1,none⟩ (.slice so t.cols.length sc)) := (hbw.setCell (show w.heap.size≤w.heap.size+2 by omega) _).setCell (show w.heap.size≤w.heap.size+2 by omega) _
  exact Y6 t.name (.slice so t.cols.length sc) true Tryz.results6 rfl rfl rfl hbl2 ⟨t.name,so,t.cols.length,sc,true,rfl,by rw [HP.out];exact ⟨rfl,rfl,hsv.keep (Af (hbF.mono hC))⟩,hbF⟩
end Go.Proofs.YthehiijgnepcfaaGreat

namespace Go.Proofs.YthehiijgnepcfaaGreat
open Go.RowKit
def Bp (w :World) (v :Value) (L :List V) :Prop :=
 ((∃ao cap,v= .slice ao 0 cap∧ (ao=none→cap=0)) ∧L= []) ∨ ∃b off cap,v= .slice (some ⟨b,off,none⟩) L.length cap∧b<w.heap.size∧Fl w b off L
theorem Bp.below {w w' :World} {v :Value} {L :List V} (h :Bp w v L) (hb :Below w.heap.size w w') :Bp w' v L :=by
 rcases h with h | ⟨b,off,cap,h1,h2,h3⟩
 ·exact .inl h
 ·exact .inr ⟨b,off,cap,h1,Nat.lt_of_lt_of_le h2 hb.size,h3.below hb h2⟩
theorem Bp.shape {w :World} {v :Value} {L :List V} (h :Bp w v L) : ∃ao cap,v= .slice ao L.length cap :=by
 rcases h with ⟨⟨ao,cap,rfl,_⟩,rfl⟩ | ⟨b,off,cap,rfl,_,_⟩
 ·exact ⟨ao,cap,rfl⟩
 ·exact ⟨_,cap,rfl⟩
def Bw (L :List V) :List Value :=L.flatMap V.cells
theorem X9 (L :List V) (v :V) :Bw (L++ [v]) =Bw L++v.cells :=by simp [Bw]
theorem La : ∀ (L :List V) (i :Nat) (v :V),L[i]? =some v→ (Bw L)[i*3]? =some (.int .i64 v.k) ∧ (Bw L)[i*3+1]? =some (.int .i64 v.n) ∧ (Bw L)[i*3+2]? =some (.string v.s)
 | x ::L,0,v,h=>by
  simp at h;subst h
  simp [Bw,V.cells]
 | x ::L,i+1,v,h=>by
  have :=La L i v (by simpa using h)
  have e :Bw (x ::L) = .int .i64 x.k :: .int .i64 x.n :: .string x.s ::Bw L :=by simp [Bw,V.cells]
  rw [e,show (i+1) *3=i*3+1+1+1 from by omega]
  exact this
theorem Bp.of_own {w :World} {base :Nat} {lv :Value} {L :List V} (h :w.ownsRow base 32 3 lv L.length (Bw L)) :Bp w lv L :=by
 rcases h.2 with ⟨rfl,h0⟩ | ⟨g,cap,cur,rfl,_,hg,_⟩
 ·exact .inl ⟨⟨none,0,rfl,fun _=>rfl⟩,List.eq_nil_of_length_eq_zero h0⟩
 ·refine .inr ⟨g,0,cap,rfl,lt_of_block hg,fun i v hi=> ?_⟩
  obtain ⟨h0,h1,h2⟩ :=La L i v hi
  have c0 :=h.cells (g :=g) rfl _ _ h0
  have c1 :=h.cells (g :=g) rfl _ _ h1
  have c2 :=h.cells (g :=g) rfl _ _ h2
  rw [Addr.add_lit] at c0 c1 c2
  exact ⟨c0,by rw [Nat.add_assoc];exact c1,by rw [Nat.add_assoc];exact c2⟩
theorem Fl.cells {w :World} {b off :Nat} : ∀ {L :List V},Fl w b off L→ ∀j u,(Bw L)[j]? =some u→w.cell? ((⟨b,off,none⟩ :Addr).add j) =some u :=by
 intro L h j u hj
 have hl : (Bw L).length=L.length*3 :=by
  clear h hj
  induction L with
  | nil=>rfl
  | cons x L ih=>simp [Bw,V.cells] at ih⊢;omega
 have hjl := (List.getElem?_eq_some_iff.1 hj).1
 obtain ⟨v,hv⟩ : ∃v,L[j/3]? =some v := ⟨_,List.getElem?_eq_getElem (by omega)⟩
 obtain ⟨a0,a1,a2⟩ :=La L _ _ hv
 obtain ⟨c0,c1,c2⟩ :=h _ _ hv
 rw [Addr.add_lit]
 rcases (show j=j/3*3∨j=j/3*3+1∨j=j/3*3+2 from by omega) with e | e | e
 ·rw [e] at hj⊢
  rw [a0] at hj;simp at hj;subst hj;exact c0
 ·rw [e] at hj⊢
  rw [a1] at hj;simp at hj;subst hj;rw [←Nat.add_assoc];exact c1
 ·rw [e] at hj⊢
  rw [a2] at hj;simp at hj;subst hj;rw [←Nat.add_assoc];exact c2
theorem Ag8 (L :List V) : (Bw L).length=L.length*3 :=by
 induction L with
 | nil=>rfl
 | cons x L ih=>simp [Bw,V.cells] at ih⊢;omega
theorem Aiq (L :List V) : ∀u∈Bw L,u.oneCell'=true :=by
 intro u hu
 simp only [Bw,List.mem_flatMap] at hu
 obtain ⟨v,_,hu⟩ :=hu
 simp [V.cells] at hu
 rcases hu with rfl | rfl | rfl<;>rfl
end Go.Proofs.YthehiijgnepcfaaGreat

namespace Go.Proofs.YthehiijgnepcfaaGreat
def Aab (c :ColD) (v :V) :Bool :=good v&& (decide (v.k=c.ty) || (!c.must&&decide (v.k=0)))
def Hn (t :TabD) (r :List V) (i :Nat) :Bool :=match t.cols[i]?,r[i]? with
 | some c,some v=> !Aab c v
 | _,_=>false
def Ee (t :TabD) (r :List V) :Bool :=decide (r.length=t.cols.length) && !Ay (Hn t r) 0 t.cols.length
theorem G6 {p :Nat→Bool} : ∀ {n i :Nat},Ay p i n=false→ ∀j,i≤j→j<i+n→p j=false
 | 0,i,_,j,h1,h2=>by omega
 | n+1,i,h,j,h1,h2=>by
  rw [Ay,Bool.or_eq_false_iff] at h
  rcases Nat.eq_or_lt_of_le h1 with e | e
  ·rw [←e];exact h.1
  ·exact G6 h.2 j e (by omega)
theorem C6 {t :TabD} {r :List V} (h :Ee t r=true) :r.length=t.cols.length∧ ∀v∈r,good v=true :=by
 simp only [Ee,Bool.and_eq_true,decide_eq_true_eq,Bool.not_eq_true'] at h
 refine ⟨h.1,fun v hv=> ?_⟩
 obtain ⟨i,hi,rfl⟩ :=List.getElem_of_mem hv
 have :=G6 h.2 i (Nat.zero_le _) (by omega)
 unfold Hn at this
 rw [List.getElem?_eq_getElem hi,List.getElem?_eq_getElem (by omega :i<t.cols.length)] at this
 simp only [Bool.not_eq_false'] at this
 simp only [Aab,Bool.and_eq_true] at this
 exact this.1
end Go.Proofs.YthehiijgnepcfaaGreat

namespace Go.Proofs.YthehiijgnepcfaaGreat
abbrev PL :=List (ByteArray×ByteArray)
theorem V9 {F :PL} {k v :ByteArray} {x :ByteArray×ByteArray} :x∈Ec F k v↔x= (k,v) ∨ (x∈F∧x.1≠k) :=by
 unfold Ec
 simp only [List.mem_append,List.mem_cons,List.mem_filter]
 constructor
 ·rintro (⟨h1,h2⟩ | h | ⟨h1,h2⟩)
  ·exact .inr ⟨h1,Ex h2⟩
  ·exact .inl h
  ·exact .inr ⟨h1,(Ex h2).symm⟩
 ·rintro (h | ⟨h1,h2⟩)
  ·exact .inr (.inl h)
  ·cases hk :klt x.1 k with
   | true=>exact .inl ⟨h1,rfl⟩
   | false=>
    rcases I0 hk with e | e
    ·exact absurd e h2
    ·exact .inr (.inr ⟨h1,e⟩)
theorem T3 {F :PL} {k :ByteArray} {x :ByteArray×ByteArray} :x∈Fz F k↔x∈F∧x.1≠k :=by simp [Fz]
theorem Ai3 {F :PL} {k :ByteArray} :Cw F k=none↔ ∀x∈F,x.1≠k :=by simp [Cw,List.find?_eq_none]
def Ek (t :Wd) :Wd := (⟨#[114]⟩ ++t) ++ ⟨#[0]⟩
def Dp (x :Wd) :Wd := (⟨#[120]⟩ ++x) ++ ⟨#[0]⟩
def Gs (t :Wd) (id :V) :Wd :=Ek t++str (Ax [id]).1
def Fh (x :Wd) (v id :V) :Wd :=Dp x++str (Ax [v,id]).1
theorem Nw (t :Wd) : (Ek t).data.toList=114 :: (t.data.toList++ [0]) :=by simp [Ek,ByteArray.data_append]
theorem Ab3 (t :Wd) : (Dp t).data.toList=120 :: (t.data.toList++ [0]) :=by simp [Dp,ByteArray.data_append]
theorem Lb (t :Wd) (id :V) : (Gs t id).data.toList=114 :: (t.data.toList++0 :: (Ax [id]).1) :=by
 rw [Gs,ByteArray.data_append,Array.toList_append,Nw,Bt];simp
theorem T6 (x :Wd) (v id :V) : (Fh x v id).data.toList=120 :: (x.data.toList++0 :: (Ax [v,id]).1) :=by
 rw [Fh,ByteArray.data_append,Array.toList_append,Ab3,Bt];simp
theorem Nx (t x :Wd) (a v id :V) :Gs t a≠Fh x v id :=by
 intro h
 have :=congrArg (fun s :ByteArray=>s.data.toList) h
 simp only [Lb,T6,List.cons.injEq] at this
 exact absurd this.1 (by decide)
def Dq (t :TabD) (x :IdxD) :Int :=if x.table=t.name then Cy t.cols x.col else -1
def Mi (t :TabD) (r :List V) (x :IdxD) :Option Wd :=if 0≤Dq t x then some (Fh x.name (r.getD (Dq t x).toNat zero) (r.headD zero)) else none
def iks (I :List IdxD) (t :TabD) (r :List V) :List Wd :=I.filterMap (Mi t r)
def Ho (F :PL) (l :List Wd) :PL :=l.foldl (fun F k=>Ec F k noW) F
def Jo (F :PL) (l :List Wd) :PL :=l.foldl Fz F
def rk (t :TabD) (r :List V) :Wd :=Gs t.name (r.headD zero)
def putRow (F :PL) (I :List IdxD) (t :TabD) (r :List V) :PL :=Ho (Ec F (rk t r) (str (Ax r).1)) (iks I t r)
def L3 (F :PL) (I :List IdxD) (t :TabD) (r :List V) :PL :=Jo (Fz F (rk t r)) (iks I t r)
theorem T8 {x :ByteArray×ByteArray} : ∀ (l :List Wd) (F :PL),(∀y∈F,y.1∈l→y.2=noW) → (x∈Ho F l↔x∈F∨ (x.1∈l∧x.2=noW))
 | [],F,_=>by simp [Ho]
 | k ::l,F,h=>by
  have ih :=T8 (x :=x) l (Ec F k noW) (fun y hy hl=>by
   rcases V9.1 hy with e | ⟨h1,_⟩
   ·rw [e]
   ·exact h y h1 (by simp [hl]))
  have e :Ho F (k ::l) =Ho (Ec F k noW) l :=rfl
  rw [e,ih,V9]
  constructor
  ·rintro ((rfl | ⟨h1,_⟩) | ⟨h1,h2⟩)
   ·exact .inr ⟨by simp,rfl⟩
   ·exact .inl h1
   ·exact .inr ⟨by simp [h1],h2⟩
  ·rintro (h1 | ⟨h1,h2⟩)
   ·by_cases hk :x.1=k
    ·have :=h x h1 (by simp [hk])
     exact .inl (.inl (Prod.ext hk this))
    ·exact .inl (.inr ⟨h1,hk⟩)
   ·rcases List.mem_cons.1 h1 with h1 | h1
    ·exact .inl (.inl (Prod.ext h1 h2))
    ·exact .inr ⟨h1,h2⟩
theorem Rb {x :ByteArray×ByteArray} : ∀ (l :List Wd) (F :PL),x∈Jo F l↔x∈F∧x.1∉l
 | [],F=>by simp [Jo]
 | k ::l,F=>by
  have e :Jo F (k ::l) =Jo (Fz F k) l :=rfl
  rw [e,Rb l,T3]
  simp only [List.mem_cons,not_or]
  constructor
  ·rintro ⟨⟨h1,h2⟩,h3⟩;exact ⟨h1,h2,h3⟩
  ·rintro ⟨h1,h2,h3⟩;exact ⟨⟨h1,h2⟩,h3⟩
theorem Y7 {I :List IdxD} {t :TabD} {r :List V} {k :Wd} (h :k∈iks I t r) : ∃x v id,k=Fh x v id :=by
 obtain ⟨x,_,hx⟩ :=List.mem_filterMap.1 h
 unfold Mi at hx
 split at hx
 ·exact ⟨_,_,_,(Option.some.inj hx).symm⟩
 ·cases hx
theorem Rc (I :List IdxD) (t :TabD) (r :List V) : (iks I t r).length≤I.length :=List.length_filterMap_le _ _
def Air (I :List IdxD) (t :TabD) (r :List V) (x :ByteArray×ByteArray) :Prop :=x= (rk t r,str (Ax r).1) ∨ (x.1∈iks I t r∧x.2=noW)
structure Kept (I :List IdxD) (t :TabD) (F :PL) (O :List (List V)) :Prop where
 mem : ∀x,x∈F↔ ∃r∈O,Air I t r x
 fit : ∀r∈O,Ee t r=true
 uniq :O.Pairwise fun a b=>rk t a≠rk t b
 len :O.length≤20
theorem Wa (I :List IdxD) (t :TabD) :Kept I t [] [] := ⟨by simp,by simp,by simp,by simp⟩
theorem T9 {I :List IdxD} {t :TabD} {F :PL} {O :List (List V)} {r :List V} (h :Kept I t F O) (hn :Cw F (rk t r) =none) (hf :Ee t r=true) (hl :O.length<20) :Kept I t (putRow F I t r) (O++ [r]) :=by
 have hn' :=Ai3.1 hn
 refine ⟨fun x=> ?_, ?_, ?_,by simp;omega⟩
 ·unfold putRow
  rw [T8]
  ·rw [V9]
   constructor
   ·rintro ((e | ⟨h1,_⟩) | h1)
    ·exact ⟨r,by simp, .inl e⟩
    ·obtain ⟨q,hq,hg⟩ := (h.mem x).1 h1
     exact ⟨q,by simp [hq],hg⟩
    ·exact ⟨r,by simp, .inr h1⟩
   ·rintro ⟨q,hq,hg⟩
    rcases List.mem_append.1 hq with hq | hq
    ·have hx := (h.mem x).2 ⟨q,hq,hg⟩
     exact .inl (.inr ⟨hx,hn' x hx⟩)
    ·obtain rfl :q=r :=by simpa using hq
     rcases hg with e | e
     ·exact .inl (.inl e)
     ·exact .inr e
  ·intro y hy hk
   obtain ⟨a,v,id,hk⟩ :=Y7 hk
   rcases V9.1 hy with e | ⟨h1,_⟩
   ·rw [e] at hk
    exact absurd hk (Nx _ _ _ _ _)
   ·obtain ⟨q,hq,hg⟩ := (h.mem y).1 h1
    rcases hg with e | e
    ·rw [e] at hk
     exact absurd hk (Nx _ _ _ _ _)
    ·exact e.2
 ·intro q hq
  rcases List.mem_append.1 hq with hq | hq
  ·exact h.fit q hq
  ·obtain rfl :q=r :=by simpa using hq
   exact hf
 ·rw [List.pairwise_append]
  refine ⟨h.uniq,by simp,fun a ha b hb=> ?_⟩
  obtain rfl :b=r :=by simpa using hb
  exact hn' (rk t a,str (Ax a).1) ((h.mem _).2 ⟨a,ha, .inl rfl⟩)
def Dr (t :Wd) :Wd :=Ek t++noW
def Ds (t :Wd) :Wd :=Ek t++ (noW++ ⟨#[255]⟩)
theorem Rd (t :Wd) : (Dr t).data.toList=114 :: (t.data.toList++ [0]) :=by
 rw [Dr,ByteArray.data_append,Array.toList_append,Nw];simp
theorem Re (t :Wd) : (Ds t).data.toList=114 :: (t.data.toList++ [0,255]) :=by
 rw [Ds,ByteArray.data_append,Array.toList_append,Nw];simp [ByteArray.data_append]
theorem Bm (a b :ByteArray) :klt a b=Op.bytesLess a.data.toList b.data.toList :=by
 unfold klt;rw [Lib.toList_data,Lib.toList_data]
theorem Kl {v :V} (h :good v=true) : (Ax [v]).1=keyOf v :=by rw [Hi (by simpa using h)];simp [Bj]
theorem Ad8 (l :List UInt8) :Op.bytesLess l [] =false :=by cases l<;>rfl
theorem Ab4 {t :Wd} {v :V} (h :good v=true) (x :ByteArray) :rq (Dr t) (Ds t) (Gs t v,x) =true :=by
 unfold rq
 rw [Bm,Bm,Lb,Rd,Re,Kl h]
 obtain ⟨r,hr⟩ :=G4 h
 rw [hr]
 have e1 : ∀ (a b :List UInt8),Op.bytesLess (114 :: (t.data.toList++a)) (114 :: (t.data.toList++b)) =Op.bytesLess a b :=fun a b=>by
  have :=By (114 ::t.data.toList) a b
  simpa using this
 rw [e1,e1]
 have e2 : ∀ (a b :List UInt8),Op.bytesLess (0 ::a) (0 ::b) =Op.bytesLess a b :=fun a b=>by
  have :=By [0] a b
  simpa using this
 rw [e2,e2,Ad8]
 have :Op.bytesLess (UInt8.ofNat (v.k.toNat+1) ::r) [255] =true :=by
  refine Dv ?_ _ _
  rcases Ed h with e | e | e<;>rw [e] <;>decide
 rw [this];rfl
theorem Ad9 {t x :Wd} {v id :V} (y :ByteArray) :rq (Dr t) (Ds t) (Fh x v id,y) =false :=by
 unfold rq
 rw [Bm,Bm,T6,Rd,Re]
 have h1 :=F4 _ _ (Dv (by decide : (114 :UInt8) <120) (t.data.toList++ [0,255]) (x.data.toList++0 :: (Ax [v,id]).1))
 rw [h1,Bool.and_false]
def Dt (n :Nat) (x :Wd) :Option (List V) :=match vals x.data.toList with
 | some L=>if 0<L.length∧L.length=n then some L else none
 | none=>none
def Df (n :Nat) (R :PL) :List (List V) := (R.map Prod.snd).filterMap (Dt n)
theorem Ny {n :Nat} {r :List V} (h0 :0<n) (hl :r.length=n) (h : ∀v∈r,good v=true) :Dt n (str (Ax r).1) =some r :=by
 unfold Dt
 rw [Bt,Hi h,Tz r h]
 simp only
 rw [if_pos (by omega)]
theorem Lc {α :Type} [DecidableEq α] : ∀ {A B :List α},A.Nodup→ (∀x∈A,x∈B) →A.length≤B.length
 | [],B,_,_=>Nat.zero_le _
 | a ::A,B,hn,hs=>by
  rw [List.nodup_cons] at hn
  have ha :=hs a (by simp)
  have :=Lc (A :=A) (B :=B.erase a) hn.2 fun x hx=> (List.mem_erase_of_ne (show x≠a from fun e=>hn.1 (by rw [←e];exact hx))).2 (hs x (by simp [hx]))
  rw [List.length_erase_of_mem ha] at this
  have h1 :=List.length_pos_of_mem ha
  rw [List.length_cons];omega
theorem P9 {I :List IdxD} {t :TabD} {T :List Pg} {O :List (List V)} (hT :Ap T) (h :Kept I t (flat T) O) (h0 :0<t.cols.length) :
  ∃A :List (List V),A.length=O.length∧Df t.cols.length (rng T (Dr t.name) (Ds t.name)) =A∧ (∀r,r∈A↔r∈O) ∧ (rng T (Dr t.name) (Ds t.name)) =A.map (fun r=> (rk t r,str (Ax r).1)) :=by
 have hR : ∀x,x∈rng T (Dr t.name) (Ds t.name) ↔ ∃r∈O,x= (rk t r,str (Ax r).1) :=by
  intro x
  unfold rng
  rw [List.mem_filter,h.mem]
  constructor
  ·rintro ⟨⟨r,hr,hg⟩,hq⟩
   rcases hg with e | ⟨hk,e⟩
   ·exact ⟨r,hr,e⟩
   ·obtain ⟨a,v,id,hk⟩ :=Y7 hk
    have :x= (Fh a v id,x.2) :=Prod.ext hk rfl
    rw [this,Ad9] at hq;cases hq
  ·rintro ⟨r,hr,rfl⟩
   refine ⟨⟨r,hr, .inl rfl⟩, ?_⟩
   obtain ⟨hl,hg⟩ :=C6 (h.fit r hr)
   refine Ab4 (hg _ ?_) _
   cases r with
   | nil=>simp at hl;omega
   | cons a r=>simp
 have hd : ∀r∈O,Dt t.cols.length (str (Ax r).1) =some r :=fun r hr=>by
  obtain ⟨hl,hg⟩ :=C6 (h.fit r hr)
  exact Ny h0 hl hg
 have hrise :Bo ((rng T (Dr t.name) (Ds t.name)).map Prod.fst) :=hT.rise.sublist ((List.filter_sublist).map _)
 generalize rng T (Dr t.name) (Ds t.name) =R at hR hrise⊢
 have key : ∀R :PL,(∀x∈R,∃r∈O,x= (rk t r,str (Ax r).1)) →R= (Df t.cols.length R).map (fun r=> (rk t r,str (Ax r).1)) ∧ (∀r,r∈Df t.cols.length R→r∈O) :=by
  intro R
  induction R with
  | nil=>intro _;exact ⟨rfl,by simp [Df]⟩
  | cons x R ih=>
   intro hx
   obtain ⟨r,hr,rfl⟩ :=hx x (by simp)
   obtain ⟨h1,h2⟩ :=ih fun y hy=>hx y (by simp [hy])
   have e :Df t.cols.length ((rk t r,str (Ax r).1) ::R) =r ::Df t.cols.length R :=by
    simp only [Df,List.map_cons,List.filterMap_cons,hd r hr]
   rw [e]
   refine ⟨by rw [List.map_cons,←h1],fun q hq=> ?_⟩
   rcases List.mem_cons.1 hq with rfl | hq
   ·exact hr
   ·exact h2 q hq
 obtain ⟨k1,k2⟩ :=key R fun x hx=> (hR x).1 hx
 generalize Df t.cols.length R=A at k1 k2
 refine ⟨A, ?_,rfl,fun r=> ⟨k2 r,fun hr=> ?_⟩,k1⟩
 ·have hmap :R.map Prod.fst=A.map (rk t) :=by rw [k1,List.map_map];rfl
  have n1 : (A.map (rk t)).Nodup :=by rw [←hmap];exact hrise.imp fun h=>Ex h
  have n2 : (O.map (rk t)).Nodup :=by rw [List.Nodup,List.pairwise_map];exact h.uniq
  have l1 :=Lc n1 (B :=O.map (rk t)) fun x hx=>by
   obtain ⟨r,hr,rfl⟩ :=List.mem_map.1 hx
   exact List.mem_map.2 ⟨r,k2 r hr,rfl⟩
  have l2 :=Lc n2 (B :=A.map (rk t)) fun x hx=>by
   obtain ⟨r,hr,rfl⟩ :=List.mem_map.1 hx
   rw [←hmap]
   exact List.mem_map.2 ⟨_,(hR _).2 ⟨r,hr,rfl⟩,rfl⟩
  rw [List.length_map,List.length_map] at l1 l2
  omega
 ·have := (hR _).2 ⟨r,hr,rfl⟩
  rw [k1] at this
  obtain ⟨q,hq,e⟩ :=List.mem_map.1 this
  have e2 :=congrArg (fun p :ByteArray×ByteArray=>Dt t.cols.length p.2) e
  simp only [hd r hr,hd q (k2 q hq)] at e2
  rw [←Option.some.inj e2];exact hq
theorem Agd {t :TabD} {a b :List V} (ha :good (a.headD zero) =true) (hb :good (b.headD zero) =true) (h :klt (rk t a) (rk t b) =true) :Dy (a.headD zero) (b.headD zero) <0 :=by
 rw [Bm,rk,rk,Lb,Lb,Kl ha,Kl hb] at h
 have e1 :Op.bytesLess (114 :: (t.name.data.toList++0 ::keyOf (a.headD zero))) (114 :: (t.name.data.toList++0 ::keyOf (b.headD zero))) =Op.bytesLess (keyOf (a.headD zero)) (keyOf (b.headD zero)) :=by
  have :=By (114 :: (t.name.data.toList++ [0])) (keyOf (a.headD zero)) (keyOf (b.headD zero))
  simpa using this
 rw [e1] at h
 rcases Lm [a.headD zero] [b.headD zero] rfl (by simpa using ha) (by simpa using hb) with ⟨e,_⟩ | ⟨_,e⟩ | ⟨_,e⟩
 ·have :E7 [a.headD zero] [b.headD zero] =Dy (a.headD zero) (b.headD zero) :=by
   unfold E7
   split
   ·rename_i h0;rw [h0];rfl
   ·rfl
  rw [←this,e];decide
 ·simp only [Bj,List.flatMap_cons,List.flatMap_nil,List.append_nil] at e
  rw [e,Gd] at h;cases h
 ·simp only [Bj,List.flatMap_cons,List.flatMap_nil,List.append_nil] at e
  rw [F4 _ _ e] at h;cases h
def Gt (F :PL) (I :List IdxD) (t :TabD) (A :List (List V)) :PL :=A.foldl (fun F r=>L3 F I t r) F
theorem Ya (F :PL) (I :List IdxD) (t :TabD) (A :List (List V)) (r :List V) :Gt F I t (A++ [r]) =L3 (Gt F I t A) I t r :=by simp [Gt]
theorem Rf {I :List IdxD} {t :TabD} {x :ByteArray×ByteArray} : ∀ (A :List (List V)) (F :PL),x∈Gt F I t A↔x∈F∧ ∀r∈A,x.1≠rk t r∧x.1∉iks I t r
 | [],F=>by simp [Gt]
 | r ::A,F=>by
  have e :Gt F I t (r ::A) =Gt (L3 F I t r) I t A :=rfl
  rw [e,Rf A,L3,Rb,T3]
  constructor
  ·rintro ⟨⟨⟨h1,h2⟩,h3⟩,h4⟩
   refine ⟨h1,fun q hq=> ?_⟩
   rcases List.mem_cons.1 hq with rfl | hq
   ·exact ⟨h2,h3⟩
   ·exact h4 q hq
  ·rintro ⟨h1,h2⟩
   exact ⟨⟨⟨h1,(h2 r (by simp)).1⟩,(h2 r (by simp)).2⟩,fun q hq=>h2 q (by simp [hq])⟩
theorem Ab5 {I :List IdxD} {t :TabD} {F :PL} {O A :List (List V)} (h :Kept I t F O) (hA : ∀r,r∈A↔r∈O) :Gt F I t A= [] :=by
 rw [List.eq_nil_iff_forall_not_mem]
 intro x hx
 obtain ⟨h1,h2⟩ := (Rf A F).1 hx
 obtain ⟨r,hr,hg⟩ := (h.mem x).1 h1
 obtain ⟨h3,h4⟩ :=h2 r ((hA r).2 hr)
 rcases hg with e | e
 ·rw [e] at h3;exact h3 rfl
 ·exact h4 e.1
end Go.Proofs.YthehiijgnepcfaaGreat

namespace Go.Proofs.YthehiijgnepcfaaGreat
open Go.RowKit
set_option maxRecDepth 100000 in
set_option maxHeartbeats 400000 in
theorem Nz (s :ByteArray) (c :Int) (w :World) :
  Calls Tryz.prog 178 #[.string s, .int .u8 c] w fun e w'=>e= .returned (.int .i64 (Lib.indexByte s.data.toList c.toNat.toUInt8)) ∧w'=w :=by
 go_enter Tryz.func178,Tryz.ntmps178
 go_wp2
 rw [run_callFunc_extern Tryz.func186 (by kernel_rfl) (by kernel_rfl) (by kernel_rfl) (e :=Extern.BytealgIndexByte.indexByte) (by kernel_rfl),Lib.run_indexByteString]
 simp only [Result.andThen]
 rw [Oper.upon_value]
 go_wp2
 go_ret
 exact ⟨rfl,rfl⟩
set_option maxHeartbeats 400000 in
theorem M9 (s :ByteArray) (c :Int) (w :World) :
  Calls Tryz.prog 155 #[.string s, .int .u8 c] w fun e w'=>e= .returned (.int .i64 (Lib.indexByte s.data.toList c.toNat.toUInt8)) ∧w'=w :=by
 go_enter Tryz.func155,Tryz.ntmps155
 go_wp2_with (go_at_call 178;refine (Nz _ _ _).mono ?_;rintro e w' ⟨rfl,rfl⟩)
 go_ret
 exact ⟨rfl,rfl⟩
set_option maxHeartbeats 400000 in
theorem O7 (s :ByteArray) (w :World) (h :s.size<5) :
  Calls Tryz.prog 113 #[.string s] w fun e w'=>e= .returned (.tuple #[.agg #[.int .i64 0, .int .i64 0, .string ⟨#[]⟩], .int .i64 0]) ∧Below w.heap.size w w' :=by
 go_enter Tryz.func113,Tryz.ntmps113
 go_wp2
 exact bodyPost_ret (v := .tuple #[.agg #[.int .i64 0, .int .i64 0, .string ⟨#[]⟩], .int .i64 0]) (by simp [results,Tryz.results113,go_sem]) rfl ⟨rfl,(Below.refl _ _).alloc (Nat.le_refl _) _⟩
theorem or4 (a b c d :Nat) (ha :a<256) (hb :b<256) (hc :c<256) (hd :d<256) :
  bits BinOp.or IntKind.u32 (bits BinOp.or IntKind.u32 (bits BinOp.or IntKind.u32 ((a :Int) *16777216) ((b :Int) *65536)) ((c :Int) *256)) (d :Int) = (a :Int) *16777216+ (b :Int) *65536+ (c :Int) *256+ (d :Int) :=by
 have e1 :=bits_join .u32 32 (by decide) wraps_u32 24 ((a :Int) *16777216) ((b :Int) *65536) (by omega) (by omega) (by omega) (by omega) (by omega) (by omega)
 have e2 :=bits_join .u32 32 (by decide) wraps_u32 16 ((a :Int) *16777216+ (b :Int) *65536) ((c :Int) *256) (by omega) (by omega) (by omega) (by omega) (by omega) (by omega)
 have e3 :=bits_join .u32 32 (by decide) wraps_u32 8 ((a :Int) *16777216+ (b :Int) *65536+ (c :Int) *256) (d :Int) (by omega) (by omega) (by omega) (by omega) (by omega) (by omega)
 rw [e1,e2,e3]
set_option maxHeartbeats 400000 in
theorem Qa (s :ByteArray) (w :World) (h :5≤s.size) (hs :s.size≤maxLen) :
  Calls Tryz.prog 113 #[.string s] w fun e w'=>e= .returned (.tuple #[.agg #[.int .i64 1, .int .i64 (n4 s.data.toList - 1073741824), .string ⟨#[]⟩], .int .i64 5]) ∧Below w.heap.size w w' :=by
 unfold maxLen at hs
 have h1 : (1 :Int) < (s.size :Int) :=by omega
 have h2 : (2 :Int) < (s.size :Int) :=by omega
 have h3 : (3 :Int) < (s.size :Int) :=by omega
 have h4 : (4 :Int) < (s.size :Int) :=by omega
 have b1 :s[1].toNat<256 :=s[1].toNat_lt
 have b2 :s[2].toNat<256 :=s[2].toNat_lt
 have b3 :s[3].toNat<256 :=s[3].toNat_lt
 have b4 :s[4].toNat<256 :=s[4].toNat_lt
 have ho :=or4 s[1].toNat s[2].toNat s[3].toNat s[4].toNat b1 b2 b3 b4
 have hn :n4 s.data.toList= (s[1].toNat :Int) * (16777216 :Int) + (s[2].toNat :Int) * (65536 :Int) + (s[3].toNat :Int) * (256 :Int) + (s[4].toNat :Int) :=by
  unfold n4;rw [Jn s 1 (by omega),Jn s 2 (by omega),Jn s 3 (by omega),Jn s 4 (by omega)]
 rw [←hn] at ho
 have hm0 :0≤n4 s.data.toList :=by omega
 have hm1 :n4 s.data.toList<4294967296 :=by omega
 clear hn
 generalize n4 s.data.toList=m at ho hm0 hm1⊢
 go_enter Tryz.func113,Tryz.ntmps113
 go_wp2
 go_quiet (fail)
 go_wp2
 refine bodyPost_ret (v := .tuple #[.agg #[.int .i64 1, .int .i64 (m - 1073741824), .string ⟨#[]⟩], .int .i64 5]) (by simp [results,Tryz.results113,go_sem]) rfl ⟨rfl, ?_⟩
 exact (((below_drewN ((Below.refl _ _).alloc (Nat.le_refl _) _) _).setCell (Nat.le_refl _) _).setCell (Nat.le_refl _) _).setCell (Nat.le_refl _) _
set_option maxHeartbeats 400000 in
theorem Ss (s :ByteArray) (w :World) (h :Lib.indexByte s.data.toList 0<0) :
  Calls Tryz.prog 114 #[.string s] w fun e w'=>e= .returned (.tuple #[.agg #[.int .i64 0, .int .i64 0, .string ⟨#[]⟩], .int .i64 0]) ∧Below w.heap.size w w' :=by
 generalize hi :Lib.indexByte s.data.toList 0=i at h
 have HI :Hid (Lib.indexByte s.data.toList 0=i) :=hi
 clear hi
 go_enter Tryz.func114,Tryz.ntmps114
 go_wp2_with (go_at_call 155;go_must (refine (M9 _ _ _).mono ?_;rintro e w' ⟨rfl,rfl⟩;rw [show Lib.indexByte s.data.toList (0 :Int).toNat.toUInt8=i from HI.out]))
 exact bodyPost_ret (v := .tuple #[.agg #[.int .i64 0, .int .i64 0, .string ⟨#[]⟩], .int .i64 0]) (by simp [results,Tryz.results114,go_sem]) rfl ⟨rfl,(Below.refl _ _).alloc (Nat.le_refl _) _⟩
set_option maxHeartbeats 400000 in
theorem Su (s :ByteArray) (w :World) (i :Nat) (hi :Lib.indexByte s.data.toList 0=i) (h1 :1≤i) (h2 :i<s.size) (hs :s.size≤maxLen) :
  Calls Tryz.prog 114 #[.string s] w fun e w'=>e= .returned (.tuple #[.agg #[.int .i64 2, .int .i64 0, .string (s.extract 1 i)], .int .i64 (i+1)]) ∧Below w.heap.size w w' :=by
 unfold maxLen at hs
 have HI :Hid (Lib.indexByte s.data.toList 0=i) :=hi
 clear hi
 go_enter Tryz.func114,Tryz.ntmps114
 go_wp2_with (go_at_call 155;go_must (refine (M9 _ _ _).mono ?_;rintro e w' ⟨rfl,rfl⟩;rw [show Lib.indexByte s.data.toList (0 :Int).toNat.toUInt8=i from HI.out]))
 refine bodyPost_ret (v := .tuple #[.agg #[.int .i64 2, .int .i64 0, .string (s.extract 1 i)], .int .i64 (i+1)]) (by simp [results,Tryz.results114,go_sem]) rfl ⟨rfl, ?_⟩
 exact (Below.refl _ _).alloc (Nat.le_refl _) _
set_option maxHeartbeats 1000000 in
theorem Gj (s :ByteArray) (w :World) (f :Nat) (h0 :0<s.size) (k n :Int) (t :ByteArray) (sz :Int)
  (hf : (f=113∧s[0].toNat=2) ∨ (f=114∧s[0].toNat=3))
  (hc : ∀w :World,Calls Tryz.prog f #[.string s] w fun e w'=>e= .returned (.tuple #[.agg #[.int .i64 k, .int .i64 n, .string t], .int .i64 sz]) ∧Below w.heap.size w w') :
  Calls Tryz.prog 63 #[.string s] w fun e w'=>e= .returned (.tuple #[.agg #[.int .i64 k, .int .i64 n, .string t], .int .i64 sz]) ∧Below w.heap.size w w' :=by
 rcases hf with ⟨rfl,hb⟩ | ⟨rfl,hb⟩
 ·have h1 : (s[0].toNat :Int) =2 :=by omega
  go_enter Tryz.func63,Tryz.ntmps63
  go_wp2_with (go_at_call 113;go_must (refine (hc _).mono ?_;rintro e w1 ⟨rfl,hb1⟩;obtain ⟨hcc,hff⟩ :=C9 hb1))
  refine bodyPost_ret (v := .tuple #[.agg #[.int .i64 k, .int .i64 n, .string t], .int .i64 sz]) (by simp [results,Tryz.results63,go_sem,hcc]) rfl ⟨rfl, ?_⟩
  exact (((((Below.refl _ _).alloc (Nat.le_refl _) _).trans (hb1.mono (by simp))).setCell (Nat.le_refl _) _).setCell (Nat.le_refl _) _).setCell (Nat.le_refl _) _
 ·have h1 : (s[0].toNat :Int) =3 :=by omega
  go_enter Tryz.func63,Tryz.ntmps63
  go_wp2_with (go_at_call 114;go_must (refine (hc _).mono ?_;rintro e w1 ⟨rfl,hb1⟩;obtain ⟨hcc,hff⟩ :=C9 hb1))
  refine bodyPost_ret (v := .tuple #[.agg #[.int .i64 k, .int .i64 n, .string t], .int .i64 sz]) (by simp [results,Tryz.results63,go_sem,hcc]) rfl ⟨rfl, ?_⟩
  exact (((((Below.refl _ _).alloc (Nat.le_refl _) _).trans (hb1.mono (by simp))).setCell (Nat.le_refl _) _).setCell (Nat.le_refl _) _).setCell (Nat.le_refl _) _
set_option maxHeartbeats 1000000 in
theorem Sv (s :ByteArray) (w :World) (h0 :0<s.size) (hb :s[0].toNat=1) :
  Calls Tryz.prog 63 #[.string s] w fun e w'=>e= .returned (.tuple #[.agg #[.int .i64 0, .int .i64 0, .string ⟨#[]⟩], .int .i64 1]) ∧Below w.heap.size w w' :=by
 have h1 : (s[0].toNat :Int) =1 :=by omega
 go_enter Tryz.func63,Tryz.ntmps63
 go_wp2
 exact bodyPost_ret (v := .tuple #[.agg #[.int .i64 0, .int .i64 0, .string ⟨#[]⟩], .int .i64 1]) (by simp [results,Tryz.results63,go_sem]) rfl ⟨rfl,(Below.refl _ _).alloc (Nat.le_refl _) _⟩
set_option maxHeartbeats 1000000 in
theorem Qb (s :ByteArray) (w :World) (h0 :0<s.size) (hb1 : ¬s[0].toNat=1) (hb2 : ¬s[0].toNat=2) (hb3 : ¬s[0].toNat=3) :
  Calls Tryz.prog 63 #[.string s] w fun e w'=>e= .returned (.tuple #[.agg #[.int .i64 0, .int .i64 0, .string ⟨#[]⟩], .int .i64 0]) ∧Below w.heap.size w w' :=by
 have hlt :s[0].toNat<256 :=s[0].toNat_lt
 go_enter Tryz.func63,Tryz.ntmps63
 go_wp2
 exact bodyPost_ret (v := .tuple #[.agg #[.int .i64 0, .int .i64 0, .string ⟨#[]⟩], .int .i64 0]) (by simp [results,Tryz.results63,go_sem]) rfl ⟨rfl,(Below.refl _ _).alloc (Nat.le_refl _) _⟩
theorem Sw (c :UInt8) (n :Nat) (hn :n<256) :c=UInt8.ofNat n↔c.toNat=n :=by
 constructor
 ·rintro rfl;simp;omega
 ·intro h;rw [←h];simp
theorem Sx (s :ByteArray) (w :World) (hs :s.size≤maxLen) (h0 :0<s.size) :
  Calls Tryz.prog 63 #[.string s] w fun e w'=>e= .returned (.tuple #[(fv s.data.toList).1.val, .int .i64 (fv s.data.toList).2]) ∧Below w.heap.size w w' :=by
 have g0 :s.data.toList.getD 0 0=s[0] :=Jn s 0 h0
 have q1 :s[0] =1↔s[0].toNat=1 :=Sw s[0] 1 (by omega)
 have q2 :s[0] =2↔s[0].toNat=2 :=Sw s[0] 2 (by omega)
 have q3 :s[0] =3↔s[0].toNat=3 :=Sw s[0] 3 (by omega)
 by_cases h1 :s[0].toNat=1
 ·have e :fv s.data.toList= (zero,1) :=by unfold fv;rw [g0,if_pos (q1.2 h1)]
  rw [e];exact Sv s w h0 h1
 have n1 : ¬s[0] =1 :=fun h=>h1 (q1.1 h)
 by_cases h2 :s[0].toNat=2
 ·by_cases hl :s.size<5
  ·have e :fv s.data.toList= (zero,0) :=by unfold fv;rw [g0,if_neg n1,if_pos (q2.2 h2),if_pos (by rw [Cn];exact hl)]
   rw [e];exact Gj s w 113 h0 0 0 ⟨#[]⟩ 0 (.inl ⟨rfl,h2⟩) fun w=>O7 s w hl
  ·have e :fv s.data.toList= (⟨1,n4 s.data.toList - 1073741824,⟨#[]⟩⟩,5) :=by unfold fv;rw [g0,if_neg n1,if_pos (q2.2 h2),if_neg (by rw [Cn];exact hl)]
   rw [e];exact Gj s w 113 h0 1 _ ⟨#[]⟩ 5 (.inl ⟨rfl,h2⟩) fun w=>Qa s w (by omega) hs
 have n2 : ¬s[0] =2 :=fun h=>h2 (q2.1 h)
 by_cases h3 :s[0].toNat=3
 ·by_cases hl :Lib.indexByte s.data.toList 0<0
  ·have e :fv s.data.toList= (zero,0) :=by unfold fv;rw [g0,if_neg n1,if_neg n2,if_pos (q3.2 h3),if_pos hl]
   rw [e];exact Gj s w 114 h0 0 0 ⟨#[]⟩ 0 (.inr ⟨rfl,h3⟩) fun w=>Ss s w hl
  ·obtain ⟨i,hi⟩ : ∃i :Nat,Lib.indexByte s.data.toList 0=i := ⟨(Lib.indexByte s.data.toList 0).toNat,by omega⟩
   have hsome := (Lib.indexByte_some hi).1
   have hlt :i<s.size :=by rw [←Cn];exact (List.getElem?_eq_some_iff.1 hsome).1
   have hpos :1≤i :=by
    rcases Nat.eq_zero_or_pos i with rfl | h
    ·rw [List.getD_eq_getElem?_getD,hsome] at g0
     simp at g0
     rw [←g0] at h3
     simp at h3
    ·exact h
   have e :fv s.data.toList= (⟨2,0,str ((s.data.toList.drop 1).take (i - 1))⟩,i+1) :=by
    unfold fv;rw [g0,if_neg n1,if_neg n2,if_pos (q3.2 h3),if_neg hl,hi];simp
   have e2 :s.extract 1 i=str ((s.data.toList.drop 1).take (i - 1)) :=Lib.extract_eq s 1 i
   rw [e]
   refine Gj s w 114 h0 2 0 _ _ (.inr ⟨rfl,h3⟩) fun w=> ?_
   rw [←e2]
   exact Su s w i hi hpos hlt hs
 have n3 : ¬s[0] =3 :=fun h=>h3 (q3.1 h)
 have e :fv s.data.toList= (zero,0) :=by unfold fv;rw [g0,if_neg n1,if_neg n2,if_neg n3]
 rw [e];exact Qb s w h0 h1 h2 h3
end Go.Proofs.YthehiijgnepcfaaGreat

namespace Go.Proofs.YthehiijgnepcfaaGreat
open Go.RowKit
theorem Aac : (Tryz.prog.info? 32).map (fun i=> (i.zero,i.size,i.bytes)) =some (some (.agg #[.int .i64 0, .int .i64 0, .string ⟨#[]⟩]),3,32) :=by kernel_rfl
def El (base :Nat) (l :List UInt8) (e :Ending) (w' :World) :Prop :=
 match vals l with
 | some L=> ∃lv,e= .returned (.tuple #[lv, .int .i64 0]) ∧w'.ownsRow base 32 3 lv L.length (Bw L)
 | none=>e= .returned (.tuple #[.slice none 0 0, .int .i64 1])
set_option maxHeartbeats 2000000 in
theorem Iq (s :ByteArray) (w :World) (hs :s.size*32≤140737488355328) :
  Calls Tryz.prog 27 #[.string s] w fun e w'=>El w.heap.size s.data.toList e w'∧Below w.heap.size w w' :=by
 obtain ⟨i0,hi,hz0,hz1,hz2⟩ :=info_parts Aac
 go_enter Tryz.func27,Tryz.ntmps27
 go_wp2
 go_loopw [0,4] (fun sv lv wr=> ∃ (t :ByteArray) (L :List V),sv= .string t∧L.length+t.size≤s.size∧vals s.data.toList= (vals t.data.toList).map (L++ ·) ∧wr.ownsRow w.heap.size 32 3 lv L.length (Bw L) ∧Below w.heap.size w wr) (fun sv _ _=>match sv with | .string t=>t.size | _=>0)
 case atStart=>exact ⟨s,[],rfl,by simp,by simp,World.ownsRow_nil _ _ _ _,Below.refl _ _⟩
 case round=>
  obtain ⟨t,L,rfl,hlen,hv,hown,hbel⟩ :=hrel
  have HV :Hid (vals s.data.toList= (vals t.data.toList).map (L++ ·)) :=hv
  clear hv
  have hsz :=hbel.size
  by_cases ht :t.size=0
  ·have hemp :t.toList.isEmpty=true :=by rw [Gr];simp [ht]
   have hnil :t.data.toList= [] :=by have :=Cn t;rw [ht] at this;exact List.eq_nil_of_length_eq_zero this
   have HL :Hid (vals s.data.toList=some L) :=by show vals s.data.toList=some L;have :=HV.out;rw [hnil,P4] at this;simpa using this
   clear hnil ht
   go_wp2
   go_ret2
   refine ⟨?_,hbel⟩
   unfold El
   rw [HL.out]
   exact ⟨_,rfl,hown⟩
  ·have hpos :0<t.size :=by omega
   have hmax :t.size≤maxLen :=by simp only [maxLen];omega
   have hne :t.data.toList≠ [] :=by intro h;have :=Cn t;rw [h] at this;simp at this;omega
   have hle :=Aif t.data.toList hne
   rw [Cn] at hle
   have hemp :t.toList.isEmpty=false :=by rw [Gr];exact decide_eq_false ht
   have hfv0 :=fun w=>Sx t w hmax hpos
   obtain ⟨⟨k,n,x⟩,z,hvz⟩ : ∃v z,fv t.data.toList= (v,z) := ⟨_,_,rfl⟩
   rw [hvz] at hle hfv0
   simp only at hle
   have hfv : ∀w :World,Calls Tryz.prog 63 #[.string t] w fun e w'=>e= .returned (.tuple #[.agg #[.int .i64 k, .int .i64 n, .string x], .int .i64 (z :Int)]) ∧Below w.heap.size w w' :=hfv0
   clear hfv0
   have HVZ :Hid (fv t.data.toList= (⟨k,n,x⟩,z)) :=hvz
   have HNE :Hid (t.data.toList≠ []) :=hne
   have hx :x.size≤maxLen :=by
    have :=Zw t.data.toList
    rw [hvz,Cn] at this
    exact Nat.le_trans this hmax
   clear hvz hne
   unfold maxLen at hmax
   have hgood :=fun w=>Hw ⟨k,n,x⟩ w hx
   by_cases hz :z=0
   ·subst hz
    have HN :Hid (vals s.data.toList=none) :=by show vals s.data.toList=none;have :=HV.out;rw [P5 HNE.out (by rw [HVZ.out];exact .inl rfl)] at this;simpa using this
    go_wp2_with (go_at_call 63;go_must (refine (hfv _).mono ?_;rintro e w1 ⟨rfl,hb1⟩))
    go_ret2
    have hs1 :=hb1.size
    refine ⟨by unfold El;rw [HN.out];rfl,(hbel.trans (hb1.mono hsz)).alloc (by omega) _⟩
   ·have hzz : (z :Int) ≠0 :=by omega
    cases hg :good ⟨k,n,x⟩
    ·have HN :Hid (vals s.data.toList=none) :=by show vals s.data.toList=none;have :=HV.out;rw [P5 HNE.out (by rw [HVZ.out];exact .inr hg)] at this;simpa using this
     rw [hg] at hgood
     have hd : ((z :Int) ==0) =false :=by simp;omega
     go_wp2_with (first | (go_at_call 63;go_must (refine (hfv _).mono ?_;rintro e w1 ⟨rfl,hb1⟩)) | (go_at_call 57;go_must (refine (hgood _).mono ?_;rintro e w2 ⟨rfl,rfl⟩)))
     go_ret2
     have hs1 :=hb1.size
     refine ⟨by unfold El;rw [HN.out];rfl,((hbel.trans (hb1.mono hsz)).alloc (by omega) _).alloc (by simp;omega) _⟩
    ·have HS :Hid (vals s.data.toList= (vals (t.extract z t.size).data.toList).map ((L++ [⟨k,n,x⟩]) ++ ·)) :=by
      have h1 :=HV.out
      have h2 :=No HNE.out (by rw [HVZ.out];exact hz) (by rw [HVZ.out];exact hg)
      rw [HVZ.out] at h2
      rw [h2] at h1
      show _=_
      rw [h1,Xv]
      cases vals (t.data.toList.drop z) <;>simp
     rw [hg] at hgood
     have hd : ((z :Int) ==0) =false :=by simp;omega
     go_wp2_with (first | (go_at_call 63;go_must (refine (hfv _).mono ?_;rintro e w1 ⟨rfl,hb1⟩)) | (go_at_call 57;go_must (refine (hgood _).mono ?_;rintro e w2 ⟨rfl,rfl⟩)) | (at_builtin;go_must (refine wpList_append_own _ rfl (.tmp 21) (.tmp 23) 55 rfl w.heap.size 32 i0 (.agg #[.int .i64 0, .int .i64 0, .string ⟨#[]⟩]) 3 32 Tryz.underlying55 hi hz0 hz1 hz2 rfl (by decide) _ _ _ rfl ((((Ar hown hb1).alloc _).alloc _).alloc _) ⟨w1.heap.size+1+1,0,none⟩ 1 1 [.int .i64 k, .int .i64 n, .string x] rfl rfl ?_ ?_ ?_ ?_ ?_ ?_)))
     ·have N :=Cl ((w1.alloc (Obj.cells #[Value.int IntKind.i64 k,Value.int IntKind.i64 n,Value.string x] 32)).alloc (Obj.cells #[Value.int IntKind.i64 k,Value.int IntKind.i64 n,Value.string x] 32)) [.int .i64 k, .int .i64 n, .string x] 32
      simpa using N
     ·intro u hu;simp at hu;rcases hu with rfl | rfl | rfl<;>rfl
     ·simp only [maxLen];omega
     ·omega
     ·have :=hb1.size;simp;omega
     ·intro lv1 w2 hown2 hg2 _
      have hs1 :=hb1.size
      have Hown := (((Ar hown hb1).alloc (Obj.cells #[Value.int IntKind.i64 k,Value.int IntKind.i64 n,Value.string x] 32)).alloc (Obj.cells #[Value.int IntKind.i64 k,Value.int IntKind.i64 n,Value.string x] 32)).alloc (Obj.cells #[Value.int IntKind.i64 k,Value.int IntKind.i64 n,Value.string x] 32)
      have hb2 :Below w.heap.size w w2 := ((((hbel.trans (hb1.mono hsz)).alloc (by omega) _).alloc (by simp;omega) _).alloc (by simp;omega) _).trans (Dl Hown (by simp;omega) hg2)
      have ho2 :w2.ownsRow w.heap.size 32 3 lv1 (L++ [(⟨k,n,x⟩ :V)]).length (Bw (L++ [⟨k,n,x⟩])) :=by rw [X9,List.length_append];exact hown2
      clear Hown hown2 hg2 hown hbel hb1 hfv hgood
      go_wp2
      go_roundw
      case rel=>exact ⟨_,_,rfl,by simp;omega,HS.out,ho2,hb2⟩
      case measure=>simp;omega
end Go.Proofs.YthehiijgnepcfaaGreat

namespace Go.Proofs.YthehiijgnepcfaaGreat
open Go.RowKit
theorem Age (L :List V) (v :Value) (w :World) (hv :Bp w v L) (hlen :L.length*32≤140737488351232) (hss : ∀v∈L,v.s.size≤maxLen) :
  Calls Tryz.prog 101 #[v] w fun e w'=>e= .returned (.tuple #[.string (str (Ax L).1), .int .i64 (Ax L).2]) ∧Below w.heap.size w w' :=by
 rcases hv with ⟨⟨ao,cap,rfl,_⟩,rfl⟩ | ⟨b,off,cap,rfl,hb,hL⟩
 ·exact Ad3 ao cap w
 ·exact Ad2 L b off cap w hL hb hlen hss
end Go.Proofs.YthehiijgnepcfaaGreat

namespace Go.Proofs.YthehiijgnepcfaaGreat
open Go.RowKit
def Mj :Elem V where
 size :=3
 R _ _ v c :=c=v.cells
 len h :=by subst h;rfl
 keep _ h :=h
 mono _ h :=h
def E9 :Elem (List V) where
 size :=1
 R F w l c := ∃sv,c= [sv] ∧IsL Mj F w sv l
 len h :=by obtain ⟨sv,rfl,_⟩ :=h;rfl
 keep hk h :=by obtain ⟨sv,h1,h2⟩ :=h;exact ⟨sv,h1,h2.keep hk⟩
 mono hk h :=by obtain ⟨sv,h1,h2⟩ :=h;exact ⟨sv,h1,h2.mono hk⟩
theorem Ajn {F :Nat→Prop} {w :World} : ∀ {l :List V} {cs :List Value},All Mj F w l cs↔cs=Bw l
 | [],cs=>Iff.rfl
 | v ::l,cs=>by
  have e :Bw (v ::l) =v.cells++Bw l :=by simp [Bw]
  rw [e]
  constructor
  ·rintro ⟨c,rest,rfl,h2,h3⟩
   rw [Ajn.1 h3,show c=v.cells from h2]
  ·rintro rfl
   exact ⟨v.cells,Bw l,rfl,rfl,Ajn.2 rfl⟩
theorem I1 {F :Nat→Prop} {w :World} {sv :Value} {l :List V} (h :IsL Mj F w sv l) :Bp w sv l :=by
 obtain ⟨cs,h1,h2⟩ :=h
 have :=Ajn.1 h2
 subst this
 rcases h1.2 with ⟨h0,ao,cap,rfl,hc⟩ | ⟨h0,b,off,cap,rfl,_,hb,_,_,hcell⟩
 ·exact .inl ⟨⟨ao,cap,rfl,hc⟩,List.eq_nil_of_length_eq_zero h0⟩
 ·refine .inr ⟨b,off,cap,rfl,hb,fun i v hi=> ?_⟩
  obtain ⟨a0,a1,a2⟩ :=La l i v hi
  exact ⟨hcell _ _ a0,by rw [Nat.add_assoc];exact hcell _ _ a1,by rw [Nat.add_assoc];exact hcell _ _ a2⟩
theorem Y8 {F :Nat→Prop} {w :World} {base :Nat} {lv :Value} {L :List V} (h :w.ownsRow base 32 3 lv L.length (Bw L)) (hF : ∀k,base≤k→F k) :IsL Mj F w lv L :=
 ⟨Bw L,Fm.of_own h hF,Ajn.2 rfl⟩
end Go.Proofs.YthehiijgnepcfaaGreat


/-
  6 texts of this proof in one, in build order: Plain, XPlain, Mem, Row, XMem, StmPlain.
-/
import Derived.WalkKit
import Derived.Lib.Bytealg
import Derived.Lib.IndexLaws
import Derived.WalkSpells
import Derived.Laws.AppendOwn
set_option linter.unusedSimpArgs false
set_option linter.unusedVariables false
namespace Go.Proofs.YtmgkcjiejmhgcaaGreatDoor
open Go.RowKit
structure V where
 k :Int
 n :Int
 s :ByteArray
def V.val (v :V) :Value := .agg #[.int .i64 v.k, .int .i64 v.n, .string v.s]
def V.cells (v :V) :List Value := [.int .i64 v.k, .int .i64 v.n, .string v.s]
def Ho (c :Int) :Bool :=decide (32≤c) &&decide (c≤126) && (c !=39)
def D1 (l :List UInt8) :Bool :=l.all fun c=>Ho (c.toNat :Int)
def Ey (v :V) :Bool :=
 if v.k=0 then decide (v.n=0) &&decide (v.s.size=0)
 else if v.k=1 then decide (-1000000≤v.n) &&decide (v.n≤1000000) &&decide (v.s.size=0)
 else if v.k=2 then decide (v.n=0) &&decide (v.s.size≤8) &&D1 v.s.data.toList
 else false
theorem A6 {k :IntKind} {a b :Int} (h :a=b) :Ending.returned (.int k a) = .returned (.int k b) :=by rw [h]
theorem Aj {a b :Bool} (h :a=b) :Ending.returned (.bool a) = .returned (.bool b) :=by rw [h]
theorem K5 (s :ByteArray) (k :Nat) (h :k<s.size) :s.data.toList.take (k+1) =s.data.toList.take k++ [s[k]] :=by
 rw [List.take_succ_eq_append_getElem (by simpa using h)];rfl
theorem Qo (s :ByteArray) (k :Nat) (h :s.size≤k) :s.data.toList.take k=s.data.toList :=
 List.take_of_length_le (by simpa using h)
theorem Np (l :List UInt8) (c :UInt8) :D1 (l++ [c]) = (D1 l&&Ho (c.toNat :Int)) :=by
 simp [D1]
theorem Vg (s :ByteArray) (k :Nat) (h :k<s.size) (hb :Ho (s[k].toNat :Int) =false) :D1 s.data.toList=false :=by
 unfold D1
 rw [List.all_eq_false]
 refine ⟨s[k], ?_,by simp [hb]⟩
 have :s[k] =s.data.toList[k]'(by simpa using h) :=rfl
 rw [this];exact List.getElem_mem _
def be4 (m :Nat) :List UInt8 := [UInt8.ofNat (m/16777216),UInt8.ofNat (m/65536),UInt8.ofNat (m/256),UInt8.ofNat m]
def keyOf (v :V) :List UInt8 :=
 if v.k=0 then [1] else if v.k=1 then 2 ::be4 (v.n+1073741824).toNat else 3 :: (v.s.data.toList++ [0])
theorem Hp (s :ByteArray) :s.data.toList.length=s.size :=by simp
def str (l :List UInt8) :ByteArray := ⟨l.toArray⟩
def Abr (L :List V) :List UInt8 :=L.flatMap keyOf
def K6 (w :World) (b off :Nat) (L :List V) :Prop :=
 ∀i v,L[i]? =some v→w.cell? ⟨b,off+i*3,none⟩ =some (.int .i64 v.k) ∧w.cell? ⟨b,off+i*3+1,none⟩ =some (.int .i64 v.n) ∧w.cell? ⟨b,off+i*3+2,none⟩ =some (.string v.s)
theorem K6.below {w w' :World} {b off B :Nat} {L :List V} (h :K6 w b off L) (hb :Below B w w') (hlt :b<B) :K6 w' b off L :=by
 intro i v hi
 obtain ⟨h1,h2,h3⟩ :=h i v hi
 exact ⟨(hb.cell hlt).trans h1,(hb.cell hlt).trans h2,(hb.cell hlt).trans h3⟩
def zero :V := ⟨0,0,⟨#[]⟩⟩
def n4 (l :List UInt8) :Int := ((l.getD 1 0).toNat :Int) *16777216+ ((l.getD 2 0).toNat :Int) *65536+ ((l.getD 3 0).toNat :Int) *256+ ((l.getD 4 0).toNat :Int)
def fv (l :List UInt8) :V×Nat :=
 if l.getD 0 0=1 then (zero,1)
 else if l.getD 0 0=2 then (if l.length<5 then (zero,0) else (⟨1,n4 l - 1073741824,⟨#[]⟩⟩,5))
 else if l.getD 0 0=3 then (if Lib.indexByte l 0<0 then (zero,0) else (⟨2,0,str ((l.drop 1).take ((Lib.indexByte l 0).toNat - 1))⟩,(Lib.indexByte l 0).toNat+1))
 else (zero,0)
end Go.Proofs.YtmgkcjiejmhgcaaGreatDoor

namespace Go.Proofs.YtmgkcjiejmhgcaaGreatDoor
abbrev Wd :=ByteArray
inductive E where
 | mk (op :Int) (v :V) (s name :Wd) (n :Int) (l :List E) :E
abbrev noW :Wd := ⟨#[]⟩
def E.nil :E := .mk 0 zero noW noW 0 []
end Go.Proofs.YtmgkcjiejmhgcaaGreatDoor

namespace Go.Proofs.YtmgkcjiejmhgcaaGreatDoor
open Go.RowKit
theorem Aa {w :World} {b :Nat} {arr :Array Value} {t :TypeId} {fr :Nat×Nat} (h :w.heap[b]? =some (.cells arr t fr)) {j :Nat} {u :Value} (hj :arr[j]? =some u) :w.cell? ⟨b,j,none⟩ =some u :=by
 simp [World.cell?,h,hj]
theorem Ab (w :World) (o :Obj) : (w.alloc o).heap[w.heap.size]? =some o :=by
 show (w.heap.push o)[w.heap.size]? =_
 simp
theorem Ae {w :World} {b :Nat} {x :Obj} (h :w.heap[b]? =some x) (o :Obj) : (w.alloc o).heap[b]? =some x :=by
 have :=lt_of_block h
 rw [Below.heap_alloc _ _ _ this];exact h
theorem Bf {w w' :World} {row :Option Nat} (hg :w.grownBy w' row) {b :Nat} {x :Obj} (h :w.heap[b]? =some x) (hne :some b≠row) :w'.heap[b]? =some x :=by
 rw [hg.block b (lt_of_block h) hne];exact h
theorem Cp (w :World) (l :List Value) (t :TypeId) : ∀j u,l[j]? =some u→ (w.alloc (.cells l.toArray t)).cell? ((⟨w.heap.size,0,none⟩ :Addr).add j) =some u :=by
 intro j u hj
 rw [Addr.add_lit]
 simp only [Nat.zero_add]
 exact Aa (Ab w _) (by simpa using hj)
theorem Y3 {W w1 :World} (hb :Below W.heap.size W w1) : (∀b o,b<W.heap.size→w1.cell? ⟨b,o,none⟩ =W.cell? ⟨b,o,none⟩) ∧ (∀b o,b<W.heap.size→w1.frozen? ⟨b,o,none⟩ =W.frozen? ⟨b,o,none⟩) :=
 ⟨fun b o h=>hb.cell (p := ⟨b,o,none⟩) h,fun b o h=>hb.frozen (p := ⟨b,o,none⟩) h⟩
theorem Az {w w' :World} {base :Nat} {e :TypeId} {size :Nat} {v :Value} {n :Nat} {xs :List Value} (h :w.ownsRow base e size v n xs) (hb :Below w.heap.size w w') :w'.ownsRow base e size v n xs :=by
 obtain ⟨h1,h2⟩ :=h
 refine ⟨h1, ?_⟩
 rcases h2 with h2 | ⟨g,cap,cur,hv,hg,hh,r⟩
 ·exact Or.inl h2
 ·exact Or.inr ⟨g,cap,cur,hv,hg,by rw [hb.block g (lt_of_block hh)];exact hh,r⟩
theorem Ak {w a b :World} (h :Below w.heap.size w a) (k :Below a.heap.size a b) :Below w.heap.size w b :=h.trans (k.mono h.size)
end Go.Proofs.YtmgkcjiejmhgcaaGreatDoor

namespace Go.Proofs.YtmgkcjiejmhgcaaGreatDoor
open Go.RowKit
def Ih (size :Nat) (w :World) (sv :Value) (n :Nat) (cs :List Value) :Prop :=
 cs.length=n*size∧
 ((n=0∧ ∃ao cap,sv= .slice ao 0 cap∧ (ao=none→cap=0)) ∨
 (0<n∧ ∃b off cap,sv= .slice (some ⟨b,off,none⟩) n cap∧b<w.heap.size∧n≤cap∧cap≤maxLen∧ ∀j u,cs[j]? =some u→w.cell? ⟨b,off+j,none⟩ =some u))
theorem Ih.keep {size :Nat} {w w' :World} {B :Nat} {sv :Value} {n :Nat} {cs :List Value} (h :Ih size w sv n cs) (hb :Below B w w') (hB :w.heap.size≤B) :Ih size w' sv n cs :=by
 obtain ⟨h1,h2⟩ :=h
 refine ⟨h1, ?_⟩
 rcases h2 with h2 | ⟨h0,b,off,cap,rfl,hlt,hc,hm,hcell⟩
 ·exact .inl h2
 ·exact .inr ⟨h0,b,off,cap,rfl,Nat.lt_of_lt_of_le hlt (hb.size),hc,hm,fun j u hj=>by rw [hb.cell (p := ⟨b,off+j,none⟩) (Nat.lt_of_lt_of_le hlt hB)];exact hcell j u hj⟩
theorem Ih.below {size :Nat} {w w' :World} {sv :Value} {n :Nat} {cs :List Value} (h :Ih size w sv n cs) (hb :Below w.heap.size w w') :Ih size w' sv n cs :=h.keep hb (Nat.le_refl _)
theorem Ih.shape {size :Nat} {w :World} {sv :Value} {n :Nat} {cs :List Value} (h :Ih size w sv n cs) : ∃ao cap,sv= .slice ao n cap :=by
 rcases h.2 with ⟨rfl,ao,cap,rfl,_⟩ | ⟨_,b,off,cap,rfl,_⟩
 ·exact ⟨ao,cap,rfl⟩
 ·exact ⟨_,cap,rfl⟩
theorem Ih.nil (size :Nat) (w :World) :Ih size w (.slice none 0 0) 0 [] := ⟨by simp, .inl ⟨rfl,none,0,rfl,fun _=>rfl⟩⟩
theorem Ih.of_own {size :Nat} {w :World} {base :Nat} {e :TypeId} {v :Value} {n :Nat} {cs :List Value} (h :w.ownsRow base e size v n cs) :Ih size w v n cs :=by
 refine ⟨h.1, ?_⟩
 rcases h.2 with ⟨rfl,rfl⟩ | ⟨g,cap,cur,rfl,hg,hh,hn,hm,_⟩
 ·exact .inl ⟨rfl,none,0,rfl,fun _=>rfl⟩
 ·rcases Nat.eq_zero_or_pos n with rfl | h0
  ·exact .inl ⟨rfl,_,cap,rfl,fun h=>by cases h⟩
  ·refine .inr ⟨h0,g,0,cap,rfl,lt_of_block hh,hn,hm,fun j u hj=> ?_⟩
   have :=h.cells (g :=g) rfl j u hj
   rwa [Addr.add_lit] at this
def K7 (w :World) (sv :Value) (L :List ByteArray) :Prop :=Ih 1 w sv L.length (L.map .string)
theorem K7.below {w w' :World} {sv :Value} {L :List ByteArray} (h :K7 w sv L) (hb :Below w.heap.size w w') :K7 w' sv L :=Ih.below h hb
theorem K7.keep {w w' :World} {B :Nat} {sv :Value} {L :List ByteArray} (h :K7 w sv L) (hb :Below B w w') (hB :w.heap.size≤B) :K7 w' sv L :=Ih.keep h hb hB
theorem K7.at {w :World} {sv :Value} {L :List ByteArray} (h :K7 w sv L) (h0 :0<L.length) : ∃b off cap,sv= .slice (some ⟨b,off,none⟩) L.length cap∧b<w.heap.size∧L.length≤cap∧cap≤maxLen∧ ∀i s,L[i]? =some s→w.cell? ⟨b,off+i,none⟩ =some (.string s) :=by
 rcases h.2 with ⟨h1,_⟩ | ⟨_,b,off,cap,rfl,hb,hc,hm,hcell⟩
 ·omega
 ·exact ⟨b,off,cap,rfl,hb,hc,hm,fun i s hi=>hcell i _ (by rw [List.getElem?_map,hi];rfl)⟩
end Go.Proofs.YtmgkcjiejmhgcaaGreatDoor

namespace Go.Proofs.YtmgkcjiejmhgcaaGreatDoor
open Go.RowKit
structure Keeps (F :Nat→Prop) (w w' :World) :Prop where
 size :w.heap.size≤w'.heap.size
 block : ∀k,F k→k<w.heap.size→w'.heap[k]? =w.heap[k]?
theorem Keeps.refl (F :Nat→Prop) (w :World) :Keeps F w w := ⟨Nat.le_refl _,fun _ _ _=>rfl⟩
theorem Keeps.trans {F :Nat→Prop} {u v w :World} (h :Keeps F u v) (k :Keeps F v w) :Keeps F u w :=
 ⟨Nat.le_trans h.size k.size,fun i h1 h2=> (k.block i h1 (Nat.lt_of_lt_of_le h2 h.size)).trans (h.block i h1 h2)⟩
theorem Ar {F :Nat→Prop} {w w' :World} (h :Below w.heap.size w w') :Keeps F w w' := ⟨h.size,fun k _ hk=>h.block k hk⟩
theorem Keeps.set {F :Nat→Prop} {w w' :World} (h :Keeps F w w') {b :Nat} (hb : ¬F b) (o :Nat) (u :Value) :Keeps F w (w'.setCell ⟨b,o,none⟩ u) :=
 ⟨by simp [World.setCell];exact h.size,fun k hk hl=> (Below.heap_setCell w' ⟨b,o,none⟩ u k (show k≠b by rintro rfl;exact hb hk)).trans (h.block k hk hl)⟩
theorem Keeps.alloc {F :Nat→Prop} {w w' :World} (h :Keeps F w w') (o :Obj) :Keeps F w (w'.alloc o) :=h.trans (Ar ((Below.refl _ _).alloc (Nat.le_refl _) o))
theorem Keeps.drew {F :Nat→Prop} {w w' :World} (h :Keeps F w w') :Keeps F w w'.drew := ⟨h.size,h.block⟩
theorem Keeps.below {F :Nat→Prop} {w v v' :World} (h :Keeps F w v) (hb :Below v.heap.size v v') :Keeps F w v' :=h.trans (Ar hb)
theorem Keeps.mono {F F' :Nat→Prop} {w w' :World} (h :Keeps F w w') (hF : ∀k,F' k→F k) :Keeps F' w w' := ⟨h.size,fun k hk=>h.block k (hF k hk)⟩
abbrev Fr (n :Nat) :Nat→Prop :=fun k=>n≤k
def Cu (F :Nat→Prop) (size :Nat) (w :World) (sv :Value) (n :Nat) (cs :List Value) :Prop :=
 cs.length=n*size∧
 ((n=0∧ ∃ao cap,sv= .slice ao 0 cap∧ (ao=none→cap=0)) ∨
 (0<n∧ ∃b off cap,sv= .slice (some ⟨b,off,none⟩) n cap∧F b∧b<w.heap.size∧n≤cap∧cap≤maxLen∧ ∀j u,cs[j]? =some u→w.cell? ⟨b,off+j,none⟩ =some u))
theorem Cu.keep {F :Nat→Prop} {size :Nat} {w w' :World} {sv :Value} {n :Nat} {cs :List Value} (h :Cu F size w sv n cs) (hk :Keeps F w w') :Cu F size w' sv n cs :=by
 obtain ⟨h1,h2⟩ :=h
 refine ⟨h1, ?_⟩
 rcases h2 with h2 | ⟨h0,b,off,cap,rfl,hB,hlt,hc,hm,hcell⟩
 ·exact .inl h2
 ·refine .inr ⟨h0,b,off,cap,rfl,hB,Nat.lt_of_lt_of_le hlt hk.size,hc,hm,fun j u hj=> ?_⟩
  rw [World.cell?_of_block (w :=w) (hk.block b hB hlt)]
  exact hcell j u hj
theorem Cu.mono {F F' :Nat→Prop} {size :Nat} {w :World} {sv :Value} {n :Nat} {cs :List Value} (h :Cu F size w sv n cs) (hB : ∀k,k<w.heap.size→F k→F' k) :Cu F' size w sv n cs :=by
 obtain ⟨h1,h2⟩ :=h
 refine ⟨h1, ?_⟩
 rcases h2 with h2 | ⟨h0,b,off,cap,h3,h4,h5⟩
 ·exact .inl h2
 ·exact .inr ⟨h0,b,off,cap,h3,hB _ h5.1 h4,h5⟩
theorem Cu.row {F :Nat→Prop} {size :Nat} {w :World} {sv :Value} {n :Nat} {cs :List Value} (h :Cu F size w sv n cs) :Ih size w sv n cs :=by
 obtain ⟨h1,h2⟩ :=h
 refine ⟨h1, ?_⟩
 rcases h2 with h2 | ⟨h0,b,off,cap,h3,_,h5⟩
 ·exact .inl h2
 ·exact .inr ⟨h0,b,off,cap,h3,h5⟩
theorem Cu.shape {F :Nat→Prop} {size :Nat} {w :World} {sv :Value} {n :Nat} {cs :List Value} (h :Cu F size w sv n cs) : ∃ao cap,sv= .slice ao n cap :=h.row.shape
theorem Cu.nil (F :Nat→Prop) (size :Nat) (w :World) :Cu F size w (.slice none 0 0) 0 [] := ⟨by simp, .inl ⟨rfl,none,0,rfl,fun _=>rfl⟩⟩
theorem Cu.of_own {F :Nat→Prop} {size :Nat} {w :World} {base :Nat} {e :TypeId} {v :Value} {n :Nat} {cs :List Value} (h :w.ownsRow base e size v n cs) (hB : ∀k,base≤k→F k) :Cu F size w v n cs :=by
 refine ⟨h.1, ?_⟩
 rcases h.2 with ⟨rfl,rfl⟩ | ⟨g,cap,cur,rfl,hg,hh,hn,hm,_⟩
 ·exact .inl ⟨rfl,none,0,rfl,fun _=>rfl⟩
 ·rcases Nat.eq_zero_or_pos n with rfl | h0
  ·exact .inl ⟨rfl,_,cap,rfl,fun h=>by cases h⟩
  ·refine .inr ⟨h0,g,0,cap,rfl,hB g hg,lt_of_block hh,hn,hm,fun j u hj=> ?_⟩
   have :=h.cells (g :=g) rfl j u hj
   rwa [Addr.add_lit] at this
theorem Cu.new {F :Nat→Prop} {size n :Nat} {w :World} (l :List Value) (t :TypeId) (hl :l.length=n*size) (hB :F w.heap.size) (hn :0<n) (hm :n≤maxLen) :Cu F size (w.alloc (.cells l.toArray t)) (.slice (some ⟨w.heap.size,0,none⟩) n n) n l :=
 ⟨hl, .inr ⟨hn,w.heap.size,0,n,rfl,hB,by simp,Nat.le_refl _,hm,fun j u hj=>by
  have :=Cp w l t j u hj
  rwa [Addr.add_lit] at this⟩⟩
abbrev Ad (op :Int) (x :V) (s name :Wd) (n :Int) (sv :Value) :Array Value := #[.int .i64 op, .int .i64 x.k, .int .i64 x.n, .string x.s, .string s, .string name, .int .i64 n,sv]
mutual
def IsE (F :Nat→Prop) (w :World) :E→Value→Prop
 | .mk op x s name n l,v=> ∃sv cs,v= .agg (Ad op x s name n sv) ∧Cu F 8 w sv l.length cs∧Cs F w l cs
def Cs (F :Nat→Prop) (w :World) :List E→List Value→Prop
 | [],cs=>cs= []
 | e ::l,cs=> ∃c rest,cs=c++rest∧c.length=8∧IsE F w e (.agg c.toArray) ∧Cs F w l rest
end
mutual
theorem IsE.keep {F :Nat→Prop} {w w' :World} (hk :Keeps F w w') : ∀ (e :E) (v :Value),IsE F w e v→IsE F w' e v
 | .mk op x s name n l,v,h=>by
  rw [IsE] at h⊢
  obtain ⟨sv,cs,h1,h2,h3⟩ :=h
  exact ⟨sv,cs,h1,h2.keep hk,Cs.keep hk l cs h3⟩
theorem Cs.keep {F :Nat→Prop} {w w' :World} (hk :Keeps F w w') : ∀ (l :List E) (cs :List Value),Cs F w l cs→Cs F w' l cs
 | [],cs,h=>by rw [Cs] at h⊢;exact h
 | e ::l,cs,h=>by
  rw [Cs] at h⊢
  obtain ⟨c,rest,h1,h2,h3,h4⟩ :=h
  exact ⟨c,rest,h1,h2,IsE.keep hk e _ h3,Cs.keep hk l rest h4⟩
end
mutual
theorem IsE.mono {F F' :Nat→Prop} {w :World} (hk : ∀k,k<w.heap.size→F k→F' k) : ∀ (e :E) (v :Value),IsE F w e v→IsE F' w e v
 | .mk op x s name n l,v,h=>by
  rw [IsE] at h⊢
  obtain ⟨sv,cs,h1,h2,h3⟩ :=h
  exact ⟨sv,cs,h1,h2.mono hk,Cs.mono hk l cs h3⟩
theorem Cs.mono {F F' :Nat→Prop} {w :World} (hk : ∀k,k<w.heap.size→F k→F' k) : ∀ (l :List E) (cs :List Value),Cs F w l cs→Cs F' w l cs
 | [],cs,h=>by rw [Cs] at h⊢;exact h
 | e ::l,cs,h=>by
  rw [Cs] at h⊢
  obtain ⟨c,rest,h1,h2,h3,h4⟩ :=h
  exact ⟨c,rest,h1,h2,IsE.mono hk e _ h3,Cs.mono hk l rest h4⟩
end
def Gj (F :Nat→Prop) (w :World) (sv :Value) (l :List E) :Prop := ∃cs,Cu F 8 w sv l.length cs∧Cs F w l cs
theorem Gj.keep {F :Nat→Prop} {w w' :World} {sv :Value} {l :List E} (h :Gj F w sv l) (hk :Keeps F w w') :Gj F w' sv l :=by
 obtain ⟨cs,h1,h2⟩ :=h
 exact ⟨cs,h1.keep hk,Cs.keep hk l cs h2⟩
theorem Gj.mono {F F' :Nat→Prop} {w :World} {sv :Value} {l :List E} (h :Gj F w sv l) (hk : ∀k,k<w.heap.size→F k→F' k) :Gj F' w sv l :=by
 obtain ⟨cs,h1,h2⟩ :=h
 exact ⟨cs,h1.mono hk,Cs.mono hk l cs h2⟩
theorem Gj.nil (F :Nat→Prop) (w :World) :Gj F w (.slice none 0 0) [] := ⟨[],Cu.nil F 8 w,by rw [Cs]⟩
theorem Gj.shape {F :Nat→Prop} {w :World} {sv :Value} {l :List E} (h :Gj F w sv l) : ∃ao cap,sv= .slice ao l.length cap :=by
 obtain ⟨cs,h1,_⟩ :=h;exact h1.shape
theorem Dd {F :Nat→Prop} {w :World} {op :Int} {x :V} {s name :Wd} {n :Int} {l :List E} {sv :Value} (h :Gj F w sv l) :IsE F w (.mk op x s name n l) (.agg (Ad op x s name n sv)) :=by
 obtain ⟨cs,h1,h2⟩ :=h
 rw [IsE]
 exact ⟨sv,cs,rfl,h1,h2⟩
theorem IsE.open {F :Nat→Prop} {w :World} {op :Int} {x :V} {s name :Wd} {n :Int} {l :List E} {v :Value} (h :IsE F w (.mk op x s name n l) v) : ∃sv,v= .agg (Ad op x s name n sv) ∧Gj F w sv l :=by
 rw [IsE] at h
 obtain ⟨sv,cs,h1,h2,h3⟩ :=h
 exact ⟨sv,h1,cs,h2,h3⟩
theorem IsE.shape {F :Nat→Prop} {w :World} {e :E} {v :Value} (h :IsE F w e v) : ∃op x s name n ao k c,v= .agg (Ad op x s name n (.slice ao k c)) :=by
 cases e with
 | mk op x s name n l=>
  obtain ⟨sv,h1,h2⟩ :=h.open
  obtain ⟨ao,c,rfl⟩ :=h2.shape
  exact ⟨op,x,s,name,n,ao,_,c,h1⟩
theorem Mm {F :Nat→Prop} {w :World} : ∀ {l m :List E} {cs ds :List Value},Cs F w l cs→Cs F w m ds→Cs F w (l++m) (cs++ds)
 | [],m,cs,ds,h,k=>by rw [Cs] at h;subst h;exact k
 | e ::l,m,cs,ds,h,k=>by
  rw [Cs] at h
  obtain ⟨c,rest,rfl,h2,h3,h4⟩ :=h
  rw [List.cons_append,Cs]
  exact ⟨c,rest++ds,by simp,h2,h3,Mm h4 k⟩
theorem Xj {F :Nat→Prop} {w :World} {e :E} {c :List Value} (hc :c.length=8) (h :IsE F w e (.agg c.toArray)) :Cs F w [e] c :=by
 rw [Cs];exact ⟨c,[],by simp,hc,h,by rw [Cs]⟩
theorem Mn {F :Nat→Prop} {w :World} : ∀ {l :List E} {cs :List Value},Cs F w l cs→cs.length=l.length*8
 | [],cs,h=>by rw [Cs] at h;subst h;rfl
 | e ::l,cs,h=>by
  rw [Cs] at h
  obtain ⟨c,rest,rfl,h2,_,h4⟩ :=h
  have :=Mn h4
  simp;omega
theorem Qp {F :Nat→Prop} {w :World} : ∀ {l :List E} {cs :List Value} {k :Nat} {e :E},Cs F w l cs→l[k]? =some e→ ∃c :List Value,c.length=8∧IsE F w e (.agg c.toArray) ∧ ∀j u,c[j]? =some u→cs[k*8+j]? =some u
 | e ::l,cs,0,x,h,hk=>by
  rw [Cs] at h
  obtain ⟨c,rest,rfl,h2,h3,_⟩ :=h
  simp at hk;subst hk
  refine ⟨c,h2,h3,fun j u hj=> ?_⟩
  rw [List.getElem?_append_left (by have := (List.getElem?_eq_some_iff.1 hj).1;omega)]
  simpa using hj
 | e ::l,cs,k+1,x,h,hk=>by
  rw [Cs] at h
  obtain ⟨c,rest,rfl,h2,_,h4⟩ :=h
  simp only [List.getElem?_cons_succ] at hk
  obtain ⟨d,d1,d2,d3⟩ :=Qp h4 hk
  refine ⟨d,d1,d2,fun j u hj=> ?_⟩
  rw [List.getElem?_append_right (by omega),h2,show (k+1) *8+j - 8=k*8+j from by omega]
  exact d3 j u hj
 | [],_,_,_,_,hk=>by simp at hk
theorem Qq {F :Nat→Prop} {w :World} {b off n cap :Nat} {l :List E} {cs :List Value} (hr :Cu F 8 w (.slice (some ⟨b,off,none⟩) n cap) l.length cs) (ha :Cs F w l cs) {k :Nat} {e :E} (hk :l[k]? =some e) :
  ∃xo xk xn xs2 xs xm xi xa xl xc,IsE F w e (.agg #[.int .i64 xo, .int .i64 xk, .int .i64 xn, .string xs2, .string xs, .string xm, .int .i64 xi, .slice xa xl xc]) ∧ ∀V,Below w.heap.size w V→V.cell? ⟨b,off+k*8,none⟩ =some (.int .i64 xo) ∧V.cell? ⟨b,off+k*8+1,none⟩ =some (.int .i64 xk) ∧V.cell? ⟨b,off+k*8+2,none⟩ =some (.int .i64 xn) ∧V.cell? ⟨b,off+k*8+3,none⟩ =some (.string xs2) ∧V.cell? ⟨b,off+k*8+4,none⟩ =some (.string xs) ∧V.cell? ⟨b,off+k*8+5,none⟩ =some (.string xm) ∧V.cell? ⟨b,off+k*8+6,none⟩ =some (.int .i64 xi) ∧V.cell? ⟨b,off+k*8+7,none⟩ =some (.slice xa xl xc) :=by
 obtain ⟨c,c1,c2,c3⟩ :=Qp ha hk
 obtain ⟨xo,⟨xk,xn,xs2⟩,xs,xm,xi,xa,xl,xc,h⟩ :=c2.shape
 have hc :c= [.int .i64 xo, .int .i64 xk, .int .i64 xn, .string xs2, .string xs, .string xm, .int .i64 xi, .slice xa xl xc] :=by
  have :=congrArg Array.toList (Value.agg.inj h)
  simpa using this
 subst hc
 refine ⟨xo,xk,xn,xs2,xs,xm,xi,xa,xl,xc,c2,fun V hV=> ?_⟩
 have h0 :0<l.length :=by have := (List.getElem?_eq_some_iff.1 hk).1;omega
 rcases hr.2 with ⟨h1,_⟩ | ⟨_,b',o',c',he,_,hlt,_,_,hcell⟩
 ·omega
 ·cases he
  have g : ∀j u,([.int .i64 xo, .int .i64 xk, .int .i64 xn, .string xs2, .string xs, .string xm, .int .i64 xi, .slice xa xl xc] :List Value)[j]? =some u→V.cell? ⟨b,off+k*8+j,none⟩ =some u :=fun j u hj=>by
   rw [Nat.add_assoc]
   exact (hV.cell (p := ⟨b,off+ (k*8+j),none⟩) hlt).trans (hcell _ u (c3 j u hj))
  exact ⟨g 0 _ rfl,g 1 _ rfl,g 2 _ rfl,g 3 _ rfl,g 4 _ rfl,g 5 _ rfl,g 6 _ rfl,g 7 _ rfl⟩
theorem Cl {w :World} {g :Nat} {arr :Array Value} {t :TypeId} {fr :Nat×Nat} (h :w.heap[g]? =some (.cells arr t fr)) (j :Nat) (x :Value) : (w.setCell ⟨g,j,none⟩ x).heap[g]? =some (.cells (arr.setIfInBounds j x) t fr) :=by
 simp only [World.setCell,Array.getElem?_modify,if_true,h,Option.map_some]
 rfl
theorem A0 (w :World) (o1 o2 :Obj) : ((w.alloc o1).alloc o2).heap[w.heap.size+1]? =some o2 :=by
 have :=Ab (w.alloc o1) o2
 rwa [show (w.alloc o1).heap.size=w.heap.size+1 from by simp] at this
theorem Dl (w :World) (o1 o2 o3 :Obj) : (((w.alloc o1).alloc o2).alloc o3).heap[w.heap.size+2]? =some o3 :=by
 have :=Ab ((w.alloc o1).alloc o2) o3
 rwa [show ((w.alloc o1).alloc o2).heap.size=w.heap.size+2 from by simp] at this
theorem Aq (w :World) (o1 :Obj) :Below w.heap.size w (w.alloc o1) := (Below.refl _ _).alloc (Nat.le_refl _) _
theorem Bz (w :World) (o1 o2 :Obj) :Below w.heap.size w ((w.alloc o1).alloc o2) := (Aq w o1).alloc (by simp) _
theorem Fc (w :World) (o1 o2 o3 :Obj) :Below w.heap.size w (((w.alloc o1).alloc o2).alloc o3) := (Bz w o1 o2).alloc (by simp;omega) _
theorem Hq {w :World} {b g :Nat} (h :b≠g) (o j :Nat) (x :Value) : (w.setCell ⟨g,j,none⟩ x).cell? ⟨b,o,none⟩ =w.cell? ⟨b,o,none⟩ :=World.cell?_of_block (Below.heap_setCell w ⟨g,j,none⟩ x b h)
theorem Y4 {W w1 :World} {g :Nat} (h :Below W.heap.size W w1) (hg :g+3≤W.heap.size) :
  g+3≤w1.heap.size∧ (∀o,w1.cell? ⟨g,o,none⟩ =W.cell? ⟨g,o,none⟩) ∧ (∀o,w1.cell? ⟨g+1,o,none⟩ =W.cell? ⟨g+1,o,none⟩) ∧ (∀o,w1.cell? ⟨g+2,o,none⟩ =W.cell? ⟨g+2,o,none⟩) ∧ (∀o,w1.frozen? ⟨g+2,o,none⟩ =W.frozen? ⟨g+2,o,none⟩) :=
 ⟨Nat.le_trans hg h.size,fun o=>h.cell (p := ⟨g,o,none⟩) (by show g<_;omega),fun o=>h.cell (p := ⟨g+1,o,none⟩) (by show g+1<_;omega),fun o=>h.cell (p := ⟨g+2,o,none⟩) (by show g+2<_;omega),fun o=>h.frozen (p := ⟨g+2,o,none⟩) (by show g+2<_;omega)⟩
theorem Ag {C :Nat} {w w' :World} (h :Below C w w') :Keeps (fun k=>k<C) w w' := ⟨h.size,fun k hk _=>h.block k hk⟩
end Go.Proofs.YtmgkcjiejmhgcaaGreatDoor

namespace Go.Proofs.YtmgkcjiejmhgcaaGreatDoor
structure ColD where
 name :Wd
 ty :Int
 must :Bool
structure Stm where
 kind :Int
 name :Wd
 table :Wd
 col :Wd
 cols :List ColD
 rows :List (List E)
 sets :List (Wd×E)
 frm :List Wd
 out :List E
 wher :E
 order :List E
 down :Bool
 n :Int
def Stm.nil :Stm := ⟨0,noW,noW,noW,[],[],[],[],[],E.nil,[],false,0⟩
end Go.Proofs.YtmgkcjiejmhgcaaGreatDoor


/-
  9 texts of this proof in one, in build order: QShelf, Mem, Row, TMath, TMem, Shelf, TLib, Plain, Compare.
-/
import Derived.Shelf.Lays
import Derived.Shelf.Sort.Plain
import Derived.Shelf.Slices.CompactS
import Derived.Shelf.Small.Wraps
import Derived.Test.YthehiijgnepcfaaGreatProg
import Derived.WalkKit
import Derived.WalkSpells
import Derived.Laws.AppendOwn
import Derived.Lib.Strings
import Derived.Lib.Walk
import Derived.Sort.Walk0
import Derived.Shelf.SlGeneric
import Derived.Ground.Names2Prog
import Derived.Ground.Names8Prog
import Derived.Ground.SlsoProg
import Derived.Shelf.Slices.Clone
import Derived.Shelf.Slices.Cells
import Derived.Shelf.Spec.SearchS
import Derived.Shelf.Spec.SlicesInsert
import Derived.Shelf.Spec.SlicesInsertGrow
import Derived.Shelf.Spec.SlicesGrow
import Derived.Shelf.SlSorted.Search
import Derived.WalkLawsBesides
import Derived.Laws.AppendOwnNone
import Derived.Lib.Bytealg
import Derived.Lib.IndexLaws
import Derived.Test.YthehiijgnepcfaaGreatRows
import Derived.Deep.RegionHeld3
set_option linter.unusedSimpArgs false
set_option linter.unusedVariables false
namespace Go.Proofs
open Go.Shelf
def Tryz.laysSort_ren :Go.Shelf.Ren := ⟨fun | 190=>61 | 125=>112 | 258=>111 | 128=>153 | 129=>154 | 302=>145 | 303=>146 | 304=>147 | 305=>148 | 306=>149 | 307=>150 | 308=>108 | 309=>151 | 310=>152 | 333=>173 | 329=>174 | 330=>175 | 334=>176 | 335=>177 | 336=>143 | 344=>185 | n=>n,fun | 31=>29 | 9=>9 | 3=>3 | 46=>162 | 0=>0 | 51=>198 | 53=>200 | 4=>4 | 183=>192 | 182=>191 | 131=>114 | 5=>5 | 218=>212 | 222=>216 | 228=>220 | 229=>221 | n=>n,fun | n=>n⟩
theorem Tryz.laysSort :Go.Proofs.Lays.n190 Tryz.prog Tryz.laysSort_ren := {
 mixed :=by kernel_rfl
 f125 :=Tryz.func112.trans (congrArg some (by kernel_rfl))
 f128 :=Tryz.func153.trans (congrArg some (by kernel_rfl))
 f129 :=Tryz.func154.trans (congrArg some (by kernel_rfl))
 f190 :=Tryz.func61.trans (congrArg some (by kernel_rfl))
 f258 :=Tryz.func111.trans (congrArg some (by kernel_rfl))
 f302 :=Tryz.func145.trans (congrArg some (by kernel_rfl))
 f303 :=Tryz.func146.trans (congrArg some (by kernel_rfl))
 f304 :=Tryz.func147.trans (congrArg some (by kernel_rfl))
 f305 :=Tryz.func148.trans (congrArg some (by kernel_rfl))
 f306 :=Tryz.func149.trans (congrArg some (by kernel_rfl))
 f307 :=Tryz.func150.trans (congrArg some (by kernel_rfl))
 f308 :=Tryz.func108.trans (congrArg some (by kernel_rfl))
 f309 :=Tryz.func151.trans (congrArg some (by kernel_rfl))
 f310 :=Tryz.func152.trans (congrArg some (by kernel_rfl))
 f329 :=Tryz.func174.trans (congrArg some (by kernel_rfl))
 f330 :=Tryz.func175.trans (congrArg some (by kernel_rfl))
 f333 :=Tryz.func173.trans (congrArg some (by kernel_rfl))
 f334 :=Tryz.func176.trans (congrArg some (by kernel_rfl))
 f335 :=Tryz.func177.trans (congrArg some (by kernel_rfl))
 f336 :=Tryz.func143.trans (congrArg some (by kernel_rfl))
 f344 :=Tryz.func185.trans (congrArg some (by kernel_rfl))
 t0 :=Tryz.underlying0
 a0 :=Tryz.isAgg0
 z0 :=Tryz.sizeOf0
 v0 :=Tryz.zeroValue0
 t3 :=Tryz.underlying3
 a3 :=Tryz.isAgg3
 z3 :=Tryz.sizeOf3
 v3 :=Tryz.zeroValue3
 t4 :=Tryz.underlying4
 a4 :=Tryz.isAgg4
 z4 :=Tryz.sizeOf4
 v4 :=Tryz.zeroValue4
 t5 :=Tryz.underlying5
 a5 :=Tryz.isAgg5
 z5 :=Tryz.sizeOf5
 v5 :=Tryz.zeroValue5
 t9 :=Tryz.underlying9
 a9 :=Tryz.isAgg9
 z9 :=Tryz.sizeOf9
 v9 :=Tryz.zeroValue9
 t31 :=Tryz.underlying29
 a31 :=Tryz.isAgg29
 z31 :=Tryz.sizeOf29
 v31 :=Tryz.zeroValue29
 t46 :=Tryz.underlying162
 a46 :=Tryz.isAgg162
 z46 :=Tryz.sizeOf162
 v46 :=Tryz.zeroValue162
 t51 :=Tryz.underlying198
 a51 :=Tryz.isAgg198
 z51 :=Tryz.sizeOf198
 v51 :=Tryz.zeroValue198
 t53 :=Tryz.underlying200
 a53 :=Tryz.isAgg200
 z53 :=Tryz.sizeOf200
 v53 :=Tryz.zeroValue200
 t131 :=Tryz.underlying114
 a131 :=Tryz.isAgg114
 z131 :=Tryz.sizeOf114
 v131 :=Tryz.zeroValue114
 t182 :=Tryz.underlying191
 a182 :=Tryz.isAgg191
 z182 :=Tryz.sizeOf191
 v182 :=Tryz.zeroValue191
 t183 :=Tryz.underlying192
 a183 :=Tryz.isAgg192
 z183 :=Tryz.sizeOf192
 v183 :=Tryz.zeroValue192
 t218 :=Tryz.underlying212
 a218 :=Tryz.isAgg212
 z218 :=Tryz.sizeOf212
 v218 :=Tryz.zeroValue212
 t222 :=Tryz.underlying216
 a222 :=Tryz.isAgg216
 z222 :=Tryz.sizeOf216
 v222 :=Tryz.zeroValue216
 t228 :=Tryz.underlying220
 a228 :=Tryz.isAgg220
 z228 :=Tryz.sizeOf220
 v228 :=Tryz.zeroValue220
 t229 :=Tryz.underlying221
 a229 :=Tryz.isAgg221
 z229 :=Tryz.sizeOf221
 v229 :=Tryz.zeroValue221}
def Tryz.laysCompact_ren :Go.Shelf.Ren := ⟨fun | 194=>62 | n=>n,fun | 31=>29 | 9=>9 | 3=>3 | 4=>4 | 0=>0 | n=>n,fun | n=>n⟩
theorem Tryz.laysCompact :Go.Proofs.Lays.n194 Tryz.prog Tryz.laysCompact_ren := {
 mixed :=by kernel_rfl
 f194 :=Tryz.func62.trans (congrArg some (by kernel_rfl))
 t0 :=Tryz.underlying0
 a0 :=Tryz.isAgg0
 z0 :=Tryz.sizeOf0
 v0 :=Tryz.zeroValue0
 t3 :=Tryz.underlying3
 a3 :=Tryz.isAgg3
 z3 :=Tryz.sizeOf3
 v3 :=Tryz.zeroValue3
 t4 :=Tryz.underlying4
 a4 :=Tryz.isAgg4
 z4 :=Tryz.sizeOf4
 v4 :=Tryz.zeroValue4
 t9 :=Tryz.underlying9
 a9 :=Tryz.isAgg9
 z9 :=Tryz.sizeOf9
 v9 :=Tryz.zeroValue9
 t31 :=Tryz.underlying29
 a31 :=Tryz.isAgg29
 z31 :=Tryz.sizeOf29
 v31 :=Tryz.zeroValue29}
def Tryz.laysCut_ren :Go.Shelf.Ren := ⟨fun | 103=>60 | 210=>110 | 206=>144 | n=>n,fun | 9=>9 | 4=>4 | 24=>68 | 3=>3 | n=>n,fun | n=>n⟩
theorem Tryz.laysCut :Go.Proofs.Lays.n103 Tryz.prog Tryz.laysCut_ren := {
 mixed :=by kernel_rfl
 f103 :=Tryz.func60.trans (congrArg some (by kernel_rfl))
 f206 :=Tryz.func144.trans (congrArg some (by kernel_rfl))
 f210 :=Tryz.func110.trans (congrArg some (by kernel_rfl))
 t3 :=Tryz.underlying3
 a3 :=Tryz.isAgg3
 z3 :=Tryz.sizeOf3
 v3 :=Tryz.zeroValue3
 t4 :=Tryz.underlying4
 a4 :=Tryz.isAgg4
 z4 :=Tryz.sizeOf4
 v4 :=Tryz.zeroValue4
 t9 :=Tryz.underlying9
 a9 :=Tryz.isAgg9
 z9 :=Tryz.sizeOf9
 v9 :=Tryz.zeroValue9
 t24 :=Tryz.underlying68
 a24 :=Tryz.isAgg68
 z24 :=Tryz.sizeOf68
 v24 :=Tryz.zeroValue68}
end Go.Proofs

namespace Go.Proofs.YthehiijgnepcfaaGreat
open Go.RowKit
theorem Aa {w :World} {b :Nat} {arr :Array Value} {t :TypeId} {fr :Nat×Nat} (h :w.heap[b]? =some (.cells arr t fr)) {j :Nat} {u :Value} (hj :arr[j]? =some u) :w.cell? ⟨b,j,none⟩ =some u :=by
 simp [World.cell?,h,hj]
theorem Qw {w :World} {base :Nat} {e :TypeId} {size :Nat} {v :Value} {n :Nat} {xs :List Value} (hown :w.ownsRow base e size v n xs) {b :Nat} {arr :Array Value} {t :TypeId} {fr :Nat×Nat}
  (hb :w.heap[b]? =some (.cells arr t fr)) (hne :t≠e) :some b≠v.ownBlock :=by
 intro hh
 rcases hown.2 with ⟨h2,_⟩ | ⟨g,cap,cur,hv,_,hg,_⟩
 ·rw [h2] at hh;simp [Value.ownBlock] at hh
 ·rw [hv] at hh
  simp [Value.ownBlock] at hh
  subst hh
  rw [hg] at hb
  simp at hb
  exact hne hb.2.1.symm
theorem Ab (w :World) (o :Obj) : (w.alloc o).heap[w.heap.size]? =some o :=by
 show (w.heap.push o)[w.heap.size]? =_
 simp
theorem Ac {w :World} {b :Nat} {x :Obj} (h :w.heap[b]? =some x) (o :Obj) : (w.alloc o).heap[b]? =some x :=by
 have :=lt_of_block h
 rw [Below.heap_alloc _ _ _ this];exact h
theorem D6 {w w' :World} {row :Option Nat} (hg :w.grownBy w' row) {b :Nat} {x :Obj} (h :w.heap[b]? =some x) (hne :some b≠row) :w'.heap[b]? =some x :=by
 rw [hg.block b (lt_of_block h) hne];exact h
theorem Cl (w :World) (l :List Value) (t :TypeId) : ∀j u,l[j]? =some u→ (w.alloc (.cells l.toArray t)).cell? ((⟨w.heap.size,0,none⟩ :Addr).add j) =some u :=by
 intro j u hj
 rw [Addr.add_lit]
 simp only [Nat.zero_add]
 exact Aa (Ab w _) (by simpa using hj)
theorem Dl {w w' :World} {base :Nat} {e :TypeId} {size :Nat} {v :Value} {n :Nat} {xs :List Value} (hown :w.ownsRow base e size v n xs) (hb :base≤w.heap.size) (hg :w.grownBy w' v.ownBlock) :Below base w w' :=
 (Below.refl _ _).grown hg hb fun k hk=> (hown.lt k hk).1
theorem C9 {W w1 :World} (hb :Below W.heap.size W w1) : (∀b o,b<W.heap.size→w1.cell? ⟨b,o,none⟩ =W.cell? ⟨b,o,none⟩) ∧ (∀b o,b<W.heap.size→w1.frozen? ⟨b,o,none⟩ =W.frozen? ⟨b,o,none⟩) :=
 ⟨fun b o h=>hb.cell (p := ⟨b,o,none⟩) h,fun b o h=>hb.frozen (p := ⟨b,o,none⟩) h⟩
theorem Ar {w w' :World} {base :Nat} {e :TypeId} {size :Nat} {v :Value} {n :Nat} {xs :List Value} (h :w.ownsRow base e size v n xs) (hb :Below w.heap.size w w') :w'.ownsRow base e size v n xs :=by
 obtain ⟨h1,h2⟩ :=h
 refine ⟨h1, ?_⟩
 rcases h2 with h2 | ⟨g,cap,cur,hv,hg,hh,r⟩
 ·exact Or.inl h2
 ·exact Or.inr ⟨g,cap,cur,hv,hg,by rw [hb.block g (lt_of_block hh)];exact hh,r⟩
theorem Ad {w a b :World} (h :Below w.heap.size w a) (k :Below a.heap.size a b) :Below w.heap.size w b :=h.trans (k.mono h.size)
end Go.Proofs.YthehiijgnepcfaaGreat

namespace Go.Proofs.YthehiijgnepcfaaGreat
open Go.RowKit
def Dz (size :Nat) (w :World) (sv :Value) (n :Nat) (cs :List Value) :Prop :=
 cs.length=n*size∧
 ((n=0∧ ∃ao cap,sv= .slice ao 0 cap∧ (ao=none→cap=0)) ∨
 (0<n∧ ∃b off cap,sv= .slice (some ⟨b,off,none⟩) n cap∧b<w.heap.size∧n≤cap∧cap≤maxLen∧ ∀j u,cs[j]? =some u→w.cell? ⟨b,off+j,none⟩ =some u))
theorem Dz.keep {size :Nat} {w w' :World} {B :Nat} {sv :Value} {n :Nat} {cs :List Value} (h :Dz size w sv n cs) (hb :Below B w w') (hB :w.heap.size≤B) :Dz size w' sv n cs :=by
 obtain ⟨h1,h2⟩ :=h
 refine ⟨h1, ?_⟩
 rcases h2 with h2 | ⟨h0,b,off,cap,rfl,hlt,hc,hm,hcell⟩
 ·exact .inl h2
 ·exact .inr ⟨h0,b,off,cap,rfl,Nat.lt_of_lt_of_le hlt (hb.size),hc,hm,fun j u hj=>by rw [hb.cell (p := ⟨b,off+j,none⟩) (Nat.lt_of_lt_of_le hlt hB)];exact hcell j u hj⟩
theorem Dz.below {size :Nat} {w w' :World} {sv :Value} {n :Nat} {cs :List Value} (h :Dz size w sv n cs) (hb :Below w.heap.size w w') :Dz size w' sv n cs :=h.keep hb (Nat.le_refl _)
theorem Dz.shape {size :Nat} {w :World} {sv :Value} {n :Nat} {cs :List Value} (h :Dz size w sv n cs) : ∃ao cap,sv= .slice ao n cap :=by
 rcases h.2 with ⟨rfl,ao,cap,rfl,_⟩ | ⟨_,b,off,cap,rfl,_⟩
 ·exact ⟨ao,cap,rfl⟩
 ·exact ⟨_,cap,rfl⟩
theorem Dz.nil (size :Nat) (w :World) :Dz size w (.slice none 0 0) 0 [] := ⟨by simp, .inl ⟨rfl,none,0,rfl,fun _=>rfl⟩⟩
theorem Dz.of_own {size :Nat} {w :World} {base :Nat} {e :TypeId} {v :Value} {n :Nat} {cs :List Value} (h :w.ownsRow base e size v n cs) :Dz size w v n cs :=by
 refine ⟨h.1, ?_⟩
 rcases h.2 with ⟨rfl,rfl⟩ | ⟨g,cap,cur,rfl,hg,hh,hn,hm,_⟩
 ·exact .inl ⟨rfl,none,0,rfl,fun _=>rfl⟩
 ·rcases Nat.eq_zero_or_pos n with rfl | h0
  ·exact .inl ⟨rfl,_,cap,rfl,fun h=>by cases h⟩
  ·refine .inr ⟨h0,g,0,cap,rfl,lt_of_block hh,hn,hm,fun j u hj=> ?_⟩
   have :=h.cells (g :=g) rfl j u hj
   rwa [Addr.add_lit] at this
def Aj (w :World) (sv :Value) (L :List ByteArray) :Prop :=Dz 1 w sv L.length (L.map .string)
theorem Aj.below {w w' :World} {sv :Value} {L :List ByteArray} (h :Aj w sv L) (hb :Below w.heap.size w w') :Aj w' sv L :=Dz.below h hb
theorem Aj.keep {w w' :World} {B :Nat} {sv :Value} {L :List ByteArray} (h :Aj w sv L) (hb :Below B w w') (hB :w.heap.size≤B) :Aj w' sv L :=Dz.keep h hb hB
theorem Aj.at {w :World} {sv :Value} {L :List ByteArray} (h :Aj w sv L) (h0 :0<L.length) : ∃b off cap,sv= .slice (some ⟨b,off,none⟩) L.length cap∧b<w.heap.size∧L.length≤cap∧cap≤maxLen∧ ∀i s,L[i]? =some s→w.cell? ⟨b,off+i,none⟩ =some (.string s) :=by
 rcases h.2 with ⟨h1,_⟩ | ⟨_,b,off,cap,rfl,hb,hc,hm,hcell⟩
 ·omega
 ·exact ⟨b,off,cap,rfl,hb,hc,hm,fun i s hi=>hcell i _ (by rw [List.getElem?_map,hi];rfl)⟩
end Go.Proofs.YthehiijgnepcfaaGreat

namespace Go.Proofs.YthehiijgnepcfaaGreat
def klt (a b :ByteArray) :Bool :=Op.bytesLess a.toList b.toList
theorem Kj (a b :ByteArray) :klt a b=true↔a.data.toList<b.data.toList :=by
 unfold klt
 rw [Go.Proofs.bytesLess_eq,Lib.toList_data,Lib.toList_data]
 exact decide_eq_true_iff
theorem Ih (a :ByteArray) :klt a a=false :=by
 cases h :klt a a with
 | false=>rfl
 | true=>exact absurd ((Kj a a).1 h) (List.lt_irrefl _)
theorem Bu {a b c :ByteArray} (h :klt a b=true) (k :klt b c=true) :klt a c=true :=
 (Kj _ _).2 (List.lt_trans ((Kj _ _).1 h) ((Kj _ _).1 k))
theorem Nl {a b :ByteArray} (h :klt a b=true) :klt b a=false :=by
 cases k :klt b a with
 | false=>rfl
 | true=>have :=Bu h k;rw [Ih] at this;cases this
theorem Abj {a b :ByteArray} (h :a.data.toList=b.data.toList) :a=b :=by
 cases a with
 | mk x=>cases b with
  | mk y=>exact congrArg ByteArray.mk (Array.toList_inj.1 h)
theorem I0 {a b :ByteArray} (h :klt a b=false) :a=b∨klt b a=true :=by
 by_cases e :a=b
 ·exact .inl e
 ·right
  have h' : ¬a.data.toList<b.data.toList :=fun k=>by rw [(Kj a b).2 k] at h;cases h
  rw [Kj]
  rcases Decidable.em (b.data.toList<a.data.toList) with g | g
  ·exact g
  ·exact absurd (Abj (List.le_antisymm (show a.data.toList≤b.data.toList from g) h')) e
theorem Ex {a b :ByteArray} (h :klt a b=true) :a≠b :=by
 rintro rfl;rw [Ih] at h;cases h
theorem Vi {a b c :ByteArray} (h :klt b a=false) (k :klt b c=true) :klt a c=true :=by
 rcases I0 h with rfl | h
 ·exact k
 ·exact Bu h k
theorem Ii {a b c :ByteArray} (h :klt a b=true) (k :klt c b=false) :klt a c=true :=by
 rcases I0 k with rfl | k
 ·exact h
 ·exact Bu h k
structure Pg where
 K :List ByteArray
 V :List ByteArray
def pg0 :Pg := ⟨[],[]⟩
def Pg.ok (p :Pg) :Prop :=1≤p.K.length∧p.K.length≤4∧p.V.length=p.K.length
abbrev Bo (l :List ByteArray) :Prop :=l.Pairwise (fun a b=>klt a b=true)
def Bc (T :List Pg) :List ByteArray :=T.flatMap Pg.K
def flat (T :List Pg) :List (ByteArray×ByteArray) :=T.flatMap fun p=>p.K.zip p.V
def Ap (T :List Pg) :Prop := (∀p∈T,p.ok) ∧Bo (Bc T)
theorem Da (p :Pg) (T :List Pg) :Bc (p ::T) =p.K++Bc T :=by simp [Bc]
theorem B8 (A B :List Pg) :Bc (A++B) =Bc A++Bc B :=by simp [Bc]
theorem H8 (p :Pg) (T :List Pg) :flat (p ::T) =p.K.zip p.V++flat T :=by simp [flat]
theorem Dj (A B :List Pg) :flat (A++B) =flat A++flat B :=by simp [flat]
theorem Vj :flat [] = [] :=rfl
theorem Adu {K V :List ByteArray} (h :V.length=K.length) : (K.zip V).map Prod.fst=K :=by
 rw [List.map_fst_zip (by omega)]
theorem Eq : ∀ {T :List Pg},(∀p∈T,p.ok) → (flat T).map Prod.fst=Bc T
 | [],_=>rfl
 | p ::T,h=>by
  rw [H8,Da,List.map_append,Adu (h p (by simp)).2.2,Eq fun q hq=>h q (by simp [hq])]
theorem Xt : ∀ {T :List Pg},(∀p∈T,p.ok) → (flat T).length= (Bc T).length :=by
 intro T h
 rw [←Eq h,List.length_map]
theorem Pb : ∀ {T :List Pg},(∀p∈T,p.ok) → (Bc T).length≤4*T.length
 | [],_=>by simp [Bc]
 | p ::T,h=>by
  have :=Pb fun q hq=>h q (List.mem_cons_of_mem _ hq)
  have := (h p (by simp)).2.1
  rw [Da,List.length_append,List.length_cons]
  omega
structure Cut (F :List (ByteArray×ByteArray)) (k :ByteArray) (F1 :List (ByteArray×ByteArray)) (o :Option ByteArray) (F2 :List (ByteArray×ByteArray)) :Prop where
 eq :F=F1++ ((o.toList.map fun v=> (k,v)) ++F2)
 lo : ∀x∈F1,klt x.1 k=true
 hi : ∀x∈F2,klt k x.1=true
def Cw (F :List (ByteArray×ByteArray)) (k :ByteArray) :Option ByteArray := (F.find? fun x=>decide (x.1=k)).map Prod.snd
def Ec (F :List (ByteArray×ByteArray)) (k v :ByteArray) :List (ByteArray×ByteArray) := (F.filter fun x=>klt x.1 k) ++ (k,v) :: (F.filter fun x=>klt k x.1)
def Fz (F :List (ByteArray×ByteArray)) (k :ByteArray) :List (ByteArray×ByteArray) :=F.filter fun x=>decide (x.1≠k)
theorem Ij {α :Type} {p :α→Bool} {l :List α} (h : ∀x∈l,p x=true) :l.filter p=l :=List.filter_eq_self.2 h
theorem D7 {α :Type} {p :α→Bool} {l :List α} (h : ∀x∈l,p x=false) :l.filter p= [] :=by
 rw [List.filter_eq_nil_iff];intro x hx;rw [h x hx];simp
theorem Cut.get {F k F1 o F2} (c :Cut F k F1 o F2) :Cw F k=o :=by
 have h1 :F1.find? (fun x=>decide (x.1=k)) =none :=by
  rw [List.find?_eq_none];intro x hx;simpa using Ex (c.lo x hx)
 have h2 :F2.find? (fun x=>decide (x.1=k)) =none :=by
  rw [List.find?_eq_none];intro x hx;simpa using (Ex (c.hi x hx)).symm
 unfold Cw
 rw [c.eq,List.find?_append,h1]
 cases o with
 | none=>simp [h2]
 | some v=>simp
theorem Cut.put {F k F1 o F2} (c :Cut F k F1 o F2) (v :ByteArray) :Ec F k v=F1++ (k,v) ::F2 :=by
 unfold Ec
 rw [c.eq,List.filter_append,List.filter_append,List.filter_append,List.filter_append,Ij c.lo,D7 (l :=F2) fun x hx=>Nl (c.hi x hx),
  D7 (l :=F1) fun x hx=>Nl (c.lo x hx),Ij c.hi]
 have : ∀q : (ByteArray×ByteArray) →Bool,(∀v,q (k,v) =false) → (o.toList.map fun v=> (k,v)).filter q= [] :=by
  intro q hq;apply D7;intro x hx;simp at hx;obtain ⟨v,_,rfl⟩ :=hx;exact hq v
 rw [this _ fun v=>Ih k,this _ fun v=>Ih k]
 simp
theorem Cut.drop {F k F1 o F2} (c :Cut F k F1 o F2) :Fz F k=F1++F2 :=by
 unfold Fz
 rw [c.eq,List.filter_append,List.filter_append,Ij fun x hx=>by simpa using Ex (c.lo x hx),Ij (l :=F2) fun x hx=>by simpa using (Ex (c.hi x hx)).symm]
 have : (o.toList.map fun v=> (k,v)).filter (fun x=>decide (x.1≠k)) = [] :=by
  apply D7;intro x hx;simp at hx;obtain ⟨v,_,rfl⟩ :=hx;simp
 rw [this];simp
theorem Xu (F :List (ByteArray×ByteArray)) (h :Bo (F.map Prod.fst)) (k :ByteArray) : ∃F1 o F2,Cut F k F1 o F2 :=by
 induction F with
 | nil=>exact ⟨[],none,[],rfl,by simp,by simp⟩
 | cons x F ih=>
  rw [List.map_cons,Bo,List.pairwise_cons] at h
  by_cases h1 :klt x.1 k=true
  ·obtain ⟨F1,o,F2,c⟩ :=ih h.2
   exact ⟨x ::F1,o,F2,by rw [c.eq];rfl,by intro y hy;rcases List.mem_cons.1 hy with rfl | hy;exact h1;exact c.lo y hy,c.hi⟩
  ·have hall : ∀y∈F,klt x.1 y.1=true :=fun y hy=>h.1 _ (List.mem_map.2 ⟨y,hy,rfl⟩)
   rcases I0 (by simpa using h1) with e | h2
   ·exact ⟨[],some x.2,F,by rw [←e];simp,by simp,fun y hy=>by rw [←e];exact hall y hy⟩
   ·exact ⟨[],none,x ::F,by simp,by simp,fun y hy=>by
     rcases List.mem_cons.1 hy with rfl | hy
     ·exact h2
     ·exact Bu h2 (hall y hy)⟩
theorem D8 {A B :List ByteArray} :Bo (A++B) ↔Bo A∧Bo B∧ ∀a∈A,∀b∈B,klt a b=true :=List.pairwise_append
theorem Cut.rise_put {F k F1 o F2} (c :Cut F k F1 o F2) (h :Bo (F.map Prod.fst)) (v :ByteArray) :Bo ((F1++ (k,v) ::F2).map Prod.fst) :=by
 rw [c.eq] at h
 simp only [List.map_append,List.map_cons] at h⊢
 rw [D8] at h⊢
 obtain ⟨h1,h2,h3⟩ :=h
 rw [D8] at h2
 refine ⟨h1, ?_, ?_⟩
 ·rw [Bo,List.pairwise_cons]
  refine ⟨?_,h2.2.1⟩
  intro a ha;obtain ⟨x,hx,rfl⟩ :=List.mem_map.1 ha;exact c.hi x hx
 ·intro a ha b hb
  rcases List.mem_cons.1 hb with rfl | hb
  ·obtain ⟨x,hx,rfl⟩ :=List.mem_map.1 ha;exact c.lo x hx
  ·exact h3 a ha b (by simp at hb⊢;exact .inr hb)
theorem Cut.rise_drop {F k F1 o F2} (c :Cut F k F1 o F2) (h :Bo (F.map Prod.fst)) :Bo ((F1++F2).map Prod.fst) :=by
 refine List.Pairwise.sublist ?_ h
 rw [c.eq]
 exact (List.Sublist.append_left (List.sublist_append_right _ _) F1).map _
theorem Vk {T :List Pg} (h : ∀p∈T,p.ok) (k :Bo ((flat T).map Prod.fst)) :Ap T := ⟨h,by rw [←Eq h];exact k⟩
theorem Ap.rise {T :List Pg} (h :Ap T) :Bo ((flat T).map Prod.fst) :=by rw [Eq h.1];exact h.2
theorem Ap.part {A B :List Pg} (h :Ap (A++B)) :Ap A∧Ap B :=by
 obtain ⟨h1,h2⟩ :=h
 rw [B8,D8] at h2
 exact ⟨⟨fun p hp=>h1 p (by simp [hp]),h2.1⟩,⟨fun p hp=>h1 p (by simp [hp]),h2.2.1⟩⟩
theorem Mb (l :List ByteArray) (h :Bo l) (k :ByteArray) : ∃a b,l=a++b∧ (∀x∈a,klt x k=true) ∧ (∀x∈b,klt x k=false) :=by
 induction l with
 | nil=>exact ⟨[],[],rfl,by simp,by simp⟩
 | cons x l ih=>
  rw [Bo,List.pairwise_cons] at h
  cases h1 :klt x k with
  | true=>
   obtain ⟨a,b,rfl,ha,hb⟩ :=ih h.2
   exact ⟨x ::a,b,rfl,by intro y hy;rcases List.mem_cons.1 hy with rfl | hy;exact h1;exact ha y hy,hb⟩
  | false=>
   refine ⟨[],x ::l,rfl,by simp, ?_⟩
   intro y hy
   rcases List.mem_cons.1 hy with rfl | hy
   ·exact h1
   ·cases h2 :klt y k with
    | false=>rfl
    | true=>have :=Bu (h.1 y hy) h2;rw [h1] at this;cases this
def Br (p :Pg) :ByteArray :=p.K.getLastD ByteArray.empty
theorem Gn {p :Pg} (h :p.ok) :Br p∈p.K :=by
 obtain ⟨h1,_⟩ :=h
 unfold Br
 cases hk :p.K with
 | nil=>rw [hk] at h1;simp at h1
 | cons a l=>rw [List.getLastD_cons];exact List.getLastD_mem_cons
theorem Tl {p :Pg} (hr :Bo p.K) {x :ByteArray} (hx :x∈p.K) :x=Br p∨klt x (Br p) =true :=by
 obtain ⟨l,hl⟩ : ∃l,p.K=l++ [Br p] :=by
  unfold Br
  cases hk :p.K with
  | nil=>rw [hk] at hx;cases hx
  | cons a l=>exact ⟨(a ::l).dropLast,by rw [←List.dropLast_concat_getLast (l :=a ::l) (by simp)];simp [List.getLastD_eq_getLast?,List.getLast?_eq_some_getLast]⟩
 rw [hl] at hx hr
 rcases List.mem_append.1 hx with h | h
 ·exact .inr ((D8.1 hr).2.2 x h _ (by simp))
 ·exact .inl (by simpa using h)
def Zt (T :List Pg) (k :ByteArray) (pg pl :Nat) (th :Bool) :Prop :=
 (pg=T.length∧pl=0∧th=false∧ ∀x∈Bc T,klt x k=true) ∨
 ∃A p B K1 y K3,T=A++p ::B∧p.K=K1++y ::K3∧pg=A.length∧pl=K1.length∧ (∀x∈Bc A,klt x k=true) ∧ (∀x∈K1,klt x k=true) ∧klt y k=false∧th=decide (y=k)
theorem Ll (T :List Pg) (h :Ap T) (k :ByteArray) : ∃A B,T=A++B∧T.countP (fun p=>klt (Br p) k) =A.length∧ (∀x∈Bc A,klt x k=true) ∧ (∀p∈B,klt (Br p) k=false) :=by
 induction T with
 | nil=>exact ⟨[],[],rfl,rfl,by simp [Bc],by simp⟩
 | cons p T ih=>
  obtain ⟨h1,h2⟩ :=h
  rw [Da,D8] at h2
  obtain ⟨A,B,e,hc,ha,hb⟩ :=ih ⟨fun q hq=>h1 q (by simp [hq]),h2.2.1⟩
  cases hl :klt (Br p) k with
  | true=>
   refine ⟨p ::A,B,by rw [e];rfl,by rw [List.countP_cons,hc,hl];simp, ?_,hb⟩
   intro x hx
   rw [Da] at hx
   rcases List.mem_append.1 hx with hx | hx
   ·rcases Tl h2.1 hx with rfl | hx
    ·exact hl
    ·exact Bu hx hl
   ·exact ha x hx
  | false=>
   have hall : ∀q∈p ::T,klt (Br q) k=false :=by
    intro q hq
    rcases List.mem_cons.1 hq with rfl | hq
    ·exact hl
    ·cases h3 :klt (Br q) k with
     | false=>rfl
     | true=>
      have :=h2.2.2 (Br p) (Gn (h1 p (by simp))) (Br q) (List.mem_flatMap.2 ⟨q,hq,Gn (h1 q (by simp [hq]))⟩)
      have :=Bu this h3;rw [hl] at this;cases this
   refine ⟨[],p ::T,rfl, ?_,by simp [Bc],hall⟩
   rw [List.countP_eq_zero.2 (fun q hq=>by rw [hall q hq];simp)];rfl
theorem Zt.cut {T k pg pl th} (h :Ap T) (f :Zt T k pg pl th) : ∃F1 o F2,Cut (flat T) k F1 o F2∧ (th=true↔o.isSome=true) :=by
 obtain ⟨F1,o,F2,c⟩ :=Xu (flat T) h.rise k
 refine ⟨F1,o,F2,c, ?_⟩
 have hk :k∈Bc T↔o.isSome=true :=by
  rw [←Eq h.1,c.eq]
  constructor
  ·intro hk
   cases o with
   | some v=>rfl
   | none=>
    simp at hk
    rcases hk with ⟨x,hx⟩ | ⟨x,hx⟩
    ·exact absurd rfl (Ex (c.lo _ hx))
    ·exact absurd rfl (Ex (c.hi _ hx))
  ·intro ho
   obtain ⟨v,rfl⟩ :=Option.isSome_iff_exists.1 ho
   simp
 rw [←hk]
 rcases f with ⟨_,_,rfl,hlt⟩ | ⟨A,p,B,K1,y,K3,rfl,hp,_,_,hA,hK,hy,rfl⟩
 ·constructor
  ·intro h;cases h
  ·intro h;exact absurd rfl (Ex (hlt _ h))
 ·have hr :=h.2
  rw [B8,Da,hp] at hr⊢
  constructor
  ·intro h;have :=of_decide_eq_true h;subst this;simp
  ·intro hm
   refine decide_eq_true ?_
   rcases List.mem_append.1 hm with hm | hm
   ·exact absurd rfl (Ex (hA _ hm))
   ·rw [List.append_assoc] at hm
    rcases List.mem_append.1 hm with hm | hm
    ·exact absurd rfl (Ex (hK _ hm))
    ·rcases List.mem_cons.1 hm with hm | hm
     ·exact hm.symm
     ·have hr' := (D8.1 hr).2.1
      rw [List.append_assoc] at hr'
      have hr2 := (D8.1 hr').2.1
      rw [Bo,List.cons_append,List.pairwise_cons] at hr2
      have :=hr2.1 k hm
      rw [hy] at this;cases this
end Go.Proofs.YthehiijgnepcfaaGreat

namespace Go.Proofs.YthehiijgnepcfaaGreat
open Go.RowKit
def Bg (rows :List (Value×Value)) :List Value :=rows.flatMap fun r=> [r.1,r.2]
theorem Jv : ∀rows :List (Value×Value),(Bg rows).length=rows.length*2
 | [] =>rfl
 | r ::rows=>by
  have :=Jv rows
  simp only [Bg,List.flatMap_cons,List.length_append,List.length_cons,List.length_nil] at this⊢
  omega
theorem M7 (a b :List (Value×Value)) :Bg (a++b) =Bg a++Bg b :=by simp [Bg]
theorem Nm : ∀ (rows :List (Value×Value)) (i :Nat) (r :Value×Value),rows[i]? =some r→ (Bg rows)[i*2]? =some r.1∧ (Bg rows)[i*2+1]? =some r.2
 | x ::rows,0,r,h=>by
  simp at h;subst h
  simp [Bg]
 | x ::rows,i+1,r,h=>by
  have :=Nm rows i r (by simpa using h)
  have e :Bg (x ::rows) =x.1 ::x.2 ::Bg rows :=by simp [Bg]
  rw [e,show (i+1) *2=i*2+1+1 from by omega]
  exact this
def Pgs (w :World) :List (Value×Value) →List Pg→Prop
 | [],[] =>True
 | r ::rs,p ::ps=>Aj w r.1 p.K∧Aj w r.2 p.V∧Pgs w rs ps
 | _,_=>False
theorem Pgs.length {w :World} : ∀ {rs :List (Value×Value)} {T :List Pg},Pgs w rs T→rs.length=T.length
 | [],[],_=>rfl
 | _ ::_,_ ::_,h=>by rw [List.length_cons,List.length_cons,Pgs.length h.2.2]
theorem Pgs.keep {w w' :World} {B :Nat} (hb :Below B w w') (hB :w.heap.size≤B) : ∀ {rs :List (Value×Value)} {T :List Pg},Pgs w rs T→Pgs w' rs T
 | [],[],_=>trivial
 | _ ::_,_ ::_,h=> ⟨h.1.keep hb hB,h.2.1.keep hb hB,Pgs.keep hb hB h.2.2⟩
theorem Pgs.append {w :World} : ∀ {rs rs' :List (Value×Value)} {T T' :List Pg},Pgs w rs T→Pgs w rs' T'→Pgs w (rs++rs') (T++T')
 | [],_,[],_,_,h=>h
 | _ ::_,_,_ ::_,_,h,k=> ⟨h.1,h.2.1,Pgs.append h.2.2 k⟩
theorem Pgs.part {w :World} : ∀ {rs :List (Value×Value)} {A B :List Pg},Pgs w rs (A++B) →Pgs w (rs.take A.length) A∧Pgs w (rs.drop A.length) B
 | rs,[],B,h=> ⟨by rw [List.length_nil,List.take_zero];trivial,by simpa using h⟩
 | r ::rs,p ::A,B,h=>by
  have :=Pgs.part (A :=A) h.2.2
  exact ⟨⟨h.1,h.2.1,this.1⟩,this.2⟩
theorem Pgs.at {w :World} : ∀ {rs :List (Value×Value)} {T :List Pg},Pgs w rs T→ ∀ {i :Nat} {p :Pg},T[i]? =some p→ ∃r,rs[i]? =some r∧Aj w r.1 p.K∧Aj w r.2 p.V
 | [],[],_,i,p,hi=>by simp at hi
 | r ::_,_ ::_,h,0,p,hi=>by simp at hi;subst hi;exact ⟨r,rfl,h.1,h.2.1⟩
 | _ ::_,_ ::_,h,i+1,p,hi=>by
  obtain ⟨r,h1,h2⟩ :=Pgs.at h.2.2 (i :=i) (by simpa using hi)
  exact ⟨r,by simpa using h1,h2⟩
def Aw (w :World) (sv :Value) (T :List Pg) :Prop := ∃rows,Dz 2 w sv T.length (Bg rows) ∧Pgs w rows T
def A5 (w :World) (tv :Value) (T :List Pg) :Prop := ∃sv,tv= .agg #[sv] ∧Aw w sv T
theorem Aw.keep {w w' :World} {B :Nat} {sv :Value} {T :List Pg} (h :Aw w sv T) (hb :Below B w w') (hB :w.heap.size≤B) :Aw w' sv T :=by
 obtain ⟨rows,h1,h2⟩ :=h
 exact ⟨rows,h1.keep hb hB,Pgs.keep hb hB h2⟩
theorem Aw.below {w w' :World} {sv :Value} {T :List Pg} (h :Aw w sv T) (hb :Below w.heap.size w w') :Aw w' sv T :=h.keep hb (Nat.le_refl _)
theorem A5.keep {w w' :World} {B :Nat} {tv :Value} {T :List Pg} (h :A5 w tv T) (hb :Below B w w') (hB :w.heap.size≤B) :A5 w' tv T :=by
 obtain ⟨sv,rfl,h⟩ :=h
 exact ⟨sv,rfl,h.keep hb hB⟩
theorem A5.below {w w' :World} {tv :Value} {T :List Pg} (h :A5 w tv T) (hb :Below w.heap.size w w') :A5 w' tv T :=h.keep hb (Nat.le_refl _)
def Lx (w :World) (b off :Nat) (T :List Pg) :Prop := ∀i p,T[i]? =some p→ ∃kv vv,w.cell? ⟨b,off+i*2,none⟩ =some kv∧w.cell? ⟨b,off+i*2+1,none⟩ =some vv∧Aj w kv p.K∧Aj w vv p.V
theorem Lx.below {w w' :World} {b off :Nat} {T :List Pg} (h :Lx w b off T) (hb :Below w.heap.size w w') (hlt :b<w.heap.size) :Lx w' b off T :=by
 intro i p hi
 obtain ⟨kv,vv,h1,h2,h3,h4⟩ :=h i p hi
 exact ⟨kv,vv,by rw [hb.cell (p := ⟨b,off+i*2,none⟩) hlt];exact h1,by rw [hb.cell (p := ⟨b,off+i*2+1,none⟩) hlt];exact h2,h3.below hb,h4.below hb⟩
theorem Aw.at {w :World} {sv :Value} {T :List Pg} (h :Aw w sv T) (h0 :0<T.length) : ∃b off cap,sv= .slice (some ⟨b,off,none⟩) T.length cap∧b<w.heap.size∧T.length≤cap∧cap≤maxLen∧Lx w b off T :=by
 obtain ⟨rows,h1,h2⟩ :=h
 rcases h1.2 with ⟨h3,_⟩ | ⟨_,b,off,cap,rfl,hb,hc,hm,hcell⟩
 ·omega
 ·refine ⟨b,off,cap,rfl,hb,hc,hm,fun i p hi=> ?_⟩
  obtain ⟨r,hr,hk,hv⟩ :=h2.at hi
  obtain ⟨c1,c2⟩ :=Nm rows i r hr
  exact ⟨r.1,r.2,hcell _ _ c1,by rw [Nat.add_assoc];exact hcell _ _ c2,hk,hv⟩
theorem Aw.empty {w :World} {sv :Value} {T :List Pg} (h :Aw w sv T) (h0 :T.length=0) : ∃ao cap,sv= .slice ao 0 cap∧ (ao=none→cap=0) :=by
 obtain ⟨rows,h1,h2⟩ :=h
 rcases h1.2 with ⟨_,ao,cap,rfl,hc⟩ | ⟨h3,_⟩
 ·exact ⟨ao,cap,rfl,hc⟩
 ·omega
theorem Aw.nil (w :World) :Aw w (.slice none 0 0) [] := ⟨[],Dz.nil 2 w,trivial⟩
def J4 (e :Ending) (p :Prop) :Prop := ∃r,e= .returned (.bool r) ∧ (r=true↔p)
theorem Nn {p :Prop} (h :p) :J4 (.returned (.bool true)) p := ⟨true,rfl,fun _=>h,fun _=>rfl⟩
theorem J5 {p :Prop} (h : ¬p) :J4 (.returned (.bool false)) p := ⟨false,rfl,fun x=> (by cases x),fun x=>absurd x h⟩
theorem J4.yes {e :Ending} {p :Prop} (h :J4 e p) (k :p) :e= .returned (.bool true) :=by
 obtain ⟨r,rfl,hr⟩ :=h
 rw [hr.2 k]
theorem J4.no {e :Ending} {p :Prop} (h :J4 e p) (k : ¬p) :e= .returned (.bool false) :=by
 obtain ⟨r,rfl,hr⟩ :=h
 cases r with
 | false=>rfl
 | true=>exact absurd (hr.1 rfl) k
theorem hid {p :Prop} (h :p) :Hid p :=h
theorem Aic {B :Nat} {w w' :World} (h :Below B w w') :Below B w w'.drew :=h.drew
end Go.Proofs.YthehiijgnepcfaaGreat

namespace Go.Proofs
open Go.Shelf
def Tryz.laysClone_ren :Go.Shelf.Ren := ⟨fun | 16=>137 | n=>n,fun | 24=>29 | 9=>9 | 4=>4 | n=>n,fun | n=>n⟩
theorem Tryz.laysClone :Go.Proofs.Lays2.n16 Tryz.prog Tryz.laysClone_ren := {
 mixed :=by kernel_rfl
 f16 :=Tryz.func137.trans (congrArg some (by kernel_rfl))
 t4 :=Tryz.underlying4
 a4 :=Tryz.isAgg4
 z4 :=Tryz.sizeOf4
 v4 :=Tryz.zeroValue4
 t9 :=Tryz.underlying9
 a9 :=Tryz.isAgg9
 z9 :=Tryz.sizeOf9
 v9 :=Tryz.zeroValue9
 t24 :=Tryz.underlying29
 a24 :=Tryz.isAgg29
 z24 :=Tryz.sizeOf29
 v24 :=Tryz.zeroValue29
 i9 :=by kernel_rfl}
def Tryz.laysInsert_ren :Go.Shelf.Ren := ⟨fun | 22=>99 | 29=>139 | 30=>140 | 36=>172 | 17=>184 | n=>n,fun | 24=>29 | 9=>9 | 3=>3 | 4=>4 | 0=>0 | n=>n,fun | n=>n⟩
theorem Tryz.laysInsert :Go.Proofs.Lays2.n22 Tryz.prog Tryz.laysInsert_ren := {
 mixed :=by kernel_rfl
 f17 :=Tryz.func184.trans (congrArg some (by kernel_rfl))
 f22 :=Tryz.func99.trans (congrArg some (by kernel_rfl))
 f29 :=Tryz.func139.trans (congrArg some (by kernel_rfl))
 f30 :=Tryz.func140.trans (congrArg some (by kernel_rfl))
 f36 :=Tryz.func172.trans (congrArg some (by kernel_rfl))
 t0 :=Tryz.underlying0
 a0 :=Tryz.isAgg0
 z0 :=Tryz.sizeOf0
 v0 :=Tryz.zeroValue0
 t3 :=Tryz.underlying3
 a3 :=Tryz.isAgg3
 z3 :=Tryz.sizeOf3
 v3 :=Tryz.zeroValue3
 t4 :=Tryz.underlying4
 a4 :=Tryz.isAgg4
 z4 :=Tryz.sizeOf4
 v4 :=Tryz.zeroValue4
 t9 :=Tryz.underlying9
 a9 :=Tryz.isAgg9
 z9 :=Tryz.sizeOf9
 v9 :=Tryz.zeroValue9
 t24 :=Tryz.underlying29
 a24 :=Tryz.isAgg29
 z24 :=Tryz.sizeOf29
 v24 :=Tryz.zeroValue29
 i9 :=by kernel_rfl}
def Tryz.laysFind_ren :Go.Shelf.Ren := ⟨fun | 26=>59 | 33=>108 | 34=>109 | 38=>143 | n=>n,fun | 24=>29 | 9=>9 | 3=>3 | 4=>4 | 40=>162 | 0=>0 | n=>n,fun | n=>n⟩
theorem Tryz.laysFind :Go.Proofs.Lays2.n26 Tryz.prog Tryz.laysFind_ren := {
 mixed :=by kernel_rfl
 f26 :=Tryz.func59.trans (congrArg some (by kernel_rfl))
 f33 :=Tryz.func108.trans (congrArg some (by kernel_rfl))
 f34 :=Tryz.func109.trans (congrArg some (by kernel_rfl))
 f38 :=Tryz.func143.trans (congrArg some (by kernel_rfl))
 t0 :=Tryz.underlying0
 a0 :=Tryz.isAgg0
 z0 :=Tryz.sizeOf0
 v0 :=Tryz.zeroValue0
 t3 :=Tryz.underlying3
 a3 :=Tryz.isAgg3
 z3 :=Tryz.sizeOf3
 v3 :=Tryz.zeroValue3
 t4 :=Tryz.underlying4
 a4 :=Tryz.isAgg4
 z4 :=Tryz.sizeOf4
 v4 :=Tryz.zeroValue4
 t9 :=Tryz.underlying9
 a9 :=Tryz.isAgg9
 z9 :=Tryz.sizeOf9
 v9 :=Tryz.zeroValue9
 t24 :=Tryz.underlying29
 a24 :=Tryz.isAgg29
 z24 :=Tryz.sizeOf29
 v24 :=Tryz.zeroValue29
 t40 :=Tryz.underlying162
 a40 :=Tryz.isAgg162
 z40 :=Tryz.sizeOf162
 v40 :=Tryz.zeroValue162}
def Tryz.laysSearch_ren :Go.Shelf.Ren := ⟨fun | 16=>106 | n=>n,fun | 3=>3 | 35=>161 | 4=>4 | 38=>162 | n=>n,fun | n=>n⟩
theorem Tryz.laysSearch :Go.Proofs.SlLaysO.n16 Tryz.prog Tryz.laysSearch_ren := {
 mixed :=by kernel_rfl
 f16 :=Tryz.func106.trans (congrArg some (by kernel_rfl))
 t3 :=Tryz.underlying3
 a3 :=Tryz.isAgg3
 z3 :=Tryz.sizeOf3
 v3 :=Tryz.zeroValue3
 t4 :=Tryz.underlying4
 a4 :=Tryz.isAgg4
 z4 :=Tryz.sizeOf4
 v4 :=Tryz.zeroValue4
 t35 :=Tryz.underlying161
 a35 :=Tryz.isAgg161
 z35 :=Tryz.sizeOf161
 v35 :=Tryz.zeroValue161
 t38 :=Tryz.underlying162
 a38 :=Tryz.isAgg162
 z38 :=Tryz.sizeOf162
 v38 :=Tryz.zeroValue162}
def Tryz.laysGrowP_ren :Go.Shelf.Ren := ⟨fun | 4=>171 | n=>n,fun | 22=>46 | 25=>111 | 3=>3 | 4=>4 | 9=>9 | 20=>20 | 0=>0 | n=>n,fun | n=>n⟩
theorem Tryz.laysGrowP :Go.Proofs.Lays8.n4 Tryz.prog Tryz.laysGrowP_ren := {
 mixed :=by kernel_rfl
 f4 := ⟨Tryz.f171.name,by decide,Tryz.func171.trans (congrArg some (by kernel_rfl))⟩
 t0 :=Tryz.underlying0
 a0 :=Tryz.isAgg0
 z0 :=Tryz.sizeOf0
 v0 :=Tryz.zeroValue0
 t3 :=Tryz.underlying3
 a3 :=Tryz.isAgg3
 z3 :=Tryz.sizeOf3
 v3 :=Tryz.zeroValue3
 t4 :=Tryz.underlying4
 a4 :=Tryz.isAgg4
 z4 :=Tryz.sizeOf4
 v4 :=Tryz.zeroValue4
 t9 :=Tryz.underlying9
 a9 :=Tryz.isAgg9
 z9 :=Tryz.sizeOf9
 v9 :=Tryz.zeroValue9
 t20 :=Tryz.underlying20
 a20 :=Tryz.isAgg20
 z20 :=Tryz.sizeOf20
 v20 :=Tryz.zeroValue20
 t22 :=Tryz.underlying46
 a22 :=Tryz.isAgg46
 z22 :=Tryz.sizeOf46
 v22 :=Tryz.zeroValue46}
end Go.Proofs

namespace Go.Proofs.YthehiijgnepcfaaGreat
open Go.RowKit
theorem G3 (z :Value) (n :Nat) : (Builtin.zeroCells z.cells n).size=n*z.cells.size :=by
 simp [Builtin.zeroCells]
theorem Adv {w :World} {t :TypeId} {z :Value} {size n G :Nat} (hz :z.cells.size=size) (hn :n≤G) (hG :G≤maxLen) :
  (w.drew.alloc (.cells (([] :List Value).toArray++Builtin.zeroCells z.cells n++Builtin.zeroCells z.cells (G - n)) t)).ownsRow w.heap.size t size (.slice (some ⟨w.heap.size,0,none⟩) 0 G) 0 [] :=by
 refine ⟨by simp, .inr ⟨w.heap.size,G,_,rfl,Nat.le_refl _,Ab w.drew _,Nat.zero_le _,hG, ?_,by simp⟩⟩
 rw [Array.size_append,Array.size_append,G3,G3,hz]
 simp only [List.size_toArray,List.length_nil,Nat.zero_add]
 rw [←Nat.add_mul]
 congr 1
 omega
theorem Tm : (Tryz.prog.info? 111).map (fun i=> (i.zero,i.size,i.bytes)) =some (some (.agg #[.slice none 0 0, .slice none 0 0]),2,48) :=by kernel_rfl
theorem Hh : (Tryz.prog.info? 9).map (fun i=> (i.zero,i.size,i.bytes)) =some (some (.string ⟨#[]⟩),1,16) :=by kernel_rfl
theorem Aid (n :Nat) (w :World) (hn :n*48≤140737488355328) :
  Calls Tryz.prog 171 #[.slice none 0 0, .int .i64 n] w fun e w'=> ∃v,e= .returned v∧w'.ownsRow w.heap.size 111 2 v 0 [] ∧Below w.heap.size w w' :=by
 obtain ⟨i0,hi,hz0,hz1,hz2⟩ :=info_parts Tm
 rcases Nat.eq_zero_or_pos n with rfl | h0
 ·refine (Any8.slices_Grow_room Tryz.laysGrowP none 0 0 0 w (Nat.le_refl _) (by omega) (by omega) (by omega)).mono ?_
  rintro e w' ⟨rfl,rfl⟩
  exact ⟨_,rfl,World.ownsRow_nil _ _ _ _,Below.refl _ _⟩
 ·refine (Any8.slices_Grow_grow Tryz.laysGrowP i0 _ hi hz0 (by omega) none 0 0 n [] w (by omega) (by omega) (by rw [hz2];omega) (by omega) (by simp) (fun _=>rfl) (fun a h=>by cases h)).mono ?_
  rintro e w' ⟨rfl,rfl⟩
  rw [Nat.zero_add]
  have hG :grownCap w n 0 111≤maxLen :=grownCap_le_maxLen w n 0 _ (by unfold maxLen;omega)
  have hg :=grownCap_ge w n 0 111
  exact ⟨_,rfl,Adv rfl hg hG,((Below.refl _ w).drew).alloc (Nat.le_refl _) _⟩
theorem Afz (K1 K2 :List ByteArray) (k :ByteArray) (h1 : ∀x∈K1,klt x k=true) (h2 : ∀x∈K2,klt x k=false) :
  Lib.bsGo (fun t=>Op.bytesLess ((K1++K2).getD t k).toList k.toList) (K1++K2).length 0 (K1++K2).length=K1.length :=by
 refine Lib.bsGo_spec _ K1.length ?_ ?_ _ _ _ (by omega) (by omega) (by simp)
 ·intro t ht
  show klt ((K1++K2).getD t k) k=true
  rw [List.getD_eq_getElem?_getD,List.getElem?_append_left ht,List.getElem?_eq_getElem ht]
  exact h1 _ (List.getElem_mem ht)
 ·intro t ht
  show klt ((K1++K2).getD t k) k=false
  rw [List.getD_eq_getElem?_getD,List.getElem?_append_right ht]
  cases hg :K2[t - K1.length]? with
  | none=>exact Ih k
  | some x=>exact h2 x (List.mem_of_getElem? hg)
theorem Mc (K1 K2 :List ByteArray) (k :ByteArray) (kv :Value) (w :World) (hk :Aj w kv (K1++K2)) (h1 : ∀x∈K1,klt x k=true) (h2 : ∀x∈K2,klt x k=false) (hlen : (K1++K2).length≤4) :
  Calls Tryz.prog 59 #[kv, .string k] w fun e w'=>e= .returned (.tuple #[.int .i64 K1.length, .bool (decide (K2.head? =some k))]) ∧Below w.heap.size w w' :=by
 rcases Nat.eq_zero_or_pos (K1++K2).length with h0 | h0
 ·have he :=List.eq_nil_of_length_eq_zero h0
  obtain ⟨rfl,rfl⟩ :=List.append_eq_nil_iff.1 he
  obtain ⟨ao,cap,rfl⟩ :=hk.shape
  refine (Any2.slices_BinarySearch_string_empty Tryz.laysFind ao cap k w).mono ?_
  rintro e w' ⟨rfl,rfl⟩
  exact ⟨rfl,Below.refl _ _⟩
 ·obtain ⟨b,off,cap,rfl,hb,_,_,hc⟩ :=hk.at h0
  refine (Any2.slices_BinarySearch_string Tryz.laysFind b off (K1++K2).length cap (fun t=> (K1++K2).getD t k) k w (by omega) ?_).mono ?_
  ·intro j hj
   exact hc j _ (by rw [List.getD_eq_getElem?_getD,List.getElem?_eq_getElem hj];rfl)
  ·rintro e w' ⟨rfl,q,rfl⟩
   rw [Afz K1 K2 k h1 h2]
   refine ⟨?_,below_drewN (Below.refl _ _) q⟩
   have hd : (K1.length< (K1++K2).length∧ (K1++K2).getD K1.length k=k) ↔K2.head? =some k :=by
    cases K2 with
    | nil=>simp
    | cons y K=>simp [List.getD_eq_getElem?_getD]
   rw [decide_eq_decide.2 hd]
def Bi (w :World) (B g cap :Nat) (L :List ByteArray) :Prop :=B≤g∧w.ownsRow B 9 1 (.slice (some ⟨g,0,none⟩) L.length cap) L.length (L.map .string)
theorem Tn (L :List ByteArray) (sv :Value) (w :World) (h :Aj w sv L) (h0 :0<L.length) (hl :L.length≤8) :
  Calls Tryz.prog 137 #[sv] w fun e w'=> ∃g cap,e= .returned (.slice (some ⟨g,0,none⟩) L.length cap) ∧Bi w' w.heap.size g cap L∧Below w.heap.size w w' :=by
 obtain ⟨b,off,cap,rfl,hb,_,_,hc⟩ :=h.at h0
 refine (Any.slices_Clone_string Tryz.laysClone b off L.length cap L w (Nat.le_refl _) (by omega) ?_).mono ?_
 ·intro j hj
  exact hc j _ (by rw [List.getD_eq_getElem?_getD,List.getElem?_eq_getElem hj];rfl)
 ·rintro e w' ⟨v,rfl,ho,_,hb⟩
  rw [List.take_length] at ho
  rcases ho.2 with ⟨_,hz⟩ | ⟨g,c,cur,rfl,hg,_⟩
  ·omega
  ·exact ⟨g,c,rfl,⟨hg,ho⟩,hb⟩
end Go.Proofs.YthehiijgnepcfaaGreat

namespace Go.Proofs.YthehiijgnepcfaaGreat
open Go.RowKit
structure V where
 k :Int
 n :Int
 s :ByteArray
def V.val (v :V) :Value := .agg #[.int .i64 v.k, .int .i64 v.n, .string v.s]
def V.cells (v :V) :List Value := [.int .i64 v.k, .int .i64 v.n, .string v.s]
def Jh (c :Int) :Bool :=decide (32≤c) &&decide (c≤126) && (c !=39)
def F3 (l :List UInt8) :Bool :=l.all fun c=>Jh (c.toNat :Int)
def good (v :V) :Bool :=
 if v.k=0 then decide (v.n=0) &&decide (v.s.size=0)
 else if v.k=1 then decide (-1000000≤v.n) &&decide (v.n≤1000000) &&decide (v.s.size=0)
 else if v.k=2 then decide (v.n=0) &&decide (v.s.size≤8) &&F3 v.s.data.toList
 else false
theorem An {k :IntKind} {a b :Int} (h :a=b) :Ending.returned (.int k a) = .returned (.int k b) :=by rw [h]
theorem Ag {a b :Bool} (h :a=b) :Ending.returned (.bool a) = .returned (.bool b) :=by rw [h]
theorem To (s :ByteArray) (k :Nat) (h :k<s.size) :s.data.toList.take (k+1) =s.data.toList.take k++ [s[k]] :=by
 rw [List.take_succ_eq_append_getElem (by simpa using h)];rfl
theorem Adw (s :ByteArray) (k :Nat) (h :s.size≤k) :s.data.toList.take k=s.data.toList :=
 List.take_of_length_le (by simpa using h)
theorem Zu (l :List UInt8) (c :UInt8) :F3 (l++ [c]) = (F3 l&&Jh (c.toNat :Int)) :=by
 simp [F3]
theorem Abk (s :ByteArray) (k :Nat) (h :k<s.size) (hb :Jh (s[k].toNat :Int) =false) :F3 s.data.toList=false :=by
 unfold F3
 rw [List.all_eq_false]
 refine ⟨s[k], ?_,by simp [hb]⟩
 have :s[k] =s.data.toList[k]'(by simpa using h) :=rfl
 rw [this];exact List.getElem_mem _
def be4 (m :Nat) :List UInt8 := [UInt8.ofNat (m/16777216),UInt8.ofNat (m/65536),UInt8.ofNat (m/256),UInt8.ofNat m]
def keyOf (v :V) :List UInt8 :=
 if v.k=0 then [1] else if v.k=1 then 2 ::be4 (v.n+1073741824).toNat else 3 :: (v.s.data.toList++ [0])
def Bv (l :List UInt8) :List Value :=l.map fun b=>Value.int .u8 (b.toNat :Int)
theorem E3 (a b :List UInt8) :Bv (a++b) =Bv a++Bv b :=by simp [Bv]
theorem Ag6 (a :List UInt8) : (Bv a).length=a.length :=by simp [Bv]
theorem Ajb (m :Int) (h0 :0≤m) (h1 :m<4294967296) :
  Bv (be4 m.toNat) = [.int .u8 (m/16777216), .int .u8 (m/65536 %256), .int .u8 (m/256 %256), .int .u8 (m %256)] :=by
 simp only [Bv,be4,List.map_cons,List.map_nil,UInt8.toNat_ofNat',List.cons.injEq,Value.int.injEq,true_and,and_true]
 omega
theorem Aie (m :Nat) : (be4 m).length=4 :=rfl
theorem Cm {v :V} (h :v.k=0) :keyOf v= [1] :=by simp [keyOf,h]
theorem Dm {v :V} (h :v.k=1) :keyOf v=2 ::be4 (v.n+1073741824).toNat :=by simp [keyOf,h]
theorem Eh {v :V} (h :v.k=2) :keyOf v=3 :: (v.s.data.toList++ [0]) :=by simp [keyOf,h]
theorem Cn (s :ByteArray) :s.data.toList.length=s.size :=by simp
def str (l :List UInt8) :ByteArray := ⟨l.toArray⟩
theorem Bt (l :List UInt8) : (str l).data.toList=l :=by simp [str]
theorem P3 (l :List UInt8) : (str l).size=l.length :=by simp [str,ByteArray.size]
theorem Zv (s :ByteArray) :str s.data.toList=s :=by cases s;simp [str]
def Bj (L :List V) :List UInt8 :=L.flatMap keyOf
theorem Abl (L :List V) (v :V) :Bj (L++ [v]) =Bj L++keyOf v :=by simp [Bj]
theorem Vl (v :V) (h :good v=true) : (keyOf v).length≤10 :=by
 by_cases h0 :v.k=0
 ·rw [Cm h0];simp
 by_cases h1 :v.k=1
 ·rw [Dm h1];simp [be4]
 by_cases h2 :v.k=2
 ·rw [Eh h2,List.length_cons,List.length_append,Cn]
  simp [good,h2] at h
  simp;omega
 ·simp [good,h0,h1,h2] at h
theorem Y0 (L :List V) (h : ∀v∈L,good v=true) : (Bj L).length≤10*L.length :=by
 induction L with
 | nil=>simp [Bj]
 | cons v L ih=>
  have a :=Vl v (h v (by simp))
  have b :=ih fun x hx=>h x (by simp [hx])
  simp [Bj] at b⊢
  omega
def Fl (w :World) (b off :Nat) (L :List V) :Prop :=
 ∀i v,L[i]? =some v→w.cell? ⟨b,off+i*3,none⟩ =some (.int .i64 v.k) ∧w.cell? ⟨b,off+i*3+1,none⟩ =some (.int .i64 v.n) ∧w.cell? ⟨b,off+i*3+2,none⟩ =some (.string v.s)
theorem Fl.below {w w' :World} {b off B :Nat} {L :List V} (h :Fl w b off L) (hb :Below B w w') (hlt :b<B) :Fl w' b off L :=by
 intro i v hi
 obtain ⟨h1,h2,h3⟩ :=h i v hi
 exact ⟨(hb.cell hlt).trans h1,(hb.cell hlt).trans h2,(hb.cell hlt).trans h3⟩
def zero :V := ⟨0,0,⟨#[]⟩⟩
def n4 (l :List UInt8) :Int := ((l.getD 1 0).toNat :Int) *16777216+ ((l.getD 2 0).toNat :Int) *65536+ ((l.getD 3 0).toNat :Int) *256+ ((l.getD 4 0).toNat :Int)
def fv (l :List UInt8) :V×Nat :=
 if l.getD 0 0=1 then (zero,1)
 else if l.getD 0 0=2 then (if l.length<5 then (zero,0) else (⟨1,n4 l - 1073741824,⟨#[]⟩⟩,5))
 else if l.getD 0 0=3 then (if Lib.indexByte l 0<0 then (zero,0) else (⟨2,0,str ((l.drop 1).take ((Lib.indexByte l 0).toNat - 1))⟩,(Lib.indexByte l 0).toNat+1))
 else (zero,0)
theorem Jn (s :ByteArray) (i :Nat) (h :i<s.size) :s.data.toList.getD i 0=s[i] :=by
 have h' :i<s.data.toList.length :=by simpa using h
 rw [List.getD_eq_getElem?_getD,List.getElem?_eq_getElem h']
 rfl
def dec :Nat→List UInt8→Option (List V)
 | 0,l=>if l= [] then some [] else none
 | f+1,l=>if l= [] then some [] else if (fv l).2=0∨good (fv l).1=false then none else (dec f (l.drop (fv l).2)).map ((fv l).1 :: ·)
def vals (l :List UInt8) :Option (List V) :=dec l.length l
theorem Y1 (f :Nat) :dec f [] =some [] :=by cases f<;>simp [dec]
theorem Adx : ∀ (f :Nat) (l :List UInt8),l.length≤f→dec f l=dec l.length l :=by
 intro f
 induction f using Nat.strongRecOn with
 | ind f ih=>
  intro l hl
  match l,f with
  | [],f=>rw [Y1,Y1]
  | c ::l,0=>simp at hl
  | c ::l,f+1=>
   simp only [List.length_cons] at hl⊢
   simp only [dec]
   by_cases h : (fv (c ::l)).2=0∨good (fv (c ::l)).1=false
   ·simp [h]
   ·simp only [h,if_false]
    have hz :0< (fv (c ::l)).2 :=by omega
    have hd : ((c ::l).drop (fv (c ::l)).2).length≤l.length :=by rw [List.length_drop,List.length_cons];omega
    rw [ih f (by omega) _ (by omega)]
    by_cases hf :l.length=f
    ·rw [hf,ih f (by omega) _ (by omega)]
    ·rw [ih l.length (by omega) _ hd]
theorem P4 :vals [] =some [] :=rfl
theorem P5 {l :List UInt8} (hl :l≠ []) (h : (fv l).2=0∨good (fv l).1=false) :vals l=none :=by
 unfold vals
 match l,hl with
 | c ::l,_=>simp only [List.length_cons,dec];rw [if_neg (by simp),if_pos h]
theorem No {l :List UInt8} (hl :l≠ []) (h : (fv l).2≠0) (hg :good (fv l).1=true) :vals l= (vals (l.drop (fv l).2)).map ((fv l).1 :: ·) :=by
 unfold vals
 match l,hl with
 | c ::l,_=>
  simp only [List.length_cons,dec]
  rw [if_neg (by simp),if_neg (by simp [h,hg]),Adx l.length _ (by rw [List.length_drop,List.length_cons];omega)]
theorem Aif (l :List UInt8) (hl :l≠ []) : (fv l).2≤l.length :=by
 have h1 :1≤l.length :=by cases l<;>simp_all
 unfold fv
 split
 ·exact h1
 ·split
  ·split
   ·simp
   ·simp;omega
  ·split
   ·split
    ·simp
    ·rename_i hi
     obtain ⟨i,hi'⟩ : ∃i :Nat,Lib.indexByte l 0=i := ⟨(Lib.indexByte l 0).toNat,by omega⟩
     have := (List.getElem?_eq_some_iff.1 (Lib.indexByte_some hi').1).1
     rw [hi']
     simp;omega
   ·simp
theorem Xv (t :ByteArray) (z :Nat) : (t.extract z t.size).data.toList=t.data.toList.drop z :=by
 rw [Lib.extract_data,List.take_of_length_le]
 rw [List.length_drop,Cn]
 exact Nat.le_refl _
theorem Zw (l :List UInt8) : (fv l).1.s.size≤l.length :=by
 unfold fv
 split
 ·exact Nat.zero_le _
 ·split
  ·split<;>exact Nat.zero_le _
  ·split
   ·split
    ·exact Nat.zero_le _
    ·simp only [P3]
     have h1 :=List.length_take_le ((Lib.indexByte l 0).toNat - 1) (l.drop 1)
     have h2 : ((l.drop 1).take ((Lib.indexByte l 0).toNat - 1)).length≤ (l.drop 1).length :=by simp;omega
     simp only [List.length_drop] at h2
     omega
   ·exact Nat.zero_le _
theorem Aig (a b :List UInt8) :str a++str b=str (a++b) :=by
 apply ByteArray.ext
 rw [ByteArray.data_append]
 simp [str]
end Go.Proofs.YthehiijgnepcfaaGreat

namespace Go.Proofs.YthehiijgnepcfaaGreat
open Go.RowKit
def Hb (a b :Int) :Int :=if a<b then -1 else if b<a then 1 else 0
def Np (a b :ByteArray) :Int :=if Op.bytesLess a.toList b.toList then -1 else if a.toList==b.toList then 0 else 1
def or3 (x y z :Int) :Int :=if x=0 then if y=0 then z else y else x
def Dy (a b :V) :Int :=or3 (Hb a.k b.k) (Hb a.n b.n) (Np a.s b.s)
set_option maxHeartbeats 400000 in
theorem Zx (a b :Int) (w :World) :Calls Tryz.prog 188 #[.int .i64 a, .int .i64 b] w fun e w'=>e= .returned (.int .i64 (Hb a b)) ∧w'=w :=by
 rcases (show a<b∨b<a∨a=b from by omega) with h | h | h
 ·have hn : ¬b<a :=by omega
  go_enter Tryz.func188,Tryz.ntmps188
  go_wp2
  go_ret
  exact ⟨An (by simp [Hb,h]),rfl⟩
 ·have hn : ¬a<b :=by omega
  have E :Hid (Hb a b=1) :=by show Hb a b=1;simp [Hb,hn,h]
  go_enter Tryz.func188,Tryz.ntmps188
  go_wp2
  go_ret
  exact ⟨An E.out.symm,rfl⟩
 ·subst h
  have E :Hid (Hb a a=0) :=by show Hb a a=0;simp [Hb]
  go_enter Tryz.func188,Tryz.ntmps188
  go_wp2
  go_ret
  exact ⟨An E.out.symm,rfl⟩
set_option maxHeartbeats 400000 in
theorem Zy (a b :ByteArray) (w :World) :Calls Tryz.prog 189 #[.string a, .string b] w fun e w'=>e= .returned (.int .i64 (Np a b)) ∧w'=w :=by
 cases h :Op.bytesLess a.toList b.toList<;>cases h2 :a.toList==b.toList
 all_goals
  have E :Hid (Np a b= (if Op.bytesLess a.toList b.toList then -1 else if a.toList==b.toList then 0 else 1)) :=rfl
  go_enter Tryz.func189,Tryz.ntmps189
  go_wp2
  go_ret
  exact ⟨An (by rw [E.out,h,h2];rfl),rfl⟩
set_option maxHeartbeats 400000 in
theorem Ady (x y z :Int) (b c :Nat) (w :World) (h0 :w.cell? ⟨b,0,none⟩ =some (.int .i64 x)) (h1 :w.cell? ⟨b,1,none⟩ =some (.int .i64 y)) (h2 :w.cell? ⟨b,2,none⟩ =some (.int .i64 z)) :
  Calls Tryz.prog 187 #[.slice (some ⟨b,0,none⟩) 3 c] w fun e w'=>e= .returned (.int .i64 (or3 x y z)) ∧w'=w :=by
 by_cases hx :x=0<;>by_cases hy :y=0<;>by_cases hz :z=0
 all_goals
  have E :Hid (or3 x y z=if x=0 then if y=0 then z else y else x) :=rfl
  go_enter Tryz.func187,Tryz.ntmps187
  go_wp2
  refine wp_loop_rounds 4 ?_
  rw [rounds_succ]
  go_wp2
  all_goals (try (rw [rounds_succ];go_wp2))
  all_goals (try (rw [rounds_succ];go_wp2))
  all_goals (try (rw [rounds_succ];go_wp2))
  all_goals go_ret
  all_goals exact ⟨An (by rw [E.out];simp_all),rfl⟩
set_option maxHeartbeats 4000000 in
theorem Xw (a b :V) (w :World) :Calls Tryz.prog 179 #[a.val,b.val] w fun e w'=>e= .returned (.int .i64 (Dy a b)) ∧Below w.heap.size w w' :=by
 obtain ⟨k1,n1,s1⟩ :=a
 obtain ⟨k2,n2,s2⟩ :=b
 show Calls Tryz.prog 179 #[.agg #[.int .i64 k1, .int .i64 n1, .string s1], .agg #[.int .i64 k2, .int .i64 n2, .string s2]] w _
 go_enter Tryz.func179,Tryz.ntmps179
 go_wp2
 go_region_held3 (fun w'=>w'.cell? ⟨w.heap.size,0,none⟩ =some (.int .i64 k1) ∧w'.cell? ⟨w.heap.size,1,none⟩ =some (.int .i64 n1) ∧w'.cell? ⟨w.heap.size,2,none⟩ =some (.string s1) ∧w'.cell? ⟨w.heap.size+1,0,none⟩ =some (.int .i64 k2) ∧w'.cell? ⟨w.heap.size+1,1,none⟩ =some (.int .i64 n2) ∧w'.cell? ⟨w.heap.size+1,2,none⟩ =some (.string s2)) (go_keep)
  (first | (go_at_call 188;refine (Zx _ _ _).mono ?_;rintro e w' ⟨rfl,rfl⟩) | (go_at_call 189;refine (Zy _ _ _).mono ?_;rintro e w' ⟨rfl,rfl⟩) | (go_at_call 187;refine (Ady (Hb k1 k2) (Hb n1 n2) (Np s1 s2) _ _ _ ?_ ?_ ?_).mono ?_;(simp [go_sem]);(simp [go_sem]);(simp [go_sem]);rintro e w' ⟨rfl,rfl⟩))
 go_wp2
 go_ret
 refine ⟨rfl, ?_⟩
 repeat first | exact Below.refl _ _ | apply Below.drew | refine Below.alloc ?_ (by simp;try omega) _
end Go.Proofs.YthehiijgnepcfaaGreat


/-
  7 texts of this proof in one, in build order: Elems, YIndex, YMap, NPlain, Named, YIndexA, YGood.
-/
import Derived.Test.YthehiijgnepcfaaGreatRows
import Derived.Maps.AppendAt
import Derived.OwnWalk
import Derived.Laws.Rows
import Derived.Laws.Tables
import Derived.WalkKit
import Derived.WalkSpells
import Derived.WalkLawsBesides
import Derived.Maps.Own
import Derived.Maps.OwnOps
import Derived.Maps.Views
import Derived.StringKeys
import Derived.Lib.Bytealg
import Derived.Lib.IndexLaws
import Derived.Test.YthehiijgnepcfaaGreatJ05
set_option linter.unusedSimpArgs false
set_option linter.unusedVariables false
namespace Go.Proofs.YthehiijgnepcfaaGreat
open Go.RowKit
structure Elem (α :Type) where
 size :Nat
 R : (Nat→Prop) →World→α→List Value→Prop
 len : ∀ {F w a c},R F w a c→c.length=size
 keep : ∀ {F w w' a c},Keeps F w w'→R F w a c→R F w' a c
 mono : ∀ {F F' :Nat→Prop} {w a c},(∀k,k<w.heap.size→F k→F' k) →R F w a c→R F' w a c
def All {α :Type} (K :Elem α) (F :Nat→Prop) (w :World) :List α→List Value→Prop
 | [],cs=>cs= []
 | a ::l,cs=> ∃c rest,cs=c++rest∧K.R F w a c∧All K F w l rest
theorem All.keep {α :Type} {K :Elem α} {F :Nat→Prop} {w w' :World} (hk :Keeps F w w') : ∀ {l :List α} {cs :List Value},All K F w l cs→All K F w' l cs
 | [],cs,h=>h
 | a ::l,cs,h=>by
  obtain ⟨c,rest,h1,h2,h3⟩ :=h
  exact ⟨c,rest,h1,K.keep hk h2,All.keep hk h3⟩
theorem All.mono {α :Type} {K :Elem α} {F F' :Nat→Prop} {w :World} (hk : ∀k,k<w.heap.size→F k→F' k) : ∀ {l :List α} {cs :List Value},All K F w l cs→All K F' w l cs
 | [],cs,h=>h
 | a ::l,cs,h=>by
  obtain ⟨c,rest,h1,h2,h3⟩ :=h
  exact ⟨c,rest,h1,K.mono hk h2,All.mono hk h3⟩
theorem All.append {α :Type} {K :Elem α} {F :Nat→Prop} {w :World} : ∀ {l m :List α} {cs ds :List Value},All K F w l cs→All K F w m ds→All K F w (l++m) (cs++ds)
 | [],m,cs,ds,h,k=>by have :cs= [] :=h;subst this;exact k
 | a ::l,m,cs,ds,h,k=>by
  obtain ⟨c,rest,rfl,h2,h3⟩ :=h
  exact ⟨c,rest++ds,by simp,h2,All.append h3 k⟩
theorem All.one {α :Type} {K :Elem α} {F :Nat→Prop} {w :World} {a :α} {c :List Value} (h :K.R F w a c) :All K F w [a] c := ⟨c,[],by simp,h,rfl⟩
theorem All.length {α :Type} {K :Elem α} {F :Nat→Prop} {w :World} : ∀ {l :List α} {cs :List Value},All K F w l cs→cs.length=l.length*K.size
 | [],cs,h=>by have :cs= [] :=h;subst this;simp
 | a ::l,cs,h=>by
  obtain ⟨c,rest,rfl,h2,h3⟩ :=h
  have e1 :=K.len h2
  have e2 :=All.length h3
  rw [List.length_append,List.length_cons,e1,e2,Nat.add_mul];omega
def IsL {α :Type} (K :Elem α) (F :Nat→Prop) (w :World) (sv :Value) (l :List α) :Prop := ∃cs,Fm F K.size w sv l.length cs∧All K F w l cs
theorem IsL.keep {α :Type} {K :Elem α} {F :Nat→Prop} {w w' :World} {sv :Value} {l :List α} (h :IsL K F w sv l) (hk :Keeps F w w') :IsL K F w' sv l :=by
 obtain ⟨cs,h1,h2⟩ :=h
 exact ⟨cs,h1.keep hk,h2.keep hk⟩
theorem IsL.mono {α :Type} {K :Elem α} {F F' :Nat→Prop} {w :World} {sv :Value} {l :List α} (h :IsL K F w sv l) (hk : ∀k,k<w.heap.size→F k→F' k) :IsL K F' w sv l :=by
 obtain ⟨cs,h1,h2⟩ :=h
 exact ⟨cs,h1.mono hk,h2.mono hk⟩
theorem IsL.shape {α :Type} {K :Elem α} {F :Nat→Prop} {w :World} {sv :Value} {l :List α} (h :IsL K F w sv l) : ∃ao c,sv= .slice ao l.length c :=by
 obtain ⟨cs,h1,_⟩ :=h;exact h1.shape
theorem IsL.nil {α :Type} (K :Elem α) (F :Nat→Prop) (w :World) :IsL K F w (.slice none 0 0) ([] :List α) := ⟨[],Fm.nil F _ w,rfl⟩
theorem Mf {F :Nat→Prop} {w :World} {K :Elem E} (hK : ∀F w e c,K.R F w e c↔c.length=8∧IsE F w e (.agg c.toArray)) : ∀ {l :List E} {cs :List Value},All K F w l cs↔Cp F w l cs
 | [],cs=>by rw [Cp];rfl
 | e ::l,cs=>by
  rw [Cp]
  constructor
  ·rintro ⟨c,rest,h1,h2,h3⟩
   exact ⟨c,rest,h1,((hK _ _ _ _).1 h2).1,((hK _ _ _ _).1 h2).2,(Mf hK).1 h3⟩
  ·rintro ⟨c,rest,h1,h2,h3,h4⟩
   exact ⟨c,rest,h1,(hK _ _ _ _).2 ⟨h2,h3⟩,(Mf hK).2 h4⟩
def Az :Elem E where
 size :=8
 R F w e c :=c.length=8∧IsE F w e (.agg c.toArray)
 len h :=h.1
 keep hk h := ⟨h.1,IsE.keep hk _ _ h.2⟩
 mono hk h := ⟨h.1,IsE.mono hk _ _ h.2⟩
theorem Ajh {F :Nat→Prop} {w :World} {sv :Value} {l :List E} :IsL Az F w sv l↔Ff F w sv l :=
 ⟨fun ⟨cs,h1,h2⟩ => ⟨cs,h1,(Mf fun _ _ _ _=>Iff.rfl).1 h2⟩,fun ⟨cs,h1,h2⟩ => ⟨cs,h1,(Mf fun _ _ _ _=>Iff.rfl).2 h2⟩⟩
def Gi :Elem (List E) where
 size :=1
 R F w l c := ∃sv,c= [sv] ∧IsL Az F w sv l
 len h :=by obtain ⟨sv,rfl,_⟩ :=h;rfl
 keep hk h :=by obtain ⟨sv,h1,h2⟩ :=h;exact ⟨sv,h1,h2.keep hk⟩
 mono hk h :=by obtain ⟨sv,h1,h2⟩ :=h;exact ⟨sv,h1,h2.mono hk⟩
def Ei :Elem (Wd×E) where
 size :=9
 R F w s c := ∃d,c= .string s.1 ::d∧d.length=8∧IsE F w s.2 (.agg d.toArray)
 len h :=by obtain ⟨d,rfl,h,_⟩ :=h;simp [h]
 keep hk h :=by obtain ⟨d,h1,h2,h3⟩ :=h;exact ⟨d,h1,h2,IsE.keep hk _ _ h3⟩
 mono hk h :=by obtain ⟨d,h1,h2,h3⟩ :=h;exact ⟨d,h1,h2,IsE.mono hk _ _ h3⟩
def So :Elem Wd where
 size :=1
 R _ _ s c :=c= [.string s]
 len h :=by subst h;rfl
 keep _ h :=h
 mono _ h :=h
def Cc :Elem ColD where
 size :=3
 R _ _ x c :=c= [.string x.name, .int .i64 x.ty, .bool x.must]
 len h :=by subst h;rfl
 keep _ h :=h
 mono _ h :=h
def Akh (c :List Value) :Value := .agg c.toArray
def Aki (c :List Value) :Value :=c.headD (.bool false)
theorem Ej {F :Nat→Prop} {w :World} {e :E} {c :List Value} (h :Az.R F w e c) : ∃op xk xn xs s name n ao k cap,c= [.int .i64 op, .int .i64 xk, .int .i64 xn, .string xs, .string s, .string name, .int .i64 n, .slice ao k cap] :=by
 obtain ⟨op,⟨xk,xn,xs⟩,s,name,n,ao,k,cap,h1⟩ :=h.2.shape
 refine ⟨op,xk,xn,xs,s,name,n,ao,k,cap, ?_⟩
 have :=congrArg Array.toList (Value.agg.inj h1)
 simpa using this
theorem Abx {F :Nat→Prop} {w :World} {l :List E} {c :List Value} (h :Gi.R F w l c) : ∃ao k cap,c= [.slice ao k cap] :=by
 obtain ⟨sv,rfl,h⟩ :=h
 obtain ⟨ao,cap,rfl⟩ :=h.shape
 exact ⟨_,_,_,rfl⟩
theorem Aby {F :Nat→Prop} {w :World} {e :Wd×E} {c :List Value} (h :Ei.R F w e c) : ∃cn op xk xn xs s name n ao k cap,c= [.string cn, .int .i64 op, .int .i64 xk, .int .i64 xn, .string xs, .string s, .string name, .int .i64 n, .slice ao k cap] :=by
 obtain ⟨d,rfl,h1,h2⟩ :=h
 obtain ⟨op,xk,xn,xs,s,name,n,ao,k,cap,rfl⟩ :=Ej (w :=w) (F :=F) (e :=e.2) ⟨h1,h2⟩
 exact ⟨e.1,op,xk,xn,xs,s,name,n,ao,k,cap,rfl⟩
theorem Ai0 {F :Nat→Prop} {w :World} {e :Wd} {c :List Value} (h :So.R F w e c) : ∃s,c= [.string s] := ⟨e,h⟩
theorem Ai1 {F :Nat→Prop} {w :World} {e :ColD} {c :List Value} (h :Cc.R F w e c) : ∃s t m,c= [.string s, .int .i64 t, .bool m] := ⟨e.name,e.ty,e.must,h⟩
theorem Aj5 (w :World) (base :Nat) (t :TypeId) (l :List Value) (size :Nat) (hl :l.length=size) (hb :base≤w.heap.size) : (w.alloc (.cells l.toArray t)).ownsRow base t size (.slice (some ⟨w.heap.size,0,none⟩) 1 1) 1 l :=
 by subst hl;exact ⟨by simp, .inr ⟨w.heap.size,1,l.toArray,rfl,hb,Ab w _,Nat.le_refl _,by decide,by simp,by simp⟩⟩
abbrev FO (n :Nat) (z :Value) :Nat→Prop :=fun k=>n≤k∧some k≠z.ownBlock
theorem X7 {n :Nat} {z :Value} {w w' :World} (hg :w.grownBy w' z.ownBlock) :Keeps (FO n z) w w' := ⟨hg.size,fun k hk hl=>hg.block k hl hk.2⟩
theorem Y3 {n :Nat} {z z' :Value} {w :World} (h :z'.ownBlock=z.ownBlock∨z'.ownBlock=some w.heap.size) : ∀k,k<w.heap.size→FO n z k→FO n z' k :=by
 intro k hk hf
 refine ⟨hf.1,fun e=> ?_⟩
 rcases h with h | h
 ·rw [h] at e;exact hf.2 e
 ·rw [h] at e;simp at e;omega
def Afv (kind :Int) (name table col :Wd) (cols rows sets frm out :Value) (w8 :List Value) (order :Value) (down :Bool) (n :Int) :List Value :=
 [.int .i64 kind, .string name, .string table, .string col,cols,rows,sets,frm,out] ++w8++ [order, .bool down, .int .i64 n]
structure IsS (F :Nat→Prop) (w :World) (s :Stm) (c :List Value) :Prop where
 is : ∃cols rows sets frm out w8 order,c=Afv s.kind s.name s.table s.col cols rows sets frm out w8 order s.down s.n∧w8.length=8∧IsL Cc F w cols s.cols∧IsL Gi F w rows s.rows∧IsL Ei F w sets s.sets∧IsL So F w frm s.frm∧IsL Az F w out s.out∧IsE F w s.wher (.agg w8.toArray) ∧IsL Az F w order s.order
def Akj :Elem Stm where
 size :=20
 R :=IsS
 len h :=by obtain ⟨cols,rows,sets,frm,out,w8,order,rfl,h8,_⟩ :=h.is;simp [Afv,h8]
 keep hk h :=by
  obtain ⟨cols,rows,sets,frm,out,w8,order,h1,h2,h3,h4,h5,h6,h7,h8,h9⟩ :=h.is
  exact ⟨cols,rows,sets,frm,out,w8,order,h1,h2,h3.keep hk,h4.keep hk,h5.keep hk,h6.keep hk,h7.keep hk,IsE.keep hk _ _ h8,h9.keep hk⟩
 mono hk h :=by
  obtain ⟨cols,rows,sets,frm,out,w8,order,h1,h2,h3,h4,h5,h6,h7,h8,h9⟩ :=h.is
  exact ⟨cols,rows,sets,frm,out,w8,order,h1,h2,h3.mono hk,h4.mono hk,h5.mono hk,h6.mono hk,h7.mono hk,IsE.mono hk _ _ h8,h9.mono hk⟩
abbrev sA (kind :Int) (name table col :Wd) (cols rows sets frm out :Value) (op xk xn :Int) (xs s nmv :Wd) (n8 :Int) (sl order :Value) (down :Bool) (n :Int) :Array Value :=
 #[.int .i64 kind, .string name, .string table, .string col,cols,rows,sets,frm,out, .int .i64 op, .int .i64 xk, .int .i64 xn, .string xs, .string s, .string nmv, .int .i64 n8,sl,order, .bool down, .int .i64 n]
abbrev Ai :Array Value :=sA 0 noW noW noW (.slice none 0 0) (.slice none 0 0) (.slice none 0 0) (.slice none 0 0) (.slice none 0 0) 0 0 0 noW noW noW 0 (.slice none 0 0) (.slice none 0 0) false 0
abbrev Aj8 (k :Int) :Array Value :=sA k noW noW noW (.slice none 0 0) (.slice none 0 0) (.slice none 0 0) (.slice none 0 0) (.slice none 0 0) 0 0 0 noW noW noW 0 (.slice none 0 0) (.slice none 0 0) false (-1)
def E1 (v :Value) :Prop := ∃ao n c,v= .slice ao n c
theorem Al (ao :Option Addr) (n c :Nat) :E1 (.slice ao n c) := ⟨ao,n,c,rfl⟩
theorem E8 {kind :Int} {name table col :Wd} {cols rows sets frm out :Value} {op xk xn :Int} {xs s nmv :Wd} {n8 :Int} {sl order :Value} {down :Bool} {n :Int} (h1 :E1 cols) (h2 :E1 rows) (h3 :E1 sets) (h4 :E1 frm) (h5 :E1 out) (h6 :E1 sl) (h7 :E1 order) :
  (sA kind name table col cols rows sets frm out op xk xn xs s nmv n8 sl order down n).all (·.oneCell') =true :=by
 obtain ⟨_,_,_,rfl⟩ :=h1
 obtain ⟨_,_,_,rfl⟩ :=h2
 obtain ⟨_,_,_,rfl⟩ :=h3
 obtain ⟨_,_,_,rfl⟩ :=h4
 obtain ⟨_,_,_,rfl⟩ :=h5
 obtain ⟨_,_,_,rfl⟩ :=h6
 obtain ⟨_,_,_,rfl⟩ :=h7
 simp [Value.oneCell']
theorem Ge {α :Type} {K :Elem α} {F :Nat→Prop} {w :World} {sv :Value} {l :List α} (h :IsL K F w sv l) :E1 sv :=by obtain ⟨ao,c,rfl⟩ :=h.shape;exact Al _ _ _
theorem Vz {F :Nat→Prop} {w :World} {kind :Int} {name table col :Wd} {cols rows sets frm out :Value} {op xk xn :Int} {xs s nmv :Wd} {n8 :Int} {sl order :Value} {down :Bool} {n :Int} {lc :List ColD} {lr :List (List E)} {ls :List (Wd×E)} {lf :List Wd} {lo :List E} {e :E} {ld :List E}
  (h1 :IsL Cc F w cols lc) (h2 :IsL Gi F w rows lr) (h3 :IsL Ei F w sets ls) (h4 :IsL So F w frm lf) (h5 :IsL Az F w out lo) (h6 :IsE F w e (.agg (Ae op ⟨xk,xn,xs⟩ s nmv n8 sl))) (h7 :IsL Az F w order ld) :
  Akj.R F w ⟨kind,name,table,col,lc,lr,ls,lf,lo,e,ld,down,n⟩ (sA kind name table col cols rows sets frm out op xk xn xs s nmv n8 sl order down n).toList :=
 ⟨cols,rows,sets,frm,out,(Ae op ⟨xk,xn,xs⟩ s nmv n8 sl).toList,order,rfl,rfl,h1,h2,h3,h4,h5,h6,h7⟩
theorem upd {w :World} {b :Nat} {arr :Array Value} {t :TypeId} (h :w.heap[b]? =some (.cells arr t)) (i :Nat) (v :Value) : (w.setCell ⟨b,i,none⟩ v).heap[b]? =some (.cells (arr.setIfInBounds i v) t) :=by
 simp only [World.setCell,Array.getElem?_modify,if_true,h];rfl
theorem Ak : (Tryz.prog.info? 36).map (·.size) =some 20 :=by kernel_rfl
theorem Au {w :World} {g :Nat} {old cells :Array Value} {t :TypeId} (h :w.heap[g]? =some (.cells old t)) : (w.setRow g cells).heap[g]? =some (.cells cells t) :=by
 simp only [World.setRow,Array.getElem?_modify,if_true,h];rfl
theorem Ca {w :World} {g b :Nat} {x :Obj} (h :w.heap[b]? =some x) (hn :b≠g) (cells :Array Value) : (w.setRow g cells).heap[b]? =some x :=by
 simp only [World.setRow,Array.getElem?_modify]
 rw [if_neg (fun e=>hn e.symm)];exact h
theorem Below.row {B :Nat} {w w' :World} (h :Below B w w') {b :Nat} (hb :B≤b) (cells :Array Value) :Below B w (w'.setRow b cells) :=
 ⟨h.os,h.tape,h.output,by simp [World.setRow];exact h.size,fun k hk=>by
  have :=h.block k hk
  simp only [World.setRow,Array.getElem?_modify]
  rw [if_neg (by omega)];exact this⟩
theorem Keeps.row {F :Nat→Prop} {w w' :World} (h :Keeps F w w') {b :Nat} (hb : ¬F b) (cells :Array Value) :Keeps F w (w'.setRow b cells) :=
 ⟨by simp [World.setRow];exact h.size,fun k hk hl=>by
  have :=h.block k hk hl
  simp only [World.setRow,Array.getElem?_modify]
  rw [if_neg (by rintro rfl;exact hb hk)];exact this⟩
theorem A2 {P :Program} {fn :Func} {p q :Tmp} {ty :TypeId} (h :fn.results= #[.cell p ty, .tmp q]) (tmps :Array Value) (w :World) (g :Nat) (t :TypeId) (cs :Array Value) (fr :Nat×Nat) (d :TypeDesc) (v :Value)
  (hp :tmps.getD p undef= .pointer (some ⟨g,0,none⟩)) (hq :tmps.getD q undef=v) (hg :w.heap[g]? =some (.cells cs t fr))
  (hu :P.underlying ty=some d) (hd : (match d with | .struct _ | .array _ _=>true | _=>false) =true) (hi : (P.info? ty).map (·.size) =some cs.size) :
  (results fn tmps).run P w= .ok (.tuple #[.agg cs,v]) w :=by
 have hp' :tmps[p]?.getD undef= .pointer (some ⟨g,0,none⟩) :=by simpa using hp
 have hq' :tmps[q]?.getD undef=v :=by simpa using hq
 simp [results,h,hp',hq',asAddr,run_loadVar_row w g t ty cs fr d hg hu hd hi]
end Go.Proofs.YthehiijgnepcfaaGreat

namespace Go.Proofs.YthehiijgnepcfaaGreat
open Go.RowKit
def Ah (p :Nat→Bool) :Nat→Nat→Int
 | _,0=> -1
 | i,n+1=>if p i then (i :Int) else Ah p (i+1) n
def Ay (p :Nat→Bool) :Nat→Nat→Bool
 | _,0=>false
 | i,n+1=>p i || Ay p (i+1) n
theorem Fn (p :Nat→Bool) : ∀ (n i :Nat),Ay p i n=decide (0≤Ah p i n)
 | 0,i=>by simp [Ay,Ah]
 | n+1,i=>by
  rw [Ay,Ah,Fn p n (i+1)]
  cases p i
  ·simp
  ·simp
theorem C5 (p :Nat→Bool) (k n :Nat) (h :k<n) :Ah p k (n - k) =if p k then (k :Int) else Ah p (k+1) (n - (k+1)) :=by
 rw [show n - k= (n - (k+1)) +1 from by omega,Ah]
structure IdxD where
 name :Wd
 table :Wd
 col :Wd
def Fg :Elem IdxD where
 size :=3
 R _ _ x c :=c= [.string x.name, .string x.table, .string x.col]
 len h :=by subst h;rfl
 keep _ h :=h
 mono _ h :=h
def Io :Elem Int where
 size :=1
 R _ _ x c :=c= [.int .i64 x]
 len h :=by subst h;rfl
 keep _ h :=h
 mono _ h :=h
structure TabD where
 name :Wd
 cols :List ColD
def Cq :Elem TabD where
 size :=2
 R F w x c := ∃sv,c= [.string x.name,sv] ∧IsL Cc F w sv x.cols
 len h :=by obtain ⟨sv,rfl,_⟩ :=h;rfl
 keep hk h :=by obtain ⟨sv,h1,h2⟩ :=h;exact ⟨sv,h1,h2.keep hk⟩
 mono hk h :=by obtain ⟨sv,h1,h2⟩ :=h;exact ⟨sv,h1,h2.mono hk⟩
theorem Y4 {α :Type} {K :Elem α} {F :Nat→Prop} {w :World} : ∀ {l :List α} {cs :List Value} {i :Nat} {x :α},All K F w l cs→l[i]? =some x→ ∃c,K.R F w x c∧ ∀j u,c[j]? =some u→cs[i*K.size+j]? =some u
 | a ::l,cs,0,x,h,hx=>by
  obtain ⟨c,rest,rfl,h2,_⟩ :=h
  simp at hx;subst hx
  refine ⟨c,h2,fun j u hj=> ?_⟩
  rw [List.getElem?_append_left (by have := (List.getElem?_eq_some_iff.1 hj).1;omega)]
  simpa using hj
 | a ::l,cs,i+1,x,h,hx=>by
  obtain ⟨c,rest,rfl,h2,h3⟩ :=h
  simp only [List.getElem?_cons_succ] at hx
  obtain ⟨d,d1,d2⟩ :=Y4 h3 hx
  refine ⟨d,d1,fun j u hj=> ?_⟩
  have :=K.len h2
  rw [List.getElem?_append_right (by rw [this,Nat.add_mul];omega),this,show (i+1) *K.size+j - K.size=i*K.size+j from by rw [Nat.add_mul];omega]
  exact d2 j u hj
 | [],_,_,_,_,hx=>by simp at hx
theorem A4 {α :Type} {K :Elem α} {F :Nat→Prop} {w :World} {ao :Option Addr} {n c :Nat} {l :List α} (h :IsL K F w (.slice ao n c) l) {i :Nat} {x :α} (hx :l[i]? =some x) :
  ∃b off cs,ao=some ⟨b,off,none⟩ ∧F b∧b<w.heap.size∧K.R F w x cs∧ ∀j u,cs[j]? =some u→w.cell? ⟨b,off+i*K.size+j,none⟩ =some u :=by
 obtain ⟨cs,hr,ha⟩ :=h
 obtain ⟨d,d1,d2⟩ :=Y4 ha hx
 have hi :i<l.length := (List.getElem?_eq_some_iff.1 hx).1
 rcases hr.2 with ⟨h0,_⟩ | ⟨_,b,off,cap,he,hF,hb,_,_,hc⟩
 ·omega
 ·cases he
  exact ⟨b,off,d,rfl,hF,hb,d1,fun j u hj=>by rw [Nat.add_assoc];exact hc _ u (d2 j u hj)⟩
theorem Cj {α :Type} {K :Elem α} {F :Nat→Prop} {w :World} {ao :Option Addr} {n c :Nat} {l :List α} (h :IsL K F w (.slice ao n c) l) :n=l.length∧l.length≤maxLen :=by
 obtain ⟨cs,hr,_⟩ :=h
 rcases hr.2 with ⟨h0,ao',c',he,_⟩ | ⟨_,b,off,cap,he,_,_,h1,h2,_⟩
 ·cases he;exact ⟨h0.symm,by rw [h0];exact Nat.zero_le _⟩
 ·cases he;exact ⟨rfl,by omega⟩
end Go.Proofs.YthehiijgnepcfaaGreat

namespace Go.Proofs.YthehiijgnepcfaaGreat
open Go.RowKit Go.Maps
theorem P7 :Keyed Tryz.prog 9 :=string_keyed Tryz.underlying9
theorem Y5 (w :World) : (zeroValue 3).run Tryz.prog w= .ok (.int .i64 0) w :=by kernel_rfl
def Hx (N :List Wd) (s :Wd) :Nat :=N.countP fun x=>decide (x=s)
theorem Abz (N :List Wd) (s t :Wd) :Hx (N++ [s]) t=Hx N t+if s=t then 1 else 0 :=by
 unfold Hx
 rw [List.countP_append]
 by_cases h :s=t<;>simp [h]
theorem Af4 (N :List Wd) (s :Wd) :Hx N s≤N.length :=List.countP_le_length
theorem Ad4 (N :List Wd) (s :Wd) :0<Hx N s↔s∈N :=by
 unfold Hx
 rw [List.countP_pos_iff]
 constructor
 ·rintro ⟨x,hx,h⟩;simp at h;subst h;exact hx
 ·intro h;exact ⟨s,h,by simp⟩
def Ip (N :List Wd) (s :Wd) :Bool :=N.any fun x=>decide (x=s)
theorem Ad5 (N :List Wd) (s :Wd) :Ip N s=true↔s∈N :=by simp [Ip]
def Cnt (w :World) (b :Nat) (N :List Wd) :Prop :=
 ∃ (D :DataW Unit),w.ownsMap Tryz.prog 9 (plainElem Tryz.prog 3) b N.length D∧IsMap D∧ ∀s :Wd,s.size≤maxLen→D.atKey (.string s.data.toList) (.lit (.int .i64 0)) = .lit (.int .i64 (Hx N s :Nat))
theorem P8 (w :World) :Cnt (w.alloc (.map #[] 0)) w.heap.size [] :=
 ⟨.map [],World.ownsMap_made _ _ _ _,isMap_empty,fun _ _=>rfl⟩
theorem Cnt.lt {w :World} {b :Nat} {N :List Wd} (h :Cnt w b N) :b<w.heap.size :=by obtain ⟨D,h1,_⟩ :=h;exact h1.lt
theorem Cnt.kept {w w' :World} {b :Nat} {N :List Wd} {row :Option Nat} (h :Cnt w b N) (hg :w.grownBy w' row) (hne :some b≠row) :Cnt w' b N :=by
 obtain ⟨D,h1,h2⟩ :=h
 exact ⟨D,h1.kept hg hne,h2⟩
theorem Aaa {w w' :World} (h :Below w.heap.size w w') :w.grownBy w' none := ⟨h.os,h.tape,h.output,h.size,fun k hk _=>h.block k hk⟩
theorem Cnt.below {w w' :World} {b :Nat} {N :List Wd} (h :Cnt w b N) (hb :Below w.heap.size w w') :Cnt w' b N :=h.kept (Aaa hb) (by simp)
set_option maxRecDepth 100000 in
set_option maxHeartbeats 2000000 in
theorem Nu (b :Nat) (N :List Wd) (s :Wd) (w :World) (h :Cnt w b N) (hs :s.size≤maxLen) (hN :N.length≤16777216) :
  Calls Tryz.prog 133 #[.map (some b), .string s] w fun e w'=>e= .returned (.bool (Ip N s)) ∧Cnt w' b (N++ [s]) ∧w.grownBy w' (some b) :=by
 obtain ⟨D,hown,hmap,hD⟩ :=h
 have hkey :Go.keyOf Tryz.prog 9 (.string s) =some (.string s.data.toList) :=WideMaps.keyOf_string_mk Tryz.underlying9 hs
 have hle :=Af4 N s
 obtain ⟨c1,hrun1,hat1,_⟩ :=hown.lookup_int P7 Tryz.underlying180 Tryz.underlying3 (Y5 _) hkey
 have hc1 :c1= (Hx N s :Nat) :=by
  have :=hD s hs
  rw [hat1] at this
  simpa using this
 subst hc1
 have hwr :wrap64 ((Hx N s :Int) +1) = (Hx N s :Int) +1 :=by
  unfold wrap64;omega
 have hmem :Hid (Ip N s=decide ((1 :Int) < (Hx N s :Int) +1)) :=by
  show _=_
  rw [Bool.eq_iff_iff,Ad5,decide_eq_true_eq,←Ad4];omega
 have HD :Hid (∀t :Wd,t.size≤maxLen→ (D.put (.string s.data.toList) (.lit (.int .i64 ((Hx N s :Int) +1)))).atKey (.string t.data.toList) (.lit (.int .i64 0)) = .lit (.int .i64 (Hx (N++ [s]) t :Nat))) :=by
  intro t ht
  rw [Abz]
  by_cases hst :s=t
  ·subst hst
   rw [atKey_put_same hmap (k := .string s.data.toList) (show True from trivial),if_pos rfl]
   simp
  ·rw [atKey_put_other (fun e=>hst (by
    have :t.data.toList=s.data.toList :=by simpa using e
    exact (ByteArray.ext (Array.toList_inj.1 this)).symm)),hD t ht,if_neg hst]
   simp
 have hmp :IsMap (D.put (.string s.data.toList) (.lit (.int .i64 ((Hx N s :Int) +1)))) :=hmap.put _ _
 have hmap2 :Hid (IsMap D) :=hmap
 generalize hcc :Hx N s=cc at*
 clear hcc hD hat1 hle hmap
 go_enter Tryz.func133,Tryz.ntmps133
 have hvl :plainElem (H :=Unit) Tryz.prog 3 (.int .i64 (wrap64 ((cc :Int) +1))) =some (.lit (.int .i64 ((cc :Int) +1)),[]) :=by
  rw [plainElem_int Tryz.underlying3 (wrap64_wf _),hwr]
 go_wp2_with (at_mapUpdate;refine wpList_mapUpdate_own _ rfl _ _ _ 180 rfl 9 3 P7 Tryz.underlying180 _ b N.length _ rfl hown (by unfold maxLen;omega) _ _ _ rfl rfl hkey (.lit (.int .i64 ((cc :Int) +1))) [] hvl ?_)
 intro w1 hown1 hg1
 obtain ⟨c2,hrun2,hat2,_⟩ :=hown1.lookup_int P7 Tryz.underlying180 Tryz.underlying3 (Y5 _) hkey
 have hc2 :c2= (cc :Int) +1 :=by
  rw [atKey_put_same hmap2.out (k := .string s.data.toList) (show True from trivial)] at hat2
  simpa using hat2.symm
 subst hc2
 clear hat2 hrun1
 go_wp2
 go_ret
 exact ⟨Ag (by rw [hmem.out]),⟨_,by rw [List.length_append];exact hown1,hmp,HD.out⟩,hg1⟩
end Go.Proofs.YthehiijgnepcfaaGreat

namespace Go.Proofs.YthehiijgnepcfaaGreat
abbrev Aji :Wd := ⟨#[97,110,100]⟩
abbrev kBy :Wd := ⟨#[98,121]⟩
abbrev Af5 :Wd := ⟨#[99,114,101,97,116,101]⟩
abbrev Af6 :Wd := ⟨#[100,101,108,101,116,101]⟩
abbrev Aij :Wd := ⟨#[100,101,115,99]⟩
abbrev Aik :Wd := ⟨#[100,114,111,112]⟩
abbrev Ail :Wd := ⟨#[102,114,111,109]⟩
abbrev Ahi :Wd := ⟨#[105,110,100,101,120]⟩
abbrev Af7 :Wd := ⟨#[105,110,115,101,114,116]⟩
abbrev Ajj :Wd := ⟨#[105,110,116]⟩
abbrev Aim :Wd := ⟨#[105,110,116,111]⟩
abbrev kIs :Wd := ⟨#[105,115]⟩
abbrev Ahj :Wd := ⟨#[108,105,109,105,116]⟩
abbrev Ain :Wd := ⟨#[109,117,115,116]⟩
abbrev Ajk :Wd := ⟨#[110,111,116]⟩
abbrev Aio :Wd := ⟨#[110,117,108,108]⟩
abbrev kOn :Wd := ⟨#[111,110]⟩
abbrev kOr :Wd := ⟨#[111,114]⟩
abbrev Ahk :Wd := ⟨#[111,114,100,101,114]⟩
abbrev Af8 :Wd := ⟨#[115,101,108,101,99,116]⟩
abbrev Ajl :Wd := ⟨#[115,101,116]⟩
abbrev Ahl :Wd := ⟨#[116,97,98,108,101]⟩
abbrev Aip :Wd := ⟨#[116,101,120,116]⟩
abbrev Af9 :Wd := ⟨#[117,112,100,97,116,101]⟩
abbrev Aga :Wd := ⟨#[118,97,108,117,101,115]⟩
abbrev Ahm :Wd := ⟨#[119,104,101,114,101]⟩
abbrev Akd :Wd := ⟨#[40]⟩
abbrev Aj9 :Wd := ⟨#[41]⟩
abbrev Ake :Wd := ⟨#[42]⟩
abbrev Akf :Wd := ⟨#[43]⟩
abbrev Aka :Wd := ⟨#[44]⟩
abbrev Akb :Wd := ⟨#[45]⟩
abbrev Akk :Wd := ⟨#[46]⟩
abbrev Akg :Wd := ⟨#[59]⟩
abbrev kLt :Wd := ⟨#[60]⟩
abbrev kEq :Wd := ⟨#[61]⟩
def Dw (c :UInt8) :Bool :=decide (97≤c.toNat) &&decide (c.toNat≤122)
def Ab0 (c :UInt8) :Bool :=decide (48≤c.toNat) &&decide (c.toNat≤57)
def Ia (w :Wd) :Bool :=
 decide (w=Aji) || decide (w=kBy) || decide (w=Af5) || decide (w=Af6) || decide (w=Aij) || decide (w=Aik) || decide (w=Ail) || decide (w=Ahi) || decide (w=Af7) || decide (w=Ajj) || decide (w=Aim) || decide (w=kIs) || decide (w=Ahj) || decide (w=Ain) || decide (w=Ajk) || decide (w=Aio) || decide (w=kOn) || decide (w=kOr) || decide (w=Ahk) || decide (w=Af8) || decide (w=Ajl) || decide (w=Ahl) || decide (w=Aip) || decide (w=Af9) || decide (w=Aga) || decide (w=Ahm)
def nm (w :Wd) :Bool :=decide (1≤w.size) &&decide (w.size≤8) &&w.data.toList.all Dw&& !Ia w
def F6 (f :UInt8→Bool) (l :List UInt8) :Nat := (l.takeWhile f).length
theorem Mg {f :UInt8→Bool} : ∀ {l :List UInt8} {k :Nat},(l.take k).all f=true→ (∀c,l[k]? =some c→f c=false) →k≤l.length→F6 f l=k
 | [],k,_,_,h=>by simp at h;subst h;rfl
 | c ::l,0,_,h,_=>by have :=h c rfl;simp [F6,this]
 | c ::l,k+1,h1,h2,h3=>by
  simp at h1
  have :=Mg (f :=f) (l :=l) (k :=k) (by simpa using h1.2) (fun x hx=>h2 x (by simpa using hx)) (by simpa using h3)
  simp only [F6,List.takeWhile_cons,h1.1,if_true,List.length_cons] at this⊢
  omega
theorem Agb (f :UInt8→Bool) (l :List UInt8) :F6 f l≤l.length := (List.takeWhile_prefix f).length_le
theorem Ab1 (f :UInt8→Bool) (l :List UInt8) : (l.take (F6 f l)).all f=true :=by
 induction l with
 | nil=>rfl
 | cons c l ih=>
  unfold F6 at ih⊢
  cases h :f c
  ·simp [h]
  ·simp only [List.takeWhile_cons,h,if_true,List.length_cons,List.take_succ_cons,List.all_cons,Bool.true_and];exact ih
theorem Ajm {f :UInt8→Bool} {c :UInt8} {l :List UInt8} (h :f c=true) :F6 f (c ::l) =F6 f l+1 :=by simp [F6,h]
end Go.Proofs.YthehiijgnepcfaaGreat

namespace Go.Proofs.YthehiijgnepcfaaGreat
open Go.RowKit
def Kk (c :Int) :Bool :=decide (97≤c) &&decide (c≤122)
def Ab2 (c :Int) :Bool :=decide (48≤c) &&decide (c≤57)
theorem Q7 (c :UInt8) :Kk (c.toNat :Int) =Dw c :=by simp only [Kk,Dw];congr 1<;>simp<;>omega
theorem Ai2 (c :UInt8) :Ab2 (c.toNat :Int) =Ab0 c :=by simp only [Ab2,Ab0];congr 1<;>simp<;>omega
set_option maxHeartbeats 400000 in
theorem Q8 (c :Int) (w :World) :Calls Tryz.prog 129 #[.int .u8 c] w fun e w'=>e= .returned (.bool (Kk c)) ∧w'=w :=by
 by_cases h1 :97≤c<;>by_cases h2 :c≤122
 all_goals
  go_enter Tryz.func129,Tryz.ntmps129
  go_wp2
  all_goals
   go_ret
   exact ⟨Ag (by simp_all [Kk]),rfl⟩
theorem U1 {f :UInt8→Bool} {s :ByteArray} {k :Nat} (h :k<s.size) (h1 : (s.data.toList.take k).all f=true) (h2 :f s[k] =true) : (s.data.toList.take (k+1)).all f=true :=by
 rw [To s k h];simp only [List.all_append,h1,List.all_cons,h2,List.all_nil,Bool.and_self]
theorem Ad6 {s :ByteArray} {k :Nat} (h :k<s.size) :s.data.toList[k]? =some s[k] :=by
 rw [List.getElem?_eq_getElem (by simpa using h)];rfl
set_option maxHeartbeats 1000000 in
theorem Nv (s :ByteArray) (w :World) (hs :s.size≤maxLen) :Calls Tryz.prog 128 #[.func (.func 129) #[] #[], .string s] w fun e w'=>e= .returned (.int .i64 (F6 Dw s.data.toList :Nat)) ∧w'=w :=by
 unfold maxLen at hs
 go_enter Tryz.func128,Tryz.ntmps128
 go_wp2
 go_loop [5] (fun i=> ∃k :Nat,k≤s.size∧i= .int .i64 k∧Hid ((s.data.toList.take k).all Dw=true)) (fun i=>s.size - (intOf i).toNat)
 case atStart=>exact ⟨0,Nat.zero_le _,rfl,rfl⟩
 case round=>
  obtain ⟨k,hk,rfl,HG⟩ :=hrel
  by_cases hlt :k<s.size
  ·cases hc :Dw s[k]
   ·have hc' :Kk (s[k].toNat :Int) =false :=by rw [Q7];exact hc
    have HE :Hid (F6 Dw s.data.toList=k) :=Mg HG.out (fun c h=>by rw [Ad6 hlt] at h;cases h;exact hc) (by simpa using hk)
    clear hc
    go_wp2_with (go_at_call 129;refine (Q8 _ _).mono ?_;rintro e w' ⟨rfl,rfl⟩)
    go_ret
    exact ⟨An (by rw [HE.out]),rfl⟩
   ·have hc' :Kk (s[k].toNat :Int) =true :=by rw [Q7];exact hc
    have HN :Hid ((s.data.toList.take (k+1)).all Dw=true) :=U1 hlt HG.out hc
    clear hc
    go_wp2_with (go_at_call 129;refine (Q8 _ _).mono ?_;rintro e w' ⟨rfl,rfl⟩)
    go_round
    case rel=>exact ⟨k+1,by omega,by go_num,HN⟩
    case measure=>simp [intOf];omega
  ·have HE :Hid (F6 Dw s.data.toList=k) :=Mg HG.out (fun c h=>by rw [List.getElem?_eq_none (by simp;omega)] at h;cases h) (by simpa using hk)
   go_wp2
   go_ret
   exact ⟨An (by rw [HE.out]),rfl⟩
theorem Ahn (w :Wd) (l :List UInt8) : (w.toList==l) =decide (w= ⟨l.toArray⟩) :=by
 rw [Lib.toList_data,Bool.eq_iff_iff,beq_iff_eq,decide_eq_true_eq]
 constructor
 ·intro h
  have :=congrArg List.toArray h
  cases w
  simpa using this
 ·rintro rfl;simp
theorem V0 (w :Wd) :Ia w= (w.toList== [97,110,100] || w.toList== [98,121] || w.toList== [99,114,101,97,116,101] || w.toList== [100,101,108,101,116,101] || w.toList== [100,101,115,99] || w.toList== [100,114,111,112] || w.toList== [102,114,111,109] || w.toList== [105,110,100,101,120] || w.toList== [105,110,115,101,114,116] || w.toList== [105,110,116] || w.toList== [105,110,116,111] || w.toList== [105,115] || w.toList== [108,105,109,105,116] || w.toList== [109,117,115,116] || w.toList== [110,111,116] || w.toList== [110,117,108,108] || w.toList== [111,110] || w.toList== [111,114] || w.toList== [111,114,100,101,114] || w.toList== [115,101,108,101,99,116] || w.toList== [115,101,116] || w.toList== [116,97,98,108,101] || w.toList== [116,101,120,116] || w.toList== [117,112,100,97,116,101] || w.toList== [118,97,108,117,101,115] || w.toList== [119,104,101,114,101]) :=by
 simp only [Ahn];rfl
set_option maxHeartbeats 2000000 in
theorem V5 (s :ByteArray) (w :World) :Calls Tryz.prog 130 #[.string s] w fun e w'=>e= .returned (.bool (Ia s)) ∧w'=w :=by
 have hr :=V0 s
 generalize Ia s=b at hr⊢
 have HR :Hid _ :=hr
 clear hr
 go_enter Tryz.func130,Tryz.ntmps130
 go_wp2
 all_goals first
  | (exfalso;simp_all;done)
  | (go_ret;refine ⟨Ag ?_,rfl⟩;rw [HR.out];simp [*];done)
theorem Agc {f :UInt8→Bool} {l :List UInt8} : (decide (F6 f l=l.length)) =l.all f :=by
 rw [Bool.eq_iff_iff,decide_eq_true_eq]
 constructor
 ·intro h
  have :=Ab1 f l
  rw [h,List.take_length] at this
  exact this
 ·intro h
  exact Mg (by rw [List.take_length];exact h) (fun c hc=>by simp at hc) (Nat.le_refl _)
set_option maxHeartbeats 1000000 in
theorem Ib (s :ByteArray) (w :World) (hs :s.size≤maxLen) :Calls Tryz.prog 82 #[.string s] w fun e w'=>e= .returned (.bool (nm s)) ∧w'=w :=by
 have hs' :=hs
 unfold maxLen at hs'
 have hn :nm s= (decide (1≤s.size) &&decide (s.size≤8) &&decide (F6 Dw s.data.toList=s.size) && !Ia s) :=by
  rw [show decide (F6 Dw s.data.toList=s.size) =decide (F6 Dw s.data.toList=s.data.toList.length) from by rw [Cn],Agc];rfl
 generalize nm s=b at hn⊢
 have HN :Hid _ :=hn
 clear hn
 by_cases h1 :1≤s.size
 ·by_cases h2 :s.size≤8
  ·have hle :=Agb Dw s.data.toList
   rw [Cn] at hle
   by_cases h3 :F6 Dw s.data.toList=s.size
   ·have RO :=Nv s w hs
    generalize F6 Dw s.data.toList=n at RO HN h3 hle
    subst h3
    have RV :=V5 s w
    generalize Ia s=r at RV HN
    have b1 : (1 :Int) ≤ (s.size :Int) :=by omega
    have b2 : (s.size :Int) ≤8 :=by omega
    have b3 : ((s.size :Int) == (s.size :Int)) =true :=beq_self_eq_true _
    cases r
    all_goals
     go_enter Tryz.func82,Tryz.ntmps82
     go_wp2_with (first
      | (go_at_call 128;go_must (go_fit RO;rintro e w' ⟨rfl,rfl⟩))
      | (go_at_call 130;go_must (go_fit RV;rintro e w' ⟨rfl,rfl⟩)))
     go_ret
     exact ⟨Ag (by rw [HN.out];simp [h1,h2]),rfl⟩
   ·have RO :=Nv s w hs
    generalize F6 Dw s.data.toList=n at RO HN h3 hle
    have b1 : (1 :Int) ≤ (s.size :Int) :=by omega
    have b2 : (s.size :Int) ≤8 :=by omega
    have b3 : ((n :Int) == (s.size :Int)) =false :=beq_eq_false_iff_ne.2 (by omega)
    go_enter Tryz.func82,Tryz.ntmps82
    go_wp2_with (first
     | (go_at_call 128;go_must (go_fit RO;rintro e w' ⟨rfl,rfl⟩)))
    go_ret
    exact ⟨Ag (by rw [HN.out];simp [h3]),rfl⟩
  ·go_enter Tryz.func82,Tryz.ntmps82
   go_wp2_with fail
   go_ret
   exact ⟨Ag (by rw [HN.out];simp [h2]),rfl⟩
 ·go_enter Tryz.func82,Tryz.ntmps82
  go_wp2_with fail
  go_ret
  exact ⟨Ag (by rw [HN.out];simp [h1]),rfl⟩
end Go.Proofs.YthehiijgnepcfaaGreat

namespace Go.Proofs.YthehiijgnepcfaaGreat
open Go.RowKit
set_option maxRecDepth 100000 in
set_option maxHeartbeats 2000000 in
theorem Ra (l :List (TabD)) (F :Nat→Prop) (ao :Option Addr) (n c :Nat) (f0 :Value) (p :Nat→Bool) (St :Nat→World→Prop) (En :World→Prop) (w :World) (hEn : ∀i W,St i W→En W) (hIs : ∀i W,St i W→IsL Cq F W (.slice ao n c) l)
  (hcall : ∀i x cs W,l[i]? =some x→St i W→Cq.R F W x cs→Calls Tryz.prog 19 #[.agg cs.toArray,f0] W fun e W'=>e= .returned (.bool (p i)) ∧En W'∧ (p i=false→St (i+1) W')) (h0 :St 0 w) :
  Calls Tryz.prog 18 #[.slice ao n c, .func (.func 19) #[] #[f0]] w fun e W'=>e= .returned (.int .i64 (Ah p 0 l.length)) ∧En W' :=by
 obtain ⟨hn,hlm⟩ :=Cj (hIs 0 w h0)
 subst hn
 unfold maxLen at hlm
 go_enter Tryz.func18,Tryz.ntmps18
 go_wp2
 go_loopw [8] (fun i wr=> ∃k :Nat,k≤l.length∧i= .int .i64 k∧St k wr∧Hid (Ah p 0 l.length=Ah p k (l.length - k))) (fun i _=>l.length - (intOf i).toNat)
 case atStart=>exact ⟨0,Nat.zero_le _,rfl,h0,rfl⟩
 case round=>
  obtain ⟨k,hk,rfl,hSt,HP⟩ :=hrel
  by_cases hlt :k<l.length
  ·obtain ⟨x,hx⟩ : ∃x,l[k]? =some x := ⟨_,List.getElem?_eq_getElem hlt⟩
   obtain ⟨b,off,cs,rfl,_,hb,hR,hcell⟩ :=A4 (hIs k wr hSt) hx
   have HC :=hcall k x cs wr hx hSt hR
   obtain ⟨sv,rfl,hsv⟩ :=hR
   obtain ⟨ao1,c1,rfl⟩ :=hsv.shape
   have d0 :=hcell 0 _ rfl
   have d1 :=hcell 1 _ rfl
   simp only [Cq,Nat.add_zero] at d0 d1
   have k0 : (0 :Int) ≤ (k :Int) :=by omega
   have k1 : (k :Int) < (l.length :Int) :=by omega
   have hst :Hid (Ah p k (l.length - k) =if p k then (k :Int) else Ah p (k+1) (l.length - (k+1))) :=C5 p k l.length hlt
   clear hcell hx
   generalize hq :p k=q at HC hst
   clear hq
   cases q
   ·go_wp2_with (go_at_call 19;go_must (go_fit HC;rintro e W' ⟨rfl,_,hS1⟩))
    go_roundw
    case rel=>exact ⟨k+1,by omega,by go_num,hS1 (by first | rfl | trivial),by rw [HP.out,hst.out];rfl⟩
    case measure=>simp [intOf];omega
   ·go_wp2_with (go_at_call 19;go_must (go_fit HC;rintro e W' ⟨rfl,hS1,_⟩))
    go_ret
    exact ⟨An (by rw [HP.out,hst.out];rfl),hS1⟩
  ·have HE :Hid (Ah p k (l.length - k) = -1) :=by show _=_;rw [show l.length - k=0 from by omega,Ah]
   go_wp2
   go_ret
   exact ⟨An (by rw [HP.out,HE.out]),hEn k _ hSt⟩
set_option maxRecDepth 100000 in
set_option maxHeartbeats 2000000 in
theorem U2 (l :List (ColD)) (F :Nat→Prop) (ao :Option Addr) (n c :Nat) (f0 :Value) (p :Nat→Bool) (St :Nat→World→Prop) (En :World→Prop) (w :World) (hEn : ∀i W,St i W→En W) (hIs : ∀i W,St i W→IsL Cc F W (.slice ao n c) l)
  (hcall : ∀i x cs W,l[i]? =some x→St i W→Cc.R F W x cs→Calls Tryz.prog 121 #[.agg cs.toArray,f0] W fun e W'=>e= .returned (.bool (p i)) ∧En W'∧ (p i=false→St (i+1) W')) (h0 :St 0 w) :
  Calls Tryz.prog 120 #[.slice ao n c, .func (.func 121) #[] #[f0]] w fun e W'=>e= .returned (.int .i64 (Ah p 0 l.length)) ∧En W' :=by
 obtain ⟨hn,hlm⟩ :=Cj (hIs 0 w h0)
 subst hn
 unfold maxLen at hlm
 go_enter Tryz.func120,Tryz.ntmps120
 go_wp2
 go_loopw [8] (fun i wr=> ∃k :Nat,k≤l.length∧i= .int .i64 k∧St k wr∧Hid (Ah p 0 l.length=Ah p k (l.length - k))) (fun i _=>l.length - (intOf i).toNat)
 case atStart=>exact ⟨0,Nat.zero_le _,rfl,h0,rfl⟩
 case round=>
  obtain ⟨k,hk,rfl,hSt,HP⟩ :=hrel
  by_cases hlt :k<l.length
  ·obtain ⟨x,hx⟩ : ∃x,l[k]? =some x := ⟨_,List.getElem?_eq_getElem hlt⟩
   obtain ⟨b,off,cs,rfl,_,hb,hR,hcell⟩ :=A4 (hIs k wr hSt) hx
   have HC :=hcall k x cs wr hx hSt hR
   obtain rfl :=hR
   have d0 :=hcell 0 _ rfl
   have d1 :=hcell 1 _ rfl
   have d2 :=hcell 2 _ rfl
   simp only [Cc,Nat.add_zero] at d0 d1 d2
   have k0 : (0 :Int) ≤ (k :Int) :=by omega
   have k1 : (k :Int) < (l.length :Int) :=by omega
   have hst :Hid (Ah p k (l.length - k) =if p k then (k :Int) else Ah p (k+1) (l.length - (k+1))) :=C5 p k l.length hlt
   clear hcell hx
   generalize hq :p k=q at HC hst
   clear hq
   cases q
   ·go_wp2_with (go_at_call 121;go_must (go_fit HC;rintro e W' ⟨rfl,_,hS1⟩))
    go_roundw
    case rel=>exact ⟨k+1,by omega,by go_num,hS1 (by first | rfl | trivial),by rw [HP.out,hst.out];rfl⟩
    case measure=>simp [intOf];omega
   ·go_wp2_with (go_at_call 121;go_must (go_fit HC;rintro e W' ⟨rfl,hS1,_⟩))
    go_ret
    exact ⟨An (by rw [HP.out,hst.out];rfl),hS1⟩
  ·have HE :Hid (Ah p k (l.length - k) = -1) :=by show _=_;rw [show l.length - k=0 from by omega,Ah]
   go_wp2
   go_ret
   exact ⟨An (by rw [HP.out,HE.out]),hEn k _ hSt⟩
set_option maxRecDepth 100000 in
set_option maxHeartbeats 2000000 in
theorem Sq (l :List (ColD)) (F :Nat→Prop) (ao :Option Addr) (n c :Nat) (f0 :Value) (p :Nat→Bool) (St :Nat→World→Prop) (En :World→Prop) (w :World) (hEn : ∀i W,St i W→En W) (hIs : ∀i W,St i W→IsL Cc F W (.slice ao n c) l)
  (hcall : ∀i x cs W,l[i]? =some x→St i W→Cc.R F W x cs→Calls Tryz.prog 165 #[.agg cs.toArray,f0] W fun e W'=>e= .returned (.bool (p i)) ∧En W'∧ (p i=false→St (i+1) W')) (h0 :St 0 w) :
  Calls Tryz.prog 120 #[.slice ao n c, .func (.func 165) #[] #[f0]] w fun e W'=>e= .returned (.int .i64 (Ah p 0 l.length)) ∧En W' :=by
 obtain ⟨hn,hlm⟩ :=Cj (hIs 0 w h0)
 subst hn
 unfold maxLen at hlm
 go_enter Tryz.func120,Tryz.ntmps120
 go_wp2
 go_loopw [8] (fun i wr=> ∃k :Nat,k≤l.length∧i= .int .i64 k∧St k wr∧Hid (Ah p 0 l.length=Ah p k (l.length - k))) (fun i _=>l.length - (intOf i).toNat)
 case atStart=>exact ⟨0,Nat.zero_le _,rfl,h0,rfl⟩
 case round=>
  obtain ⟨k,hk,rfl,hSt,HP⟩ :=hrel
  by_cases hlt :k<l.length
  ·obtain ⟨x,hx⟩ : ∃x,l[k]? =some x := ⟨_,List.getElem?_eq_getElem hlt⟩
   obtain ⟨b,off,cs,rfl,_,hb,hR,hcell⟩ :=A4 (hIs k wr hSt) hx
   have HC :=hcall k x cs wr hx hSt hR
   obtain rfl :=hR
   have d0 :=hcell 0 _ rfl
   have d1 :=hcell 1 _ rfl
   have d2 :=hcell 2 _ rfl
   simp only [Cc,Nat.add_zero] at d0 d1 d2
   have k0 : (0 :Int) ≤ (k :Int) :=by omega
   have k1 : (k :Int) < (l.length :Int) :=by omega
   have hst :Hid (Ah p k (l.length - k) =if p k then (k :Int) else Ah p (k+1) (l.length - (k+1))) :=C5 p k l.length hlt
   clear hcell hx
   generalize hq :p k=q at HC hst
   clear hq
   cases q
   ·go_wp2_with (go_at_call 165;go_must (go_fit HC;rintro e W' ⟨rfl,_,hS1⟩))
    go_roundw
    case rel=>exact ⟨k+1,by omega,by go_num,hS1 (by first | rfl | trivial),by rw [HP.out,hst.out];rfl⟩
    case measure=>simp [intOf];omega
   ·go_wp2_with (go_at_call 165;go_must (go_fit HC;rintro e W' ⟨rfl,hS1,_⟩))
    go_ret
    exact ⟨An (by rw [HP.out,hst.out];rfl),hS1⟩
  ·have HE :Hid (Ah p k (l.length - k) = -1) :=by show _=_;rw [show l.length - k=0 from by omega,Ah]
   go_wp2
   go_ret
   exact ⟨An (by rw [HP.out,HE.out]),hEn k _ hSt⟩
set_option maxHeartbeats 2000000 in
theorem O6 (l :List (ColD)) (F :Nat→Prop) (ao :Option Addr) (n c :Nat) (f0 :Value) (p :Nat→Bool) (St :Nat→World→Prop) (En :World→Prop) (w :World) (hEn : ∀i W,St i W→En W) (hIs : ∀i W,St i W→IsL Cc F W (.slice ao n c) l)
  (hcall : ∀i x cs W,l[i]? =some x→St i W→Cc.R F W x cs→Calls Tryz.prog 165 #[.agg cs.toArray,f0] W fun e W'=>e= .returned (.bool (p i)) ∧En W'∧ (p i=false→St (i+1) W')) (h0 :St 0 w) :
  Calls Tryz.prog 164 #[.slice ao n c, .func (.func 165) #[] #[f0]] w fun e W'=>e= .returned (.bool (Ay p 0 l.length)) ∧En W' :=by
 have HI :=Sq l F ao n c f0 p St En w hEn hIs hcall h0
 have HA :Hid (Ay p 0 l.length=decide (0≤Ah p 0 l.length)) :=Fn p l.length 0
 generalize Ay p 0 l.length=r at HA
 generalize Ah p 0 l.length=q at HI HA
 clear hIs hcall h0 hEn
 go_enter Tryz.func164,Tryz.ntmps164
 go_wp2_with (go_at_call 120;go_must (go_fit HI;rintro e W' ⟨rfl,hS1⟩))
 go_ret
 exact ⟨Ag (by rw [HA.out]),hS1⟩
end Go.Proofs.YthehiijgnepcfaaGreat

namespace Go.Proofs.YthehiijgnepcfaaGreat
open Go.RowKit Go.Maps
theorem Pj (p :Nat→Bool) : ∀ (n i :Nat),(Ah p i n= -1∧ ∀j,i≤j→j<i+n→p j=false) ∨ ∃k,i≤k∧k<i+n∧Ah p i n= (k :Int) ∧p k=true∧ ∀j,i≤j→j<k→p j=false
 | 0,i=> .inl ⟨rfl,fun j h1 h2=>absurd h2 (by omega)⟩
 | n+1,i=>by
  rw [Ah]
  by_cases hp :p i=true
  ·exact .inr ⟨i,Nat.le_refl _,by omega,by rw [if_pos hp],hp,fun j h1 h2=>absurd h2 (by omega)⟩
  ·rw [if_neg hp]
   have hp' :p i=false :=Bool.eq_false_iff.2 hp
   rcases Pj p n (i+1) with ⟨h1,h2⟩ | ⟨k,h1,h2,h3,h4,h5⟩
   ·refine .inl ⟨h1,fun j hj1 hj2=> ?_⟩
    rcases Nat.eq_or_lt_of_le hj1 with h | h
    ·rw [←h];exact hp'
    ·exact h2 j h (by omega)
   ·refine .inr ⟨k,by omega,by omega,h3,h4,fun j hj1 hj2=> ?_⟩
    rcases Nat.eq_or_lt_of_le hj1 with h | h
    ·rw [←h];exact hp'
    ·exact h5 j h hj2
def atI {α :Type} (l :List α) (q :α→Bool) (i :Nat) :Bool :=match l[i]? with
 | some x=>q x
 | none=>false
theorem Eu {α :Type} {l :List α} {q :α→Bool} {i :Nat} {x :α} (h :l[i]? =some x) :atI l q i=q x :=by simp [atI,h]
theorem J7 {α :Type} (l :List α) (q :α→Bool) : (Ah (atI l q) 0 l.length= -1∧l.find? q=none) ∨ ∃ (k :Nat) (x :α),Ah (atI l q) 0 l.length= (k :Int) ∧l[k]? =some x∧q x=true∧l.find? q=some x :=by
 rcases Pj (atI l q) l.length 0 with ⟨h1,h2⟩ | ⟨k,_,h2,h3,h4,h5⟩
 ·refine .inl ⟨h1,List.find?_eq_none.2 fun x hx=> ?_⟩
  obtain ⟨i,hi,rfl⟩ :=List.getElem_of_mem hx
  have :=h2 i (Nat.zero_le _) (by omega)
  rw [Eu (List.getElem?_eq_getElem hi)] at this
  simp [this]
 ·have hk :k<l.length :=by omega
  have hx :=List.getElem?_eq_getElem hk
  rw [Eu hx] at h4
  refine .inr ⟨k,l[k],h3,hx,h4, ?_⟩
  rw [List.find?_eq_some_iff_getElem]
  exact ⟨h4,k,hk,rfl,fun j hj=>by
   have :=h5 j (Nat.zero_le _) hj
   rw [Eu (List.getElem?_eq_getElem (by omega))] at this
   simp [this]⟩
def J8 (x :ColD) :Bool :=nm x.name&& (decide (x.ty=1) || decide (x.ty=2))
def Kt (l :List ColD) (i :Nat) :Bool :=match l[i]? with
 | some x=> !J8 x || Ip ((l.take i).map ColD.name) x.name
 | none=>false
def Mh (l :List ColD) :Bool := !Ay (Kt l) 0 l.length
def Ox (l :List ColD) :Prop := ∀x∈l,x.name.size≤maxLen
set_option maxHeartbeats 1000000 in
theorem X8 (x :ColD) (w :World) (hs :x.name.size≤maxLen) :Calls Tryz.prog 166 #[.agg #[.string x.name, .int .i64 x.ty, .bool x.must]] w fun e w'=>e= .returned (.bool (J8 x)) ∧Below w.heap.size w w' :=by
 obtain ⟨name,ty,must⟩ :=x
 simp only at hs⊢
 have hN :=fun w=>Ib name w hs
 have E :Hid (J8 ⟨name,ty,must⟩ = (nm name&& (decide (ty=1) || decide (ty=2)))) :=rfl
 generalize J8 ⟨name,ty,must⟩ =r at E
 generalize nm name=b at hN E
 clear hs
 cases b<;>by_cases h1 :ty=1<;>by_cases h2 :ty=2
 all_goals (try omega)
 all_goals
  go_enter Tryz.func166,Tryz.ntmps166
  go_wp2_with (go_at_call 82;go_fit (hN _);rintro e w1 ⟨rfl,rfl⟩)
  go_ret
  exact ⟨Ag (by rw [E.out];simp_all),(Below.refl _ _).alloc (Nat.le_refl _) _⟩
theorem Below.grow {B :Nat} {a w w' :World} {b :Nat} (h :Below B a w) (hg :w.grownBy w' (some b)) (hB :B≤w.heap.size) (hb :B≤b) :Below B a w' :=h.grown hg hB fun k hk=>by cases hk;exact hb
set_option maxHeartbeats 2000000 in
theorem U3 (x :ColD) (mb pb :Nat) (N :List Wd) (w :World) (hs :x.name.size≤maxLen) (hN :N.length≤16777215) (hc :Cnt w mb N) (hp :w.cell? ⟨pb,0,none⟩ =some (.map (some mb))) (hpb :pb<w.heap.size) :
  Calls Tryz.prog 165 #[.agg #[.string x.name, .int .i64 x.ty, .bool x.must], .pointer (some ⟨pb,0,none⟩)] w fun e w'=>e= .returned (.bool (!J8 x || Ip N x.name)) ∧w.grownBy w' (some mb) ∧ (J8 x=true→Cnt w' mb (N++ [x.name])) :=by
 have hG :=fun w=>X8 x w hs
 generalize J8 x=b at hG
 obtain ⟨name,ty,must⟩ :=x
 simp only at hs hG⊢
 have hbx :=Ao w (.cells #[.string name, .int .i64 ty, .bool must] 63)
 cases b
 ·go_enter Tryz.func165,Tryz.ntmps165
  go_wp2_with (go_at_call 166;go_fit (hG _);rintro e w1 ⟨rfl,hb1⟩)
  go_ret
  have hb2 :=Ad hbx hb1
  exact ⟨Ag (by simp),⟨hb2.os,hb2.tape,hb2.output,hb2.size,fun k hk _=>hb2.block k hk⟩,fun h=>by cases h⟩
 ·have hA :=fun w' (h :Below w.heap.size w w') =>Nu mb N name w' (hc.below h) hs (by omega)
  generalize Ip N name=q at hA
  clear hc
  go_enter Tryz.func165,Tryz.ntmps165
  go_wp2_with (first | (go_at_call 166;go_fit (hG _);rintro e w1 ⟨rfl,hb1⟩;have hp1 := ((Ad hbx hb1).cell (p := ⟨pb,0,none⟩) hpb).trans hp;obtain ⟨hcc,hff⟩ :=C9 hb1) | (go_at_call 133;go_fit (hA _ (Ad hbx hb1));rintro e w2 ⟨rfl,hc2,hg2⟩))
  go_ret
  have hb2 :=Ad hbx hb1
  exact ⟨Ag (by simp),⟨hg2.os.trans hb2.os,hg2.tape.trans hb2.tape,hg2.output.trans hb2.output,Nat.le_trans hb2.size hg2.size,fun k hk hne=> (hg2.block k (Nat.lt_of_lt_of_le hk hb2.size) hne).trans (hb2.block k hk)⟩,fun _=>hc2⟩
theorem T0 {w :World} {b :Nat} {N :List Wd} (h :Cnt w b N) (o :Obj) :Cnt (w.alloc o) b N :=h.below (Ao _ _)
set_option maxHeartbeats 2000000 in
theorem V6 (l :List ColD) (sv :Value) (C :Nat) (w :World) (hl :IsL Cc (fun k=>k<C) w sv l) (hC :C≤w.heap.size) (hf :Ox l) (hn :l.length≤16777215) :
  Calls Tryz.prog 127 #[sv] w fun e w'=>e= .returned (.bool (Mh l)) ∧Below w.heap.size w w' :=by
 obtain ⟨ao,c,rfl⟩ :=hl.shape
 have hb2 :=Bb w (.map #[] 0) (.cells #[.map (some w.heap.size)] 180)
 have HC :=O6 l (fun k=>k<C) ao l.length c (.pointer (some ⟨w.heap.size+1,0,none⟩)) (Kt l)
  (fun i W=>Cnt W w.heap.size ((l.take i).map ColD.name) ∧W.cell? ⟨w.heap.size+1,0,none⟩ =some (.map (some w.heap.size)) ∧Below w.heap.size w W∧w.heap.size+2≤W.heap.size) (fun W=>Below w.heap.size w W)
  ((w.alloc (.map #[] 0)).alloc (.cells #[.map (some w.heap.size)] 180)) (fun i W h=>h.2.2.1) (fun i W h=>hl.keep (Af (h.2.2.1.mono hC)))
  (by
   rintro i x cs W hx ⟨h1,h2,h3,h4⟩ rfl
   refine (U3 x w.heap.size (w.heap.size+1) _ W (hf x (List.mem_of_getElem? hx)) (by simp;omega) h1 h2 (by omega)).mono ?_
   rintro e W' ⟨rfl,hg,hc⟩
   have hbW :Below w.heap.size w W' :=Below.grow h3 hg (by omega) (Nat.le_refl _)
   have hE :Kt l i= (!J8 x || Ip ((l.take i).map ColD.name) x.name) :=by simp [Kt,hx]
   refine ⟨by rw [hE],hbW,fun hp=> ⟨?_, ?_,hbW,Nat.le_trans h4 hg.size⟩⟩
   ·rw [hE] at hp
    rw [List.take_add_one,hx,List.map_append]
    exact hc (by simp at hp;exact hp.1)
   ·exact hg.cell h2 (by simp))
  ⟨T0 (P8 w) _,Aa (Aq _ _ _) rfl,hb2,by simp⟩
 have E :Hid (Mh l= !Ay (Kt l) 0 l.length) :=rfl
 generalize Mh l=r at E
 generalize Ay (Kt l) 0 l.length=q at E HC
 clear hl hf
 have hmm := @run_makeMap Tryz.prog
 go_enter Tryz.func127,Tryz.ntmps127
 go_wp2_with (go_at_call 164;go_fit HC;rintro e w1 ⟨rfl,hb1⟩)
 go_ret
 exact ⟨Ag (by rw [E.out]),hb1⟩
end Go.Proofs.YthehiijgnepcfaaGreat


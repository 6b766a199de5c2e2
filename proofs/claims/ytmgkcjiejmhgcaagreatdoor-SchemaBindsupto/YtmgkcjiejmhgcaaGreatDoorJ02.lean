/-
  5 texts of this proof in one, in build order: Elems, YIndex, YMap, NPlain, Named.
-/
import Derived.Test.YtmgkcjiejmhgcaaGreatDoorRows
import Derived.Maps.AppendAt
import Derived.OwnWalk
import Derived.Laws.Rows
import Derived.Laws.Tables
import Derived.WalkKit
import Derived.WalkSpells
import Derived.WalkLawsBesides
import Derived.Maps.Own
import Derived.Maps.OwnOps
import Derived.Maps.Views
import Derived.StringKeys
import Derived.Lib.Bytealg
import Derived.Lib.IndexLaws
import Derived.Test.YtmgkcjiejmhgcaaGreatDoorJ01
set_option linter.unusedSimpArgs false
set_option linter.unusedVariables false
namespace Go.Proofs.YtmgkcjiejmhgcaaGreatDoor
open Go.RowKit
structure Elem (α :Type) where
 size :Nat
 R : (Nat→Prop) →World→α→List Value→Prop
 len : ∀ {F w a c},R F w a c→c.length=size
 keep : ∀ {F w w' a c},Keeps F w w'→R F w a c→R F w' a c
 mono : ∀ {F F' :Nat→Prop} {w a c},(∀k,k<w.heap.size→F k→F' k) →R F w a c→R F' w a c
def All {α :Type} (K :Elem α) (F :Nat→Prop) (w :World) :List α→List Value→Prop
 | [],cs=>cs= []
 | a ::l,cs=> ∃c rest,cs=c++rest∧K.R F w a c∧All K F w l rest
theorem All.keep {α :Type} {K :Elem α} {F :Nat→Prop} {w w' :World} (hk :Keeps F w w') : ∀ {l :List α} {cs :List Value},All K F w l cs→All K F w' l cs
 | [],cs,h=>h
 | a ::l,cs,h=>by
  obtain ⟨c,rest,h1,h2,h3⟩ :=h
  exact ⟨c,rest,h1,K.keep hk h2,All.keep hk h3⟩
theorem All.mono {α :Type} {K :Elem α} {F F' :Nat→Prop} {w :World} (hk : ∀k,k<w.heap.size→F k→F' k) : ∀ {l :List α} {cs :List Value},All K F w l cs→All K F' w l cs
 | [],cs,h=>h
 | a ::l,cs,h=>by
  obtain ⟨c,rest,h1,h2,h3⟩ :=h
  exact ⟨c,rest,h1,K.mono hk h2,All.mono hk h3⟩
theorem All.append {α :Type} {K :Elem α} {F :Nat→Prop} {w :World} : ∀ {l m :List α} {cs ds :List Value},All K F w l cs→All K F w m ds→All K F w (l++m) (cs++ds)
 | [],m,cs,ds,h,k=>by have :cs= [] :=h;subst this;exact k
 | a ::l,m,cs,ds,h,k=>by
  obtain ⟨c,rest,rfl,h2,h3⟩ :=h
  exact ⟨c,rest++ds,by simp,h2,All.append h3 k⟩
theorem All.one {α :Type} {K :Elem α} {F :Nat→Prop} {w :World} {a :α} {c :List Value} (h :K.R F w a c) :All K F w [a] c := ⟨c,[],by simp,h,rfl⟩
theorem All.length {α :Type} {K :Elem α} {F :Nat→Prop} {w :World} : ∀ {l :List α} {cs :List Value},All K F w l cs→cs.length=l.length*K.size
 | [],cs,h=>by have :cs= [] :=h;subst this;simp
 | a ::l,cs,h=>by
  obtain ⟨c,rest,rfl,h2,h3⟩ :=h
  have e1 :=K.len h2
  have e2 :=All.length h3
  rw [List.length_append,List.length_cons,e1,e2,Nat.add_mul];omega
def IsL {α :Type} (K :Elem α) (F :Nat→Prop) (w :World) (sv :Value) (l :List α) :Prop := ∃cs,Cu F K.size w sv l.length cs∧All K F w l cs
theorem IsL.keep {α :Type} {K :Elem α} {F :Nat→Prop} {w w' :World} {sv :Value} {l :List α} (h :IsL K F w sv l) (hk :Keeps F w w') :IsL K F w' sv l :=by
 obtain ⟨cs,h1,h2⟩ :=h
 exact ⟨cs,h1.keep hk,h2.keep hk⟩
theorem IsL.mono {α :Type} {K :Elem α} {F F' :Nat→Prop} {w :World} {sv :Value} {l :List α} (h :IsL K F w sv l) (hk : ∀k,k<w.heap.size→F k→F' k) :IsL K F' w sv l :=by
 obtain ⟨cs,h1,h2⟩ :=h
 exact ⟨cs,h1.mono hk,h2.mono hk⟩
theorem IsL.shape {α :Type} {K :Elem α} {F :Nat→Prop} {w :World} {sv :Value} {l :List α} (h :IsL K F w sv l) : ∃ao c,sv= .slice ao l.length c :=by
 obtain ⟨cs,h1,_⟩ :=h;exact h1.shape
theorem IsL.nil {α :Type} (K :Elem α) (F :Nat→Prop) (w :World) :IsL K F w (.slice none 0 0) ([] :List α) := ⟨[],Cu.nil F _ w,rfl⟩
theorem Jz {F :Nat→Prop} {w :World} {K :Elem E} (hK : ∀F w e c,K.R F w e c↔c.length=8∧IsE F w e (.agg c.toArray)) : ∀ {l :List E} {cs :List Value},All K F w l cs↔Cs F w l cs
 | [],cs=>by rw [Cs];rfl
 | e ::l,cs=>by
  rw [Cs]
  constructor
  ·rintro ⟨c,rest,h1,h2,h3⟩
   exact ⟨c,rest,h1,((hK _ _ _ _).1 h2).1,((hK _ _ _ _).1 h2).2,(Jz hK).1 h3⟩
  ·rintro ⟨c,rest,h1,h2,h3,h4⟩
   exact ⟨c,rest,h1,(hK _ _ _ _).2 ⟨h2,h3⟩,(Jz hK).2 h4⟩
def As :Elem E where
 size :=8
 R F w e c :=c.length=8∧IsE F w e (.agg c.toArray)
 len h :=h.1
 keep hk h := ⟨h.1,IsE.keep hk _ _ h.2⟩
 mono hk h := ⟨h.1,IsE.mono hk _ _ h.2⟩
theorem Abf {F :Nat→Prop} {w :World} {sv :Value} {l :List E} :IsL As F w sv l↔Gj F w sv l :=
 ⟨fun ⟨cs,h1,h2⟩ => ⟨cs,h1,(Jz fun _ _ _ _=>Iff.rfl).1 h2⟩,fun ⟨cs,h1,h2⟩ => ⟨cs,h1,(Jz fun _ _ _ _=>Iff.rfl).2 h2⟩⟩
def Ds :Elem (List E) where
 size :=1
 R F w l c := ∃sv,c= [sv] ∧IsL As F w sv l
 len h :=by obtain ⟨sv,rfl,_⟩ :=h;rfl
 keep hk h :=by obtain ⟨sv,h1,h2⟩ :=h;exact ⟨sv,h1,h2.keep hk⟩
 mono hk h :=by obtain ⟨sv,h1,h2⟩ :=h;exact ⟨sv,h1,h2.mono hk⟩
def C5 :Elem (Wd×E) where
 size :=9
 R F w s c := ∃d,c= .string s.1 ::d∧d.length=8∧IsE F w s.2 (.agg d.toArray)
 len h :=by obtain ⟨d,rfl,h,_⟩ :=h;simp [h]
 keep hk h :=by obtain ⟨d,h1,h2,h3⟩ :=h;exact ⟨d,h1,h2,IsE.keep hk _ _ h3⟩
 mono hk h :=by obtain ⟨d,h1,h2,h3⟩ :=h;exact ⟨d,h1,h2,IsE.mono hk _ _ h3⟩
def Fz :Elem Wd where
 size :=1
 R _ _ s c :=c= [.string s]
 len h :=by subst h;rfl
 keep _ h :=h
 mono _ h :=h
def Bg :Elem ColD where
 size :=3
 R _ _ x c :=c= [.string x.name, .int .i64 x.ty, .bool x.must]
 len h :=by subst h;rfl
 keep _ h :=h
 mono _ h :=h
theorem Cm {F :Nat→Prop} {w :World} {e :E} {c :List Value} (h :As.R F w e c) : ∃op xk xn xs s name n ao k cap,c= [.int .i64 op, .int .i64 xk, .int .i64 xn, .string xs, .string s, .string name, .int .i64 n, .slice ao k cap] :=by
 obtain ⟨op,⟨xk,xn,xs⟩,s,name,n,ao,k,cap,h1⟩ :=h.2.shape
 refine ⟨op,xk,xn,xs,s,name,n,ao,k,cap, ?_⟩
 have :=congrArg Array.toList (Value.agg.inj h1)
 simpa using this
theorem Vh {F :Nat→Prop} {w :World} {l :List E} {c :List Value} (h :Ds.R F w l c) : ∃ao k cap,c= [.slice ao k cap] :=by
 obtain ⟨sv,rfl,h⟩ :=h
 obtain ⟨ao,cap,rfl⟩ :=h.shape
 exact ⟨_,_,_,rfl⟩
theorem O6 {F :Nat→Prop} {w :World} {e :Wd×E} {c :List Value} (h :C5.R F w e c) : ∃cn op xk xn xs s name n ao k cap,c= [.string cn, .int .i64 op, .int .i64 xk, .int .i64 xn, .string xs, .string s, .string name, .int .i64 n, .slice ao k cap] :=by
 obtain ⟨d,rfl,h1,h2⟩ :=h
 obtain ⟨op,xk,xn,xs,s,name,n,ao,k,cap,rfl⟩ :=Cm (w :=w) (F :=F) (e :=e.2) ⟨h1,h2⟩
 exact ⟨e.1,op,xk,xn,xs,s,name,n,ao,k,cap,rfl⟩
theorem Tj (w :World) (base :Nat) (t :TypeId) (l :List Value) (size :Nat) (hl :l.length=size) (hb :base≤w.heap.size) : (w.alloc (.cells l.toArray t)).ownsRow base t size (.slice (some ⟨w.heap.size,0,none⟩) 1 1) 1 l :=
 by subst hl;exact ⟨by simp, .inr ⟨w.heap.size,1,l.toArray,rfl,hb,Ab w _,Nat.le_refl _,by decide,by simp,by simp⟩⟩
abbrev FO (n :Nat) (z :Value) :Nat→Prop :=fun k=>n≤k∧some k≠z.ownBlock
theorem Y9 {n :Nat} {z z' :Value} {w :World} (h :z'.ownBlock=z.ownBlock∨z'.ownBlock=some w.heap.size) : ∀k,k<w.heap.size→FO n z k→FO n z' k :=by
 intro k hk hf
 refine ⟨hf.1,fun e=> ?_⟩
 rcases h with h | h
 ·rw [h] at e;exact hf.2 e
 ·rw [h] at e;simp at e;omega
def T3 (kind :Int) (name table col :Wd) (cols rows sets frm out :Value) (w8 :List Value) (order :Value) (down :Bool) (n :Int) :List Value :=
 [.int .i64 kind, .string name, .string table, .string col,cols,rows,sets,frm,out] ++w8++ [order, .bool down, .int .i64 n]
structure IsS (F :Nat→Prop) (w :World) (s :Stm) (c :List Value) :Prop where
 is : ∃cols rows sets frm out w8 order,c=T3 s.kind s.name s.table s.col cols rows sets frm out w8 order s.down s.n∧w8.length=8∧IsL Bg F w cols s.cols∧IsL Ds F w rows s.rows∧IsL C5 F w sets s.sets∧IsL Fz F w frm s.frm∧IsL As F w out s.out∧IsE F w s.wher (.agg w8.toArray) ∧IsL As F w order s.order
def Abs :Elem Stm where
 size :=20
 R :=IsS
 len h :=by obtain ⟨cols,rows,sets,frm,out,w8,order,rfl,h8,_⟩ :=h.is;simp [T3,h8]
 keep hk h :=by
  obtain ⟨cols,rows,sets,frm,out,w8,order,h1,h2,h3,h4,h5,h6,h7,h8,h9⟩ :=h.is
  exact ⟨cols,rows,sets,frm,out,w8,order,h1,h2,h3.keep hk,h4.keep hk,h5.keep hk,h6.keep hk,h7.keep hk,IsE.keep hk _ _ h8,h9.keep hk⟩
 mono hk h :=by
  obtain ⟨cols,rows,sets,frm,out,w8,order,h1,h2,h3,h4,h5,h6,h7,h8,h9⟩ :=h.is
  exact ⟨cols,rows,sets,frm,out,w8,order,h1,h2,h3.mono hk,h4.mono hk,h5.mono hk,h6.mono hk,h7.mono hk,IsE.mono hk _ _ h8,h9.mono hk⟩
abbrev sA (kind :Int) (name table col :Wd) (cols rows sets frm out :Value) (op xk xn :Int) (xs s nmv :Wd) (n8 :Int) (sl order :Value) (down :Bool) (n :Int) :Array Value :=
 #[.int .i64 kind, .string name, .string table, .string col,cols,rows,sets,frm,out, .int .i64 op, .int .i64 xk, .int .i64 xn, .string xs, .string s, .string nmv, .int .i64 n8,sl,order, .bool down, .int .i64 n]
abbrev Ah :Array Value :=sA 0 noW noW noW (.slice none 0 0) (.slice none 0 0) (.slice none 0 0) (.slice none 0 0) (.slice none 0 0) 0 0 0 noW noW noW 0 (.slice none 0 0) (.slice none 0 0) false 0
def Dx (v :Value) :Prop := ∃ao n c,v= .slice ao n c
theorem Au (ao :Option Addr) (n c :Nat) :Dx (.slice ao n c) := ⟨ao,n,c,rfl⟩
theorem Dq {kind :Int} {name table col :Wd} {cols rows sets frm out :Value} {op xk xn :Int} {xs s nmv :Wd} {n8 :Int} {sl order :Value} {down :Bool} {n :Int} (h1 :Dx cols) (h2 :Dx rows) (h3 :Dx sets) (h4 :Dx frm) (h5 :Dx out) (h6 :Dx sl) (h7 :Dx order) :
  (sA kind name table col cols rows sets frm out op xk xn xs s nmv n8 sl order down n).all (·.oneCell') =true :=by
 obtain ⟨_,_,_,rfl⟩ :=h1
 obtain ⟨_,_,_,rfl⟩ :=h2
 obtain ⟨_,_,_,rfl⟩ :=h3
 obtain ⟨_,_,_,rfl⟩ :=h4
 obtain ⟨_,_,_,rfl⟩ :=h5
 obtain ⟨_,_,_,rfl⟩ :=h6
 obtain ⟨_,_,_,rfl⟩ :=h7
 simp [Value.oneCell']
theorem El {α :Type} {K :Elem α} {F :Nat→Prop} {w :World} {sv :Value} {l :List α} (h :IsL K F w sv l) :Dx sv :=by obtain ⟨ao,c,rfl⟩ :=h.shape;exact Au _ _ _
theorem I1 {F :Nat→Prop} {w :World} {kind :Int} {name table col :Wd} {cols rows sets frm out :Value} {op xk xn :Int} {xs s nmv :Wd} {n8 :Int} {sl order :Value} {down :Bool} {n :Int} {lc :List ColD} {lr :List (List E)} {ls :List (Wd×E)} {lf :List Wd} {lo :List E} {e :E} {ld :List E}
  (h1 :IsL Bg F w cols lc) (h2 :IsL Ds F w rows lr) (h3 :IsL C5 F w sets ls) (h4 :IsL Fz F w frm lf) (h5 :IsL As F w out lo) (h6 :IsE F w e (.agg (Ad op ⟨xk,xn,xs⟩ s nmv n8 sl))) (h7 :IsL As F w order ld) :
  Abs.R F w ⟨kind,name,table,col,lc,lr,ls,lf,lo,e,ld,down,n⟩ (sA kind name table col cols rows sets frm out op xk xn xs s nmv n8 sl order down n).toList :=
 ⟨cols,rows,sets,frm,out,(Ad op ⟨xk,xn,xs⟩ s nmv n8 sl).toList,order,rfl,rfl,h1,h2,h3,h4,h5,h6,h7⟩
theorem upd {w :World} {b :Nat} {arr :Array Value} {t :TypeId} (h :w.heap[b]? =some (.cells arr t)) (i :Nat) (v :Value) : (w.setCell ⟨b,i,none⟩ v).heap[b]? =some (.cells (arr.setIfInBounds i v) t) :=by
 simp only [World.setCell,Array.getElem?_modify,if_true,h];rfl
theorem Am : (Tryz.prog.info? 36).map (·.size) =some 20 :=by kernel_rfl
theorem An {w :World} {g :Nat} {old cells :Array Value} {t :TypeId} (h :w.heap[g]? =some (.cells old t)) : (w.setRow g cells).heap[g]? =some (.cells cells t) :=by
 simp only [World.setRow,Array.getElem?_modify,if_true,h];rfl
theorem Aw {w :World} {g b :Nat} {x :Obj} (h :w.heap[b]? =some x) (hn :b≠g) (cells :Array Value) : (w.setRow g cells).heap[b]? =some x :=by
 simp only [World.setRow,Array.getElem?_modify]
 rw [if_neg (fun e=>hn e.symm)];exact h
theorem Below.row {B :Nat} {w w' :World} (h :Below B w w') {b :Nat} (hb :B≤b) (cells :Array Value) :Below B w (w'.setRow b cells) :=
 ⟨h.os,h.tape,h.output,by simp [World.setRow];exact h.size,fun k hk=>by
  have :=h.block k hk
  simp only [World.setRow,Array.getElem?_modify]
  rw [if_neg (by omega)];exact this⟩
theorem Keeps.row {F :Nat→Prop} {w w' :World} (h :Keeps F w w') {b :Nat} (hb : ¬F b) (cells :Array Value) :Keeps F w (w'.setRow b cells) :=
 ⟨by simp [World.setRow];exact h.size,fun k hk hl=>by
  have :=h.block k hk hl
  simp only [World.setRow,Array.getElem?_modify]
  rw [if_neg (by rintro rfl;exact hb hk)];exact this⟩
theorem A2 {P :Program} {fn :Func} {p q :Tmp} {ty :TypeId} (h :fn.results= #[.cell p ty, .tmp q]) (tmps :Array Value) (w :World) (g :Nat) (t :TypeId) (cs :Array Value) (fr :Nat×Nat) (d :TypeDesc) (v :Value)
  (hp :tmps.getD p undef= .pointer (some ⟨g,0,none⟩)) (hq :tmps.getD q undef=v) (hg :w.heap[g]? =some (.cells cs t fr))
  (hu :P.underlying ty=some d) (hd : (match d with | .struct _ | .array _ _=>true | _=>false) =true) (hi : (P.info? ty).map (·.size) =some cs.size) :
  (results fn tmps).run P w= .ok (.tuple #[.agg cs,v]) w :=by
 have hp' :tmps[p]?.getD undef= .pointer (some ⟨g,0,none⟩) :=by simpa using hp
 have hq' :tmps[q]?.getD undef=v :=by simpa using hq
 simp [results,h,hp',hq',asAddr,run_loadVar_row w g t ty cs fr d hg hu hd hi]
end Go.Proofs.YtmgkcjiejmhgcaaGreatDoor

namespace Go.Proofs.YtmgkcjiejmhgcaaGreatDoor
open Go.RowKit
def Al (p :Nat→Bool) :Nat→Nat→Int
 | _,0=> -1
 | i,n+1=>if p i then (i :Int) else Al p (i+1) n
def A1 (p :Nat→Bool) :Nat→Nat→Bool
 | _,0=>false
 | i,n+1=>p i || A1 p (i+1) n
theorem D5 (p :Nat→Bool) : ∀ (n i :Nat),A1 p i n=decide (0≤Al p i n)
 | 0,i=>by simp [A1,Al]
 | n+1,i=>by
  rw [A1,Al,D5 p n (i+1)]
  cases p i
  ·simp
  ·simp
theorem Ch (p :Nat→Bool) (k n :Nat) (h :k<n) :Al p k (n - k) =if p k then (k :Int) else Al p (k+1) (n - (k+1)) :=by
 rw [show n - k= (n - (k+1)) +1 from by omega,Al]
structure IdxD where
 name :Wd
 table :Wd
 col :Wd
def B7 :Elem IdxD where
 size :=3
 R _ _ x c :=c= [.string x.name, .string x.table, .string x.col]
 len h :=by subst h;rfl
 keep _ h :=h
 mono _ h :=h
def Gu :Elem Int where
 size :=1
 R _ _ x c :=c= [.int .i64 x]
 len h :=by subst h;rfl
 keep _ h :=h
 mono _ h :=h
structure TabD where
 name :Wd
 cols :List ColD
def A4 :Elem TabD where
 size :=2
 R F w x c := ∃sv,c= [.string x.name,sv] ∧IsL Bg F w sv x.cols
 len h :=by obtain ⟨sv,rfl,_⟩ :=h;rfl
 keep hk h :=by obtain ⟨sv,h1,h2⟩ :=h;exact ⟨sv,h1,h2.keep hk⟩
 mono hk h :=by obtain ⟨sv,h1,h2⟩ :=h;exact ⟨sv,h1,h2.mono hk⟩
theorem L9 {α :Type} {K :Elem α} {F :Nat→Prop} {w :World} : ∀ {l :List α} {cs :List Value} {i :Nat} {x :α},All K F w l cs→l[i]? =some x→ ∃c,K.R F w x c∧ ∀j u,c[j]? =some u→cs[i*K.size+j]? =some u
 | a ::l,cs,0,x,h,hx=>by
  obtain ⟨c,rest,rfl,h2,_⟩ :=h
  simp at hx;subst hx
  refine ⟨c,h2,fun j u hj=> ?_⟩
  rw [List.getElem?_append_left (by have := (List.getElem?_eq_some_iff.1 hj).1;omega)]
  simpa using hj
 | a ::l,cs,i+1,x,h,hx=>by
  obtain ⟨c,rest,rfl,h2,h3⟩ :=h
  simp only [List.getElem?_cons_succ] at hx
  obtain ⟨d,d1,d2⟩ :=L9 h3 hx
  refine ⟨d,d1,fun j u hj=> ?_⟩
  have :=K.len h2
  rw [List.getElem?_append_right (by rw [this,Nat.add_mul];omega),this,show (i+1) *K.size+j - K.size=i*K.size+j from by rw [Nat.add_mul];omega]
  exact d2 j u hj
 | [],_,_,_,_,hx=>by simp at hx
theorem Av {α :Type} {K :Elem α} {F :Nat→Prop} {w :World} {ao :Option Addr} {n c :Nat} {l :List α} (h :IsL K F w (.slice ao n c) l) {i :Nat} {x :α} (hx :l[i]? =some x) :
  ∃b off cs,ao=some ⟨b,off,none⟩ ∧F b∧b<w.heap.size∧K.R F w x cs∧ ∀j u,cs[j]? =some u→w.cell? ⟨b,off+i*K.size+j,none⟩ =some u :=by
 obtain ⟨cs,hr,ha⟩ :=h
 obtain ⟨d,d1,d2⟩ :=L9 ha hx
 have hi :i<l.length := (List.getElem?_eq_some_iff.1 hx).1
 rcases hr.2 with ⟨h0,_⟩ | ⟨_,b,off,cap,he,hF,hb,_,_,hc⟩
 ·omega
 ·cases he
  exact ⟨b,off,d,rfl,hF,hb,d1,fun j u hj=>by rw [Nat.add_assoc];exact hc _ u (d2 j u hj)⟩
theorem Bj {α :Type} {K :Elem α} {F :Nat→Prop} {w :World} {ao :Option Addr} {n c :Nat} {l :List α} (h :IsL K F w (.slice ao n c) l) :n=l.length∧l.length≤maxLen :=by
 obtain ⟨cs,hr,_⟩ :=h
 rcases hr.2 with ⟨h0,ao',c',he,_⟩ | ⟨_,b,off,cap,he,_,_,h1,h2,_⟩
 ·cases he;exact ⟨h0.symm,by rw [h0];exact Nat.zero_le _⟩
 ·cases he;exact ⟨rfl,by omega⟩
end Go.Proofs.YtmgkcjiejmhgcaaGreatDoor

namespace Go.Proofs.YtmgkcjiejmhgcaaGreatDoor
open Go.RowKit Go.Maps
theorem Mx :Keyed Tryz.prog 9 :=string_keyed Tryz.underlying9
theorem Tk (w :World) : (zeroValue 3).run Tryz.prog w= .ok (.int .i64 0) w :=by kernel_rfl
def Gk (N :List Wd) (s :Wd) :Nat :=N.countP fun x=>decide (x=s)
theorem Vi (N :List Wd) (s t :Wd) :Gk (N++ [s]) t=Gk N t+if s=t then 1 else 0 :=by
 unfold Gk
 rw [List.countP_append]
 by_cases h :s=t<;>simp [h]
theorem Za (N :List Wd) (s :Wd) :Gk N s≤N.length :=List.countP_le_length
theorem Xk (N :List Wd) (s :Wd) :0<Gk N s↔s∈N :=by
 unfold Gk
 rw [List.countP_pos_iff]
 constructor
 ·rintro ⟨x,hx,h⟩;simp at h;subst h;exact hx
 ·intro h;exact ⟨s,h,by simp⟩
def Dy (N :List Wd) (s :Wd) :Bool :=N.any fun x=>decide (x=s)
theorem My (N :List Wd) (s :Wd) :Dy N s=true↔s∈N :=by simp [Dy]
def Cnt (w :World) (b :Nat) (N :List Wd) :Prop :=
 ∃ (D :DataW Unit),w.ownsMap Tryz.prog 9 (plainElem Tryz.prog 3) b N.length D∧IsMap D∧ ∀s :Wd,s.size≤maxLen→D.atKey (.string s.data.toList) (.lit (.int .i64 0)) = .lit (.int .i64 (Gk N s :Nat))
theorem Mz (w :World) :Cnt (w.alloc (.map #[] 0)) w.heap.size [] :=
 ⟨.map [],World.ownsMap_made _ _ _ _,isMap_empty,fun _ _=>rfl⟩
theorem Cnt.lt {w :World} {b :Nat} {N :List Wd} (h :Cnt w b N) :b<w.heap.size :=by obtain ⟨D,h1,_⟩ :=h;exact h1.lt
theorem Cnt.kept {w w' :World} {b :Nat} {N :List Wd} {row :Option Nat} (h :Cnt w b N) (hg :w.grownBy w' row) (hne :some b≠row) :Cnt w' b N :=by
 obtain ⟨D,h1,h2⟩ :=h
 exact ⟨D,h1.kept hg hne,h2⟩
theorem T4 {w w' :World} (h :Below w.heap.size w w') :w.grownBy w' none := ⟨h.os,h.tape,h.output,h.size,fun k hk _=>h.block k hk⟩
theorem Cnt.below {w w' :World} {b :Nat} {N :List Wd} (h :Cnt w b N) (hb :Below w.heap.size w w') :Cnt w' b N :=h.kept (T4 hb) (by simp)
set_option maxRecDepth 100000 in
set_option maxHeartbeats 2000000 in
theorem K8 (b :Nat) (N :List Wd) (s :Wd) (w :World) (h :Cnt w b N) (hs :s.size≤maxLen) (hN :N.length≤16777216) :
  Calls Tryz.prog 77 #[.map (some b), .string s] w fun e w'=>e= .returned (.bool (Dy N s)) ∧Cnt w' b (N++ [s]) ∧w.grownBy w' (some b) :=by
 obtain ⟨D,hown,hmap,hD⟩ :=h
 have hkey :Go.keyOf Tryz.prog 9 (.string s) =some (.string s.data.toList) :=WideMaps.keyOf_string_mk Tryz.underlying9 hs
 have hle :=Za N s
 obtain ⟨c1,hrun1,hat1,_⟩ :=hown.lookup_int Mx Tryz.underlying108 Tryz.underlying3 (Tk _) hkey
 have hc1 :c1= (Gk N s :Nat) :=by
  have :=hD s hs
  rw [hat1] at this
  simpa using this
 subst hc1
 have hwr :wrap64 ((Gk N s :Int) +1) = (Gk N s :Int) +1 :=by
  unfold wrap64;omega
 have hmem :Hid (Dy N s=decide ((1 :Int) < (Gk N s :Int) +1)) :=by
  show _=_
  rw [Bool.eq_iff_iff,My,decide_eq_true_eq,←Xk];omega
 have HD :Hid (∀t :Wd,t.size≤maxLen→ (D.put (.string s.data.toList) (.lit (.int .i64 ((Gk N s :Int) +1)))).atKey (.string t.data.toList) (.lit (.int .i64 0)) = .lit (.int .i64 (Gk (N++ [s]) t :Nat))) :=by
  intro t ht
  rw [Vi]
  by_cases hst :s=t
  ·subst hst
   rw [atKey_put_same hmap (k := .string s.data.toList) (show True from trivial),if_pos rfl]
   simp
  ·rw [atKey_put_other (fun e=>hst (by
    have :t.data.toList=s.data.toList :=by simpa using e
    exact (ByteArray.ext (Array.toList_inj.1 this)).symm)),hD t ht,if_neg hst]
   simp
 have hmp :IsMap (D.put (.string s.data.toList) (.lit (.int .i64 ((Gk N s :Int) +1)))) :=hmap.put _ _
 have hmap2 :Hid (IsMap D) :=hmap
 generalize hcc :Gk N s=cc at*
 clear hcc hD hat1 hle hmap
 go_enter Tryz.func77,Tryz.ntmps77
 have hvl :plainElem (H :=Unit) Tryz.prog 3 (.int .i64 (wrap64 ((cc :Int) +1))) =some (.lit (.int .i64 ((cc :Int) +1)),[]) :=by
  rw [plainElem_int Tryz.underlying3 (wrap64_wf _),hwr]
 go_wp2_with (at_mapUpdate;refine wpList_mapUpdate_own _ rfl _ _ _ 108 rfl 9 3 Mx Tryz.underlying108 _ b N.length _ rfl hown (by unfold maxLen;omega) _ _ _ rfl rfl hkey (.lit (.int .i64 ((cc :Int) +1))) [] hvl ?_)
 intro w1 hown1 hg1
 obtain ⟨c2,hrun2,hat2,_⟩ :=hown1.lookup_int Mx Tryz.underlying108 Tryz.underlying3 (Tk _) hkey
 have hc2 :c2= (cc :Int) +1 :=by
  rw [atKey_put_same hmap2.out (k := .string s.data.toList) (show True from trivial)] at hat2
  simpa using hat2.symm
 subst hc2
 clear hat2 hrun1
 go_wp2
 go_ret
 exact ⟨Aj (by rw [hmem.out]),⟨_,by rw [List.length_append];exact hown1,hmp,HD.out⟩,hg1⟩
end Go.Proofs.YtmgkcjiejmhgcaaGreatDoor

namespace Go.Proofs.YtmgkcjiejmhgcaaGreatDoor
abbrev Abg :Wd := ⟨#[97,110,100]⟩
abbrev kBy :Wd := ⟨#[98,121]⟩
abbrev Zb :Wd := ⟨#[99,114,101,97,116,101]⟩
abbrev Zc :Wd := ⟨#[100,101,108,101,116,101]⟩
abbrev Aa2 :Wd := ⟨#[100,101,115,99]⟩
abbrev Aa3 :Wd := ⟨#[100,114,111,112]⟩
abbrev Aa4 :Wd := ⟨#[102,114,111,109]⟩
abbrev Aaf :Wd := ⟨#[105,110,100,101,120]⟩
abbrev Zd :Wd := ⟨#[105,110,115,101,114,116]⟩
abbrev Abh :Wd := ⟨#[105,110,116]⟩
abbrev Aa5 :Wd := ⟨#[105,110,116,111]⟩
abbrev kIs :Wd := ⟨#[105,115]⟩
abbrev Aag :Wd := ⟨#[108,105,109,105,116]⟩
abbrev Aa6 :Wd := ⟨#[109,117,115,116]⟩
abbrev Abi :Wd := ⟨#[110,111,116]⟩
abbrev Aa7 :Wd := ⟨#[110,117,108,108]⟩
abbrev kOn :Wd := ⟨#[111,110]⟩
abbrev kOr :Wd := ⟨#[111,114]⟩
abbrev Aah :Wd := ⟨#[111,114,100,101,114]⟩
abbrev Ze :Wd := ⟨#[115,101,108,101,99,116]⟩
abbrev Abj :Wd := ⟨#[115,101,116]⟩
abbrev Aai :Wd := ⟨#[116,97,98,108,101]⟩
abbrev Aa8 :Wd := ⟨#[116,101,120,116]⟩
abbrev Zf :Wd := ⟨#[117,112,100,97,116,101]⟩
abbrev Zg :Wd := ⟨#[118,97,108,117,101,115]⟩
abbrev Aaj :Wd := ⟨#[119,104,101,114,101]⟩
def B6 (c :UInt8) :Bool :=decide (97≤c.toNat) &&decide (c.toNat≤122)
def Du (w :Wd) :Bool :=
 decide (w=Abg) || decide (w=kBy) || decide (w=Zb) || decide (w=Zc) || decide (w=Aa2) || decide (w=Aa3) || decide (w=Aa4) || decide (w=Aaf) || decide (w=Zd) || decide (w=Abh) || decide (w=Aa5) || decide (w=kIs) || decide (w=Aag) || decide (w=Aa6) || decide (w=Abi) || decide (w=Aa7) || decide (w=kOn) || decide (w=kOr) || decide (w=Aah) || decide (w=Ze) || decide (w=Abj) || decide (w=Aai) || decide (w=Aa8) || decide (w=Zf) || decide (w=Zg) || decide (w=Aaj)
def nm (w :Wd) :Bool :=decide (1≤w.size) &&decide (w.size≤8) &&w.data.toList.all B6&& !Du w
def F0 (f :UInt8→Bool) (l :List UInt8) :Nat := (l.takeWhile f).length
theorem J0 {f :UInt8→Bool} : ∀ {l :List UInt8} {k :Nat},(l.take k).all f=true→ (∀c,l[k]? =some c→f c=false) →k≤l.length→F0 f l=k
 | [],k,_,_,h=>by simp at h;subst h;rfl
 | c ::l,0,_,h,_=>by have :=h c rfl;simp [F0,this]
 | c ::l,k+1,h1,h2,h3=>by
  simp at h1
  have :=J0 (f :=f) (l :=l) (k :=k) (by simpa using h1.2) (fun x hx=>h2 x (by simpa using hx)) (by simpa using h3)
  simp only [F0,List.takeWhile_cons,h1.1,if_true,List.length_cons] at this⊢
  omega
theorem Zh (f :UInt8→Bool) (l :List UInt8) :F0 f l≤l.length := (List.takeWhile_prefix f).length_le
theorem Vj (f :UInt8→Bool) (l :List UInt8) : (l.take (F0 f l)).all f=true :=by
 induction l with
 | nil=>rfl
 | cons c l ih=>
  unfold F0 at ih⊢
  cases h :f c
  ·simp [h]
  ·simp only [List.takeWhile_cons,h,if_true,List.length_cons,List.take_succ_cons,List.all_cons,Bool.true_and];exact ih
end Go.Proofs.YtmgkcjiejmhgcaaGreatDoor

namespace Go.Proofs.YtmgkcjiejmhgcaaGreatDoor
open Go.RowKit
def Iu (c :Int) :Bool :=decide (97≤c) &&decide (c≤122)
theorem Nq (c :UInt8) :Iu (c.toNat :Int) =B6 c :=by simp only [Iu,B6];congr 1<;>simp<;>omega
set_option maxHeartbeats 400000 in
theorem Nr (c :Int) (w :World) :Calls Tryz.prog 72 #[.int .u8 c] w fun e w'=>e= .returned (.bool (Iu c)) ∧w'=w :=by
 by_cases h1 :97≤c<;>by_cases h2 :c≤122
 all_goals
  go_enter Tryz.func72,Tryz.ntmps72
  go_wp2
  all_goals
   go_ret
   exact ⟨Aj (by simp_all [Iu]),rfl⟩
theorem P8 {f :UInt8→Bool} {s :ByteArray} {k :Nat} (h :k<s.size) (h1 : (s.data.toList.take k).all f=true) (h2 :f s[k] =true) : (s.data.toList.take (k+1)).all f=true :=by
 rw [K5 s k h];simp only [List.all_append,h1,List.all_cons,h2,List.all_nil,Bool.and_self]
theorem Xl {s :ByteArray} {k :Nat} (h :k<s.size) :s.data.toList[k]? =some s[k] :=by
 rw [List.getElem?_eq_getElem (by simpa using h)];rfl
set_option maxHeartbeats 1000000 in
theorem K9 (s :ByteArray) (w :World) (hs :s.size≤maxLen) :Calls Tryz.prog 71 #[.func (.func 72) #[] #[], .string s] w fun e w'=>e= .returned (.int .i64 (F0 B6 s.data.toList :Nat)) ∧w'=w :=by
 unfold maxLen at hs
 go_enter Tryz.func71,Tryz.ntmps71
 go_wp2
 go_loop [5] (fun i=> ∃k :Nat,k≤s.size∧i= .int .i64 k∧Hid ((s.data.toList.take k).all B6=true)) (fun i=>s.size - (intOf i).toNat)
 case atStart=>exact ⟨0,Nat.zero_le _,rfl,rfl⟩
 case round=>
  obtain ⟨k,hk,rfl,HG⟩ :=hrel
  by_cases hlt :k<s.size
  ·cases hc :B6 s[k]
   ·have hc' :Iu (s[k].toNat :Int) =false :=by rw [Nq];exact hc
    have HE :Hid (F0 B6 s.data.toList=k) :=J0 HG.out (fun c h=>by rw [Xl hlt] at h;cases h;exact hc) (by simpa using hk)
    clear hc
    go_wp2_with (go_at_call 72;refine (Nr _ _).mono ?_;rintro e w' ⟨rfl,rfl⟩)
    go_ret
    exact ⟨A6 (by rw [HE.out]),rfl⟩
   ·have hc' :Iu (s[k].toNat :Int) =true :=by rw [Nq];exact hc
    have HN :Hid ((s.data.toList.take (k+1)).all B6=true) :=P8 hlt HG.out hc
    clear hc
    go_wp2_with (go_at_call 72;refine (Nr _ _).mono ?_;rintro e w' ⟨rfl,rfl⟩)
    go_round
    case rel=>exact ⟨k+1,by omega,by go_num,HN⟩
    case measure=>simp [intOf];omega
  ·have HE :Hid (F0 B6 s.data.toList=k) :=J0 HG.out (fun c h=>by rw [List.getElem?_eq_none (by simp;omega)] at h;cases h) (by simpa using hk)
   go_wp2
   go_ret
   exact ⟨A6 (by rw [HE.out]),rfl⟩
theorem Aak (w :Wd) (l :List UInt8) : (w.toList==l) =decide (w= ⟨l.toArray⟩) :=by
 rw [Lib.toList_data,Bool.eq_iff_iff,beq_iff_eq,decide_eq_true_eq]
 constructor
 ·intro h
  have :=congrArg List.toArray h
  cases w
  simpa using this
 ·rintro rfl;simp
theorem La (w :Wd) :Du w= (w.toList== [97,110,100] || w.toList== [98,121] || w.toList== [99,114,101,97,116,101] || w.toList== [100,101,108,101,116,101] || w.toList== [100,101,115,99] || w.toList== [100,114,111,112] || w.toList== [102,114,111,109] || w.toList== [105,110,100,101,120] || w.toList== [105,110,115,101,114,116] || w.toList== [105,110,116] || w.toList== [105,110,116,111] || w.toList== [105,115] || w.toList== [108,105,109,105,116] || w.toList== [109,117,115,116] || w.toList== [110,111,116] || w.toList== [110,117,108,108] || w.toList== [111,110] || w.toList== [111,114] || w.toList== [111,114,100,101,114] || w.toList== [115,101,108,101,99,116] || w.toList== [115,101,116] || w.toList== [116,97,98,108,101] || w.toList== [116,101,120,116] || w.toList== [117,112,100,97,116,101] || w.toList== [118,97,108,117,101,115] || w.toList== [119,104,101,114,101]) :=by
 simp only [Aak];rfl
set_option maxHeartbeats 2000000 in
theorem Qr (s :ByteArray) (w :World) :Calls Tryz.prog 73 #[.string s] w fun e w'=>e= .returned (.bool (Du s)) ∧w'=w :=by
 have hr :=La s
 generalize Du s=b at hr⊢
 have HR :Hid _ :=hr
 clear hr
 go_enter Tryz.func73,Tryz.ntmps73
 go_wp2
 all_goals first
  | (exfalso;simp_all;done)
  | (go_ret;refine ⟨Aj ?_,rfl⟩;rw [HR.out];simp [*];done)
theorem Zi {f :UInt8→Bool} {l :List UInt8} : (decide (F0 f l=l.length)) =l.all f :=by
 rw [Bool.eq_iff_iff,decide_eq_true_eq]
 constructor
 ·intro h
  have :=Vj f l
  rw [h,List.take_length] at this
  exact this
 ·intro h
  exact J0 (by rw [List.take_length];exact h) (fun c hc=>by simp at hc) (Nat.le_refl _)
set_option maxHeartbeats 1000000 in
theorem Gl (s :ByteArray) (w :World) (hs :s.size≤maxLen) :Calls Tryz.prog 34 #[.string s] w fun e w'=>e= .returned (.bool (nm s)) ∧w'=w :=by
 have hs' :=hs
 unfold maxLen at hs'
 have hn :nm s= (decide (1≤s.size) &&decide (s.size≤8) &&decide (F0 B6 s.data.toList=s.size) && !Du s) :=by
  rw [show decide (F0 B6 s.data.toList=s.size) =decide (F0 B6 s.data.toList=s.data.toList.length) from by rw [Hp],Zi];rfl
 generalize nm s=b at hn⊢
 have HN :Hid _ :=hn
 clear hn
 by_cases h1 :1≤s.size
 ·by_cases h2 :s.size≤8
  ·have hle :=Zh B6 s.data.toList
   rw [Hp] at hle
   by_cases h3 :F0 B6 s.data.toList=s.size
   ·have RO :=K9 s w hs
    generalize F0 B6 s.data.toList=n at RO HN h3 hle
    subst h3
    have RV :=Qr s w
    generalize Du s=r at RV HN
    have b1 : (1 :Int) ≤ (s.size :Int) :=by omega
    have b2 : (s.size :Int) ≤8 :=by omega
    have b3 : ((s.size :Int) == (s.size :Int)) =true :=beq_self_eq_true _
    cases r
    all_goals
     go_enter Tryz.func34,Tryz.ntmps34
     go_wp2_with (first
      | (go_at_call 71;go_must (go_fit RO;rintro e w' ⟨rfl,rfl⟩))
      | (go_at_call 73;go_must (go_fit RV;rintro e w' ⟨rfl,rfl⟩)))
     go_ret
     exact ⟨Aj (by rw [HN.out];simp [h1,h2]),rfl⟩
   ·have RO :=K9 s w hs
    generalize F0 B6 s.data.toList=n at RO HN h3 hle
    have b1 : (1 :Int) ≤ (s.size :Int) :=by omega
    have b2 : (s.size :Int) ≤8 :=by omega
    have b3 : ((n :Int) == (s.size :Int)) =false :=beq_eq_false_iff_ne.2 (by omega)
    go_enter Tryz.func34,Tryz.ntmps34
    go_wp2_with (first
     | (go_at_call 71;go_must (go_fit RO;rintro e w' ⟨rfl,rfl⟩)))
    go_ret
    exact ⟨Aj (by rw [HN.out];simp [h3]),rfl⟩
  ·go_enter Tryz.func34,Tryz.ntmps34
   go_wp2_with fail
   go_ret
   exact ⟨Aj (by rw [HN.out];simp [h2]),rfl⟩
 ·go_enter Tryz.func34,Tryz.ntmps34
  go_wp2_with fail
  go_ret
  exact ⟨Aj (by rw [HN.out];simp [h1]),rfl⟩
end Go.Proofs.YtmgkcjiejmhgcaaGreatDoor


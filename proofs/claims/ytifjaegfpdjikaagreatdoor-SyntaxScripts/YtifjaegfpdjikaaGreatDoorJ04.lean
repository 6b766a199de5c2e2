/-
  3 texts of this proof in one, in build order: SStmtR, SToks, Named.
-/
import Derived.Lib.Bytealg
import Derived.Lib.IndexLaws
import Derived.Lib.SlTrimSet
import Derived.Lib.AtoiAll
import Derived.Lib.AtoiAllCases
import Derived.Test.YtifjaegfpdjikaaGreatDoorRows
import Derived.WalkKit
import Derived.WalkSpells
import Derived.WalkLawsBesides
import Derived.Test.YtifjaegfpdjikaaGreatDoorJ01
import Derived.Test.YtifjaegfpdjikaaGreatDoorJ03
set_option linter.unusedSimpArgs false
set_option linter.unusedVariables false
namespace Go.Proofs.YtifjaegfpdjikaaGreatDoor
def D3 (l :List Wd) :Option (List Wd) :=
 if 2≤l.length∧l.head? =some As∧l.getLast? =some Aq∧B1 [Aq] 0 0 ((l.drop 1).take (l.length - 2)) =none then some ((l.drop 1).take (l.length - 2)) else none
def Ew (p :List Wd) :Option ColD :=match p with
 | [a,t] =>if nm a=true∧ (t=Gl∨t=F2) then some ⟨a,if t=F2 then 2 else 1,false⟩ else none
 | [a,t,m] =>if nm a=true∧ (t=Gl∨t=F2) ∧m=Ga then some ⟨a,if t=F2 then 2 else 1,true⟩ else none
 | _=>none
def Bt {α β :Type} (f :α→Option β) :List α→Option (List β)
 | [] =>some []
 | a ::l=> (f a).bind fun b=> (Bt f l).map fun bs=>b ::bs
def F5 (p :List Wd) :Option (List E) := (D3 p).bind fun m=>Bt Dn (Bf m)
def Fp (p :List Wd) :Option (Wd×E) :=match p with
 | c ::q ::m=>if m≠ [] ∧nm c=true∧q=kEq then (Dn m).map fun e=> (c,e) else none
 | _=>none
def Ho (p :List Wd) :Option Wd :=match p with
 | [a] =>if nm a=true then some a else none
 | _=>none
def Ek (l :List Wd) :Option (List Wd×E) :=match B1 [Db] 0 0 l with
 | some (i,_) => (Dn (l.drop (i+1))).map fun e=> (l.take i,e)
 | none=>some (l,E.nil)
def Fl (l :List Wd) :Option (List Wd×Int) :=
 if 1<l.length∧ (l.drop (l.length - 2)).head? =some Cr then (Cs (l.getLast?.getD noW)).map fun n=> (l.take (l.length - 2),n) else some (l, -1)
def Fm (l :List Wd) :Option (List Wd× (List E×Bool)) :=match B1 [Bl] 0 0 l with
 | some (i,_) =>
  let b :=l.drop (i+1)
  let dn :=decide (b.getLast? =some Co)
  let c :=if dn then b.take (b.length - 1) else b
  if c.head? =some kBy then (Dn (c.drop 1)).map fun e=> (l.take i,([e],dn)) else none
 | none=>some (l,([],false))
def J8 (l :List Wd) :Option (List E) :=if l= [A9] then some [] else Bt Dn (Bf l)
def N0 (l :List Wd) :Option Stm :=match l with
 | n ::m=>if nm n=true then (D3 m).bind fun i=> (Bt Ew (Bf i)).map fun cs=> {Bg 1 with name :=n,cols :=cs} else none
 | [] =>none
def Hw (l :List Wd) :Option Stm :=match l with
 | [a,k1,b,k2,c,k3] =>if k1=kOn∧k2=As∧k3=Aq∧nm a=true∧nm b=true∧nm c=true then some {Bg 2 with name :=a,table :=b,col :=c} else none
 | _=>none
def Mm (l :List Wd) :Option Stm :=match l with
 | [n] =>if nm n=true then some {Bg 3 with name :=n} else none
 | _=>none
def Jt (l :List Wd) :Option Stm :=match l with
 | t ::k ::m=>if m≠ [] ∧nm t=true∧k=Ct then (Bt F5 (Bf m)).map fun rs=> {Bg 4 with table :=t,rows :=rs} else none
 | _=>none
def Id (l :List Wd) :Option Stm := (Ek l).bind fun x=>match x.1 with
 | [t] =>if nm t=true then some {Bg 5 with table :=t,wher :=x.2} else none
 | _=>none
def Gs (l :List Wd) :Option Stm := (Ek l).bind fun x=>match x.1 with
 | t ::k ::m=>if nm t=true∧k=F6 then (Bt Fp (Bf m)).map fun ss=> {Bg 6 with table :=t,sets :=ss,wher :=x.2} else none
 | _=>none
def Jj (l :List Wd) :Option Stm := (Fl l).bind fun x=> (Fm x.1).bind fun y=> (Ek y.1).bind fun z=>match B1 [Az] 0 0 z.1 with
 | some (i,_) => (Bt Ho (Bf (z.1.drop (i+1)))).bind fun fs=> (J8 (z.1.take i)).map fun os=> {Bg 7 with out :=os,frm :=fs,wher :=z.2,order :=y.2.1,down :=y.2.2,n :=x.2}
 | none=>none
def G2 (l :List Wd) :Option Stm :=
 if l.take 2= [Au,A5] then N0 (l.drop 2)
 else if l.take 2= [Au,B7] then Hw (l.drop 2)
 else if l.take 2= [Cg,A5] then Mm (l.drop 2)
 else if l.take 2= [Bv,E6] then Jt (l.drop 2)
 else if l.take 2= [Cb,Az] then Id (l.drop 2)
 else if l.take 1= [Cc] then Gs (l.drop 1)
 else if l.take 1= [Ck] then Jj (l.drop 1)
 else none
theorem N4 {l m :List Wd} (h :D3 l=some m) :l=As :: (m++ [Aq]) :=by
 unfold D3 at h
 split at h
 ·rename_i c
  cases h
  by_cases h3 :2<l.length
  ·exact Wk c.2.1 c.2.2.1 h3
  ·match l,c.1,h3,c with
   | [a,b],_,_,c=>obtain ⟨_,c1,c2,_⟩ :=c;simp at c1 c2;subst c1;subst c2;rfl
   | [_],h,_,_=>simp at h
   | [],h,_,_=>simp at h
   | _ ::_ ::_ ::_,_,h,_=>simp at h
 ·cases h
theorem Hf {α :Type} {f :List Wd→Option α} {P :List Wd→α→Prop} (hf : ∀l a,f l=some a→P l a) : ∀n l az,Bt f (Dr n l) =some az→ListG P l az :=by
 intro n
 induction n with
 | zero=>
  intro l az h
  simp only [Dr,Bt,Option.bind_eq_some_iff,Option.map_eq_some_iff] at h
  obtain ⟨b,hb,x,hx,rfl⟩ :=h
  cases hx
  exact .one (hf _ _ hb)
 | succ n ih=>
  intro l az h
  unfold Dr at h
  split at h
  ·rename_i i k hc
   obtain ⟨a,w,m,rfl,hi,hk⟩ :=Nq _ _ _ _ _ hc
   simp only [Nat.zero_add] at hi;subst hi
   have hw :w=Av :=by
    match k,hk with
    | 0,hk=>simpa using hk.symm
    | k+1,hk=>simp at hk
   subst hw
   rw [Fg,Fh] at h
   simp only [Bt,Option.bind_eq_some_iff,Option.map_eq_some_iff] at h
   obtain ⟨b,hb,bs,hbs,rfl⟩ :=h
   exact .more (hf _ _ hb) (ih _ _ hbs)
  ·simp only [Bt,Option.bind_eq_some_iff,Option.map_eq_some_iff] at h
   obtain ⟨b,hb,x,hx,rfl⟩ :=h
   cases hx
   exact .one (hf _ _ hb)
theorem Zd (l :List Wd) (c :ColD) (h :Ew l=some c) :Ny l c :=by
 unfold Ew at h
 split at h
 ·split at h
  ·rename_i hc
   cases h
   refine ⟨hc.1,_, ?_,rfl⟩
   rcases hc.2 with rfl | rfl<;>simp
  ·cases h
 ·split at h
  ·rename_i hc
   cases h
   refine ⟨hc.1,_, ?_,by rw [hc.2.2];rfl⟩
   rcases hc.2.1 with rfl | rfl<;>simp
  ·cases h
 ·cases h
theorem Ie (l :List Wd) (e :E) (h :Dn l=some e) :F3 l e := (I5 l e).1 h
theorem Xg (l :List Wd) (es :List E) (h :F5 l=some es) :Pn l es :=by
 simp only [F5,Option.bind_eq_some_iff] at h
 obtain ⟨m,h1,h2⟩ :=h
 exact ⟨m,N4 h1,Hf Ie _ _ _ h2⟩
theorem Xh (l :List Wd) (c :Wd×E) (h :Fp l=some c) :Po l c :=by
 unfold Fp at h
 split at h
 ·split at h
  ·rename_i hc
   simp only [Option.map_eq_some_iff] at h
   obtain ⟨e,he,rfl⟩ :=h
   obtain ⟨_,h1,rfl⟩ :=hc
   exact ⟨h1,_,rfl,Ie _ _ he⟩
  ·cases h
 ·cases h
theorem Vk (l :List Wd) (a :Wd) (h :Ho l=some a) :Ly l a :=by
 unfold Ho at h
 split at h
 ·split at h
  ·rename_i hc;cases h;exact ⟨hc,rfl⟩
  ·cases h
 ·cases h
theorem N5 {w :Wd} {l :List Wd} {i k :Nat} (h :B1 [w] 0 0 l=some (i,k)) : ∃a m,l=a++w ::m∧a.length=i :=by
 obtain ⟨a,x,m,rfl,hi,hk⟩ :=Nq _ _ _ _ _ h
 have hw :x=w :=by
  match k,hk with
  | 0,hk=>simpa using hk.symm
  | k+1,hk=>simp at hk
 subst hw
 exact ⟨a,m,rfl,by omega⟩
theorem Lk {l a :List Wd} {e :E} (h :Ek l=some (a,e)) : ∃w,l=a++w∧In w e :=by
 unfold Ek at h
 split at h
 ·rename_i i k hc
  obtain ⟨b,m,rfl,rfl⟩ :=N5 hc
  rw [Fg,Fh] at h
  simp only [Option.map_eq_some_iff,Prod.mk.injEq] at h
  obtain ⟨e',he,rfl,rfl⟩ :=h
  exact ⟨Db ::m,rfl, .inr ⟨m,rfl,Ie _ _ he⟩⟩
 ·simp at h
  obtain ⟨rfl,rfl⟩ :=h
  exact ⟨[],by simp, .inl ⟨rfl,rfl⟩⟩
theorem Tz {l :List Wd} (h :1<l.length) : ∃a x y,l=a++ [x,y] :=by
 refine ⟨l.take (l.length - 2),l[l.length - 2],l[l.length - 1], ?_⟩
 have e1 :l.drop (l.length - 2) = [l[l.length - 2],l[l.length - 1]] :=by
  rw [List.drop_eq_getElem_cons (by omega),List.drop_eq_getElem_cons (by omega),List.drop_of_length_le (by omega)]
  congr 2
  congr 1
  omega
 conv=>lhs;rw [←List.take_append_drop (l.length - 2) l,e1]
theorem N6 (a :List Wd) (x y :Wd) :Fl (a++ [x,y]) =if x=Cr then (Cs y).map fun n=> (a,n) else some (a++ [x,y], -1) :=by
 have e1 : (a++ [x,y]).length - 2=a.length :=by simp
 unfold Fl
 rw [e1,List.drop_left',List.take_left']
 ·have e3 : (a++ [x,y]).getLast?.getD noW=y :=by simp
  rw [e3]
  by_cases h :x=Cr
  ·rw [if_pos ⟨by simp,by simp [h]⟩,if_pos h]
  ·rw [if_neg (fun c=>h (by simpa using c.2)),if_neg h]
 ·rfl
 ·rfl
theorem T0 {l a :List Wd} {n :Int} (h :Fl l=some (a,n)) : ∃m,l=a++m∧Mk m n :=by
 by_cases hl :1<l.length
 ·obtain ⟨b,x,y,rfl⟩ :=Tz hl
  rw [N6] at h
  split at h
  ·rename_i hx
   simp only [Option.map_eq_some_iff,Prod.mk.injEq] at h
   obtain ⟨k,hk,rfl,rfl⟩ :=h
   exact ⟨[x,y],rfl, .inr ⟨y,hk,by rw [hx]⟩⟩
  ·simp at h
   obtain ⟨rfl,rfl⟩ :=h
   exact ⟨[],by simp, .inl ⟨rfl,rfl⟩⟩
 ·unfold Fl at h
  rw [if_neg (fun c=>hl c.1)] at h
  simp at h
  obtain ⟨rfl,rfl⟩ :=h
  exact ⟨[],by simp, .inl ⟨rfl,rfl⟩⟩
theorem T2 {l a :List Wd} {o :List E×Bool} (h :Fm l=some (a,o)) : ∃r,l=a++r∧Li r o :=by
 unfold Fm at h
 split at h
 ·rename_i i k hc
  obtain ⟨b,m,rfl,rfl⟩ :=N5 hc
  rw [Fg,Fh] at h
  have hc : ∀c :List Wd,c.head? =some kBy→c=kBy ::c.drop 1 :=by
   intro c hc
   cases c with
   | nil=>simp at hc
   | cons x c=>simp at hc;subst hc;rfl
  by_cases hd :m.getLast? =some Co
  ·simp only [hd,decide_true,if_true] at h
   by_cases hb : (m.take (m.length - 1)).head? =some kBy
   ·rw [if_pos hb] at h
    simp only [Option.map_eq_some_iff,Prod.mk.injEq] at h
    obtain ⟨e,he,rfl,rfl⟩ :=h
    refine ⟨Bl ::m,rfl, .inr ⟨_,e,Ie _ _ he,rfl, ?_⟩⟩
    have h1 :=hc _ hb
    have h2 :m=m.take (m.length - 1) ++ [Co] :=by
     have hm :m≠ [] :=by rintro rfl;simp at hd
     rw [←List.dropLast_eq_take]
     rw [List.getLast?_eq_some_getLast hm] at hd
     simp at hd
     conv=>lhs;rw [←List.dropLast_concat_getLast hm,hd]
    conv=>lhs;rw [h2,h1]
    simp
   ·rw [if_neg hb] at h;cases h
  ·simp only [hd,decide_false,Bool.false_eq_true,if_false] at h
   by_cases hb :m.head? =some kBy
   ·rw [if_pos hb] at h
    simp only [Option.map_eq_some_iff,Prod.mk.injEq] at h
    obtain ⟨e,he,rfl,rfl⟩ :=h
    refine ⟨Bl ::m,rfl, .inr ⟨_,e,Ie _ _ he,rfl, ?_⟩⟩
    have h1 :=hc _ hb
    conv=>lhs;rw [h1]
    simp
   ·rw [if_neg hb] at h;cases h
 ·simp at h
  obtain ⟨rfl,rfl⟩ :=h
  exact ⟨[],by simp, .inl ⟨rfl,rfl⟩⟩
theorem Xi {l :List Wd} {es :List E} (h :J8 l=some es) :Rr l es :=by
 unfold J8 at h
 split at h
 ·rename_i hl;cases h;exact .inl ⟨hl,rfl⟩
 ·exact .inr (Hf Ie _ _ _ h)
theorem Vl {l :List Wd} {st :Stm} (h :G2 l=some st) :StmG l st :=by
 have two : ∀ {x y :Wd},l.take 2= [x,y] →l=x ::y ::l.drop 2 :=by
  intro x y h
  conv=>lhs;rw [←List.take_append_drop 2 l,h]
  rfl
 have one : ∀ {x :Wd},l.take 1= [x] →l=x ::l.drop 1 :=by
  intro x h
  conv=>lhs;rw [←List.take_append_drop 1 l,h]
  rfl
 unfold G2 at h
 split at h
 ·rename_i h0
  rw [two h0]
  generalize l.drop 2=m at h⊢
  unfold N0 at h
  split at h
  ·split at h
   ·rename_i hn
    simp only [Option.bind_eq_some_iff,Option.map_eq_some_iff] at h
    obtain ⟨i,h1,cs,h2,rfl⟩ :=h
    rw [N4 h1]
    exact .table hn (Hf Zd _ _ _ h2)
   ·cases h
  ·cases h
 split at h
 ·rename_i h0
  rw [two h0]
  generalize l.drop 2=m at h⊢
  unfold Hw at h
  split at h
  ·split at h
   ·rename_i c
    obtain ⟨rfl,rfl,rfl,h1,h2,h3⟩ :=c
    cases h
    exact .index h1 h2 h3
   ·cases h
  ·cases h
 split at h
 ·rename_i h0
  rw [two h0]
  generalize l.drop 2=m at h⊢
  unfold Mm at h
  split at h
  ·split at h
   ·rename_i hn;cases h;exact .drop hn
   ·cases h
  ·cases h
 split at h
 ·rename_i h0
  rw [two h0]
  generalize l.drop 2=m at h⊢
  unfold Jt at h
  split at h
  ·split at h
   ·rename_i c
    obtain ⟨_,h1,rfl⟩ :=c
    simp only [Option.map_eq_some_iff] at h
    obtain ⟨rs,h2,rfl⟩ :=h
    exact .insert h1 (Hf Xg _ _ _ h2)
   ·cases h
  ·cases h
 split at h
 ·rename_i h0
  rw [two h0]
  generalize l.drop 2=m at h⊢
  simp only [Id,Option.bind_eq_some_iff] at h
  obtain ⟨⟨a,e⟩,h1,h2⟩ :=h
  obtain ⟨w,rfl,hw⟩ :=Lk h1
  simp only at h2
  split at h2
  ·split at h2
   ·rename_i hn;cases h2;exact .delete hn hw
   ·cases h2
  ·cases h2
 split at h
 ·rename_i h0
  rw [one h0]
  generalize l.drop 1=m at h⊢
  simp only [Gs,Option.bind_eq_some_iff] at h
  obtain ⟨⟨a,e⟩,h1,h2⟩ :=h
  obtain ⟨w,rfl,hw⟩ :=Lk h1
  simp only at h2
  split at h2
  ·split at h2
   ·rename_i c
    obtain ⟨hn,rfl⟩ :=c
    simp only [Option.map_eq_some_iff] at h2
    obtain ⟨ss,h3,rfl⟩ :=h2
    exact .update hn (Hf Xh _ _ _ h3) hw
   ·cases h2
  ·cases h2
 split at h
 ·rename_i h0
  rw [one h0]
  generalize l.drop 1=m at h⊢
  simp only [Jj,Option.bind_eq_some_iff] at h
  obtain ⟨⟨x,n⟩,h1,⟨y,o⟩,h2,⟨z,e⟩,h3,h4⟩ :=h
  obtain ⟨m1,rfl,g1⟩ :=T0 h1
  obtain ⟨m2,h5,g2⟩ :=T2 h2
  simp only at h5
  subst h5
  obtain ⟨m3,h6,g3⟩ :=Lk h3
  simp only at h6
  subst h6
  simp only at h4
  split at h4
  ·rename_i i k hc
   obtain ⟨b,m,rfl,rfl⟩ :=N5 hc
   rw [Fg,Fh] at h4
   simp only [Option.bind_eq_some_iff,Option.map_eq_some_iff] at h4
   obtain ⟨fs,h7,os,h8,rfl⟩ :=h4
   have :=StmG.select (Xi h8) (Hf Vk _ _ _ h7) g3 g2 g1
   simpa using this
  ·cases h4
 ·cases h
theorem Lz {m :List Wd} (h : ∀w∈Bo 0 m,w≠Aq) :D3 (As :: (m++ [Aq])) =some m :=by
 have e1 : ((As :: (m++ [Aq])).drop 1).take ((As :: (m++ [Aq])).length - 2) =m :=by simp
 unfold D3
 rw [e1,if_pos ⟨by simp,rfl,by rw [List.getLast?_cons_of_ne_nil (by simp)];simp,K9 (fun w hw=>by simpa using h w hw)⟩]
theorem Fw {α :Type} {f :List Wd→Option α} {P :List Wd→α→Prop} (hf : ∀l a,P l a→f l=some a∧Bal l∧ ∀w∈Bo 0 l,w≠Av) {l :List Wd} {az :List α} (h :ListG P l az) : ∀n,l.length≤n→Bt f (Dr n l) =some az :=by
 induction h with
 | one h=>
  rename_i l a
  obtain ⟨h1,h2,h3⟩ :=hf _ _ h
  intro n _
  have e :Dr n l= [l] :=by
   cases n with
   | zero=>rfl
   | succ n=>rw [Dr,K9 (fun w hw=>by simpa using h3 w hw)]
  rw [e]
  simp [Bt,h1]
 | more hl hm ih=>
  rename_i l a m az
  obtain ⟨h1,h2,h3⟩ :=hf _ _ hl
  intro n hn
  cases n with
  | zero=>simp at hn
  | succ n=>
   rw [Dr,La (k :=0) h2 (fun w hw=>by simpa using h3 w hw) (by decide)]
   simp only [Fg,Fh,Bt,h1]
   rw [ih n (by simp at hn;omega)]
   rfl
theorem Mu {α :Type} {P :List Wd→α→Prop} {t :Wd→Bool} (hP : ∀l a,P l a→Bal l∧ ∀w∈Bo 0 l,t w=true) (ht :t Av=true) {l :List Wd} {az :List α} (h :ListG P l az) :Bal l∧ ∀w∈Bo 0 l,t w=true :=by
 induction h with
 | one h=>exact hP _ _ h
 | more hl hm ih=>
  obtain ⟨h1,h2⟩ :=hP _ _ hl
  refine ⟨h1.append (.cons (by decide) (by decide) ih.1),fun w hw=> ?_⟩
  rw [J5 h1,List.mem_append,D7 (by decide) (by decide),List.mem_cons] at hw
  rcases hw with hw | rfl | hw
  ·exact h2 w hw
  ·exact ht
  ·exact ih.2 w hw
def J9 (w :Wd) :Bool :=E7 w || decide (w=Av)
theorem Kk {l :List Wd} {es :List E} (h :ListG F3 l es) :Bal l∧ ∀w∈Bo 0 l,J9 w=true :=
 Mu (fun l a h=> ⟨(E3 h).bal,fun w hw=>by simp [J9,(E3 h).tops w hw]⟩) (by decide) h
theorem Ng (l :List Wd) (e :E) (h :F3 l e) :Dn l=some e∧Bal l∧ ∀w∈Bo 0 l,w≠Av :=
 ⟨(I5 l e).2 h,(E3 h).bal,fun w hw=>Fo ((E3 h).tops w hw) (by decide)⟩
theorem Aby {l :List Wd} {es :List E} (h :Pn l es) :Bal l∧Bo 0 l= [As] :=by
 obtain ⟨m,rfl,h⟩ :=h
 exact ⟨(Kk h).1.br,Rn (Kk h).1⟩
theorem S0 (l :List Wd) (es :List E) (h :Pn l es) :F5 l=some es∧Bal l∧ ∀w∈Bo 0 l,w≠Av :=by
 obtain ⟨h1,h2⟩ :=Aby h
 refine ⟨?_,h1,fun w hw=>by rw [h2] at hw;simp at hw;subst hw;decide⟩
 obtain ⟨m,rfl,h⟩ :=h
 rw [F5,Lz fun w hw=>Fo ((Kk h).2 w hw) (by decide)]
 exact Fw Ng h _ (Nat.le_refl _)
theorem Kl {l :List Wd} {c :ColD} (h :Ny l c) :Bal l∧Bo 0 l=l∧ ∀w∈l,nm w=true∨w=Gl∨w=F2∨w=Ga :=by
 obtain ⟨n,t,m⟩ :=c
 obtain ⟨hn,x,hx,rfl⟩ :=h
 simp only at hn hx⊢
 have h1 :x≠As∧x≠Aq :=by rcases hx with ⟨rfl,_⟩ | ⟨rfl,_⟩ <;>decide
 have n1 :=Ce (k :=As) hn (by decide)
 have n2 :=Ce (k :=Aq) hn (by decide)
 have hx' :x=Gl∨x=F2 :=by rcases hx with ⟨h,_⟩ | ⟨h,_⟩ <;>simp [h]
 cases m
 ·refine ⟨.cons n1 n2 (.one h1.1 h1.2), ?_, ?_⟩
  ·rw [D7 n1 n2];simp only [Bool.false_eq_true,if_false];rw [D7 h1.1 h1.2];rfl
  ·intro w hw;simp at hw;rcases hw with rfl | rfl
   ·exact .inl hn
   ·rcases hx' with h | h<;>simp [h]
 ·refine ⟨.cons n1 n2 (.cons h1.1 h1.2 (.one (by decide) (by decide))), ?_, ?_⟩
  ·rw [D7 n1 n2];simp only [if_true];rw [D7 h1.1 h1.2,D7 (by decide) (by decide)];rfl
  ·intro w hw;simp at hw;rcases hw with rfl | rfl | rfl
   ·exact .inl hn
   ·rcases hx' with h | h<;>simp [h]
   ·simp
theorem S2 (l :List Wd) (c :ColD) (h :Ny l c) :Ew l=some c∧Bal l∧ ∀w∈Bo 0 l,w≠Av :=by
 obtain ⟨h1,h2,h3⟩ :=Kl h
 refine ⟨?_,h1,fun w hw=> ?_⟩
 ·obtain ⟨n,t,m⟩ :=c
  obtain ⟨hn,x,hx,rfl⟩ :=h
  simp only at hn hx⊢
  rcases hx with ⟨rfl,rfl⟩ | ⟨rfl,rfl⟩ <;>cases m<;>simp [Ew,hn]
 ·rw [h2] at hw
  rcases h3 w hw with h | rfl | rfl | rfl
  ·exact Ce h (by decide)
  ·decide
  ·decide
  ·decide
theorem G9 (l :List Wd) (c :Wd×E) (h :Po l c) :Fp l=some c∧Bal l∧ ∀w∈Bo 0 l,E7 w=true :=by
 obtain ⟨c,e⟩ :=c
 obtain ⟨h1,m,rfl,h⟩ :=h
 simp only at h1 h
 have n :=E3 h
 have n1 :=Ce (k :=As) h1 (by decide)
 have n2 :=Ce (k :=Aq) h1 (by decide)
 refine ⟨by simp [Fp,Ks h,h1,(I5 _ _).2 h], .cons n1 n2 (.cons (by decide) (by decide) n.bal),fun w hw=> ?_⟩
 rw [D7 n1 n2,D7 (by decide) (by decide)] at hw
 simp at hw
 rcases hw with rfl | rfl | hw
 ·exact Hv _ (Fe _ (Gj _ (J6 _ (L8 h1))))
 ·decide
 ·exact n.tops w hw
theorem Gt (l :List Wd) (a :Wd) (h :Ly l a) :Ho l=some a∧Bal l∧ ∀w∈Bo 0 l,nm w=true :=by
 obtain ⟨h,rfl⟩ :=h
 have n1 :=Ce (k :=As) h (by decide)
 have n2 :=Ce (k :=Aq) h (by decide)
 refine ⟨by simp [Ho,h], .one n1 n2,fun w hw=> ?_⟩
 rw [D7 n1 n2] at hw;simp [Bo] at hw;subst hw;exact h
def T3 (w :Wd) :Bool :=nm w || decide (w=Av)
theorem Ze {l :List Wd} {es :List Wd} (h :ListG Ly l es) :Bal l∧ ∀w∈Bo 0 l,T3 w=true :=
 Mu (fun l a h=> ⟨(Gt l a h).2.1,fun w hw=>by simp [T3,(Gt l a h).2.2 w hw]⟩) (by decide) h
theorem Aao {l :List Wd} {es :List (Wd×E)} (h :ListG Po l es) :Bal l∧ ∀w∈Bo 0 l,J9 w=true :=
 Mu (fun l a h=> ⟨(G9 l a h).2.1,fun w hw=>by simp [J9,(G9 l a h).2.2 w hw]⟩) (by decide) h
theorem Aap {l :List Wd} {cs :List ColD} (h :ListG Ny l cs) :Bal l∧ ∀w∈Bo 0 l,(!decide (w=Aq)) =true :=
 Mu (fun l a h=> ⟨(Kl h).1,fun w hw=>by
  rw [(Kl h).2.1] at hw
  rcases (Kl h).2.2 w hw with h | rfl | rfl | rfl
  ·simp [Ce (k :=Aq) h (by decide)]
  ·decide
  ·decide
  ·decide⟩) (by decide) h
theorem Jk {a w :List Wd} {e :E} (hb :Bal a) (ha : ∀x∈Bo 0 a,x≠Db) (h :In w e) :Ek (a++w) =some (a,e) :=by
 rcases h with ⟨rfl,rfl⟩ | ⟨m,rfl,h⟩
 ·rw [List.append_nil,Ek,K9 (fun w hw=>by simpa using ha w hw)]
 ·rw [Ek,La (k :=0) hb (fun w hw=>by simpa using ha w hw) (by decide)]
  simp only [Fg,Fh,(I5 _ _).2 h]
  rfl
theorem Zf {w :List Wd} {e :E} (h :In w e) :Bal w∧ ∀x∈Bo 0 w,(E7 x || decide (x=Db)) =true :=by
 rcases h with ⟨rfl,_⟩ | ⟨m,rfl,h⟩
 ·exact ⟨fun d _=> ⟨rfl,fun _=>rfl⟩,fun x hx=>by simp [Bo] at hx⟩
 ·have n :=E3 h
  refine ⟨.cons (by decide) (by decide) n.bal,fun x hx=> ?_⟩
  rw [D7 (by decide) (by decide)] at hx
  simp at hx
  rcases hx with rfl | hx
  ·decide
  ·simp [n.tops x hx]
theorem Zg {m :List Wd} {e :E} (h :F3 m e) {a :List Wd} : (a++m).getLast? ≠some Co :=by
 rw [List.getLast?_append,List.getLast?_eq_some_getLast (Ks h)]
 simp only [Option.some_or,ne_eq,Option.some.injEq]
 exact Fo ((E3 h).all _ (List.getLast_mem _)) (by decide)
theorem Qo {a r :List Wd} {o :List E×Bool} (hb :Bal a) (ha : ∀x∈Bo 0 a,x≠Bl) (h :Li r o) :Fm (a++r) =some (a,o) :=by
 rcases h with ⟨rfl,rfl⟩ | ⟨m,e,h,ho,rfl⟩
 ·rw [List.append_nil,Fm,K9 (fun w hw=>by simpa using ha w hw)]
 ·obtain ⟨os,dn⟩ :=o
  simp only at ho;subst ho
  rw [Fm,La (k :=0) hb (fun w hw=>by simpa using ha w hw) (by decide)]
  simp only [Fg,Fh]
  cases dn
  ·have hl : (kBy ::m).getLast? ≠some Co :=Zg (a := [kBy]) h
   simp [hl,(I5 _ _).2 h]
  ·have hl : (kBy :: (m++ [Co])).getLast? =some Co :=by rw [show kBy :: (m++ [Co]) = (kBy ::m) ++ [Co] from rfl,List.getLast?_concat]
   have ht : (kBy :: (m++ [Co])).take ((kBy :: (m++ [Co])).length - 1) =kBy ::m :=by simp
   simp only [hl,decide_true,if_true,ht]
   simp [(I5 _ _).2 h]
theorem Qp {a m :List Wd} {n :Int} (ha :Cr∉a) (h :Mk m n) :Fl (a++m) =some (a,n) :=by
 rcases h with ⟨rfl,rfl⟩ | ⟨w,h,rfl⟩
 ·rw [List.append_nil]
  by_cases hl :1<a.length
  ·obtain ⟨b,x,y,rfl⟩ :=Tz hl
   rw [N6,if_neg (by rintro rfl;simp at ha)]
  ·rw [Fl,if_neg (fun c=>hl c.1)]
 ·rw [N6,if_pos rfl,h];rfl
theorem S4 {l :List Wd} {es :List E} (h :Rr l es) :J8 l=some es∧Bal l∧ ∀w∈Bo 0 l,(J9 w || decide (w=A9)) =true :=by
 rcases h with ⟨rfl,rfl⟩ | h
 ·exact ⟨by simp [J8], .one (by decide) (by decide),fun w hw=>by simp [Bo] at hw;subst hw;decide⟩
 ·refine ⟨?_,(Kk h).1,fun w hw=>by simp [(Kk h).2 w hw]⟩
  obtain ⟨w,m,rfl,hw⟩ :=Ql h
  rw [J8,if_neg (by intro he;simp at he;exact Fo (k :=A9) hw (by decide) he.1)]
  exact Fw Ng h _ (Nat.le_refl _)
def Ma (w :Wd) :Bool :=Iv w || decide (w=Av) || decide (w=Db) || decide (w=Bl) || decide (w=kBy) || decide (w=Co) || decide (w=A9) || decide (w=Az)
theorem T4 {α :Type} {P :List Wd→α→Prop} {t :Wd→Bool} (hP : ∀l a,P l a→ ∀w∈l,t w=true) (ht :t Av=true) {l :List Wd} {az :List α} (h :ListG P l az) : ∀w∈l,t w=true :=by
 induction h with
 | one h=>exact hP _ _ h
 | more hl hm ih=>
  intro w hw
  rw [List.mem_append,List.mem_cons] at hw
  rcases hw with hw | rfl | hw
  ·exact hP _ _ hl w hw
  ·exact ht
  ·exact ih w hw
theorem K0 (w :Wd) (h :Iv w=true) :Ma w=true :=by simp [Ma,h]
theorem R7 {l :List Wd} {es :List E} (h :ListG F3 l es) : ∀w∈l,Ma w=true :=T4 (fun _ _ h w hw=>K0 w ((E3 h).all w hw)) (by decide) h
theorem R8 {l :List Wd} {es :List Wd} (h :ListG Ly l es) : ∀w∈l,Ma w=true :=T4 (fun _ _ h w hw=>by
 obtain ⟨h,rfl⟩ :=h;simp at hw;subst hw;exact K0 _ (Fb _ (L8 h))) (by decide) h
theorem K3 {l :List Wd} {e :E} (h :In l e) : ∀w∈l,Ma w=true :=by
 rcases h with ⟨rfl,_⟩ | ⟨m,rfl,h⟩
 ·simp
 ·intro w hw
  rcases List.mem_cons.1 hw with rfl | hw
  ·decide
  ·exact K0 w ((E3 h).all w hw)
theorem R9 {l :List Wd} {o :List E×Bool} (h :Li l o) : ∀w∈l,Ma w=true :=by
 rcases h with ⟨rfl,_⟩ | ⟨m,e,h,_,rfl⟩
 ·simp
 ·intro w hw
  rcases List.mem_cons.1 hw with rfl | hw
  ·decide
  rcases List.mem_cons.1 hw with rfl | hw
  ·decide
  rcases List.mem_append.1 hw with hw | hw
  ·exact K0 w ((E3 h).all w hw)
  ·split at hw
   ·simp at hw;subst hw;decide
   ·simp at hw
theorem Wm {l :List Wd} {es :List E} (h :Rr l es) : ∀w∈l,Ma w=true :=by
 rcases h with ⟨rfl,_⟩ | h
 ·intro w hw;simp at hw;subst hw;decide
 ·exact R7 h
theorem S5 {α :Type} {P :List Wd→α→Prop} (hP : ∀l a,P l a→l≠ []) {l :List Wd} {az :List α} (h :ListG P l az) :l≠ [] :=by
 cases h with
 | one h=>exact hP _ _ h
 | more _ _=>simp
theorem Rv {l :List Wd} {st :Stm} (h :StmG l st) :G2 l=some st :=by
 cases h with
 | table hn hl=>
  rename_i n cs l
  have hc :=Aap hl
  simp only [G2,List.take_succ_cons,List.take_zero,List.drop_succ_cons,List.drop_zero,if_true,N0,hn]
  rw [Lz fun w hw=>by have :=hc.2 w hw;simpa using this]
  simp only [Option.bind_some]
  rw [show Bt Ew (Bf l) =some cs from Fw S2 hl _ (Nat.le_refl _)]
  rfl
 | index ha hb hc=>simp [G2,Hw,ha,hb,hc]
 | drop hn=>simp [G2,Mm,hn]
 | insert hn hl=>
  rename_i t l rs
  have hne :l≠ [] :=S5 (fun l a h=>by obtain ⟨m,rfl,_⟩ :=h;simp) hl
  have e :Bt F5 (Bf l) =some rs :=Fw S0 hl _ (Nat.le_refl _)
  simp [G2,Jt,hn,hne,e]
 | delete hn hw=>
  rename_i t w e
  have n1 :=Ce (k :=As) hn (by decide)
  have n2 :=Ce (k :=Aq) hn (by decide)
  have e1 :Ek (t ::w) =some ([t],e) :=Jk (a := [t]) (.one n1 n2) (fun x hx=>by rw [D7 n1 n2] at hx;simp [Bo] at hx;subst hx;exact Ce hn (by decide)) hw
  simp [G2,Id,e1,hn]
 | update hn hl hw=>
  rename_i t l ss w e
  have n1 :=Ce (k :=As) hn (by decide)
  have n2 :=Ce (k :=Aq) hn (by decide)
  have sb :=Aao hl
  have e1 :Ek (t ::F6 :: (l++w)) =some (t ::F6 ::l,e) :=by
   refine Jk (a :=t ::F6 ::l) (.cons n1 n2 (.cons (by decide) (by decide) sb.1)) (fun x hx=> ?_) hw
   rw [D7 n1 n2,D7 (by decide) (by decide)] at hx
   simp at hx
   rcases hx with rfl | rfl | hx
   ·exact Ce hn (by decide)
   ·decide
   ·exact Fo (sb.2 x hx) (by decide)
  have e2 :Bt Fp (Bf l) =some ss :=Fw (fun l a h=> ⟨(G9 l a h).1,(G9 l a h).2.1,fun w hw=>Fo ((G9 l a h).2.2 w hw) (by decide)⟩) hl _ (Nat.le_refl _)
  simp [G2,Gs,e1,hn,e2]
 | select ho hf hw hr hm=>
  rename_i o os f fs w e rr es m n
  obtain ⟨o1,o2,o3⟩ :=S4 ho
  have fb :=Ze hf
  have wb :=Zf hw
  have b1 :Bal (o++Az ::f) :=o2.append (.cons (by decide) (by decide) fb.1)
  have t1 : ∀x∈Bo 0 (o++Az ::f),(J9 x || decide (x=A9) || decide (x=Az)) =true :=by
   intro x hx
   rw [J5 o2,List.mem_append,D7 (by decide) (by decide),List.mem_cons] at hx
   rcases hx with hx | rfl | hx
   ·simp [o3 x hx]
   ·decide
   ·have :=fb.2 x hx
    simp only [T3,Bool.or_eq_true,decide_eq_true_eq] at this
    rcases this with h | rfl
    ·simp [J9,Hv _ (Fe _ (Gj _ (J6 _ (L8 h))))]
    ·decide
  have b2 :Bal ((o++Az ::f) ++w) :=b1.append wb.1
  have e0 :o++Az :: (f++ (w++ (rr++m))) = (((o++Az ::f) ++w) ++rr) ++m :=by simp
  have h1 :Fl (o++Az :: (f++ (w++ (rr++m)))) =some (((o++Az ::f) ++w) ++rr,n) :=by
   rw [e0]
   refine Qp (fun hk=> ?_) hm
   have :Ma Cr=true :=by
    simp only [List.mem_append,List.mem_cons] at hk
    rcases hk with ((hk | hk | hk) | hk) | hk
    ·exact Wm ho _ hk
    ·exact absurd hk (by decide)
    ·exact R8 hf _ hk
    ·exact K3 hw _ hk
    ·exact R9 hr _ hk
   exact absurd this (by decide)
  have h2 :Fm (((o++Az ::f) ++w) ++rr) =some ((o++Az ::f) ++w,es) :=by
   refine Qo b2 (fun x hx=> ?_) hr
   rw [J5 b1,List.mem_append] at hx
   rcases hx with hx | hx
   ·exact Fo (t :=fun x=>J9 x || decide (x=A9) || decide (x=Az)) (t1 x hx) (by decide)
   ·exact Fo (t :=fun x=>E7 x || decide (x=Db)) (wb.2 x hx) (by decide)
  have h3 :Ek ((o++Az ::f) ++w) =some (o++Az ::f,e) :=
   Jk b1 (fun x hx=>Fo (t :=fun x=>J9 x || decide (x=A9) || decide (x=Az)) (t1 x hx) (by decide)) hw
  have h4 :B1 [Az] 0 0 (o++Az ::f) =some (o.length,0) :=
   La o2 (fun x hx=>by have :=Fo (k :=Az) (t :=fun x=>J9 x || decide (x=A9)) (o3 x hx) (by decide);simpa using this) (by decide)
  have h5 :Bt Ho (Bf f) =some fs :=Fw (fun l a h=> ⟨(Gt l a h).1,(Gt l a h).2.1,fun w hw=>Ce ((Gt l a h).2.2 w hw) (by decide)⟩) hf _ (Nat.le_refl _)
  have h6 :Jj (o++Az :: (f++ (w++ (rr++m)))) =some {Bg 7 with out :=os,frm :=fs,wher :=e,order :=es.1,down :=es.2,n :=n} :=by
   simp only [Jj,h1,h2,h3,Option.bind_some,h4,Fg,Fh,h5,o1]
   rfl
  simp [G2,h6]
def Hp :List Wd→Option Nat
 | [] =>none
 | w ::l=>if w=Cj then some 0 else (Hp l).map (·+1)
def Eh :Nat→List Wd→Option (List Stm)
 | 0,l=>if l= [] then some [] else none
 | f+1,l=>if l= [] then some [] else match Hp l with
  | some k=> (G2 (l.take k)).bind fun s=> (Eh f (l.drop (k+1))).map fun ss=>s ::ss
  | none=>none
def Ei (l :List Wd) :Option (List Stm) :=Eh l.length l
theorem Wn {w :Wd} (h :Iv w=true) :0<w.size :=by
 simp only [Iv,E7,Lx,Ic,Ro,Je,Bool.or_eq_true,decide_eq_true_eq] at h
 rcases Nat.eq_zero_or_pos w.size with h0 | h0
 ·have e :w=noW :=by
   cases w with
   | mk d=>
    have :d.size=0 :=h0
    rw [Array.size_eq_zero_iff] at this
    rw [this]
  subst e
  revert h;decide
 ·exact h0
theorem Aaq {l m :List Wd} (h : ∀w∈l,w≠Cj) :Hp (l++Cj ::m) =some l.length :=by
 induction l with
 | nil=>simp [Hp]
 | cons w l ih=>simp [Hp,h w (by simp),ih fun x hx=>h x (by simp [hx])]
theorem Qq : ∀ {l :List Wd} {k :Nat},Hp l=some k→ ∃a m,l=a++Cj ::m∧a.length=k
 | [],k,h=>by simp [Hp] at h
 | w ::l,k,h=>by
  unfold Hp at h
  split at h
  ·rename_i hw;simp at h;subst h;subst hw;exact ⟨[],l,rfl,rfl⟩
  ·simp only [Option.map_eq_some_iff] at h
   obtain ⟨j,hj,rfl⟩ :=h
   obtain ⟨a,m,rfl,rfl⟩ :=Qq hj
   exact ⟨w ::a,m,rfl,rfl⟩
def tOk (w :Wd) :Prop :=w≠Cj∧0<w.size
theorem T5 {w :Wd} (h :Iv w=true) :tOk w := ⟨Fo h (by decide),Wn h⟩
theorem Ka {w :Wd} (h :nm w=true) :tOk w :=T5 (Fb _ (L8 h))
theorem Ll {w :Wd} (h :Ma w=true) :tOk w :=by
 refine ⟨Fo h (by decide), ?_⟩
 simp only [Ma,Bool.or_eq_true,decide_eq_true_eq] at h
 rcases h with ((((((h | rfl) | rfl) | rfl) | rfl) | rfl) | rfl) | rfl
 ·exact Wn h
 all_goals decide
theorem Rw {α :Type} {P :List Wd→α→Prop} (hP : ∀l a,P l a→ ∀w∈l,tOk w) {l :List Wd} {az :List α} (h :ListG P l az) : ∀w∈l,tOk w :=by
 induction h with
 | one h=>exact hP _ _ h
 | more hl hm ih=>
  intro w hw
  rw [List.mem_append,List.mem_cons] at hw
  rcases hw with hw | rfl | hw
  ·exact hP _ _ hl w hw
  ·exact ⟨by decide,by decide⟩
  ·exact ih w hw
theorem Zh {l :List Wd} {st :Stm} (h :StmG l st) : (∀w∈l,tOk w) ∧l≠ [] :=by
 have k : ∀ {w :Wd},tOk w↔w≠Cj∧0<w.size :=Iff.rfl
 cases h with
 | table hn hl=>
  refine ⟨fun w hw=> ?_,by simp⟩
  simp only [List.mem_cons,List.mem_append,List.not_mem_nil,or_false] at hw
  rcases hw with rfl | rfl | rfl | rfl | hw | rfl
  ·exact ⟨by decide,by decide⟩
  ·exact ⟨by decide,by decide⟩
  ·exact Ka hn
  ·exact ⟨by decide,by decide⟩
  ·refine Rw (fun l a h w hw=> ?_) hl w hw
   rcases (Kl h).2.2 w hw with h | rfl | rfl | rfl
   ·exact Ka h
   all_goals exact ⟨by decide,by decide⟩
  ·exact ⟨by decide,by decide⟩
 | index ha hb hc=>
  refine ⟨fun w hw=> ?_,by simp⟩
  simp only [List.mem_cons,List.not_mem_nil,or_false] at hw
  rcases hw with rfl | rfl | rfl | rfl | rfl | rfl | rfl | rfl
  ·exact ⟨by decide,by decide⟩
  ·exact ⟨by decide,by decide⟩
  ·exact Ka ha
  ·exact ⟨by decide,by decide⟩
  ·exact Ka hb
  ·exact ⟨by decide,by decide⟩
  ·exact Ka hc
  ·exact ⟨by decide,by decide⟩
 | drop hn=>
  refine ⟨fun w hw=> ?_,by simp⟩
  simp only [List.mem_cons,List.not_mem_nil,or_false] at hw
  rcases hw with rfl | rfl | rfl
  ·exact ⟨by decide,by decide⟩
  ·exact ⟨by decide,by decide⟩
  ·exact Ka hn
 | insert hn hl=>
  refine ⟨fun w hw=> ?_,by simp⟩
  simp only [List.mem_cons] at hw
  rcases hw with rfl | rfl | rfl | rfl | hw
  ·exact ⟨by decide,by decide⟩
  ·exact ⟨by decide,by decide⟩
  ·exact Ka hn
  ·exact ⟨by decide,by decide⟩
  ·refine Rw (fun l a h w hw=> ?_) hl w hw
   obtain ⟨m,rfl,h⟩ :=h
   simp only [List.mem_cons,List.mem_append,List.not_mem_nil,or_false] at hw
   rcases hw with rfl | hw | rfl
   ·exact ⟨by decide,by decide⟩
   ·exact Ll (R7 h w hw)
   ·exact ⟨by decide,by decide⟩
 | delete hn hw'=>
  refine ⟨fun w hw=> ?_,by simp⟩
  simp only [List.mem_cons] at hw
  rcases hw with rfl | rfl | rfl | hw
  ·exact ⟨by decide,by decide⟩
  ·exact ⟨by decide,by decide⟩
  ·exact Ka hn
  ·exact Ll (K3 hw' w hw)
 | update hn hl hw'=>
  refine ⟨fun w hw=> ?_,by simp⟩
  simp only [List.mem_cons,List.mem_append] at hw
  rcases hw with rfl | rfl | rfl | hw | hw
  ·exact ⟨by decide,by decide⟩
  ·exact Ka hn
  ·exact ⟨by decide,by decide⟩
  ·refine Rw (fun l a h w hw=> ?_) hl w hw
   obtain ⟨h1,m,rfl,h⟩ :=h
   simp only [List.mem_cons] at hw
   rcases hw with rfl | rfl | hw
   ·exact Ka h1
   ·exact ⟨by decide,by decide⟩
   ·exact T5 ((E3 h).all w hw)
  ·exact Ll (K3 hw' w hw)
 | select ho hf hw' hr hm=>
  refine ⟨fun w hw=> ?_,by simp⟩
  simp only [List.mem_cons,List.mem_append] at hw
  rcases hw with rfl | hw | rfl | hw | hw | hw | hw
  ·exact ⟨by decide,by decide⟩
  ·exact Ll (Wm ho w hw)
  ·exact ⟨by decide,by decide⟩
  ·exact Ll (R8 hf w hw)
  ·exact Ll (K3 hw' w hw)
  ·exact Ll (R9 hr w hw)
  ·rcases hm with ⟨rfl,_⟩ | ⟨x,hx,rfl⟩
   ·simp at hw
   ·simp at hw
    rcases hw with rfl | rfl
    ·exact ⟨by decide,by decide⟩
    ·exact T5 (Fb _ (Qf hx))
theorem Acu {f :Nat} {acc :List Stm} :Cx f acc none= (acc,none) ∧Cx f acc (some []) = (acc,some []) :=by cases f<;>exact ⟨rfl,rfl⟩
theorem T6 : ∀f acc l az,l.length≤f→Cx f acc (some l) = (az,some []) → ∃ss,Eh f l=some ss∧az=acc++ss :=by
 intro f
 induction f with
 | zero=>intro acc l az hl h;simp at hl;subst hl;simp [Cx] at h;exact ⟨[],by simp [Eh],by simp [h]⟩
 | succ f ih=>
  intro acc l az hl h
  cases l with
  | nil=>simp [Cx] at h;exact ⟨[],by simp [Eh],by simp [h]⟩
  | cons w l=>
   rw [Cx] at h
   obtain ⟨st,s1,hs⟩ : ∃st s1,Bm (some (w ::l)) = (st,s1) := ⟨_,_,rfl⟩
   rw [hs] at h
   simp only at h
   cases h2 :Ar Cj s1 with
   | none=>rw [h2,Acu.1] at h;simp at h
   | some r=>
    rw [h2] at h
    obtain ⟨rfl,_⟩ :=Dg h2
    obtain ⟨m,hm,hg⟩ :=Sy _ _ _ hs
    simp only [Option.some.injEq] at hm
    have hlen :r.length≤f :=by
     have :=congrArg List.length hm
     simp at this hl;omega
    obtain ⟨ss,h3,h4⟩ :=ih _ _ _ hlen h
    refine ⟨st ::ss, ?_,by simpa using h4⟩
    rw [hm,Eh,if_neg (by simp),Aaq fun w hw=> ((Zh hg).1 w hw).1]
    simp only [Fg,Fh,Rv hg,h3]
    rfl
theorem Qr : ∀f acc l ss,Eh f l=some ss→Gp l∧Cx f acc (some l) = (acc++ss,some []) :=by
 intro f
 induction f with
 | zero=>
  intro acc l ss h
  unfold Eh at h
  split at h
  ·rename_i hl;subst hl;cases h;exact ⟨rfl,by simp [Cx]⟩
  ·cases h
 | succ f ih=>
  intro acc l ss h
  unfold Eh at h
  split at h
  ·rename_i hl;subst hl;cases h;exact ⟨rfl,by simp [Cx]⟩
  ·split at h
   ·rename_i k hk
    obtain ⟨m,r,rfl,rfl⟩ :=Qq hk
    rw [Fg,Fh] at h
    simp only [Option.bind_eq_some_iff,Option.map_eq_some_iff] at h
    obtain ⟨st,h1,ss',h2,rfl⟩ :=h
    have hg :=Vl h1
    obtain ⟨ho,hne⟩ :=Zh hg
    obtain ⟨h3,h4⟩ :=ih (acc++ [st]) r ss' h2
    have hc :=Pr hg r
    cases m with
    | nil=>exact absurd rfl hne
    | cons w m=>
     refine ⟨Bs (ho w (by simp)).2, ?_⟩
     rw [List.cons_append] at hc⊢
     rw [Cx,hc]
     simp only [Ev]
     rw [show adv r=some r from h3,h4]
     simp
   ·cases h
theorem Xj {l :List Wd} {ss :List Stm} (h :Ei l=some ss) :Cx (Aw (adv l)) [] (adv l) = (ss,some []) :=by
 obtain ⟨h1,h2⟩ :=Qr l.length [] l ss h
 rw [show adv l=some l from h1]
 simpa [Aw] using h2
theorem Zi {l :List Wd} (h :Ei l=none) : (Cx (Aw (adv l)) [] (adv l)).2≠some [] :=by
 intro hc
 by_cases hf :Gp l
 ·rw [show adv l=some l from hf] at hc
  obtain ⟨ss,h1,_⟩ :=T6 l.length [] l _ (Nat.le_refl _) (Prod.ext rfl hc)
  rw [show Eh l.length l=Ei l from rfl,h] at h1
  cases h1
 ·cases ha :adv l with
  | none=>rw [ha,Acu.1] at hc;simp at hc
  | some r=>
   obtain ⟨rfl,h2⟩ :=Nm ha
   exact hf h2
theorem Cf.shrinks {α :Type} {p :St→α×St} {G :List Wd→α→Prop} (h :Cf p G) (s :St) :Aw (p s).2≤Aw s :=by
 cases h2 : (p s).2 with
 | none=>simp [Aw]
 | some r=>
  obtain ⟨l,rfl,_⟩ :=h s _ r (Prod.ext rfl h2)
  simp [Aw]
theorem T7 (k :Wd) (s :St) :Aw (Ar k s) ≤Aw s - 1 :=by
 cases h :Ar k s with
 | none=>simp [Aw]
 | some r=>obtain ⟨rfl,_⟩ :=Dg h;simp [Aw]
theorem N7 {k :Wd} {s :St} (h : (Ag k s).1=true) :Aw (Ag k s).2+1≤Aw s :=by
 cases h2 : (Ag k s).2 with
 | none=>
  cases s with
  | none=>simp [Ag] at h
  | some l=>cases l with
   | nil=>simp [Ag] at h
   | cons w l=>simp [Aw]
 | some r=>obtain ⟨rfl,_⟩ :=Dl h h2;simp [Aw]
theorem Qs {ops :List (Wd×Int)} {s :St} (h : (Ao ops s).1≠0) :Aw (Ao ops s).2+1≤Aw s :=by
 induction ops with
 | nil=>simp [Ao] at h
 | cons o ops ih=>
  unfold Ao at h⊢
  split at h
  ·rename_i hs;rw [if_pos hs];exact N7 hs
  ·rename_i hs;rw [if_neg hs];exact ih h
end Go.Proofs.YtifjaegfpdjikaaGreatDoor

namespace Go.Proofs.YtifjaegfpdjikaaGreatDoor
open Go.RowKit
abbrev Mv :List UInt8 := [40,41,44,59,46,61,60,43,45,42]
def B9 (c :UInt8) :Bool := ([32,10] :List UInt8).contains c
def Bq (l :List UInt8) :Nat :=match l with
 | [] =>0
 | c ::r=>if A6 c then Ep A6 (c ::r) else if A3 c then Ep A3 (c ::r) else if Bp c then (if Lib.indexByte r 39<0 then 0 else (Lib.indexByte r 39).toNat+2) else if 0≤Lib.indexByte Mv c then 1 else 0
theorem Pt (l :List UInt8) :Bq l≤l.length :=by
 unfold Bq
 split
 ·simp
 ·rename_i c r
  split
  ·exact Rl _ _
  ·split
   ·exact Rl _ _
   ·split
    ·split
     ·simp
     ·rename_i h0
      obtain ⟨n,hn⟩ : ∃n :Nat,Lib.indexByte r 39=n := ⟨(Lib.indexByte r 39).toNat,by omega⟩
      have := (List.getElem?_eq_some_iff.1 (Lib.indexByte_some hn).1).1
      simp;omega
    ·split<;>simp
def K4 :Nat→List UInt8→List Wd
 | 0,_=> []
 | f+1,l=>if l.dropWhile B9= [] then [] else if Bq (l.dropWhile B9) =0 then [noW] else str ((l.dropWhile B9).take (Bq (l.dropWhile B9))) ::K4 f ((l.dropWhile B9).drop (Bq (l.dropWhile B9)))
def By (l :List UInt8) :List Wd :=K4 l.length l
theorem Hx (f :UInt8→Bool) (l :List UInt8) : (l.dropWhile f).length≤l.length := (List.dropWhile_suffix f).length_le
theorem Pu : ∀ (f :Nat) (l :List UInt8),l.length≤f→K4 f l=K4 l.length l
 | 0,l,h=>by simp at h;subst h;rfl
 | f+1,[],_=>by simp [K4]
 | f+1,c ::r,h=>by
  have hd :=Hx B9 (c ::r)
  rw [List.length_cons,K4,K4]
  split
  ·rfl
  ·split
   ·rfl
   ·rename_i h1 h2
    have hl : ((List.dropWhile B9 (c ::r)).drop (Bq (List.dropWhile B9 (c ::r)))).length≤r.length :=by
     simp at hd⊢;omega
    rw [Pu f _ (by simp at h;omega),Pu r.length _ hl]
theorem Ju (l :List UInt8) :By l=if l.dropWhile B9= [] then [] else if Bq (l.dropWhile B9) =0 then [noW] else str ((l.dropWhile B9).take (Bq (l.dropWhile B9))) ::By ((l.dropWhile B9).drop (Bq (l.dropWhile B9))) :=by
 cases l with
 | nil=>rfl
 | cons c r=>
  have hd :=Hx B9 (c ::r)
  conv=>lhs;rw [By,List.length_cons,K4]
  split
  ·rfl
  ·split
   ·rfl
   ·rw [Pu r.length _ (by simp at hd⊢;omega)];rfl
theorem Xk {c :UInt8} {r :List UInt8} (h :B9 c=true) :By (c ::r) =By r :=by
 rw [Ju (c ::r),Ju r,List.dropWhile_cons_of_pos h]
theorem Sa {l :List UInt8} (h : ∀c r,l=c ::r→B9 c=false) (hl :l≠ []) :By l=if Bq l=0 then [noW] else str (l.take (Bq l)) ::By (l.drop (Bq l)) :=by
 have e :l.dropWhile B9=l :=by
  cases l with
  | nil=>rfl
  | cons c r=>exact List.dropWhile_cons_of_neg (by simp [h c r rfl])
 rw [Ju,e,if_neg hl]
structure IsTok (w :Wd) :Prop where
 pos :0<w.size
 dig :fst A3 w=true→w.data.toList.all A3=true
 ltr :fst A6 w=true→w.data.toList.all A6=true
 quo :fst Bp w=true→2≤w.size
 one :fst A3 w=false→fst A6 w=false→fst Bp w=false→w.size=1
theorem Mw {f :UInt8→Bool} {c :UInt8} {r :List UInt8} {n :Nat} (h :0<n) :fst f (str ((c ::r).take n)) =f c :=by
 obtain ⟨m,rfl⟩ : ∃m,n=m+1 := ⟨n - 1,by omega⟩
 simp [fst,Fx]
theorem Qt {l :List UInt8} (h :0<Bq l) :IsTok (str (l.take (Bq l))) :=by
 have hl :=Pt l
 have hsz : (str (l.take (Bq l))).size=Bq l :=by rw [It,List.length_take];omega
 cases l with
 | nil=>simp [Bq] at h
 | cons c r=>
  refine ⟨by omega,fun hd=> ?_,fun hd=> ?_,fun hd=> ?_,fun h1 h2 h3=> ?_⟩
  ·rw [Mw h] at hd
   have hlt :A6 c=false :=by cases hx :A6 c;rfl;rw [Ja c hx] at hd;cases hd
   rw [Fx,Bq,hlt,hd]
   simp only [Bool.false_eq_true,if_false,if_true]
   exact Nl _ _
  ·rw [Mw h] at hd
   rw [Fx,Bq,hd]
   simp only [if_true]
   exact Nl _ _
  ·rw [Mw h] at hd
   have hlt :A6 c=false :=by cases hx :A6 c;rfl;rw [Jb c hx] at hd;cases hd
   have hdt :A3 c=false :=L6 c hd
   rw [hsz]
   rw [Bq,hlt,hdt,hd] at h⊢
   simp only [Bool.false_eq_true,if_false,if_true] at h⊢
   split at h
   ·omega
   ·rename_i h0;rw [if_neg h0];omega
  ·rw [Mw h] at h1 h2 h3
   rw [hsz]
   rw [Bq,h1,h2,h3] at h⊢
   simp only [Bool.false_eq_true,if_false] at h⊢
   split at h
   ·rename_i h0;rw [if_pos h0]
   ·omega
theorem Wo : ∀ (n :Nat) (l :List UInt8),l.length≤n→ ∃ws,(By l=ws∨By l=ws++ [noW]) ∧ (∀w∈ws,IsTok w) ∧ws.length≤l.length :=by
 intro n
 induction n with
 | zero=>intro l h;simp at h;subst h;exact ⟨[], .inl rfl,by simp,by simp⟩
 | succ n ih=>
  intro l h
  have hd :=Hx B9 l
  rw [Ju]
  split
  ·exact ⟨[], .inl rfl,by simp,by simp⟩
  ·split
   ·exact ⟨[], .inr rfl,by simp,by simp⟩
   ·rename_i h1 h2
    have hw :=Pt (l.dropWhile B9)
    obtain ⟨ws,h3,h4,h5⟩ :=ih ((l.dropWhile B9).drop (Bq (l.dropWhile B9))) (by simp;omega)
    refine ⟨str ((l.dropWhile B9).take (Bq (l.dropWhile B9))) ::ws, ?_, ?_, ?_⟩
    ·rcases h3 with h3 | h3<;>simp [h3]
    ·intro w hw
     rcases List.mem_cons.1 hw with rfl | hw
     ·exact Qt (by omega)
     ·exact h4 w hw
    ·simp at h5⊢;omega
end Go.Proofs.YtifjaegfpdjikaaGreatDoor

namespace Go.Proofs.YtifjaegfpdjikaaGreatDoor
open Go.RowKit
def I6 (c :Int) :Bool :=decide (97≤c) &&decide (c≤122)
def Km (c :Int) :Bool :=decide (48≤c) &&decide (c≤57)
theorem If (c :UInt8) :I6 (c.toNat :Int) =A6 c :=by simp only [I6,A6];congr 1<;>simp<;>omega
theorem Hy (c :UInt8) :Km (c.toNat :Int) =A3 c :=by simp only [Km,A3];congr 1<;>simp<;>omega
set_option maxHeartbeats 400000 in
theorem Mx (c :Int) (w :World) :Calls Tryz.prog 15 #[.int .u8 c] w fun e w'=>e= .returned (.bool (I6 c)) ∧w'=w :=by
 by_cases h1 :97≤c<;>by_cases h2 :c≤122
 all_goals
  go_enter Tryz.func15,Tryz.ntmps15
  go_wp2
  all_goals
   go_ret
   exact ⟨Ci (by simp_all [I6]),rfl⟩
theorem Nh {f :UInt8→Bool} {s :ByteArray} {k :Nat} (h :k<s.size) (h1 : (s.data.toList.take k).all f=true) (h2 :f s[k] =true) : (s.data.toList.take (k+1)).all f=true :=by
 rw [Nk s k h];simp only [List.all_append,h1,List.all_cons,h2,List.all_nil,Bool.and_self]
theorem G3 {s :ByteArray} {k :Nat} (h :k<s.size) :s.data.toList[k]? =some s[k] :=by
 rw [List.getElem?_eq_getElem (by simpa using h)];rfl
set_option maxHeartbeats 1000000 in
theorem Lm (s :ByteArray) (w :World) (hs :s.size≤maxLen) :Calls Tryz.prog 14 #[.func (.func 15) #[] #[], .string s] w fun e w'=>e= .returned (.int .i64 (Ep A6 s.data.toList :Nat)) ∧w'=w :=by
 unfold maxLen at hs
 go_enter Tryz.func14,Tryz.ntmps14
 go_wp2
 go_loop [5] (fun i=> ∃k :Nat,k≤s.size∧i= .int .i64 k∧Hid ((s.data.toList.take k).all A6=true)) (fun i=>s.size - (intOf i).toNat)
 case atStart=>exact ⟨0,Nat.zero_le _,rfl,rfl⟩
 case round=>
  obtain ⟨k,hk,rfl,HG⟩ :=hrel
  by_cases hlt :k<s.size
  ·cases hc :A6 s[k]
   ·have hc' :I6 (s[k].toNat :Int) =false :=by rw [If];exact hc
    have HE :Hid (Ep A6 s.data.toList=k) :=Iu HG.out (fun c h=>by rw [G3 hlt] at h;cases h;exact hc) (by simpa using hk)
    clear hc
    go_wp2_with (go_at_call 15;refine (Mx _ _).mono ?_;rintro e w' ⟨rfl,rfl⟩)
    go_ret
    exact ⟨Hb (by rw [HE.out]),rfl⟩
   ·have hc' :I6 (s[k].toNat :Int) =true :=by rw [If];exact hc
    have HN :Hid ((s.data.toList.take (k+1)).all A6=true) :=Nh hlt HG.out hc
    clear hc
    go_wp2_with (go_at_call 15;refine (Mx _ _).mono ?_;rintro e w' ⟨rfl,rfl⟩)
    go_round
    case rel=>exact ⟨k+1,by omega,by go_num,HN⟩
    case measure=>simp [intOf];omega
  ·have HE :Hid (Ep A6 s.data.toList=k) :=Iu HG.out (fun c h=>by rw [List.getElem?_eq_none (by simp;omega)] at h;cases h) (by simpa using hk)
   go_wp2
   go_ret
   exact ⟨Hb (by rw [HE.out]),rfl⟩
theorem An (w :Wd) (l :List UInt8) : (w.toList==l) =decide (w= ⟨l.toArray⟩) :=by
 rw [Lib.toList_data,Bool.eq_iff_iff,beq_iff_eq,decide_eq_true_eq]
 constructor
 ·intro h
  have :=congrArg List.toArray h
  cases w
  simpa using this
 ·rintro rfl;simp
theorem N8 (w :Wd) :Fs w= (w.toList== [97,110,100] || w.toList== [98,121] || w.toList== [99,114,101,97,116,101] || w.toList== [100,101,108,101,116,101] || w.toList== [100,101,115,99] || w.toList== [100,114,111,112] || w.toList== [102,114,111,109] || w.toList== [105,110,100,101,120] || w.toList== [105,110,115,101,114,116] || w.toList== [105,110,116] || w.toList== [105,110,116,111] || w.toList== [105,115] || w.toList== [108,105,109,105,116] || w.toList== [109,117,115,116] || w.toList== [110,111,116] || w.toList== [110,117,108,108] || w.toList== [111,110] || w.toList== [111,114] || w.toList== [111,114,100,101,114] || w.toList== [115,101,108,101,99,116] || w.toList== [115,101,116] || w.toList== [116,97,98,108,101] || w.toList== [116,101,120,116] || w.toList== [117,112,100,97,116,101] || w.toList== [118,97,108,117,101,115] || w.toList== [119,104,101,114,101]) :=by
 simp only [An];rfl
set_option maxHeartbeats 2000000 in
theorem T8 (s :ByteArray) (w :World) :Calls Tryz.prog 16 #[.string s] w fun e w'=>e= .returned (.bool (Fs s)) ∧w'=w :=by
 have hr :=N8 s
 generalize Fs s=b at hr⊢
 have HR :Hid _ :=hr
 clear hr
 go_enter Tryz.func16,Tryz.ntmps16
 go_wp2
 all_goals first
  | (exfalso;simp_all;done)
  | (go_ret;refine ⟨Ci ?_,rfl⟩;rw [HR.out];simp [*];done)
theorem Abz {f :UInt8→Bool} {l :List UInt8} : (decide (Ep f l=l.length)) =l.all f :=by
 rw [Bool.eq_iff_iff,decide_eq_true_eq]
 constructor
 ·intro h
  have :=Nl f l
  rw [h,List.take_length] at this
  exact this
 ·intro h
  exact Iu (by rw [List.take_length];exact h) (fun c hc=>by simp at hc) (Nat.le_refl _)
set_option maxHeartbeats 1000000 in
theorem Sb (s :ByteArray) (w :World) (hs :s.size≤maxLen) :Calls Tryz.prog 6 #[.string s] w fun e w'=>e= .returned (.bool (nm s)) ∧w'=w :=by
 have hs' :=hs
 unfold maxLen at hs'
 have hn :nm s= (decide (1≤s.size) &&decide (s.size≤8) &&decide (Ep A6 s.data.toList=s.size) && !Fs s) :=by
  rw [show decide (Ep A6 s.data.toList=s.size) =decide (Ep A6 s.data.toList=s.data.toList.length) from by rw [Bi],Abz];rfl
 generalize nm s=b at hn⊢
 have HN :Hid _ :=hn
 clear hn
 by_cases h1 :1≤s.size
 ·by_cases h2 :s.size≤8
  ·have hle :=Rl A6 s.data.toList
   rw [Bi] at hle
   by_cases h3 :Ep A6 s.data.toList=s.size
   ·have RO :=Lm s w hs
    generalize Ep A6 s.data.toList=n at RO HN h3 hle
    subst h3
    have RV :=T8 s w
    generalize Fs s=r at RV HN
    have b1 : (1 :Int) ≤ (s.size :Int) :=by omega
    have b2 : (s.size :Int) ≤8 :=by omega
    have b3 : ((s.size :Int) == (s.size :Int)) =true :=beq_self_eq_true _
    cases r
    all_goals
     go_enter Tryz.func6,Tryz.ntmps6
     go_wp2_with (first
      | (go_at_call 14;go_must (go_fit RO;rintro e w' ⟨rfl,rfl⟩))
      | (go_at_call 16;go_must (go_fit RV;rintro e w' ⟨rfl,rfl⟩)))
     go_ret
     exact ⟨Ci (by rw [HN.out];simp [h1,h2]),rfl⟩
   ·have RO :=Lm s w hs
    generalize Ep A6 s.data.toList=n at RO HN h3 hle
    have b1 : (1 :Int) ≤ (s.size :Int) :=by omega
    have b2 : (s.size :Int) ≤8 :=by omega
    have b3 : ((n :Int) == (s.size :Int)) =false :=beq_eq_false_iff_ne.2 (by omega)
    go_enter Tryz.func6,Tryz.ntmps6
    go_wp2_with (first
     | (go_at_call 14;go_must (go_fit RO;rintro e w' ⟨rfl,rfl⟩)))
    go_ret
    exact ⟨Ci (by rw [HN.out];simp [h3]),rfl⟩
  ·go_enter Tryz.func6,Tryz.ntmps6
   go_wp2_with fail
   go_ret
   exact ⟨Ci (by rw [HN.out];simp [h2]),rfl⟩
 ·go_enter Tryz.func6,Tryz.ntmps6
  go_wp2_with fail
  go_ret
  exact ⟨Ci (by rw [HN.out];simp [h1]),rfl⟩
end Go.Proofs.YtifjaegfpdjikaaGreatDoor


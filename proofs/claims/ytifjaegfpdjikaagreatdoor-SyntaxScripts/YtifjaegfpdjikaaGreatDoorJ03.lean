/-
  1 texts of this proof in one, in build order: SStmt.
-/
import Derived.Test.YtifjaegfpdjikaaGreatDoorJ02
set_option linter.unusedSimpArgs false
set_option linter.unusedVariables false
namespace Go.Proofs.YtifjaegfpdjikaaGreatDoor
def F4 (s :St) :Int×St :=if (Ag Gl s).1 then (1,(Ag Gl s).2) else (2,Ar F2 (Ag Gl s).2)
def Fi (s :St) :ColD×St := (⟨(At s).1,(F4 (At s).2).1,(Ag Ga (F4 (At s).2).2).1⟩,(Ag Ga (F4 (At s).2).2).2)
def Ki (s :St) :Stm×St := ({Bg 1 with name := (At s).1,cols := (Df Fi (At s).2).1},(Df Fi (At s).2).2)
def Kj (s :St) :Stm×St :=
 let s1 :=At s
 let s2 :=At (Ar kOn s1.2)
 let s3 :=At (Ar As s2.2)
 ({Bg 2 with name :=s1.1,table :=s2.1,col :=s3.1},Ar Aq s3.2)
def Fj (s :St) :Stm×St :=if (Ag A5 s).1 then Ki (Ag A5 s).2 else Kj (Ar B7 (Ag A5 s).2)
def J7 (s :St) :Stm×St := ({Bg 3 with name := (At (Ar A5 s)).1},(At (Ar A5 s)).2)
def L9 (s :St) :List E×St :=Df Br s
def Hc (s :St) :Stm×St :=
 let s1 :=At (Ar E6 s)
 let s2 :=A1 L9 (Ar Ct s1.2)
 ({Bg 4 with table :=s1.1,rows :=s2.1},s2.2)
def Bx (s :St) :E×St :=if (Ag Db s).1 then Br (Ag Db s).2 else (E.nil,(Ag Db s).2)
def Hd (s :St) :Stm×St :=
 let s1 :=At (Ar Az s)
 let s2 :=Bx s1.2
 ({Bg 5 with table :=s1.1,wher :=s2.1},s2.2)
def Fv (s :St) : (Wd×E) ×St :=
 let s1 :=At s
 let s2 :=Br (Ar kEq s1.2)
 ((s1.1,s2.1),s2.2)
def He (s :St) :Stm×St :=
 let s1 :=At s
 let s2 :=A1 Fv (Ar F6 s1.2)
 let s3 :=Bx s2.2
 ({Bg 6 with table :=s1.1,sets :=s2.1,wher :=s3.1},s3.2)
def Jg (s :St) :List E×St :=if (Ag A9 s).1 then ([],(Ag A9 s).2) else A1 Br (Ag A9 s).2
def Fz (s :St) : (List E×Bool) ×St :=
 if (Ag Bl s).1 then
  let s1 :=Br (Ar kBy (Ag Bl s).2)
  (([s1.1],(Ag Co s1.2).1),(Ag Co s1.2).2)
 else (([],false),(Ag Bl s).2)
def Gg (s :St) :Int×St :=if (Ag Cr s).1 then B6 (Ag Cr s).2 else (-1,(Ag Cr s).2)
def Ff (s :St) :Stm×St :=
 let s1 :=Jg s
 let s2 :=A1 At (Ar Az s1.2)
 let s3 :=Bx s2.2
 let s4 :=Fz s3.2
 let s5 :=Gg s4.2
 ({Bg 7 with out :=s1.1,frm :=s2.1,wher :=s3.1,order :=s4.1.1,down :=s4.1.2,n :=s5.1},s5.2)
def Bm (s :St) :Stm×St :=
 if (Ag Au s).1 then Fj (Ag Au s).2
 else if (Ag Cg s).1 then J7 (Ag Cg s).2
 else if (Ag Bv s).1 then Hc (Ag Bv s).2
 else if (Ag Cb s).1 then Hd (Ag Cb s).2
 else if (Ag Cc s).1 then He (Ag Cc s).2
 else if (Ag Ck s).1 then Ff (Ag Ck s).2
 else (Stm.nil,none)
def Cx :Nat→List Stm→St→List Stm×St
 | 0,acc,s=> (acc,s)
 | f+1,acc,s=>match s with
  | some (w ::l) =>Cx f (acc++ [(Bm (some (w ::l))).1]) (Ar Cj (Bm (some (w ::l))).2)
  | s=> (acc,s)
inductive ListG {α :Type} (P :List Wd→α→Prop) :List Wd→List α→Prop
 | one {l a} :P l a→ListG P l [a]
 | more {l a m az} :P l a→ListG P m az→ListG P (l++Av ::m) (a ::az)
def Ny (l :List Wd) (c :ColD) :Prop :=nm c.name=true∧ ∃t,(t=Gl∧c.ty=1∨t=F2∧c.ty=2) ∧l=c.name ::t :: (if c.must then [Ga] else [])
def BrG {α :Type} (P :List Wd→List α→Prop) (l :List Wd) (az :List α) :Prop := ∃m,l=As :: (m++ [Aq]) ∧P m az
abbrev Pn :List Wd→List E→Prop :=BrG (ListG F3)
def In (l :List Wd) (e :E) :Prop :=l= [] ∧e=E.nil∨ ∃m,l=Db ::m∧F3 m e
def Po (l :List Wd) (c :Wd×E) :Prop :=nm c.1=true∧ ∃m,l=c.1 ::kEq ::m∧F3 m c.2
def Ly (l :List Wd) (a :Wd) :Prop :=nm a=true∧l= [a]
def Rr (l :List Wd) (es :List E) :Prop :=l= [A9] ∧es= [] ∨ListG F3 l es
def Li (l :List Wd) (o :List E×Bool) :Prop :=l= [] ∧o= ([],false) ∨ ∃m e,F3 m e∧o.1= [e] ∧l=Bl ::kBy :: (m++if o.2 then [Co] else [])
def Mk (l :List Wd) (n :Int) :Prop :=l= [] ∧n= -1∨ ∃w,Cs w=some n∧l= [Cr,w]
inductive StmG :List Wd→Stm→Prop
 | table {n cs l} :nm n=true→ListG Ny l cs→StmG (Au ::A5 ::n ::As :: (l++ [Aq])) {Bg 1 with name :=n,cols :=cs}
 | index {a b c} :nm a=true→nm b=true→nm c=true→StmG [Au,B7,a,kOn,b,As,c,Aq] {Bg 2 with name :=a,table :=b,col :=c}
 | drop {n} :nm n=true→StmG [Cg,A5,n] {Bg 3 with name :=n}
 | insert {t l rs} :nm t=true→ListG Pn l rs→StmG (Bv ::E6 ::t ::Ct ::l) {Bg 4 with table :=t,rows :=rs}
 | delete {t w e} :nm t=true→In w e→StmG (Cb ::Az ::t ::w) {Bg 5 with table :=t,wher :=e}
 | update {t l ss w e} :nm t=true→ListG Po l ss→In w e→StmG (Cc ::t ::F6 :: (l++w)) {Bg 6 with table :=t,sets :=ss,wher :=e}
 | select {o os f fs w e r es m n} :Rr o os→ListG Ly f fs→In w e→Li r es→Mk m n→StmG (Ck :: (o++Az :: (f++ (w++ (r++m))))) {Bg 7 with out :=os,frm :=fs,wher :=e,order :=es.1,down :=es.2,n :=n}
theorem Jh :Cf Br F3 := (I4 5).1
theorem F8 :Bw Br F3 J3 := (I4 5).2.2.1
theorem R6 {α :Type} (one :St→α×St) (f :Nat) (acc :List α) :Dm one f acc none= (acc,none) :=by
 cases f<;>simp [Dm,Yy]
theorem Xd {α :Type} {one :St→α×St} {P :List Wd→α→Prop} (hp :Cf one P) : ∀f acc s az r,Dm one f acc s= (az,some r) → (s=some r∧az=acc) ∨ ∃l bs,s=some (Av :: (l++r)) ∧ListG P l bs∧az=acc++bs :=by
 intro f
 induction f with
 | zero=>intro acc s az r h;simp [Dm] at h;exact .inl ⟨h.2,h.1.symm⟩
 | succ f ih=>
  intro acc s az r h
  unfold Dm at h
  split at h
  ·rename_i h0
   obtain ⟨b,s2,hb⟩ : ∃b s2,one (Ag Av s).2= (b,s2) := ⟨_,_,rfl⟩
   rw [hb] at h
   simp only at h
   cases s2 with
   | none=>rw [R6] at h;simp at h
   | some r2=>
    obtain ⟨m,h1,hm⟩ :=hp _ _ _ hb
    obtain ⟨rfl,_⟩ :=Dl h0 h1
    rcases ih _ _ _ _ h with ⟨h2,h3⟩ | ⟨l,bs,h2,h3,h4⟩
    ·simp at h2;subst h2
     exact .inr ⟨m,[b],rfl, .one hm,h3⟩
    ·simp at h2;subst h2
     exact .inr ⟨m++Av ::l,b ::bs,by simp, .more hm h3,by simpa using h4⟩
  ·rename_i h0
   rw [Cm (by simpa using h0)] at h
   simp at h;exact .inl ⟨h.2,h.1.symm⟩
theorem Ji {α :Type} {one :St→α×St} {P :List Wd→α→Prop} (hp :Cf one P) :Cf (A1 one) (ListG P) :=by
 intro s az r h
 unfold A1 at h
 obtain ⟨b,s2,hb⟩ : ∃b s2,one s= (b,s2) := ⟨_,_,rfl⟩
 rw [hb] at h
 simp only at h
 cases s2 with
 | none=>rw [R6] at h;simp at h
 | some r2=>
  obtain ⟨m,rfl,hm⟩ :=hp _ _ _ hb
  rcases Xd hp _ _ _ _ _ h with ⟨h2,h3⟩ | ⟨l,bs,h2,h3,h4⟩
  ·simp at h2;subst h2;subst h3
   exact ⟨m,rfl, .one hm⟩
  ·simp at h2;subst h2
   exact ⟨m++Av ::l,by simp,by rw [h4];exact .more hm h3⟩
theorem Ml {α :Type} {one :St→α×St} {P :List Wd→α→Prop} (hp :Cf one P) :Cf (Df one) (BrG (ListG P)) :=by
 intro s az r h
 simp only [Df,Prod.mk.injEq] at h
 obtain ⟨h1,_⟩ :=Dg h.2
 obtain ⟨l,h2,h3⟩ :=Ji hp _ _ _ (Prod.ext h.1 h1)
 obtain ⟨rfl,_⟩ :=Dg h2
 exact ⟨As :: (l++ [Aq]),by simp,l,rfl,h3⟩
theorem Sw {α :Type} {one :St→α×St} {P :List Wd→α→Prop} {F :List Wd} (hp :Bw one P F) (hF : ∀k∈F,Av≠k) {l :List Wd} {bs :List α} (h :ListG P l bs) :
  ∀r,Gp r→Gd (Av ::F) r→ ∀f acc,l.length<f→Dm one f acc (some (Av :: (l++r))) = (acc++bs,some r) :=by
 induction h with
 | one h=>
  intro r hr hn f acc hf
  obtain ⟨h1,h2,h3⟩ :=hp _ _ r h hr (hn.sub fun k hk=>by simp [hk])
  match f,hf with
  | f+1,hf=>
   rw [Dm,Cn]
   simp only [if_true]
   rw [show adv _=_ from h2,h1]
   simp only
   cases f with
   | zero=>rfl
   | succ f=>simp [Dm,Gq (hn.ne (k :=Av) (by simp))]
 | more hl hm ih=>
  intro r hr hn f acc hf
  rename_i l a m az
  obtain ⟨h1,h2,h3⟩ :=hp l a (Av :: (m++r)) hl (Bs (by decide)) (Ea hF)
  match f,hf with
  | f+1,hf=>
   rw [Dm,Cn]
   simp only [if_true]
   rw [show (l++Av ::m) ++r=l++Av :: (m++r) from by simp,show adv _=_ from h2,h1]
   simp only
   rw [ih r hr hn f _ (by simp at hf;omega)]
   simp
theorem G8 {α :Type} {one :St→α×St} {P :List Wd→α→Prop} {F :List Wd} (hp :Bw one P F) (hF : ∀k∈F,Av≠k) :Bw (A1 one) (ListG P) (Av ::F) :=by
 intro l az r h hr hn
 cases h with
 | one h=>
  rename_i a
  obtain ⟨h1,h2,h3⟩ :=hp _ _ r h hr (hn.sub fun k hk=>by simp [hk])
  refine ⟨?_,h2,h3⟩
  rw [A1,h1]
  simp only
  cases r with
  | nil=>rfl
  | cons x r=>simp [Aw,Dm,Gq (hn.ne (k :=Av) (by simp))]
 | more hl hm=>
  rename_i l a m az
  obtain ⟨h1,h2,h3⟩ :=hp l a (Av :: (m++r)) hl (Bs (by decide)) (Ea hF)
  rw [show (l++Av ::m) ++r=l++Av :: (m++r) from by simp]
  refine ⟨?_,h2,by simp⟩
  rw [A1,h1]
  simp only
  rw [Sw hp hF hm r hr hn _ _ (by simp [Aw];omega)]
  simp
theorem Kv {α :Type} {one :St→α×St} {P :List Wd→α→Prop} {F :List Wd} (hp :Bw one P F) (hF : ∀k∈F,Av≠k∧Aq≠k) :Bw (Df one) (BrG (ListG P)) [] :=by
 rintro l az r ⟨m,rfl,h⟩ hr _
 obtain ⟨h1,h2,h3⟩ :=G8 hp (fun k hk=> (hF k hk).1) m az (Aq ::r) h (Bs (by decide)) (Ea fun k hk=>by
  rcases List.mem_cons.1 hk with rfl | hk
  ·decide
  ·exact (hF k hk).2)
 refine ⟨?_,Bs (by decide),by simp⟩
 rw [show As :: (m++ [Aq]) ++r=As :: (m++Aq ::r) from by simp]
 simp [Df,Ev,show adv _=_ from h2,h1,show adv r=some r from hr]
theorem Xe :Cf At Ly :=by
 intro s a r h
 obtain ⟨rfl,h1,_⟩ :=Eg h
 exact ⟨[a],rfl,h1,rfl⟩
theorem Sx :Bw At Ly [] :=by
 rintro l a r ⟨h,rfl⟩ hr _
 exact ⟨by simp [Ed h,show adv r=some r from hr],Bs (Fy h),by simp⟩
theorem Qh (k :Wd) (s :St) (r :List Wd) (h : (Ag k s).2=some r) : (Ag k s).1=true∧s=some (k ::r) ∧Gp r∨ (Ag k s).1=false∧s=some r :=by
 cases hb : (Ag k s).1
 ·rw [Cm hb] at h;exact .inr ⟨rfl,h⟩
 ·obtain ⟨h1,h2⟩ :=Dl hb h;exact .inl ⟨rfl,h1,h2⟩
theorem Ve {s :St} {t :Int} {r :List Wd} (h :F4 s= (t,some r)) : ∃w,s=some (w ::r) ∧ (w=Gl∧t=1∨w=F2∧t=2) :=by
 unfold F4 at h
 split at h
 ·rename_i h0
  simp at h
  obtain ⟨rfl,_⟩ :=Dl h0 h.2
  exact ⟨Gl,rfl, .inl ⟨rfl,h.1.symm⟩⟩
 ·rename_i h0
  rw [Cm (by simpa using h0)] at h
  simp at h
  obtain ⟨rfl,_⟩ :=Dg h.2
  exact ⟨F2,rfl, .inr ⟨rfl,h.1.symm⟩⟩
theorem Tr :Cf Fi Ny :=by
 intro s c r h
 simp only [Fi,Prod.mk.injEq] at h
 obtain ⟨rfl,h⟩ :=h
 rcases Qh _ _ _ h with ⟨h1,h2,_⟩ | ⟨h1,h2⟩
 all_goals
  obtain ⟨w,h3,h4⟩ :=Ve (Prod.ext rfl h2)
  obtain ⟨h5,h6,_⟩ :=Eg (Prod.ext rfl h3)
 ·exact ⟨[_,w,Ga],h5,h6,w,h4,by simp [h1]⟩
 ·exact ⟨[_,w],h5,h6,w,h4,by simp [h1]⟩
theorem Qi :Bw Fi Ny [Ga] :=by
 rintro l ⟨n,t,m⟩ r ⟨h1,w,h2,rfl⟩ hr hn
 simp only at h1 h2
 refine ⟨?_,Bs (Fy h1),by simp⟩
 have hw :0<w.size :=by rcases h2 with ⟨rfl,_⟩ | ⟨rfl,_⟩ <;>decide
 have ht : ∀x,Gp x→F4 (some (w ::x)) = (t,some x) :=by
  intro x hx
  rcases h2 with ⟨rfl,rfl⟩ | ⟨rfl,rfl⟩
  ·simp [F4,Cn,show adv x=some x from hx]
  ·simp [F4,Dx (k :=Gl) (w :=F2) (by decide),Ev,show adv x=some x from hx]
 cases m
 ·simp [Fi,Ed h1,B0 hw,ht r hr,Gq (hn.ne (k :=Ga) (by simp))]
 ·simp [Fi,Ed h1,B0 hw,ht (Ga ::r) (Bs (by decide)),Cn,show adv r=some r from hr]
theorem Lj :Cf Bx In :=by
 intro s e r h
 unfold Bx at h
 split at h
 ·rename_i h0
  obtain ⟨l,h1,h2⟩ :=Jh _ _ _ h
  obtain ⟨rfl,_⟩ :=Dl h0 h1
  exact ⟨Db ::l,by simp, .inr ⟨l,rfl,h2⟩⟩
 ·rename_i h0
  rw [Cm (by simpa using h0)] at h
  simp at h
  exact ⟨[],h.2, .inl ⟨rfl,h.1.symm⟩⟩
def Nz {α :Type} (p :St→α×St) (G :List Wd→α→Prop) (F :List Wd) :Prop := ∀l a r,G l a→Gp r→Gd F r→p (some (l++r)) = (a,some r) ∧Gp (l++r)
theorem Js :Nz Bx In (Db ::J3) :=by
 rintro l e r (⟨rfl,rfl⟩ | ⟨m,rfl,h⟩) hr hn
 ·exact ⟨by simp [Bx,Gq (hn.ne (k :=Db) (by simp))],hr⟩
 ·obtain ⟨h1,h2,_⟩ :=F8 m e r h hr (hn.sub fun k hk=>by simp at hk⊢;exact .inr hk)
  exact ⟨by simp [Bx,Cn,show adv _=_ from h2,h1],Bs (by decide)⟩
theorem Ts :Cf Fv Po :=by
 intro s c r h
 simp only [Fv,Prod.mk.injEq] at h
 obtain ⟨rfl,h⟩ :=h
 obtain ⟨l,h1,h2⟩ :=Jh _ _ _ (Prod.ext rfl h)
 obtain ⟨h3,_⟩ :=Dg h1
 obtain ⟨h4,h5,_⟩ :=Eg (Prod.ext rfl h3)
 exact ⟨_ ::kEq ::l,h4,h5,l,rfl,h2⟩
theorem Qj :Bw Fv Po J3 :=by
 rintro l ⟨c,e⟩ r ⟨h1,m,rfl,h⟩ hr hn
 simp only at h1 h
 obtain ⟨h2,h3,_⟩ :=F8 m e r h hr hn
 exact ⟨by simp [Fv,Ed h1,B0 (w :=kEq) (l :=m++r) (by decide),Ev,show adv _=_ from h3,h2],Bs (Fy h1),by simp⟩
theorem Zb :Cf Jg Rr :=by
 intro s e r h
 unfold Jg at h
 split at h
 ·rename_i h0
  simp at h
  obtain ⟨rfl,_⟩ :=Dl h0 h.2
  exact ⟨[A9],rfl, .inl ⟨rfl,h.1⟩⟩
 ·rename_i h0
  rw [Cm (by simpa using h0)] at h
  obtain ⟨l,h1,h2⟩ :=Ji Jh _ _ _ h
  exact ⟨l,h1, .inr h2⟩
theorem Ow :Bw (A1 Br) (ListG F3) (Av ::J3) :=G8 F8 (by decide)
theorem Qk {l :List Wd} {e :E} (h :F3 l e) : ∃w m,l=w ::m∧Iv w=true :=by
 cases l with
 | nil=>exact absurd rfl (Ks h)
 | cons w m=>exact ⟨w,m,rfl,(E3 h).all w (by simp)⟩
theorem Ql {l :List Wd} {es :List E} (h :ListG F3 l es) : ∃w m,l=w ::m∧Iv w=true :=by
 cases h with
 | one h=>exact Qk h
 | more h _=>obtain ⟨w,m,rfl,hw⟩ :=Qk h;exact ⟨w,_,rfl,hw⟩
theorem Tt :Bw Jg Rr (Av ::J3) :=by
 rintro l e r (⟨rfl,rfl⟩ | h) hr hn
 ·exact ⟨by simp [Jg,Cn,show adv r=some r from hr],Bs (by decide),by simp⟩
 ·obtain ⟨h1,h2,h3⟩ :=Ow l e r h hr hn
  obtain ⟨w,m,rfl,hw⟩ :=Ql h
  refine ⟨?_,h2,h3⟩
  rw [Jg,show w ::m++r=w :: (m++r) from rfl,Dx (k :=A9) (Fo hw (by decide))]
  simpa using h1
theorem Vf :Cf Fz Li :=by
 intro s o r h
 unfold Fz at h
 split at h
 ·rename_i h0
  simp only [Prod.mk.injEq] at h
  obtain ⟨rfl,h⟩ :=h
  rcases Qh _ _ _ h with ⟨h1,h2,_⟩ | ⟨h1,h2⟩
  all_goals
   obtain ⟨l,h3,h4⟩ :=Jh _ _ _ (Prod.ext rfl h2)
   obtain ⟨h5,_⟩ :=Dg h3
   obtain ⟨rfl,_⟩ :=Dl h0 h5
  ·exact ⟨Bl ::kBy :: (l++ [Co]),by simp, .inr ⟨l,_,h4,rfl,by simp [h1]⟩⟩
  ·exact ⟨Bl ::kBy ::l,by simp, .inr ⟨l,_,h4,rfl,by simp [h1]⟩⟩
 ·rename_i h0
  rw [Cm (by simpa using h0)] at h
  simp at h
  exact ⟨[],h.2, .inl ⟨rfl,h.1.symm⟩⟩
theorem Rs :Nz Fz Li (Bl ::Co ::J3) :=by
 rintro l o r (⟨rfl,rfl⟩ | ⟨m,e,h,ho,rfl⟩) hr hn
 ·exact ⟨by simp [Fz,Gq (hn.ne (k :=Bl) (by simp))],hr⟩
 ·obtain ⟨os,dn⟩ :=o
  simp only at ho;subst ho
  refine ⟨?_,Bs (by decide)⟩
  cases dn
  ·obtain ⟨h1,h2,_⟩ :=F8 m e r h hr (hn.sub fun k hk=>by simp at hk⊢;exact .inr (.inr hk))
   simp [Fz,Cn,Ev,B0 (w :=kBy) (l :=m++r) (by decide),show adv _=_ from h2,h1,Gq (hn.ne (k :=Co) (by simp))]
  ·obtain ⟨h1,h2,_⟩ :=F8 m e (Co ::r) h (Bs (by decide)) (Ea (by decide))
   simp [Fz,Cn,Ev,B0 (w :=kBy) (l :=m++Co ::r) (by decide),show adv _=_ from h2,h1,show adv r=some r from hr]
theorem Vg :Cf Gg Mk :=by
 intro s n r h
 unfold Gg at h
 split at h
 ·rename_i h0
  obtain ⟨w,h1,h2,_⟩ :=L7 h
  obtain ⟨rfl,_⟩ :=Dl h0 h1
  exact ⟨[Cr,w],rfl, .inr ⟨w,h2,rfl⟩⟩
 ·rename_i h0
  rw [Cm (by simpa using h0)] at h
  simp at h
  exact ⟨[],h.2, .inl ⟨rfl,h.1.symm⟩⟩
theorem Rt :Nz Gg Mk [Cr] :=by
 rintro l n r (⟨rfl,rfl⟩ | ⟨w,h,rfl⟩) hr hn
 ·exact ⟨by simp [Gg,Gq (hn.ne (k :=Cr) (by simp))],hr⟩
 ·exact ⟨by simp [Gg,Cn,B0 (Rm h),Ky h,show adv r=some r from hr],Bs (by decide)⟩
theorem Vh :Cf Ki fun l st=>StmG (Au ::A5 ::l) st :=by
 intro s st r h
 simp only [Ki,Prod.mk.injEq] at h
 obtain ⟨rfl,h⟩ :=h
 obtain ⟨l,h2,m,rfl,h3⟩ :=Ml Tr _ _ _ (Prod.ext rfl h)
 obtain ⟨h4,h5,_⟩ :=Eg (Prod.ext rfl h2)
 exact ⟨_ ::As :: (m++ [Aq]),h4, .table h5 h3⟩
theorem Vi :Cf Kj fun l st=>StmG (Au ::B7 ::l) st :=by
 intro s st r h
 simp only [Kj,Prod.mk.injEq] at h
 obtain ⟨rfl,h⟩ :=h
 obtain ⟨h2,_⟩ :=Dg h
 obtain ⟨h3,n3,_⟩ :=Eg (Prod.ext rfl h2)
 obtain ⟨h4,_⟩ :=Dg h3
 obtain ⟨h5,n5,_⟩ :=Eg (Prod.ext rfl h4)
 obtain ⟨h6,_⟩ :=Dg h5
 obtain ⟨h7,n7,_⟩ :=Eg (Prod.ext rfl h6)
 exact ⟨[_,_,_,_,_,_],h7, .index n7 n5 n3⟩
theorem Tu :Cf Fj fun l st=>StmG (Au ::l) st :=by
 intro s st r h
 unfold Fj at h
 split at h
 ·rename_i h1
  obtain ⟨l,h2,h3⟩ :=Vh _ _ _ h
  obtain ⟨h4,_⟩ :=Dl h1 h2
  exact ⟨A5 ::l,h4,h3⟩
 ·rename_i h1
  rw [Cm (by simpa using h1)] at h
  obtain ⟨l,h2,h3⟩ :=Vi _ _ _ h
  obtain ⟨h4,_⟩ :=Dg h2
  exact ⟨B7 ::l,h4,h3⟩
theorem Xf :Cf J7 fun l st=>StmG (Cg ::l) st :=by
 intro s st r h
 simp only [J7,Prod.mk.injEq] at h
 obtain ⟨rfl,h⟩ :=h
 obtain ⟨h1,h2,_⟩ :=Eg (Prod.ext rfl h)
 obtain ⟨h3,_⟩ :=Dg h1
 exact ⟨[_,_],h3, .drop h2⟩
theorem Zc :Cf L9 Pn :=Ml Jh
theorem Tv :Cf Hc fun l st=>StmG (Bv ::l) st :=by
 intro s st r h
 simp only [Hc,Prod.mk.injEq] at h
 obtain ⟨rfl,h⟩ :=h
 obtain ⟨l,h1,h2⟩ :=Ji Zc _ _ _ (Prod.ext rfl h)
 obtain ⟨h3,_⟩ :=Dg h1
 obtain ⟨h4,h5,_⟩ :=Eg (Prod.ext rfl h3)
 obtain ⟨h6,_⟩ :=Dg h4
 exact ⟨E6 ::_ ::Ct ::l,h6, .insert h5 h2⟩
theorem Tw :Cf Hd fun l st=>StmG (Cb ::l) st :=by
 intro s st r h
 simp only [Hd,Prod.mk.injEq] at h
 obtain ⟨rfl,h⟩ :=h
 obtain ⟨l,h1,h2⟩ :=Lj _ _ _ (Prod.ext rfl h)
 obtain ⟨h4,h5,_⟩ :=Eg (Prod.ext rfl h1)
 obtain ⟨h6,_⟩ :=Dg h4
 exact ⟨Az ::_ ::l,h6, .delete h5 h2⟩
theorem Tx :Cf He fun l st=>StmG (Cc ::l) st :=by
 intro s st r h
 simp only [He,Prod.mk.injEq] at h
 obtain ⟨rfl,h⟩ :=h
 obtain ⟨l,h1,h2⟩ :=Lj _ _ _ (Prod.ext rfl h)
 obtain ⟨m,h3,h4⟩ :=Ji Ts _ _ _ (Prod.ext rfl h1)
 obtain ⟨h5,_⟩ :=Dg h3
 obtain ⟨h6,h7,_⟩ :=Eg (Prod.ext rfl h5)
 exact ⟨_ ::F6 :: (m++l),h6.trans (by simp), .update h7 h4 h2⟩
theorem Vj :Cf Ff fun l st=>StmG (Ck ::l) st :=by
 intro s st r h
 simp only [Ff,Prod.mk.injEq] at h
 obtain ⟨rfl,h⟩ :=h
 obtain ⟨l5,h1,g1⟩ :=Vg _ _ _ (Prod.ext rfl h)
 obtain ⟨l4,h2,g2⟩ :=Vf _ _ _ (Prod.ext rfl h1)
 obtain ⟨l3,h3,g3⟩ :=Lj _ _ _ (Prod.ext rfl h2)
 obtain ⟨l2,h4,g4⟩ :=Ji Xe _ _ _ (Prod.ext rfl h3)
 obtain ⟨h5,_⟩ :=Dg h4
 obtain ⟨l1,h6,g6⟩ :=Zb _ _ _ (Prod.ext rfl h5)
 exact ⟨l1++Az :: (l2++ (l3++ (l4++l5))),by rw [h6];simp, .select g6 g4 g3 g2 g1⟩
theorem Sy :Cf Bm StmG :=by
 intro s st r h
 have key : ∀ {k :Wd} {p :St→Stm×St},(Ag k s).1=true→Cf p (fun l st=>StmG (k ::l) st) →p (Ag k s).2= (st,some r) → ∃l,s=some (l++r) ∧StmG l st :=by
  intro k p h0 hp h
  obtain ⟨l,h1,h2⟩ :=hp _ _ _ h
  obtain ⟨h3,_⟩ :=Dl h0 h1
  exact ⟨k ::l,h3,h2⟩
 unfold Bm at h
 split at h
 ·rename_i h0;exact key h0 Tu h
 ·split at h
  ·rename_i h0;exact key h0 Xf h
  ·split at h
   ·rename_i h0;exact key h0 Tv h
   ·split at h
    ·rename_i h0;exact key h0 Tw h
    ·split at h
     ·rename_i h0;exact key h0 Tx h
     ·split at h
      ·rename_i h0;exact key h0 Vj h
      ·simp at h
theorem Ty :Bw L9 Pn [] :=Kv F8 (by decide)
theorem Sz :Bw (A1 L9) (ListG Pn) [Av] :=G8 Ty (by simp)
theorem Ru :Bw (A1 At) (ListG Ly) [Av] :=G8 Sx (by simp)
theorem Pp :Bw (A1 Fv) (ListG Po) (Av ::J3) :=G8 Qj (by decide)
theorem Pq :Bw (Df Fi) (BrG (ListG Ny)) [] :=Kv Qi (by decide)
theorem Qm {l :List Wd} {e :E} (h :In l e) {F r :List Wd} (hr :Gd F r) (hk : ∀k∈F,Db≠k) :Gd F (l++r) :=by
 rcases h with ⟨rfl,_⟩ | ⟨m,rfl,_⟩
 ·exact hr
 ·exact Ea hk
theorem Qn {l :List Wd} {o :List E×Bool} (h :Li l o) {F r :List Wd} (hr :Gd F r) (hk : ∀k∈F,Bl≠k) :Gd F (l++r) :=by
 rcases h with ⟨rfl,_⟩ | ⟨m,e,_,_,rfl⟩
 ·exact hr
 ·exact Ea hk
theorem Mt {l :List Wd} {n :Int} (h :Mk l n) {F r :List Wd} (hr :Gd F r) (hk : ∀k∈F,Cr≠k) :Gd F (l++r) :=by
 rcases h with ⟨rfl,_⟩ | ⟨w,_,rfl⟩
 ·exact hr
 ·exact Ea hk
theorem Pr {l :List Wd} {st :Stm} (h :StmG l st) (r :List Wd) :Bm (some (l++Cj ::r)) = (st,some (Cj ::r)) :=by
 have fr :Gp (Cj ::r) :=Bs (by decide)
 have nr : ∀ {F :List Wd},(∀k∈F,Cj≠k) →Gd F (Cj ::r) :=fun h=>Ea h
 have no : ∀ {k w :Wd} {l :List Wd},w≠k→Ag k (some (w ::l)) = (false,some (w ::l)) :=fun h=>Dx h
 cases h with
 | table hn hl=>
  rename_i n cs l
  obtain ⟨h1,h2,_⟩ :=Pq _ cs (Cj ::r) ⟨l,rfl,hl⟩ fr (nr (by simp))
  have e0 :Au ::A5 ::n ::As :: (l++ [Aq]) ++Cj ::r=Au ::A5 ::n :: (As :: (l++ [Aq]) ++Cj ::r) :=rfl
  rw [e0]
  simp only [Bm,Fj,Ki,Cn,B0 (w :=A5) (by decide),B0 (Fy hn),Ed hn,show adv _=_ from h2,h1,if_true]
 | index ha hb hc=>
  simp only [List.cons_append,List.nil_append,Bm,Fj,Kj,Cn,B0 (w :=B7) (by decide),no (k :=A5) (w :=B7) (by decide),Ev,B0 (Fy ha),Ed ha,B0 (w :=kOn) (by decide),B0 (Fy hb),Ed hb,B0 (w :=As) (by decide),B0 (Fy hc),Ed hc,B0 (w :=Aq) (by decide),show adv _=_ from fr,if_true]
  simp
 | drop hn=>
  simp only [List.cons_append,List.nil_append,Bm,J7,no (k :=Au) (w :=Cg) (by decide),Cn,B0 (w :=A5) (by decide),Ev,B0 (Fy hn),Ed hn,show adv _=_ from fr]
  simp
 | insert hn hl=>
  rename_i t l rs
  obtain ⟨h1,h2,_⟩ :=Sz l rs (Cj ::r) hl fr (nr (by decide))
  simp only [List.cons_append,Bm,Hc,no (k :=Au) (w :=Bv) (by decide),no (k :=Cg) (w :=Bv) (by decide),Cn,B0 (w :=E6) (by decide),Ev,B0 (Fy hn),Ed hn,B0 (w :=Ct) (by decide),show adv _=_ from h2,h1]
  simp
 | delete hn hw=>
  rename_i t w e
  obtain ⟨h1,h2⟩ :=Js w e (Cj ::r) hw fr (nr (by decide))
  simp only [List.cons_append,Bm,Hd,no (k :=Au) (w :=Cb) (by decide),no (k :=Cg) (w :=Cb) (by decide),no (k :=Bv) (w :=Cb) (by decide),Cn,B0 (w :=Az) (by decide),Ev,B0 (Fy hn),Ed hn,show adv _=_ from h2,h1]
  simp
 | update hn hl hw=>
  rename_i t l ss w e
  obtain ⟨h1,h2⟩ :=Js w e (Cj ::r) hw fr (nr (by decide))
  obtain ⟨h3,h4,_⟩ :=Pp l ss (w++Cj ::r) hl h2 (Qm hw (nr (by decide)) (by decide))
  have e0 :Cc ::t ::F6 :: (l++w) ++Cj ::r=Cc ::t ::F6 :: (l++ (w++Cj ::r)) :=by simp
  rw [e0]
  simp only [Bm,He,no (k :=Au) (w :=Cc) (by decide),no (k :=Cg) (w :=Cc) (by decide),no (k :=Bv) (w :=Cc) (by decide),no (k :=Cb) (w :=Cc) (by decide),Cn,Ev,B0 (Fy hn),Ed hn,B0 (w :=F6) (by decide),show adv _=_ from h4,h3,h1]
  simp
 | select ho hf hw hr hm=>
  rename_i o os f fs w e rr es m n
  obtain ⟨h1,f1⟩ :=Rt m n (Cj ::r) hm fr (nr (by decide))
  obtain ⟨h2,f2⟩ :=Rs rr es _ hr f1 (Mt hm (nr (by decide)) (by decide))
  obtain ⟨h3,f3⟩ :=Js w e _ hw f2 (Qn hr (Mt hm (nr (by decide)) (by decide)) (by decide))
  obtain ⟨h4,f4,_⟩ :=Ru f fs _ hf f3 (Qm hw (Qn hr (Mt hm (nr (by decide)) (by decide)) (by decide)) (by decide))
  obtain ⟨h5,f5,_⟩ :=Tt o os (Az :: (f++ (w++ (rr++ (m++Cj ::r))))) ho (Bs (by decide)) (Ea (by decide))
  have e0 :Ck :: (o++Az :: (f++ (w++ (rr++m)))) ++Cj ::r=Ck :: (o++Az :: (f++ (w++ (rr++ (m++Cj ::r))))) :=by simp
  rw [e0]
  simp only [Bm,Ff,no (k :=Au) (w :=Ck) (by decide),no (k :=Cg) (w :=Ck) (by decide),no (k :=Bv) (w :=Ck) (by decide),no (k :=Cb) (w :=Ck) (by decide),no (k :=Cc) (w :=Ck) (by decide),Cn,Ev,show adv _=_ from f5,h5,show adv _=_ from f4,h4,h3,h2,h1]
  simp
end Go.Proofs.YtifjaegfpdjikaaGreatDoor


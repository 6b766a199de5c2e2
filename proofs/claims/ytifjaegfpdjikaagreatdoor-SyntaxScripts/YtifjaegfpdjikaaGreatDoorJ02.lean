/-
  2 texts of this proof in one, in build order: SRef, StmPlain.
-/
import Derived.Test.YtifjaegfpdjikaaGreatDoorJ01
set_option linter.unusedSimpArgs false
set_option linter.unusedVariables false
namespace Go.Proofs.YtifjaegfpdjikaaGreatDoor
def Cp (d :Int) (w :Wd) :Int :=if w=As then d+1 else if w=Aq then d - 1 else d
def B1 (X :List Wd) :Int→Nat→List Wd→Option (Nat×Nat)
 | _,_,[] =>none
 | d,i,w ::l=>match (if d=0 then X.findIdx? (fun x=>decide (w=x)) else none) with
  | some k=>some (i,k)
  | none=>B1 X (Cp d w) (i+1) l
def inX (X :List Wd) (w :Wd) :Bool :=X.any fun x=>decide (w=x)
theorem Ad0 {X :List Wd} {w :Wd} :inX X w=true↔w∈X :=by simp [inX]
def Cu (X :List Wd) :Int→Nat→Option Nat→List Wd→Option Nat
 | _,_,p,[] =>p
 | d,i,p,w ::l=>Cu X (Cp d w) (i+1) (if d=0∧inX X w=true then some i else p) l
def G0 (q :Option Wd) :Bool :=match q with | none=>false | some w=> !(decide (w=Ef) || decide (w=Bd))
def B8 :Int→Nat→Option Nat→Option Wd→List Wd→Option Nat
 | _,_,p,_,[] =>p
 | d,i,p,q,w ::l=>B8 (Cp d w) (i+1) (if (w=Ef∨w=Bd) ∧d=0∧G0 q=true then some i else p) (some w) l
def Dr :Nat→List Wd→List (List Wd)
 | 0,l=> [l]
 | f+1,l=>match B1 [Av] 0 0 l with | some (i,_) =>l.take i ::Dr f (l.drop (i+1)) | none=> [l]
def Bf (l :List Wd) :List (List Wd) :=Dr l.length l
def D6 (find :List Wd→Option Nat) (op :Wd→Int) (part :List Wd→Option E) :Nat→List Wd→Option E
 | 0,l=>part l
 | f+1,l=>match find l with
  | some i=> (D6 find op part f (l.take i)).bind fun a=> (part (l.drop (i+1))).map fun b=>Cd (op (l.getD i noW)) [a,b]
  | none=>part l
def Im (w :Wd) :Int :=if w=Bd then 4 else 3
def G1 (sub :List Wd→Option E) (l :List Wd) :Option E :=
 if l.head? =some As∧l.getLast? =some Aq∧2<l.length then
  (if (B1 [Aq] 0 0 ((l.drop 1).take (l.length - 2))).isSome then none else sub ((l.drop 1).take (l.length - 2)))
 else match l with
 | [w] =>if w=Be then some (D5 zero) else if fst Bp w then (if Dk (Hq w) then some (D5 (Hq w)) else none)
   else if fst A3 w then (Cs w).map fun n=>D5 ⟨1,n,noW⟩ else if nm w then some (Ld noW w) else none
 | [a,b] =>if a=Bd then (Cs b).map fun n=>D5 ⟨1, -n,noW⟩ else none
 | [a,b,c] =>if b=D1∧nm a=true∧nm c=true then some (Ld a c) else none
 | _=>none
def Mj (l :List Wd) :Option Nat :=B8 0 0 none none l
def Ib (l :List Wd) :Option Nat :=Cu [Dd] 0 0 none l
def Hs (l :List Wd) :Option Nat :=Cu [kOr] 0 0 none l
def Il (sub :List Wd→Option E) (l :List Wd) :Option E :=D6 Mj Im (G1 sub) l.length l
def Hn (sub subT :List Wd→Option E) (l :List Wd) :Option E :=
 if l= [] ∨ (Cu [kOr,Dd] 0 0 none l).isSome then none
 else if l.head? =some Ec then (subT (l.drop 1)).map fun a=>Cd 9 [a]
 else if 2<l.length∧l.drop (l.length - 2) = [kIs,Be] then (Il sub (l.take (l.length - 2))).map fun a=>Cd 10 [a]
 else match B1 [kEq,kLt] 0 0 l with
  | some (i,k) => (Il sub (l.take i)).bind fun a=> (Il sub (l.drop (i+1))).map fun b=>Cd (5+k) [a,b]
  | none=>Il sub l
def Np (t :List Wd→Option E) (l :List Wd) :Option E :=D6 Ib (fun _=>7) t l.length l
def Qd (t :List Wd→Option E) (l :List Wd) :Option E :=D6 Hs (fun _=>8) (Np t) l.length l
def Ht :Nat→ (List Wd→Option E) × (List Wd→Option E)
 | 0=> (Qd fun _=>none,fun _=>none)
 | d+1=> (Qd (Hn (Ht d).1 (Ht d).2),Hn (Ht d).1 (Ht d).2)
def Dn (l :List Wd) :Option E := (Ht 6).1 l
theorem Lh {find :List Wd→Option Nat} {op :Wd→Int} {part :List Wd→Option E} {P :Gr} {ops :List (Wd×Int)} (hp : ∀l e,part l=some e→P l e) (hf : ∀l i,find l=some i→ ∃a w m,l=a++w ::m∧a.length=i∧ (w,op w) ∈ops) :
  ∀f l e,D6 find op part f l=some e→Chain P ops l e :=by
 intro f
 induction f with
 | zero=>intro l e h;exact .one (hp _ _ h)
 | succ f ih=>
  intro l e h
  unfold D6 at h
  split at h
  ·rename_i i hi
   obtain ⟨a,w,m,rfl,rfl,hw⟩ :=hf _ _ hi
   have e1 : (a++w ::m).take a.length=a :=by simp
   have e2 : (a++w ::m).drop (a.length+1) =m :=by
    rw [show a++w ::m= (a++ [w]) ++m from by simp]
    exact List.drop_left' (by simp)
   have e3 : (a++w ::m).getD a.length noW=w :=by simp
   rw [e1,e2,e3] at h
   simp only [Option.bind_eq_some_iff,Option.map_eq_some_iff] at h
   obtain ⟨x,hx,y,hy,rfl⟩ :=h
   exact .more (ih _ _ hx) hw (hp _ _ hy)
  ·exact .one (hp _ _ h)
theorem Xa {X :List Wd} : ∀l d i p j,Cu X d i p l=some j→p=some j∨ ∃a w m,l=a++w ::m∧i+a.length=j∧w∈X :=by
 intro l
 induction l with
 | nil=>intro d i p j h;exact .inl h
 | cons w l ih=>
  intro d i p j h
  rcases ih _ _ _ _ h with h | ⟨a,x,m,rfl,h,hx⟩
  ·split at h
   ·rename_i c
    cases h
    exact .inr ⟨[],w,l,rfl,rfl,Ad0.1 c.2⟩
   ·exact .inl h
  ·exact .inr ⟨w ::a,x,m,rfl,by simp;omega,hx⟩
theorem Vb : ∀l d i p q j,B8 d i p q l=some j→p=some j∨ ∃a w m,l=a++w ::m∧i+a.length=j∧ (w=Ef∨w=Bd) :=by
 intro l
 induction l with
 | nil=>intro d i p q j h;exact .inl h
 | cons w l ih=>
  intro d i p q j h
  rcases ih _ _ _ _ _ h with h | ⟨a,x,m,rfl,h,hx⟩
  ·split at h
   ·rename_i c
    cases h
    exact .inr ⟨[],w,l,rfl,rfl,c.1⟩
   ·exact .inl h
  ·exact .inr ⟨w ::a,x,m,rfl,by simp;omega,hx⟩
theorem Nq {X :List Wd} : ∀l d i j k,B1 X d i l=some (j,k) → ∃a w m,l=a++w ::m∧i+a.length=j∧X[k]? =some w :=by
 intro l
 induction l with
 | nil=>intro d i j k h;simp [B1] at h
 | cons w l ih=>
  intro d i j k h
  unfold B1 at h
  split at h
  ·rename_i n hn
   simp at h
   obtain ⟨rfl,rfl⟩ :=h
   split at hn
   ·rw [List.findIdx?_eq_some_iff_getElem] at hn
    obtain ⟨h1,h2,_⟩ :=hn
    refine ⟨[],w,l,rfl,rfl, ?_⟩
    rw [List.getElem?_eq_getElem h1]
    simp at h2
    rw [h2]
   ·cases hn
  ·obtain ⟨a,x,m,rfl,h,hx⟩ :=ih _ _ _ _ h
   exact ⟨w ::a,x,m,rfl,by simp;omega,hx⟩
theorem Fg {a m :List Wd} {w :Wd} : (a++w ::m).take a.length=a :=by simp
theorem Fh {a m :List Wd} {w :Wd} : (a++w ::m).drop (a.length+1) =m :=by
 rw [show a++w ::m= (a++ [w]) ++m from by simp]
 exact List.drop_left' (by simp)
theorem Abx {a m :List Wd} {w :Wd} : (a++w ::m).getD a.length noW=w :=by simp
theorem Wk {l :List Wd} {x y :Wd} (h1 :l.head? =some x) (h2 :l.getLast? =some y) (h3 :2<l.length) :l=x :: ((l.drop 1).take (l.length - 2) ++ [y]) :=by
 cases l with
 | nil=>simp at h1
 | cons a l=>
  simp at h1;subst h1
  congr 1
  simp only [List.drop_succ_cons,List.drop_zero,List.length_cons]
  have hl :l≠ [] :=by rintro rfl;simp at h3
  rw [List.getLast?_cons_of_ne_nil hl,List.getLast?_eq_some_getLast hl] at h2
  simp at h2
  conv=>lhs;rw [←List.dropLast_concat_getLast hl]
  rw [h2,List.dropLast_eq_take]
  simp
theorem Vc {sub :List Wd→Option E} {G :Gr} (hs : ∀l e,sub l=some e→G l e) (l :List Wd) (e :E) (h :G1 sub l=some e) :Atom G l e :=by
 unfold G1 at h
 split at h
 ·rename_i c
  split at h
  ·cases h
  ·rw [Wk c.1 c.2.1 c.2.2]
   exact .br (hs _ _ h)
 ·split at h
  ·rename_i w _
   split at h
   ·rename_i hw;cases h;subst hw;exact .null
   ·split at h
    ·rename_i hq
     split at h
     ·rename_i hg;cases h;exact .text hq hg
     ·cases h
    ·split at h
     ·simp only [Option.map_eq_some_iff] at h
      obtain ⟨n,hn,rfl⟩ :=h
      exact .num hn
     ·split at h
      ·rename_i hn;cases h;exact .ref hn
      ·cases h
  ·split at h
   ·rename_i hm
    subst hm
    simp only [Option.map_eq_some_iff] at h
    obtain ⟨n,hn,rfl⟩ :=h
    exact .neg hn
   ·cases h
  ·split at h
   ·rename_i c
    obtain ⟨rfl,h1,h2⟩ :=c
    cases h
    exact .dot h1 h2
   ·cases h
  ·cases h
theorem Kz {sub :List Wd→Option E} {G :Gr} (hs : ∀l e,sub l=some e→G l e) (l :List Wd) (e :E) (h :Il sub l=some e) :Lf G l e :=by
 refine Lh (Vc hs) (fun l i hi=> ?_) _ _ _ h
 rcases Vb _ _ _ _ _ _ hi with h | ⟨a,w,m,rfl,h,hw⟩
 ·cases h
 ·refine ⟨a,w,m,rfl,by omega, ?_⟩
  rcases hw with rfl | rfl<;>simp [Im]
theorem O9 {sub subT :List Wd→Option E} {G T :Gr} (hs : ∀l e,sub l=some e→G l e) (ht : ∀l e,subT l=some e→T l e) (l :List Wd) (e :E) (h :Hn sub subT l=some e) :Io G T l e :=by
 unfold Hn at h
 split at h
 ·cases h
 ·split at h
  ·rename_i hn
   cases l with
   | nil=>simp at hn
   | cons w l=>
    simp at hn;subst hn
    simp only [Option.map_eq_some_iff,List.drop_succ_cons,List.drop_zero] at h
    obtain ⟨a,ha,rfl⟩ :=h
    exact .neg (ht _ _ ha)
  ·split at h
   ·rename_i c
    simp only [Option.map_eq_some_iff] at h
    obtain ⟨a,ha,rfl⟩ :=h
    rw [←List.take_append_drop (l.length - 2) l,c.2]
    exact .is (Kz hs _ _ ha)
   ·split at h
    ·rename_i i k hc
     obtain ⟨a,w,m,rfl,hi,hk⟩ :=Nq _ _ _ _ _ hc
     simp only [Nat.zero_add] at hi;subst hi
     rw [Fg,Fh] at h
     simp only [Option.bind_eq_some_iff,Option.map_eq_some_iff] at h
     obtain ⟨x,hx,y,hy,rfl⟩ :=h
     refine .cmp (Kz hs _ _ hx) ?_ (Kz hs _ _ hy)
     match k,hk with
     | 0,hk=>simp at hk;subst hk;simp
     | 1,hk=>simp at hk;subst hk;simp
     | k+2,hk=>simp at hk
    ·exact .sum (Kz hs _ _ h)
theorem Qe {k :Wd} {n :Int} {l :List Wd} {i :Nat} (hi :Cu [k] 0 0 none l=some i) : ∃a w m,l=a++w ::m∧a.length=i∧ (w,n) ∈ [(k,n)] :=by
 rcases Xa _ _ _ _ _ hi with h | ⟨a,w,m,rfl,h,hw⟩
 ·cases h
 ·exact ⟨a,w,m,rfl,by omega,by simp at hw⊢;exact hw⟩
theorem Nr {t :List Wd→Option E} {T :Gr} (ht : ∀l e,t l=some e→T l e) (l :List Wd) (e :E) (h :Qd t l=some e) :Chain (Chain T Jc) Ms l e :=by
 have hc : ∀l e,Np t l=some e→Chain T Jc l e :=fun l e h=>Lh (find :=Ib) (op :=fun _=>7) ht (fun _ _ hi=>Qe hi) _ _ _ h
 exact Lh (find :=Hs) (op :=fun _=>8) hc (fun _ _ hi=>Qe hi) _ _ _ h
theorem Xb (d :Nat) : (∀l e,(Ht d).1 l=some e→Gb d l e) ∧ (∀l e,(Ht d).2 l=some e→Gc d l e) :=by
 induction d with
 | zero=>
  refine ⟨fun l e h=> ?_,fun l e h=>by simp [Ht] at h⟩
  have :=Nr (T :=fun _ _=>False) (fun l e h=>by simp at h) l e h
  have n2 : ∀l e,¬Chain (fun _ _=>False) Jc l e :=by
   intro l e h;induction h with
   | one h=>exact h
   | more _ _ h _=>exact h
  have n3 : ∀l e,¬Chain (Chain (fun _ _=>False) Jc) Ms l e :=by
   intro l e h;induction h with
   | one h=>exact n2 _ _ h
   | more _ _ h _=>exact n2 _ _ h
  exact (n3 _ _ this).elim
 | succ d ih=>
  have e1 :Gb (d+1) =P8 (Gb d) (Gc d) :=by show (Fn d).1=_;rw [K8]
  have e2 :Gc (d+1) =Io (Gb d) (Gc d) :=by show (Fn d).2=_;rw [K8]
  rw [e1,e2]
  exact ⟨Nr (O9 ih.1 ih.2),O9 ih.1 ih.2⟩
def Jd (d :Int) (l :List Wd) :Int :=l.foldl Cp d
def Bo :Int→List Wd→List Wd
 | _,[] => []
 | d,w ::l=>if d=0 then w ::Bo (Cp d w) l else Bo (Cp d w) l
theorem Pa (d :Int) (l m :List Wd) :Jd d (l++m) =Jd (Jd d l) m :=by simp [Jd]
theorem Kh (d :Int) (w :Wd) (m :List Wd) :Jd d (w ::m) =Jd (Cp d w) m :=rfl
theorem Hu : ∀ (l m :List Wd) (d :Int),Bo d (l++m) =Bo d l++Bo (Jd d l) m
 | [],m,d=>rfl
 | w ::l,m,d=>by
  simp only [List.cons_append,Bo,Hu l m,Kh]
  split<;>simp
def Bal (l :List Wd) :Prop := ∀d :Int,0≤d→Jd d l=d∧ (0<d→Bo d l= [])
theorem Bal.append {l m :List Wd} (h :Bal l) (k :Bal m) :Bal (l++m) :=by
 intro d hd
 rw [Pa,Hu,(h d hd).1]
 exact ⟨(k d hd).1,fun h0=>by rw [(h d hd).2 h0,(k d hd).2 h0];rfl⟩
theorem J4 {w :Wd} (h1 :w≠As) (h2 :w≠Aq) (d :Int) :Cp d w=d :=by simp [Cp,h1,h2]
theorem Bal.one {w :Wd} (h1 :w≠As) (h2 :w≠Aq) :Bal [w] :=by
 intro d hd
 simp only [Jd,List.foldl_cons,List.foldl_nil,Bo,J4 h1 h2]
 exact ⟨trivial,fun h=>by rw [if_neg (by omega)]⟩
theorem Bal.cons {w :Wd} {l :List Wd} (h1 :w≠As) (h2 :w≠Aq) (h :Bal l) :Bal (w ::l) := (Bal.one h1 h2).append h
theorem Bal.br {l :List Wd} (h :Bal l) :Bal (As :: (l++ [Aq])) :=by
 intro d hd
 have e1 :Cp d As=d+1 :=by simp [Cp]
 have e2 :Cp (d+1) Aq=d :=by
  unfold Cp
  rw [if_neg (by decide),if_pos rfl];omega
 rw [Kh,e1,Pa,(h (d+1) (by omega)).1]
 refine ⟨by simp [Jd,e2],fun h0=> ?_⟩
 unfold Bo
 rw [if_neg (by omega),e1,Hu,(h (d+1) (by omega)).1,(h (d+1) (by omega)).2 (by omega)]
 simp only [Bo]
 rw [if_neg (by omega)];rfl
theorem Bal.end {l :List Wd} (h :Bal l) :Jd 0 l=0 := (h 0 (by omega)).1
theorem Rn {l :List Wd} (h :Bal l) :Bo 0 (As :: (l++ [Aq])) = [As] :=by
 have e1 :Cp 0 As=1 :=by decide
 unfold Bo
 rw [if_pos rfl,e1,Hu,(h 1 (by omega)).1,(h 1 (by omega)).2 (by omega)]
 simp [Bo]
theorem J5 {l m :List Wd} (h :Bal l) :Bo 0 (l++m) =Bo 0 l++Bo 0 m :=by rw [Hu,h.end]
theorem D7 {w :Wd} {m :List Wd} (h1 :w≠As) (h2 :w≠Aq) :Bo 0 (w ::m) =w ::Bo 0 m :=by
 rw [Bo,if_pos rfl,J4 h1 h2]
theorem Ns (X :List Wd) : ∀ (l m :List Wd) (d :Int) (i :Nat) (p :Option Nat),Cu X d i p (l++m) =Cu X (Jd d l) (i+l.length) (Cu X d i p l) m
 | [],m,d,i,p=>rfl
 | w ::l,m,d,i,p=>by
  simp only [List.cons_append,Cu,Ns X l m,Kh,List.length_cons]
  rw [show i+1+l.length=i+ (l.length+1) from by omega]
theorem Jq {X :List Wd} : ∀ (l :List Wd) (d :Int) (i :Nat) (p :Option Nat),(∀w∈Bo d l,w∉X) →Cu X d i p l=p
 | [],_,_,_,_=>rfl
 | w ::l,d,i,p,h=>by
  unfold Bo at h
  unfold Cu
  split at h
  ·rename_i h0
   rw [if_neg (fun c :d=0∧inX X w=true=>h w (by simp) (Ad0.1 c.2))]
   exact Jq l _ _ _ fun x hx=>h x (by simp [hx])
  ·rename_i h0
   rw [if_neg (fun c :d=0∧inX X w=true=>h0 c.1)]
   exact Jq l _ _ _ h
theorem Tq {X :List Wd} {l m :List Wd} {o :Wd} (hl :Bal l) (ho :o∈X) (h1 :o≠As) (h2 :o≠Aq) (hm : ∀w∈Bo 0 m,w∉X) :Cu X 0 0 none (l++o ::m) =some l.length :=by
 rw [Ns,hl.end]
 simp only [Cu,J4 h1 h2,Ad0.2 ho,and_self,if_true,Nat.zero_add]
 exact Jq _ _ _ _ hm
theorem Nt {X :List Wd} : ∀ (l m :List Wd) (d :Int) (i :Nat),(∀w∈Bo d l,w∉X) →B1 X d i (l++m) =B1 X (Jd d l) (i+l.length) m
 | [],_,_,_,_=>rfl
 | w ::l,m,d,i,h=>by
  unfold Bo at h
  simp only [List.cons_append,Kh,List.length_cons]
  rw [B1]
  have e : (if d=0 then X.findIdx? (fun x=>decide (w=x)) else none) =none :=by
   split at h
   ·rename_i h0
    rw [if_pos h0,List.findIdx?_eq_none_iff]
    intro x hx
    simp only [decide_eq_false_iff_not]
    rintro rfl
    exact h w (by simp) hx
   ·rename_i h0;rw [if_neg h0]
  rw [e]
  have h' : ∀x∈Bo (Cp d w) l,x∉X :=by
   split at h
   ·exact fun x hx=>h x (by simp [hx])
   ·exact h
  show B1 X (Cp d w) (i+1) (l++m) =_
  rw [Nt l m _ _ h',show i+1+l.length=i+ (l.length+1) from by omega]
theorem K9 {X :List Wd} {l :List Wd} (h : ∀w∈Bo 0 l,w∉X) :B1 X 0 0 l=none :=by
 have :=Nt l [] 0 0 h
 rw [List.append_nil] at this
 rw [this];rfl
theorem La {X :List Wd} {l m :List Wd} {o :Wd} {k :Nat} (hl :Bal l) (h : ∀w∈Bo 0 l,w∉X) (hk :X.findIdx? (fun x=>decide (o=x)) =some k) :B1 X 0 0 (l++o ::m) =some (l.length,k) :=by
 rw [Nt l _ 0 0 h,hl.end,B1,if_pos rfl,hk];simp
def On (q :Option Wd) (l :List Wd) :Option Wd :=match l.getLast? with | some w=>some w | none=>q
theorem Xc (q :Option Wd) (w :Wd) (l :List Wd) :On q (w ::l) =On (some w) l :=by
 cases l with
 | nil=>rfl
 | cons x l=>simp only [On,List.getLast?_cons_cons,List.getLast?_eq_some_getLast (List.cons_ne_nil x l)]
theorem Nc : ∀ (l m :List Wd) (d :Int) (i :Nat) (p :Option Nat) (q :Option Wd),B8 d i p q (l++m) =B8 (Jd d l) (i+l.length) (B8 d i p q l) (On q l) m
 | [],m,d,i,p,q=>rfl
 | w ::l,m,d,i,p,q=>by
  simp only [List.cons_append,B8,Nc l m,Kh,List.length_cons,Xc]
  rw [show i+1+l.length=i+ (l.length+1) from by omega]
theorem Nv : ∀ (l :List Wd) (d :Int) (i :Nat) (p :Option Nat) (q :Option Wd),(∀w∈Bo d l,w≠Ef∧w≠Bd) →B8 d i p q l=p
 | [],_,_,_,_,_=>rfl
 | w ::l,d,i,p,q,h=>by
  unfold Bo at h
  unfold B8
  split at h
  ·rename_i h0
   have :=h w (by simp)
   rw [if_neg (fun c=>by rcases c.1 with e | e;exact this.1 e;exact this.2 e)]
   exact Nv l _ _ _ _ fun x hx=>h x (by simp [hx])
  ·rename_i h0
   rw [if_neg (fun c=>h0 c.2.1)]
   exact Nv l _ _ _ _ h
def Je (w :Wd) :Bool :=nm w || (Cs w).isSome || fst Bp w || decide (w=Be) || decide (w=Bd) || decide (w=D1) || decide (w=As)
def Ro (w :Wd) :Bool :=Je w || decide (w=Ef)
def Ic (w :Wd) :Bool :=Ro w || decide (w=Ec) || decide (w=kIs) || decide (w=kEq) || decide (w=kLt)
def Lx (w :Wd) :Bool :=Ic w || decide (w=Dd)
def E7 (w :Wd) :Bool :=Lx w || decide (w=kOr)
def Iv (w :Wd) :Bool :=E7 w || decide (w=Aq)
theorem Fo {t :Wd→Bool} {w k :Wd} (h :t w=true) (hk :t k=false) :w≠k :=by rintro rfl;rw [h] at hk;cases hk
structure Neat (t :Wd→Bool) (l :List Wd) :Prop where
 bal :Bal l
 tops : ∀w∈Bo 0 l,t w=true
 all : ∀w∈l,Iv w=true
theorem Neat.mono {t t' :Wd→Bool} {l :List Wd} (h :Neat t l) (ht : ∀w,t w=true→t' w=true) :Neat t' l := ⟨h.bal,fun w hw=>ht w (h.tops w hw),h.all⟩
theorem Neat.append {t :Wd→Bool} {l m :List Wd} (h :Neat t l) (k :Neat t m) :Neat t (l++m) :=
 ⟨h.bal.append k.bal,fun w hw=>by rw [J5 h.bal,List.mem_append] at hw;exact hw.elim (h.tops w) (k.tops w),fun w hw=> (List.mem_append.1 hw).elim (h.all w) (k.all w)⟩
theorem Neat.one {t :Wd→Bool} {w :Wd} (h1 :w≠As) (h2 :w≠Aq) (ht :t w=true) (ha :Iv w=true) :Neat t [w] :=
 ⟨.one h1 h2,fun x hx=>by rw [D7 h1 h2] at hx;simp [Bo] at hx;subst hx;exact ht,fun x hx=>by simp at hx;subst hx;exact ha⟩
theorem Neat.cons {t :Wd→Bool} {w :Wd} {l :List Wd} (h1 :w≠As) (h2 :w≠Aq) (ht :t w=true) (ha :Iv w=true) (h :Neat t l) :Neat t (w ::l) := (Neat.one h1 h2 ht ha).append h
theorem J6 (w :Wd) (h :Je w=true) :Ro w=true :=by simp [Ro,h]
theorem Gj (w :Wd) (h :Ro w=true) :Ic w=true :=by simp [Ic,h]
theorem Fe (w :Wd) (h :Ic w=true) :Lx w=true :=by simp [Lx,h]
theorem Hv (w :Wd) (h :Lx w=true) :E7 w=true :=by simp [E7,h]
theorem Vd (w :Wd) (h :E7 w=true) :Iv w=true :=by simp [Iv,h]
theorem Fb (w :Wd) (h :Je w=true) :Iv w=true :=Vd _ (Hv _ (Fe _ (Gj _ (J6 _ h))))
theorem L8 {w :Wd} (h :nm w=true) :Je w=true :=by simp [Je,h]
theorem Qf {w :Wd} {n :Int} (h :Cs w=some n) :Je w=true :=by simp [Je,h]
theorem Wl {w :Wd} (h :fst Bp w=true) :Je w=true :=by simp [Je,h]
theorem Za {G :Gr} (hG : ∀l e,G l e→Neat E7 l) {l :List Wd} {e :E} (h :Atom G l e) :Neat Je l :=by
 cases h with
 | null=>exact .one (by decide) (by decide) (by decide) (by decide)
 | num h=>exact .one (Ej h (by decide)) (Ej h (by decide)) (Qf h) (Fb _ (Qf h))
 | neg h=>exact .cons (by decide) (by decide) (by decide) (by decide) (.one (Ej h (by decide)) (Ej h (by decide)) (Qf h) (Fb _ (Qf h)))
 | text h _=>exact .one (Gm h (by decide)) (Gm h (by decide)) (Wl h) (Fb _ (Wl h))
 | ref h=>exact .one (Ce h (by decide)) (Ce h (by decide)) (L8 h) (Fb _ (L8 h))
 | dot h k=>exact .cons (Ce h (by decide)) (Ce h (by decide)) (L8 h) (Fb _ (L8 h)) (.cons (by decide) (by decide) (by decide) (by decide) (.one (Ce k (by decide)) (Ce k (by decide)) (L8 k) (Fb _ (L8 k))))
 | br h=>
  have n :=hG _ _ h
  refine ⟨n.bal.br,fun w hw=> ?_,fun w hw=> ?_⟩
  ·rw [Rn n.bal] at hw;simp at hw;subst hw;decide
  ·simp at hw
   rcases hw with rfl | hw | rfl
   ·decide
   ·exact n.all w hw
   ·decide
theorem Ge {P :Gr} {ops :List (Wd×Int)} {t t' :Wd→Bool} (hP : ∀l e,P l e→Neat t l) (ht : ∀w,t w=true→t' w=true) (ho : ∀o∈ops,o.1≠As∧o.1≠Aq∧t' o.1=true∧Iv o.1=true) {l :List Wd} {e :E} (h :Chain P ops l e) :Neat t' l :=by
 induction h with
 | one h=>exact (hP _ _ h).mono ht
 | more _ hk hm ih=>
  obtain ⟨h1,h2,h3,h4⟩ :=ho _ hk
  exact ih.append (.cons h1 h2 h3 h4 ((hP _ _ hm).mono ht))
theorem Iw {G :Gr} (hG : ∀l e,G l e→Neat E7 l) {l :List Wd} {e :E} (h :Lf G l e) :Neat Ro l :=
 Ge (fun _ _ h=>Za hG h) J6 (by decide) h
theorem Gf {G T :Gr} (hG : ∀l e,G l e→Neat E7 l) (hT : ∀l e,T l e→Neat Ic l) {l :List Wd} {e :E} (h :Io G T l e) :Neat Ic l :=by
 cases h with
 | neg h=>exact .cons (by decide) (by decide) (by decide) (by decide) (hT _ _ h)
 | sum h=>exact (Iw hG h).mono Gj
 | is h=>exact ((Iw hG h).mono Gj).append (.cons (by decide) (by decide) (by decide) (by decide) (.one (by decide) (by decide) (by decide) (by decide)))
 | cmp h ho hm=>
  have hop := (show∀o∈Dq,o.1≠As∧o.1≠Aq∧Ic o.1=true∧Iv o.1=true by decide) _ ho
  exact ((Iw hG h).mono Gj).append (.cons hop.1 hop.2.1 hop.2.2.1 hop.2.2.2 ((Iw hG hm).mono Gj))
theorem Pl (d :Nat) : (∀l e,(Fn d).1 l e→Neat E7 l) ∧ (∀l e,(Fn d).2 l e→Neat Ic l) :=by
 have key : ∀d,((∀l e,Gb d l e→Neat E7 l) ∧ (∀l e,Gc d l e→Neat Ic l)) → ((∀l e,(Fn d).1 l e→Neat E7 l) ∧ (∀l e,(Fn d).2 l e→Neat Ic l)) :=by
  intro d ⟨h1,h2⟩
  rw [K8]
  refine ⟨fun l e h=> ?_,fun l e h=>Gf h1 h2 h⟩
  exact Ge (fun l e h=>Ge (fun _ _ h=>Gf h1 h2 h) Fe (by decide) h) Hv (by decide) h
 induction d with
 | zero=>exact key 0 ⟨fun _ _ h=>h.elim,fun _ _ h=>h.elim⟩
 | succ d ih=>exact key (d+1) ih
theorem Jf {find :List Wd→Option Nat} {op :Wd→Int} {part :List Wd→Option E} {P :Gr} {ops :List (Wd×Int)} (hp : ∀l e,P l e→part l=some e∧find l=none) (hf : ∀l e o k m b,Chain P ops l e→ (o,k) ∈ops→P m b→find (l++o ::m) =some l.length∧op o=k) {l :List Wd} {e :E} (h :Chain P ops l e) :
  ∀f,l.length≤f→D6 find op part f l=some e :=by
 induction h with
 | one h=>
  intro f _
  obtain ⟨h1,h2⟩ :=hp _ _ h
  cases f with
  | zero=>exact h1
  | succ f=>rw [D6,h2];exact h1
 | more hc ho hm ih=>
  intro f hl
  rename_i l a o k m b
  obtain ⟨h1,h2⟩ :=hf _ _ _ _ _ _ hc ho hm
  cases f with
  | zero=>simp at hl
  | succ f=>
   rw [D6,h1]
   simp only [Fg,Fh,Abx]
   rw [ih f (by simp at hl;omega),(hp _ _ hm).1,h2]
   rfl
theorem Nd {G :Gr} {l :List Wd} {e :E} (h :Atom G l e) :l≠ [] :=by cases h<;>simp
theorem Jr {P :Gr} {ops :List (Wd×Int)} (hP : ∀l e,P l e→l≠ []) {l :List Wd} {e :E} (h :Chain P ops l e) :l≠ [] :=by
 cases h with
 | one h=>exact hP _ _ h
 | more _ _ _=>simp
theorem Nw {G :Gr} {l :List Wd} {e :E} (h :Lf G l e) :l≠ [] :=Jr (fun _ _ h=>Nd h) h
theorem Rp {sub :List Wd→Option E} {G :Gr} (hs : ∀l e,G l e→sub l=some e∧l≠ []) (hG : ∀l e,G l e→Neat E7 l) {l :List Wd} {e :E} (h :Atom G l e) :G1 sub l=some e :=by
 cases h with
 | null=>rfl
 | num h=>
  rename_i w n
  have hq :fst Bp w=false :=I3 (Kg h) Va
  simp [G1,Ej (k :=Be) h (by decide),hq,Kg h,h]
 | neg h=>simp [G1,h]
 | text h hg=>
  rename_i w
  simp [G1,Gm (k :=Be) h (by decide),h,hg]
 | ref h=>
  rename_i w
  have hq :fst Bp w=false :=I3 (Hr h) Jb
  have hd :fst A3 w=false :=I3 (Hr h) Ja
  simp [G1,Ce (k :=Be) h (by decide),hq,hd,h]
 | dot h k=>
  rename_i a b
  simp [G1,Ce (k :=As) h (by decide),h,k]
 | br h=>
  rename_i l
  obtain ⟨h1,h2⟩ :=hs _ _ h
  have n :=hG _ _ h
  have hl :0<l.length :=List.length_pos_iff.2 h2
  have e1 : ((As :: (l++ [Aq])).drop 1).take ((As :: (l++ [Aq])).length - 2) =l :=by simp
  unfold G1
  rw [if_pos ⟨rfl,by rw [List.getLast?_cons_of_ne_nil (by simp)];simp,by simp;omega⟩,e1]
  rw [K9 (fun w hw=>by have :=Fo (k :=Aq) (n.tops w hw) (by decide);simpa using this)]
  simpa using h1
theorem Qg {G :Gr} (hG : ∀l e,G l e→Neat E7 l) {l :List Wd} {e :E} (h :Atom G l e) (i :Nat) (p :Option Nat) (q :Option Wd) (hq :G0 q=false) :B8 0 i p q l=p :=by
 cases h with
 | null=>simp [B8]
 | num h=>simp [B8,Ej (k :=Ef) h (by decide),Ej (k :=Bd) h (by decide)]
 | neg h=>simp [B8,hq,Ej (k :=Ef) h (by decide),Ej (k :=Bd) h (by decide)]
 | text h _=>simp [B8,Gm (k :=Ef) h (by decide),Gm (k :=Bd) h (by decide)]
 | ref h=>simp [B8,Ce (k :=Ef) h (by decide),Ce (k :=Bd) h (by decide)]
 | dot h k=>simp [B8,Ce (k :=Ef) h (by decide),Ce (k :=Bd) h (by decide),Ce (k :=Ef) k (by decide),Ce (k :=Bd) k (by decide)]
 | br h=>
  rw [Nv]
  intro w hw
  rw [Rn (hG _ _ h).bal] at hw
  simp at hw;subst hw;decide
theorem Nx {G :Gr} {l :List Wd} {e :E} (h :Atom G l e) :G0 l.getLast? =true∧ (∀m,l≠m++ [kIs,Be]) ∧ (l.getLast? =some Be→l= [Be]) :=by
 have two : ∀ (x :Wd) (l m :List Wd),x≠Be→l++ [x] ≠m++ [kIs,Be] :=by
  intro x l m hx he
  rw [show m++ [kIs,Be] = (m++ [kIs]) ++ [Be] from by simp] at he
  exact hx (by simpa using (List.append_inj_right' he rfl))
 cases h with
 | null=>exact ⟨by decide,fun m he=>by have :=congrArg List.length he;simp at this,fun _=>rfl⟩
 | num h=>exact ⟨by simp [G0,Ej (k :=Ef) h (by decide),Ej (k :=Bd) h (by decide)],fun m=>two _ [] m (Ej h (by decide)),fun he=>by simp at he;exact absurd he (Ej h (by decide))⟩
 | neg h=>exact ⟨by simp [G0,Ej (k :=Ef) h (by decide),Ej (k :=Bd) h (by decide)],fun m=>two _ [_] m (Ej h (by decide)),fun he=>by simp at he;exact absurd he (Ej h (by decide))⟩
 | text h _=>exact ⟨by simp [G0,Gm (k :=Ef) h (by decide),Gm (k :=Bd) h (by decide)],fun m=>two _ [] m (Gm h (by decide)),fun he=>by simp at he;exact absurd he (Gm h (by decide))⟩
 | ref h=>exact ⟨by simp [G0,Ce (k :=Ef) h (by decide),Ce (k :=Bd) h (by decide)],fun m=>two _ [] m (Ce h (by decide)),fun he=>by simp at he;exact absurd he (Ce h (by decide))⟩
 | dot _ h=>exact ⟨by simp [G0,Ce (k :=Ef) h (by decide),Ce (k :=Bd) h (by decide)],fun m=>two _ [_,_] m (Ce h (by decide)),fun he=>by simp at he;exact absurd he (Ce h (by decide))⟩
 | br h=>
  rename_i l
  refine ⟨?_,fun m=>two _ (As ::l) m (by decide),fun he=> ?_⟩
  ·rw [show As :: (l++ [Aq]) = (As ::l) ++ [Aq] from rfl,List.getLast?_concat];decide
  ·rw [show As :: (l++ [Aq]) = (As ::l) ++ [Aq] from rfl,List.getLast?_concat] at he;simp at he
theorem Pm {G :Gr} {l :List Wd} {e :E} (h :Lf G l e) :G0 l.getLast? =true∧ (∀m,l≠m++ [kIs,Be]) :=by
 cases h with
 | one h=>exact ⟨(Nx h).1,(Nx h).2.1⟩
 | more hc ho hm=>
  rename_i l a o k m b
  obtain ⟨h1,h2,h3⟩ :=Nx hm
  have hne :=Nd hm
  have eg : (l++o ::m).getLast? =m.getLast? :=by
   rw [List.getLast?_append,List.getLast?_cons_of_ne_nil hne,List.getLast?_eq_some_getLast hne];rfl
  refine ⟨by rw [eg];exact h1,fun x he=> ?_⟩
  have hn :m.getLast? =some Be :=by rw [←eg,he];simp
  have hm1 :=h3 hn
  subst hm1
  have e2 : (l++ [o]) ++ [Be] = (x++ [kIs]) ++ [Be] :=by simpa using he
  have e3 :=List.append_inj_left' e2 rfl
  have e4 :o=kIs :=by simpa using List.append_inj_right' e3 rfl
  subst e4
  simp at ho
theorem F7 {sub :List Wd→Option E} {G :Gr} (hs : ∀l e,G l e→sub l=some e∧l≠ []) (hG : ∀l e,G l e→Neat E7 l) {l :List Wd} {e :E} (h :Lf G l e) :Il sub l=some e :=by
 refine Jf (fun l e h=> ⟨Rp hs hG h,Qg hG h 0 none none rfl⟩) (fun l e o k m b hl ho hm=> ?_) h _ (Nat.le_refl _)
 have n :=Iw hG hl
 have hop := (show∀o∈Mh,o.1≠As∧o.1≠Aq∧ (o.1=Ef∨o.1=Bd) ∧G0 (some o.1) =false∧Im o.1=o.2 by decide) _ ho
 refine ⟨?_,hop.2.2.2.2⟩
 show B8 0 0 none none (l++o ::m) =_
 have hlast :On none l=l.getLast? :=by unfold On;cases l.getLast? <;>rfl
 rw [Nc,n.bal.end,hlast]
 simp only [B8,J4 hop.1 hop.2.1,hop.2.2.1,(Pm hl).1,and_self,if_true,Nat.zero_add]
 exact Qg hG hm _ _ _ hop.2.2.2.1
theorem Rq {sub subT :List Wd→Option E} {G T :Gr} (hs : ∀l e,G l e→sub l=some e∧l≠ []) (ht : ∀l e,T l e→subT l=some e∧l≠ []) (hG : ∀l e,G l e→Neat E7 l) (hT : ∀l e,T l e→Neat Ic l) {l :List Wd} {e :E} (h :Io G T l e) :Hn sub subT l=some e∧l≠ [] :=by
 have n :=Gf hG hT h
 have hne :l≠ [] :=by
  cases h with
  | neg _=>simp
  | sum h=>exact Nw h
  | is _=>simp
  | cmp _ _ _=>simp
 refine ⟨?_,hne⟩
 have hlast :Cu [kOr,Dd] 0 0 none l=none :=Jq _ _ _ _ fun w hw=>by
  have h1 :=Fo (k :=kOr) (n.tops w hw) (by decide)
  have h2 :=Fo (k :=Dd) (n.tops w hw) (by decide)
  simp [h1,h2]
 unfold Hn
 rw [if_neg (by rw [hlast];simp [hne])]
 have nosum : ∀ {l e} (x :List Wd),Lf G l e→ (l++x).head? ≠some Ec :=by
  intro l e x h
  obtain ⟨w,m,rfl,hw⟩ :=No h
  simpa using hw
 cases h with
 | neg h=>rename_i l e;simp [(ht l e h).1]
 | sum h=>
  have h0 :=nosum [] h
  rw [List.append_nil] at h0
  rw [if_neg h0,if_neg (fun c=> (Pm h).2 (l.take (l.length - 2)) (by rw [←c.2];simp))]
  rw [K9 (fun w hw=>by
   have n1 :=Iw hG h
   have h1 :=Fo (k :=kEq) (n1.tops w hw) (by decide)
   have h2 :=Fo (k :=kLt) (n1.tops w hw) (by decide)
   simp [h1,h2])]
  exact F7 hs hG h
 | is h=>
  rename_i l e
  have hl :0<l.length :=List.length_pos_iff.2 (Nw h)
  have e1 : (l++ [kIs,Be]).length - 2=l.length :=by simp
  rw [if_neg (nosum _ h),e1,if_pos ⟨by simp;omega,by simp⟩]
  simp [F7 hs hG h]
 | cmp h ho hm=>
  rename_i l a o k m b
  have hno : ∀x,l++o ::m≠x++ [kIs,Be] :=by
   intro x he
   obtain ⟨w,m',rfl,_⟩ :=No hm
   cases hm' :m' with
   | nil=>
    subst hm'
    have e2 : (l++ [o]) ++ [w] = (x++ [kIs]) ++ [Be] :=by simpa using he
    have e3 :=List.append_inj_left' e2 rfl
    have e4 :o=kIs :=by simpa using List.append_inj_right' e3 rfl
    subst e4
    simp at ho
   | cons y z=>
    subst hm'
    have hlen : (w ::y ::z).length=z.length+2 :=by simp
    have e5 : (l++o ::w ::y ::z) = (l++ [o]) ++ (w ::y ::z) :=by simp
    rw [e5] at he
    have e6 :=congrArg (List.drop (l.length+1)) he
    have e7 : ((l++ [o]) ++ (w ::y ::z)).drop (l.length+1) =w ::y ::z :=List.drop_left' (by simp)
    rw [e7] at e6
    have e8 :=congrArg List.length he
    simp at e8
    rw [List.drop_append_of_le_length (by omega)] at e6
    exact (Pm hm).2 _ e6
  rw [if_neg (nosum _ h),if_neg (fun c=>hno ((l++o ::m).take ((l++o ::m).length - 2)) (by rw [←c.2];simp))]
  have n1 :=Iw hG h
  have hx : ∀w∈Bo 0 l,w∉ [kEq,kLt] :=fun w hw=>by
   have h1 :=Fo (k :=kEq) (n1.tops w hw) (by decide)
   have h2 :=Fo (k :=kLt) (n1.tops w hw) (by decide)
   simp [h1,h2]
  rcases List.mem_cons.1 ho with e | ho
  ·cases e
   rw [La (k :=0) n1.bal hx (by decide)]
   simp only [Fg,Fh,F7 hs hG h,F7 hs hG hm]
   rfl
  ·cases List.mem_singleton.1 ho
   rw [La (k :=1) n1.bal hx (by decide)]
   simp only [Fg,Fh,F7 hs hG h,F7 hs hG hm]
   rfl
theorem Nf (d :Nat) : (∀l e,Gb d l e→ (Ht d).1 l=some e∧l≠ []) ∧ (∀l e,Gc d l e→ (Ht d).2 l=some e∧l≠ []) :=by
 induction d with
 | zero=>exact ⟨fun _ _ h=>h.elim,fun _ _ h=>h.elim⟩
 | succ d ih=>
  have nG : ∀l e,Gb d l e→Neat E7 l :=by cases d with | zero=>exact fun _ _ h=>h.elim | succ d=>exact (Pl d).1
  have nT : ∀l e,Gc d l e→Neat Ic l :=by cases d with | zero=>exact fun _ _ h=>h.elim | succ d=>exact (Pl d).2
  have e1 :Gb (d+1) =P8 (Gb d) (Gc d) :=by show (Fn d).1=_;rw [K8]
  have e2 :Gc (d+1) =Io (Gb d) (Gc d) :=by show (Fn d).2=_;rw [K8]
  rw [e1,e2]
  have ht :=fun l e (h :Io (Gb d) (Gc d) l e) =>Rq ih.1 ih.2 nG nT h
  refine ⟨fun l e h=> ⟨?_,Jr (fun l e h=>Jr (fun l e h=> (ht l e h).2) h) h⟩,ht⟩
  have conj : ∀l e,Abv (Gb d) (Gc d) l e→Np (Hn (Ht d).1 (Ht d).2) l=some e∧Hs l=none :=by
   intro l e h
   have n1 :Neat Lx l :=Ge (fun _ _ h=>Gf nG nT h) Fe (by decide) h
   refine ⟨Jf (fun l e h=> ⟨(ht l e h).1,Jq _ _ _ _ fun w hw=>by have :=Fo (k :=Dd) ((Gf nG nT h).tops w hw) (by decide);simpa using this⟩) (fun l e o k m b hl ho hm=> ?_) h _ (Nat.le_refl _),Jq _ _ _ _ fun w hw=>by have :=Fo (k :=kOr) (n1.tops w hw) (by decide);simpa using this⟩
   cases List.mem_singleton.1 ho
   have nl :Neat Lx l :=Ge (fun _ _ h=>Gf nG nT h) Fe (by decide) hl
   exact ⟨Tq nl.bal (by simp) (by decide) (by decide) fun w hw=>by have :=Fo (k :=Dd) ((Gf nG nT hm).tops w hw) (by decide);simpa using this,rfl⟩
  refine Jf conj (fun l e o k m b hl ho hm=> ?_) h _ (Nat.le_refl _)
  cases List.mem_singleton.1 ho
  have nl :Neat E7 l :=Ge (fun l e h=>Ge (fun _ _ h=>Gf nG nT h) Fe (by decide) h) Hv (by decide) hl
  have nm :Neat Lx m :=Ge (fun _ _ h=>Gf nG nT h) Fe (by decide) hm
  exact ⟨Tq nl.bal (by simp) (by decide) (by decide) fun w hw=>by have :=Fo (k :=kOr) (nm.tops w hw) (by decide);simpa using this,rfl⟩
theorem I5 (l :List Wd) (e :E) :Dn l=some e↔F3 l e := ⟨(Xb 6).1 l e,fun h=> ((Nf 6).1 l e h).1⟩
theorem Ks {l :List Wd} {e :E} (h :F3 l e) :l≠ [] := ((Nf 6).1 l e h).2
theorem E3 {l :List Wd} {e :E} (h :F3 l e) :Neat E7 l := (Pl 5).1 l e h
end Go.Proofs.YtifjaegfpdjikaaGreatDoor

namespace Go.Proofs.YtifjaegfpdjikaaGreatDoor
structure ColD where
 name :Wd
 ty :Int
 must :Bool
structure Stm where
 kind :Int
 name :Wd
 table :Wd
 col :Wd
 cols :List ColD
 rows :List (List E)
 sets :List (Wd×E)
 frm :List Wd
 out :List E
 wher :E
 order :List E
 down :Bool
 n :Int
def Stm.nil :Stm := ⟨0,noW,noW,noW,[],[],[],[],[],E.nil,[],false,0⟩
def Bg (k :Int) :Stm := ⟨k,noW,noW,noW,[],[],[],[],[],E.nil,[],false, -1⟩
end Go.Proofs.YtifjaegfpdjikaaGreatDoor


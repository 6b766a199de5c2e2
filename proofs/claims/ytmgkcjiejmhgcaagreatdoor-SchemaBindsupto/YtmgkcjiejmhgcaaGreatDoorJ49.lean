/-
  1 texts of this proof in one, in build order: BJoin.
-/
import Derived.Test.YtmgkcjiejmhgcaaGreatDoorJ39
import Derived.Test.YtmgkcjiejmhgcaaGreatDoorJ45
import Derived.Test.YtmgkcjiejmhgcaaGreatDoorJ46
import Derived.Test.YtmgkcjiejmhgcaaGreatDoorJ47
import Derived.Test.YtmgkcjiejmhgcaaGreatDoorJ48
set_option linter.unusedSimpArgs false
set_option linter.unusedVariables false
namespace Go.Proofs.YtmgkcjiejmhgcaaGreatDoor
open Go.RowKit Go.Maps
theorem Xb {st :Stm} (h :FitS st) : ∀e∈Mi st,D4 e :=by
 intro e he
 unfold Mi at he
 rcases List.mem_append.1 he with he | he
 ·rcases List.mem_append.1 he with he | he
  ·rcases List.mem_append.1 he with he | he
   ·rcases List.mem_append.1 he with he | he
    ·exact Fe h.out he
    ·exact Fe h.order he
   ·obtain ⟨r,hr,he⟩ :=List.mem_flatten.1 he
    exact Fe (h.rows r hr) he
  ·obtain ⟨p,hp,rfl⟩ :=List.mem_map.1 he
   exact (h.sets p hp).1
 ·split at he
  ·cases he
  ·rw [List.mem_singleton] at he
   rw [he]
   exact h.wher
theorem Tg {ct :CatD} (h :Cq ct=true) (s :Wd) : (Gb ct s).cols.length≤1000000 :=by
 rw [Gb]
 cases hf :A5 ct.tables s with
 | none=>exact Nat.zero_le _
 | some t=>
  have :=O4 h t (List.mem_of_find?_eq_some hf)
  simp only [Cv,Bool.and_eq_true,decide_eq_true_eq] at this
  show t.cols.length≤_
  omega
theorem Th (ct :CatD) (cv :Value) (st :Stm) (arr :Array Value) (C :Nat) (w :World) (hc :Bh (fun k=>k<C) w ct cv) (hR :Abs.R (fun k=>k<C) w st arr.toList) (hC :C≤w.heap.size) (hen :EnvM w) (hf :LwFit ct st) :
  Calls Tryz.prog 7 #[cv, .agg arr] w (Dc (Bw ct st) w) :=by
 obtain ⟨tv,iv,rfl,htl,hil⟩ :=hc
 obtain ⟨te,tc,rfl⟩ :=htl.shape
 obtain ⟨io,ic,rfl⟩ :=hil.shape
 obtain ⟨o1,c1,o2,c2,o3,c3,o4,c4,o5,c5,op,xk,xn,xs,s,nmv,n8,o6,k6,c6,o7,c7,harr,i1,i2,i3,i4,i5,i6,i7⟩ :=Cy hR
 obtain rfl :=Array.toList_inj.1 harr
 have b1 :=hf.fb.out
 have b2 :=hf.fb.order
 have b3 :=hf.rows
 have b4 :=hf.fb.rows
 have b5 :=hf.fb.sets
 refine Z4 ct _ _ st o1 c1 o2 c2 o3 c3 o4 c4 o5 c5 op xk xn xs s nmv n8 o6 k6 c6 o7 c7 C w ⟨_,_,rfl,htl,hil⟩ i5 i7 hC hen (by omega) _ ?_
 intro W zo zc n _ _ _ _ _ _ _ _ _ _ _ _ l hl P G
 refine Yo _ w W #[] _ P.stm P.bel P.big _ _ zo zc n C hC G st.rows o2 c2 rfl i2 (by rw [List.length_append];omega) (by omega) ?_ _ _ _ _ _ _ _ _ _ _ _ _ l hl
 intro W1 zo1 zc1 n1 _ _ _ _ _ _ _ _ _ _ _ _ l hl hb1 G1
 have P1 :=P.below hb1
 refine W8 _ w W1 #[] _ P1.stm P1.bel P1.big _ _ zo1 zc1 n1 C hC G1 st.sets o3 c3 rfl i3 (by rw [List.length_append,List.length_append];omega) ?_ _ _ _ _ _ _ _ _ _ _ _ _ l hl
 intro W2 zo2 zc2 n2 _ _ _ _ _ _ _ _ _ _ _ _ l hl hb2 G2
 have P2 :=P1.below hb2
 have hn2 :n2≤90000000 :=by rw [←G2.len,List.length_append,List.length_append,List.length_append,List.length_map];omega
 refine Wz _ w W2 _ _ P2.cat P2.stm P2.room P2.bel P2.big _ _ zo2 zc2 n2 C hC G2 hn2 st.wher (Ad op ⟨xk,xn,xs⟩ s nmv n8 (.slice o6 k6 c6)).toList rfl rfl (by rw [Wp i6];rfl) (by intro u hu;simp only [List.mem_cons,List.not_mem_nil,or_false] at hu;rcases hu with rfl | rfl | rfl | rfl | rfl | rfl | rfl | rfl<;>rfl) ⟨rfl,i6⟩ ?_ _ _ _ _ _ _ _ _ _ _ _ _ l hl
 intro W3 zo3 zc3 n3 _ _ _ _ _ _ _ _ _ _ _ _ l hl hb3 G3 hn3
 have P3 :=P2.below hb3
 have G3' :Gath C (w.heap.size+3) W3 zo3 zc3 n3 (Mi st) :=G3
 have hlA :=G3'.len
 subst hlA
 refine Wy _ w W3 _ _ P3.cat P3.stm P3.room P3.bel hen _ (Mi st) zo3 zc3 G3'.isL (Xb hf.fb.fs) (by omega) (fun hbad=> ?_) (fun hgood=> ?_) _ _ _ _ _ _ _ _ _ _ _ _ l hl
 ·rw [Px] at hbad
  rw [Bw]
  split
  ·rfl
  ·rename_i hn
   have h1 :Cq ct=true :=by
    cases h :Cq ct
    ·exact absurd (.inl h) hn
    ·rfl
   have h2 :De st=true :=by
    cases h :De st
    ·exact absurd (.inr h) hn
    ·rfl
   rw [okB,h1,h2] at hbad
   simp only [Bool.true_and,Bool.and_true,Bool.and_eq_false_iff,decide_eq_false_iff_not] at hbad
   rw [Co,if_neg (by omega),if_neg (by omega),if_neg (by omega),if_neg (by omega),if_neg (by omega)]
 ·intro W4 _ _ _ _ _ _ _ _ _ _ _ _ _ _ l hl hb4
  rw [Px,Bool.and_eq_true,okB,Bool.and_eq_true,Bool.and_eq_true,decide_eq_true_eq,decide_eq_true_eq] at hgood
  obtain ⟨⟨⟨hcb,hk1⟩,hk7⟩,hgx⟩ :=hgood
  have P4 :=P3.below (hb4.mono P3.big)
  have hB :Bw ct st=Co ct st :=by
   rw [Bw,if_neg]
   rintro (h | h)
   ·rw [hcb] at h;cases h
   ·rw [hgx] at h;cases h
  rw [hB]
  refine Z5 ct te io tc ic C _ w W4 st _ rfl It P4.cat P4.stm P4.room P4.bel P4.big htl hC (Abs.keep (Ag (P4.bel.mono hC)) hR) hf.fp (Tg hcb _) ?_ _ _ _ _ _ _ _ _ _ _ _ _ _ _ l hl
  intro v lab W5 _ _ _ _ _ _ _ _ _ _ _ l hl hbd ht hv
  by_cases k1 :st.kind=1
  ·exact Uq ct te io tc ic C _ w W5 _ lab v st hbd htl hil hC hen hcb k1 (by rw [Co,if_pos k1]) _ _ _ _ _ _ _ _ _ _ _ _ _ _ l hl
  by_cases k2 :st.kind=2
  ·exact Yf ct te io tc ic C _ w W5 _ lab v st hbd htl hil hC hen hcb ht k2 (by rw [Co,if_neg k1,if_pos k2]) _ _ _ _ _ _ _ _ _ _ _ _ l hl
  by_cases k3 :st.kind=3
  ·exact Ye ct te io tc ic C _ w W5 _ lab v st hbd htl hil hC hen hcb k3 (by rw [Co,if_neg k1,if_neg k2,if_pos k3]) _ _ _ _ _ _ _ _ _ _ _ _ _ _ l hl
  by_cases k4 :st.kind=4∨st.kind=5∨st.kind=6
  ·exact Ux ct te io tc ic C _ w W5 _ lab v st hbd htl hil hC hen hcb ht hv k4 hgx b4 b5 (by rw [Co,if_neg k1,if_neg k2,if_neg k3,if_pos k4]) _ _ _ _ _ _ _ _ _ _ _ l hl
  ·exact U0 ct te io tc ic C _ w W5 _ lab v st hbd htl hil hC hen hcb (by omega) hgx b1 b2 (by rw [Co,if_neg k1,if_neg k2,if_neg k3,if_neg k4,if_pos (by omega)]) _ _ _ _ _ _ _ _ _ _ _ _ _ _ l hl
end Go.Proofs.YtmgkcjiejmhgcaaGreatDoor


/-
  What is put is there, what is dropped is not, all else is as it was: of lists that rise. Nothing of the program.
-/
import Derived.Test.YtfcdkpkmkepcaaaTMath
namespace Go.Proofs.Ytfcdkpkmkepcaaa

theorem Cut.get_put {F k F1 o F2} (c : Cut F k F1 o F2) (v : ByteArray) : getF (putF F k v) k = some v := by
  have : Cut (putF F k v) k F1 (some v) F2 := ⟨by rw [c.put]; simp, c.lo, c.hi⟩
  exact this.get

theorem Cut.get_drop {F k F1 o F2} (c : Cut F k F1 o F2) : getF (dropF F k) k = none := by
  have : Cut (dropF F k) k F1 none F2 := ⟨by rw [c.drop]; simp, c.lo, c.hi⟩
  exact this.get

theorem getF_skip {F1 F2 X : List (ByteArray × ByteArray)} {k z : ByteArray} (hX : ∀ x ∈ X, x.1 = k) (hz : z ≠ k) : getF (F1 ++ (X ++ F2)) z = getF (F1 ++ F2) z := by
  have h : X.find? (fun x => decide (x.1 = z)) = none := by
    rw [List.find?_eq_none]; intro x hx; rw [hX x hx]; simpa using fun e => hz e.symm
  unfold getF
  rw [List.find?_append, List.find?_append, List.find?_append, h]
  simp

theorem Cut.get_put_other {F k F1 o F2} (c : Cut F k F1 o F2) (v : ByteArray) {z : ByteArray} (hz : z ≠ k) : getF (putF F k v) z = getF F z := by
  rw [c.put, show F1 ++ (k, v) :: F2 = F1 ++ ([(k, v)] ++ F2) by simp, getF_skip (k := k) (by simp) hz, c.eq, getF_skip (k := k) (by simp) hz]

theorem Cut.get_drop_other {F k F1 o F2} (c : Cut F k F1 o F2) {z : ByteArray} (hz : z ≠ k) : getF (dropF F k) z = getF F z := by
  rw [c.drop, c.eq, getF_skip (k := k) (by simp) hz]

theorem Cut.length_some {F k F1 v F2} (c : Cut F k F1 (some v) F2) (u : ByteArray) : (putF F k u).length = F.length ∧ (dropF F k).length + 1 = F.length := by
  rw [c.put, c.drop, c.eq]; simp; omega

theorem Cut.length_none {F k F1 F2} (c : Cut F k F1 none F2) (u : ByteArray) : (putF F k u).length = F.length + 1 ∧ (dropF F k).length = F.length := by
  rw [c.put, c.drop, c.eq]; simp; omega

end Go.Proofs.Ytfcdkpkmkepcaaa

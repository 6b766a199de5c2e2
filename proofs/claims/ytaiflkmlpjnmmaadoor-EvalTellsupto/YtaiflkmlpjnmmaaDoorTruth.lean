/-
  Contracts of value.And, value.Or, value.Not: for all integers each returns what the table of P1.3 says and turns nothing.
-/
import Derived.Test.YtaiflkmlpjnmmaaDoorPlain
import Derived.Test.YtaiflkmlpjnmmaaDoorRows
import Derived.WalkKit
namespace Go.Proofs.YtaiflkmlpjnmmaaDoor
open Go.RowKit

def tAnd (a b : Int) : Int := if a = 0 ∨ b = 0 then 0 else if a = 1 ∧ b = 1 then 1 else 2
def tOr (a b : Int) : Int := if a = 1 ∨ b = 1 then 1 else if a = 0 ∧ b = 0 then 0 else 2
def tNot (a : Int) : Int := if a = 0 then 1 else if a = 1 then 0 else 2


set_option maxHeartbeats 400000 in
theorem and_any (a b : Int) (w : World) : Calls Tryd.prog 7 #[.int .i64 a, .int .i64 b] w fun e w' => e = .returned (.int .i64 (tAnd a b)) ∧ w' = w := by
  by_cases ha0 : a = 0 <;> by_cases hb0 : b = 0 <;> by_cases ha1 : a = 1 <;> by_cases hb1 : b = 1
  all_goals
    go_enter Tryd.func7, Tryd.ntmps7
    go_wp2
    all_goals
      go_ret
      exact ⟨ret_int (by simp_all [tAnd]), rfl⟩

set_option maxHeartbeats 400000 in
theorem or_any (a b : Int) (w : World) : Calls Tryd.prog 9 #[.int .i64 a, .int .i64 b] w fun e w' => e = .returned (.int .i64 (tOr a b)) ∧ w' = w := by
  by_cases ha0 : a = 0 <;> by_cases hb0 : b = 0 <;> by_cases ha1 : a = 1 <;> by_cases hb1 : b = 1
  all_goals
    go_enter Tryd.func9, Tryd.ntmps9
    go_wp2
    all_goals
      go_ret
      exact ⟨ret_int (by simp_all [tOr]), rfl⟩

set_option maxHeartbeats 400000 in
theorem not_any (a : Int) (w : World) : Calls Tryd.prog 11 #[.int .i64 a] w fun e w' => e = .returned (.int .i64 (tNot a)) ∧ w' = w := by
  by_cases ha0 : a = 0 <;> by_cases ha1 : a = 1
  all_goals
    go_enter Tryd.func11, Tryd.ntmps11
    go_wp2
    all_goals
      go_ret
      exact ⟨ret_int (by simp_all [tNot]), rfl⟩

end Go.Proofs.YtaiflkmlpjnmmaaDoor

/-
  Contracts of num.Add, num.Sub and of the reference's Add, Sub: each returns the integer, or (0, 9) where it is no int; the world is as it was.
-/
import Derived.Test.YtkblcnomjgocmaaDoorChecked
import Derived.Test.YtkblcnomjgocmaaDoorNumMath
import Derived.WalkKit
import Derived.IntWalk
import Derived.WalkLawsBesides
namespace Go.Proofs.YtkblcnomjgocmaaDoor.numA
open Go.RowKit
open Go.Proofs.YtkblcnomjgocmaaDoor.numM


set_option maxHeartbeats 400000 in
theorem radd_any (a b : Int) (a0 : -9223372036854775808 ≤ a) (a1 : a ≤ 9223372036854775807) (b0 : -9223372036854775808 ≤ b) (b1 : b ≤ 9223372036854775807) (w : World) :
    Calls Tryd.prog 41 #[.int .i64 a, .int .i64 b] w fun e w' => e = .returned (.tuple #[.int .i64 (fitV (a + b)), .int .i64 (fitE (a + b))]) ∧ w = w' := by
  by_cases hb : 0 < b
  · by_cases h : 9223372036854775807 - b < a
    · rw [fitV_hi (by omega), fitE_hi (by omega)]
      go_enter Tryd.func41, Tryd.ntmps41
      go_wp2
      go_ret2
      exact ⟨rfl, rfl⟩
    · rw [fitV_in (by omega) (by omega), fitE_in (by omega) (by omega)]
      go_enter Tryd.func41, Tryd.ntmps41
      go_wp2
      go_ret2
      exact ⟨rfl, rfl⟩
  · by_cases hb' : b < 0
    · by_cases h : a < -9223372036854775808 - b
      · rw [fitV_lo (by omega), fitE_lo (by omega)]
        go_enter Tryd.func41, Tryd.ntmps41
        go_wp2
        go_ret2
        exact ⟨rfl, rfl⟩
      · rw [fitV_in (by omega) (by omega), fitE_in (by omega) (by omega)]
        go_enter Tryd.func41, Tryd.ntmps41
        go_wp2
        go_ret2
        exact ⟨rfl, rfl⟩
    · rw [fitV_in (by omega) (by omega), fitE_in (by omega) (by omega)]
      go_enter Tryd.func41, Tryd.ntmps41
      go_wp2
      go_ret2
      exact ⟨rfl, rfl⟩

end Go.Proofs.YtkblcnomjgocmaaDoor.numA

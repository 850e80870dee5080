/-
  Contracts of num.Add, num.Sub and of the reference's Add, Sub: each returns the integer, or (0, 9) where it is no int; the world is as it was.
-/
import Derived.Test.YtfalonklnfekhaaDoorChecked
import Derived.Test.YtfalonklnfekhaaDoorNumMath
import Derived.WalkKit
import Derived.IntWalk
import Derived.WalkLawsBesides
namespace Go.Proofs.YtfalonklnfekhaaDoor.numA
open Go.RowKit
open Go.Proofs.YtfalonklnfekhaaDoor.numM


set_option maxHeartbeats 400000 in
theorem add_any (a b : Int) (a0 : -9223372036854775808 ≤ a) (a1 : a ≤ 9223372036854775807) (b0 : -9223372036854775808 ≤ b) (b1 : b ≤ 9223372036854775807) (w : World) :
    Calls Tryd.prog 12 #[.int .i64 a, .int .i64 b] w fun e w' => e = .returned (.tuple #[.int .i64 (fitV (a + b)), .int .i64 (fitE (a + b))]) ∧ w = w' := by
  by_cases hb : 0 < b
  · by_cases h : 9223372036854775807 - b < a
    · rw [fitV_hi (by omega), fitE_hi (by omega)]
      go_enter Tryd.func12, Tryd.ntmps12
      go_wp2
      go_ret2
      exact ⟨rfl, rfl⟩
    · rw [fitV_in (by omega) (by omega), fitE_in (by omega) (by omega)]
      go_enter Tryd.func12, Tryd.ntmps12
      go_wp2
      go_ret2
      exact ⟨rfl, rfl⟩
  · by_cases hb' : b < 0
    · by_cases h : a < -9223372036854775808 - b
      · rw [fitV_lo (by omega), fitE_lo (by omega)]
        go_enter Tryd.func12, Tryd.ntmps12
        go_wp2
        go_ret2
        exact ⟨rfl, rfl⟩
      · rw [fitV_in (by omega) (by omega), fitE_in (by omega) (by omega)]
        go_enter Tryd.func12, Tryd.ntmps12
        go_wp2
        go_ret2
        exact ⟨rfl, rfl⟩
    · rw [fitV_in (by omega) (by omega), fitE_in (by omega) (by omega)]
      go_enter Tryd.func12, Tryd.ntmps12
      go_wp2
      go_ret2
      exact ⟨rfl, rfl⟩

set_option maxHeartbeats 400000 in
theorem sub_any (a b : Int) (a0 : -9223372036854775808 ≤ a) (a1 : a ≤ 9223372036854775807) (b0 : -9223372036854775808 ≤ b) (b1 : b ≤ 9223372036854775807) (w : World) :
    Calls Tryd.prog 13 #[.int .i64 a, .int .i64 b] w fun e w' => e = .returned (.tuple #[.int .i64 (fitV (a - b)), .int .i64 (fitE (a - b))]) ∧ w = w' := by
  by_cases hb : b < 0
  · by_cases h : 9223372036854775807 + b < a
    · rw [fitV_hi (by omega), fitE_hi (by omega)]
      go_enter Tryd.func13, Tryd.ntmps13
      go_wp2
      go_ret2
      exact ⟨rfl, rfl⟩
    · rw [fitV_in (by omega) (by omega), fitE_in (by omega) (by omega)]
      go_enter Tryd.func13, Tryd.ntmps13
      go_wp2
      go_ret2
      exact ⟨rfl, rfl⟩
  · by_cases hb' : 0 < b
    · by_cases h : a < -9223372036854775808 + b
      · rw [fitV_lo (by omega), fitE_lo (by omega)]
        go_enter Tryd.func13, Tryd.ntmps13
        go_wp2
        go_ret2
        exact ⟨rfl, rfl⟩
      · rw [fitV_in (by omega) (by omega), fitE_in (by omega) (by omega)]
        go_enter Tryd.func13, Tryd.ntmps13
        go_wp2
        go_ret2
        exact ⟨rfl, rfl⟩
    · rw [fitV_in (by omega) (by omega), fitE_in (by omega) (by omega)]
      go_enter Tryd.func13, Tryd.ntmps13
      go_wp2
      go_ret2
      exact ⟨rfl, rfl⟩

set_option maxHeartbeats 400000 in
theorem radd_any (a b : Int) (a0 : -9223372036854775808 ≤ a) (a1 : a ≤ 9223372036854775807) (b0 : -9223372036854775808 ≤ b) (b1 : b ≤ 9223372036854775807) (w : World) :
    Calls Tryd.prog 15 #[.int .i64 a, .int .i64 b] w fun e w' => e = .returned (.tuple #[.int .i64 (fitV (a + b)), .int .i64 (fitE (a + b))]) ∧ w = w' := by
  by_cases hb : 0 < b
  · by_cases h : 9223372036854775807 - b < a
    · rw [fitV_hi (by omega), fitE_hi (by omega)]
      go_enter Tryd.func15, Tryd.ntmps15
      go_wp2
      go_ret2
      exact ⟨rfl, rfl⟩
    · rw [fitV_in (by omega) (by omega), fitE_in (by omega) (by omega)]
      go_enter Tryd.func15, Tryd.ntmps15
      go_wp2
      go_ret2
      exact ⟨rfl, rfl⟩
  · by_cases hb' : b < 0
    · by_cases h : a < -9223372036854775808 - b
      · rw [fitV_lo (by omega), fitE_lo (by omega)]
        go_enter Tryd.func15, Tryd.ntmps15
        go_wp2
        go_ret2
        exact ⟨rfl, rfl⟩
      · rw [fitV_in (by omega) (by omega), fitE_in (by omega) (by omega)]
        go_enter Tryd.func15, Tryd.ntmps15
        go_wp2
        go_ret2
        exact ⟨rfl, rfl⟩
    · rw [fitV_in (by omega) (by omega), fitE_in (by omega) (by omega)]
      go_enter Tryd.func15, Tryd.ntmps15
      go_wp2
      go_ret2
      exact ⟨rfl, rfl⟩

set_option maxHeartbeats 400000 in
theorem rsub_any (a b : Int) (a0 : -9223372036854775808 ≤ a) (a1 : a ≤ 9223372036854775807) (b0 : -9223372036854775808 ≤ b) (b1 : b ≤ 9223372036854775807) (w : World) :
    Calls Tryd.prog 16 #[.int .i64 a, .int .i64 b] w fun e w' => e = .returned (.tuple #[.int .i64 (fitV (a - b)), .int .i64 (fitE (a - b))]) ∧ w = w' := by
  by_cases hb : b < 0
  · by_cases h : 9223372036854775807 + b < a
    · rw [fitV_hi (by omega), fitE_hi (by omega)]
      go_enter Tryd.func16, Tryd.ntmps16
      go_wp2
      go_ret2
      exact ⟨rfl, rfl⟩
    · rw [fitV_in (by omega) (by omega), fitE_in (by omega) (by omega)]
      go_enter Tryd.func16, Tryd.ntmps16
      go_wp2
      go_ret2
      exact ⟨rfl, rfl⟩
  · by_cases hb' : 0 < b
    · by_cases h : a < -9223372036854775808 + b
      · rw [fitV_lo (by omega), fitE_lo (by omega)]
        go_enter Tryd.func16, Tryd.ntmps16
        go_wp2
        go_ret2
        exact ⟨rfl, rfl⟩
      · rw [fitV_in (by omega) (by omega), fitE_in (by omega) (by omega)]
        go_enter Tryd.func16, Tryd.ntmps16
        go_wp2
        go_ret2
        exact ⟨rfl, rfl⟩
    · rw [fitV_in (by omega) (by omega), fitE_in (by omega) (by omega)]
      go_enter Tryd.func16, Tryd.ntmps16
      go_wp2
      go_ret2
      exact ⟨rfl, rfl⟩
end Go.Proofs.YtfalonklnfekhaaDoor.numA

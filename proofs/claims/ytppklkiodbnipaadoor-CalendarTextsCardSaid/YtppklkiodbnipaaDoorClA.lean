/-
  Contracts of calendar's isDay, isTime, weekdayOf, isLeap, leapYears, yearStart, monthStart, dayOf, dateOf: plain numbers; the world is as it was, but for answers drawn.
-/
import Derived.Test.YtppklkiodbnipaaDoorNumA
import Derived.Test.YtppklkiodbnipaaDoorClMath
import Derived.Lib.Hide
import Derived.Lib.LaidTab
import Derived.Deep.QuietTactic
import Derived.BigQuiet
namespace Go.Proofs.YtppklkiodbnipaaDoor.clA
open Go.RowKit
open Go.Proofs.YtppklkiodbnipaaDoor.clM
set_option linter.unusedVariables false

theorem isday_any (n : Int) (R : Bool) (hR : Hid (R = decide (0 ≤ n ∧ n < 745654))) (w : World) :
    Calls Tryd.prog 25 #[.int .i64 n] w fun e w' => e = .returned (.bool R) ∧ w = w' := by
  by_cases h0 : 0 ≤ n
  · by_cases h1 : n < 745654
    · obtain rfl : R = true := by rw [hR.out]; exact decide_eq_true ⟨h0, h1⟩
      go_enter Tryd.func25, Tryd.ntmps25
      go_wp2_with fail
      go_ret
      exact ⟨rfl, rfl⟩
    · obtain rfl : R = false := by rw [hR.out]; exact decide_eq_false (by omega)
      go_enter Tryd.func25, Tryd.ntmps25
      go_wp2_with fail
      go_ret
      exact ⟨rfl, rfl⟩
  · obtain rfl : R = false := by rw [hR.out]; exact decide_eq_false (by omega)
    go_enter Tryd.func25, Tryd.ntmps25
    go_wp2_with fail
    go_ret
    exact ⟨rfl, rfl⟩
theorem istime_any (n : Int) (R : Bool) (hR : Hid (R = decide (0 ≤ n ∧ n ≤ 1073741824))) (w : World) :
    Calls Tryd.prog 33 #[.int .i64 n] w fun e w' => e = .returned (.bool R) ∧ w = w' := by
  by_cases h0 : 0 ≤ n
  · by_cases h1 : n ≤ 1073741824
    · obtain rfl : R = true := by rw [hR.out]; exact decide_eq_true ⟨h0, h1⟩
      go_enter Tryd.func33, Tryd.ntmps33
      go_wp2_with fail
      go_ret
      exact ⟨rfl, rfl⟩
    · obtain rfl : R = false := by rw [hR.out]; exact decide_eq_false (by omega)
      go_enter Tryd.func33, Tryd.ntmps33
      go_wp2_with fail
      go_ret
      exact ⟨rfl, rfl⟩
  · obtain rfl : R = false := by rw [hR.out]; exact decide_eq_false (by omega)
    go_enter Tryd.func33, Tryd.ntmps33
    go_wp2_with fail
    go_ret
    exact ⟨rfl, rfl⟩
theorem risday_any (n : Int) (R : Bool) (hR : Hid (R = decide (0 ≤ n ∧ n < 745654))) (w : World) :
    Calls Tryd.prog 29 #[.int .i64 n] w fun e w' => e = .returned (.bool R) ∧ w = w' := by
  by_cases h0 : 0 ≤ n
  · by_cases h1 : n < 745654
    · obtain rfl : R = true := by rw [hR.out]; exact decide_eq_true ⟨h0, h1⟩
      go_enter Tryd.func29, Tryd.ntmps29
      go_wp2_with fail
      go_ret
      exact ⟨rfl, rfl⟩
    · obtain rfl : R = false := by rw [hR.out]; exact decide_eq_false (by omega)
      go_enter Tryd.func29, Tryd.ntmps29
      go_wp2_with fail
      go_ret
      exact ⟨rfl, rfl⟩
  · obtain rfl : R = false := by rw [hR.out]; exact decide_eq_false (by omega)
    go_enter Tryd.func29, Tryd.ntmps29
    go_wp2_with fail
    go_ret
    exact ⟨rfl, rfl⟩
theorem ristime_any (n : Int) (R : Bool) (hR : Hid (R = decide (0 ≤ n ∧ n ≤ 1073741824))) (w : World) :
    Calls Tryd.prog 35 #[.int .i64 n] w fun e w' => e = .returned (.bool R) ∧ w = w' := by
  by_cases h0 : 0 ≤ n
  · by_cases h1 : n ≤ 1073741824
    · obtain rfl : R = true := by rw [hR.out]; exact decide_eq_true ⟨h0, h1⟩
      go_enter Tryd.func35, Tryd.ntmps35
      go_wp2_with fail
      go_ret
      exact ⟨rfl, rfl⟩
    · obtain rfl : R = false := by rw [hR.out]; exact decide_eq_false (by omega)
      go_enter Tryd.func35, Tryd.ntmps35
      go_wp2_with fail
      go_ret
      exact ⟨rfl, rfl⟩
  · obtain rfl : R = false := by rw [hR.out]; exact decide_eq_false (by omega)
    go_enter Tryd.func35, Tryd.ntmps35
    go_wp2_with fail
    go_ret
    exact ⟨rfl, rfl⟩

theorem wd_any (n : Nat) (hn : n ≤ 1000000) (w : World) :
    Calls Tryd.prog 31 #[.int .i64 (n : Int)] w fun e w' => e = .returned (.int .i64 (((n + 5) % 7 : Nat) : Int)) ∧ w = w' := by
  go_enter Tryd.func31, Tryd.ntmps31
  go_wp2_with fail
  go_ret
  exact ⟨rfl, rfl⟩
theorem rwd_any (n : Nat) (hn : n ≤ 1000000) (w : World) :
    Calls Tryd.prog 32 #[.int .i64 (n : Int)] w fun e w' => e = .returned (.int .i64 (((n + 5) % 7 : Nat) : Int)) ∧ w = w' := by
  go_enter Tryd.func32, Tryd.ntmps32
  go_wp2_with fail
  go_ret
  exact ⟨rfl, rfl⟩

theorem leap_any (y : Nat) (hy : y ≤ 1000000) (R : Bool) (hR : Hid (R = decide (Lp y))) (w : World) :
    Calls Tryd.prog 44 #[.int .i64 (y : Int)] w fun e w' => e = .returned (.bool R) ∧ w = w' := by
  by_cases h4 : y % 4 = 0
  · have t4 : (y : Int) % 4 = 0 := by omega
    by_cases h100 : y % 100 = 0
    · have t100 : (y : Int) % 100 = 0 := by omega
      by_cases h400 : y % 400 = 0
      · have t400 : (y : Int) % 400 = 0 := by omega
        obtain rfl : R = true := by rw [hR.out]; exact decide_eq_true ⟨h4, .inr h400⟩
        clear h4 h100 h400
        go_enter Tryd.func44, Tryd.ntmps44
        go_wp2_with fail
        go_ret
        exact ⟨rfl, rfl⟩
      · have t400 : ((y : Int) % 400 == 0) = false := by simp; omega
        obtain rfl : R = false := by rw [hR.out]; exact decide_eq_false (by unfold Lp; omega)
        clear h4 h100 h400
        go_enter Tryd.func44, Tryd.ntmps44
        go_wp2_with fail
        go_ret
        exact ⟨rfl, rfl⟩
    · have t100 : ((y : Int) % 100 != 0) = true := by simp; omega
      obtain rfl : R = true := by rw [hR.out]; exact decide_eq_true ⟨h4, .inl h100⟩
      clear h4 h100
      go_enter Tryd.func44, Tryd.ntmps44
      go_wp2_with fail
      go_ret
      exact ⟨rfl, rfl⟩
  · have t4 : ((y : Int) % 4 == 0) = false := by simp; omega
    obtain rfl : R = false := by rw [hR.out]; exact decide_eq_false (by unfold Lp; omega)
    clear h4
    go_enter Tryd.func44, Tryd.ntmps44
    go_wp2_with fail
    go_ret
    exact ⟨rfl, rfl⟩
theorem rleap_any (y : Nat) (hy : y ≤ 1000000) (R : Bool) (hR : Hid (R = decide (Lp y))) (w : World) :
    Calls Tryd.prog 45 #[.int .i64 (y : Int)] w fun e w' => e = .returned (.bool R) ∧ w = w' := by
  by_cases h4 : y % 4 = 0
  · have t4 : (y : Int) % 4 = 0 := by omega
    by_cases h100 : y % 100 = 0
    · have t100 : (y : Int) % 100 = 0 := by omega
      by_cases h400 : y % 400 = 0
      · have t400 : (y : Int) % 400 = 0 := by omega
        obtain rfl : R = true := by rw [hR.out]; exact decide_eq_true ⟨h4, .inr h400⟩
        clear h4 h100 h400
        go_enter Tryd.func45, Tryd.ntmps45
        go_wp2_with fail
        go_ret
        exact ⟨rfl, rfl⟩
      · have t400 : ((y : Int) % 400 == 0) = false := by simp; omega
        obtain rfl : R = false := by rw [hR.out]; exact decide_eq_false (by unfold Lp; omega)
        clear h4 h100 h400
        go_enter Tryd.func45, Tryd.ntmps45
        go_wp2_with fail
        go_ret
        exact ⟨rfl, rfl⟩
    · have t100 : ((y : Int) % 100 != 0) = true := by simp; omega
      obtain rfl : R = true := by rw [hR.out]; exact decide_eq_true ⟨h4, .inl h100⟩
      clear h4 h100
      go_enter Tryd.func45, Tryd.ntmps45
      go_wp2_with fail
      go_ret
      exact ⟨rfl, rfl⟩
  · have t4 : ((y : Int) % 4 == 0) = false := by simp; omega
    obtain rfl : R = false := by rw [hR.out]; exact decide_eq_false (by unfold Lp; omega)
    clear h4
    go_enter Tryd.func45, Tryd.ntmps45
    go_wp2_with fail
    go_ret
    exact ⟨rfl, rfl⟩

theorem lq_any (y : Nat) (hy : y ≤ 1000000) (w : World) :
    Calls Tryd.prog 47 #[.int .i64 (y : Int)] w fun e w' => e = .returned (.int .i64 (lq y : Int)) ∧ w = w' := by
  have e : ((lq y : Nat) : Int) = (y : Int) / 4 - (y : Int) / 100 + (y : Int) / 400 := by unfold lq; omega
  rw [e]
  clear e
  go_enter Tryd.func47, Tryd.ntmps47
  go_wp2_with fail
  go_ret
  exact ⟨rfl, rfl⟩
end Go.Proofs.YtppklkiodbnipaaDoor.clA

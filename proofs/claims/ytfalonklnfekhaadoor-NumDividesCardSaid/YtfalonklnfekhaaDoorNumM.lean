/-
  The law NumDivides, put together: division in two words.
-/
import Derived.Test.YtfalonklnfekhaaDoorNumL
namespace Go.Proofs.YtfalonklnfekhaaDoor.numM2
open Go.RowKit
open Go.Proofs.YtfalonklnfekhaaDoor.numM Go.Proofs.YtfalonklnfekhaaDoor.numA Go.Proofs.YtfalonklnfekhaaDoor.numB Go.Proofs.YtfalonklnfekhaaDoor.numD Go.Proofs.YtfalonklnfekhaaDoor.numE Go.Proofs.YtfalonklnfekhaaDoor.numW Go.Proofs.YtfalonklnfekhaaDoor.numL
set_option linter.unusedVariables false

theorem quot_mul_small (p z : Nat) (hz : z < 9223372036854775808) (hq : p / z ≤ 9223372036854775807) : p / z * z / 18446744073709551616 < 9223372036854775808 := by
  have h1 : p / z * z < 9223372036854775808 * 9223372036854775808 := Nat.mul_lt_mul'' (by omega) hz
  generalize p / z * z = m at *
  omega

theorem divides (a b c : Int) (a0 : -9223372036854775808 ≤ a) (a1 : a ≤ 9223372036854775807) (b0 : -9223372036854775808 ≤ b) (b1 : b ≤ 9223372036854775807) (c0 : -9223372036854775808 ≤ c) (c1 : c ≤ 9223372036854775807) (w : World) (h : Tab w) :
    Calls Tryd.prog 6 #[.int .i64 a, .int .i64 b, .int .i64 c] w fun e w' => e = .returned (.bool true) ∧ Below w.heap.size w w' := by
  have k1 := fun w => (md_any a b c a0 a1 b0 b1 c0 c1 w).1
  by_cases h3 : a < 0 ∨ b < 0 ∨ c ≤ 0
  · by_cases hc : c = 0
    · subst hc
      obtain ⟨e1, e2, e3⟩ := md_zero a b
      rw [e1, e2, e3] at k1
      exact divides_early a b 0 10 (by decide) h3 k1 w h
    · obtain ⟨e1, e2, e3⟩ := md_neg a b c hc (by omega)
      rw [e1, e2, e3] at k1
      exact divides_early a b c 2 (by decide) h3 k1 w h
  · obtain ⟨x, rfl⟩ := Int.eq_ofNat_of_zero_le (show 0 ≤ a by omega)
    obtain ⟨y, rfl⟩ := Int.eq_ofNat_of_zero_le (show 0 ≤ b by omega)
    obtain ⟨z, rfl⟩ := Int.eq_ofNat_of_zero_le (show 0 ≤ c by omega)
    have hx : x < 9223372036854775808 := by omega
    have hy : y < 9223372036854775808 := by omega
    have hz0 : 0 < z := by omega
    have hz : z < 9223372036854775808 := by omega
    clear a0 a1 b0 b1 c0 c1 h3
    have k2 := fun w => lwide_any x y (by omega) (by omega) w
    have k3 := fun w => lwide_any z 9223372036854775808 (by omega) (by omega) w
    have ok := md_ok x y z hz0
    have ov := md_over x y z hz0
    have oi := over_iff (x * y) z hz0
    have wl := words_le (x * y) (z * 9223372036854775808)
    by_cases ho : z * 9223372036854775808 ≤ x * y
    · obtain ⟨e1, e2, e3⟩ := ov (oi.1 ho)
      rw [e1, e2, e3] at k1
      have ho2 := wl.1 ho
      exact divides_over x y z _ _ _ _ hx hy hz0 hz (by omega) k1 k2 k3 w h
    · have hq : x * y / z ≤ 9223372036854775807 := Decidable.byContradiction fun hn => ho (oi.2 hn)
      obtain ⟨e1, e2, e3⟩ := ok hq
      rw [e1, e2, e3] at k1
      have hn := mt wl.2 ho
      have k4 := fun w => lwide_any (x * y / z) z (by omega) (by omega) w
      have hR : x * y % z < z := Nat.mod_lt _ hz0
      have hp : x * y / z * z + x * y % z = x * y := by have := Nat.div_add_mod (x * y) z; rw [Nat.mul_comm] at this; exact this
      have hX := quot_mul_small (x * y) z hz hq
      obtain ⟨wa, wb, wc⟩ := words_add (x * y / z * z) (x * y % z) (by omega)
      rw [hp] at wa wb wc
      refine divides_ok x y z _ _ _ _ (x * y / z) (x * y % z) _ _ _ hx hy hz0 hz (by omega) (by omega) hq hR hX ?_ wa.symm (fun hh => wb (by omega)) (fun hh => wc (by omega)) k1 k2 k3 k4 w h
      rw [addN, wrapM]
end Go.Proofs.YtfalonklnfekhaaDoor.numM2

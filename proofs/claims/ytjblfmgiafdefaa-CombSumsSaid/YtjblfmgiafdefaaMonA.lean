/-
  Contracts of money.Valid, Part, Round, Even and of the reference's: plain numbers; the world is as it was.
-/
import Derived.Test.YtjblfmgiafdefaaNumE
import Derived.Deep.QuietTactic
import Derived.BigQuiet
namespace Go.Proofs.Ytjblfmgiafdefaa.monA
open Go.RowKit
open Go.Proofs.Ytjblfmgiafdefaa.numM Go.Proofs.Ytjblfmgiafdefaa.numA Go.Proofs.Ytjblfmgiafdefaa.numB
set_option linter.unusedVariables false

/-- an amount -/
def vB (m : Int) : Bool := decide (0 ≤ m ∧ m ≤ 1000000000000)
theorem vB_yes {m : Int} (h0 : 0 ≤ m) (h1 : m ≤ 1000000000000) : vB m = true := decide_eq_true ⟨h0, h1⟩
theorem vB_no {m : Int} (h : m < 0 ∨ 1000000000000 < m) : vB m = false := decide_eq_false (by omega)
theorem vB_iff {m : Int} : vB m = true ↔ 0 ≤ m ∧ m ≤ 1000000000000 := by unfold vB; exact decide_eq_true_iff
theorem vB_not {m : Int} (h : vB m = false) : m < 0 ∨ 1000000000000 < m := by
  have := of_decide_eq_false h; omega

/-! ### Part -/
theorem prod_bd {m bp : Int} (h0 : 0 ≤ m) (h1 : m ≤ 1000000000000) (b0 : 0 ≤ bp) (b1 : bp ≤ 10000) : 0 ≤ m * bp ∧ m * bp ≤ 10000000000000000 := by
  refine ⟨Int.mul_nonneg h0 b0, ?_⟩
  have := Int.mul_le_mul h1 b1 b0 (by omega)
  omega
def PartIn (m bp : Int) : Prop := (0 ≤ m ∧ m ≤ 1000000000000) ∧ 0 ≤ bp ∧ bp ≤ 10000

/-! ### Round and Even -/
def RoundIn (m u : Int) : Prop := (0 ≤ m ∧ m ≤ 1000000000000) ∧ 1 ≤ u ∧ u ≤ 1000000000000
def EvenIn (m u : Int) : Prop := (0 ≤ m ∧ m ≤ 1000000000000) ∧ 1 ≤ u
theorem round_bd {m u : Int} (h0 : 0 ≤ m) (h1 : 1 ≤ u) : 0 ≤ m % u ∧ m % u ≤ m ∧ m / u * u = m - m % u ∧ 0 ≤ m / u ∧ m / u ≤ m := by
  have a := Int.emod_nonneg m (show u ≠ 0 by omega)
  have b := Int.ediv_mul_add_emod m u
  have c : 0 ≤ m / u := Int.ediv_nonneg h0 (by omega)
  have d : 0 ≤ m / u * u := Int.mul_nonneg c (by omega)
  have f : m / u * 1 ≤ m / u * u := Int.mul_le_mul_of_nonneg_left h1 c
  omega

end Go.Proofs.Ytjblfmgiafdefaa.monA

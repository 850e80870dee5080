/-
  Contracts of Mul, DivMod, GCD of nat.
-/
import Derived.Test.YtjbckijeobmoeaaDoorNatH
namespace Go.Proofs.YtjbckijeobmoeaaDoor.natI
open Go.RowKit
open Go.Proofs.YtjbckijeobmoeaaDoor.natM Go.Proofs.YtjbckijeobmoeaaDoor.natA Go.Proofs.YtjbckijeobmoeaaDoor.natB Go.Proofs.YtjbckijeobmoeaaDoor.natC Go.Proofs.YtjbckijeobmoeaaDoor.natD Go.Proofs.YtjbckijeobmoeaaDoor.natE Go.Proofs.YtjbckijeobmoeaaDoor.natF Go.Proofs.YtjbckijeobmoeaaDoor.natG Go.Proofs.YtjbckijeobmoeaaDoor.natH
set_option linter.unusedVariables false

/-! ### Mul -/
theorem mul_lt {X Y n m : Nat} (hX : X < 4294967296 ^ n) (hY : Y < 4294967296 ^ m) : X * Y < 4294967296 ^ (n + m) := by
  rw [Nat.pow_add]
  rcases Nat.eq_zero_or_pos Y with rfl | h
  · rw [Nat.mul_zero]; exact Nat.mul_pos (Nat.pow_pos (by omega)) (by omega)
  · exact Nat.mul_lt_mul_of_lt_of_le hX (by omega) (by omega)

def mulE (n X m Y : Nat) : Int := rE (valB n X) (valB m Y) (X * Y)
def mulV (n X m Y : Nat) : Nat := rV (valB n X) (valB m Y) (X * Y)
end Go.Proofs.YtjbckijeobmoeaaDoor.natI

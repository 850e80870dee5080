/-
  The contract of divide of nat: quotient and remainder of two numbers.
-/
import Derived.Test.YtjbckijeobmoeaaDoorNatE
import Derived.Test.YtjbckijeobmoeaaDoorShelf
import Derived.Lib.ItoaNum
namespace Go.Proofs.YtjbckijeobmoeaaDoor.natF
open Go.RowKit
open Go.Proofs.YtjbckijeobmoeaaDoor.natM Go.Proofs.YtjbckijeobmoeaaDoor.natA Go.Proofs.YtjbckijeobmoeaaDoor.natB Go.Proofs.YtjbckijeobmoeaaDoor.natC Go.Proofs.YtjbckijeobmoeaaDoor.natD Go.Proofs.YtjbckijeobmoeaaDoor.natE
set_option linter.unusedVariables false

/-- a slice of the digits of a number -/
def Num (w : World) (A : Option Addr) (n c v : Nat) : Prop := n = nlen 4294967296 v ∧ n ≤ c ∧ Cel .u32 w A (dg 4294967296 n v)
theorem Num.below {w w1 : World} {A : Option Addr} {n c v : Nat} (h : Num w A n c v) (hb : Below w.heap.size w w1) : Num w1 A n c v := ⟨h.1, h.2.1, h.2.2.below hb⟩
theorem Num.lt {w : World} {A : Option Addr} {n c v : Nat} (h : Num w A n c v) : v < 4294967296 ^ n := by rw [h.1]; exact nlen_lt (by omega) v

/-- the slice lies in memory that is new since then -/
def New (w : World) (A : Option Addr) (n : Nat) : Prop := 0 < n → ∀ ad, A = some ad → w.heap.size ≤ ad.block
theorem New.far {w : World} {A : Option Addr} {n b : Nat} (h : New w A n) (hb : b < w.heap.size) : Far A n b := fun hp ad e => by
  have := h hp ad e; omega
theorem New.none_ (w : World) (n : Nat) : New w none n := fun _ _ e => by cases e
theorem New.some_ {w : World} {g o n : Nat} (h : w.heap.size ≤ g) : New w (some ⟨g, o, none⟩) n := fun _ _ e => by injection e with e; subst e; exact h
def DivP (Q R : Nat) (w : World) (e : Ending) (w' : World) : Prop :=
  ∃ A n c A2 n2 c2, e = .returned (.tuple #[.slice A n c, .slice A2 n2 c2]) ∧ Num w' A n c Q ∧ Num w' A2 n2 c2 R ∧ New w A n ∧ New w A2 n2 ∧ Below w.heap.size w w'

theorem Num.nil (w : World) : Num w none 0 0 0 := ⟨(nlen_zero _).symm, by omega, Cel.nil _ _ _⟩
theorem CloneP.num {n v : Nat} {w : World} {e : Ending} {w' : World} (hn : n = nlen 4294967296 v) (h : CloneP n v w e w') : ∃ A c, e = .returned (.slice A n c) ∧ Num w' A n c v ∧ New w A n ∧ Below w.heap.size w w' := by
  obtain ⟨A, c, he, hc, ho, hb⟩ := h
  rcases ho with ⟨rfl, rfl⟩ | ⟨g, rfl, hg, ho⟩
  · exact ⟨none, c, he, ⟨hn, hc, Cel.nil _ _ _⟩, New.none_ _ _, hb⟩
  · exact ⟨_, c, he, ⟨hn, hc, ho.all⟩, New.some_ hg, hb⟩

theorem div_round {X D j M n N j1 dl : Nat} (hn : n = j1 + 1) (hN : N = n + 1) (hM : M = n + dl + 1) (hj : j < dl + 1) (hD0 : 4294967296 ^ j1 ≤ D) (hD : D < 4294967296 ^ n) :
    ∃ R W Q : Nat, R = X % (4294967296 ^ (j + 1) * D) ∧ Q = W / D ∧ Q < 4294967296 ∧ W < D * 4294967296 ∧ Q = X / D / 4294967296 ^ j % 4294967296 ∧ (∀ k, k < N → at0 (dg 4294967296 M R) (j + k) = W / 4294967296 ^ k % 4294967296) ∧
      put (dg 4294967296 M R) j (dg 4294967296 N (W % D)) = dg 4294967296 M (X % (4294967296 ^ j * D)) := by
  have hP : 0 < 4294967296 ^ j := Nat.pow_pos (by omega)
  have hDp : 0 < D := Nat.lt_of_lt_of_le (Nat.pow_pos (by omega)) hD0
  obtain ⟨a1, a2, a3⟩ := div_step (B := 4294967296) (X := X) (D := D) (i := j) (by omega) hDp
  refine ⟨_, _, _, rfl, rfl, by rw [a2]; exact Nat.mod_lt _ (by omega), a1, a2, fun k hk => ?_, ?_⟩
  · rw [dg_at (by omega), Nat.div_div_eq_div_mul, ← Nat.pow_add]
  · generalize X % (4294967296 ^ (j + 1) * D) = R at *
    have e1 : (4294967296 : Nat) ^ N = 4294967296 ^ n * 4294967296 := by rw [hN, Nat.pow_succ]
    have h1 : R / 4294967296 ^ j < 4294967296 ^ N := by omega
    have h2 : R < 4294967296 ^ (j + N) := by
      rw [Nat.pow_add, Nat.mul_comm]
      exact (Nat.div_lt_iff_lt_mul hP).1 h1
    have h3 := Nat.mod_lt (R / 4294967296 ^ j) hDp
    rw [put_dg (by omega) (by omega) (by omega) h2, a3]
theorem own_dg {w : World} {g n m v : Nat} (h : Own .u32 w g (dg 4294967296 m v)) (hn : n ≤ m) : Cel .u32 w (some ⟨g, 0, none⟩) (dg 4294967296 n v) :=
  own_cel h (by rw [dg_len]; omega) fun j hj => by rw [Nat.zero_add, dg_at (by omega)]

end Go.Proofs.YtjbckijeobmoeaaDoor.natF

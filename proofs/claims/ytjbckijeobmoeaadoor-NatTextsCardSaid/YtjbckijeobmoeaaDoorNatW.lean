/-
  The reference's divide: bit by bit.
-/
import Derived.Test.YtjbckijeobmoeaaDoorNatV
namespace Go.Proofs.YtjbckijeobmoeaaDoor.natW
open Go.RowKit
open Go.Proofs.YtjbckijeobmoeaaDoor.natM Go.Proofs.YtjbckijeobmoeaaDoor.natA Go.Proofs.YtjbckijeobmoeaaDoor.natB Go.Proofs.YtjbckijeobmoeaaDoor.natC Go.Proofs.YtjbckijeobmoeaaDoor.natD Go.Proofs.YtjbckijeobmoeaaDoor.natE Go.Proofs.YtjbckijeobmoeaaDoor.natF Go.Proofs.YtjbckijeobmoeaaDoor.natG Go.Proofs.YtjbckijeobmoeaaDoor.natR Go.Proofs.YtjbckijeobmoeaaDoor.natS Go.Proofs.YtjbckijeobmoeaaDoor.natT Go.Proofs.YtjbckijeobmoeaaDoor.natU Go.Proofs.YtjbckijeobmoeaaDoor.natV
set_option linter.unusedVariables false

theorem hal_cel {w : World} {A : Option Addr} {n c v : Nat} (h : Hal w A n c v) : Cel .i64 w A (dg 65536 n v) := h.2.2
theorem hal_len {w : World} {A : Option Addr} {n c v : Nat} (h : Hal w A n c v) : n = nlen 65536 v := h.1
theorem cel_cell {K : IntKind} {w : World} {b off : Nat} {zs : List Nat} (h : Cel K w (some ⟨b, off, none⟩) zs) {k : Nat} (hk : k < zs.length) : w.cell? ⟨b, off + k, none⟩ = some (.int K (at0 zs k : Int)) := by
  obtain ⟨b', off', e, hc⟩ := h.at_ hk
  injection e with e; injection e with e1 e2; subst e1 e2; exact hc
theorem hal_set {w : World} {A : Option Addr} {n c v : Nat} {p : Addr} (h : Hal w A n c v) (hf : Far A n p.block) (u : Value) : Hal (w.setCell p u) A n c v := ⟨h.1, h.2.1, h.2.2.set_ (by rw [dg_len]; exact hf) u⟩
theorem cel_one (w : World) (T : TypeId) : Cel .i64 (w.alloc (.cells #[.int .i64 1] T)) (some ⟨w.heap.size, 0, none⟩) (dg 65536 1 1) := fun _ => ⟨w.heap.size, 0, rfl, fun j x hx => by
  have hj := lt_of_some hx
  rw [dg_len] at hj
  obtain rfl : j = 0 := by omega
  have : x = 1 := by simp [dg] at hx; exact hx.symm
  subst this
  rw [cell_of_row _ _ _ _ _ _ (heap_alloc_new w _)]; rfl⟩

/-- one bit more: the number so far, the quotient, the remainder -/
theorem bit_step {U Y t d e : Nat} (hY : 0 < Y) (ht : t < 16) (hd : d = U / 2 ^ t % 2) (he : e = if Y ≤ 2 * (U / 2 ^ (t + 1) % Y) + d then 1 else 0) :
    2 * (U / 2 ^ (t + 1) % Y) + d - e * Y = U / 2 ^ t % Y ∧ (U / 2 ^ (t + 1) / Y % 2 ^ (16 - (t + 1))) * 2 ^ (t + 1) + e * 2 ^ t = (U / 2 ^ t / Y % 2 ^ (16 - t)) * 2 ^ t ∧ 2 * (U / 2 ^ (t + 1) % Y) + d < 2 * Y := by
  have e1 : U / 2 ^ t = 2 * (U / 2 ^ (t + 1)) + d := by
    have := Nat.div_add_mod (U / 2 ^ t) 2
    rw [Nat.div_div_eq_div_mul, ← Nat.pow_succ, ← hd] at this
    exact this.symm
  obtain ⟨Z, hZ⟩ : ∃ Z, Z = U / 2 ^ (t + 1) := ⟨_, rfl⟩
  rw [← hZ] at e1 he ⊢
  have hr := Nat.mod_lt Z hY
  have hd2 : d < 2 := by rw [hd]; exact Nat.mod_lt _ (by omega)
  have hz := Nat.div_add_mod Z Y
  have key : U / 2 ^ t = Y * (2 * (Z / Y) + e) + (2 * (Z % Y) + d - e * Y) ∧ 2 * (Z % Y) + d - e * Y < Y := by
    have h2 : Y * (2 * (Z / Y)) = 2 * (Y * (Z / Y)) := by rw [Nat.mul_left_comm]
    by_cases h : Y ≤ 2 * (Z % Y) + d
    · rw [if_pos h] at he
      subst he
      rw [Nat.mul_add, Nat.mul_one, Nat.one_mul, h2, e1]
      omega
    · rw [if_neg h] at he
      subst he
      rw [Nat.mul_add, Nat.mul_zero, Nat.zero_mul, h2, e1]
      omega
  have hq : U / 2 ^ t / Y = 2 * (Z / Y) + e := by
    rw [key.1, Nat.mul_add_div hY, Nat.div_eq_of_lt key.2, Nat.add_zero]
  have hm : U / 2 ^ t % Y = 2 * (Z % Y) + d - e * Y := by
    rw [key.1, Nat.mul_add_mod, Nat.mod_eq_of_lt key.2]
  refine ⟨hm.symm, ?_, by omega⟩
  rw [hq]
  have he2 : e < 2 := by rw [he]; split <;> omega
  obtain ⟨s, hs⟩ : ∃ s, 16 - t = s + 1 := ⟨15 - t, by omega⟩
  rw [hs, show 16 - (t + 1) = s by omega]
  have h3 : (2 * (Z / Y) + e) % 2 ^ (s + 1) = 2 * (Z / Y % 2 ^ s) + e := by
    rw [Nat.pow_succ, Nat.mul_comm (2 ^ s) 2, Nat.mod_mul]
    have a1 : (2 * (Z / Y) + e) % 2 = e := by omega
    have a2 : (2 * (Z / Y) + e) / 2 = Z / Y := by omega
    rw [a1, a2]; omega
  rw [h3, Nat.pow_succ, Nat.add_mul, Nat.mul_comm 2 (Z / Y % 2 ^ s), Nat.mul_assoc, Nat.mul_comm 2 (2 ^ t)]
theorem bit_of {X i t : Nat} (ht : t < 16) : (X / 65536 ^ i % 65536) / 2 ^ t % 2 = X / 65536 ^ i / 2 ^ t % 2 := by
  generalize X / 65536 ^ i = U
  have e : (65536 : Nat) = 2 ^ t * (2 * 2 ^ (15 - t)) := by
    rw [← Nat.mul_assoc, ← Nat.pow_succ, ← Nat.pow_add, show t + 1 + (15 - t) = 16 by omega]
  rw [e, Nat.mod_mul_right_div_self, Nat.mod_mul_right_mod]
theorem bit_top {X i : Nat} : X / 65536 ^ i / 2 ^ 16 = X / 65536 ^ (i + 1) := by
  rw [Nat.div_div_eq_div_mul, show (2 : Nat) ^ 16 = 65536 by rfl, ← Nat.pow_succ]
theorem bit_half {T : Nat} : (2 ^ (T + 1) / 2 : Nat) = 2 ^ T := by rw [Nat.pow_succ, Nat.mul_div_cancel _ (by omega)]
theorem bit_le {t : Nat} (ht : t < 16) : 2 ^ t ≤ 32768 := Nat.le_trans (Nat.pow_le_pow_right (show 0 < 2 by omega) (show t ≤ 15 by omega)) (by decide)
theorem quo_bd (U Y T : Nat) (hT : T ≤ 16) : (U / Y % 2 ^ (16 - T)) * 2 ^ T < 65536 := by
  have h1 := Nat.mod_lt (U / Y) (Nat.pow_pos (show 0 < 2 by omega) (n := 16 - T))
  have h2 : (U / Y % 2 ^ (16 - T) + 1) * 2 ^ T ≤ 2 ^ (16 - T) * 2 ^ T := Nat.mul_le_mul_right _ h1
  rw [← Nat.pow_add, show 16 - T + T = 16 by omega, Nat.add_mul, Nat.one_mul] at h2
  have := Nat.pow_pos (show 0 < 2 by omega) (n := T)
  have e : (2 : Nat) ^ 16 = 65536 := by rfl
  omega

def DivH (Q R : Nat) (w : World) (e : Ending) (w' : World) : Prop :=
  ∃ A n c A2 n2 c2, e = .returned (.tuple #[.slice A n c, .slice A2 n2 c2]) ∧ Hal w' A n c Q ∧ Hal w' A2 n2 c2 R ∧ Below w.heap.size w w'

end Go.Proofs.YtjbckijeobmoeaaDoor.natW

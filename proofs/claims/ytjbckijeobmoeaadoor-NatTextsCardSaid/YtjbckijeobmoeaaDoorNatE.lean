/-
  The contract of takeDigit of nat.
-/
import Derived.Test.YtjbckijeobmoeaaDoorNatD
namespace Go.Proofs.YtjbckijeobmoeaaDoor.natE
open Go.RowKit
open Go.Proofs.YtjbckijeobmoeaaDoor.natM Go.Proofs.YtjbckijeobmoeaaDoor.natA Go.Proofs.YtjbckijeobmoeaaDoor.natB Go.Proofs.YtjbckijeobmoeaaDoor.natC Go.Proofs.YtjbckijeobmoeaaDoor.natD
set_option linter.unusedVariables false

theorem win_dg {zs : List Nat} {o n V j : Nat} (ho : o + n ≤ zs.length) (hj : j < n) : at0 (put zs o (dg 4294967296 n V)) (o + j) = V / 4294967296 ^ j % 4294967296 := by
  rw [put_at (by rw [dg_len]; exact ho), dg_len, if_pos (by omega), Nat.add_sub_cancel_left, dg_at hj]
theorem put_put {zs ys us : List Nat} {o : Nat} (h : o + ys.length ≤ zs.length) (hl : us.length = ys.length) : put (put zs o ys) o us = put zs o us := by
  apply ext0
  · rw [put_len (by rw [put_len h]; omega), put_len h, put_len (by omega)]
  · intro k _
    rw [put_at (by rw [put_len h]; omega), put_at h, put_at (by omega), hl]
    by_cases h1 : o ≤ k ∧ k < o + ys.length
    · rw [if_pos h1, if_pos h1]
    · rw [if_neg h1, if_neg h1, if_neg h1]
theorem own_win {w : World} {zs : List Nat} {g o n V : Nat} (h : Own .u32 w g (put zs o (dg 4294967296 n V))) (ho : o + n ≤ zs.length) : Cel .u32 w (some ⟨g, o, none⟩) (dg 4294967296 n V) :=
  h.cel fun j hj => by
    rw [dg_len] at hj
    rw [put_len (by rw [dg_len]; exact ho), win_dg ho hj, dg_at hj]
    exact ⟨by omega, rfl⟩
theorem own_cel {w : World} {zs : List Nat} {g o n V : Nat} (h : Own .u32 w g zs) (ho : o + n ≤ zs.length) (hwin : ∀ j, j < n → at0 zs (o + j) = V / 4294967296 ^ j % 4294967296) : Cel .u32 w (some ⟨g, o, none⟩) (dg 4294967296 n V) :=
  h.cel fun j hj => by
    rw [dg_len] at hj
    rw [hwin j hj, dg_at hj]
    exact ⟨by omega, rfl⟩

/-- the first guess -/
theorem guess_round {W D j n N rh rl dt : Nat} (hn : n = j + 1) (hN : N = n + 1) (hW : W < D * 4294967296) (hDl : 4294967296 ^ j ≤ D) (hDh : D < 4294967296 ^ n)
    (h1 : rh = W / 4294967296 ^ n % 4294967296) (h2 : rl = W / 4294967296 ^ j % 4294967296) (h3 : dt = D / 4294967296 ^ j % 4294967296) :
    ∃ H1 Hh q0 : Nat, (rh : Int) * 4294967296 = (H1 : Int) ∧ bits .or .u64 (H1 : Int) (rl : Int) = (Hh : Int) ∧ (Hh : Int) / (dt : Int) = (q0 : Int) ∧ H1 < 18446744073709551616 ∧ Hh < 18446744073709551616 ∧ q0 < 18446744073709551616 ∧ rh < 4294967296 ∧ rl < 4294967296 ∧ dt < 4294967296 ∧ 0 < dt ∧
      (∃ t0 : Nat, (if (4294967295 : Int) < (q0 : Int) then (4294967295 : Int) else (q0 : Int)) = (t0 : Int) ∧ t0 < 4294967296 ∧ W / D ≤ t0) ∧ W < 4294967296 ^ N := by
  have b1 : rh < 4294967296 := by rw [h1]; exact Nat.mod_lt _ (by omega)
  have b2 : rl < 4294967296 := by rw [h2]; exact Nat.mod_lt _ (by omega)
  have b3 : dt < 4294967296 := by rw [h3]; exact Nat.mod_lt _ (by omega)
  have hP : 0 < 4294967296 ^ j := Nat.pow_pos (by omega)
  have eB : (4294967296 : Nat) ^ n = 4294967296 ^ j * 4294967296 := by rw [hn, Nat.pow_succ]
  have hd : D / 4294967296 ^ j < 4294967296 := Nat.div_lt_of_lt_mul (by rw [← eB]; exact hDh)
  have hd0 : 0 < D / 4294967296 ^ j := Nat.div_pos hDl hP
  have ed : dt = D / 4294967296 ^ j := by rw [h3, Nat.mod_eq_of_lt hd]
  have hWN : W < 4294967296 ^ N := by
    have : D * 4294967296 < 4294967296 ^ N := by rw [hN, Nat.pow_succ]; omega
    omega
  have eH : rh * 4294967296 + rl = W / 4294967296 ^ j := by
    have e1 := Nat.mod_add_div (W / 4294967296 ^ j) 4294967296
    rw [Nat.div_div_eq_div_mul, ← eB] at e1
    have e2 : W / 4294967296 ^ n < 4294967296 := Nat.div_lt_of_lt_mul (by rw [hN, Nat.pow_succ] at hWN; exact hWN)
    rw [h1, h2, Nat.mod_eq_of_lt e2]; omega
  obtain ⟨g1, g2⟩ := guess_ge (B := 4294967296) (W := W) (D := D) (P := 4294967296 ^ j) hP hd0 hW
  rw [← ed, ← eH] at g1
  have hq : (rh * 4294967296 + rl) / dt ≤ rh * 4294967296 + rl := Nat.div_le_self _ _
  refine ⟨rh * 4294967296, rh * 4294967296 + rl, (rh * 4294967296 + rl) / dt, by omega, or_word rh rl b1 b2, by rw [Int.natCast_ediv], by omega, by omega, by omega, b1, b2, b3, by omega, ?_, hWN⟩
  generalize (rh * 4294967296 + rl) / dt = q at *
  by_cases h : (4294967295 : Int) < (q : Int)
  · exact ⟨4294967295, by rw [if_pos h]; rfl, by omega, by omega⟩
  · exact ⟨q, by rw [if_neg h], by omega, g1⟩
end Go.Proofs.YtjbckijeobmoeaaDoor.natE

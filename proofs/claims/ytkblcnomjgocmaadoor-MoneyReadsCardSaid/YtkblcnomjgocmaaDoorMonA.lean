/-
  Contracts of money.Valid, Part, Round, Even and of the reference's: plain numbers; the world is as it was.
-/
import Derived.Test.YtkblcnomjgocmaaDoorNumE
import Derived.Deep.QuietTactic
import Derived.BigQuiet
namespace Go.Proofs.YtkblcnomjgocmaaDoor.monA
open Go.RowKit
open Go.Proofs.YtkblcnomjgocmaaDoor.numM Go.Proofs.YtkblcnomjgocmaaDoor.numA Go.Proofs.YtkblcnomjgocmaaDoor.numB
set_option linter.unusedVariables false

/-- an amount -/
def vB (m : Int) : Bool := decide (0 ≤ m ∧ m ≤ 1000000000000)
theorem vB_yes {m : Int} (h0 : 0 ≤ m) (h1 : m ≤ 1000000000000) : vB m = true := decide_eq_true ⟨h0, h1⟩
theorem vB_no {m : Int} (h : m < 0 ∨ 1000000000000 < m) : vB m = false := decide_eq_false (by omega)
theorem vB_iff {m : Int} : vB m = true ↔ 0 ≤ m ∧ m ≤ 1000000000000 := by unfold vB; exact decide_eq_true_iff
theorem vB_not {m : Int} (h : vB m = false) : m < 0 ∨ 1000000000000 < m := by
  have := of_decide_eq_false h; omega

set_option maxHeartbeats 400000 in
theorem valid_any (m : Int) (R : Bool) (hR : Hid (R = vB m)) (w : World) :
    Calls Tryd.prog 14 #[.int .i64 m] w fun e w' => e = .returned (.bool R) ∧ w = w' := by
  have ret_b : ∀ {a b : Bool}, a = b → Ending.returned (.bool a) = .returned (.bool b) := fun h => by rw [h]
  by_cases h0 : m < 0
  · have e := hR.out.trans (vB_no (.inl h0))
    subst e
    clear hR
    have h0' : decide (0 ≤ m) = false := by simpa using h0
    go_enter Tryd.func14, Tryd.ntmps14
    go_wp2
    go_ret
    exact ⟨rfl, rfl⟩
  · by_cases h1 : 1000000000000 < m
    · have e := hR.out.trans (vB_no (.inr h1))
      subst e
      clear hR
      have h1' : decide (m ≤ 1000000000000) = false := by simpa using h1
      go_enter Tryd.func14, Tryd.ntmps14
      go_wp2
      go_ret
      exact ⟨rfl, rfl⟩
    · have e := hR.out.trans (vB_yes (by omega) (by omega))
      subst e
      clear hR
      go_enter Tryd.func14, Tryd.ntmps14
      go_wp2
      go_ret
      exact ⟨rfl, rfl⟩

set_option maxHeartbeats 400000 in
theorem rvalid_any (m : Int) (R : Bool) (hR : Hid (R = vB m)) (w : World) :
    Calls Tryd.prog 15 #[.int .i64 m] w fun e w' => e = .returned (.bool R) ∧ w = w' := by
  by_cases h0 : m < 0
  · have e := hR.out.trans (vB_no (.inl h0))
    subst e
    clear hR
    go_enter Tryd.func15, Tryd.ntmps15
    go_wp2
    go_ret
    exact ⟨rfl, rfl⟩
  · by_cases h1 : 1000000000000 < m
    · have e := hR.out.trans (vB_no (.inr h1))
      subst e
      clear hR
      have h1' : decide (m ≤ 1000000000000) = false := by simpa using h1
      go_enter Tryd.func15, Tryd.ntmps15
      go_wp2
      go_ret
      exact ⟨rfl, rfl⟩
    · have e := hR.out.trans (vB_yes (by omega) (by omega))
      subst e
      clear hR
      go_enter Tryd.func15, Tryd.ntmps15
      go_wp2
      go_ret
      exact ⟨rfl, rfl⟩

/-! ### Part -/
theorem prod_bd {m bp : Int} (h0 : 0 ≤ m) (h1 : m ≤ 1000000000000) (b0 : 0 ≤ bp) (b1 : bp ≤ 10000) : 0 ≤ m * bp ∧ m * bp ≤ 10000000000000000 := by
  refine ⟨Int.mul_nonneg h0 b0, ?_⟩
  have := Int.mul_le_mul h1 b1 b0 (by omega)
  omega
def PartIn (m bp : Int) : Prop := (0 ≤ m ∧ m ≤ 1000000000000) ∧ 0 ≤ bp ∧ bp ≤ 10000

set_option maxHeartbeats 400000 in
theorem part_in (m bp : Int) (h : PartIn m bp) (w : World) :
    Calls Tryd.prog 16 #[.int .i64 m, .int .i64 bp] w fun e w' => e = .returned (.tuple #[.int .i64 (m * bp / 10000), .int .i64 0]) ∧ w = w' := by
  obtain ⟨⟨h0, h1⟩, b0, b1⟩ := h
  obtain ⟨p0, p1⟩ := prod_bd h0 h1 b0 b1
  have cv := valid_any m true (Lib.hid (vB_yes h0 h1).symm)
  have n0 : ¬ bp < 0 := by omega
  have n1 : ¬ 10000 < bp := by omega
  obtain ⟨p, hp⟩ : ∃ p, m * bp = p := ⟨_, rfl⟩
  rw [hp] at p0 p1 ⊢
  go_enter Tryd.func16, Tryd.ntmps16
  go_wp2_with (go_at_call 14; refine (cv _).mono ?_; rintro e w' ⟨rfl, rfl⟩)
  go_ret2
  exact ⟨rfl, rfl⟩

set_option maxHeartbeats 400000 in
theorem part_out (m bp : Int) (h : ¬ PartIn m bp) (w : World) :
    Calls Tryd.prog 16 #[.int .i64 m, .int .i64 bp] w fun e w' => e = .returned (.tuple #[.int .i64 0, .int .i64 2]) ∧ w = w' := by
  cases hv : vB m with
  | false =>
    have cv := valid_any m false (Lib.hid hv.symm)
    clear hv h
    go_enter Tryd.func16, Tryd.ntmps16
    go_wp2_with (go_at_call 14; refine (cv _).mono ?_; rintro e w' ⟨rfl, rfl⟩)
    go_ret2
    exact ⟨rfl, rfl⟩
  | true =>
    have cv := valid_any m true (Lib.hid hv.symm)
    have hm := vB_iff.1 hv
    by_cases b0 : bp < 0
    · clear hv h
      go_enter Tryd.func16, Tryd.ntmps16
      go_wp2_with (go_at_call 14; refine (cv _).mono ?_; rintro e w' ⟨rfl, rfl⟩)
      go_ret2
      exact ⟨rfl, rfl⟩
    · have b1 : 10000 < bp := by
        apply Decidable.byContradiction; intro hh
        exact h ⟨hm, by omega, by omega⟩
      clear hv h
      go_enter Tryd.func16, Tryd.ntmps16
      go_wp2_with (go_at_call 14; refine (cv _).mono ?_; rintro e w' ⟨rfl, rfl⟩)
      go_ret2
      exact ⟨rfl, rfl⟩

set_option maxHeartbeats 400000 in
theorem rpart_in (m bp : Int) (h : PartIn m bp) (w : World) :
    Calls Tryd.prog 17 #[.int .i64 m, .int .i64 bp] w fun e w' => e = .returned (.tuple #[.int .i64 (m * bp / 10000), .int .i64 0]) ∧ w = w' := by
  obtain ⟨⟨h0, h1⟩, b0, b1⟩ := h
  obtain ⟨p0, p1⟩ := prod_bd h0 h1 b0 b1
  have cv := rvalid_any m true (Lib.hid (vB_yes h0 h1).symm)
  have n0 : ¬ bp < 0 := by omega
  have n1 : ¬ 10000 < bp := by omega
  obtain ⟨p, hp⟩ : ∃ p, m * bp = p := ⟨_, rfl⟩
  rw [hp] at p0 p1 ⊢
  go_enter Tryd.func17, Tryd.ntmps17
  go_wp2_with (go_at_call 15; refine (cv _).mono ?_; rintro e w' ⟨rfl, rfl⟩)
  go_ret2
  exact ⟨rfl, rfl⟩

set_option maxHeartbeats 400000 in
theorem rpart_out (m bp : Int) (h : ¬ PartIn m bp) (w : World) :
    Calls Tryd.prog 17 #[.int .i64 m, .int .i64 bp] w fun e w' => e = .returned (.tuple #[.int .i64 0, .int .i64 2]) ∧ w = w' := by
  cases hv : vB m with
  | false =>
    have cv := rvalid_any m false (Lib.hid hv.symm)
    clear hv h
    go_enter Tryd.func17, Tryd.ntmps17
    go_wp2_with (go_at_call 15; refine (cv _).mono ?_; rintro e w' ⟨rfl, rfl⟩)
    go_ret2
    exact ⟨rfl, rfl⟩
  | true =>
    have cv := rvalid_any m true (Lib.hid hv.symm)
    have hm := vB_iff.1 hv
    by_cases b0 : bp < 0
    · clear hv h
      go_enter Tryd.func17, Tryd.ntmps17
      go_wp2_with (go_at_call 15; refine (cv _).mono ?_; rintro e w' ⟨rfl, rfl⟩)
      go_ret2
      exact ⟨rfl, rfl⟩
    · have b1 : 10000 < bp := by
        apply Decidable.byContradiction; intro hh
        exact h ⟨hm, by omega, by omega⟩
      clear hv h
      go_enter Tryd.func17, Tryd.ntmps17
      go_wp2_with (go_at_call 15; refine (cv _).mono ?_; rintro e w' ⟨rfl, rfl⟩)
      go_ret2
      exact ⟨rfl, rfl⟩

/-! ### Round and Even -/
def RoundIn (m u : Int) : Prop := (0 ≤ m ∧ m ≤ 1000000000000) ∧ 1 ≤ u ∧ u ≤ 1000000000000
def EvenIn (m u : Int) : Prop := (0 ≤ m ∧ m ≤ 1000000000000) ∧ 1 ≤ u
theorem round_bd {m u : Int} (h0 : 0 ≤ m) (h1 : 1 ≤ u) : 0 ≤ m % u ∧ m % u ≤ m ∧ m / u * u = m - m % u ∧ 0 ≤ m / u ∧ m / u ≤ m := by
  have a := Int.emod_nonneg m (show u ≠ 0 by omega)
  have b := Int.ediv_mul_add_emod m u
  have c : 0 ≤ m / u := Int.ediv_nonneg h0 (by omega)
  have d : 0 ≤ m / u * u := Int.mul_nonneg c (by omega)
  have f : m / u * 1 ≤ m / u * u := Int.mul_le_mul_of_nonneg_left h1 c
  omega

set_option maxHeartbeats 400000 in
theorem round_in (m u : Int) (h : RoundIn m u) (hu : u ≤ 9223372036854775807) (w : World) :
    Calls Tryd.prog 18 #[.int .i64 m, .int .i64 u] w fun e w' => e = .returned (.tuple #[.int .i64 (m - m % u), .int .i64 (m % u), .int .i64 0]) ∧ w = w' := by
  obtain ⟨⟨h0, h1⟩, u0, u1⟩ := h
  obtain ⟨r0, r1, r2, r3, r4⟩ := round_bd (u := u) h0 (by omega)
  clear r2 r3 r4
  have cv := valid_any m true (Lib.hid (vB_yes h0 h1).symm)
  go_enter Tryd.func18, Tryd.ntmps18
  go_wp2_with (go_at_call 14; refine (cv _).mono ?_; rintro e w' ⟨rfl, rfl⟩)
  go_ret3
  exact ⟨rfl, rfl⟩

set_option maxHeartbeats 400000 in
theorem round_out (m u : Int) (h : ¬ RoundIn m u) (w : World) :
    Calls Tryd.prog 18 #[.int .i64 m, .int .i64 u] w fun e w' => e = .returned (.tuple #[.int .i64 0, .int .i64 0, .int .i64 2]) ∧ w = w' := by
  cases hv : vB m with
  | false =>
    have cv := valid_any m false (Lib.hid hv.symm)
    clear hv h
    go_enter Tryd.func18, Tryd.ntmps18
    go_wp2_with (go_at_call 14; refine (cv _).mono ?_; rintro e w' ⟨rfl, rfl⟩)
    go_ret3
    exact ⟨rfl, rfl⟩
  | true =>
    have cv := valid_any m true (Lib.hid hv.symm)
    have hm := vB_iff.1 hv
    by_cases b0 : u < 1
    · clear hv h
      go_enter Tryd.func18, Tryd.ntmps18
      go_wp2_with (go_at_call 14; refine (cv _).mono ?_; rintro e w' ⟨rfl, rfl⟩)
      go_ret3
      exact ⟨rfl, rfl⟩
    · have b1 : 1000000000000 < u := by
        apply Decidable.byContradiction; intro hh
        exact h ⟨hm, by omega, by omega⟩
      clear hv h
      go_enter Tryd.func18, Tryd.ntmps18
      go_wp2_with (go_at_call 14; refine (cv _).mono ?_; rintro e w' ⟨rfl, rfl⟩)
      go_ret3
      exact ⟨rfl, rfl⟩

set_option maxHeartbeats 400000 in
theorem rround_in (m u : Int) (h : RoundIn m u) (hu : u ≤ 9223372036854775807) (w : World) :
    Calls Tryd.prog 19 #[.int .i64 m, .int .i64 u] w fun e w' => e = .returned (.tuple #[.int .i64 (m - m % u), .int .i64 (m % u), .int .i64 0]) ∧ ∃ k, w' = w.drewN k := by
  obtain ⟨⟨h0, h1⟩, u0, u1⟩ := h
  obtain ⟨r0, r1, r2, r3, r4⟩ := round_bd (u := u) h0 (by omega)
  have e1 : IntKind.i64.wrap (m / u * u) = m / u * u := IntWalk.i64_in _ (by omega)
  have cv := rvalid_any m true (Lib.hid (vB_yes h0 h1).symm)
  go_enter Tryd.func19, Tryd.ntmps19
  go_wp2_with (go_at_call 15; refine (cv _).mono ?_; rintro e w' ⟨rfl, rfl⟩)
  go_quiet (fail)
  go_wp2
  go_ret3
  exact ⟨rfl, nq, rfl⟩

set_option maxHeartbeats 400000 in
theorem rround_out (m u : Int) (h : ¬ RoundIn m u) (w : World) :
    Calls Tryd.prog 19 #[.int .i64 m, .int .i64 u] w fun e w' => e = .returned (.tuple #[.int .i64 0, .int .i64 0, .int .i64 2]) ∧ w = w' := by
  cases hv : vB m with
  | false =>
    have cv := rvalid_any m false (Lib.hid hv.symm)
    clear hv h
    go_enter Tryd.func19, Tryd.ntmps19
    go_wp2_with (go_at_call 15; refine (cv _).mono ?_; rintro e w' ⟨rfl, rfl⟩)
    go_ret3
    exact ⟨rfl, rfl⟩
  | true =>
    have cv := rvalid_any m true (Lib.hid hv.symm)
    have hm := vB_iff.1 hv
    by_cases b0 : u < 1
    · clear hv h
      go_enter Tryd.func19, Tryd.ntmps19
      go_wp2_with (go_at_call 15; refine (cv _).mono ?_; rintro e w' ⟨rfl, rfl⟩)
      go_ret3
      exact ⟨rfl, rfl⟩
    · have b1 : 1000000000000 < u := by
        apply Decidable.byContradiction; intro hh
        exact h ⟨hm, by omega, by omega⟩
      clear hv h
      go_enter Tryd.func19, Tryd.ntmps19
      go_wp2_with (go_at_call 15; refine (cv _).mono ?_; rintro e w' ⟨rfl, rfl⟩)
      go_ret3
      exact ⟨rfl, rfl⟩

set_option maxHeartbeats 400000 in
theorem even_in (m u : Int) (h : EvenIn m u) (hu : u ≤ 9223372036854775807) (w : World) :
    Calls Tryd.prog 20 #[.int .i64 m, .int .i64 u] w fun e w' => e = .returned (.tuple #[.int .i64 (m / u), .int .i64 (m % u), .int .i64 0]) ∧ ∃ k, w' = w.drewN k := by
  obtain ⟨⟨h0, h1⟩, u0⟩ := h
  obtain ⟨r0, r1, r2, r3, r4⟩ := round_bd (u := u) h0 (by omega)
  clear r2
  have cv := valid_any m true (Lib.hid (vB_yes h0 h1).symm)
  go_enter Tryd.func20, Tryd.ntmps20
  go_wp2_with (go_at_call 14; refine (cv _).mono ?_; rintro e w' ⟨rfl, rfl⟩)
  go_quiet (fail)
  go_wp2
  go_ret3
  exact ⟨rfl, nq, rfl⟩

set_option maxHeartbeats 400000 in
theorem even_out (m u : Int) (h : ¬ EvenIn m u) (w : World) :
    Calls Tryd.prog 20 #[.int .i64 m, .int .i64 u] w fun e w' => e = .returned (.tuple #[.int .i64 0, .int .i64 0, .int .i64 2]) ∧ w = w' := by
  cases hv : vB m with
  | false =>
    have cv := valid_any m false (Lib.hid hv.symm)
    clear hv h
    go_enter Tryd.func20, Tryd.ntmps20
    go_wp2_with (go_at_call 14; refine (cv _).mono ?_; rintro e w' ⟨rfl, rfl⟩)
    go_ret3
    exact ⟨rfl, rfl⟩
  | true =>
    have cv := valid_any m true (Lib.hid hv.symm)
    have hm := vB_iff.1 hv
    by_cases b0 : u < 1
    · clear hv h
      go_enter Tryd.func20, Tryd.ntmps20
      go_wp2_with (go_at_call 14; refine (cv _).mono ?_; rintro e w' ⟨rfl, rfl⟩)
      go_ret3
      exact ⟨rfl, rfl⟩
    · exact absurd ⟨hm, by omega⟩ h

set_option maxHeartbeats 400000 in
theorem reven_in (m u : Int) (h : EvenIn m u) (hu : u ≤ 9223372036854775807) (w : World) :
    Calls Tryd.prog 21 #[.int .i64 m, .int .i64 u] w fun e w' => e = .returned (.tuple #[.int .i64 (m / u), .int .i64 (m % u), .int .i64 0]) ∧ ∃ k, w' = w.drewN k := by
  obtain ⟨⟨h0, h1⟩, u0⟩ := h
  obtain ⟨r0, r1, r2, r3, r4⟩ := round_bd (u := u) h0 (by omega)
  clear r2
  have cv := rvalid_any m true (Lib.hid (vB_yes h0 h1).symm)
  go_enter Tryd.func21, Tryd.ntmps21
  go_wp2_with (go_at_call 15; refine (cv _).mono ?_; rintro e w' ⟨rfl, rfl⟩)
  go_quiet (fail)
  go_wp2
  go_ret3
  exact ⟨rfl, nq, rfl⟩

set_option maxHeartbeats 400000 in
theorem reven_out (m u : Int) (h : ¬ EvenIn m u) (w : World) :
    Calls Tryd.prog 21 #[.int .i64 m, .int .i64 u] w fun e w' => e = .returned (.tuple #[.int .i64 0, .int .i64 0, .int .i64 2]) ∧ w = w' := by
  cases hv : vB m with
  | false =>
    have cv := rvalid_any m false (Lib.hid hv.symm)
    clear hv h
    go_enter Tryd.func21, Tryd.ntmps21
    go_wp2_with (go_at_call 15; refine (cv _).mono ?_; rintro e w' ⟨rfl, rfl⟩)
    go_ret3
    exact ⟨rfl, rfl⟩
  | true =>
    have cv := rvalid_any m true (Lib.hid hv.symm)
    have hm := vB_iff.1 hv
    by_cases b0 : u < 1
    · clear hv h
      go_enter Tryd.func21, Tryd.ntmps21
      go_wp2_with (go_at_call 15; refine (cv _).mono ?_; rintro e w' ⟨rfl, rfl⟩)
      go_ret3
      exact ⟨rfl, rfl⟩
    · exact absurd ⟨hm, by omega⟩ h
end Go.Proofs.YtkblcnomjgocmaaDoor.monA

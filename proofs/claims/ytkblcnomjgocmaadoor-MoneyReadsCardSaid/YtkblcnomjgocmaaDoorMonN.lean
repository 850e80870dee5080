/-
  The walk of MoneyRounds: whatever the two ints, the answer is true; new memory and draws alone.
-/
import Derived.Test.YtkblcnomjgocmaaDoorMonL
namespace Go.Proofs.YtkblcnomjgocmaaDoor.monN
open Go.RowKit
open Go.Proofs.YtkblcnomjgocmaaDoor.numM Go.Proofs.YtkblcnomjgocmaaDoor.numA Go.Proofs.YtkblcnomjgocmaaDoor.numB Go.Proofs.YtkblcnomjgocmaaDoor.numT Go.Proofs.YtkblcnomjgocmaaDoor.numG Go.Proofs.YtkblcnomjgocmaaDoor.monA Go.Proofs.YtkblcnomjgocmaaDoor.monM Go.Proofs.YtkblcnomjgocmaaDoor.monB Go.Proofs.YtkblcnomjgocmaaDoor.monC Go.Proofs.YtkblcnomjgocmaaDoor.monD Go.Proofs.YtkblcnomjgocmaaDoor.monX Go.Proofs.YtkblcnomjgocmaaDoor.monT Go.Proofs.YtkblcnomjgocmaaDoor.monU Go.Proofs.YtkblcnomjgocmaaDoor.monV Go.Proofs.YtkblcnomjgocmaaDoor.monW Go.Proofs.YtkblcnomjgocmaaDoor.monL
set_option linter.unusedVariables false

/-- what Round gives where it accepts -/
structure RF (m u a r : Int) : Prop where
  u0 : 1 ≤ u
  r0 : 0 ≤ r
  r1 : r < u
  a0 : 0 ≤ a
  a1 : a ≤ 1000000000000
  m1 : r ≤ 1000000000000
  z : ((a % u) != 0) = false
  s : Hid (a * 1 + r = m)
theorem rf_of {m u : Int} (h : monA.RoundIn m u) : RF m u (m - m % u) (m % u) := by
  obtain ⟨⟨h0, h1⟩, u0, u1⟩ := h
  obtain ⟨r0, r1, r2, r3, r4⟩ := round_bd (u := u) h0 u0
  have hlt := Int.emod_lt_of_pos m (show 0 < u by omega)
  refine ⟨u0, r0, hlt, by omega, by omega, by omega, ?_, by show _ = _; omega⟩
  rw [← r2]; simp
/-- what Even gives where it accepts -/
structure EF (m u q d : Int) : Prop where
  u0 : 1 ≤ u
  d0 : 0 ≤ d
  d1 : d < u
  q0 : 0 ≤ q
  q1 : q ≤ 1000000000000
  m1 : d ≤ 1000000000000
  p0 : 0 ≤ q * u
  p1 : q * u ≤ 1000000000000
  s : Hid (q * u + d = m)
theorem ef_of {m u : Int} (h : EvenIn m u) : EF m u (m / u) (m % u) := by
  obtain ⟨⟨h0, h1⟩, u0⟩ := h
  obtain ⟨r0, r1, r2, r3, r4⟩ := round_bd (u := u) h0 u0
  have hlt := Int.emod_lt_of_pos m (show 0 < u by omega)
  exact ⟨u0, r0, hlt, r3, by omega, by omega, by omega, by omega, by show _ = _; omega⟩

set_option maxRecDepth 100000 in
set_option maxHeartbeats 1600000 in
theorem rounds_go (m u a r q d E1 E2 : Int) (u1 : u ≤ 9223372036854775807) (hm : (E1 = 0 ∨ E2 = 0) → 0 ≤ m ∧ m ≤ 1000000000000)
    (h1 : (E1 = 0 ∧ RF m u a r) ∨ E1 = 2) (h2 : (E2 = 0 ∧ EF m u q d) ∨ E2 = 2)
    (c1 : ∀ w, Calls Tryd.prog 18 #[.int .i64 m, .int .i64 u] w fun e w' => e = .returned (.tuple #[.int .i64 a, .int .i64 r, .int .i64 E1]) ∧ w = w')
    (c2 : ∀ w, Calls Tryd.prog 20 #[.int .i64 m, .int .i64 u] w fun e w' => e = .returned (.tuple #[.int .i64 q, .int .i64 d, .int .i64 E2]) ∧ ∃ k, w' = w.drewN k) (w : World) (h : Tab w) :
    Calls Tryd.prog 7 #[.int .i64 m, .int .i64 u] w fun e w' => e = .returned (.bool true) ∧ Below w.heap.size w w' := by
  have hT : ∀ k, Tab (w.drewN k) := fun k => tab_on h (below_draw w k)
  rcases h1 with ⟨rfl, u0, r0, r1, a0, a1, rm, z, s⟩ | rfl
  · obtain ⟨m0, m1⟩ := hm (.inl rfl)
    have t1 := fun w => total_yes a 1 r m s (by omega) (by omega) (by omega) (by omega) (by omega) (by omega) (by omega) (by omega) (by omega) (by omega) w
    rcases h2 with ⟨rfl, v0, d0, d1, q0, q1, dm, p0, p1, s2⟩ | rfl
    · have t2 := fun w => total_yes q u d m s2 (by omega) (by omega) (by omega) (by omega) (by omega) (by omega) (by omega) (by omega) (by omega) (by omega) w
      clear p0 p1 hm
      go_enter Tryd.func7, Tryd.ntmps7
      go_wp2_with (first
        | (go_at_call 18; refine (c1 _).mono ?_; rintro e w' ⟨rfl, rfl⟩)
        | (go_at_call 20; refine (c2 _).mono ?_; rintro e w' ⟨rfl, k5, rfl⟩)
        | (go_at_call 26; first | ((with_reducible refine (t1 _).mono ?_); rintro e w' ⟨rfl, rfl⟩) | ((with_reducible refine (t2 _).mono ?_); rintro e w' ⟨rfl, rfl⟩))
        | (go_at_call 11; refine (awake_any _ (hT _)).mono ?_; rintro e w9 ⟨rfl, hb9⟩))
      go_ret
      exact ⟨rfl, below_on (below_draw w _) hb9⟩
    · clear hm
      go_enter Tryd.func7, Tryd.ntmps7
      go_wp2_with (first
        | (go_at_call 18; refine (c1 _).mono ?_; rintro e w' ⟨rfl, rfl⟩)
        | (go_at_call 20; refine (c2 _).mono ?_; rintro e w' ⟨rfl, k5, rfl⟩)
        | (go_at_call 26; refine (t1 _).mono ?_; rintro e w' ⟨rfl, rfl⟩)
        | (go_at_call 11; refine (awake_any _ (hT _)).mono ?_; rintro e w9 ⟨rfl, hb9⟩))
      go_ret
      exact ⟨rfl, below_on (below_draw w _) hb9⟩
  · rcases h2 with ⟨rfl, v0, d0, d1, q0, q1, dm, p0, p1, s2⟩ | rfl
    · obtain ⟨m0, m1⟩ := hm (.inr rfl)
      have t2 := fun w => total_yes q u d m s2 (by omega) (by omega) (by omega) (by omega) (by omega) (by omega) (by omega) (by omega) (by omega) (by omega) w
      clear p0 p1 hm
      go_enter Tryd.func7, Tryd.ntmps7
      go_wp2_with (first
        | (go_at_call 18; refine (c1 _).mono ?_; rintro e w' ⟨rfl, rfl⟩)
        | (go_at_call 20; refine (c2 _).mono ?_; rintro e w' ⟨rfl, k5, rfl⟩)
        | (go_at_call 26; refine (t2 _).mono ?_; rintro e w' ⟨rfl, rfl⟩)
        | (go_at_call 11; refine (awake_any _ (hT _)).mono ?_; rintro e w9 ⟨rfl, hb9⟩))
      go_ret
      exact ⟨rfl, below_on (below_draw w _) hb9⟩
    · clear hm
      go_enter Tryd.func7, Tryd.ntmps7
      go_wp2_with (first
        | (go_at_call 18; refine (c1 _).mono ?_; rintro e w' ⟨rfl, rfl⟩)
        | (go_at_call 20; refine (c2 _).mono ?_; rintro e w' ⟨rfl, k5, rfl⟩)
        | (go_at_call 11; refine (awake_any _ (hT _)).mono ?_; rintro e w9 ⟨rfl, hb9⟩))
      go_ret
      exact ⟨rfl, below_on (below_draw w _) hb9⟩
theorem rounds (m u : Int) (u1 : u ≤ 9223372036854775807) (w : World) (h : Tab w) :
    Calls Tryd.prog 7 #[.int .i64 m, .int .i64 u] w fun e w' => e = .returned (.bool true) ∧ Below w.heap.size w w' := by
  by_cases h1 : monA.RoundIn m u
  · by_cases h2 : EvenIn m u
    · exact rounds_go m u _ _ _ _ 0 0 u1 (fun _ => h1.1) (.inl ⟨rfl, rf_of h1⟩) (.inl ⟨rfl, ef_of h2⟩) (fun w => round_in m u h1 u1 w) (fun w => even_in m u h2 u1 w) w h
    · exact absurd ⟨h1.1, h1.2.1⟩ h2
  · by_cases h2 : EvenIn m u
    · exact rounds_go m u _ _ _ _ 2 0 u1 (fun _ => h2.1) (.inr rfl) (.inl ⟨rfl, ef_of h2⟩) (fun w => round_out m u h1 w) (fun w => even_in m u h2 u1 w) w h
    · exact rounds_go m u _ _ 0 0 2 2 u1 (fun hh => by omega) (.inr rfl) (.inr rfl) (fun w => round_out m u h1 w) (fun w => (even_out m u h2 w).mono fun e w' ⟨he, hw⟩ => ⟨he, 0, hw.symm⟩) w h
end Go.Proofs.YtkblcnomjgocmaaDoor.monN

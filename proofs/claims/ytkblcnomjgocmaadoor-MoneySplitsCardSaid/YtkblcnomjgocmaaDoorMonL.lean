/-
  The walks of MoneyTakes, MoneyRounds, MoneyDivides: whatever the input, the answer is true; new memory and draws alone.
-/
import Derived.Test.YtkblcnomjgocmaaDoorMonW
namespace Go.Proofs.YtkblcnomjgocmaaDoor.monL
open Go.RowKit
open Go.Proofs.YtkblcnomjgocmaaDoor.numM Go.Proofs.YtkblcnomjgocmaaDoor.numA Go.Proofs.YtkblcnomjgocmaaDoor.numB Go.Proofs.YtkblcnomjgocmaaDoor.numT Go.Proofs.YtkblcnomjgocmaaDoor.numG Go.Proofs.YtkblcnomjgocmaaDoor.monA Go.Proofs.YtkblcnomjgocmaaDoor.monM Go.Proofs.YtkblcnomjgocmaaDoor.monB Go.Proofs.YtkblcnomjgocmaaDoor.monC Go.Proofs.YtkblcnomjgocmaaDoor.monD Go.Proofs.YtkblcnomjgocmaaDoor.monX Go.Proofs.YtkblcnomjgocmaaDoor.monT Go.Proofs.YtkblcnomjgocmaaDoor.monU Go.Proofs.YtkblcnomjgocmaaDoor.monV Go.Proofs.YtkblcnomjgocmaaDoor.monW
set_option linter.unusedVariables false

theorem part_both (m bp : Int) : ∃ V E, (∀ w, Calls Tryd.prog 16 #[.int .i64 m, .int .i64 bp] w fun e w' => e = .returned (.tuple #[.int .i64 V, .int .i64 E]) ∧ w = w') ∧
    (∀ w, Calls Tryd.prog 17 #[.int .i64 m, .int .i64 bp] w fun e w' => e = .returned (.tuple #[.int .i64 V, .int .i64 E]) ∧ w = w') := by
  by_cases h : PartIn m bp
  · exact ⟨_, _, fun w => part_in m bp h w, fun w => rpart_in m bp h w⟩
  · exact ⟨_, _, fun w => part_out m bp h w, fun w => rpart_out m bp h w⟩
theorem round_both (m u : Int) (hu : u ≤ 9223372036854775807) : ∃ a r E, (∀ w, Calls Tryd.prog 18 #[.int .i64 m, .int .i64 u] w fun e w' => e = .returned (.tuple #[.int .i64 a, .int .i64 r, .int .i64 E]) ∧ w = w') ∧
    (∀ w, Calls Tryd.prog 19 #[.int .i64 m, .int .i64 u] w fun e w' => e = .returned (.tuple #[.int .i64 a, .int .i64 r, .int .i64 E]) ∧ ∃ k, w' = w.drewN k) := by
  by_cases h : monA.RoundIn m u
  · exact ⟨_, _, _, fun w => round_in m u h hu w, fun w => rround_in m u h hu w⟩
  · exact ⟨_, _, _, fun w => round_out m u h w, fun w => (rround_out m u h w).mono fun e w' ⟨he, hw⟩ => ⟨he, 0, hw.symm⟩⟩
theorem even_both (m u : Int) (hu : u ≤ 9223372036854775807) : ∃ a r E, (∀ w, Calls Tryd.prog 20 #[.int .i64 m, .int .i64 u] w fun e w' => e = .returned (.tuple #[.int .i64 a, .int .i64 r, .int .i64 E]) ∧ ∃ k, w' = w.drewN k) ∧
    (∀ w, Calls Tryd.prog 21 #[.int .i64 m, .int .i64 u] w fun e w' => e = .returned (.tuple #[.int .i64 a, .int .i64 r, .int .i64 E]) ∧ ∃ k, w' = w.drewN k) := by
  by_cases h : EvenIn m u
  · exact ⟨_, _, _, fun w => even_in m u h hu w, fun w => reven_in m u h hu w⟩
  · exact ⟨_, _, _, fun w => (even_out m u h w).mono fun e w' ⟨he, hw⟩ => ⟨he, 0, hw.symm⟩, fun w => (reven_out m u h w).mono fun e w' ⟨he, hw⟩ => ⟨he, 0, hw.symm⟩⟩

set_option maxRecDepth 100000 in
set_option maxHeartbeats 1600000 in
theorem takes (m bp u : Int) (hu : u ≤ 9223372036854775807) (w : World) (h : Tab w) :
    Calls Tryd.prog 4 #[.int .i64 m, .int .i64 bp, .int .i64 u] w fun e w' => e = .returned (.bool true) ∧ Below w.heap.size w w' := by
  obtain ⟨V, E, c1, c2⟩ := part_both m bp
  obtain ⟨a, r, E2, c3, c4⟩ := round_both m u hu
  obtain ⟨x, y, E3, c5, c6⟩ := even_both m u hu
  have hT : ∀ k, Tab (w.drewN k) := fun k => tab_on h (below_draw w k)
  go_enter Tryd.func4, Tryd.ntmps4
  go_wp2_with (first
    | (go_at_call 16; refine (c1 _).mono ?_; rintro e w' ⟨rfl, rfl⟩)
    | (go_at_call 17; refine (c2 _).mono ?_; rintro e w' ⟨rfl, rfl⟩)
    | (go_at_call 18; refine (c3 _).mono ?_; rintro e w' ⟨rfl, rfl⟩)
    | (go_at_call 19; refine (c4 _).mono ?_; rintro e w' ⟨rfl, k4, rfl⟩)
    | (go_at_call 20; refine (c5 _).mono ?_; rintro e w' ⟨rfl, k5, rfl⟩)
    | (go_at_call 21; refine (c6 _).mono ?_; rintro e w' ⟨rfl, k6, rfl⟩)
    | (go_at_call 11; refine (awake_any _ (hT _)).mono ?_; rintro e w9 ⟨rfl, hb9⟩))
  go_ret
  exact ⟨rfl, below_on (below_draw w _) hb9⟩

set_option maxRecDepth 100000 in
set_option maxHeartbeats 1600000 in
theorem divides (m : Int) (A : Option Addr) (n c : Nat) (zs : List Int) (hn : Hid (zs.length = n)) (hN : n ≤ 9223372036854775807) (w : World) (hI : Ints w A zs) (h : Tab w) :
    Calls Tryd.prog 5 #[.int .i64 m, .slice A n c] w fun e w' => e = .returned (.bool true) ∧ Below w.heap.size w w' := by
  by_cases hE : spE m zs n = 0
  · have c1 := split_ok m A n c zs hn (Lib.hid hE) w hI
    have c2 := fun w' (hb : Below w.heap.size w w') => rsplit_ok m A n c zs hn (Lib.hid hE) w' (ints_below hI hb)
    have hs := sp_inv hn.out hE
    have hp : Hid ((parts m zs).length = n) := Lib.hid (by
      rw [parts_len hs.1.1 (fun j => (hs.2.2.1 j).1) (by rw [hn.out]; exact hs.2.2.2.2.2.1)]; exact hn.out)
    have c3 := fun (g g2 c2 : Nat) w (h1 : Ints w (some ⟨g, 0, none⟩) (parts m zs)) (h2 : Ints w (some ⟨g2, 0, none⟩) (parts m zs)) => same_yes (some ⟨g, 0, none⟩) (some ⟨g2, 0, none⟩) n n c2 (parts m zs) hp hN w h1 h2
    clear hE hs hI
    generalize parts m zs = ps at *
    go_enter Tryd.func5, Tryd.ntmps5
    go_wp2_with (first
      | (go_at_call 22; refine c1.mono ?_; rintro e w1 ⟨g, rfl, hrow, hg, hb1⟩; have HR := Lib.hid (RowI.ints hrow); clear hrow)
      | (go_at_call 23; refine (c2 _ hb1).mono ?_; rintro e w2 ⟨g2, cc, rfl, hint, hg2, hb2⟩; have HI2 := Lib.hid hint; clear hint)
      | (go_at_call 24; refine (c3 _ _ _ _ (ints_below HR.out hb2) HI2.out).mono ?_; rintro e w' ⟨rfl, k3, rfl⟩)
      | (go_at_call 11; refine (awake_any _ (tab_on h (below_on (below_on hb1 hb2) (below_draw _ _)))).mono ?_; rintro e w9 ⟨rfl, hb9⟩))
    go_ret
    exact ⟨rfl, below_on (below_on (below_on hb1 hb2) (below_draw _ _)) hb9⟩
  · obtain ⟨E, hEd⟩ : ∃ E, E = spE m zs n := ⟨_, rfl⟩
    have hne : (E != 0) = true := by rw [hEd]; simpa using hE
    have c1 := fun w' (hI : Ints w' A zs) => split_err m A n c E zs hn hN hEd hne w' hI
    have c2 := fun w' (hI : Ints w' A zs) => rsplit_err m A n c E zs hn hN hEd hne w' hI
    have c3 := fun w => same_yes none none 0 0 0 [] rfl (by omega) w (fun h => by simp at h) (fun h => by simp at h)
    have HI := Lib.hid hI
    clear hE hEd hI
    go_enter Tryd.func5, Tryd.ntmps5
    go_wp2_with (first
      | (go_at_call 22; refine (c1 _ HI.out).mono ?_; rintro e w' ⟨rfl, rfl⟩)
      | (go_at_call 23; refine (c2 _ HI.out).mono ?_; rintro e w' ⟨rfl, rfl⟩)
      | (go_at_call 24; refine (c3 _).mono ?_; rintro e w' ⟨rfl, k3, rfl⟩)
      | (go_at_call 11; refine (awake_any _ (tab_on h (below_draw _ _))).mono ?_; rintro e w9 ⟨rfl, hb9⟩))
    go_ret
    exact ⟨rfl, below_on (below_draw _ _) hb9⟩
end Go.Proofs.YtkblcnomjgocmaaDoor.monL

/-
  The laws CalendarDates, CalendarInverts, CalendarAges, CalendarPeriods, CalendarParts: each call returns true; new memory alone.
-/
import Derived.Test.YtppklkiodbnipaaDoorClF
namespace Go.Proofs.YtppklkiodbnipaaDoor.clL
open Go.RowKit
open Go.Proofs.YtppklkiodbnipaaDoor.clM Go.Proofs.YtppklkiodbnipaaDoor.clA Go.Proofs.YtppklkiodbnipaaDoor.clB Go.Proofs.YtppklkiodbnipaaDoor.clC Go.Proofs.YtppklkiodbnipaaDoor.clD Go.Proofs.YtppklkiodbnipaaDoor.clE Go.Proofs.YtppklkiodbnipaaDoor.clF
set_option linter.unusedVariables false

set_option maxRecDepth 10000 in
set_option maxHeartbeats 400000 in
theorem dates (y m d n : Int) (w : World) (hM : Mon w) :
    Calls Tryd.prog 3 #[.int .i64 y, .int .i64 m, .int .i64 d, .int .i64 n] w fun e w' => e = .returned (.bool true) ∧ Below w.heap.size w w' := by
  obtain ⟨V, E, c1, c2⟩ := day_pair y m d
  obtain ⟨Y, M, D, F, c3, c4⟩ := date_pair n
  obtain ⟨U, G, c5, c6⟩ := wk_pair n
  have K0 := Kc.start hM
  clear hM
  go_enter Tryd.func3, Tryd.ntmps3
  go_wp2_with (first
    | (go_at_call 9; (with_reducible refine (c1 _ K0.mon).mono ?_); rintro e w1 ⟨rfl, k1, rfl⟩; have K1 := K0.drew k1)
    | (go_at_call 10; (with_reducible refine (c2 _).mono ?_); rintro e w2 ⟨rfl, b2⟩; have K2 := K1.on b2; clear b2)
    | (go_at_call 11; (with_reducible refine (c3 _ K2.mon).mono ?_); rintro e w3 ⟨rfl, k3, rfl⟩; have K3 := K2.drew k3)
    | (go_at_call 12; (with_reducible refine (c4 _).mono ?_); rintro e w4 ⟨rfl, b4⟩; have K4 := K3.on b4; clear b4)
    | (go_at_call 13; (with_reducible refine (c5 _).mono ?_); rintro e w5 ⟨rfl, rfl⟩)
    | (go_at_call 14; (with_reducible refine (c6 _).mono ?_); rintro e w6 ⟨rfl, rfl⟩)
    | (go_at_call 15; (with_reducible refine (dated_any _ K4.mon).mono ?_); rintro e w7 ⟨rfl, k7, rfl⟩; have K5 := K4.drew k7))
  go_ret
  exact ⟨rfl, K5.bel⟩

set_option maxRecDepth 10000 in
theorem inverts_out (n : Int) (h : ¬ (0 ≤ n ∧ n < 745654)) (w : World) (hM : Mon w) :
    Calls Tryd.prog 4 #[.int .i64 n] w fun e w' => e = .returned (.bool true) ∧ Below w.heap.size w w' := by
  have c1 := date_no n h
  have K0 := Kc.start hM
  clear hM
  by_cases h0 : n < 0
  · clear h
    go_enter Tryd.func4, Tryd.ntmps4
    go_wp2_with (first
      | (go_at_call 11; (with_reducible refine (c1 _).mono ?_); rintro e w1 ⟨rfl, rfl⟩)
      | (go_at_call 15; (with_reducible refine (dated_any _ K0.mon).mono ?_); rintro e w7 ⟨rfl, k7, rfl⟩; have K5 := K0.drew k7))
    go_ret
    exact ⟨rfl, K5.bel⟩
  · have h1 : 745654 ≤ n := by omega
    clear h
    go_enter Tryd.func4, Tryd.ntmps4
    go_wp2_with (first
      | (go_at_call 11; (with_reducible refine (c1 _).mono ?_); rintro e w1 ⟨rfl, rfl⟩)
      | (go_at_call 15; (with_reducible refine (dated_any _ K0.mon).mono ?_); rintro e w7 ⟨rfl, k7, rfl⟩; have K5 := K0.drew k7))
    go_ret
    exact ⟨rfl, K5.bel⟩
set_option maxRecDepth 10000 in
set_option maxHeartbeats 400000 in
theorem inverts_in (n : Nat) (h : n < 745654) (w : World) (hM : Mon w) :
    Calls Tryd.prog 4 #[.int .i64 (n : Int)] w fun e w' => e = .returned (.bool true) ∧ Below w.heap.size w w' := by
  obtain ⟨Y, M, D, hI⟩ := Is.ex n
  have c1 := fun w h' => date_ok n Y M D hI h w h'
  have c2 := fun w h' => day_ok n Y M D hI h w h'
  have t0 : decide ((n : Int) < 0) = false := decide_eq_false (by omega)
  have t1 : decide ((745654 : Int) ≤ (n : Int)) = false := decide_eq_false (by omega)
  have m0 := hI.m0
  have m1 := hI.m1
  have d0 := hI.d0
  have d1 := (hI.small (by omega)).2
  have y1 := (hI.small (by omega)).1
  have tm0 : decide ((M : Int) < 1) = false := decide_eq_false (by omega)
  have tm1 : decide ((12 : Int) < (M : Int)) = false := decide_eq_false (by omega)
  have td0 : decide ((D : Int) < 1) = false := decide_eq_false (by omega)
  have td1 : decide ((31 : Int) < (D : Int)) = false := decide_eq_false (by omega)
  by_cases hl : n + 1 = 745654
  · have tl : (n : Int) + 1 = 745654 := by omega
    clear hI hl
    go_enter Tryd.func4, Tryd.ntmps4
    go_wp2_with (first
      | (go_at_call 11; (with_reducible refine (c1 _ hM).mono ?_); rintro e w1 ⟨rfl, k1, rfl⟩)
      | (go_at_call 9; (with_reducible refine (c2 _ (mon_drew hM _)).mono ?_); rintro e w2 ⟨rfl, k2, rfl⟩)
      | (go_at_call 15; (with_reducible refine (dated_any _ (mon_drew hM _)).mono ?_); rintro e w7 ⟨rfl, k7, rfl⟩))
    go_ret
    exact ⟨rfl, below_draw _ _⟩
  · have tl : ((n : Int) + 1 == 745654) = false := by simp; omega
    obtain ⟨Y', M', D', hI'⟩ := Is.ex (n + 1)
    have c3 := fun w h' => date_ok (n + 1) Y' M' D' hI' (by omega) w h'
    rw [Int.natCast_succ] at c3
    rcases hI.next hI' with ⟨rfl, rfl, rfl, _⟩ | ⟨rfl, h28, ⟨rfl, rfl⟩ | ⟨rfl, rfl, rfl⟩⟩
    · rw [Int.natCast_succ D] at c3
      have td2 : ((D : Int) + 1 == 1) = false := by simp; omega
      clear hI hI' hl
      go_enter Tryd.func4, Tryd.ntmps4
      go_wp2_with (first
        | (go_at_call 11; first | ((with_reducible refine (c1 _ hM).mono ?_); rintro e w1 ⟨rfl, k1, rfl⟩) | ((with_reducible refine (c3 _ (mon_drew hM _)).mono ?_); rintro e w3 ⟨rfl, k3, rfl⟩))
        | (go_at_call 9; (with_reducible refine (c2 _ (mon_drew hM _)).mono ?_); rintro e w2 ⟨rfl, k2, rfl⟩)
        | (go_at_call 15; (with_reducible refine (dated_any _ (mon_drew hM _)).mono ?_); rintro e w7 ⟨rfl, k7, rfl⟩))
      go_ret
      exact ⟨rfl, below_draw _ _⟩
    · rw [Int.natCast_succ M] at c3
      have tm2 : ((M : Int) + 1 == (M : Int)) = false := by simp; omega
      have t28 : (28 : Int) ≤ (D : Int) := by omega
      clear hI hI' hl
      go_enter Tryd.func4, Tryd.ntmps4
      go_wp2_with (first
        | (go_at_call 11; first | ((with_reducible refine (c1 _ hM).mono ?_); rintro e w1 ⟨rfl, k1, rfl⟩) | ((with_reducible refine (c3 _ (mon_drew hM _)).mono ?_); rintro e w3 ⟨rfl, k3, rfl⟩))
        | (go_at_call 9; (with_reducible refine (c2 _ (mon_drew hM _)).mono ?_); rintro e w2 ⟨rfl, k2, rfl⟩)
        | (go_at_call 15; (with_reducible refine (dated_any _ (mon_drew hM _)).mono ?_); rintro e w7 ⟨rfl, k7, rfl⟩))
      go_ret
      exact ⟨rfl, below_draw _ _⟩
    · rw [Int.natCast_succ Y] at c3
      have c1' : ∀ w, Mon w → Calls Tryd.prog 11 #[.int .i64 (n : Int)] w fun e w' => e = .returned (.tuple #[.int .i64 (Y : Int), .int .i64 12, .int .i64 (D : Int), .int .i64 0]) ∧ ∃ d, w' = w.drewN d := c1
      have c2' : ∀ w, Mon w → Calls Tryd.prog 9 #[.int .i64 (Y : Int), .int .i64 12, .int .i64 (D : Int)] w fun e w' => e = .returned (.tuple #[.int .i64 (n : Int), .int .i64 0]) ∧ ∃ d, w' = w.drewN d := c2
      have c3' : ∀ w, Mon w → Calls Tryd.prog 11 #[.int .i64 ((n : Int) + 1)] w fun e w' => e = .returned (.tuple #[.int .i64 ((Y : Int) + 1), .int .i64 1, .int .i64 1, .int .i64 0]) ∧ ∃ d, w' = w.drewN d := c3
      have ty2 : ((Y : Int) + 1 == (Y : Int)) = false := by simp; omega
      have t28 : (28 : Int) ≤ (D : Int) := by omega
      clear hI hI' hl c1 c2 c3 tm0 tm1
      go_enter Tryd.func4, Tryd.ntmps4
      go_wp2_with (first
        | (go_at_call 11; first | ((with_reducible refine (c1' _ hM).mono ?_); rintro e w1 ⟨rfl, k1, rfl⟩) | ((with_reducible refine (c3' _ (mon_drew hM _)).mono ?_); rintro e w3 ⟨rfl, k3, rfl⟩))
        | (go_at_call 9; (with_reducible refine (c2' _ (mon_drew hM _)).mono ?_); rintro e w2 ⟨rfl, k2, rfl⟩)
        | (go_at_call 15; (with_reducible refine (dated_any _ (mon_drew hM _)).mono ?_); rintro e w7 ⟨rfl, k7, rfl⟩))
      go_ret
      exact ⟨rfl, below_draw _ _⟩
theorem inverts (n : Int) (w : World) (hM : Mon w) :
    Calls Tryd.prog 4 #[.int .i64 n] w fun e w' => e = .returned (.bool true) ∧ Below w.heap.size w w' := by
  by_cases h : 0 ≤ n ∧ n < 745654
  · obtain ⟨N, rfl⟩ := Int.eq_ofNat_of_zero_le h.1
    exact inverts_in N (by omega) w hM
  · exact inverts_out n h w hM

/-! ### ages -/
theorem is31 : Is 31 2000 2 1 := ⟨by decide, by decide, by decide, by decide, by decide, by decide⟩
theorem is397 : Is 397 2001 2 1 := ⟨by decide, by decide, by decide, by decide, by decide, by decide⟩
theorem age_eg (w : World) (hM : Mon w) :
    Calls Tryd.prog 16 #[.int .i64 31, .int .i64 397] w fun e w' => e = .returned (.tuple #[.int .i64 1, .int .i64 0]) ∧ ∃ d, w' = w.drewN d :=
  age_ok 31 397 2000 2 1 2001 2 1 1 (Lib.hid (by decide)) is31 is397 (by omega) (by omega) w hM
theorem ag_next {n Y M D Y' M' D' Y'' M'' D'' : Nat} (h : Is n Y' M' D') (h' : Is (n + 1) Y'' M'' D'') (m1 : M ≤ 12) (m0 : 1 ≤ M) (d0 : 1 ≤ D) (d1 : D ≤ 31) :
    ag Y M D Y' M' D' ≤ ag Y M D Y'' M'' D'' ∧ ag Y M D Y'' M'' D'' ≤ ag Y M D Y' M' D' + 1 := by
  have a := h.m0
  have b := h.m1
  have c := h.d0
  rcases h.next h' with ⟨rfl, rfl, rfl, _⟩ | ⟨rfl, h28, ⟨rfl, rfl⟩ | ⟨rfl, rfl, rfl⟩⟩
  · unfold ag; split <;> split <;> omega
  · unfold ag; split <;> split <;> omega
  · unfold ag; split <;> split <;> omega

set_option maxRecDepth 10000 in
set_option maxHeartbeats 400000 in
theorem ages_no (b n : Int) (h : ¬ (0 ≤ b ∧ b < 745654 ∧ 0 ≤ n ∧ n < 745654 ∧ b ≤ n)) (w : World) (hM : Mon w) :
    Calls Tryd.prog 5 #[.int .i64 b, .int .i64 n] w fun e w' => e = .returned (.bool true) ∧ Below w.heap.size w w' := by
  have c1 := age_no b n h
  have c2 := rage_no b n h
  clear h
  go_enter Tryd.func5, Tryd.ntmps5
  go_wp2_with (first
    | (go_at_call 16; first | ((with_reducible refine (c1 _).mono ?_); rintro e w1 ⟨rfl, rfl⟩) | ((with_reducible refine (age_eg _ hM).mono ?_); rintro e w3 ⟨rfl, k3, rfl⟩))
    | (go_at_call 17; (with_reducible refine (c2 _).mono ?_); rintro e w2 ⟨rfl, rfl⟩))
  go_ret
  exact ⟨rfl, below_draw _ _⟩
set_option maxRecDepth 10000 in
set_option maxHeartbeats 400000 in
theorem ages_yes (b n : Nat) (hb : b ≤ n) (hn : n < 745654) (w : World) (hM : Mon w) :
    Calls Tryd.prog 5 #[.int .i64 (b : Int), .int .i64 (n : Int)] w fun e w' => e = .returned (.bool true) ∧ Below w.heap.size w w' := by
  obtain ⟨Y, M, D, hI⟩ := Is.ex b
  obtain ⟨Y', M', D', hI'⟩ := Is.ex n
  obtain ⟨V, hV⟩ : ∃ V, V = ag Y M D Y' M' D' := ⟨_, rfl⟩
  have c1 := fun w h' => age_ok b n Y M D Y' M' D' V (Lib.hid hV) hI hI' hb hn w h'
  have c2 := fun w => rage_ok b n Y M D Y' M' D' V (Lib.hid hV) hI hI' hb hn w
  have K0 := Kc.start hM
  by_cases hl : n = 745653
  · have tl : decide ((n : Int) < 745653) = false := decide_eq_false (by omega)
    clear hM hI hI' hV hl
    go_enter Tryd.func5, Tryd.ntmps5
    go_wp2_with (first
      | (go_at_call 16; first | ((with_reducible refine (c1 _ K0.mon).mono ?_); rintro e w1 ⟨rfl, k1, rfl⟩; have K1 := K0.drew k1) | ((with_reducible refine (age_eg _ K2.mon).mono ?_); rintro e w3 ⟨rfl, k3, rfl⟩; have K3 := K2.drew k3))
      | (go_at_call 17; (with_reducible refine (c2 _).mono ?_); rintro e w2 ⟨rfl, b2⟩; have K2 := K1.on b2; clear b2))
    go_ret
    exact ⟨rfl, K3.bel⟩
  · have tl : (n : Int) < 745653 := by omega
    obtain ⟨Y'', M'', D'', hI''⟩ := Is.ex (n + 1)
    obtain ⟨U, hU⟩ : ∃ U, U = ag Y M D Y'' M'' D'' := ⟨_, rfl⟩
    have c3 := fun w h' => age_ok b (n + 1) Y M D Y'' M'' D'' U (Lib.hid hU) hI hI'' (by omega) (by omega) w h'
    rw [Int.natCast_succ] at c3
    have g := ag_next (Y := Y) (D := D) hI' hI'' hI.m1 hI.m0 hI.d0 (hI.small (by omega)).2
    rw [← hV, ← hU] at g
    obtain ⟨g1, g2⟩ := g
    have b1 : V ≤ 5000 := by
      rw [hV]
      have := (hI'.small (by omega)).1
      unfold ag; split <;> omega
    have b0 : -5000 ≤ V := by
      rw [hV]
      have := (hI.small (by omega)).1
      unfold ag; split <;> omega
    have t1 : decide (U < V) = false := decide_eq_false (by omega)
    have t2 : decide (V + 1 < U) = false := decide_eq_false (by omega)
    clear hM hI hI' hI'' hV hU hl
    go_enter Tryd.func5, Tryd.ntmps5
    go_wp2_with (first
      | (go_at_call 16; first | ((with_reducible refine (c1 _ K0.mon).mono ?_); rintro e w1 ⟨rfl, k1, rfl⟩; have K1 := K0.drew k1) | ((with_reducible refine (age_eg _ K2.mon).mono ?_); rintro e w3 ⟨rfl, k3, rfl⟩) | ((with_reducible refine (c3 _ (mon_drew K2.mon _)).mono ?_); rintro e w4 ⟨rfl, k4, rfl⟩))
      | (go_at_call 17; (with_reducible refine (c2 _).mono ?_); rintro e w2 ⟨rfl, b2⟩; have K2 := K1.on b2; clear b2))
    go_ret
    exact ⟨rfl, (K2.drew _).bel⟩
theorem ages (b n : Int) (w : World) (hM : Mon w) :
    Calls Tryd.prog 5 #[.int .i64 b, .int .i64 n] w fun e w' => e = .returned (.bool true) ∧ Below w.heap.size w w' := by
  by_cases h : 0 ≤ b ∧ b < 745654 ∧ 0 ≤ n ∧ n < 745654 ∧ b ≤ n
  · obtain ⟨B, rfl⟩ := Int.eq_ofNat_of_zero_le h.1
    obtain ⟨N, rfl⟩ := Int.eq_ofNat_of_zero_le h.2.2.1
    exact ages_yes B N (by omega) (by omega) w hM
  · exact ages_no b n h w hM

/-! ### periods -/
set_option maxRecDepth 10000 in
theorem periods (t k : Int) (w : World) (hM : Mon w) :
    Calls Tryd.prog 6 #[.int .i64 t, .int .i64 k] w fun e w' => e = .returned (.bool true) ∧ Below w.heap.size w w' := by
  obtain ⟨V1, V2, E, c1, c2, _⟩ := per_pair t k
  have K0 := Kc.start hM
  clear hM
  go_enter Tryd.func6, Tryd.ntmps6
  go_wp2_with (first
    | (go_at_call 18; first | ((with_reducible refine (c1 _ K0.mon).mono ?_); rintro e w1 ⟨rfl, k1, rfl⟩; have K1 := K0.drew k1) | ((with_reducible refine (per_eg _).mono ?_); rintro e w3 ⟨rfl, rfl⟩))
    | (go_at_call 19; (with_reducible refine (c2 _).mono ?_); rintro e w2 ⟨rfl, b2⟩; have K2 := K1.on b2; clear b2))
  go_ret
  exact ⟨rfl, K2.bel⟩

/-- the periods of two days are the same or do not overlap -/
theorem pk_in {q : Nat} {k F N : Int} (h : Pk q k F N) : F ≤ q ∧ q < N := by
  rcases h with ⟨_, rfl, rfl⟩ | ⟨_, rfl, rfl⟩ | ⟨_, Y, M, D, hI, rfl, rfl⟩
  · omega
  · omega
  · have := hI.month; omega
theorem pk_two {q r : Nat} {k F N F' N' : Int} (h : Pk q k F N) (h' : Pk r k F' N') : (F = F' ∧ N = N') ∨ N ≤ F' ∨ N' ≤ F := by
  rcases h with ⟨k1, rfl, rfl⟩ | ⟨k1, rfl, rfl⟩ | ⟨k1, Y, M, D, hI, rfl, rfl⟩
  · rcases h' with ⟨_, rfl, rfl⟩ | ⟨k2, _, _⟩ | ⟨k2, _⟩
    · omega
    · omega
    · omega
  · rcases h' with ⟨k2, _, _⟩ | ⟨_, rfl, rfl⟩ | ⟨k2, _⟩
    · omega
    · omega
    · omega
  · rcases h' with ⟨k2, _, _⟩ | ⟨k2, _, _⟩ | ⟨_, Y', M', D', hI', rfl, rfl⟩
    · omega
    · omega
    · have month : ∀ {a b : Nat} {Y M D Y' M' D' : Nat}, Is a Y M D → Is b Y' M' D' → (Y < Y' ∨ Y = Y' ∧ M < M') → mS Y (M + 1) ≤ mS Y' M' := by
        intro a b Y M D Y' M' D' h h' c
        rcases c with c | ⟨rfl, c⟩
        · have e1 := mS_le Y (a := M + 1) (b := 13) (by omega) (by have := h.m1; omega) (Nat.le_refl _)
          rw [mS_last h.y0] at e1
          have e2 := mS_le Y' (a := 1) (b := M') (Nat.le_refl _) h'.m0 (by have := h'.m1; omega)
          rw [mS_one] at e2
          exact Nat.le_trans e1 (Nat.le_trans (yS_le (by have := h.y0; omega) c) e2)
        · exact mS_le Y (by omega) c (by have := h'.m1; omega)
      rcases Nat.lt_trichotomy Y Y' with c | rfl | c
      · have := month hI hI' (.inl c); omega
      · rcases Nat.lt_trichotomy M M' with c | rfl | c
        · have := month hI hI' (.inr ⟨rfl, c⟩); omega
        · exact .inl ⟨rfl, rfl⟩
        · have := month hI' hI (.inr ⟨rfl, c⟩); omega
      · have := month hI' hI (.inl c); omega
set_option maxRecDepth 10000 in
set_option maxHeartbeats 400000 in
theorem parts_bad (t u k V1 V2 E U1 U2 G : Int) (w : World) (hM : Mon w)
    (c1 : ∀ w, Mon w → Calls Tryd.prog 18 #[.int .i64 t, .int .i64 k] w fun e w' => e = .returned (.tuple #[.int .i64 V1, .int .i64 V2, .int .i64 E]) ∧ ∃ d, w' = w.drewN d)
    (c2 : ∀ w, Mon w → Calls Tryd.prog 18 #[.int .i64 u, .int .i64 k] w fun e w' => e = .returned (.tuple #[.int .i64 U1, .int .i64 U2, .int .i64 G]) ∧ ∃ d, w' = w.drewN d)
    (h : (E != 0) = true ∨ (E != 0) = false ∧ (G != 0) = true) :
    Calls Tryd.prog 7 #[.int .i64 t, .int .i64 u, .int .i64 k] w fun e w' => e = .returned (.bool true) ∧ Below w.heap.size w w' := by
  rcases h with h | ⟨h, h2⟩
  · go_enter Tryd.func7, Tryd.ntmps7
    go_wp2_with (go_at_call 18; first | ((with_reducible refine (per_eg _).mono ?_); rintro e w3 ⟨rfl, rfl⟩) | ((with_reducible refine (c1 _ hM).mono ?_); rintro e w1 ⟨rfl, k1, rfl⟩) | ((with_reducible refine (c2 _ (mon_drew hM _)).mono ?_); rintro e w2 ⟨rfl, k2, rfl⟩))
    go_ret
    exact ⟨rfl, below_draw _ _⟩
  · go_enter Tryd.func7, Tryd.ntmps7
    go_wp2_with (go_at_call 18; first | ((with_reducible refine (per_eg _).mono ?_); rintro e w3 ⟨rfl, rfl⟩) | ((with_reducible refine (c1 _ hM).mono ?_); rintro e w1 ⟨rfl, k1, rfl⟩) | ((with_reducible refine (c2 _ (mon_drew hM _)).mono ?_); rintro e w2 ⟨rfl, k2, rfl⟩))
    go_ret
    exact ⟨rfl, below_draw _ _⟩
set_option maxRecDepth 10000 in
set_option maxHeartbeats 800000 in
theorem parts_ok (t u k V1 V2 U1 U2 : Int) (w : World) (hM : Mon w)
    (c1 : ∀ w, Mon w → Calls Tryd.prog 18 #[.int .i64 t, .int .i64 k] w fun e w' => e = .returned (.tuple #[.int .i64 V1, .int .i64 V2, .int .i64 0]) ∧ ∃ d, w' = w.drewN d)
    (c2 : ∀ w, Mon w → Calls Tryd.prog 18 #[.int .i64 u, .int .i64 k] w fun e w' => e = .returned (.tuple #[.int .i64 U1, .int .i64 U2, .int .i64 0]) ∧ ∃ d, w' = w.drewN d)
    (a1 : V1 ≤ t) (a2 : t ≤ V2) (a3 : U1 ≤ u) (a4 : u ≤ U2) (h : (V1 = U1 ∧ V2 = U2) ∨ V2 < U1 ∨ U2 < V1) :
    Calls Tryd.prog 7 #[.int .i64 t, .int .i64 u, .int .i64 k] w fun e w' => e = .returned (.bool true) ∧ Below w.heap.size w w' := by
  rcases h with ⟨rfl, rfl⟩ | h | h
  · go_enter Tryd.func7, Tryd.ntmps7
    go_wp2_with (go_at_call 18; first | ((with_reducible refine (per_eg _).mono ?_); rintro e w3 ⟨rfl, rfl⟩) | ((with_reducible refine (c1 _ hM).mono ?_); rintro e w1 ⟨rfl, k1, rfl⟩) | ((with_reducible refine (c2 _ (mon_drew hM _)).mono ?_); rintro e w2 ⟨rfl, k2, rfl⟩))
    go_ret
    exact ⟨rfl, below_draw _ _⟩
  · have h1 : (V1 == U1) = false := by simp; omega
    go_enter Tryd.func7, Tryd.ntmps7
    go_wp2_with (go_at_call 18; first | ((with_reducible refine (per_eg _).mono ?_); rintro e w3 ⟨rfl, rfl⟩) | ((with_reducible refine (c1 _ hM).mono ?_); rintro e w1 ⟨rfl, k1, rfl⟩) | ((with_reducible refine (c2 _ (mon_drew hM _)).mono ?_); rintro e w2 ⟨rfl, k2, rfl⟩))
    go_ret
    exact ⟨rfl, below_draw _ _⟩
  · have h1 : (V1 == U1) = false := by simp; omega
    have h2 : decide (V2 < U1) = false := decide_eq_false (by omega)
    go_enter Tryd.func7, Tryd.ntmps7
    go_wp2_with (go_at_call 18; first | ((with_reducible refine (per_eg _).mono ?_); rintro e w3 ⟨rfl, rfl⟩) | ((with_reducible refine (c1 _ hM).mono ?_); rintro e w1 ⟨rfl, k1, rfl⟩) | ((with_reducible refine (c2 _ (mon_drew hM _)).mono ?_); rintro e w2 ⟨rfl, k2, rfl⟩))
    go_ret
    exact ⟨rfl, below_draw _ _⟩
theorem parts (t u k : Int) (w : World) (hM : Mon w) :
    Calls Tryd.prog 7 #[.int .i64 t, .int .i64 u, .int .i64 k] w fun e w' => e = .returned (.bool true) ∧ Below w.heap.size w w' := by
  obtain ⟨V1, V2, E, c1, _, h1⟩ := per_pair t k
  obtain ⟨U1, U2, G, c2, _, h2⟩ := per_pair u k
  rcases h1 with ⟨rfl, n, F, N, e1, n1, p1, v1, v2⟩ | rfl | rfl
  · rcases h2 with ⟨rfl, m, F', N', e2, m1, p2, u1, u2⟩ | rfl | rfl
    · have i1 := pk_in p1
      have i2 := pk_in p2
      have i3 := pk_two p1 p2
      refine parts_ok t u k V1 V2 U1 U2 w hM c1 c2 (by omega) (by omega) (by omega) (by omega) ?_
      rcases i3 with ⟨rfl, rfl⟩ | i3 | i3
      · exact .inl ⟨by rw [v1, u1], by rw [v2, u2]⟩
      · exact .inr (.inl (by omega))
      · exact .inr (.inr (by omega))
    · exact parts_bad t u k V1 V2 0 U1 U2 2 w hM c1 c2 (.inr ⟨by decide, by decide⟩)
    · exact parts_bad t u k V1 V2 0 U1 U2 7 w hM c1 c2 (.inr ⟨by decide, by decide⟩)
  · exact parts_bad t u k V1 V2 2 U1 U2 G w hM c1 c2 (.inl (by decide))
  · exact parts_bad t u k V1 V2 7 U1 U2 G w hM c1 c2 (.inl (by decide))
end Go.Proofs.YtppklkiodbnipaaDoor.clL

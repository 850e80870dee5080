/-
  Contracts of the reference's Day, Date, Weekday, Age, Period: as the program's; new memory alone.
-/
import Derived.Test.YtppklkiodbnipaaDoorClC
import Derived.Test.YtppklkiodbnipaaDoorClD
namespace Go.Proofs.YtppklkiodbnipaaDoor.clE
open Go.RowKit
open Go.Proofs.YtppklkiodbnipaaDoor.clM Go.Proofs.YtppklkiodbnipaaDoor.clA Go.Proofs.YtppklkiodbnipaaDoor.clB Go.Proofs.YtppklkiodbnipaaDoor.clC Go.Proofs.YtppklkiodbnipaaDoor.clD
set_option linter.unusedVariables false

set_option maxRecDepth 4000 in
theorem rday_ok (n Y M D : Nat) (h : Is n Y M D) (hn : n < 745654) (w : World) :
    Calls Tryd.prog 10 #[.int .i64 (Y : Int), .int .i64 (M : Int), .int .i64 (D : Int)] w fun e w' => e = .returned (.tuple #[.int .i64 (n : Int), .int .i64 0]) ∧ Below w.heap.size w w' := by
  have hs := h.small (by omega)
  have c1 := fun w => rex_yes n Y M D h (by omega) w
  have c2 := fun w => rnum_any n Y M D h (by omega) w
  have t : decide (745654 ≤ n) = false := decide_eq_false (by omega)
  have t' : decide ((745654 : Int) ≤ (n : Int)) = false := decide_eq_false (by omega)
  clear h hs
  have B0 := Below.refl w.heap.size w
  go_enter Tryd.func10, Tryd.ntmps10
  go_wp2_with (first
    | (go_at_call 26; (with_reducible refine (c1 _).mono ?_); rintro e w1 ⟨rfl, b1⟩; have B1 := below_on B0 b1; clear b1)
    | (go_at_call 27; first
      | (have B3 := B2; (with_reducible refine (c2 _).mono ?_); rintro e w3 ⟨rfl, b3⟩; have B4 := below_on B3 b3; clear b3)
      | ((with_reducible refine (c2 _).mono ?_); rintro e w2 ⟨rfl, b2⟩; have B2 := below_on B1 b2; clear b2)))
  go_ret2
  exact ⟨rfl, B4⟩
set_option maxRecDepth 4000 in
theorem rday_no (y m d : Int) (h : ∀ n, Dt y m d n → 745654 ≤ n) (w : World) :
    Calls Tryd.prog 10 #[.int .i64 y, .int .i64 m, .int .i64 d] w fun e w' => e = .returned (.tuple #[.int .i64 0, .int .i64 2]) ∧ Below w.heap.size w w' := by
  by_cases hd : ∃ n, Dt y m d n ∧ y ≤ 4100
  · obtain ⟨n, hD, hy⟩ := hd
    have hn := h n hD
    obtain ⟨Y, M, D, rfl, rfl, rfl, hI⟩ := hD
    have c1 := fun w => rex_yes n Y M D hI (by omega) w
    have c2 := fun w => rnum_any n Y M D hI (by omega) w
    have t' : (745654 : Int) ≤ (n : Int) := by omega
    clear h hI hn hy
    go_enter Tryd.func10, Tryd.ntmps10
    go_wp2_with (first
      | (go_at_call 26; (with_reducible refine (c1 _).mono ?_); rintro e w1 ⟨rfl, b1⟩)
      | (go_at_call 27; (with_reducible refine (c2 _).mono ?_); rintro e w2 ⟨rfl, b2⟩))
    go_ret2
    exact ⟨rfl, below_on b1 b2⟩
  · have c1 := fun w => rex_no y m d (fun n hD => Int.not_le.1 fun hy => hd ⟨n, hD, hy⟩) w
    clear h hd
    go_enter Tryd.func10, Tryd.ntmps10
    go_wp2_with (go_at_call 26; (with_reducible refine (c1 _).mono ?_); rintro e w1 ⟨rfl, b1⟩)
    go_ret2
    exact ⟨rfl, b1⟩

theorem rdate_ok (n Y M D : Nat) (h : Is n Y M D) (hn : n < 745654) (w : World) :
    Calls Tryd.prog 12 #[.int .i64 (n : Int)] w fun e w' => e = .returned (.tuple #[.int .i64 (Y : Int), .int .i64 (M : Int), .int .i64 (D : Int), .int .i64 0]) ∧ Below w.heap.size w w' := by
  have c1 := fun w => civil_any n Y M D h (by omega) w
  have c2 := fun w => risday_any (n : Int) true (Lib.hid (decide_eq_true ⟨by omega, by omega⟩).symm) w
  clear h
  go_enter Tryd.func12, Tryd.ntmps12
  go_wp2_with (first
    | (go_at_call 30; (with_reducible refine (c1 _).mono ?_); rintro e w1 ⟨rfl, b1⟩)
    | (go_at_call 29; (with_reducible refine (c2 _).mono ?_); rintro e w' ⟨rfl, rfl⟩))
  ((try simp only [Exit.inBlock, Exit.then]); refine bodyPost_ret (results_tmp4 rfl _ _ _) rfl ?_)
  exact ⟨rfl, b1⟩
theorem rdate_no (n : Int) (h : ¬ (0 ≤ n ∧ n < 745654)) (w : World) :
    Calls Tryd.prog 12 #[.int .i64 n] w fun e w' => e = .returned (.tuple #[.int .i64 0, .int .i64 0, .int .i64 0, .int .i64 2]) ∧ w = w' := by
  have c2 := fun w => risday_any n false (Lib.hid (decide_eq_false h).symm) w
  clear h
  go_enter Tryd.func12, Tryd.ntmps12
  go_wp2_with (go_at_call 29; (with_reducible refine (c2 _).mono ?_); rintro e w' ⟨rfl, rfl⟩)
  ((try simp only [Exit.inBlock, Exit.then]); refine bodyPost_ret (results_tmp4 rfl _ _ _) rfl ?_)
  exact ⟨rfl, rfl⟩
theorem rwk_ok (n : Nat) (hn : n < 745654) (w : World) :
    Calls Tryd.prog 14 #[.int .i64 (n : Int)] w fun e w' => e = .returned (.tuple #[.int .i64 (((n + 5) % 7 : Nat) : Int), .int .i64 0]) ∧ w = w' := by
  have c1 := fun w => rwd_any n (by omega) w
  have c2 := fun w => risday_any (n : Int) true (Lib.hid (decide_eq_true ⟨by omega, by omega⟩).symm) w
  generalize (n + 5) % 7 = v at *
  go_enter Tryd.func14, Tryd.ntmps14
  go_wp2_with (first
    | (go_at_call 32; (with_reducible refine (c1 _).mono ?_); rintro e w' ⟨rfl, rfl⟩)
    | (go_at_call 29; (with_reducible refine (c2 _).mono ?_); rintro e w' ⟨rfl, rfl⟩))
  go_ret2
  exact ⟨rfl, rfl⟩
theorem rwk_no (n : Int) (h : ¬ (0 ≤ n ∧ n < 745654)) (w : World) :
    Calls Tryd.prog 14 #[.int .i64 n] w fun e w' => e = .returned (.tuple #[.int .i64 0, .int .i64 2]) ∧ w = w' := by
  have c2 := fun w => risday_any n false (Lib.hid (decide_eq_false h).symm) w
  clear h
  go_enter Tryd.func14, Tryd.ntmps14
  go_wp2_with (go_at_call 29; (with_reducible refine (c2 _).mono ?_); rintro e w' ⟨rfl, rfl⟩)
  go_ret2
  exact ⟨rfl, rfl⟩

theorem rage_ok (b n Y M D Y' M' D' : Nat) (V : Int) (hV : Hid (V = ag Y M D Y' M' D')) (h : Is b Y M D) (h' : Is n Y' M' D') (hb : b ≤ n) (hn : n < 745654) (w : World) :
    Calls Tryd.prog 17 #[.int .i64 (b : Int), .int .i64 (n : Int)] w fun e w' => e = .returned (.tuple #[.int .i64 V, .int .i64 0]) ∧ Below w.heap.size w w' := by
  have c1 := fun w => civil_any b Y M D h (by omega) w
  have c2 := fun w => civil_any n Y' M' D' h' (by omega) w
  have c3 := fun w => risday_any (b : Int) true (Lib.hid (decide_eq_true ⟨by omega, by omega⟩).symm) w
  have c4 := fun w => risday_any (n : Int) true (Lib.hid (decide_eq_true ⟨by omega, by omega⟩).symm) w
  have s1 := h.small (by omega)
  have s2 := h'.small (by omega)
  have tb : decide (n < b) = false := decide_eq_false (by omega)
  clear h h'
  have arm : ∀ (t1 t2 t3 : Bool), decide (M' < M) = t1 → ((M' : Int) == (M : Int)) = t2 → decide (D' < D) = t3 → V = (if t1 || (t2 && t3) then (Y' : Int) - Y - 1 else (Y' : Int) - Y) := by
    intro t1 t2 t3 e1 e2 e3
    rw [hV.out]
    unfold ag
    by_cases a1 : M' < M
    · obtain rfl : t1 = true := by rw [← e1]; exact decide_eq_true a1
      rw [if_pos (.inl a1)]; simp
    · obtain rfl : t1 = false := by rw [← e1]; exact decide_eq_false a1
      by_cases a2 : M' = M
      · obtain rfl : t2 = true := by rw [← e2, a2]; simp
        by_cases a3 : D' < D
        · obtain rfl : t3 = true := by rw [← e3]; exact decide_eq_true a3
          rw [if_pos (.inr ⟨a2, a3⟩)]; simp
        · obtain rfl : t3 = false := by rw [← e3]; exact decide_eq_false a3
          rw [if_neg (fun c => c.elim a1 (fun c => a3 c.2))]; simp
      · obtain rfl : t2 = false := by rw [← e2]; simp; omega
        rw [if_neg (fun c => c.elim a1 (fun c => a2 c.1))]; simp
  clear hV
  cases e1 : decide (M' < M) with
  | true =>
    obtain rfl := arm true _ _ e1 rfl rfl
    clear arm
    go_enter Tryd.func17, Tryd.ntmps17
    go_wp2_with (first
      | (go_at_call 30; first | ((with_reducible refine (c1 _).mono ?_); rintro e w1 ⟨rfl, b1⟩) | ((with_reducible refine (c2 _).mono ?_); rintro e w2 ⟨rfl, b2⟩))
      | (go_at_call 29; first | ((with_reducible refine (c3 _).mono ?_); rintro e w' ⟨rfl, rfl⟩) | ((with_reducible refine (c4 _).mono ?_); rintro e w' ⟨rfl, rfl⟩)))
    go_ret2
    exact ⟨rfl, below_on b1 b2⟩
  | false =>
    cases e2 : ((M' : Int) == (M : Int)) with
    | false =>
      obtain rfl := arm false false _ e1 e2 rfl
      clear arm
      go_enter Tryd.func17, Tryd.ntmps17
      go_wp2_with (first
        | (go_at_call 30; first | ((with_reducible refine (c1 _).mono ?_); rintro e w1 ⟨rfl, b1⟩) | ((with_reducible refine (c2 _).mono ?_); rintro e w2 ⟨rfl, b2⟩))
        | (go_at_call 29; first | ((with_reducible refine (c3 _).mono ?_); rintro e w' ⟨rfl, rfl⟩) | ((with_reducible refine (c4 _).mono ?_); rintro e w' ⟨rfl, rfl⟩)))
      go_ret2
      exact ⟨rfl, below_on b1 b2⟩
    | true =>
      cases e3 : decide (D' < D) with
      | true =>
        obtain rfl := arm false true true e1 e2 e3
        clear arm
        go_enter Tryd.func17, Tryd.ntmps17
        go_wp2_with (first
          | (go_at_call 30; first | ((with_reducible refine (c1 _).mono ?_); rintro e w1 ⟨rfl, b1⟩) | ((with_reducible refine (c2 _).mono ?_); rintro e w2 ⟨rfl, b2⟩))
          | (go_at_call 29; first | ((with_reducible refine (c3 _).mono ?_); rintro e w' ⟨rfl, rfl⟩) | ((with_reducible refine (c4 _).mono ?_); rintro e w' ⟨rfl, rfl⟩)))
        go_ret2
        exact ⟨rfl, below_on b1 b2⟩
      | false =>
        obtain rfl := arm false true false e1 e2 e3
        clear arm
        go_enter Tryd.func17, Tryd.ntmps17
        go_wp2_with (first
          | (go_at_call 30; first | ((with_reducible refine (c1 _).mono ?_); rintro e w1 ⟨rfl, b1⟩) | ((with_reducible refine (c2 _).mono ?_); rintro e w2 ⟨rfl, b2⟩))
          | (go_at_call 29; first | ((with_reducible refine (c3 _).mono ?_); rintro e w' ⟨rfl, rfl⟩) | ((with_reducible refine (c4 _).mono ?_); rintro e w' ⟨rfl, rfl⟩)))
        go_ret2
        exact ⟨rfl, below_on b1 b2⟩

/-! ### periods -/
theorem rper_no (t k : Int) (h : ¬ (0 ≤ t ∧ t ≤ 1073741824)) (w : World) :
    Calls Tryd.prog 19 #[.int .i64 t, .int .i64 k] w fun e w' => e = .returned (.tuple #[.int .i64 0, .int .i64 0, .int .i64 2]) ∧ w = w' := by
  have c2 := fun w => ristime_any t false (Lib.hid (decide_eq_false h).symm) w
  clear h
  go_enter Tryd.func19, Tryd.ntmps19
  go_wp2_with (go_at_call 35; (with_reducible refine (c2 _).mono ?_); rintro e w' ⟨rfl, rfl⟩)
  go_ret3
  exact ⟨rfl, rfl⟩
theorem rper_kind (t : Nat) (k : Int) (ht : t ≤ 1073741824) (h1 : k ≠ 1) (h2 : k ≠ 2) (h3 : k ≠ 3) (w : World) :
    Calls Tryd.prog 19 #[.int .i64 (t : Int), .int .i64 k] w fun e w' => e = .returned (.tuple #[.int .i64 0, .int .i64 0, .int .i64 7]) ∧ w = w' := by
  have c2 := fun w => ristime_any (t : Int) true (Lib.hid (decide_eq_true ⟨by omega, by omega⟩).symm) w
  have t1 : (k == 1) = false := by simpa using h1
  have t2 : (k == 2) = false := by simpa using h2
  have t3 : (k == 3) = false := by simpa using h3
  clear h1 h2 h3
  go_enter Tryd.func19, Tryd.ntmps19
  go_wp2_with (go_at_call 35; (with_reducible refine (c2 _).mono ?_); rintro e w' ⟨rfl, rfl⟩)
  go_ret3
  exact ⟨rfl, rfl⟩
set_option maxRecDepth 4000 in
theorem rper_ok1 (t : Nat) (V1 V2 : Int) (ht : t ≤ 1073741824) (h1 : Hid (V1 = max (((t / 1440 : Nat) : Int) * 1440) 0)) (h2 : Hid (V2 = min ((((t / 1440 : Nat) : Int) + 1) * 1440 - 1) 1073741824)) (w : World) :
    Calls Tryd.prog 19 #[.int .i64 (t : Int), .int .i64 1] w fun e w' => e = .returned (.tuple #[.int .i64 V1, .int .i64 V2, .int .i64 0]) ∧ w = w' := by
  have c2 := fun w => ristime_any (t : Int) true (Lib.hid (decide_eq_true ⟨by omega, by omega⟩).symm) w
  have b : t / 1440 ≤ 745654 := by omega
  have e0 : (t : Int) / 1440 = ((t / 1440 : Nat) : Int) := by omega
  generalize t / 1440 = q at *
  obtain ⟨F1, hF1⟩ : ∃ F1 : Int, 1440 * (q : Int) = F1 := ⟨_, rfl⟩
  obtain ⟨T1, hT1⟩ : ∃ T1 : Int, 1440 * ((q : Int) + 1) - 1 = T1 := ⟨_, rfl⟩
  have e1 : V1 = max F1 0 := by rw [h1.out, ← hF1, Int.mul_comm]
  have e2 : V2 = min T1 1073741824 := by rw [h2.out, ← hT1, Int.mul_comm 1440]
  clear h1 h2
  obtain rfl : V1 = F1 := by omega
  have hF' : decide (V1 < 0) = false := decide_eq_false (by omega)
  clear e1
  by_cases hT : 1073741824 < T1
  · obtain rfl : V2 = 1073741824 := by omega
    clear e2
    go_enter Tryd.func19, Tryd.ntmps19
    go_wp2_with (go_at_call 35; (with_reducible refine (c2 _).mono ?_); rintro e w' ⟨rfl, rfl⟩)
    go_ret3
    exact ⟨rfl, rfl⟩
  · obtain rfl : V2 = T1 := by omega
    have hT' : decide (1073741824 < V2) = false := decide_eq_false hT
    clear e2 hT
    go_enter Tryd.func19, Tryd.ntmps19
    go_wp2_with (go_at_call 35; (with_reducible refine (c2 _).mono ?_); rintro e w' ⟨rfl, rfl⟩)
    go_ret3
    exact ⟨rfl, rfl⟩
set_option maxRecDepth 4000 in
theorem rper_ok2 (t v : Nat) (F V1 V2 : Int) (ht : t ≤ 1073741824) (hv : Hid (v = (t / 1440 + 5) % 7)) (hF : Hid (F = ((t / 1440 : Nat) : Int) - (v : Int))) (h1 : Hid (V1 = max (F * 1440) 0)) (h2 : Hid (V2 = min ((F + 7) * 1440 - 1) 1073741824)) (w : World) :
    Calls Tryd.prog 19 #[.int .i64 (t : Int), .int .i64 2] w fun e w' => e = .returned (.tuple #[.int .i64 V1, .int .i64 V2, .int .i64 0]) ∧ w = w' := by
  have c2 := fun w => ristime_any (t : Int) true (Lib.hid (decide_eq_true ⟨by omega, by omega⟩).symm) w
  have b : t / 1440 ≤ 745654 := by omega
  have c3 := fun w => rwd_any (t / 1440) (by omega) w
  rw [← hv.out] at c3
  have b2 : v ≤ 6 := by rw [hv.out]; omega
  clear hv
  have e0 : (t : Int) / 1440 = ((t / 1440 : Nat) : Int) := by omega
  generalize t / 1440 = q at *
  have eF := hF.out.symm
  obtain ⟨F1, hF1⟩ : ∃ F1 : Int, 1440 * F = F1 := ⟨_, rfl⟩
  obtain ⟨T1, hT1⟩ : ∃ T1 : Int, 1440 * (F + 7) - 1 = T1 := ⟨_, rfl⟩
  have e1 : V1 = max F1 0 := by rw [h1.out, ← hF1, Int.mul_comm]
  have e2 : V2 = min T1 1073741824 := by rw [h2.out, ← hT1, Int.mul_comm 1440]
  have bF : -6 ≤ F ∧ F ≤ 745654 := by omega
  obtain ⟨bF1, bF2⟩ := bF
  clear h1 h2 hF
  by_cases hF0 : F1 < 0
  · obtain rfl : V1 = 0 := by omega
    clear e1
    by_cases hT : 1073741824 < T1
    · obtain rfl : V2 = 1073741824 := by omega
      clear e2
      go_enter Tryd.func19, Tryd.ntmps19
      go_wp2_with (first
        | (go_at_call 35; (with_reducible refine (c2 _).mono ?_); rintro e w' ⟨rfl, rfl⟩)
        | (go_at_call 32; (with_reducible refine (c3 _).mono ?_); rintro e w' ⟨rfl, rfl⟩))
      go_ret3
      exact ⟨rfl, rfl⟩
    · obtain rfl : V2 = T1 := by omega
      have hT' : decide (1073741824 < V2) = false := decide_eq_false hT
      clear e2 hT
      go_enter Tryd.func19, Tryd.ntmps19
      go_wp2_with (first
        | (go_at_call 35; (with_reducible refine (c2 _).mono ?_); rintro e w' ⟨rfl, rfl⟩)
        | (go_at_call 32; (with_reducible refine (c3 _).mono ?_); rintro e w' ⟨rfl, rfl⟩))
      go_ret3
      exact ⟨rfl, rfl⟩
  · obtain rfl : V1 = F1 := by omega
    have hF' : decide (V1 < 0) = false := decide_eq_false hF0
    clear e1
    by_cases hT : 1073741824 < T1
    · obtain rfl : V2 = 1073741824 := by omega
      clear e2
      go_enter Tryd.func19, Tryd.ntmps19
      go_wp2_with (first
        | (go_at_call 35; (with_reducible refine (c2 _).mono ?_); rintro e w' ⟨rfl, rfl⟩)
        | (go_at_call 32; (with_reducible refine (c3 _).mono ?_); rintro e w' ⟨rfl, rfl⟩))
      go_ret3
      exact ⟨rfl, rfl⟩
    · obtain rfl : V2 = T1 := by omega
      have hT' : decide (1073741824 < V2) = false := decide_eq_false hT
      clear e2 hT
      go_enter Tryd.func19, Tryd.ntmps19
      go_wp2_with (first
        | (go_at_call 35; (with_reducible refine (c2 _).mono ?_); rintro e w' ⟨rfl, rfl⟩)
        | (go_at_call 32; (with_reducible refine (c3 _).mono ?_); rintro e w' ⟨rfl, rfl⟩))
      go_ret3
      exact ⟨rfl, rfl⟩
set_option maxRecDepth 4000 in
set_option maxHeartbeats 400000 in
theorem rper_ok3 (t Y M D A B : Nat) (V1 V2 : Int) (ht : t ≤ 1073741824) (h : Is (t / 1440) Y M D) (hA : Hid (A = mS Y M)) (hB : Hid (B = mS Y (M + 1))) (h1 : Hid (V1 = max ((A : Int) * 1440) 0)) (h2 : Hid (V2 = min ((B : Int) * 1440 - 1) 1073741824)) (w : World) :
    Calls Tryd.prog 19 #[.int .i64 (t : Int), .int .i64 3] w fun e w' => e = .returned (.tuple #[.int .i64 V1, .int .i64 V2, .int .i64 0]) ∧ Below w.heap.size w w' := by
  have c2 := fun w => ristime_any (t : Int) true (Lib.hid (decide_eq_true ⟨by omega, by omega⟩).symm) w
  have b : t / 1440 ≤ 745654 := by omega
  have s := h.small b
  have c3 := fun w => civil_any (t / 1440) Y M D h (by omega) w
  have c4 := fun w => rlen_any Y M (by omega) h.m0 h.m1 w
  have m1 := h.m1
  have sm := mS_succ Y h.m0 h.m1
  have ml1 := ml_bound Y h.m0 h.m1
  have eq := h.eq
  rw [← hA.out] at eq
  rw [← hA.out, ← hB.out] at sm
  obtain ⟨L, hL⟩ : ∃ L, L = ml Y M := ⟨_, rfl⟩
  rw [← hL] at c4 sm ml1
  have d0 := h.d0
  clear hA hB hL h
  have e0 : (t : Int) / 1440 = ((t / 1440 : Nat) : Int) := by omega
  generalize t / 1440 = q at *
  have eA : (q : Int) - (D : Int) + 1 = (A : Int) := by omega
  have eB : (A : Int) + (L : Int) = (B : Int) := by omega
  have bA : A ≤ 745654 := by omega
  have bB : B ≤ 745700 := by omega
  obtain ⟨F1, hF1⟩ : ∃ F1 : Int, 1440 * (A : Int) = F1 := ⟨_, rfl⟩
  obtain ⟨T1, hT1⟩ : ∃ T1 : Int, 1440 * (B : Int) - 1 = T1 := ⟨_, rfl⟩
  have e1 : V1 = max F1 0 := by rw [h1.out, ← hF1, Int.mul_comm]
  have e2 : V2 = min T1 1073741824 := by rw [h2.out, ← hT1, Int.mul_comm 1440]
  clear h1 h2 eq sm
  obtain rfl : V1 = F1 := by omega
  have hF' : decide (V1 < 0) = false := decide_eq_false (by omega)
  clear e1
  by_cases hT : 1073741824 < T1
  · obtain rfl : V2 = 1073741824 := by omega
    clear e2
    go_enter Tryd.func19, Tryd.ntmps19
    go_wp2_with (first
      | (go_at_call 35; (with_reducible refine (c2 _).mono ?_); rintro e w' ⟨rfl, rfl⟩)
      | (go_at_call 30; (with_reducible refine (c3 _).mono ?_); rintro e w1 ⟨rfl, b1⟩)
      | (go_at_call 36; (with_reducible refine (c4 _).mono ?_); rintro e w2 ⟨rfl, b2⟩))
    go_ret3
    exact ⟨rfl, below_on b1 b2⟩
  · obtain rfl : V2 = T1 := by omega
    have hT' : decide (1073741824 < V2) = false := decide_eq_false hT
    clear e2 hT
    go_enter Tryd.func19, Tryd.ntmps19
    go_wp2_with (first
      | (go_at_call 35; (with_reducible refine (c2 _).mono ?_); rintro e w' ⟨rfl, rfl⟩)
      | (go_at_call 30; (with_reducible refine (c3 _).mono ?_); rintro e w1 ⟨rfl, b1⟩)
      | (go_at_call 36; (with_reducible refine (c4 _).mono ?_); rintro e w2 ⟨rfl, b2⟩))
    go_ret3
    exact ⟨rfl, below_on b1 b2⟩
end Go.Proofs.YtppklkiodbnipaaDoor.clE

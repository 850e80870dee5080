/-
  Contracts of calendar's Day, Date, Weekday, Age, Period.
-/
import Derived.Test.YtppklkiodbnipaaDoorClB
import Derived.OwnWalk
namespace Go.Proofs.YtppklkiodbnipaaDoor.clC
open Go.RowKit
open Go.Proofs.YtppklkiodbnipaaDoor.clM Go.Proofs.YtppklkiodbnipaaDoor.clA Go.Proofs.YtppklkiodbnipaaDoor.clB
set_option linter.unusedVariables false

set_option maxRecDepth 4000 in
theorem day_ok (n Y M D : Nat) (h : Is n Y M D) (hn : n < 745654) (w : World) (hM : Mon w) :
    Calls Tryd.prog 9 #[.int .i64 (Y : Int), .int .i64 (M : Int), .int .i64 (D : Int)] w fun e w' => e = .returned (.tuple #[.int .i64 (n : Int), .int .i64 0]) ∧ ∃ d, w' = w.drewN d := by
  have hs := h.small (by omega)
  have c1 := fun w h' => dayof_yes n Y M D h (by omega) w h'
  have c2 := fun w => isday_any (n : Int) true (Lib.hid (decide_eq_true ⟨by omega, by omega⟩).symm) w
  clear h hs
  go_enter Tryd.func9, Tryd.ntmps9
  go_wp2_with (first
    | (go_at_call 24; (with_reducible refine (c1 _ hM).mono ?_); rintro e w' ⟨rfl, k1, rfl⟩)
    | (go_at_call 25; (with_reducible refine (c2 _).mono ?_); rintro e w' ⟨rfl, rfl⟩))
  go_ret2
  exact ⟨rfl, _, rfl⟩
set_option maxRecDepth 4000 in
theorem day_no (y m d : Int) (h : ∀ n, Dt y m d n → 745654 ≤ n) (w : World) (hM : Mon w) :
    Calls Tryd.prog 9 #[.int .i64 y, .int .i64 m, .int .i64 d] w fun e w' => e = .returned (.tuple #[.int .i64 0, .int .i64 2]) ∧ ∃ d, w' = w.drewN d := by
  by_cases hd : ∃ n, Dt y m d n ∧ y ≤ 9999
  · obtain ⟨n, hD, hy⟩ := hd
    have hn := h n hD
    obtain ⟨Y, M, D, rfl, rfl, rfl, hI⟩ := hD
    have c1 := fun w h' => dayof_yes n Y M D hI (by omega) w h'
    have c2 := fun w => isday_any (n : Int) false (Lib.hid (decide_eq_false (by omega)).symm) w
    clear h hI hn
    go_enter Tryd.func9, Tryd.ntmps9
    go_wp2_with (first
      | (go_at_call 24; (with_reducible refine (c1 _ hM).mono ?_); rintro e w' ⟨rfl, k1, rfl⟩)
      | (go_at_call 25; (with_reducible refine (c2 _).mono ?_); rintro e w' ⟨rfl, rfl⟩))
    go_ret2
    exact ⟨rfl, _, rfl⟩
  · have c1 := fun w h' => dayof_no y m d (fun n hD => Int.not_le.1 fun hy => hd ⟨n, hD, hy⟩) w h'
    clear h hd
    go_enter Tryd.func9, Tryd.ntmps9
    go_wp2_with (go_at_call 24; (with_reducible refine (c1 _ hM).mono ?_); rintro e w' ⟨rfl, k1, rfl⟩)
    go_ret2
    exact ⟨rfl, _, rfl⟩

theorem results_tmp4 {fn : Func} {t u v x : Tmp} (h : fn.results = #[.tmp t, .tmp u, .tmp v, .tmp x]) (tmps : Array Value) (P : Program) (w : World) :
    (results fn tmps).run P w = .ok (.tuple #[tmps.getD t undef, tmps.getD u undef, tmps.getD v undef, tmps.getD x undef]) w := by
  simp [results, h]
theorem date_ok (n Y M D : Nat) (h : Is n Y M D) (hn : n < 745654) (w : World) (hM : Mon w) :
    Calls Tryd.prog 11 #[.int .i64 (n : Int)] w fun e w' => e = .returned (.tuple #[.int .i64 (Y : Int), .int .i64 (M : Int), .int .i64 (D : Int), .int .i64 0]) ∧ ∃ d, w' = w.drewN d := by
  have c1 := fun w h' => dateof_any n Y M D h (by omega) w h'
  have c2 := fun w => isday_any (n : Int) true (Lib.hid (decide_eq_true ⟨by omega, by omega⟩).symm) w
  clear h
  go_enter Tryd.func11, Tryd.ntmps11
  go_wp2_with (first
    | (go_at_call 28; (with_reducible refine (c1 _ hM).mono ?_); rintro e w' ⟨rfl, k1, rfl⟩)
    | (go_at_call 25; (with_reducible refine (c2 _).mono ?_); rintro e w' ⟨rfl, rfl⟩))
  ((try simp only [Exit.inBlock, Exit.then]); refine bodyPost_ret (results_tmp4 rfl _ _ _) rfl ?_)
  exact ⟨rfl, _, rfl⟩
theorem date_no (n : Int) (h : ¬ (0 ≤ n ∧ n < 745654)) (w : World) :
    Calls Tryd.prog 11 #[.int .i64 n] w fun e w' => e = .returned (.tuple #[.int .i64 0, .int .i64 0, .int .i64 0, .int .i64 2]) ∧ w = w' := by
  have c2 := fun w => isday_any n false (Lib.hid (decide_eq_false h).symm) w
  clear h
  go_enter Tryd.func11, Tryd.ntmps11
  go_wp2_with (go_at_call 25; (with_reducible refine (c2 _).mono ?_); rintro e w' ⟨rfl, rfl⟩)
  ((try simp only [Exit.inBlock, Exit.then]); refine bodyPost_ret (results_tmp4 rfl _ _ _) rfl ?_)
  exact ⟨rfl, rfl⟩
theorem wk_ok (n : Nat) (hn : n < 745654) (w : World) :
    Calls Tryd.prog 13 #[.int .i64 (n : Int)] w fun e w' => e = .returned (.tuple #[.int .i64 (((n + 5) % 7 : Nat) : Int), .int .i64 0]) ∧ w = w' := by
  have c1 := fun w => wd_any n (by omega) w
  have c2 := fun w => isday_any (n : Int) true (Lib.hid (decide_eq_true ⟨by omega, by omega⟩).symm) w
  generalize (n + 5) % 7 = v at *
  go_enter Tryd.func13, Tryd.ntmps13
  go_wp2_with (first
    | (go_at_call 31; (with_reducible refine (c1 _).mono ?_); rintro e w' ⟨rfl, rfl⟩)
    | (go_at_call 25; (with_reducible refine (c2 _).mono ?_); rintro e w' ⟨rfl, rfl⟩))
  go_ret2
  exact ⟨rfl, rfl⟩
theorem wk_no (n : Int) (h : ¬ (0 ≤ n ∧ n < 745654)) (w : World) :
    Calls Tryd.prog 13 #[.int .i64 n] w fun e w' => e = .returned (.tuple #[.int .i64 0, .int .i64 2]) ∧ w = w' := by
  have c2 := fun w => isday_any n false (Lib.hid (decide_eq_false h).symm) w
  clear h
  go_enter Tryd.func13, Tryd.ntmps13
  go_wp2_with (go_at_call 25; (with_reducible refine (c2 _).mono ?_); rintro e w' ⟨rfl, rfl⟩)
  go_ret2
  exact ⟨rfl, rfl⟩

/-! ### ages -/
/-- full years from one date to another -/
def ag (Y M D Y' M' D' : Nat) : Int := if M' < M ∨ M' = M ∧ D' < D then (Y' : Int) - Y - 1 else (Y' : Int) - Y
theorem age_ok (b n Y M D Y' M' D' : Nat) (V : Int) (hV : Hid (V = ag Y M D Y' M' D')) (h : Is b Y M D) (h' : Is n Y' M' D') (hb : b ≤ n) (hn : n < 745654) (w : World) (hM : Mon w) :
    Calls Tryd.prog 16 #[.int .i64 (b : Int), .int .i64 (n : Int)] w fun e w' => e = .returned (.tuple #[.int .i64 V, .int .i64 0]) ∧ ∃ d, w' = w.drewN d := by
  have c1 := fun w h' => dateof_any b Y M D h (by omega) w h'
  have c2 := fun w h1 => dateof_any n Y' M' D' h' (by omega) w h1
  have c3 := fun w => isday_any (b : Int) true (Lib.hid (decide_eq_true ⟨by omega, by omega⟩).symm) w
  have c4 := fun w => isday_any (n : Int) true (Lib.hid (decide_eq_true ⟨by omega, by omega⟩).symm) w
  have s1 := h.small (by omega)
  have s2 := h'.small (by omega)
  have tb : decide (n < b) = false := decide_eq_false (by omega)
  clear h h'
  have arm : ∀ (t1 t2 t3 : Bool), decide (M' < M) = t1 → ((M' : Int) == (M : Int)) = t2 → decide (D' < D) = t3 → V = (if t1 || (t2 && t3) then (Y' : Int) - Y - 1 else (Y' : Int) - Y) := by
    intro t1 t2 t3 e1 e2 e3
    rw [hV.out]
    unfold ag
    by_cases a1 : M' < M
    · obtain rfl : t1 = true := by rw [← e1]; exact decide_eq_true a1
      rw [if_pos (.inl a1)]; simp
    · obtain rfl : t1 = false := by rw [← e1]; exact decide_eq_false a1
      by_cases a2 : M' = M
      · obtain rfl : t2 = true := by rw [← e2, a2]; simp
        by_cases a3 : D' < D
        · obtain rfl : t3 = true := by rw [← e3]; exact decide_eq_true a3
          rw [if_pos (.inr ⟨a2, a3⟩)]; simp
        · obtain rfl : t3 = false := by rw [← e3]; exact decide_eq_false a3
          rw [if_neg (fun c => c.elim a1 (fun c => a3 c.2))]; simp
      · obtain rfl : t2 = false := by rw [← e2]; simp; omega
        rw [if_neg (fun c => c.elim a1 (fun c => a2 c.1))]; simp
  clear hV
  cases e1 : decide (M' < M) with
  | true =>
    obtain rfl := arm true _ _ e1 rfl rfl
    clear arm
    go_enter Tryd.func16, Tryd.ntmps16
    go_wp2_with (first
      | (go_at_call 28; first | ((with_reducible refine (c1 _ hM).mono ?_); rintro e w' ⟨rfl, k1, rfl⟩) | ((with_reducible refine (c2 _ (mon_drew hM _)).mono ?_); rintro e w' ⟨rfl, k2, rfl⟩))
      | (go_at_call 25; first | ((with_reducible refine (c3 _).mono ?_); rintro e w' ⟨rfl, rfl⟩) | ((with_reducible refine (c4 _).mono ?_); rintro e w' ⟨rfl, rfl⟩)))
    go_ret2
    exact ⟨rfl, _, rfl⟩
  | false =>
    cases e2 : ((M' : Int) == (M : Int)) with
    | false =>
      obtain rfl := arm false false _ e1 e2 rfl
      clear arm
      go_enter Tryd.func16, Tryd.ntmps16
      go_wp2_with (first
        | (go_at_call 28; first | ((with_reducible refine (c1 _ hM).mono ?_); rintro e w' ⟨rfl, k1, rfl⟩) | ((with_reducible refine (c2 _ (mon_drew hM _)).mono ?_); rintro e w' ⟨rfl, k2, rfl⟩))
        | (go_at_call 25; first | ((with_reducible refine (c3 _).mono ?_); rintro e w' ⟨rfl, rfl⟩) | ((with_reducible refine (c4 _).mono ?_); rintro e w' ⟨rfl, rfl⟩)))
      go_ret2
      exact ⟨rfl, _, rfl⟩
    | true =>
      cases e3 : decide (D' < D) with
      | true =>
        obtain rfl := arm false true true e1 e2 e3
        clear arm
        go_enter Tryd.func16, Tryd.ntmps16
        go_wp2_with (first
          | (go_at_call 28; first | ((with_reducible refine (c1 _ hM).mono ?_); rintro e w' ⟨rfl, k1, rfl⟩) | ((with_reducible refine (c2 _ (mon_drew hM _)).mono ?_); rintro e w' ⟨rfl, k2, rfl⟩))
          | (go_at_call 25; first | ((with_reducible refine (c3 _).mono ?_); rintro e w' ⟨rfl, rfl⟩) | ((with_reducible refine (c4 _).mono ?_); rintro e w' ⟨rfl, rfl⟩)))
        go_ret2
        exact ⟨rfl, _, rfl⟩
      | false =>
        obtain rfl := arm false true false e1 e2 e3
        clear arm
        go_enter Tryd.func16, Tryd.ntmps16
        go_wp2_with (first
          | (go_at_call 28; first | ((with_reducible refine (c1 _ hM).mono ?_); rintro e w' ⟨rfl, k1, rfl⟩) | ((with_reducible refine (c2 _ (mon_drew hM _)).mono ?_); rintro e w' ⟨rfl, k2, rfl⟩))
          | (go_at_call 25; first | ((with_reducible refine (c3 _).mono ?_); rintro e w' ⟨rfl, rfl⟩) | ((with_reducible refine (c4 _).mono ?_); rintro e w' ⟨rfl, rfl⟩)))
        go_ret2
        exact ⟨rfl, _, rfl⟩

/-! ### periods -/
theorem per_no (t k : Int) (h : ¬ (0 ≤ t ∧ t ≤ 1073741824)) (w : World) :
    Calls Tryd.prog 18 #[.int .i64 t, .int .i64 k] w fun e w' => e = .returned (.tuple #[.int .i64 0, .int .i64 0, .int .i64 2]) ∧ w = w' := by
  have c2 := fun w => istime_any t false (Lib.hid (decide_eq_false h).symm) w
  clear h
  go_enter Tryd.func18, Tryd.ntmps18
  go_wp2_with (go_at_call 33; (with_reducible refine (c2 _).mono ?_); rintro e w' ⟨rfl, rfl⟩)
  go_ret3
  exact ⟨rfl, rfl⟩
theorem per_kind (t : Nat) (k : Int) (ht : t ≤ 1073741824) (h1 : k ≠ 1) (h2 : k ≠ 2) (h3 : k ≠ 3) (w : World) :
    Calls Tryd.prog 18 #[.int .i64 (t : Int), .int .i64 k] w fun e w' => e = .returned (.tuple #[.int .i64 0, .int .i64 0, .int .i64 7]) ∧ w = w' := by
  have c2 := fun w => istime_any (t : Int) true (Lib.hid (decide_eq_true ⟨by omega, by omega⟩).symm) w
  have t1 : (k == 1) = false := by simpa using h1
  have t2 : (k == 2) = false := by simpa using h2
  have t3 : (k == 3) = false := by simpa using h3
  clear h1 h2 h3
  go_enter Tryd.func18, Tryd.ntmps18
  go_wp2_with (go_at_call 33; (with_reducible refine (c2 _).mono ?_); rintro e w' ⟨rfl, rfl⟩)
  go_ret3
  exact ⟨rfl, rfl⟩
/-- the first day of a period, and the first one behind it -/
def Pk (day : Nat) (k F N : Int) : Prop := (k = 1 ∧ F = day ∧ N = day + 1) ∨ (k = 2 ∧ F = day - ((day + 5) % 7 : Nat) ∧ N = F + 7) ∨ (k = 3 ∧ ∃ Y M D, Is day Y M D ∧ F = mS Y M ∧ N = mS Y (M + 1))
theorem three_eq {a b a' b' c : Int} (h : a = a') (h' : b = b') : Ending.returned (.tuple #[.int .i64 a, .int .i64 b, .int .i64 c]) = .returned (.tuple #[.int .i64 a', .int .i64 b', .int .i64 c]) := by rw [h, h']
theorem per_ok1 (t : Nat) (V1 V2 : Int) (ht : t ≤ 1073741824) (h1 : Hid (V1 = max (((t / 1440 : Nat) : Int) * 1440) 0)) (h2 : Hid (V2 = min ((((t / 1440 : Nat) : Int) + 1) * 1440 - 1) 1073741824)) (w : World) :
    Calls Tryd.prog 18 #[.int .i64 (t : Int), .int .i64 1] w fun e w' => e = .returned (.tuple #[.int .i64 V1, .int .i64 V2, .int .i64 0]) ∧ w = w' := by
  have c2 := fun w => istime_any (t : Int) true (Lib.hid (decide_eq_true ⟨by omega, by omega⟩).symm) w
  have b : t / 1440 ≤ 745654 := by omega
  have e0 : (t : Int) / 1440 = ((t / 1440 : Nat) : Int) := by omega
  generalize t / 1440 = q at *
  have e1 := h1.out.symm
  have e2 := h2.out.symm
  clear h1 h2
  go_enter Tryd.func18, Tryd.ntmps18
  go_wp2_with (go_at_call 33; (with_reducible refine (c2 _).mono ?_); rintro e w' ⟨rfl, rfl⟩)
  all_goals
    go_ret3
    exact ⟨three_eq (by omega) (by omega), rfl⟩
theorem per_ok2 (t v : Nat) (F V1 V2 : Int) (ht : t ≤ 1073741824) (hv : Hid (v = (t / 1440 + 5) % 7)) (hF : Hid (F = ((t / 1440 : Nat) : Int) - (v : Int))) (h1 : Hid (V1 = max (F * 1440) 0)) (h2 : Hid (V2 = min ((F + 7) * 1440 - 1) 1073741824)) (w : World) :
    Calls Tryd.prog 18 #[.int .i64 (t : Int), .int .i64 2] w fun e w' => e = .returned (.tuple #[.int .i64 V1, .int .i64 V2, .int .i64 0]) ∧ w = w' := by
  have c2 := fun w => istime_any (t : Int) true (Lib.hid (decide_eq_true ⟨by omega, by omega⟩).symm) w
  have b : t / 1440 ≤ 745654 := by omega
  have c3 := fun w => wd_any (t / 1440) (by omega) w
  rw [← hv.out] at c3
  have b2 : v ≤ 6 := by rw [hv.out]; omega
  clear hv
  have e0 : (t : Int) / 1440 = ((t / 1440 : Nat) : Int) := by omega
  generalize t / 1440 = q at *
  have eF := hF.out.symm
  have e1 := h1.out.symm
  have e2 := h2.out.symm
  have bF : -6 ≤ F ∧ F ≤ 745654 := by omega
  obtain ⟨bF1, bF2⟩ := bF
  clear h1 h2 hF
  go_enter Tryd.func18, Tryd.ntmps18
  go_wp2_with (first
    | (go_at_call 33; (with_reducible refine (c2 _).mono ?_); rintro e w' ⟨rfl, rfl⟩)
    | (go_at_call 31; (with_reducible refine (c3 _).mono ?_); rintro e w' ⟨rfl, rfl⟩))
  all_goals
    go_ret3
    exact ⟨three_eq (by omega) (by omega), rfl⟩
set_option maxRecDepth 4000 in
theorem per_ok3 (t Y M D A B : Nat) (V1 V2 : Int) (ht : t ≤ 1073741824) (h : Is (t / 1440) Y M D) (hA : Hid (A = mS Y M)) (hB : Hid (B = mS Y (M + 1))) (h1 : Hid (V1 = max ((A : Int) * 1440) 0)) (h2 : Hid (V2 = min ((B : Int) * 1440 - 1) 1073741824)) (w : World) (hM : Mon w) :
    Calls Tryd.prog 18 #[.int .i64 (t : Int), .int .i64 3] w fun e w' => e = .returned (.tuple #[.int .i64 V1, .int .i64 V2, .int .i64 0]) ∧ ∃ d, w' = w.drewN d := by
  have c2 := fun w => istime_any (t : Int) true (Lib.hid (decide_eq_true ⟨by omega, by omega⟩).symm) w
  have b : t / 1440 ≤ 745654 := by omega
  have s := h.small b
  have c3 := fun w h' => dateof_any (t / 1440) Y M D h (by omega) w h'
  have c4 := fun w h' => ms_any Y M h.y0 (by omega) h.m0 (by have := h.m1; omega) w h'
  have c5 := fun w h' => ms_any Y (M + 1) h.y0 (by omega) (by omega) (by have := h.m1; omega) w h'
  have m1 := h.m1
  have sm := mS_succ Y h.m0 h.m1
  have ml1 := ml_bound Y h.m0 h.m1
  have hm := h.month
  rw [Int.natCast_succ, ← hB.out] at c5
  rw [← hA.out] at c4
  rw [← hA.out, ← hB.out] at sm hm
  have b3 : A ≤ 745654 ∧ B ≤ 745700 := by omega
  obtain ⟨b3, b4⟩ := b3
  clear hA hB sm ml1 hm h
  have e0 : (t : Int) / 1440 = ((t / 1440 : Nat) : Int) := by omega
  generalize t / 1440 = q at *
  have e1 := h1.out.symm
  have e2 := h2.out.symm
  clear h1 h2
  go_enter Tryd.func18, Tryd.ntmps18
  go_wp2_with (first
    | (go_at_call 33; (with_reducible refine (c2 _).mono ?_); rintro e w' ⟨rfl, rfl⟩)
    | (go_at_call 28; (with_reducible refine (c3 _ hM).mono ?_); rintro e w' ⟨rfl, k3, rfl⟩)
    | (go_at_call 34; first | ((with_reducible refine (c4 _ (mon_drew hM _)).mono ?_); rintro e w' ⟨rfl, k4, rfl⟩) | ((with_reducible refine (c5 _ (mon_drew hM _)).mono ?_); rintro e w' ⟨rfl, k5, rfl⟩)))
  all_goals
    go_ret3
    exact ⟨three_eq (by omega) (by omega), _, rfl⟩
end Go.Proofs.YtppklkiodbnipaaDoor.clC

/-
  Contracts of calendar's yearStart, monthStart, dayOf, dateOf: the days before a year and a month, the day of a date, the date of a day; answers are drawn, nothing else changes.
-/
import Derived.Test.YtppklkiodbnipaaDoorClA
namespace Go.Proofs.YtppklkiodbnipaaDoor.clB
open Go.RowKit
open Go.Proofs.YtppklkiodbnipaaDoor.clM Go.Proofs.YtppklkiodbnipaaDoor.clA
set_option linter.unusedVariables false

theorem quiet_l {P : Program} {f : FuncId} {args : Array Value} {w : World} {n : Nat} {v : Value}
    (h : ∀ w, Calls P f args w fun e w' => e = .returned v ∧ w = w') : Calls P f args (w.drewN n) fun e w'' => e = .returned v ∧ ∃ m, w'' = w.drewN m :=
  (h (w.drewN n)).mono fun _ _ ⟨he, hm⟩ => ⟨he, n, hm.symm⟩
abbrev Mon (w : World) : Prop := Lib.TabIs Tryd.prog w "lottery/calendar.monthStarts" .i64 [0, 31, 59, 90, 120, 151, 181, 212, 243, 273, 304, 334, 365]
theorem gMon : Tryd.prog.globalNamed "lottery/calendar.monthStarts" = some 0 := by kernel_rfl
theorem mon_cell {w : World} (h : Mon w) (m : Nat) (h1 : 1 ≤ m) (h2 : m ≤ 13) : w.cell? ⟨0, m - 1, none⟩ = some (.int .i64 (tbl.getD (m - 1) 0 : Nat)) := by
  rw [Lib.TabIs.cell h gMon (m - 1) (by simp; omega)]
  rcases (show m = 1 ∨ m = 2 ∨ m = 3 ∨ m = 4 ∨ m = 5 ∨ m = 6 ∨ m = 7 ∨ m = 8 ∨ m = 9 ∨ m = 10 ∨ m = 11 ∨ m = 12 ∨ m = 13 by omega) with rfl | rfl | rfl | rfl | rfl | rfl | rfl | rfl | rfl | rfl | rfl | rfl | rfl <;> rfl
theorem mon_drew {w : World} (h : Mon w) (k : Nat) : Mon (w.drewN k) := h

theorem ys_any (y : Nat) (h0 : 2000 ≤ y) (h1 : y ≤ 1000000) (w : World) :
    Calls Tryd.prog 43 #[.int .i64 (y : Int)] w fun e w' => e = .returned (.int .i64 (yS y : Int)) ∧ w = w' := by
  have c1 := fun w => lq_any (y - 1) (by omega) w
  have c2 := fun w => lq_any 1999 (by omega) w
  rw [show lq 1999 = 484 by decide] at c2
  have c2' : ∀ w, Calls Tryd.prog 47 #[.int .i64 1999] w fun e w' => e = .returned (.int .i64 484) ∧ w = w' := c2
  clear c2
  have e1 := yS_eq h0
  have b1 : lq (y - 1) ≤ 1000000 := by unfold lq; omega
  have e2 : (y : Int) - 1 = ((y - 1 : Nat) : Int) := by omega
  generalize lq (y - 1) = L at *
  generalize yS y = Y at *
  have e3 : ((y : Int) - 2000) * 365 + (L : Int) - 484 = (Y : Int) := by omega
  clear e1
  go_enter Tryd.func43, Tryd.ntmps43
  go_wp2_with (go_at_call 47; first | ((with_reducible refine (c1 _).mono ?_); rintro e w' ⟨rfl, rfl⟩) | ((with_reducible refine (c2' _).mono ?_); rintro e w' ⟨rfl, rfl⟩))
  go_ret
  exact ⟨rfl, rfl⟩

set_option maxRecDepth 4000 in
set_option maxHeartbeats 400000 in
theorem ms_any (y m : Nat) (h0 : 2000 ≤ y) (h1 : y ≤ 100000) (m0 : 1 ≤ m) (m1 : m ≤ 13) (w : World) (hM : Mon w) :
    Calls Tryd.prog 34 #[.int .i64 (y : Int), .int .i64 (m : Int)] w fun e w' => e = .returned (.int .i64 (mS y m : Int)) ∧ ∃ d, w' = w.drewN d := by
  have cy := fun w => ys_any y h0 (by omega) w
  have hc := mon_cell hM m m0 m1
  have b1 : yS y ≤ 100000000 := by unfold yS lq; omega
  have b2 : tbl.getD (m - 1) 0 ≤ 365 := by
    rcases (show m = 1 ∨ m = 2 ∨ m = 3 ∨ m = 4 ∨ m = 5 ∨ m = 6 ∨ m = 7 ∨ m = 8 ∨ m = 9 ∨ m = 10 ∨ m = 11 ∨ m = 12 ∨ m = 13 by omega) with rfl | rfl | rfl | rfl | rfl | rfl | rfl | rfl | rfl | rfl | rfl | rfl | rfl <;> decide
  have hS : mS y m = yS y + tbl.getD (m - 1) 0 + (if 2 < m ∧ Lp y then 1 else 0) := rfl
  have cl := fun w => leap_any y (by omega) (decide (Lp y)) (Lib.hid rfl) w
  generalize tbl.getD (m - 1) 0 = T at *
  generalize yS y = Y at *
  have i0 : IntKind.i64.wrap ((m : Int) - 1) = (m : Int) - 1 := IntWalk.i64_in _ (by omega)
  have i1 : (0 : Int) ≤ (m : Int) - 1 := by omega
  have i2 : (m : Int) - 1 < 13 := by omega
  have i3 : ((m : Int) - 1).toNat = m - 1 := by omega
  have i4 : IntKind.i64.wrap ((Y : Int) + (T : Int)) = (Y : Int) + (T : Int) := IntWalk.i64_in _ (by omega)
  by_cases h2 : 2 < m
  · have h2' : (2 : Int) < (m : Int) := by omega
    by_cases hl : Lp y
    · rw [decide_eq_true hl] at cl
      rw [if_pos ⟨h2, hl⟩] at hS
      rw [hS]
      clear hS hl h2 hM
      have e1 : ((Y + T + 1 : Nat) : Int) = (Y : Int) + (T : Int) + 1 := by omega
      rw [e1]; clear e1
      go_enter Tryd.func34, Tryd.ntmps34
      go_wp2_with fail
      go_quiet ((go_at_call 43; exact quiet_l cy))
      go_wp2_with (go_at_call 44; refine (cl _).mono ?_; rintro e w' ⟨rfl, rfl⟩)
      go_ret
      exact ⟨rfl, _, rfl⟩
    · rw [decide_eq_false hl] at cl
      rw [if_neg (fun h => hl h.2)] at hS
      rw [hS]
      clear hS hl h2 hM
      have e1 : ((Y + T + 0 : Nat) : Int) = (Y : Int) + (T : Int) := by omega
      rw [e1]; clear e1
      go_enter Tryd.func34, Tryd.ntmps34
      go_wp2_with fail
      go_quiet ((go_at_call 43; exact quiet_l cy))
      go_wp2_with (go_at_call 44; refine (cl _).mono ?_; rintro e w' ⟨rfl, rfl⟩)
      go_ret
      exact ⟨rfl, _, rfl⟩
  · have h2' : decide ((2 : Int) < (m : Int)) = false := decide_eq_false (by omega)
    rw [if_neg (fun h => h2 h.1)] at hS
    rw [hS]
    clear hS h2 hM
    have e1 : ((Y + T + 0 : Nat) : Int) = (Y : Int) + (T : Int) := by omega
    rw [e1]; clear e1
    go_enter Tryd.func34, Tryd.ntmps34
    go_wp2_with fail
    go_quiet ((go_at_call 43; exact quiet_l cy))
    go_wp2_with fail
    go_ret
    exact ⟨rfl, _, rfl⟩

/-- is it a date? -/
def Dt (y m d : Int) (n : Nat) : Prop := ∃ Y M D : Nat, y = (Y : Int) ∧ m = (M : Int) ∧ d = (D : Int) ∧ Is n Y M D
theorem two_eq {a b a' : Int} {r : Bool} (h : a = a') : Ending.returned (.tuple #[.int .i64 a, .bool r]) = .returned (.tuple #[.int .i64 a', .bool r]) := by rw [h]

set_option maxRecDepth 4000 in
set_option maxHeartbeats 400000 in
theorem dayof_yes (n Y M D : Nat) (h : Is n Y M D) (hY : Y ≤ 9999) (w : World) (hM : Mon w) :
    Calls Tryd.prog 24 #[.int .i64 (Y : Int), .int .i64 (M : Int), .int .i64 (D : Int)] w fun e w' => e = .returned (.tuple #[.int .i64 (n : Int), .bool true]) ∧ ∃ d, w' = w.drewN d := by
  have c1 := fun w h' => ms_any Y M h.y0 (by omega) h.m0 (by have := h.m1; omega) w h'
  have c2 := fun w h' => ms_any Y (M + 1) h.y0 (by omega) (by omega) (by have := h.m1; omega) w h'
  have b1 : yS Y ≤ 100000000 := by unfold yS lq; omega
  have b2 : mS Y M ≤ 200000000 := by
    have := mS_le Y h.m0 (b := 13) (by have := h.m1; omega) (Nat.le_refl _)
    rw [mS_last h.y0, yS_succ h.y0] at this
    have := yl_bound Y
    omega
  have s := mS_succ Y h.m0 h.m1
  have ml1 := ml_bound Y h.m0 h.m1
  obtain ⟨y0, m0, m1, d0, d1, eq⟩ := h
  rw [Int.natCast_succ] at c2
  obtain ⟨B, hB⟩ : ∃ B, B = mS Y (M + 1) := ⟨_, rfl⟩
  obtain ⟨A, hA⟩ : ∃ A, A = mS Y M := ⟨_, rfl⟩
  obtain ⟨L, hL⟩ : ∃ L, L = ml Y M := ⟨_, rfl⟩
  rw [← hB] at c2 s
  rw [← hA] at c1 s b2 eq
  rw [← hL] at s ml1 d1
  clear hA hB hL
  have e1 : (B : Int) - (A : Int) = (L : Int) := by omega
  have e2 : (A : Int) + (D : Int) - 1 = (n : Int) := by omega
  have t1 : decide (L < D) = false := decide_eq_false (by omega)
  clear s eq
  go_enter Tryd.func24, Tryd.ntmps24
  go_wp2_with (go_at_call 34; first | ((with_reducible refine (c1 _ hM).mono ?_); rintro e w' ⟨rfl, k1, rfl⟩) | ((with_reducible refine (c2 _ (mon_drew hM _)).mono ?_); rintro e w' ⟨rfl, k2, rfl⟩))
  go_ret2
  exact ⟨rfl, _, rfl⟩

theorem dayof_no (y m d : Int) (h : ∀ n, Dt y m d n → 9999 < y) (w : World) (hM : Mon w) :
    Calls Tryd.prog 24 #[.int .i64 y, .int .i64 m, .int .i64 d] w fun e w' => e = .returned (.tuple #[.int .i64 0, .bool false]) ∧ ∃ d, w' = w.drewN d := by
  by_cases h1 : y < 2000
  · clear h
    go_enter Tryd.func24, Tryd.ntmps24
    go_wp2_with fail
    go_ret2
    exact ⟨rfl, 0, rfl⟩
  by_cases h2 : 9999 < y
  · clear h
    go_enter Tryd.func24, Tryd.ntmps24
    go_wp2_with fail
    go_ret2
    exact ⟨rfl, 0, rfl⟩
  by_cases h3 : m < 1
  · clear h
    go_enter Tryd.func24, Tryd.ntmps24
    go_wp2_with fail
    go_ret2
    exact ⟨rfl, 0, rfl⟩
  by_cases h4 : 12 < m
  · clear h
    go_enter Tryd.func24, Tryd.ntmps24
    go_wp2_with fail
    go_ret2
    exact ⟨rfl, 0, rfl⟩
  by_cases h5 : d < 1
  · clear h
    go_enter Tryd.func24, Tryd.ntmps24
    go_wp2_with fail
    go_ret2
    exact ⟨rfl, 0, rfl⟩
  obtain ⟨Y, rfl⟩ := Int.eq_ofNat_of_zero_le (show 0 ≤ y by omega)
  obtain ⟨M, rfl⟩ := Int.eq_ofNat_of_zero_le (show 0 ≤ m by omega)
  have y0 : 2000 ≤ Y := by omega
  have m0 : 1 ≤ M := by omega
  have m1 : M ≤ 12 := by omega
  have hd : (ml Y M : Int) < d := by
    apply Decidable.byContradiction
    intro hc
    obtain ⟨D, rfl⟩ := Int.eq_ofNat_of_zero_le (show 0 ≤ d by omega)
    exact absurd (h (mS Y M + D - 1) ⟨Y, M, D, rfl, rfl, rfl, ⟨y0, m0, m1, by omega, by omega, by omega⟩⟩) h2
  have c1 := fun w h' => ms_any Y M y0 (by omega) m0 (by omega) w h'
  have c2 := fun w h' => ms_any Y (M + 1) y0 (by omega) (by omega) (by omega) w h'
  have b1 : yS Y ≤ 100000000 := by unfold yS lq; omega
  have b2 : mS Y M ≤ 200000000 := by
    have := mS_le Y m0 (b := 13) (by omega) (Nat.le_refl _)
    rw [mS_last y0, yS_succ y0] at this
    have := yl_bound Y
    omega
  have s := mS_succ Y m0 m1
  have ml1 := ml_bound Y m0 m1
  rw [Int.natCast_succ] at c2
  obtain ⟨B, hB⟩ : ∃ B, B = mS Y (M + 1) := ⟨_, rfl⟩
  obtain ⟨A, hA⟩ : ∃ A, A = mS Y M := ⟨_, rfl⟩
  obtain ⟨L, hL⟩ : ∃ L, L = ml Y M := ⟨_, rfl⟩
  rw [← hB] at c2 s
  rw [← hA] at c1 s b2
  rw [← hL] at s ml1 hd
  clear hA hB hL
  have e1 : (B : Int) - (A : Int) = (L : Int) := by omega
  clear s h
  go_enter Tryd.func24, Tryd.ntmps24
  go_wp2_with (go_at_call 34; first | ((with_reducible refine (c1 _ hM).mono ?_); rintro e w' ⟨rfl, k1, rfl⟩) | ((with_reducible refine (c2 _ (mon_drew hM _)).mono ?_); rintro e w' ⟨rfl, k2, rfl⟩))
  go_ret2
  exact ⟨rfl, _, rfl⟩

set_option maxRecDepth 4000 in
set_option maxHeartbeats 400000 in
theorem dateof_any (n Y M D : Nat) (h : Is n Y M D) (hn : n ≤ 1000000) (w : World) (hM : Mon w) :
    Calls Tryd.prog 28 #[.int .i64 (n : Int)] w fun e w' => e = .returned (.tuple #[.int .i64 (Y : Int), .int .i64 (M : Int), .int .i64 (D : Int)]) ∧ ∃ d, w' = w.drewN d := by
  have hY : Y ≤ 100000 := by
    have a := h.year
    have g := yS_grow (a := 2000) (Y - 2000) (by omega)
    rw [show 2000 + (Y - 2000) = Y by have := h.y0; omega, yS_2000] at g
    omega
  have hE := clM.early h.y0 h.year.2
  have HL : Hid (∀ y, 2000 ≤ y → y < Y → yS (y + 1) ≤ n) := Lib.hid fun y a b => by
    have := yS_le (a := y + 1) (b := Y) (by omega) (by omega)
    have := h.year.1
    omega
  have HLe : Hid (n < yS (Y + 1)) := Lib.hid h.year.2
  have HB : Hid (∀ m, 1 ≤ m → m < M → mS Y (m + 1) ≤ n) := Lib.hid fun m a b => by
    have := mS_le Y (a := m + 1) (b := M) (by omega) (by omega) (by have := h.m1; omega)
    have := h.month.1
    omega
  have HBe : Hid (n < mS Y (M + 1)) := Lib.hid h.month.2
  obtain ⟨y0, m0, m1, d0, d1, eq⟩ := h
  have HE := Lib.hid eq
  clear eq
  have q1 : (n : Int) / 366 = ((n / 366 : Nat) : Int) := by omega
  generalize n / 366 = q at *
  go_enter Tryd.func28, Tryd.ntmps28
  go_wp2_with fail
  go_loopw [5] (fun s5 wr => ∃ y d : Nat, 2000 ≤ y ∧ y ≤ Y ∧ s5 = .int .i64 (y : Int) ∧ wr = w.drewN d) (fun s5 _ => Y - (intOf s5).toNat)
  case atStart => exact ⟨2000 + q, 0, by omega, hE, by go_num, rfl⟩
  case round =>
    obtain ⟨y, d, hy0, hy1, rfl, rfl⟩ := hrel
    have c1 := fun w => ys_any (y + 1) (by omega) (by omega) w
    rw [Int.natCast_succ] at c1
    by_cases hlt : y < Y
    · have hle : (yS (y + 1) : Int) ≤ (n : Int) := by have := HL.out y hy0 hlt; omega
      obtain ⟨Z, hZ⟩ : ∃ Z, Z = yS (y + 1) := ⟨_, rfl⟩
      rw [← hZ] at c1 hle
      clear hZ
      go_wp2_with (go_at_call 43; refine (c1 _).mono ?_; rintro e w' ⟨rfl, rfl⟩)
      go_roundw
      case rel => exact ⟨y + 1, d, by omega, by omega, by go_num, rfl⟩
      case measure => simp [intOf]; omega
    · obtain rfl : y = Y := by omega
      have hle : decide (yS (y + 1) ≤ n) = false := decide_eq_false (by have := HLe.out; omega)
      obtain ⟨Z, hZ⟩ : ∃ Z, Z = yS (y + 1) := ⟨_, rfl⟩
      rw [← hZ] at c1 hle
      clear hZ
      go_wp2_with (go_at_call 43; refine (c1 _).mono ?_; rintro e w' ⟨rfl, rfl⟩)
      clear c1 hle
      go_loopw [6] (fun s6 wr => ∃ m d : Nat, 1 ≤ m ∧ m ≤ M ∧ s6 = .int .i64 (m : Int) ∧ wr = w.drewN d) (fun s6 _ => M - (intOf s6).toNat)
      case atStart => exact ⟨1, d, by omega, m0, rfl, rfl⟩
      case round =>
        obtain ⟨m, d, hm0, hm1, rfl, rfl⟩ := hrel
        have c2 := fun w h' => ms_any y (m + 1) y0 (by omega) (by omega) (by omega) w h'
        rw [Int.natCast_succ] at c2
        by_cases hlt : m < M
        · have hle : (mS y (m + 1) : Int) ≤ (n : Int) := by have := HB.out m hm0 hlt; omega
          obtain ⟨Z, hZ⟩ : ∃ Z, Z = mS y (m + 1) := ⟨_, rfl⟩
          rw [← hZ] at c2 hle
          clear hZ
          go_wp2_with (go_at_call 34; refine (c2 _ (mon_drew hM _)).mono ?_; rintro e w' ⟨rfl, k, rfl⟩)
          go_roundw
          case rel => exact ⟨m + 1, _, by omega, by omega, by go_num, rfl⟩
          case measure => simp [intOf]; omega
        · obtain rfl : m = M := by omega
          have hle : decide (mS y (m + 1) ≤ n) = false := decide_eq_false (by have := HBe.out; omega)
          have c3 := fun w h' => ms_any y m y0 (by omega) (by omega) (by omega) w h'
          obtain ⟨Z, hZ⟩ : ∃ Z, Z = mS y (m + 1) := ⟨_, rfl⟩
          rw [← hZ] at c2 hle
          clear hZ
          have e3 : (n : Int) - (mS y m : Int) + 1 = (D : Int) := by have := HE.out; omega
          have e4 : (mS y m : Int) ≤ (n : Int) + 1 := by have := HE.out; omega
          obtain ⟨U, hU⟩ : ∃ U, U = mS y m := ⟨_, rfl⟩
          rw [← hU] at c3 e3 e4
          clear hU
          go_wp2_with (go_at_call 34; first | ((with_reducible refine (c2 _ (mon_drew hM _)).mono ?_); rintro e w' ⟨rfl, k, rfl⟩) | ((with_reducible refine (c3 _ (mon_drew hM _)).mono ?_); rintro e w' ⟨rfl, k3, rfl⟩))
          go_ret3
          exact ⟨rfl, _, rfl⟩
end Go.Proofs.YtppklkiodbnipaaDoor.clB

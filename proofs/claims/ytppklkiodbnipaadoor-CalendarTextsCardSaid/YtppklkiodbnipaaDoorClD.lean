/-
  Contracts of the reference's Length, Year, exists, number, Civil: the same numbers; new memory alone.
-/
import Derived.Test.YtppklkiodbnipaaDoorClB
import Derived.OwnWalk
import Derived.WalkSmall
namespace Go.Proofs.YtppklkiodbnipaaDoor.clD
open Go.RowKit
open Go.Proofs.YtppklkiodbnipaaDoor.clM Go.Proofs.YtppklkiodbnipaaDoor.clA Go.Proofs.YtppklkiodbnipaaDoor.clB
set_option linter.unusedVariables false

theorem ryear_any (y : Nat) (hy : y ≤ 1000000) (w : World) :
    Calls Tryd.prog 42 #[.int .i64 (y : Int)] w fun e w' => e = .returned (.int .i64 (yl y : Int)) ∧ w = w' := by
  by_cases h : Lp y
  · have c := fun w => rleap_any y hy true (Lib.hid (decide_eq_true h).symm) w
    rw [show yl y = 366 from if_pos h]
    clear h
    go_enter Tryd.func42, Tryd.ntmps42
    go_wp2_with (go_at_call 45; (with_reducible refine (c _).mono ?_); rintro e w' ⟨rfl, rfl⟩)
    go_ret
    exact ⟨rfl, rfl⟩
  · have c := fun w => rleap_any y hy false (Lib.hid (decide_eq_false h).symm) w
    rw [show yl y = 365 from if_neg h]
    clear h
    go_enter Tryd.func42, Tryd.ntmps42
    go_wp2_with (go_at_call 45; (with_reducible refine (c _).mono ?_); rintro e w' ⟨rfl, rfl⟩)
    go_ret
    exact ⟨rfl, rfl⟩

theorem below_al (w : World) (o : Obj) : Below w.heap.size w (w.alloc o) := (Below.refl _ _).alloc (Nat.le_refl _) _
set_option maxRecDepth 4000 in
theorem rlen_any (y m : Nat) (hy : y ≤ 1000000) (m0 : 1 ≤ m) (m1 : m ≤ 12) (w : World) :
    Calls Tryd.prog 36 #[.int .i64 (y : Int), .int .i64 (m : Int)] w fun e w' => e = .returned (.int .i64 (ml y m : Int)) ∧ Below w.heap.size w w' := by
  have c := fun w => rleap_any y hy (decide (Lp y)) (Lib.hid rfl) w
  by_cases h : m = 2 ∧ Lp y
  · obtain ⟨rfl, h⟩ := h
    rw [decide_eq_true h] at c
    rw [show ml y 2 = 29 from if_pos ⟨rfl, h⟩]
    clear h
    go_enter Tryd.func36, Tryd.ntmps36
    go_wp2_with (go_at_call 45; (with_reducible refine (c _).mono ?_); rintro e w' ⟨rfl, rfl⟩)
    go_ret
    exact ⟨rfl, below_al w _⟩
  · rw [show ml y m = lens.getD (m - 1) 0 from if_neg h]
    obtain ⟨k, rfl⟩ : ∃ k, m = k + 1 := ⟨m - 1, by omega⟩
    rw [Nat.add_sub_cancel]
    have hc : ∀ t fr, (w.alloc (.cells #[.int .i64 31, .int .i64 28, .int .i64 31, .int .i64 30, .int .i64 31, .int .i64 30, .int .i64 31, .int .i64 31, .int .i64 30, .int .i64 31, .int .i64 30, .int .i64 31] t fr)).cell? ⟨w.heap.size, k, none⟩ = some (.int .i64 ((lens.getD k 0 : Nat) : Int)) := by
      intro t fr
      rw [World.cell?_alloc_mark]
      rcases (show k = 0 ∨ k = 1 ∨ k = 2 ∨ k = 3 ∨ k = 4 ∨ k = 5 ∨ k = 6 ∨ k = 7 ∨ k = 8 ∨ k = 9 ∨ k = 10 ∨ k = 11 by omega) with rfl | rfl | rfl | rfl | rfl | rfl | rfl | rfl | rfl | rfl | rfl | rfl <;> rfl
    generalize lens.getD k 0 = V at *
    have e1 : ((k + 1 : Nat) : Int) - 1 = (k : Int) := by omega
    have k1 : (k : Int) < 12 := by omega
    by_cases h2 : k = 1
    · subst h2
      have hl : ¬ Lp y := fun hl => h ⟨rfl, hl⟩
      rw [decide_eq_false hl] at c
      clear h hl
      go_enter Tryd.func36, Tryd.ntmps36
      go_wp2_with (go_at_call 45; (with_reducible refine (c _).mono ?_); rintro e w' ⟨rfl, rfl⟩)
      go_ret
      exact ⟨rfl, below_al w _⟩
    · have t2 : (((k + 1 : Nat) : Int) == 2) = false := by simp; omega
      clear h h2 c
      generalize ((k + 1 : Nat) : Int) = m at *
      go_enter Tryd.func36, Tryd.ntmps36
      go_wp2_with fail
      go_ret
      exact ⟨rfl, below_al w _⟩

set_option maxRecDepth 4000 in
theorem rex_yes (n Y M D : Nat) (h : Is n Y M D) (hY : Y ≤ 4100) (w : World) :
    Calls Tryd.prog 26 #[.int .i64 (Y : Int), .int .i64 (M : Int), .int .i64 (D : Int)] w fun e w' => e = .returned (.bool true) ∧ Below w.heap.size w w' := by
  obtain ⟨y0, m0, m1, d0, d1, _⟩ := h
  have c := fun w => rlen_any Y M (by omega) m0 m1 w
  obtain ⟨L, hL⟩ : ∃ L, L = ml Y M := ⟨_, rfl⟩
  rw [← hL] at c d1
  clear hL
  go_enter Tryd.func26, Tryd.ntmps26
  go_wp2_with (go_at_call 36; (with_reducible refine (c _).mono ?_); rintro e w' ⟨rfl, hb⟩)
  go_ret
  exact ⟨rfl, hb⟩
set_option maxRecDepth 20000 in
theorem rex_no (y m d : Int) (h : ∀ n, Dt y m d n → 4100 < y) (w : World) :
    Calls Tryd.prog 26 #[.int .i64 y, .int .i64 m, .int .i64 d] w fun e w' => e = .returned (.bool false) ∧ Below w.heap.size w w' := by
  by_cases h1 : y < 2000
  · have t : decide (2000 ≤ y) = false := decide_eq_false (by omega)
    clear h
    go_enter Tryd.func26, Tryd.ntmps26
    go_wp2_with fail
    go_ret
    exact ⟨rfl, Below.refl _ _⟩
  by_cases h2 : 4100 < y
  · have t : decide (y ≤ 4100) = false := decide_eq_false (by omega)
    clear h
    go_enter Tryd.func26, Tryd.ntmps26
    go_wp2_with fail
    go_ret
    exact ⟨rfl, Below.refl _ _⟩
  by_cases h3 : m < 1
  · have t : decide (1 ≤ m) = false := decide_eq_false (by omega)
    clear h
    go_enter Tryd.func26, Tryd.ntmps26
    go_wp2_with fail
    go_ret
    exact ⟨rfl, Below.refl _ _⟩
  by_cases h4 : 12 < m
  · have t : decide (m ≤ 12) = false := decide_eq_false (by omega)
    clear h
    go_enter Tryd.func26, Tryd.ntmps26
    go_wp2_with fail
    go_ret
    exact ⟨rfl, Below.refl _ _⟩
  by_cases h5 : d < 1
  · have t : decide (1 ≤ d) = false := decide_eq_false (by omega)
    clear h
    go_enter Tryd.func26, Tryd.ntmps26
    go_wp2_with fail
    go_ret
    exact ⟨rfl, Below.refl _ _⟩
  obtain ⟨Y, rfl⟩ := Int.eq_ofNat_of_zero_le (show 0 ≤ y by omega)
  obtain ⟨M, rfl⟩ := Int.eq_ofNat_of_zero_le (show 0 ≤ m by omega)
  have y0 : 2000 ≤ Y := by omega
  have m0 : 1 ≤ M := by omega
  have m1 : M ≤ 12 := by omega
  have hd : (ml Y M : Int) < d := by
    apply Decidable.byContradiction
    intro hc
    obtain ⟨D, rfl⟩ := Int.eq_ofNat_of_zero_le (show 0 ≤ d by omega)
    exact absurd (h (mS Y M + D - 1) ⟨Y, M, D, rfl, rfl, rfl, ⟨y0, m0, m1, by omega, by omega, by omega⟩⟩) h2
  have c := fun w => rlen_any Y M (by omega) m0 m1 w
  obtain ⟨L, hL⟩ : ∃ L, L = ml Y M := ⟨_, rfl⟩
  rw [← hL] at c hd
  have t : decide (d ≤ (L : Int)) = false := decide_eq_false (by omega)
  clear hL h
  go_enter Tryd.func26, Tryd.ntmps26
  go_wp2_with (go_at_call 36; (with_reducible refine (c _).mono ?_); rintro e w' ⟨rfl, hb⟩)
  go_ret
  exact ⟨rfl, hb⟩

theorem below_draw (w : World) (k : Nat) : Below w.heap.size w (w.drewN k) := ⟨rfl, rfl, rfl, Nat.le_refl _, fun _ _ => rfl⟩
theorem below_on {w w1 w2 : World} (h1 : Below w.heap.size w w1) (h2 : Below w1.heap.size w1 w2) : Below w.heap.size w w2 := h1.trans (h2.mono h1.size)

set_option maxRecDepth 4000 in
set_option maxHeartbeats 400000 in
theorem rnum_any (n Y M D : Nat) (h : Is n Y M D) (hY : Y ≤ 100000) (w : World) :
    Calls Tryd.prog 27 #[.int .i64 (Y : Int), .int .i64 (M : Int), .int .i64 (D : Int)] w fun e w' => e = .returned (.int .i64 (n : Int)) ∧ Below w.heap.size w w' := by
  have hd := ml_bound Y h.m0 h.m1
  have BY : Hid (∀ y, 2000 ≤ y → y ≤ Y → yS y ≤ n) := Lib.hid fun y a b => Nat.le_trans (yS_le a b) h.year.1
  have BM : Hid (∀ m, 1 ≤ m → m ≤ M → mS Y m ≤ n) := Lib.hid fun m a b => Nat.le_trans (mS_le Y a b (by have := h.m1; omega)) h.month.1
  have bn : n ≤ 100000000 := by
    have a := h.year.2
    have b : yS (Y + 1) ≤ 90000000 := by unfold yS lq; omega
    omega
  obtain ⟨y0, m0, m1, d0, d1, eq⟩ := h
  have HE := Lib.hid eq
  clear eq
  have d31 : D ≤ 31 := by omega
  obtain ⟨k, hk⟩ : ∃ k, D = k + 1 := ⟨D - 1, by omega⟩
  have e0 : (D : Int) - 1 = (k : Int) := by omega
  have k31 : k ≤ 30 := by omega
  have HK := Lib.hid hk
  clear hd d1 hk
  go_enter Tryd.func27, Tryd.ntmps27
  go_wp2_with fail
  go_loopw [7, 8] (fun s7 s8 wr => ∃ y v d : Nat, 2000 ≤ y ∧ y ≤ Y ∧ s8 = .int .i64 (y : Int) ∧ s7 = .int .i64 (v : Int) ∧ Hid (v = k + yS y) ∧ v ≤ 100000031 ∧ wr = w.drewN d) (fun _ s8 _ => Y - (intOf s8).toNat)
  case atStart => exact ⟨2000, k, 0, by omega, y0, rfl, rfl, Lib.hid (by rw [yS_2000]; rfl), by omega, rfl⟩
  case round =>
    obtain ⟨y, v, d, hy0, hy1, rfl, rfl, HV, hv, rfl⟩ := hrel
    by_cases hlt : y < Y
    · have c1 := fun w => ryear_any y (by omega) w
      have b1 := yl_bound y
      have HV2 : Hid (v + yl y = k + yS (y + 1)) := Lib.hid (by rw [yS_succ hy0, HV.out]; omega)
      have hv2 : v + yl y ≤ 100000031 := by have := BY.out (y + 1) (by omega) (by omega); have := HV2.out; omega
      obtain ⟨L, hL⟩ : ∃ L, L = yl y := ⟨_, rfl⟩
      rw [← hL] at c1 b1 HV2 hv2
      clear hL HV
      go_wp2_with (go_at_call 42; (with_reducible refine (c1 _).mono ?_); rintro e w' ⟨rfl, rfl⟩)
      go_roundw
      case rel => exact ⟨y + 1, v + L, d, by omega, by omega, by go_num, by go_num, HV2, hv2, rfl⟩
      case measure => simp [intOf]; omega
    · obtain rfl : y = Y := by omega
      clear hlt hy1
      go_wp2_with fail
      go_loopw [7, 9] (fun s7 s9 wr => ∃ m v : Nat, 1 ≤ m ∧ m ≤ M ∧ s9 = .int .i64 (m : Int) ∧ s7 = .int .i64 (v : Int) ∧ Hid (v = k + mS y m) ∧ v ≤ 100000031 ∧ Below w.heap.size w wr) (fun _ s9 _ => M - (intOf s9).toNat)
      case atStart => exact ⟨1, v, by omega, m0, rfl, rfl, Lib.hid (by rw [mS_one]; exact HV.out), hv, below_draw _ _⟩
      case round =>
        clear HV hv
        obtain ⟨m, v, hm0, hm1, rfl, rfl, HV, hv, hb⟩ := hrel
        by_cases hlt : m < M
        · have c1 := fun w => rlen_any y m (by omega) hm0 (by omega) w
          have b1 := ml_bound y hm0 (by omega)
          have HV2 : Hid (v + ml y m = k + mS y (m + 1)) := Lib.hid (by rw [mS_succ y hm0 (by omega), HV.out]; omega)
          have hv2 : v + ml y m ≤ 100000031 := by have := BM.out (m + 1) (by omega) (by omega); have := HV2.out; omega
          obtain ⟨L, hL⟩ : ∃ L, L = ml y m := ⟨_, rfl⟩
          rw [← hL] at c1 b1 HV2 hv2
          clear hL HV
          go_wp2_with (go_at_call 36; (with_reducible refine (c1 _).mono ?_); rintro e w' ⟨rfl, hb2⟩)
          go_roundw
          case rel => exact ⟨m + 1, v + L, by omega, by omega, by go_num, by go_num, HV2, hv2, below_on hb hb2⟩
          case measure => simp [intOf]; omega
        · obtain rfl : m = M := by omega
          obtain rfl : v = n := by have := HV.out; have := HE.out; have := HK.out; omega
          clear hlt hm1
          go_wp2_with fail
          go_ret
          exact ⟨rfl, hb⟩

set_option maxRecDepth 4000 in
set_option maxHeartbeats 400000 in
theorem civil_any (n Y M D : Nat) (h : Is n Y M D) (hn : n ≤ 1000000) (w : World) :
    Calls Tryd.prog 30 #[.int .i64 (n : Int)] w fun e w' => e = .returned (.tuple #[.int .i64 (Y : Int), .int .i64 (M : Int), .int .i64 (D : Int)]) ∧ Below w.heap.size w w' := by
  have hY : Y ≤ 100000 := by
    have a := h.year
    have g := yS_grow (a := 2000) (Y - 2000) (by omega)
    rw [show 2000 + (Y - 2000) = Y by have := h.y0; omega, yS_2000] at g
    omega
  have HL : Hid (∀ y, 2000 ≤ y → y < Y → yS (y + 1) ≤ n) := Lib.hid fun y a b => Nat.le_trans (yS_le (by omega) (by omega)) h.year.1
  have HLe : Hid (n < yS (Y + 1)) := Lib.hid h.year.2
  have HLb : Hid (yS Y ≤ n) := Lib.hid h.year.1
  have HB : Hid (∀ m, 1 ≤ m → m < M → mS Y (m + 1) ≤ n) := Lib.hid fun m a b => Nat.le_trans (mS_le Y (by omega) (by omega) (by have := h.m1; omega)) h.month.1
  have HBe : Hid (n < mS Y (M + 1)) := Lib.hid h.month.2
  obtain ⟨y0, m0, m1, d0, d1, eq⟩ := h
  have HE := Lib.hid eq
  clear eq d1
  go_enter Tryd.func30, Tryd.ntmps30
  go_wp2_with fail
  go_loopw [0, 5] (fun s0 s5 wr => ∃ y r d : Nat, 2000 ≤ y ∧ y ≤ Y ∧ s5 = .int .i64 (y : Int) ∧ s0 = .int .i64 (r : Int) ∧ Hid (r + yS y = n) ∧ r ≤ 1000000 ∧ wr = w.drewN d) (fun _ s5 _ => Y - (intOf s5).toNat)
  case atStart => exact ⟨2000, n, 0, by omega, y0, rfl, rfl, Lib.hid (by rw [yS_2000]; rfl), by omega, rfl⟩
  case round =>
    obtain ⟨y, r, d, hy0, hy1, rfl, rfl, HV, hr, rfl⟩ := hrel
    have c1 := fun w => ryear_any y (by omega) w
    have b1 := yl_bound y
    have s1 := yS_succ hy0
    by_cases hlt : y < Y
    · have hle : yl y ≤ r := by have := HL.out y hy0 hlt; have := HV.out; omega
      have HV2 : Hid ((r - yl y) + yS (y + 1) = n) := Lib.hid (by have := HV.out; omega)
      obtain ⟨L, hL⟩ : ∃ L, L = yl y := ⟨_, rfl⟩
      rw [← hL] at c1 b1 HV2 hle
      clear hL HV s1
      obtain ⟨u, hu⟩ : ∃ u, u = r - L := ⟨_, rfl⟩
      have eu : (r : Int) - (L : Int) = (u : Int) := by omega
      have hub : u ≤ 1000000 := by omega
      have hlei : (L : Int) ≤ (r : Int) := by omega
      rw [← hu] at HV2
      clear hu
      go_wp2_with (go_at_call 42; (with_reducible refine (c1 _).mono ?_); rintro e w' ⟨rfl, rfl⟩)
      go_roundw
      case rel => exact ⟨y + 1, u, d, by omega, by omega, by go_num, rfl, HV2, hub, rfl⟩
      case measure => simp [intOf]; omega
    · obtain rfl : y = Y := by omega
      have hle : decide (yl y ≤ r) = false := decide_eq_false (by have := HLe.out; have := HV.out; omega)
      obtain ⟨L, hL⟩ : ∃ L, L = yl y := ⟨_, rfl⟩
      rw [← hL] at c1 hle
      clear hL b1 s1 hlt hy1
      go_wp2_with (go_at_call 42; (with_reducible refine (c1 _).mono ?_); rintro e w' ⟨rfl, rfl⟩)
      clear c1 hle
      go_loopw [0, 6] (fun s0 s6 wr => ∃ m r : Nat, 1 ≤ m ∧ m ≤ M ∧ s6 = .int .i64 (m : Int) ∧ s0 = .int .i64 (r : Int) ∧ Hid (r + mS y m = n) ∧ r ≤ 1000000 ∧ Below w.heap.size w wr) (fun _ s6 _ => M - (intOf s6).toNat)
      case atStart => exact ⟨1, r, by omega, m0, rfl, rfl, Lib.hid (by rw [mS_one]; exact HV.out), hr, below_draw _ _⟩
      case round =>
        clear HV hr
        obtain ⟨m, r, hm0, hm1, rfl, rfl, HV, hr, hb⟩ := hrel
        have c1 := fun w => rlen_any y m (by omega) hm0 (by omega) w
        have b1 := ml_bound y hm0 (by omega)
        have s1 := mS_succ y hm0 (by omega)
        by_cases hlt : m < M
        · have hle : ml y m ≤ r := by have := HB.out m hm0 hlt; have := HV.out; omega
          have HV2 : Hid ((r - ml y m) + mS y (m + 1) = n) := Lib.hid (by have := HV.out; omega)
          obtain ⟨L, hL⟩ : ∃ L, L = ml y m := ⟨_, rfl⟩
          rw [← hL] at c1 b1 HV2 hle
          clear hL HV s1
          obtain ⟨u, hu⟩ : ∃ u, u = r - L := ⟨_, rfl⟩
          have eu : (r : Int) - (L : Int) = (u : Int) := by omega
          have hub : u ≤ 1000000 := by omega
          have hlei : (L : Int) ≤ (r : Int) := by omega
          rw [← hu] at HV2
          clear hu
          go_wp2_with (go_at_call 36; (with_reducible refine (c1 _).mono ?_); rintro e w' ⟨rfl, hb2⟩; have hb := below_on hb hb2; clear hb2)
          go_roundw
          case rel => exact ⟨m + 1, u, by omega, by omega, by go_num, rfl, HV2, hub, hb⟩
          case measure => simp [intOf]; omega
        · obtain rfl : m = M := by omega
          have hle : decide (ml y m ≤ r) = false := decide_eq_false (by have := HBe.out; have := HV.out; omega)
          have eD : (r : Int) + 1 = (D : Int) := by have := HV.out; have := HE.out; omega
          obtain ⟨L, hL⟩ : ∃ L, L = ml y m := ⟨_, rfl⟩
          rw [← hL] at c1 hle
          clear hL b1 s1 hlt hm1 HV
          go_wp2_with (go_at_call 36; (with_reducible refine (c1 _).mono ?_); rintro e w' ⟨rfl, hb2⟩; have hb := below_on hb hb2; clear hb2)
          go_ret3
          exact ⟨rfl, hb⟩
end Go.Proofs.YtppklkiodbnipaaDoor.clD

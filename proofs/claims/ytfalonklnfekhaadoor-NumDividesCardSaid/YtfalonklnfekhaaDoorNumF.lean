/-
  Contracts of num.Power, num.GCD and of the reference's.
-/
import Derived.Test.YtfalonklnfekhaaDoorNumE
namespace Go.Proofs.YtfalonklnfekhaaDoor.numF
open Go.RowKit
open Go.Proofs.YtfalonklnfekhaaDoor.numM Go.Proofs.YtfalonklnfekhaaDoor.numA Go.Proofs.YtfalonklnfekhaaDoor.numB Go.Proofs.YtfalonklnfekhaaDoor.numD Go.Proofs.YtfalonklnfekhaaDoor.numE
set_option linter.unusedVariables false

set_option maxHeartbeats 400000 in
theorem pow_in (a : Int) (n : Nat) (V E : Int) (hV : Hid (V = (pw a n).1)) (hE : Hid (E = (pw a n).2)) (a0 : -9223372036854775808 ≤ a) (a1 : a ≤ 9223372036854775807) (hn : (n : Int) ≤ 62) (w : World) :
    Calls Tryd.prog 22 #[.int .i64 a, .int .i64 n] w fun e w' => e = .returned (.tuple #[.int .i64 V, .int .i64 E]) ∧ w = w' := by
  have n0 : decide ((n : Int) < 0) = false := decide_eq_false (by omega)
  have n1 : decide (62 < (n : Int)) = false := decide_eq_false (by omega)
  go_enter Tryd.func22, Tryd.ntmps22
  go_wp2_with fail
  go_loop [6, 16] (fun s6 sc => ∃ (k : Nat) (p : Int), k ≤ n ∧ sc = .int .i64 (k : Int) ∧ s6 = .int .i64 p ∧ Hid (pw a k = (p, 0))) (fun _ sc => n - (intOf sc).toNat)
  case atStart => exact ⟨0, 1, Nat.zero_le _, rfl, rfl, rfl⟩
  case round =>
    obtain ⟨k, p, hk, rfl, rfl, H⟩ := hrel
    by_cases hlt : k < n
    · have pb := pw_bd a k
      rw [H.out] at pb
      have p0 : -9223372036854775808 ≤ p := pb.1
      have p1 : p ≤ 9223372036854775807 := pb.2
      have cm := fun w => mul_any p a p0 p1 a0 a1 w
      have hs : Hid (pw a (k + 1) = (fitV (p * a), fitE (p * a))) := by
        have := pw_step (a := a) (k := k) (by rw [H.out])
        rw [H.out] at this; exact this
      have hne : fitE (p * a) ≠ 0 → fitE (p * a) = 9 ∧ fitV (p * a) = 0 := fitE_ne
      generalize fitV (p * a) = q at *
      generalize fitE (p * a) = f at *
      by_cases hf : f = 0
      · subst hf
        clear hne pb
        go_wp2_with (go_at_call 14; refine (cm _).mono ?_; rintro e w' ⟨rfl, rfl⟩)
        go_round
        case rel => exact ⟨k + 1, q, by omega, by go_num, rfl, hs⟩
        case measure => simp [intOf]; omega
      · obtain ⟨rfl, rfl⟩ := hne hf
        have st := pw_stays (a := a) (k := k + 1) (by rw [hs.out]; decide) n (by omega)
        obtain rfl : V = 0 := by rw [hV.out, st]
        obtain rfl : E = 9 := by rw [hE.out, st]
        clear hne pb hf st
        go_wp2_with (go_at_call 14; refine (cm _).mono ?_; rintro e w' ⟨rfl, rfl⟩)
        go_ret2
        exact ⟨rfl, rfl⟩
    · have : k = n := by omega
      subst this
      obtain rfl : p = V := by rw [hV.out, H.out]
      obtain rfl : E = 0 := by rw [hE.out, H.out]
      go_wp2_with fail
      go_ret2
      exact ⟨rfl, rfl⟩

set_option maxHeartbeats 400000 in
theorem pow_any (a n : Int) (a0 : -9223372036854775808 ≤ a) (a1 : a ≤ 9223372036854775807) (n0 : -9223372036854775808 ≤ n) (n1 : n ≤ 9223372036854775807) (w : World) :
    Calls Tryd.prog 22 #[.int .i64 a, .int .i64 n] w fun e w' => e = .returned (.tuple #[.int .i64 (pwV a n), .int .i64 (pwE a n)]) ∧ w = w' := by
  by_cases h : n < 0
  · obtain ⟨e1, e2⟩ := pw_out (a := a) (.inl h)
    rw [e1, e2]
    clear e1 e2
    go_enter Tryd.func22, Tryd.ntmps22
    go_wp2_with fail
    go_ret2
    exact ⟨rfl, rfl⟩
  · by_cases h2 : 62 < n
    · obtain ⟨e1, e2⟩ := pw_out (a := a) (.inr h2)
      rw [e1, e2]
      clear e1 e2
      go_enter Tryd.func22, Tryd.ntmps22
      go_wp2_with fail
      go_ret2
      exact ⟨rfl, rfl⟩
    · obtain ⟨x, rfl⟩ := Int.eq_ofNat_of_zero_le (show 0 ≤ n by omega)
      obtain ⟨e1, e2⟩ := pw_in (a := a) (show x ≤ 62 by omega)
      exact pow_in a x _ _ e1 e2 a0 a1 (by omega) w

set_option maxHeartbeats 400000 in
theorem rpow_in (a : Int) (n : Nat) (V E : Int) (hV : Hid (V = (pw a n).1)) (hE : Hid (E = (pw a n).2)) (a0 : -9223372036854775808 ≤ a) (a1 : a ≤ 9223372036854775807) (hn : (n : Int) ≤ 62) (w : World) :
    Calls Tryd.prog 23 #[.int .i64 a, .int .i64 n] w fun e w' => e = .returned (.tuple #[.int .i64 V, .int .i64 E]) ∧ w = w' := by
  have n0 : decide ((n : Int) < 0) = false := decide_eq_false (by omega)
  have n1 : decide (62 < (n : Int)) = false := decide_eq_false (by omega)
  go_enter Tryd.func23, Tryd.ntmps23
  go_wp2_with fail
  go_loop [6, 7] (fun s6 sc => ∃ (k : Nat) (p : Int), k ≤ n ∧ sc = .int .i64 (k : Int) ∧ s6 = .int .i64 p ∧ Hid (pw a k = (p, 0))) (fun _ sc => n - (intOf sc).toNat)
  case atStart => exact ⟨0, 1, Nat.zero_le _, rfl, rfl, rfl⟩
  case round =>
    obtain ⟨k, p, hk, rfl, rfl, H⟩ := hrel
    by_cases hlt : k < n
    · have pb := pw_bd a k
      rw [H.out] at pb
      have p0 : -9223372036854775808 ≤ p := pb.1
      have p1 : p ≤ 9223372036854775807 := pb.2
      have cm := fun w => rmul_any p a p0 p1 a0 a1 w
      have hs : Hid (pw a (k + 1) = (fitV (p * a), fitE (p * a))) := by
        have := pw_step (a := a) (k := k) (by rw [H.out])
        rw [H.out] at this; exact this
      have hne : fitE (p * a) ≠ 0 → fitE (p * a) = 9 ∧ fitV (p * a) = 0 := fitE_ne
      generalize fitV (p * a) = q at *
      generalize fitE (p * a) = f at *
      by_cases hf : f = 0
      · subst hf
        clear hne pb
        go_wp2_with (go_at_call 17; refine (cm _).mono ?_; rintro e w' ⟨rfl, rfl⟩)
        go_round
        case rel => exact ⟨k + 1, q, by omega, by go_num, rfl, hs⟩
        case measure => simp [intOf]; omega
      · obtain ⟨rfl, rfl⟩ := hne hf
        have st := pw_stays (a := a) (k := k + 1) (by rw [hs.out]; decide) n (by omega)
        obtain rfl : V = 0 := by rw [hV.out, st]
        obtain rfl : E = 9 := by rw [hE.out, st]
        clear hne pb hf st
        go_wp2_with (go_at_call 17; refine (cm _).mono ?_; rintro e w' ⟨rfl, rfl⟩)
        go_ret2
        exact ⟨rfl, rfl⟩
    · have : k = n := by omega
      subst this
      obtain rfl : p = V := by rw [hV.out, H.out]
      obtain rfl : E = 0 := by rw [hE.out, H.out]
      go_wp2_with fail
      go_ret2
      exact ⟨rfl, rfl⟩

set_option maxHeartbeats 400000 in
theorem rpow_any (a n : Int) (a0 : -9223372036854775808 ≤ a) (a1 : a ≤ 9223372036854775807) (n0 : -9223372036854775808 ≤ n) (n1 : n ≤ 9223372036854775807) (w : World) :
    Calls Tryd.prog 23 #[.int .i64 a, .int .i64 n] w fun e w' => e = .returned (.tuple #[.int .i64 (pwV a n), .int .i64 (pwE a n)]) ∧ w = w' := by
  by_cases h : n < 0
  · obtain ⟨e1, e2⟩ := pw_out (a := a) (.inl h)
    rw [e1, e2]
    clear e1 e2
    go_enter Tryd.func23, Tryd.ntmps23
    go_wp2_with fail
    go_ret2
    exact ⟨rfl, rfl⟩
  · by_cases h2 : 62 < n
    · obtain ⟨e1, e2⟩ := pw_out (a := a) (.inr h2)
      rw [e1, e2]
      clear e1 e2
      go_enter Tryd.func23, Tryd.ntmps23
      go_wp2_with fail
      go_ret2
      exact ⟨rfl, rfl⟩
    · obtain ⟨x, rfl⟩ := Int.eq_ofNat_of_zero_le (show 0 ≤ n by omega)
      obtain ⟨e1, e2⟩ := pw_in (a := a) (show x ≤ 62 by omega)
      exact rpow_in a x _ _ e1 e2 a0 a1 (by omega) w

set_option maxHeartbeats 400000 in
theorem gcd_any (a b G : Int) (hG : Hid (G = gcdV a b)) (a0 : -9223372036854775808 ≤ a) (a1 : a ≤ 9223372036854775807) (b0 : -9223372036854775808 ≤ b) (b1 : b ≤ 9223372036854775807) (w : World) :
    Calls Tryd.prog 24 #[.int .i64 a, .int .i64 b] w fun e w' => e = .returned (.int .i64 G) ∧ ∃ k, w' = w.drewN k := by
  have ca := fun w => mag_any a a0 a1 w
  have cb := fun w => mag_any b b0 b1 w
  have hx : a.natAbs < 18446744073709551616 := by omega
  have hy : b.natAbs < 18446744073709551616 := by omega
  have hg : ∀ x, Nat.gcd a.natAbs b.natAbs = x → (x ≤ 9223372036854775807 → gcdV a b = x) ∧ (¬ x ≤ 9223372036854775807 → gcdV a b = 0) := fun x h => gcdV_eq a b h
  generalize a.natAbs = ma at *
  generalize b.natAbs = mb at *
  have HG := Lib.hid hg
  clear hg
  go_enter Tryd.func24, Tryd.ntmps24
  go_wp2_with (go_at_call 31; first | ((with_reducible refine (ca _).mono ?_); rintro e w' ⟨rfl, rfl⟩) | ((with_reducible refine (cb _).mono ?_); rintro e w' ⟨rfl, rfl⟩))
  go_loopw [5, 6] (fun s5 s6 wr => ∃ x y : Nat, s5 = .int .u64 (x : Int) ∧ s6 = .int .u64 (y : Int) ∧ x < 18446744073709551616 ∧ y < 18446744073709551616 ∧ Hid (Nat.gcd ma mb = Nat.gcd x y) ∧ ∃ k, wr = w.drewN k) (fun _ s6 _ => (intOf s6).toNat)
  case atStart => exact ⟨ma, mb, rfl, rfl, hx, hy, rfl, 0, rfl⟩
  case round =>
    obtain ⟨x, y, rfl, rfl, hx1, hy1, H, k, rfl⟩ := hrel
    by_cases h0 : y = 0
    · subst h0
      have h1 := H.out
      rw [Nat.gcd_zero_right] at h1
      obtain ⟨g1, g2⟩ := HG.out x h1
      clear h1
      by_cases h2 : (9223372036854775807 : Int) < (x : Int)
      · obtain rfl : G = 0 := by rw [hG.out]; exact g2 (by omega)
        clear g1 g2
        go_wp2_with fail
        go_ret
        exact ⟨rfl, _, rfl⟩
      · obtain rfl : G = x := by rw [hG.out]; exact g1 (by omega)
        clear g1 g2
        go_wp2_with fail
        go_ret
        exact ⟨rfl, _, rfl⟩
    · have hn : ((y : Int) != 0) = true := by simpa using h0
      have hy0 : (0 : Int) < (y : Int) := by omega
      have hm := Nat.mod_lt x (show 0 < y by omega)
      have hc : (x : Int) % (y : Int) = ((x % y : Nat) : Int) := rfl
      have HS := Lib.hid (gcd_step x y)
      generalize x % y = z at *
      clear h0
      go_wp2_with fail
      go_quiet (fail)
      go_wp2_with fail
      go_roundw
      case rel => exact ⟨y, z, rfl, u64_eq hc, hy1, by omega, H.out.trans HS.out, _, World.drewN_drewN _ _ _⟩
      case measure => simp [intOf]; omega

set_option maxHeartbeats 400000 in
theorem rgcd_any (a b G : Int) (hG : Hid (G = gcdV a b)) (a0 : -9223372036854775808 ≤ a) (a1 : a ≤ 9223372036854775807) (b0 : -9223372036854775808 ≤ b) (b1 : b ≤ 9223372036854775807) (w : World) :
    Calls Tryd.prog 25 #[.int .i64 a, .int .i64 b] w fun e w' => e = .returned (.int .i64 G) ∧ w = w' := by
  have ca := fun w => size_any a a0 a1 w
  have cb := fun w => size_any b b0 b1 w
  have hx : a.natAbs < 18446744073709551616 := by omega
  have hy : b.natAbs < 18446744073709551616 := by omega
  have hg : ∀ x, Nat.gcd a.natAbs b.natAbs = x → (x ≤ 9223372036854775807 → gcdV a b = x) ∧ (¬ x ≤ 9223372036854775807 → gcdV a b = 0) := fun x h => gcdV_eq a b h
  generalize a.natAbs = ma at *
  generalize b.natAbs = mb at *
  have HG := Lib.hid hg
  clear hg
  go_enter Tryd.func25, Tryd.ntmps25
  go_wp2_with (go_at_call 34; first | ((with_reducible refine (ca _).mono ?_); rintro e w' ⟨rfl, rfl⟩) | ((with_reducible refine (cb _).mono ?_); rintro e w' ⟨rfl, rfl⟩))
  go_loop [5, 6, 7] (fun s5 s6 s7 => ∃ i x y : Nat, i ≤ 200 ∧ s7 = .int .i64 (i : Int) ∧ s5 = .int .u64 (x : Int) ∧ s6 = .int .u64 (y : Int) ∧ x < 18446744073709551616 ∧ y < 18446744073709551616 ∧ Hid (Nat.gcd ma mb = Nat.gcd x y) ∧ Hid (Few i x y)) (fun _ _ s7 => 200 - (intOf s7).toNat)
  case atStart => exact ⟨0, ma, mb, by omega, rfl, rfl, rfl, hx, hy, rfl, .inl ⟨rfl, hx, hy⟩⟩
  case round =>
    obtain ⟨i, x, y, hi, rfl, rfl, rfl, hx1, hy1, H, F⟩ := hrel
    by_cases h0 : y = 0
    · subst h0
      have h1 := H.out
      rw [Nat.gcd_zero_right] at h1
      obtain ⟨g1, g2⟩ := HG.out x h1
      clear h1
      by_cases hi2 : (i : Int) < 200
      all_goals
        by_cases h2 : (9223372036854775807 : Int) < (x : Int)
        · obtain rfl : G = 0 := by rw [hG.out]; exact g2 (by omega)
          go_wp2_with fail
          go_ret
          exact ⟨rfl, rfl⟩
        · obtain rfl : G = x := by rw [hG.out]; exact g1 (by omega)
          have G1 := Lib.hid g1
          clear g1 g2
          go_wp2_with fail
          go_ret
          exact ⟨rfl, rfl⟩
    · have hn : ((y : Int) != 0) = true := by simpa using h0
      have hy0 : (0 : Int) < (y : Int) := by omega
      have hil : (i : Int) < 200 := by have := F.out.end (show 0 < y by omega); omega
      have hm := Nat.mod_lt x (show 0 < y by omega)
      have hc : (x : Int) % (y : Int) = ((x % y : Nat) : Int) := rfl
      have HS := Lib.hid (gcd_step x y)
      have FS := Lib.hid (F.out.step (show 0 < y by omega))
      generalize x % y = z at *
      clear h0
      go_wp2_with fail
      go_round
      case rel => exact ⟨i + 1, y, z, by omega, by go_num, rfl, u64_eq hc, hy1, by omega, H.out.trans HS.out, FS⟩
      case measure => simp [intOf]; omega
end Go.Proofs.YtfalonklnfekhaaDoor.numF

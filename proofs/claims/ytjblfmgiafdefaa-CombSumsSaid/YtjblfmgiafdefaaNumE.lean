/-
  Contracts of num.MulDiv and of the reference's bit and MulDiv.
-/
import Derived.Test.YtjblfmgiafdefaaNumD
namespace Go.Proofs.Ytjblfmgiafdefaa.numE
open Go.RowKit
open Go.Proofs.Ytjblfmgiafdefaa.numM Go.Proofs.Ytjblfmgiafdefaa.numA Go.Proofs.Ytjblfmgiafdefaa.numB Go.Proofs.Ytjblfmgiafdefaa.numD
set_option linter.unusedVariables false

theorem half_cast (x : Nat) : (x : Int) / 2 = ((x / 2 : Nat) : Int) := by omega
theorem low_cast (x : Nat) : (x : Int) % 2 = ((x % 2 : Nat) : Int) := by omega
theorem ret_u {a b : Nat} (h : a = b) : Ending.returned (.int .u64 (a : Int)) = .returned (.int .u64 (b : Int)) := by rw [h]
theorem three_eq {a b c a' b' c' : Int} (h1 : a = a') (h2 : b = b') (h3 : c = c') : Ending.returned (.tuple #[.int .i64 a, .int .i64 b, .int .i64 c]) = .returned (.tuple #[.int .i64 a', .int .i64 b', .int .i64 c']) := by rw [h1, h2, h3]

set_option maxHeartbeats 400000 in
theorem bit_lo_any (hi lo i R : Nat) (HR : Hid (R = lo / 2 ^ i % 2)) (hv : lo < 18446744073709551616) (h : i < 64) (w : World) :
    Calls Try.prog 55 #[.int .u64 hi, .int .u64 lo, .int .i64 i] w fun e w' => e = .returned (.int .u64 (R : Int)) ∧ w = w' := by
  go_enter Try.func55, Try.ntmps55
  go_wp2
  go_loop [7, 8] (fun s7 s8 => ∃ k X : Nat, k ≤ i ∧ s8 = .int .i64 (k : Int) ∧ s7 = .int .u64 (X : Int) ∧ Hid (X = lo / 2 ^ k)) (fun _ s8 => i - (intOf s8).toNat)
  case atStart => exact ⟨0, lo, Nat.zero_le _, rfl, rfl, by show lo = _; rw [Nat.pow_zero, Nat.div_one]⟩
  case round =>
    obtain ⟨k, X, hk, rfl, rfl, HX⟩ := hrel
    have hx : X ≤ lo := by rw [HX.out]; exact Nat.div_le_self _ _
    by_cases hlt : k < i
    · go_wp2
      go_round
      case rel => exact ⟨k + 1, X / 2, by omega, by go_num, u64_eq (by omega), by show X / 2 = _; rw [HX.out, half_pow]⟩
      case measure => simp [intOf]; omega
    · have : k = i := by omega
      subst this
      go_wp2
      go_ret
      exact ⟨ret_int (by rw [HR.out, ← HX.out]; omega), rfl⟩
set_option maxHeartbeats 400000 in
theorem bit_hi_any (hi lo i R : Nat) (HR : Hid (R = hi / 2 ^ i % 2)) (hv : hi < 18446744073709551616) (h : i < 64) (w : World) :
    Calls Try.prog 55 #[.int .u64 hi, .int .u64 lo, .int .i64 ((i : Int) + 64)] w fun e w' => e = .returned (.int .u64 (R : Int)) ∧ w = w' := by
  have e64 : ((i : Int) + 64 - 64) = (i : Int) := by omega
  go_enter Try.func55, Try.ntmps55
  go_wp2
  go_loop [7, 8] (fun s7 s8 => ∃ k X : Nat, k ≤ i ∧ s8 = .int .i64 (k : Int) ∧ s7 = .int .u64 (X : Int) ∧ Hid (X = hi / 2 ^ k)) (fun _ s8 => i - (intOf s8).toNat)
  case atStart => exact ⟨0, hi, Nat.zero_le _, rfl, rfl, by show hi = _; rw [Nat.pow_zero, Nat.div_one]⟩
  case round =>
    obtain ⟨k, X, hk, rfl, rfl, HX⟩ := hrel
    have hx : X ≤ hi := by rw [HX.out]; exact Nat.div_le_self _ _
    by_cases hlt : k < i
    · go_wp2
      go_round
      case rel => exact ⟨k + 1, X / 2, by omega, by go_num, u64_eq (by omega), by show X / 2 = _; rw [HX.out, half_pow]⟩
      case measure => simp [intOf]; omega
    · have : k = i := by omega
      subst this
      go_wp2
      go_ret
      exact ⟨ret_int (by rw [HR.out, ← HX.out]; omega), rfl⟩

theorem bit_any (hi lo i : Nat) (hhi : hi < 18446744073709551616) (hlo : lo < 18446744073709551616) (h : i < 128) (w : World) :
    Calls Try.prog 55 #[.int .u64 hi, .int .u64 lo, .int .i64 i] w fun e w' => e = .returned (.int .u64 (((hi * 18446744073709551616 + lo) / 2 ^ i % 2 : Nat) : Int)) ∧ w = w' := by
  by_cases h1 : i < 64
  · rw [bit_lo hi lo i h1]; exact bit_lo_any hi lo i _ rfl hlo h1 w
  · rw [bit_hi hi lo i hlo (by omega)]
    have := bit_hi_any hi lo (i - 64) _ rfl hhi (by omega) w
    rw [show (((i - 64 : Nat) : Int) + 64) = (i : Int) by omega] at this
    exact this

set_option maxHeartbeats 400000 in
/-- the arguments that are refused at once -/
theorem md_early (a b c : Int) (h : c = 0 ∨ a < 0 ∨ b < 0 ∨ c < 0) (w : World) :
    Calls Try.prog 34 #[.int .i64 a, .int .i64 b, .int .i64 c] w fun e w' => e = .returned (.tuple #[.int .i64 (mdQ a b c), .int .i64 (mdR a b c), .int .i64 (mdE a b c)]) ∧ w = w' := by
  by_cases hc : c = 0
  · subst hc
    obtain ⟨e1, e2, e3⟩ := md_zero a b
    rw [e1, e2, e3]
    clear e1 e2 e3
    go_enter Try.func34, Try.ntmps34
    go_wp2
    go_ret3
    exact ⟨rfl, rfl⟩
  · obtain ⟨e1, e2, e3⟩ := md_neg a b c hc (by omega)
    rw [e1, e2, e3]
    clear e1 e2 e3
    have hc' : (c == 0) = false := by simpa using hc
    by_cases ha : a < 0
    · clear h hc
      go_enter Try.func34, Try.ntmps34
      go_wp2
      go_ret3
      exact ⟨rfl, rfl⟩
    · by_cases hb : b < 0
      · clear h hc
        go_enter Try.func34, Try.ntmps34
        go_wp2
        go_ret3
        exact ⟨rfl, rfl⟩
      · have hn : c < 0 := by omega
        clear h hc
        go_enter Try.func34, Try.ntmps34
        go_wp2
        go_ret3
        exact ⟨rfl, rfl⟩

set_option maxHeartbeats 400000 in
/-- the arguments that are refused at once -/
theorem rmd_early (a b c : Int) (h : c = 0 ∨ a < 0 ∨ b < 0 ∨ c < 0) (w : World) :
    Calls Try.prog 35 #[.int .i64 a, .int .i64 b, .int .i64 c] w fun e w' => e = .returned (.tuple #[.int .i64 (mdQ a b c), .int .i64 (mdR a b c), .int .i64 (mdE a b c)]) ∧ w = w' := by
  by_cases hc : c = 0
  · subst hc
    obtain ⟨e1, e2, e3⟩ := md_zero a b
    rw [e1, e2, e3]
    clear e1 e2 e3
    go_enter Try.func35, Try.ntmps35
    go_wp2
    go_ret3
    exact ⟨rfl, rfl⟩
  · obtain ⟨e1, e2, e3⟩ := md_neg a b c hc (by omega)
    rw [e1, e2, e3]
    clear e1 e2 e3
    have hc' : (c == 0) = false := by simpa using hc
    by_cases ha : a < 0
    · clear h hc
      go_enter Try.func35, Try.ntmps35
      go_wp2
      go_ret3
      exact ⟨rfl, rfl⟩
    · by_cases hb : b < 0
      · clear h hc
        go_enter Try.func35, Try.ntmps35
        go_wp2
        go_ret3
        exact ⟨rfl, rfl⟩
      · have hn : c < 0 := by omega
        clear h hc
        go_enter Try.func35, Try.ntmps35
        go_wp2
        go_ret3
        exact ⟨rfl, rfl⟩

set_option maxRecDepth 100000 in
set_option maxHeartbeats 1000000 in
/-- the reference, at numbers from 0 on -/
theorem rmd_nat (x y z hi lo Q R : Nat) (V W E : Int) (hx : x < 9223372036854775808) (hy : y < 9223372036854775808) (hz0 : 0 < z) (hz : z < 9223372036854775808)
    (hhi : hi < 18446744073709551616) (hlo : lo < 18446744073709551616)
    (cw : ∀ w, Calls Try.prog 54 #[.int .u64 x, .int .u64 y] w fun e w' => e = .returned (.tuple #[.int .u64 (hi : Int), .int .u64 (lo : Int)]) ∧ w = w')
    (hQ : Hid (Q = (hi * 18446744073709551616 + lo) / z)) (hR : Hid (R = (hi * 18446744073709551616 + lo) % z))
    (hbig : Hid (z ≤ hi → V = 0 ∧ W = 0 ∧ E = 9)) (hov : Hid (¬ Q ≤ 9223372036854775807 → V = 0 ∧ W = 0 ∧ E = 9)) (hok : Hid (Q ≤ 9223372036854775807 → V = Q ∧ W = R ∧ E = 0)) (w : World) :
    Calls Try.prog 35 #[.int .i64 x, .int .i64 y, .int .i64 z] w fun e w' => e = .returned (.tuple #[.int .i64 V, .int .i64 W, .int .i64 E]) ∧ w = w' := by
  have z0 : ((z : Int) == 0) = false := by simp; omega
  by_cases hge : (z : Int) ≤ (hi : Int)
  · obtain ⟨rfl, rfl, rfl⟩ := hbig.out (by omega)
    go_enter Try.func35, Try.ntmps35
    go_wp2_with (go_at_call 54; refine (cw _).mono ?_; rintro e w' ⟨rfl, rfl⟩)
    go_ret3
    exact ⟨rfl, rfl⟩
  · have hN : Hid (hi * 18446744073709551616 + lo < z * 18446744073709551616) := Lib.hid (by omega)
    have hge' : decide (z ≤ hi) = false := decide_eq_false (by omega)
    have x' : decide ((x : Int) < 0) = false := decide_eq_false (by omega)
    have y' : decide ((y : Int) < 0) = false := decide_eq_false (by omega)
    have z' : decide ((z : Int) < 0) = false := decide_eq_false (by omega)
    go_enter Try.func35, Try.ntmps35
    go_wp2_with (go_at_call 54; refine (cw _).mono ?_; rintro e w' ⟨rfl, rfl⟩)
    go_loop [11, 12, 13] (fun s11 s12 s13 => ∃ k q r : Nat, k ≤ 128 ∧ s13 = .int .i64 ((k : Int) - 1) ∧ s11 = .int .u64 (q : Int) ∧ s12 = .int .u64 (r : Int) ∧ Hid (Lg (hi * 18446744073709551616 + lo) z k q r)) (fun _ _ s13 => (intOf s13 + 1).toNat)
    case atStart => exact ⟨128, 0, 0, Nat.le_refl _, rfl, rfl, rfl, Lg.start _ _ (by omega) hz0⟩
    case round =>
      obtain ⟨k, q, r, hk, rfl, rfl, rfl, H⟩ := hrel
      by_cases h0 : k = 0
      · subst h0
        obtain ⟨d1, d2⟩ := H.out.done
        obtain rfl : Q = q := hQ.out.trans d1.symm
        obtain rfl : R = r := hR.out.trans d2.symm
        clear d1 d2
        rw [show (((0 : Nat) : Int) - 1) = -1 by rfl]
        have hr : (R : Int) < 9223372036854775808 := by have := hR.out; have := Nat.mod_lt (hi * 18446744073709551616 + lo) hz0; omega
        have hq : Q < 18446744073709551616 := by have := hN.out; rw [hQ.out, Nat.div_lt_iff_lt_mul hz0]; omega
        by_cases h3 : (9223372036854775807 : Int) < (Q : Int)
        · obtain ⟨v1, v2, v3⟩ := hov.out (by omega)
          have V1 := Lib.hid v1
          have V2 := Lib.hid v2
          have V3 := Lib.hid v3
          clear v1 v2 v3 hbig hov hok
          go_wp2
          go_ret3
          exact ⟨three_eq V1.out.symm V2.out.symm V3.out.symm, rfl⟩
        · obtain ⟨v1, v2, v3⟩ := hok.out (by omega)
          have V1 := Lib.hid v1
          have V2 := Lib.hid v2
          have V3 := Lib.hid v3
          clear v1 v2 v3 hbig hov hok
          go_wp2
          go_ret3
          exact ⟨three_eq V1.out.symm V2.out.symm V3.out.symm, rfl⟩
      · obtain ⟨j, rfl⟩ : ∃ j, k = j + 1 := ⟨k - 1, by omega⟩
        rw [show (((j + 1 : Nat) : Int) - 1) = (j : Int) by omega]
        obtain ⟨b1, b2⟩ := H.out.bound hN.out hz0
        have q1 : (q : Int) ≤ 9223372036854775807 := by omega
        have r1 : (r : Int) < (z : Int) := by omega
        obtain ⟨st1, st2⟩ := H.out.step hz0
        have cb := fun w => bit_any hi lo j hhi hlo (by omega) w
        have hB := Nat.mod_lt ((hi * 18446744073709551616 + lo) / 2 ^ j) (show 2 > 0 by omega)
        generalize (hi * 18446744073709551616 + lo) / 2 ^ j % 2 = B at *
        have hB1 : (B : Int) < 2 := by omega
        have S1 := Lib.hid st1
        have S2 := Lib.hid st2
        clear st1 st2 b1 b2 hB h0
        by_cases h2 : (z : Int) ≤ 2 * (r : Int) + (B : Int)
        · go_wp2_with (go_at_call 55; refine (cb _).mono ?_; rintro e w' ⟨rfl, rfl⟩)
          go_round
          case rel => exact ⟨j, 2 * q + 1, 2 * r + B - z, by omega, rfl, u64_eq (by omega), u64_eq (by omega), S2.out (by omega)⟩
          case measure => simp [intOf]
        · go_wp2_with (go_at_call 55; refine (cb _).mono ?_; rintro e w' ⟨rfl, rfl⟩)
          go_round
          case rel => exact ⟨j, 2 * q, 2 * r + B, by omega, rfl, u64_eq (by omega), u64_eq (by omega), S1.out (by omega)⟩
          case measure => simp [intOf]

set_option maxRecDepth 100000 in
set_option maxHeartbeats 1000000 in
/-- num.MulDiv, at numbers from 0 on -/
theorem md_nat (x y z hi lo Q R : Nat) (V W E : Int) (hx : x < 9223372036854775808) (hy : y < 9223372036854775808) (hz0 : 0 < z) (hz : z < 9223372036854775808)
    (hhi : hi < 18446744073709551616) (hlo : lo < 18446744073709551616) (hQ : Q < 18446744073709551616) (hR : R < 9223372036854775808)
    (cw : ∀ w, Calls Try.prog 52 #[.int .u64 x, .int .u64 y] w fun e w' => e = .returned (.tuple #[.int .u64 (hi : Int), .int .u64 (lo : Int)]) ∧ w' = w)
    (cd0 : hi < z → ∀ w, Calls Try.prog 53 #[.int .u64 hi, .int .u64 lo, .int .u64 z] w fun e w' => e = .returned (.tuple #[.int .u64 (Q : Int), .int .u64 (R : Int)]) ∧ ∃ k, w' = w.drewN k)
    (hbig : Hid (z ≤ hi → V = 0 ∧ W = 0 ∧ E = 9)) (hov : Hid (¬ Q ≤ 9223372036854775807 → V = 0 ∧ W = 0 ∧ E = 9)) (hok : Hid (Q ≤ 9223372036854775807 → V = Q ∧ W = R ∧ E = 0)) (w : World) :
    Calls Try.prog 34 #[.int .i64 x, .int .i64 y, .int .i64 z] w fun e w' => e = .returned (.tuple #[.int .i64 V, .int .i64 W, .int .i64 E]) ∧ ∃ k, w' = w.drewN k := by
  have z0 : ((z : Int) == 0) = false := by simp; omega
  by_cases hge : (z : Int) ≤ (hi : Int)
  · obtain ⟨rfl, rfl, rfl⟩ := hbig.out (by omega)
    clear cd0
    go_enter Try.func34, Try.ntmps34
    go_wp2_with ((go_at_call 52; refine (cw _).mono ?_; rintro e w' ⟨rfl, rfl⟩))
    go_ret3
    exact ⟨rfl, 0, rfl⟩
  · have cd := cd0 (by omega)
    clear cd0
    by_cases h3 : (9223372036854775807 : Int) < (Q : Int)
    · obtain ⟨v1, v2, v3⟩ := hov.out (by omega)
      have V1 := Lib.hid v1
      have V2 := Lib.hid v2
      have V3 := Lib.hid v3
      clear v1 v2 v3 hbig hov hok
      go_enter Try.func34, Try.ntmps34
      go_wp2_with (first | (go_at_call 52; refine (cw _).mono ?_; rintro e w' ⟨rfl, rfl⟩) | (go_at_call 53; refine (cd _).mono ?_; rintro e w' ⟨rfl, n, rfl⟩))
      go_ret3
      exact ⟨three_eq V1.out.symm V2.out.symm V3.out.symm, _, rfl⟩
    · obtain ⟨v1, v2, v3⟩ := hok.out (by omega)
      have V1 := Lib.hid v1
      have V2 := Lib.hid v2
      have V3 := Lib.hid v3
      clear v1 v2 v3 hbig hov hok
      go_enter Try.func34, Try.ntmps34
      go_wp2_with (first | (go_at_call 52; refine (cw _).mono ?_; rintro e w' ⟨rfl, rfl⟩) | (go_at_call 53; refine (cd _).mono ?_; rintro e w' ⟨rfl, n, rfl⟩))
      go_ret3
      exact ⟨three_eq V1.out.symm V2.out.symm V3.out.symm, _, rfl⟩

theorem low_lt (p : Nat) : p % 18446744073709551616 < 18446744073709551616 := by omega
theorem md_any (a b c : Int) (a0 : -9223372036854775808 ≤ a) (a1 : a ≤ 9223372036854775807) (b0 : -9223372036854775808 ≤ b) (b1 : b ≤ 9223372036854775807) (c0 : -9223372036854775808 ≤ c) (c1 : c ≤ 9223372036854775807) (w : World) :
    (Calls Try.prog 34 #[.int .i64 a, .int .i64 b, .int .i64 c] w fun e w' => e = .returned (.tuple #[.int .i64 (mdQ a b c), .int .i64 (mdR a b c), .int .i64 (mdE a b c)]) ∧ ∃ k, w' = w.drewN k) ∧
    (Calls Try.prog 35 #[.int .i64 a, .int .i64 b, .int .i64 c] w fun e w' => e = .returned (.tuple #[.int .i64 (mdQ a b c), .int .i64 (mdR a b c), .int .i64 (mdE a b c)]) ∧ w = w') := by
  by_cases h : c = 0 ∨ a < 0 ∨ b < 0 ∨ c < 0
  · refine ⟨(md_early a b c h w).mono ?_, rmd_early a b c h w⟩
    rintro e w' ⟨rfl, rfl⟩
    exact ⟨rfl, 0, rfl⟩
  · obtain ⟨x, rfl⟩ := Int.eq_ofNat_of_zero_le (show 0 ≤ a by omega)
    obtain ⟨y, rfl⟩ := Int.eq_ofNat_of_zero_le (show 0 ≤ b by omega)
    obtain ⟨z, rfl⟩ := Int.eq_ofNat_of_zero_le (show 0 ≤ c by omega)
    have hx : x < 9223372036854775808 := by omega
    have hy : y < 9223372036854775808 := by omega
    have hz0 : 0 < z := by omega
    have hz : z < 9223372036854775808 := by omega
    clear a0 a1 b0 b1 c0 c1 h
    have lo1 := low_lt (x * y)
    have hi1 : x * y / 18446744073709551616 < 18446744073709551616 := by
      have : x * y < 9223372036854775808 * 9223372036854775808 := Nat.mul_lt_mul'' hx hy
      omega
    have ew := words (x * y)
    have rlt : x * y % z < 9223372036854775808 := Nat.lt_trans (Nat.mod_lt _ hz0) hz
    have big : z ≤ x * y / 18446744073709551616 → ¬ x * y / z ≤ 9223372036854775807 := big_quot _ _ hz0
    have qlt : ¬ z ≤ x * y / 18446744073709551616 → x * y / z < 18446744073709551616 := fun h => by
      have := word_lt _ _ h; rw [Nat.div_lt_iff_lt_mul hz0]; omega
    have ok := md_ok x y z hz0
    have ov := md_over x y z hz0
    have k1 := fun w => Try.bits_Mul64 x y (by omega) (by omega) w
    have k2 := fun w => rwide_any x y (by omega) (by omega) w
    have k3 := fun (h : x * y / 18446744073709551616 < z) w => div_any (x * y / 18446744073709551616) (x * y % 18446744073709551616) z h lo1 (by omega) w
    rw [ew] at k3
    have swap : ∀ {e q r : Int}, e = 9 ∧ q = 0 ∧ r = 0 → q = 0 ∧ r = 0 ∧ e = 9 := fun h => ⟨h.2.1, h.2.2, h.1⟩
    refine ⟨?_, ?_⟩
    · by_cases hb : z ≤ x * y / 18446744073709551616
      · exact md_nat x y z _ _ 9223372036854775808 (x * y % z) _ _ _ hx hy hz0 hz hi1 lo1 (by omega) rlt k1 (fun h => absurd hb (Nat.not_le_of_lt h)) (fun _ => swap (ov (big hb))) (fun _ => swap (ov (big hb))) (fun h => absurd h (by omega)) w
      · exact md_nat x y z _ _ (x * y / z) (x * y % z) _ _ _ hx hy hz0 hz hi1 lo1 (qlt hb) rlt k1 k3 (fun h => absurd h hb) (fun h => swap (ov h)) (fun h => ⟨(ok h).2.1, (ok h).2.2, (ok h).1⟩) w
    · exact rmd_nat x y z _ _ (x * y / z) (x * y % z) _ _ _ hx hy hz0 hz hi1 lo1 k2 (by show _ = _; rw [ew]) (by show _ = _; rw [ew]) (fun h => swap (ov (big h))) (fun h => swap (ov h)) (fun h => ⟨(ok h).2.1, (ok h).2.2, (ok h).1⟩) w
end Go.Proofs.Ytjblfmgiafdefaa.numE

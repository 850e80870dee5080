/-
  Contracts of isSize, Count, greater of comb and of in, Count of the reference.
-/
import Derived.Test.YtjblfmgiafdefaaNumE
import Derived.Test.YtjblfmgiafdefaaCbMath
namespace Go.Proofs.Ytjblfmgiafdefaa.cbA
open Go.RowKit
open Go.Proofs.Ytjblfmgiafdefaa.numM Go.Proofs.Ytjblfmgiafdefaa.numA Go.Proofs.Ytjblfmgiafdefaa.numB Go.Proofs.Ytjblfmgiafdefaa.numE Go.Proofs.Ytjblfmgiafdefaa.monM Go.Proofs.Ytjblfmgiafdefaa.cbM
set_option linter.unusedVariables false

theorem in_any (x m : Int) (R : Bool) (hR : Hid (R = decide (0 ≤ x ∧ x ≤ m))) (w : World) :
    Calls Try.prog 30 #[.int .i64 x, .int .i64 m] w fun e w' => e = .returned (.bool R) ∧ w = w' := by
  by_cases h0 : 0 ≤ x
  · by_cases h1 : x ≤ m
    · obtain rfl : R = true := by rw [hR.out]; exact decide_eq_true ⟨h0, h1⟩
      go_enter Try.func30, Try.ntmps30
      go_wp2_with fail
      go_ret
      exact ⟨rfl, rfl⟩
    · obtain rfl : R = false := by rw [hR.out]; exact decide_eq_false (by omega)
      go_enter Try.func30, Try.ntmps30
      go_wp2_with fail
      go_ret
      exact ⟨rfl, rfl⟩
  · obtain rfl : R = false := by rw [hR.out]; exact decide_eq_false (by omega)
    go_enter Try.func30, Try.ntmps30
    go_wp2_with fail
    go_ret
    exact ⟨rfl, rfl⟩
theorem size_any (x : Int) (R : Bool) (hR : Hid (R = decide (0 ≤ x ∧ x ≤ 80))) (w : World) :
    Calls Try.prog 26 #[.int .i64 x] w fun e w' => e = .returned (.bool R) ∧ w = w' := by
  by_cases h0 : 0 ≤ x
  · by_cases h1 : x ≤ 80
    · obtain rfl : R = true := by rw [hR.out]; exact decide_eq_true ⟨h0, h1⟩
      go_enter Try.func26, Try.ntmps26
      go_wp2_with fail
      go_ret
      exact ⟨rfl, rfl⟩
    · obtain rfl : R = false := by rw [hR.out]; exact decide_eq_false (by omega)
      go_enter Try.func26, Try.ntmps26
      go_wp2_with fail
      go_ret
      exact ⟨rfl, rfl⟩
  · obtain rfl : R = false := by rw [hR.out]; exact decide_eq_false (by omega)
    go_enter Try.func26, Try.ntmps26
    go_wp2_with fail
    go_ret
    exact ⟨rfl, rfl⟩

/-! ### what Count answers -/
def cC (n k : Int) : Nat := if 0 ≤ k then ch n.toNat k.toNat else 0
def cE (n k : Int) : Int := if n < 0 ∨ 80 < n then 2 else if cC n k ≤ 9223372036854775807 then 0 else 9
def cV (n k : Int) : Int := if cE n k = 0 then (cC n k : Int) else 0
theorem c_out {n k : Int} (h : n < 0 ∨ 80 < n) : cV n k = 0 ∧ cE n k = 2 := by
  have e : cE n k = 2 := if_pos h
  exact ⟨by unfold cV; rw [e]; rfl, e⟩
theorem cC_nat (n k : Nat) : cC n k = ch n k := by unfold cC; rw [if_pos (by omega)]; simp
theorem cC_neg {n k : Int} (h : k < 0) : cC n k = 0 := if_neg (by omega)
theorem cC_big {n k : Int} (h0 : 0 ≤ n) (h : n < k) : cC n k = 0 := by unfold cC; rw [if_pos (by omega), ch_gt (by omega)]
theorem c_zero {n k : Int} (h0 : 0 ≤ n) (h1 : n ≤ 80) (h : k < 0 ∨ n < k) : cV n k = 0 ∧ cE n k = 0 := by
  have hz : cC n k = 0 := by
    rcases h with h | h
    · exact cC_neg h
    · exact cC_big h0 h
  have e : cE n k = 0 := by unfold cE; rw [if_neg (by omega), hz, if_pos (by omega)]
  exact ⟨by unfold cV; rw [e, hz]; rfl, e⟩
theorem c_ok {n k : Int} (h0 : 0 ≤ n) (h1 : n ≤ 80) (h : cC n k ≤ 9223372036854775807) : cV n k = (cC n k : Int) ∧ cE n k = 0 := by
  have e : cE n k = 0 := by unfold cE; rw [if_neg (by omega), if_pos h]
  exact ⟨by unfold cV; rw [e, if_pos rfl], e⟩
theorem c_over {n k : Int} (h0 : 0 ≤ n) (h1 : n ≤ 80) (h : 9223372036854775807 < cC n k) : cV n k = 0 ∧ cE n k = 9 := by
  have e : cE n k = 9 := by unfold cE; rw [if_neg (by omega), if_neg (by omega)]
  exact ⟨by unfold cV; rw [e]; rfl, e⟩
/-- an exact product and quotient -/
theorem md_exact {a b c q : Nat} (hc : 0 < c) (h : q * c = a * b) : mdE (a : Int) (b : Int) (c : Int) = (if q ≤ 9223372036854775807 then 0 else 9) ∧ (q ≤ 9223372036854775807 → mdQ (a : Int) (b : Int) (c : Int) = (q : Int)) := by
  have hq : (a : Int) * (b : Int) / (c : Int) = (q : Int) := by
    rw [← Int.natCast_mul, ← h, Int.natCast_mul]
    exact Int.mul_ediv_cancel _ (by omega)
  have e : mdE (a : Int) (b : Int) (c : Int) = (if q ≤ 9223372036854775807 then 0 else 9) := by
    unfold mdE
    rw [if_neg (by omega), if_neg (by omega), hq]
    by_cases g : q ≤ 9223372036854775807
    · rw [if_pos g, if_pos (by omega)]
    · rw [if_neg g, if_neg (by omega)]
  refine ⟨e, fun g => ?_⟩
  unfold mdQ
  rw [e, if_pos g, if_pos rfl, hq]

theorem count_out (n k : Int) (h : n < 0 ∨ 80 < n) (w : World) :
    Calls Try.prog 12 #[.int .i64 n, .int .i64 k] w fun e w' => e = .returned (.tuple #[.int .i64 0, .int .i64 2]) ∧ ∃ d, w' = w.drewN d := by
  have cs := fun w => size_any n false (Lib.hid (decide_eq_false (by omega)).symm) w
  go_enter Try.func12, Try.ntmps12
  go_wp2_with (go_at_call 26; refine (cs _).mono ?_; rintro e w' ⟨rfl, rfl⟩)
  go_ret2
  exact ⟨rfl, 0, rfl⟩
theorem count_zero (n k : Int) (h0 : 0 ≤ n) (h1 : n ≤ 80) (h : k < 0 ∨ n < k) (w : World) :
    Calls Try.prog 12 #[.int .i64 n, .int .i64 k] w fun e w' => e = .returned (.tuple #[.int .i64 0, .int .i64 0]) ∧ ∃ d, w' = w.drewN d := by
  have cs := fun w => size_any n true (Lib.hid (decide_eq_true ⟨h0, h1⟩).symm) w
  by_cases hk : k < 0
  · go_enter Try.func12, Try.ntmps12
    go_wp2_with (go_at_call 26; refine (cs _).mono ?_; rintro e w' ⟨rfl, rfl⟩)
    go_ret2
    exact ⟨rfl, 0, rfl⟩
  · have hn : n < k := by omega
    go_enter Try.func12, Try.ntmps12
    go_wp2_with (go_at_call 26; refine (cs _).mono ?_; rintro e w' ⟨rfl, rfl⟩)
    go_ret2
    exact ⟨rfl, 0, rfl⟩
set_option maxHeartbeats 1000000 in
theorem count_in (n k : Nat) (V E : Int) (hV : Hid (V = cV n k)) (hE : Hid (E = cE n k)) (h1 : n ≤ 80) (hk : k ≤ n) (w : World) :
    Calls Try.prog 12 #[.int .i64 (n : Int), .int .i64 (k : Int)] w fun e w' => e = .returned (.tuple #[.int .i64 V, .int .i64 E]) ∧ ∃ d, w' = w.drewN d := by
  have cs := fun w => size_any (n : Int) true (Lib.hid (decide_eq_true ⟨by omega, by omega⟩).symm) w
  have k0 : decide ((k : Int) < 0) = false := decide_eq_false (by omega)
  have k1 : decide (n < k) = false := decide_eq_false (by omega)
  have ew : IntKind.i64.wrap ((n : Int) - (k : Int)) = ((n - k : Nat) : Int) := by rw [IntWalk.i64_in _ (by omega)]; omega
  obtain ⟨m, hm⟩ : ∃ m, m = min k (n - k) := ⟨_, rfl⟩
  have em : min (k : Int) ((n - k : Nat) : Int) = (m : Int) := by omega
  have hm2 : 2 * m ≤ n := by omega
  have hck : ch n m = ch n k := by
    by_cases c : k ≤ n - k
    · rw [show m = k by omega]
    · rw [show m = n - k by omega, ch_symm hk]
  have HO : Hid (9223372036854775807 < ch n m → V = 0 ∧ E = 9) := Lib.hid fun h => by
    have := c_over (n := (n : Int)) (k := (k : Int)) (by omega) (by omega) (by rw [cC_nat, ← hck]; exact h)
    exact ⟨hV.out.trans this.1, hE.out.trans this.2⟩
  have HY : Hid (ch n m ≤ 9223372036854775807 → V = (ch n m : Int) ∧ E = 0) := Lib.hid fun h => by
    have := c_ok (n := (n : Int)) (k := (k : Int)) (by omega) (by omega) (by rw [cC_nat, ← hck]; exact h)
    rw [cC_nat, ← hck] at this
    exact ⟨hV.out.trans this.1, hE.out.trans this.2⟩
  clear hV hE hck hm
  go_enter Try.func12, Try.ntmps12
  go_wp2_with (go_at_call 26; refine (cs _).mono ?_; rintro e w' ⟨rfl, rfl⟩)
  go_loopw [6, 26] (fun s6 s26 wr => ∃ i c d : Nat, i ≤ m ∧ s26 = .int .i64 (i : Int) ∧ s6 = .int .i64 (c : Int) ∧ c ≤ 9223372036854775807 ∧ Hid (c = ch n i) ∧ wr = w.drewN d) (fun _ s26 _ => m - (intOf s26).toNat)
  case atStart => exact ⟨0, 1, 0, by omega, rfl, rfl, by omega, Lib.hid (ch_zero n).symm, rfl⟩
  case round =>
    obtain ⟨i, c, d, hi, rfl, rfl, hc, H, rfl⟩ := hrel
    by_cases hlt : i < m
    · have hst := ch_step n i
      rw [← H.out] at hst
      obtain ⟨q, hq⟩ : ∃ q, Hid (q = ch n (i + 1)) := ⟨_, Lib.hid rfl⟩
      rw [← hq.out] at hst
      obtain ⟨m1, m2⟩ := md_exact (by omega) hst
      rw [Int.natCast_succ] at m1 m2
      have cm := fun w => (md_any (c : Int) ((n - i : Nat) : Int) ((i : Int) + 1) (by omega) (by omega) (by omega) (by omega) (by omega) (by omega) w).1
      have e1 : IntKind.i64.wrap ((n : Int) - (i : Int)) = ((n - i : Nat) : Int) := by rw [IntWalk.i64_in _ (by omega)]; omega
      by_cases g : q ≤ 9223372036854775807
      · rw [m1, if_pos g, m2 g] at cm
        clear hst m1 m2
        go_wp2_with (go_at_call 34; (with_reducible refine (cm _).mono ?_); rintro e w' ⟨rfl, kk, rfl⟩)
        go_roundw
        case rel => exact ⟨i + 1, q, _, by omega, by go_num, rfl, g, hq, rfl⟩
        case measure => simp [intOf]; omega
      · obtain ⟨rfl, rfl⟩ := HO.out (by
          have := ch_grow (n := n) (i := i + 1) (j := m) (by omega) hm2
          rw [← hq.out] at this; omega)
        rw [m1, if_neg g] at cm
        clear hst m1 m2
        go_wp2_with (go_at_call 34; (with_reducible refine (cm _).mono ?_); rintro e w' ⟨rfl, kk, rfl⟩)
        go_ret2
        exact ⟨rfl, _, rfl⟩
    · obtain rfl : i = m := by omega
      have hy := HY.out (by rw [← H.out]; exact hc)
      rw [← H.out] at hy
      obtain ⟨rfl, rfl⟩ := hy
      go_wp2_with fail
      go_ret2
      exact ⟨rfl, _, rfl⟩
theorem count_any (n k V E : Int) (hV : Hid (V = cV n k)) (hE : Hid (E = cE n k)) (w : World) :
    Calls Try.prog 12 #[.int .i64 n, .int .i64 k] w fun e w' => e = .returned (.tuple #[.int .i64 V, .int .i64 E]) ∧ ∃ d, w' = w.drewN d := by
  by_cases h : n < 0 ∨ 80 < n
  · rw [hV.out, hE.out, (c_out h).1, (c_out h).2]
    exact count_out n k h w
  · by_cases h2 : k < 0 ∨ n < k
    · have := c_zero (n := n) (k := k) (by omega) (by omega) h2
      rw [hV.out, hE.out, this.1, this.2]
      exact count_zero n k (by omega) (by omega) h2 w
    · obtain ⟨N, rfl⟩ := Int.eq_ofNat_of_zero_le (show 0 ≤ n by omega)
      obtain ⟨K, rfl⟩ := Int.eq_ofNat_of_zero_le (show 0 ≤ k by omega)
      exact count_in N K V E hV hE (by omega) (by omega) w

/-! ### the reference's -/
theorem rcount_out (n k : Int) (h : n < 0 ∨ 80 < n) (w : World) :
    Calls Try.prog 13 #[.int .i64 n, .int .i64 k] w fun e w' => e = .returned (.tuple #[.int .i64 0, .int .i64 2]) ∧ ∃ d, w' = w.drewN d := by
  have cs := fun w => in_any n 80 false (Lib.hid (decide_eq_false (by omega)).symm) w
  go_enter Try.func13, Try.ntmps13
  go_wp2_with (go_at_call 30; refine (cs _).mono ?_; rintro e w' ⟨rfl, rfl⟩)
  go_ret2
  exact ⟨rfl, 0, rfl⟩
theorem rcount_zero (n k : Int) (h0 : 0 ≤ n) (h1 : n ≤ 80) (h : k < 0 ∨ n < k) (w : World) :
    Calls Try.prog 13 #[.int .i64 n, .int .i64 k] w fun e w' => e = .returned (.tuple #[.int .i64 0, .int .i64 0]) ∧ ∃ d, w' = w.drewN d := by
  have cs := fun w => in_any n 80 true (Lib.hid (decide_eq_true ⟨h0, h1⟩).symm) w
  have ck := fun w => in_any k n false (Lib.hid (decide_eq_false (by omega)).symm) w
  go_enter Try.func13, Try.ntmps13
  go_wp2_with (go_at_call 30; first | ((with_reducible refine (cs _).mono ?_); rintro e w' ⟨rfl, rfl⟩) | ((with_reducible refine (ck _).mono ?_); rintro e w' ⟨rfl, rfl⟩))
  go_ret2
  exact ⟨rfl, 0, rfl⟩
set_option maxHeartbeats 1000000 in
theorem rcount_in (n k : Nat) (V E : Int) (hV : Hid (V = cV n k)) (hE : Hid (E = cE n k)) (h1 : n ≤ 80) (hk : k ≤ n) (w : World) :
    Calls Try.prog 13 #[.int .i64 (n : Int), .int .i64 (k : Int)] w fun e w' => e = .returned (.tuple #[.int .i64 V, .int .i64 E]) ∧ ∃ d, w' = w.drewN d := by
  have cs := fun w => in_any (n : Int) 80 true (Lib.hid (decide_eq_true ⟨by omega, by omega⟩).symm) w
  have ck := fun w => in_any (k : Int) n true (Lib.hid (decide_eq_true ⟨by omega, by omega⟩).symm) w
  have HO : Hid (9223372036854775807 < ch n k → V = 0 ∧ E = 9) := Lib.hid fun h => by
    have := c_over (n := (n : Int)) (k := (k : Int)) (by omega) (by omega) (by rw [cC_nat]; exact h)
    exact ⟨hV.out.trans this.1, hE.out.trans this.2⟩
  have HY : Hid (ch n k ≤ 9223372036854775807 → V = (ch n k : Int) ∧ E = 0) := Lib.hid fun h => by
    have := c_ok (n := (n : Int)) (k := (k : Int)) (by omega) (by omega) (by rw [cC_nat]; exact h)
    rw [cC_nat] at this
    exact ⟨hV.out.trans this.1, hE.out.trans this.2⟩
  clear hV hE
  have e0 : IntKind.i64.wrap ((n : Int) - (k : Int)) = ((n - k : Nat) : Int) := by rw [IntWalk.i64_in _ (by omega)]; omega
  go_enter Try.func13, Try.ntmps13
  go_wp2_with (go_at_call 30; first | ((with_reducible refine (cs _).mono ?_); rintro e w' ⟨rfl, rfl⟩) | ((with_reducible refine (ck _).mono ?_); rintro e w' ⟨rfl, rfl⟩))
  go_loopw [6, 7] (fun s6 s7 wr => ∃ j c d : Nat, 1 ≤ j ∧ j ≤ k + 1 ∧ s7 = .int .i64 (j : Int) ∧ s6 = .int .i64 (c : Int) ∧ c ≤ 9223372036854775807 ∧ Hid (c = ch (n - k + (j - 1)) (j - 1)) ∧ wr = w.drewN d) (fun _ s7 _ => k + 1 - (intOf s7).toNat)
  case atStart => exact ⟨1, 1, 0, by omega, by omega, rfl, rfl, by omega, Lib.hid (ch_zero _).symm, rfl⟩
  case round =>
    obtain ⟨j, c, d, hj, hi, rfl, rfl, hc, H, rfl⟩ := hrel
    by_cases hlt : j ≤ k
    · have hst := ch_absorb (n - k + (j - 1)) (j - 1)
      rw [← H.out, show n - k + (j - 1) + 1 = n - k + j by omega, show j - 1 + 1 = j by omega] at hst
      obtain ⟨q, hq⟩ : ∃ q, Hid (q = ch (n - k + j) j) := ⟨_, Lib.hid rfl⟩
      rw [← hq.out] at hst
      obtain ⟨m1, m2⟩ := md_exact (by omega) hst
      rw [Int.natCast_add] at m1 m2
      have cm := fun w => (md_any (c : Int) (((n - k : Nat) : Int) + (j : Int)) (j : Int) (by omega) (by omega) (by omega) (by omega) (by omega) (by omega) w).2
      by_cases g : q ≤ 9223372036854775807
      · rw [m1, if_pos g, m2 g] at cm
        clear hst m1 m2
        go_wp2_with (go_at_call 35; (with_reducible refine (cm _).mono ?_); rintro e w' ⟨rfl, rfl⟩)
        go_roundw
        case rel => exact ⟨j + 1, q, _, by omega, by omega, by go_num, rfl, g, by rw [show j + 1 - 1 = j by omega]; exact hq, rfl⟩
        case measure => simp [intOf]; omega
      · obtain ⟨rfl, rfl⟩ := HO.out (by
          have h2 : ch (n - k + j) j ≤ ch n k := by
            obtain ⟨t, ht⟩ := Nat.le.dest hlt
            have : ∀ t a j : Nat, ch a j ≤ ch (a + t) (j + t) := by
              intro t; induction t with
              | zero => intro a j; exact Nat.le_refl _
              | succ t ih => intro a j; exact Nat.le_trans (ih a j) (ch_le1 _ _)
            have := this t (n - k + j) j
            rw [show n - k + j + t = n by omega, ht] at this
            exact this
          rw [← hq.out] at h2; omega)
        rw [m1, if_neg g] at cm
        clear hst m1 m2
        go_wp2_with (go_at_call 35; (with_reducible refine (cm _).mono ?_); rintro e w' ⟨rfl, rfl⟩)
        go_ret2
        exact ⟨rfl, _, rfl⟩
    · obtain rfl : j = k + 1 := by omega
      rw [show n - k + (k + 1 - 1) = n by omega, show k + 1 - 1 = k by omega] at H
      have hy := HY.out (by rw [← H.out]; exact hc)
      rw [← H.out] at hy
      obtain ⟨rfl, rfl⟩ := hy
      have l0 : decide (k + 1 ≤ k) = false := decide_eq_false (by omega)
      go_wp2_with fail
      go_ret2
      exact ⟨rfl, _, rfl⟩
theorem rcount_any (n k V E : Int) (hV : Hid (V = cV n k)) (hE : Hid (E = cE n k)) (w : World) :
    Calls Try.prog 13 #[.int .i64 n, .int .i64 k] w fun e w' => e = .returned (.tuple #[.int .i64 V, .int .i64 E]) ∧ ∃ d, w' = w.drewN d := by
  by_cases h : n < 0 ∨ 80 < n
  · rw [hV.out, hE.out, (c_out h).1, (c_out h).2]
    exact rcount_out n k h w
  · by_cases h2 : k < 0 ∨ n < k
    · have := c_zero (n := n) (k := k) (by omega) (by omega) h2
      rw [hV.out, hE.out, this.1, this.2]
      exact rcount_zero n k (by omega) (by omega) h2 w
    · obtain ⟨N, rfl⟩ := Int.eq_ofNat_of_zero_le (show 0 ≤ n by omega)
      obtain ⟨K, rfl⟩ := Int.eq_ofNat_of_zero_le (show 0 ≤ k by omega)
      exact rcount_in N K V E hV hE (by omega) (by omega) w
/-- greater: a coefficient that is an int -/
theorem greater_any (n x k G : Nat) (hG : Hid (G = ch (n - x) k)) (hn : n ≤ 80) (hx : x ≤ n) (hk : k ≤ 9223372036854775807) (h : G ≤ 9223372036854775807) (w : World) :
    Calls Try.prog 39 #[.int .i64 (n : Int), .int .i64 (x : Int), .int .i64 (k : Int)] w fun e w' => e = .returned (.int .i64 (G : Int)) ∧ ∃ d, w' = w.drewN d := by
  have e1 : IntKind.i64.wrap ((n : Int) - (x : Int)) = ((n - x : Nat) : Int) := by rw [IntWalk.i64_in _ (by omega)]; omega
  have hc := c_ok (n := ((n - x : Nat) : Int)) (k := (k : Int)) (by omega) (by omega) (by rw [cC_nat, ← hG.out]; exact h)
  rw [cC_nat, ← hG.out] at hc
  have cc := fun w => count_any ((n - x : Nat) : Int) (k : Int) (G : Int) 0 (Lib.hid hc.1.symm) (Lib.hid hc.2.symm) w
  clear hc
  go_enter Try.func39, Try.ntmps39
  go_wp2_with (go_at_call 12; (with_reducible refine (cc _).mono ?_); rintro e w' ⟨rfl, d, rfl⟩)
  go_ret
  exact ⟨rfl, _, rfl⟩
end Go.Proofs.Ytjblfmgiafdefaa.cbA

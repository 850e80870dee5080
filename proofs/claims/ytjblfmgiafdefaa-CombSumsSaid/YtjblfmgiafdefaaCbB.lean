/-
  Contracts of Hits of comb and of the reference.
-/
import Derived.Test.YtjblfmgiafdefaaCbA
namespace Go.Proofs.Ytjblfmgiafdefaa.cbB
open Go.RowKit
open Go.Proofs.Ytjblfmgiafdefaa.numM Go.Proofs.Ytjblfmgiafdefaa.numA Go.Proofs.Ytjblfmgiafdefaa.numB Go.Proofs.Ytjblfmgiafdefaa.numE Go.Proofs.Ytjblfmgiafdefaa.monM Go.Proofs.Ytjblfmgiafdefaa.cbM Go.Proofs.Ytjblfmgiafdefaa.cbA
set_option linter.unusedVariables false

/-- what Hits answers -/
def hC (n k d h : Int) : Nat := if 0 ≤ k ∧ k ≤ n ∧ 0 ≤ h ∧ h ≤ d then cC d h * cC (n - d) (k - h) else 0
def hE (n k d h : Int) : Int := if n < 0 ∨ 80 < n ∨ d < 0 ∨ n < d then 2 else if hC n k d h ≤ 9223372036854775807 then 0 else 9
def hV (n k d h : Int) : Int := if hE n k d h = 0 then (hC n k d h : Int) else 0
theorem h_out {n k d h : Int} (g : n < 0 ∨ 80 < n ∨ d < 0 ∨ n < d) : hV n k d h = 0 ∧ hE n k d h = 2 := by
  have e : hE n k d h = 2 := if_pos g
  exact ⟨by unfold hV; rw [e]; rfl, e⟩
theorem h_ok {n k d h : Int} {q : Nat} (hq : hC n k d h = q) (g : ¬ (n < 0 ∨ 80 < n ∨ d < 0 ∨ n < d)) (c : q ≤ 9223372036854775807) : hV n k d h = (q : Int) ∧ hE n k d h = 0 := by
  have e : hE n k d h = 0 := by unfold hE; rw [if_neg g, hq, if_pos c]
  exact ⟨by unfold hV; rw [e, if_pos rfl, hq], e⟩
theorem h_over {n k d h : Int} {q : Nat} (hq : hC n k d h = q) (g : ¬ (n < 0 ∨ 80 < n ∨ d < 0 ∨ n < d)) (c : 9223372036854775807 < q) : hV n k d h = 0 ∧ hE n k d h = 9 := by
  have e : hE n k d h = 9 := by unfold hE; rw [if_neg g, hq, if_neg (by omega)]
  exact ⟨by unfold hV; rw [e]; rfl, e⟩
theorem fit_nat (a b q : Nat) (h : q = a * b) : fitV ((a : Int) * (b : Int)) = (if q ≤ 9223372036854775807 then (q : Int) else 0) ∧ fitE ((a : Int) * (b : Int)) = (if q ≤ 9223372036854775807 then 0 else 9) := by
  rw [← Int.natCast_mul, ← h]
  by_cases g : q ≤ 9223372036854775807
  · rw [if_pos g, if_pos g]; exact ⟨fitV_in (by omega) (by omega), fitE_in (by omega) (by omega)⟩
  · rw [if_neg g, if_neg g]; exact ⟨fitV_hi (by omega), fitE_hi (by omega)⟩

theorem hits_out (n k d h : Int) (g : n < 0 ∨ 80 < n ∨ d < 0 ∨ n < d) (w : World) :
    Calls Try.prog 16 #[.int .i64 n, .int .i64 k, .int .i64 d, .int .i64 h] w fun e w' => e = .returned (.tuple #[.int .i64 0, .int .i64 2]) ∧ ∃ d, w' = w.drewN d := by
  by_cases g0 : n < 0 ∨ 80 < n
  · have cs := fun w => size_any n false (Lib.hid (decide_eq_false (by omega)).symm) w
    go_enter Try.func16, Try.ntmps16
    go_wp2_with (go_at_call 26; refine (cs _).mono ?_; rintro e w' ⟨rfl, rfl⟩)
    go_ret2
    exact ⟨rfl, 0, rfl⟩
  · have cs := fun w => size_any n true (Lib.hid (decide_eq_true (by omega)).symm) w
    by_cases g1 : d < 0
    · go_enter Try.func16, Try.ntmps16
      go_wp2_with (go_at_call 26; refine (cs _).mono ?_; rintro e w' ⟨rfl, rfl⟩)
      go_ret2
      exact ⟨rfl, 0, rfl⟩
    · have g2 : n < d := by omega
      go_enter Try.func16, Try.ntmps16
      go_wp2_with (go_at_call 26; refine (cs _).mono ?_; rintro e w' ⟨rfl, rfl⟩)
      go_ret2
      exact ⟨rfl, 0, rfl⟩
theorem hits_zero (n k d h : Int) (h0 : 0 ≤ n) (h1 : n ≤ 80) (h2 : 0 ≤ d) (h3 : d ≤ n) (g : k < 0 ∨ n < k ∨ h < 0 ∨ d < h) (w : World) :
    Calls Try.prog 16 #[.int .i64 n, .int .i64 k, .int .i64 d, .int .i64 h] w fun e w' => e = .returned (.tuple #[.int .i64 0, .int .i64 0]) ∧ ∃ d, w' = w.drewN d := by
  have cs := fun w => size_any n true (Lib.hid (decide_eq_true ⟨h0, h1⟩).symm) w
  have d0 : decide (d < 0) = false := decide_eq_false (by omega)
  have d1 : decide (n < d) = false := decide_eq_false (by omega)
  by_cases g0 : k < 0
  · go_enter Try.func16, Try.ntmps16
    go_wp2_with (go_at_call 26; refine (cs _).mono ?_; rintro e w' ⟨rfl, rfl⟩)
    go_ret2
    exact ⟨rfl, 0, rfl⟩
  · by_cases g1 : n < k
    · go_enter Try.func16, Try.ntmps16
      go_wp2_with (go_at_call 26; refine (cs _).mono ?_; rintro e w' ⟨rfl, rfl⟩)
      go_ret2
      exact ⟨rfl, 0, rfl⟩
    · by_cases g2 : h < 0
      · go_enter Try.func16, Try.ntmps16
        go_wp2_with (go_at_call 26; refine (cs _).mono ?_; rintro e w' ⟨rfl, rfl⟩)
        go_ret2
        exact ⟨rfl, 0, rfl⟩
      · have g3 : d < h := by omega
        go_enter Try.func16, Try.ntmps16
        go_wp2_with (go_at_call 26; refine (cs _).mono ?_; rintro e w' ⟨rfl, rfl⟩)
        go_ret2
        exact ⟨rfl, 0, rfl⟩
set_option maxHeartbeats 1000000 in
theorem hits_in (n k d h : Int) (V E : Int) (hV : Hid (V = hV n k d h)) (hE : Hid (E = hE n k d h)) (h0 : 0 ≤ n) (h1 : n ≤ 80) (h2 : 0 ≤ d) (h3 : d ≤ n) (h4 : 0 ≤ k) (h5 : k ≤ n) (h6 : 0 ≤ h) (h7 : h ≤ d) (w : World) :
    Calls Try.prog 16 #[.int .i64 n, .int .i64 k, .int .i64 d, .int .i64 h] w fun e w' => e = .returned (.tuple #[.int .i64 V, .int .i64 E]) ∧ ∃ d, w' = w.drewN d := by
  have cs := fun w => size_any n true (Lib.hid (decide_eq_true ⟨h0, h1⟩).symm) w
  have d0 : decide (d < 0) = false := decide_eq_false (by omega)
  have d1 : decide (n < d) = false := decide_eq_false (by omega)
  have k0 : decide (k < 0) = false := decide_eq_false (by omega)
  have k1 : decide (n < k) = false := decide_eq_false (by omega)
  have x0 : decide (h < 0) = false := decide_eq_false (by omega)
  have x1 : decide (d < h) = false := decide_eq_false (by omega)
  have hq : hC n k d h = cC d h * cC (n - d) (k - h) := if_pos ⟨h4, h5, h6, h7⟩
  have ha0 : 0 < cC d h := by unfold cC; rw [if_pos h6]; exact ch_pos (by omega)
  obtain ⟨a, ha⟩ : ∃ a, a = cC d h := ⟨_, rfl⟩
  obtain ⟨b, hb⟩ : ∃ b, b = cC (n - d) (k - h) := ⟨_, rfl⟩
  obtain ⟨q, hq2⟩ : ∃ q, q = a * b := ⟨_, rfl⟩
  rw [← ha, ← hb, ← hq2] at hq
  rw [← ha] at ha0
  have ng : ¬ (n < 0 ∨ 80 < n ∨ d < 0 ∨ n < d) := by omega
  have HO : Hid (9223372036854775807 < q → V = 0 ∧ E = 9) := Lib.hid fun g => ⟨hV.out.trans (h_over hq ng g).1, hE.out.trans (h_over hq ng g).2⟩
  have HY : Hid (q ≤ 9223372036854775807 → V = (q : Int) ∧ E = 0) := Lib.hid fun g => ⟨hV.out.trans (h_ok hq ng g).1, hE.out.trans (h_ok hq ng g).2⟩
  clear hV hE hq ng
  by_cases gb : 9223372036854775807 < b
  · have hc := c_over (n := n - d) (k := k - h) (by omega) (by omega) (by rw [← hb]; exact gb)
    have cb := fun w => count_any (n - d) (k - h) 0 9 (Lib.hid hc.1.symm) (Lib.hid hc.2.symm) w
    obtain ⟨rfl, rfl⟩ := HO.out (by rw [hq2]; exact Nat.lt_of_lt_of_le gb (Nat.le_mul_of_pos_left b ha0))
    clear hc hq2 ha hb gb
    go_enter Try.func16, Try.ntmps16
    go_wp2_with (first
      | (go_at_call 26; refine (cs _).mono ?_; rintro e w' ⟨rfl, rfl⟩)
      | (go_at_call 12; (with_reducible refine (cb _).mono ?_); rintro e w' ⟨rfl, d, rfl⟩))
    go_ret2
    exact ⟨rfl, _, rfl⟩
  · have hc := c_ok (n := n - d) (k := k - h) (by omega) (by omega) (by rw [← hb]; omega)
    rw [← hb] at hc
    have cb := fun w => count_any (n - d) (k - h) (b : Int) 0 (Lib.hid hc.1.symm) (Lib.hid hc.2.symm) w
    by_cases gz : b = 0
    · subst gz
      rw [Nat.mul_zero] at hq2
      subst hq2
      obtain ⟨rfl, rfl⟩ := HY.out (by omega)
      clear hc ha hb gb
      go_enter Try.func16, Try.ntmps16
      go_wp2_with (first
        | (go_at_call 26; refine (cs _).mono ?_; rintro e w' ⟨rfl, rfl⟩)
        | (go_at_call 12; (with_reducible refine (cb _).mono ?_); rintro e w' ⟨rfl, d, rfl⟩))
      go_ret2
      exact ⟨rfl, _, rfl⟩
    · have bz : ((b : Int) == 0) = false := by simpa using gz
      by_cases ga : 9223372036854775807 < a
      · have hd := c_over (n := d) (k := h) (by omega) (by omega) (by rw [← ha]; exact ga)
        have ca := fun w => count_any d h 0 9 (Lib.hid hd.1.symm) (Lib.hid hd.2.symm) w
        obtain ⟨rfl, rfl⟩ := HO.out (by rw [hq2]; exact Nat.lt_of_lt_of_le ga (Nat.le_mul_of_pos_right a (by omega)))
        clear hc hd hq2 ha hb gb ga gz
        go_enter Try.func16, Try.ntmps16
        go_wp2_with (first
          | (go_at_call 26; refine (cs _).mono ?_; rintro e w' ⟨rfl, rfl⟩)
          | (go_at_call 12; first
            | ((with_reducible refine (cb _).mono ?_); rintro e w' ⟨rfl, d, rfl⟩)
            | ((with_reducible refine (ca _).mono ?_); rintro e w' ⟨rfl, d, rfl⟩)))
        go_ret2
        exact ⟨rfl, _, rfl⟩
      · have hd := c_ok (n := d) (k := h) (by omega) (by omega) (by rw [← ha]; omega)
        rw [← ha] at hd
        have ca := fun w => count_any d h (a : Int) 0 (Lib.hid hd.1.symm) (Lib.hid hd.2.symm) w
        have cm := fun w => mul_any (a : Int) (b : Int) (by omega) (by omega) (by omega) (by omega) w
        obtain ⟨f1, f2⟩ := fit_nat a b q hq2
        rw [f1, f2] at cm
        have hve : V = (if q ≤ 9223372036854775807 then (q : Int) else 0) ∧ E = (if q ≤ 9223372036854775807 then 0 else 9) := by
          by_cases g : q ≤ 9223372036854775807
          · rw [if_pos g, if_pos g]; exact HY.out g
          · rw [if_neg g, if_neg g]; exact HO.out (by omega)
        rw [← hve.1, ← hve.2] at cm
        clear hc hd hq2 ha hb gb ga gz f1 f2 hve HO HY
        go_enter Try.func16, Try.ntmps16
        go_wp2_with (first
          | (go_at_call 26; refine (cs _).mono ?_; rintro e w' ⟨rfl, rfl⟩)
          | (go_at_call 12; first
            | ((with_reducible refine (cb _).mono ?_); rintro e w' ⟨rfl, d, rfl⟩)
            | ((with_reducible refine (ca _).mono ?_); rintro e w' ⟨rfl, d, rfl⟩))
          | (go_at_call 36; (with_reducible refine (cm _).mono ?_); rintro e w' ⟨rfl, rfl⟩))
        go_ret2
        exact ⟨rfl, _, rfl⟩
theorem hits_any (n k d h : Int) (V E : Int) (hV : Hid (V = hV n k d h)) (hE : Hid (E = hE n k d h)) (w : World) :
    Calls Try.prog 16 #[.int .i64 n, .int .i64 k, .int .i64 d, .int .i64 h] w fun e w' => e = .returned (.tuple #[.int .i64 V, .int .i64 E]) ∧ ∃ d, w' = w.drewN d := by
  by_cases g : n < 0 ∨ 80 < n ∨ d < 0 ∨ n < d
  · rw [hV.out, hE.out, (h_out g).1, (h_out g).2]
    exact hits_out n k d h g w
  · by_cases g2 : k < 0 ∨ n < k ∨ h < 0 ∨ d < h
    · have hz : hC n k d h = 0 := if_neg (by omega)
      have := h_ok hz g (by omega)
      rw [hV.out, hE.out, this.1, this.2]
      exact hits_zero n k d h (by omega) (by omega) (by omega) (by omega) g2 w
    · exact hits_in n k d h V E hV hE (by omega) (by omega) (by omega) (by omega) (by omega) (by omega) (by omega) (by omega) w

/-! ### the reference's -/
theorem rhits_out (n k d h : Int) (g : n < 0 ∨ 80 < n ∨ d < 0 ∨ n < d) (w : World) :
    Calls Try.prog 17 #[.int .i64 n, .int .i64 k, .int .i64 d, .int .i64 h] w fun e w' => e = .returned (.tuple #[.int .i64 0, .int .i64 2]) ∧ ∃ d, w' = w.drewN d := by
  by_cases g0 : n < 0 ∨ 80 < n
  · have cs := fun w => in_any n 80 false (Lib.hid (decide_eq_false (by omega)).symm) w
    go_enter Try.func17, Try.ntmps17
    go_wp2_with (go_at_call 30; (with_reducible refine (cs _).mono ?_); rintro e w' ⟨rfl, rfl⟩)
    go_ret2
    exact ⟨rfl, 0, rfl⟩
  · have cs := fun w => in_any n 80 true (Lib.hid (decide_eq_true (by omega)).symm) w
    have ct := fun w => in_any d n false (Lib.hid (decide_eq_false (by omega)).symm) w
    go_enter Try.func17, Try.ntmps17
    go_wp2_with (go_at_call 30; first | ((with_reducible refine (cs _).mono ?_); rintro e w' ⟨rfl, rfl⟩) | ((with_reducible refine (ct _).mono ?_); rintro e w' ⟨rfl, rfl⟩))
    go_ret2
    exact ⟨rfl, 0, rfl⟩
set_option maxHeartbeats 1000000 in
theorem rhits_zero (n k d h : Int) (h0 : 0 ≤ n) (h1 : n ≤ 80) (h2 : 0 ≤ d) (h3 : d ≤ n) (g : ¬ (0 ≤ k ∧ k ≤ n ∧ 0 ≤ h ∧ h ≤ d ∧ 0 ≤ k - h ∧ k - h ≤ n - d)) (w : World) :
    Calls Try.prog 17 #[.int .i64 n, .int .i64 k, .int .i64 d, .int .i64 h] w fun e w' => e = .returned (.tuple #[.int .i64 0, .int .i64 0]) ∧ ∃ d, w' = w.drewN d := by
  have cs := fun w => in_any n 80 true (Lib.hid (decide_eq_true ⟨h0, h1⟩).symm) w
  have ct := fun w => in_any d n true (Lib.hid (decide_eq_true ⟨h2, h3⟩).symm) w
  by_cases g0 : 0 ≤ k ∧ k ≤ n
  · have ck := fun w => in_any k n true (Lib.hid (decide_eq_true g0).symm) w
    by_cases g1 : 0 ≤ h ∧ h ≤ d
    · have cj := fun w => in_any h d true (Lib.hid (decide_eq_true g1).symm) w
      have cl := fun w => in_any (k - h) (n - d) false (Lib.hid (decide_eq_false (by omega)).symm) w
      go_enter Try.func17, Try.ntmps17
      go_wp2_with (go_at_call 30; first
        | ((with_reducible refine (cs _).mono ?_); rintro e w' ⟨rfl, rfl⟩)
        | ((with_reducible refine (ct _).mono ?_); rintro e w' ⟨rfl, rfl⟩)
        | ((with_reducible refine (ck _).mono ?_); rintro e w' ⟨rfl, rfl⟩)
        | ((with_reducible refine (cj _).mono ?_); rintro e w' ⟨rfl, rfl⟩)
        | ((with_reducible refine (cl _).mono ?_); rintro e w' ⟨rfl, rfl⟩))
      go_ret2
      exact ⟨rfl, 0, rfl⟩
    · have cj := fun w => in_any h d false (Lib.hid (decide_eq_false g1).symm) w
      go_enter Try.func17, Try.ntmps17
      go_wp2_with (go_at_call 30; first
        | ((with_reducible refine (cs _).mono ?_); rintro e w' ⟨rfl, rfl⟩)
        | ((with_reducible refine (ct _).mono ?_); rintro e w' ⟨rfl, rfl⟩)
        | ((with_reducible refine (ck _).mono ?_); rintro e w' ⟨rfl, rfl⟩)
        | ((with_reducible refine (cj _).mono ?_); rintro e w' ⟨rfl, rfl⟩))
      go_ret2
      exact ⟨rfl, 0, rfl⟩
  · have ck := fun w => in_any k n false (Lib.hid (decide_eq_false g0).symm) w
    go_enter Try.func17, Try.ntmps17
    go_wp2_with (go_at_call 30; first
      | ((with_reducible refine (cs _).mono ?_); rintro e w' ⟨rfl, rfl⟩)
      | ((with_reducible refine (ct _).mono ?_); rintro e w' ⟨rfl, rfl⟩)
      | ((with_reducible refine (ck _).mono ?_); rintro e w' ⟨rfl, rfl⟩))
    go_ret2
    exact ⟨rfl, 0, rfl⟩
set_option maxHeartbeats 1000000 in
theorem rhits_in (n k d h : Int) (V E : Int) (hV : Hid (V = hV n k d h)) (hE : Hid (E = hE n k d h)) (h0 : 0 ≤ n) (h1 : n ≤ 80) (h2 : 0 ≤ d) (h3 : d ≤ n) (h4 : 0 ≤ k) (h5 : k ≤ n) (h6 : 0 ≤ h) (h7 : h ≤ d) (h8 : 0 ≤ k - h) (h9 : k - h ≤ n - d) (w : World) :
    Calls Try.prog 17 #[.int .i64 n, .int .i64 k, .int .i64 d, .int .i64 h] w fun e w' => e = .returned (.tuple #[.int .i64 V, .int .i64 E]) ∧ ∃ d, w' = w.drewN d := by
  have cs := fun w => in_any n 80 true (Lib.hid (decide_eq_true ⟨h0, h1⟩).symm) w
  have ct := fun w => in_any d n true (Lib.hid (decide_eq_true ⟨h2, h3⟩).symm) w
  have ck := fun w => in_any k n true (Lib.hid (decide_eq_true ⟨h4, h5⟩).symm) w
  have cj := fun w => in_any h d true (Lib.hid (decide_eq_true ⟨h6, h7⟩).symm) w
  have cl := fun w => in_any (k - h) (n - d) true (Lib.hid (decide_eq_true ⟨h8, h9⟩).symm) w
  have hq : hC n k d h = cC d h * cC (n - d) (k - h) := if_pos ⟨h4, h5, h6, h7⟩
  have ha0 : 0 < cC d h := by unfold cC; rw [if_pos h6]; exact ch_pos (by omega)
  have hb0 : 0 < cC (n - d) (k - h) := by unfold cC; rw [if_pos h8]; exact ch_pos (by omega)
  obtain ⟨a, ha⟩ : ∃ a, a = cC d h := ⟨_, rfl⟩
  obtain ⟨b, hb⟩ : ∃ b, b = cC (n - d) (k - h) := ⟨_, rfl⟩
  obtain ⟨q, hq2⟩ : ∃ q, q = a * b := ⟨_, rfl⟩
  rw [← ha, ← hb, ← hq2] at hq
  rw [← ha] at ha0
  rw [← hb] at hb0
  have ng : ¬ (n < 0 ∨ 80 < n ∨ d < 0 ∨ n < d) := by omega
  have HO : Hid (9223372036854775807 < q → V = 0 ∧ E = 9) := Lib.hid fun g => ⟨hV.out.trans (h_over hq ng g).1, hE.out.trans (h_over hq ng g).2⟩
  have HY : Hid (q ≤ 9223372036854775807 → V = (q : Int) ∧ E = 0) := Lib.hid fun g => ⟨hV.out.trans (h_ok hq ng g).1, hE.out.trans (h_ok hq ng g).2⟩
  clear hV hE hq ng
  by_cases ga : 9223372036854775807 < a
  · have hd := c_over (n := d) (k := h) (by omega) (by omega) (by rw [← ha]; exact ga)
    have ca := fun w => rcount_any d h 0 9 (Lib.hid hd.1.symm) (Lib.hid hd.2.symm) w
    obtain ⟨rfl, rfl⟩ := HO.out (by rw [hq2]; exact Nat.lt_of_lt_of_le ga (Nat.le_mul_of_pos_right a hb0))
    clear hd hq2 ha hb ga
    go_enter Try.func17, Try.ntmps17
    go_wp2_with (first
      | (go_at_call 30; first
        | ((with_reducible refine (cs _).mono ?_); rintro e w' ⟨rfl, rfl⟩)
        | ((with_reducible refine (ct _).mono ?_); rintro e w' ⟨rfl, rfl⟩)
        | ((with_reducible refine (ck _).mono ?_); rintro e w' ⟨rfl, rfl⟩)
        | ((with_reducible refine (cj _).mono ?_); rintro e w' ⟨rfl, rfl⟩)
        | ((with_reducible refine (cl _).mono ?_); rintro e w' ⟨rfl, rfl⟩))
      | (go_at_call 13; (with_reducible refine (ca _).mono ?_); rintro e w' ⟨rfl, d, rfl⟩))
    go_ret2
    exact ⟨rfl, _, rfl⟩
  · have hd := c_ok (n := d) (k := h) (by omega) (by omega) (by rw [← ha]; omega)
    rw [← ha] at hd
    have ca := fun w => rcount_any d h (a : Int) 0 (Lib.hid hd.1.symm) (Lib.hid hd.2.symm) w
    by_cases gb : 9223372036854775807 < b
    · have hc := c_over (n := n - d) (k := k - h) (by omega) (by omega) (by rw [← hb]; exact gb)
      have cb := fun w => rcount_any (n - d) (k - h) 0 9 (Lib.hid hc.1.symm) (Lib.hid hc.2.symm) w
      obtain ⟨rfl, rfl⟩ := HO.out (by rw [hq2]; exact Nat.lt_of_lt_of_le gb (Nat.le_mul_of_pos_left b ha0))
      clear hc hd hq2 ha hb gb ga
      go_enter Try.func17, Try.ntmps17
      go_wp2_with (first
        | (go_at_call 30; first
          | ((with_reducible refine (cs _).mono ?_); rintro e w' ⟨rfl, rfl⟩)
          | ((with_reducible refine (ct _).mono ?_); rintro e w' ⟨rfl, rfl⟩)
          | ((with_reducible refine (ck _).mono ?_); rintro e w' ⟨rfl, rfl⟩)
          | ((with_reducible refine (cj _).mono ?_); rintro e w' ⟨rfl, rfl⟩)
          | ((with_reducible refine (cl _).mono ?_); rintro e w' ⟨rfl, rfl⟩))
        | (go_at_call 13; first
          | ((with_reducible refine (ca _).mono ?_); rintro e w' ⟨rfl, d, rfl⟩)
          | ((with_reducible refine (cb _).mono ?_); rintro e w' ⟨rfl, d, rfl⟩)))
      go_ret2
      exact ⟨rfl, _, rfl⟩
    · have hc := c_ok (n := n - d) (k := k - h) (by omega) (by omega) (by rw [← hb]; omega)
      rw [← hb] at hc
      have cb := fun w => rcount_any (n - d) (k - h) (b : Int) 0 (Lib.hid hc.1.symm) (Lib.hid hc.2.symm) w
      have cm := fun w => rmul_any (a : Int) (b : Int) (by omega) (by omega) (by omega) (by omega) w
      obtain ⟨f1, f2⟩ := fit_nat a b q hq2
      rw [f1, f2] at cm
      have hve : V = (if q ≤ 9223372036854775807 then (q : Int) else 0) ∧ E = (if q ≤ 9223372036854775807 then 0 else 9) := by
        by_cases g : q ≤ 9223372036854775807
        · rw [if_pos g, if_pos g]; exact HY.out g
        · rw [if_neg g, if_neg g]; exact HO.out (by omega)
      rw [← hve.1, ← hve.2] at cm
      clear hc hd hq2 ha hb gb ga f1 f2 hve HO HY
      go_enter Try.func17, Try.ntmps17
      go_wp2_with (first
        | (go_at_call 30; first
          | ((with_reducible refine (cs _).mono ?_); rintro e w' ⟨rfl, rfl⟩)
          | ((with_reducible refine (ct _).mono ?_); rintro e w' ⟨rfl, rfl⟩)
          | ((with_reducible refine (ck _).mono ?_); rintro e w' ⟨rfl, rfl⟩)
          | ((with_reducible refine (cj _).mono ?_); rintro e w' ⟨rfl, rfl⟩)
          | ((with_reducible refine (cl _).mono ?_); rintro e w' ⟨rfl, rfl⟩))
        | (go_at_call 13; first
          | ((with_reducible refine (ca _).mono ?_); rintro e w' ⟨rfl, d, rfl⟩)
          | ((with_reducible refine (cb _).mono ?_); rintro e w' ⟨rfl, d, rfl⟩))
        | (go_at_call 37; (with_reducible refine (cm _).mono ?_); rintro e w' ⟨rfl, rfl⟩))
      go_ret2
      exact ⟨rfl, _, rfl⟩
theorem rhits_any (n k d h : Int) (V E : Int) (hV : Hid (V = hV n k d h)) (hE : Hid (E = hE n k d h)) (w : World) :
    Calls Try.prog 17 #[.int .i64 n, .int .i64 k, .int .i64 d, .int .i64 h] w fun e w' => e = .returned (.tuple #[.int .i64 V, .int .i64 E]) ∧ ∃ d, w' = w.drewN d := by
  by_cases g : n < 0 ∨ 80 < n ∨ d < 0 ∨ n < d
  · rw [hV.out, hE.out, (h_out g).1, (h_out g).2]
    exact rhits_out n k d h g w
  · by_cases g2 : 0 ≤ k ∧ k ≤ n ∧ 0 ≤ h ∧ h ≤ d ∧ 0 ≤ k - h ∧ k - h ≤ n - d
    · obtain ⟨a, b, c, d0, e, f⟩ := g2
      exact rhits_in n k d h V E hV hE (by omega) (by omega) (by omega) (by omega) a b c d0 e f w
    · have hz : hC n k d h = 0 := by
        unfold hC
        by_cases c : 0 ≤ k ∧ k ≤ n ∧ 0 ≤ h ∧ h ≤ d
        · rw [if_pos c]
          have : cC (n - d) (k - h) = 0 := by
            by_cases e : k - h < 0
            · exact cC_neg e
            · exact cC_big (by omega) (by omega)
          rw [this, Nat.mul_zero]
        · rw [if_neg c]
      have := h_ok hz g (by omega)
      rw [hV.out, hE.out, this.1, this.2]
      exact rhits_zero n k d h (by omega) (by omega) (by omega) (by omega) g2 w
end Go.Proofs.Ytjblfmgiafdefaa.cbB

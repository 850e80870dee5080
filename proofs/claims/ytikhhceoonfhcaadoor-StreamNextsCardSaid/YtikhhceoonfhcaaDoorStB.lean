/-
  Contracts of the program's below and Below, of the reference's good and Below.
-/
import Derived.Test.YtikhhceoonfhcaaDoorStA
namespace Go.Proofs.YtikhhceoonfhcaaDoor.stB
open Go.RowKit
open Go.Proofs.YtikhhceoonfhcaaDoor.dgM Go.Proofs.YtikhhceoonfhcaaDoor.dgA Go.Proofs.YtikhhceoonfhcaaDoor.dgB Go.Proofs.YtikhhceoonfhcaaDoor.stM Go.Proofs.YtikhhceoonfhcaaDoor.stA
set_option linter.unusedVariables false

theorem xor_max {r : Nat} (h : r < A64) : (18446744073709551615 : Nat) ^^^ r = A64 - 1 - r := by
  rw [show A64 - 1 - r = 2 ^ 64 - (r + 1) by rw [← A64_pow]; omega]
  rw [A64_pow] at h
  apply Nat.eq_of_testBit_eq
  intro i
  rw [Nat.testBit_xor, Nat.testBit_two_pow_sub_succ h, show (18446744073709551615 : Nat) = 2 ^ 64 - 1 by decide, Nat.testBit_two_pow_sub_one]
  by_cases hi : i < 64
  · simp [hi]
  · have : r < 2 ^ i := Nat.lt_of_lt_of_le h (Nat.pow_le_pow_right (by omega) (by omega))
    simp [hi, Nat.testBit_lt_two_pow this]

set_option maxRecDepth 10000 in
set_option maxHeartbeats 1000000 in
theorem below_in (n : Nat) (h0 : 0 < n) (h1 : n ≤ 2147483648) (p a k V E k' : Nat) (ha : a < A64) (hV : Hid (bl a n k = (V, E, k'))) (w : World) (hL : Lv w p a k) :
    Calls Tryd.prog 28 #[.int .u64 (n : Int), .func (.func 13) #[.pointer (some ⟨p, 0, none⟩)] #[]] w (Nst w p a k' (.tuple #[.int .i64 (V : Int), .int .i64 (E : Int)])) := by
  have hl := lst_prog h0 (show n ≤ A64 by unfold A64; omega)
  have e1 : IntKind.u64.wrap (0 - (n : Int)) = ((A64 - n : Nat) : Int) := by rw [IntKind.wrap_u64]; unfold A64; omega
  have e1' : IntKind.u64.wrap (-(n : Int)) = ((A64 - n : Nat) : Int) := by rw [IntKind.wrap_u64]; unfold A64; omega
  have e2 : ((A64 - n : Nat) : Int) % (n : Int) = (((A64 - n) % n : Nat) : Int) := (Int.natCast_emod _ _).symm
  have hr : (A64 - n) % n < A64 := Nat.lt_of_le_of_lt (Nat.mod_le _ _) (by unfold A64; omega)
  have e3 : bits .xor .u64 IntKind.u64.max (((A64 - n) % n : Nat) : Int) = ((lst n : Nat) : Int) := by
    have := xor_fact (a := 18446744073709551615) (b := (A64 - n) % n) (by decide) hr
    rw [xor_max hr, hl] at this
    exact this
  have hlt : lst n < A64 := by unfold lst A64; omega
  obtain ⟨M, hM⟩ : ∃ M, M = lst n := ⟨_, rfl⟩
  rw [← hM] at e3 hlt
  have HM := Lib.hid hM
  clear hl hM
  generalize (A64 - n) % n = r at *
  generalize A64 - n = N at *
  have hn : ((n : Int) == 0) = false := by rw [beq_eq_false_iff_ne]; omega
  unfold bl at hV
  have HN := Lib.hid (And.intro h0 h1)
  go_enter Tryd.func28, Tryd.ntmps28
  go_wp2_with fail
  go_loopw [13] (fun s13 wr => ∃ (i j : Nat), i ≤ 64 ∧ s13 = .int .i64 (i : Int) ∧ Hid (Lv wr p a j) ∧ Hid (Mv w [p] wr) ∧ Hid (trv a n (64 - i) j = (V, E, k'))) (fun s13 _ => 64 - (intOf s13).toNat)
  case atStart => exact ⟨0, k, by omega, rfl, Lib.hid hL, Lib.hid (Mv.refl _ _), hV⟩
  case round =>
    obtain ⟨i, j, hi, rfl, HL, HM2, HT⟩ := hrel
    by_cases hlt64 : i < 64
    · have ht := HT.out
      rw [show 64 - i = (64 - (i + 1)) + 1 by omega] at ht
      obtain ⟨v, hv⟩ : ∃ v, v = vl a (j + 1) := ⟨_, rfl⟩
      have cn := fun w h => next_any p a j v ha (Lib.hid hv) w h
      have hvl : v < A64 := by rw [hv]; exact vl_lt ha _
      have hi1 : (i : Int) < 64 := by omega
      by_cases hc : v ≤ M
      · have t : ((v : Int) ≤ (M : Int)) := by omega
        rw [trv_yes (by rw [← hv, ← HM.out]; exact hc), ← hv] at ht
        simp only [Prod.mk.injEq] at ht
        obtain ⟨rfl, rfl, rfl⟩ := ht
        have e5 : (v : Int) % (n : Int) = ((v % n : Nat) : Int) := (Int.natCast_emod _ _).symm
        have h5 : v % n < n := Nat.mod_lt _ HN.out.1
        have e6 : IntKind.i64.wrap ((v % n : Nat) : Int) = ((v % n : Nat) : Int) := IntWalk.i64_in _ (by have := HN.out.2; omega)
        clear HT hv hc hV hL h0 h1
        generalize v % n = V at *
        go_wp2_with (go_at_call 13; (refine (cn _ HL.out).mono ?_); rintro e w1 ⟨rfl, L1, M1⟩)
        go_ret2
        exact ⟨rfl, L1, HM2.out.on' M1⟩
      · have t : decide ((v : Int) ≤ (M : Int)) = false := decide_eq_false (by omega)
        have t' : ¬ ((v : Int) ≤ (M : Int)) := by omega
        rw [trv_no (by rw [← hv, ← HM.out]; exact hc)] at ht
        have HT2 := Lib.hid ht
        clear HT ht hv hc hV hL h0 h1
        go_wp2_with (go_at_call 13; (refine (cn _ HL.out).mono ?_); rintro e w1 ⟨rfl, L1, M1⟩)
        go_roundw
        case rel => exact ⟨i + 1, j + 1, by omega, by go_num, Lib.hid L1, Lib.hid (HM2.out.on' M1), HT2⟩
        case measure => simp [intOf]; omega
    · have ht := HT.out
      rw [show 64 - i = 0 by omega] at ht
      simp only [trv, Prod.mk.injEq] at ht
      obtain ⟨rfl, rfl, rfl⟩ := ht
      have hi1 : ¬ (i : Int) < 64 := by omega
      clear HT hV hL h0 h1
      go_wp2_with fail
      go_ret2
      exact ⟨rfl, HL.out, HM2.out⟩
set_option maxRecDepth 10000 in
set_option maxHeartbeats 400000 in
/-- Below where n is not from 1 to 2^31 -/
theorem below_out (n : Int) (hn : n < 1 ∨ 2147483648 < n) (p : Nat) (w : World) :
    Calls Tryd.prog 18 #[.pointer (some ⟨p, 0, none⟩), .int .i64 n] w fun e w' => e = .returned (.tuple #[.int .i64 0, .int .i64 2]) ∧ w = w' := by
  by_cases h : n < 1
  · clear hn
    go_enter Tryd.func18, Tryd.ntmps18
    go_wp2_with fail
    go_ret2
    exact ⟨rfl, rfl⟩
  · have h2 : 2147483648 < n := by omega
    clear hn
    go_enter Tryd.func18, Tryd.ntmps18
    go_wp2_with fail
    go_ret2
    exact ⟨rfl, rfl⟩
theorem below_nil (n : Int) (w : World) :
    Calls Tryd.prog 18 #[.pointer none, .int .i64 n] w fun e w' => e = .returned (.tuple #[.int .i64 0, .int .i64 5]) ∧ w = w' := by
  go_enter Tryd.func18, Tryd.ntmps18
  go_wp2_with fail
  go_ret2
  exact ⟨rfl, rfl⟩
set_option maxRecDepth 10000 in
set_option maxHeartbeats 400000 in
theorem below_any (n : Nat) (h0 : 0 < n) (h1 : n ≤ 2147483648) (p a k V E k' : Nat) (ha : a < A64) (hV : Hid (bl a n k = (V, E, k'))) (w : World) (hL : Lv w p a k) :
    Calls Tryd.prog 18 #[.pointer (some ⟨p, 0, none⟩), .int .i64 (n : Int)] w (Nst w p a k' (.tuple #[.int .i64 (V : Int), .int .i64 (E : Int)])) := by
  have cb := fun w h => below_in n h0 h1 p a k V E k' ha hV w h
  have e1 : IntKind.u64.wrap (n : Int) = (n : Int) := by rw [IntKind.wrap_u64]; omega
  have t1 : ¬ ((n : Int) < 1) := by omega
  have t2 : ¬ (2147483648 < (n : Int)) := by omega
  have hmf : ∀ (fn : Fn) (first cap : Array Value) (w : World), (Instr.makeFunc fn first cap).run Tryd.prog w = .ok (.func fn first cap) w := fun _ _ _ _ => rfl
  go_enter Tryd.func18, Tryd.ntmps18
  go_wp2_with (go_at_call 28; (with_reducible refine (cb _ hL).mono ?_); rintro e w1 ⟨rfl, L1, M1⟩)
  go_ret2
  exact ⟨rfl, L1, M1⟩

/-! ### the reference -/
set_option maxRecDepth 10000 in
set_option maxHeartbeats 400000 in
theorem good_any (v n : Nat) (h0 : 0 < n) (h1 : n ≤ 2147483648) (hv : v < A64) (b : Bool) (hb : Hid (v ≤ lst n ↔ b = true)) (w : World) :
    Calls Tryd.prog 29 #[.int .u64 (v : Int), .int .u64 (n : Int)] w fun e w' => e = .returned (.bool b) ∧ w = w' := by
  have hn : ((n : Int) == 0) = false := by rw [beq_eq_false_iff_ne]; omega
  have e1 : (18446744073709551615 : Int) % (n : Int) = (((A64 - 1) % n : Nat) : Int) := (Int.natCast_emod (A64 - 1) n).symm
  have l1 : (A64 - 1) % n < n := Nat.mod_lt _ h0
  have e2 : IntKind.u64.wrap ((((A64 - 1) % n : Nat) : Int) + 1) = (((A64 - 1) % n + 1 : Nat) : Int) := by rw [IntKind.wrap_u64]; omega
  have e3 : (((A64 - 1) % n + 1 : Nat) : Int) % (n : Int) = ((A64 % n : Nat) : Int) := by
    rw [← rest_ref]; exact (Int.natCast_emod _ _).symm
  have l3 : A64 % n < n := Nat.mod_lt _ h0
  have hb' := hb.out
  unfold lst at hb'
  generalize (A64 - 1) % n + 1 = s at *
  generalize (A64 - 1) % n = r at *
  generalize A64 % n = q at *
  have hv' : v < 18446744073709551616 := hv
  have hA : A64 - 1 = 18446744073709551615 := rfl
  rw [hA] at hb'
  by_cases hq : q = 0
  · subst hq
    obtain rfl : b = true := hb'.1 (by omega)
    clear hb hb' hv hA
    go_enter Tryd.func29, Tryd.ntmps29
    go_wp2_with fail
    go_ret
    exact ⟨rfl, rfl⟩
  · have t : ((q : Int) == 0) = false := by rw [beq_eq_false_iff_ne]; omega
    have e4 : IntKind.u64.wrap (18446744073709551615 - (q : Int)) = ((18446744073709551615 - q : Nat) : Int) := by rw [IntKind.wrap_u64]; omega
    have e5 : decide ((v : Int) ≤ ((18446744073709551615 - q : Nat) : Int)) = b := by
      cases b with
      | true => exact decide_eq_true (by have := hb'.2 rfl; omega)
      | false => exact decide_eq_false (fun h => by have := hb'.1 (by omega); cases this)
    have e6 : decide (v ≤ 18446744073709551615 - q) = b := by
      cases b with
      | true => exact decide_eq_true (by have := hb'.2 rfl; omega)
      | false => exact decide_eq_false (fun h => by have := hb'.1 (by omega); cases this)
    clear hb hb' hv hA
    generalize 18446744073709551615 - q = z at *
    go_enter Tryd.func29, Tryd.ntmps29
    go_wp2_with fail
    go_ret
    exact ⟨rfl, rfl⟩
set_option maxRecDepth 10000 in
set_option maxHeartbeats 400000 in
theorem rbelow_out (n : Int) (hn : n < 1 ∨ 2147483648 < n) (p : Nat) (w : World) :
    Calls Tryd.prog 19 #[.pointer (some ⟨p, 0, none⟩), .int .i64 n] w fun e w' => e = .returned (.tuple #[.int .i64 0, .int .i64 2]) ∧ w = w' := by
  by_cases h : n < 1
  · clear hn
    go_enter Tryd.func19, Tryd.ntmps19
    go_wp2_with fail
    go_ret2
    exact ⟨rfl, rfl⟩
  · have h2 : 2147483648 < n := by omega
    clear hn
    go_enter Tryd.func19, Tryd.ntmps19
    go_wp2_with fail
    go_ret2
    exact ⟨rfl, rfl⟩
set_option maxRecDepth 10000 in
set_option maxHeartbeats 1000000 in
theorem rbelow_any (n : Nat) (h0 : 0 < n) (h1 : n ≤ 2147483648) (p a k V E k' : Nat) (ha : a < A64) (hV : Hid (bl a n k = (V, E, k'))) (w : World) (hL : Lv w p a k) :
    Calls Tryd.prog 19 #[.pointer (some ⟨p, 0, none⟩), .int .i64 (n : Int)] w (Nst w p a k' (.tuple #[.int .i64 (V : Int), .int .i64 (E : Int)])) := by
  have e1 : IntKind.u64.wrap (n : Int) = (n : Int) := by rw [IntKind.wrap_u64]; omega
  have hn : ((n : Int) == 0) = false := by rw [beq_eq_false_iff_ne]; omega
  have t1 : ¬ ((n : Int) < 1) := by omega
  have t2 : ¬ (2147483648 < (n : Int)) := by omega
  have cg := fun v b hv hb w => good_any v n h0 h1 hv b hb w
  unfold bl at hV
  have HN := Lib.hid (And.intro h0 h1)
  clear h0 h1
  go_enter Tryd.func19, Tryd.ntmps19
  go_wp2_with fail
  go_loopw [6] (fun s13 wr => ∃ (i j : Nat), i ≤ 64 ∧ s13 = .int .i64 (i : Int) ∧ Hid (Lv wr p a j) ∧ Hid (Mv w [p] wr) ∧ Hid (trv a n (64 - i) j = (V, E, k'))) (fun s13 _ => 64 - (intOf s13).toNat)
  case atStart => exact ⟨0, k, by omega, rfl, Lib.hid hL, Lib.hid (Mv.refl _ _), hV⟩
  case round =>
    obtain ⟨i, j, hi, rfl, HL, HM2, HT⟩ := hrel
    by_cases hlt64 : i < 64
    · have ht := HT.out
      rw [show 64 - i = (64 - (i + 1)) + 1 by omega] at ht
      obtain ⟨v, hv⟩ : ∃ v, v = vl a (j + 1) := ⟨_, rfl⟩
      have cn := fun w h => rnext_any p a j v ha (Lib.hid hv) w h
      have hvl : v < A64 := by rw [hv]; exact vl_lt ha _
      have hi1 : (i : Int) < 64 := by omega
      by_cases hc : v ≤ lst n
      · have cg' := fun w => cg v true hvl (Lib.hid ⟨fun _ => rfl, fun _ => hc⟩) w
        rw [trv_yes (by rw [← hv]; exact hc), ← hv] at ht
        simp only [Prod.mk.injEq] at ht
        obtain ⟨rfl, rfl, rfl⟩ := ht
        have e5 : (v : Int) % (n : Int) = ((v % n : Nat) : Int) := (Int.natCast_emod _ _).symm
        have h5 : v % n < n := Nat.mod_lt _ HN.out.1
        have e6 : IntKind.i64.wrap ((v % n : Nat) : Int) = ((v % n : Nat) : Int) := IntWalk.i64_in _ (by have := HN.out.2; omega)
        clear HT hv hc hV hL cg
        generalize v % n = V at *
        go_wp2_with (first
          | (go_at_call 14; (refine (cn _ HL.out).mono ?_); rintro e w1 ⟨rfl, L1, M1⟩)
          | (go_at_call 29; (with_reducible refine (cg' _).mono ?_); rintro e w' ⟨rfl, rfl⟩))
        go_ret2
        exact ⟨rfl, L1, HM2.out.on' M1⟩
      · have cg' := fun w => cg v false hvl (Lib.hid ⟨fun h => absurd h hc, fun h => Bool.noConfusion h⟩) w
        rw [trv_no (by rw [← hv]; exact hc)] at ht
        have HT2 := Lib.hid ht
        clear HT ht hv hc hV hL cg
        go_wp2_with (first
          | (go_at_call 14; (refine (cn _ HL.out).mono ?_); rintro e w1 ⟨rfl, L1, M1⟩)
          | (go_at_call 29; (with_reducible refine (cg' _).mono ?_); rintro e w' ⟨rfl, rfl⟩))
        go_roundw
        case rel => exact ⟨i + 1, j + 1, by omega, by go_num, Lib.hid L1, Lib.hid (HM2.out.on' M1), HT2⟩
        case measure => simp [intOf]; omega
    · have ht := HT.out
      rw [show 64 - i = 0 by omega] at ht
      simp only [trv, Prod.mk.injEq] at ht
      obtain ⟨rfl, rfl, rfl⟩ := ht
      have hi1 : ¬ (i : Int) < 64 := by omega
      clear HT hV hL
      go_wp2_with fail
      go_ret2
      exact ⟨rfl, HL.out, HM2.out⟩
end Go.Proofs.YtikhhceoonfhcaaDoor.stB

/-
  Contracts of the program's zigzag, unzigzag, varint.
-/
import Derived.Test.YtpmmddemeiljjaaWrB
import Derived.Laws.BitsLemmas
import Derived.Deep.DeepCutAuto
namespace Go.Proofs.Ytpmmddemeiljjaa.wrPa
open Go.RowKit
open Go.Proofs.Ytpmmddemeiljjaa.dgM Go.Proofs.Ytpmmddemeiljjaa.wrM Go.Proofs.Ytpmmddemeiljjaa.wrO Go.Proofs.Ytpmmddemeiljjaa.wrA Go.Proofs.Ytpmmddemeiljjaa.wrB
set_option linter.unusedVariables false

/-! ### zigzag -/
theorem zig_any (x : Int) (R : Nat) (h0 : -9223372036854775808 ≤ x) (h1 : x ≤ 9223372036854775807) (HR : Hid (R = zz x)) (w : World) :
    Calls Try.prog 59 #[.int .i64 x] w fun e w' => e = .returned (.int .u64 (R : Int)) ∧ w = w' := by
  by_cases h : x < 0
  · have hR : R = 2 * (-(x + 1)).toNat + 1 := by rw [HR.out]; exact if_pos h
    obtain ⟨n, hn⟩ : ∃ n : Nat, -(x + 1) = (n : Int) := ⟨(-(x + 1)).toNat, by omega⟩
    rw [hn, Int.toNat_natCast] at hR
    have e1 : -(x + 1) = (n : Int) := hn
    have e2 : IntKind.u64.wrap ((n : Int) * 2) = (n : Int) * 2 := by rw [IntKind.wrap_u64]; omega
    have e3 : (n : Int) * 2 + 1 = (R : Int) := by omega
    have b : n ≤ 9223372036854775807 := by omega
    have bR : R ≤ 18446744073709551615 := by omega
    clear HR hR hn
    go_enter Try.func59, Try.ntmps59
    go_wp2_with fail
    go_ret
    exact ⟨rfl, rfl⟩
  · have hR : R = 2 * x.toNat := by rw [HR.out]; exact if_neg h
    obtain ⟨n, rfl⟩ := Int.eq_ofNat_of_zero_le (show 0 ≤ x by omega)
    have e3 : (n : Int) * 2 = (R : Int) := by omega
    have bR : R ≤ 18446744073709551615 := by omega
    clear HR hR
    go_enter Try.func59, Try.ntmps59
    go_wp2_with fail
    go_ret
    exact ⟨rfl, rfl⟩
theorem unzig_any (u : Nat) (R : Int) (hu : u < A64) (HR : Hid (R = sg u)) (w : World) :
    Calls Try.prog 48 #[.int .u64 (u : Int)] w fun e w' => e = .returned (.int .i64 R) ∧ w = w' := by
  have hu' : u < 18446744073709551616 := hu
  have hR : R = if u % 2 = 1 then -((u / 2 : Nat) : Int) - 1 else ((u / 2 : Nat) : Int) := HR.out
  have e2 : (u : Int) / 2 = ((u / 2 : Nat) : Int) := by omega
  have bh : u / 2 ≤ 9223372036854775807 := by omega
  by_cases h : u % 2 = 1
  · rw [if_pos h] at hR
    have t : ((u : Int) % 2 == 1) = true := by rw [beq_iff_eq]; omega
    generalize u / 2 = n at *
    subst hR
    clear HR h hu
    go_enter Try.func48, Try.ntmps48
    go_wp2_with fail
    go_ret
    exact ⟨rfl, rfl⟩
  · rw [if_neg h] at hR
    have t : ((u : Int) % 2 == 1) = false := by rw [beq_eq_false_iff_ne]; omega
    generalize u / 2 = n at *
    subst hR
    clear HR h hu
    go_enter Try.func48, Try.ntmps48
    go_wp2_with fail
    go_ret
    exact ⟨rfl, rfl⟩

/-! ### bits -/
theorem wraps_u64 (n : Int) (h₀ : 0 ≤ n) (h₁ : n < 2 ^ 64) : IntKind.u64.wrap n = n := by rw [IntKind.wrap_u64]; omega
theorem and7 (y : Nat) (h : y < 256) : bits .and .u8 (y : Int) 127 = ((y % 128 : Nat) : Int) := by
  have := bits_mask .u8 8 (by decide) wraps_u8 7 (by decide) (y : Int) (by omega) (by omega)
  rw [show ((127 : Int)) = 2 ^ 7 - 1 by decide, this]; omega
theorem or7 (y : Nat) (h : y < 128) : bits .or .u8 (y : Int) 128 = ((y + 128 : Nat) : Int) := by
  have h1 : bits .or .u8 (y : Int) 128 = bits .or .u8 128 (y : Int) := by
    have a := (bits_nat .u8 8 (by decide) wraps_u8 y 128 (by omega) (by omega)).2
    have b := (bits_nat .u8 8 (by decide) wraps_u8 128 y (by omega) (by omega)).2
    have a' : bits .or .u8 (y : Int) 128 = ((y ||| 128 : Nat) : Int) := a
    have b' : bits .or .u8 128 (y : Int) = ((128 ||| y : Nat) : Int) := b
    rw [a', b', Nat.or_comm]
  rw [h1, bits_join .u8 8 (by decide) wraps_u8 7 128 (y : Int) (by omega) (by decide) (by decide) (by omega) (by omega) (by omega)]
  omega
theorem and7u (x : Nat) (h : x < A64) : bits .and .u64 (x : Int) 127 = ((x % 128 : Nat) : Int) := by
  have h' : x < 18446744073709551616 := h
  have := bits_mask .u64 64 (by decide) wraps_u64 7 (by decide) (x : Int) (by omega) (by omega)
  rw [show ((127 : Int)) = 2 ^ 7 - 1 by decide, this]; omega
theorem and8u (x : Nat) (h : x < A64) : bits .and .u64 (x : Int) 255 = ((x % 256 : Nat) : Int) := by
  have h' : x < 18446744073709551616 := h
  have := bits_mask .u64 64 (by decide) wraps_u64 8 (by decide) (x : Int) (by omega) (by omega)
  rw [show ((255 : Int)) = 2 ^ 8 - 1 by decide, this]; omega
theorem or_u64 (a b : Nat) (ha : a < A64) (hb : b < A64) : bits .or .u64 (a : Int) (b : Int) = ((a ||| b : Nat) : Int) :=
  (bits_nat .u64 64 (by decide) wraps_u64 a b ha hb).2
theorem p128 (i : Nat) : 128 ^ i = 2 ^ (i * 7) := by rw [Nat.mul_comm, Nat.pow_mul]
theorem shl_eq (i y : Nat) : (y : Int) % 128 * 2 ^ (i * 7) = ((128 ^ i * (y % 128) : Nat) : Int) := by
  rw [p128, Int.natCast_mul, Int.natCast_pow, Int.mul_comm]; rfl
/-- a group is put in front of the lower ones -/
theorem or_group {i x y : Nat} (hx : x < 128 ^ i) (hs : x + 128 ^ i * y < A64) : bits .or .u64 (x : Int) ((128 ^ i * y : Nat) : Int) = ((x + 128 ^ i * y : Nat) : Int) := by
  rw [or_u64 _ _ (by omega) (by omega)]
  have h := Nat.two_pow_add_eq_or_of_lt (i := i * 7) (b := x) (by rw [← p128]; exact hx) y
  rw [← p128] at h
  rw [Nat.or_comm, ← h, Nat.add_comm]

set_option maxRecDepth 10000 in
set_option maxHeartbeats 1000000 in
theorem varint_any (A : Option Addr) (n c : Nat) (l : List UInt8) (hn : Hid (l.length = n)) (hN : n ≤ 140737488355328)
    (V N E : Nat) (HR : Hid ((V, N, E) = tr l)) (w : World) (hI : Cb w A l) :
    Calls Try.prog 50 #[.slice A n c] w fun e w' => e = .returned (.tuple #[.int .u64 (V : Int), .int .i64 (N : Int), .int .i64 (E : Int)]) ∧ w = w' := by
  have HT : Hid ((V, N, E) = cmb 0 0 (tk 10 (l.drop 0))) := Lib.hid (by rw [cmb_zero _ (tk_err 10 _)]; exact HR.out)
  clear HR
  go_enter Try.func50, Try.ntmps50
  go_wp2_with fail
  go_loop [5, 10] (fun s5 s10 => ∃ i x : Nat, i ≤ 9 ∧ i ≤ n ∧ s5 = .int .u64 (x : Int) ∧ s10 = .int .i64 (i : Int) ∧ Hid (x < 128 ^ i) ∧ Hid ((V, N, E) = cmb i x (tk (10 - i) (l.drop i)))) (fun _ s10 => n - (intOf s10).toNat)
  case atStart => exact ⟨0, 0, by omega, by omega, rfl, rfl, Lib.hid (by omega), HT⟩
  case round =>
    obtain ⟨i, x, hi, hin, rfl, rfl, HU, HV⟩ := hrel
    have bU : 128 ^ i ≤ 9223372036854775808 := pow_le hi
    have bX : x < 9223372036854775808 := Nat.lt_of_lt_of_le HU.out bU
    by_cases hlt : i < n
    · obtain ⟨b, off, rfl, hc⟩ := hI.at_ (k := i) (by rw [hn.out]; exact hlt)
      have hd := drop_bat (l := l) (k := i) (by rw [hn.out]; exact hlt)
      have hf : 10 - i = (9 - i) + 1 := by omega
      have HV2 := HV.out
      rw [hd, hf] at HV2
      have hu8 := (bat l i).toNat_lt
      generalize bat l i = y at *
      by_cases h9 : i = 9 ∧ 1 < y.toNat
      · rw [tk_over (by omega) h9.2, cmb_no (by omega)] at HV2
        simp only [Prod.mk.injEq] at HV2
        obtain ⟨rfl, rfl, rfl⟩ := HV2
        obtain ⟨rfl, h1⟩ := h9
        have t2 : (1 : Int) < (y.toNat : Int) := by omega
        clear hd HV HU HT
        go_wp2_with fail
        go_ret3
        exact ⟨rfl, rfl⟩
      have h9' : ¬ (9 - i = 0 ∧ 1 < y.toNat) := fun h => h9 ⟨by omega, h.2⟩
      have q9 : ((i : Int) == 9) = false ∨ ((i : Int) == 9) = true ∧ ¬ (1 : Int) < (y.toNat : Int) := by
        by_cases e : i = 9
        · exact .inr ⟨by rw [beq_iff_eq]; omega, by omega⟩
        · exact .inl (by rw [beq_eq_false_iff_ne]; omega)
      have a7 := and7 y.toNat hu8
      -- what is put in front
      have hy9 : i = 9 → y.toNat ≤ 1 := fun e => by
        rcases q9 with q | ⟨q, q2⟩
        · rw [e] at q; cases q
        · omega
      obtain ⟨g, hg⟩ : ∃ g, g = 128 ^ i * (y.toNat % 128) := ⟨_, rfl⟩
      have hgb : x + g < A64 := by
        show x + g < 18446744073709551616
        by_cases e : i = 9
        · have : 128 ^ i * (y.toNat % 128) ≤ 128 ^ i * 1 := Nat.mul_le_mul_left _ (by have := hy9 e; omega)
          omega
        · have h2 : 128 ^ i ≤ 72057594037927936 := Nat.le_trans (Nat.pow_le_pow_right (by omega) (show i ≤ 8 by omega)) (by decide)
          have : 128 ^ i * (y.toNat % 128) ≤ 128 ^ i * 127 := Nat.mul_le_mul_left _ (by omega)
          omega
      have hor : bits .or .u64 (x : Int) (g : Int) = ((x + g : Nat) : Int) := by
        rw [hg]; exact or_group HU.out (by rw [← hg]; exact hgb)
      have hsh : IntKind.u64.wrap ((y.toNat : Int) % 128 * 2 ^ (i * 7)) = (g : Int) := by
        have e : (y.toNat : Int) % 128 * 2 ^ (i * 7) = (g : Int) := by rw [hg, shl_eq]
        rw [e]
        exact wraps_u64 _ (by omega) (by have h : x + g < 18446744073709551616 := hgb; omega)
      have hgb' : x + g < 18446744073709551616 := hgb
      have q9' : ((i : Int) == 9) = false ∨ ((i : Int) == 9) = true := by
        rcases q9 with q | ⟨q, _⟩
        · exact .inl q
        · exact .inr q
      by_cases h1 : y.toNat < 128
      · have t4 : (y.toNat : Int) < 128 := by omega
        by_cases h0 : y.toNat = 0 ∧ 0 < i
        · rw [tk_zero h9' h0.1 (by omega), cmb_no (by omega)] at HV2
          simp only [Prod.mk.injEq] at HV2
          obtain ⟨rfl, rfl, rfl⟩ := HV2
          have t2 : ((y.toNat : Int) == 0) = true := by rw [beq_iff_eq]; omega
          have t3 : (0 : Int) < (i : Int) := by omega
          have t5 : ¬ (1 : Int) < (y.toNat : Int) := by omega
          clear hd HV HU HT h9 h9' q9 hg hgb hi h1 h0 hy9
          rcases q9' with q | q
          · go_wp2_with fail
            go_ret3
            exact ⟨rfl, rfl⟩
          · go_wp2_with fail
            go_ret3
            exact ⟨rfl, rfl⟩
        · have h0' : ¬ (y.toNat = 0 ∧ 9 - i < 9) := fun h => h0 ⟨h.1, by omega⟩
          have q0 : ((y.toNat : Int) == 0) = false ∨ ((y.toNat : Int) == 0) = true ∧ ¬ (0 : Int) < (i : Int) := by
            by_cases e : y.toNat = 0
            · exact .inr ⟨by rw [beq_iff_eq]; omega, by omega⟩
            · exact .inl (by rw [beq_eq_false_iff_ne]; omega)
          rw [tk_last h9' h0' h1, cmb_ok] at HV2
          have hg2 : 128 ^ i * y.toNat = g := by rw [hg, Nat.mod_eq_of_lt h1]
          rw [hg2] at HV2
          simp only [Prod.mk.injEq] at HV2
          obtain ⟨hV2, hN2, rfl⟩ := HV2
          have e4 : (i : Int) + 1 = (N : Int) := by omega
          have bN : N ≤ 20 := by omega
          rw [← hV2] at hor
          have bs : V < 18446744073709551616 := by omega
          have r : Ending.returned (.tuple #[.int .u64 (V : Int), .int .i64 (N : Int), .int .i64 ((0 : Nat) : Int)]) = .returned (.tuple #[.int .u64 (V : Int), .int .i64 (N : Int), .int .i64 0]) := rfl
          clear hd HV HU HT h9 h9' hg hgb hi h1 h0 h0' hg2 hV2 hN2 q9' hy9
          rcases q9 with q | ⟨q, q2⟩ <;> rcases q0 with z | ⟨z, z2⟩
          all_goals
            go_wp2_with fail
            go_ret3
            exact ⟨rfl, rfl⟩
      · have hi9 : i < 9 := by
          have := hy9
          omega
        have t4 : ¬ (y.toNat : Int) < 128 := by omega
        have q : ((i : Int) == 9) = false := by rw [beq_eq_false_iff_ne]; omega
        rw [cmb_more h9' h1, show y.toNat - 128 = y.toNat % 128 by omega, Nat.mul_comm (y.toNat % 128), ← hg] at HV2
        have HU2 : Hid (x + g < 128 ^ (i + 1)) := Lib.hid (by
          have : 128 ^ i * (y.toNat % 128) ≤ 128 ^ i * 127 := Nat.mul_le_mul_left _ (by omega)
          have := HU.out
          rw [Nat.pow_succ]; omega)
        have HV3 : Hid ((V, N, E) = cmb (i + 1) (x + g) (tk (10 - (i + 1)) (l.drop (i + 1)))) := Lib.hid (by
          rw [HV2]
          have : 9 - i = 10 - (i + 1) := by omega
          rw [this])
        obtain ⟨s, hs⟩ : ∃ s, s = x + g := ⟨_, rfl⟩
        rw [← hs] at hor HU2 HV3
        have bs : s < 18446744073709551616 := by omega
        have bi : i + 1 ≤ 9 := by omega
        have bi2 : i + 1 ≤ n := by omega
        clear hd HV HV2 HU HT h9 h9' q9 q9' hg hgb hs h1 hi9 bU hy9
        go_wp2_with fail
        go_round
        case rel => exact ⟨i + 1, s, bi, bi2, rfl, by go_num, HU2, HV3⟩
        case measure => simp [intOf]; omega
    · have hd : l.drop i = [] := List.drop_eq_nil_of_le (by rw [hn.out]; omega)
      have HV2 := HV.out
      rw [hd, show 10 - i = (9 - i) + 1 by omega, tk_nil, cmb_no (by omega)] at HV2
      simp only [Prod.mk.injEq] at HV2
      obtain ⟨rfl, rfl, rfl⟩ := HV2
      clear hd HV HU HT
      go_wp2_with fail
      go_ret3
      exact ⟨rfl, rfl⟩
end Go.Proofs.Ytpmmddemeiljjaa.wrPa

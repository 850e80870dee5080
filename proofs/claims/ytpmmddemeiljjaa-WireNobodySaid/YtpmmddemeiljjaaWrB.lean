/-
  Contract of the reference's Take: a varint is read at an offset.
-/
import Derived.Test.YtpmmddemeiljjaaWrA
namespace Go.Proofs.Ytpmmddemeiljjaa.wrB
open Go.RowKit
open Go.Proofs.Ytpmmddemeiljjaa.dgM Go.Proofs.Ytpmmddemeiljjaa.wrM Go.Proofs.Ytpmmddemeiljjaa.wrO Go.Proofs.Ytpmmddemeiljjaa.wrA
set_option linter.unusedVariables false

/-- i bytes with the number x in front of what is read -/
def cmb (i x : Nat) (r : Nat × Nat × Nat) : Nat × Nat × Nat := if r.2.2 = 0 then (x + 128 ^ i * r.1, r.2.1 + i, 0) else (0, 0, r.2.2)
theorem cmb_zero (r : Nat × Nat × Nat) (h : r.2.2 ≠ 0 → r.1 = 0 ∧ r.2.1 = 0) : cmb 0 0 r = r := by
  unfold cmb
  by_cases e : r.2.2 = 0
  · rw [if_pos e, Nat.pow_zero, Nat.one_mul, Nat.zero_add]
    obtain ⟨a, b, c⟩ := r
    simp only at e
    rw [e]; rfl
  · rw [if_neg e]
    obtain ⟨h1, h2⟩ := h e
    obtain ⟨a, b, c⟩ := r
    simp only at h1 h2
    rw [h1, h2]
theorem cmb_ok {i x a b : Nat} : cmb i x (a, b, 0) = (x + 128 ^ i * a, b + i, 0) := if_pos rfl
theorem cmb_no {i x a b e : Nat} (h : e ≠ 0) : cmb i x (a, b, e) = (0, 0, e) := if_neg h
theorem cmb_more {i x f : Nat} {c : UInt8} {l : List UInt8} (h : ¬ (f = 0 ∧ 1 < c.toNat)) (h1 : ¬ c.toNat < 128) :
    cmb i x (tk (f + 1) (c :: l)) = cmb (i + 1) (x + (c.toNat - 128) * 128 ^ i) (tk f l) := by
  rw [tk_more h h1]
  by_cases e : (tk f l).2.2 = 0
  · rw [if_pos e]
    generalize tk f l = r at *
    obtain ⟨a, b, d⟩ := r
    simp only at e
    subst e
    rw [cmb_ok, cmb_ok]
    have : x + 128 ^ i * (c.toNat - 128 + 128 * a) = x + (c.toNat - 128) * 128 ^ i + 128 ^ (i + 1) * a := by
      rw [Nat.mul_add, Nat.pow_succ, Nat.mul_comm (c.toNat - 128), ← Nat.mul_assoc]; omega
    rw [this, Nat.add_assoc b 1 i, Nat.add_comm 1 i]
  · rw [if_neg e]
    generalize tk f l = r at *
    obtain ⟨a, b, d⟩ := r
    simp only at e
    rw [cmb_no e, cmb_no e]
/-- a power of 128 -/
theorem pow_le {i : Nat} (h : i ≤ 9) : 128 ^ i ≤ 9223372036854775808 := Nat.le_trans (Nat.pow_le_pow_right (by omega) h) (by decide)

theorem three_ret {a b c a' b' c' : Int} (h1 : a = a') (h2 : b = b') (h3 : c = c') : Ending.returned (.tuple #[.int .u64 a, .int .i64 b, .int .i64 c]) = .returned (.tuple #[.int .u64 a', .int .i64 b', .int .i64 c']) := by rw [h1, h2, h3]
set_option maxRecDepth 10000 in
set_option maxHeartbeats 1000000 in
theorem rtake_any (A : Option Addr) (n c k : Nat) (l : List UInt8) (hn : Hid (l.length = n)) (hk : k ≤ n) (hN : n ≤ 140737488355328)
    (V N E : Nat) (HR : Hid (V = (tr (l.drop k)).1 ∧ N = (if (tr (l.drop k)).2.2 = 0 then k + (tr (l.drop k)).2.1 else 0) ∧ E = (tr (l.drop k)).2.2)) (w : World) (hI : Cb w A l) :
    Calls Try.prog 51 #[.slice A n c, .int .i64 (k : Int)] w fun e w' => e = .returned (.tuple #[.int .u64 (V : Int), .int .i64 (N : Int), .int .i64 (E : Int)]) ∧ w = w' := by
  have HT : Hid (tr (l.drop k) = cmb 0 0 (tk 10 (l.drop (k + 0)))) := Lib.hid (by rw [cmb_zero _ (tk_err 10 _)]; rfl)
  -- what is returned where the reading ends
  have HF : Hid (∀ a b d, tr (l.drop k) = (a, b, d) → (d = 0 → V = a ∧ N = k + b ∧ E = 0) ∧ (d ≠ 0 → a = 0 → V = 0 ∧ N = 0 ∧ E = d)) := Lib.hid fun a b d h => by
    obtain ⟨h1, h2, h3⟩ := HR.out
    rw [h] at h1 h2 h3
    simp only at h1 h2 h3
    constructor
    · intro e; rw [if_pos e] at h2; exact ⟨h1, h2, by rw [h3, e]⟩
    · intro e z; rw [if_neg e] at h2; exact ⟨by rw [h1, z], h2, h3⟩
  clear HR
  go_enter Try.func51, Try.ntmps51
  go_wp2_with fail
  go_loop [7, 8, 9, 10] (fun s7 s8 s9 s10 => ∃ i x u : Nat, i ≤ 9 ∧ s7 = .int .u64 (x : Int) ∧ s8 = .int .u64 (u : Int) ∧ s9 = .int .i64 (i : Int) ∧ Hid (u = 128 ^ i ∧ x < u) ∧ Hid (tr (l.drop k) = cmb i x (tk (10 - i) (l.drop (k + i))))) (fun _ _ s9 _ => 10 - (intOf s9).toNat)
  case atStart => exact ⟨0, 0, 1, by omega, rfl, rfl, rfl, Lib.hid ⟨rfl, by omega⟩, HT⟩
  case round =>
    obtain ⟨i, x, u, hi, rfl, rfl, rfl, HU, HV⟩ := hrel
    have bU : u ≤ 9223372036854775808 := by rw [HU.out.1]; exact pow_le hi
    have bX : x < u := HU.out.2
    by_cases hlt : k + i < n
    · obtain ⟨b, off, rfl, hc⟩ := hI.at_ (k := k + i) (by rw [hn.out]; exact hlt)
      have hd := drop_bat (l := l) (k := k + i) (by rw [hn.out]; exact hlt)
      have hf : 10 - i = (9 - i) + 1 := by omega
      have HV2 := HV.out
      rw [hd, hf] at HV2
      have hu8 := (bat l (k + i)).toNat_lt
      have t1 : ((k + i : Nat) : Int) < (n : Int) := by omega
      have e0 : (k : Int) + (i : Int) = ((k + i : Nat) : Int) := by omega
      generalize bat l (k + i) = y at *
      obtain ⟨m, hm⟩ : ∃ m, m = k + i := ⟨_, rfl⟩
      have t0 : (0 : Int) ≤ (m : Int) := by omega
      have hm1 : k + (i + 1) = m + 1 := by omega
      rw [← hm] at e0 hc t1 hlt
      by_cases h9 : i = 9 ∧ 1 < y.toNat
      · rw [tk_over (by omega) h9.2, cmb_no (by omega)] at HV2
        obtain ⟨rfl, rfl, rfl⟩ := (HF.out _ _ _ HV2).2 (by omega) rfl
        obtain ⟨rfl, h1⟩ := h9
        have e0' : (k : Int) + 9 = (m : Int) := by omega
        have t2 : (1 : Int) < (y.toNat : Int) := by omega
        clear hd HV2 HV HF HU HT hm hm1
        go_wp2_with fail
        go_ret3
        exact ⟨rfl, rfl⟩
      have h9' : ¬ (9 - i = 0 ∧ 1 < y.toNat) := fun h => h9 ⟨by omega, h.2⟩
      have q9 : ((i : Int) == 9) = false ∨ ((i : Int) == 9) = true ∧ ¬ (1 : Int) < (y.toNat : Int) := by
        by_cases e : i = 9
        · exact .inr ⟨by rw [beq_iff_eq]; omega, by omega⟩
        · exact .inl (by rw [beq_eq_false_iff_ne]; omega)
      by_cases h0 : y.toNat = 0 ∧ 0 < i
      · rw [tk_zero h9' h0.1 (by omega), cmb_no (by omega)] at HV2
        obtain ⟨rfl, rfl, rfl⟩ := (HF.out _ _ _ HV2).2 (by omega) rfl
        have t2 : ((y.toNat : Int) == 0) = true := by rw [beq_iff_eq]; omega
        have t3 : (0 : Int) < (i : Int) := by omega
        have hc0 : w.cell? ⟨b, off + m, none⟩ = some (.int .u8 0) := by rw [hc]; show some (Value.int .u8 (y.toNat : Int)) = _; rw [h0.1]; rfl
        have q9' : ((i : Int) == 9) = false ∨ ((i : Int) == 9) = true := by
          rcases q9 with q | ⟨q, _⟩
          · exact .inl q
          · exact .inr q
        clear hd HV2 HV HF HU HT h9 h9' h0 hc t2 q9 hu8 hm hm1
        rcases q9' with q | q
        · go_wp2_with fail
          go_ret3
          exact ⟨rfl, rfl⟩
        · go_wp2_with fail
          go_ret3
          exact ⟨rfl, rfl⟩
      have q0 : ((y.toNat : Int) == 0) = false ∨ ((y.toNat : Int) == 0) = true ∧ ¬ (0 : Int) < (i : Int) := by
        by_cases e : y.toNat = 0
        · exact .inr ⟨by rw [beq_iff_eq]; omega, by omega⟩
        · exact .inl (by rw [beq_eq_false_iff_ne]; omega)
      have h0' : ¬ (y.toNat = 0 ∧ 9 - i < 9) := fun h => h0 ⟨h.1, by omega⟩
      by_cases h1 : y.toNat < 128
      · rw [tk_last h9' h0' h1, cmb_ok, ← HU.out.1] at HV2
        obtain ⟨hV, hN2, rfl⟩ := (HF.out _ _ _ HV2).1 rfl
        have m1 : u * y.toNat ≤ 9223372036854775808 ∨ i < 9 := by
          by_cases e : i = 9
          · left
            have : u * y.toNat ≤ u * 1 := Nat.mul_le_mul_left _ (by omega)
            omega
          · right; omega
        have m2 : x + u * y.toNat < 18446744073709551616 := by
          rcases m1 with m | m
          · omega
          · have : u * y.toNat ≤ u * 127 := Nat.mul_le_mul_left _ (by omega)
            have hu2 : u ≤ 72057594037927936 := by
              rw [HU.out.1]
              exact Nat.le_trans (Nat.pow_le_pow_right (by omega) (show i ≤ 8 by omega)) (by decide)
            omega
        have e1 : (y.toNat : Int) % 128 = (y.toNat : Int) := by omega
        have m3 : u * y.toNat < 18446744073709551616 := by omega
        have e2 : (y.toNat : Int) * (u : Int) = ((u * y.toNat : Nat) : Int) := by rw [Nat.mul_comm, Int.natCast_mul]
        have e3 : (x : Int) + ((u * y.toNat : Nat) : Int) = (V : Int) := by omega
        have e4 : (m : Int) + 1 = (N : Int) := by omega
        have t4 : (y.toNat : Int) < 128 := by omega
        have bN : N ≤ 140737488355338 := by omega
        have bV : V < 18446744073709551616 := by omega
        clear hd HV2 HV HF HU HT h9 h9' h0 h0' m1 hV hN2 hm hm1
        generalize u * y.toNat = p at *
        have r : Ending.returned (.tuple #[.int .u64 (V : Int), .int .i64 (N : Int), .int .i64 ((0 : Nat) : Int)]) = .returned (.tuple #[.int .u64 (V : Int), .int .i64 (N : Int), .int .i64 0]) := rfl
        rcases q9 with q | ⟨q, q2⟩ <;> rcases q0 with z | ⟨z, z2⟩
        all_goals
          go_wp2_with fail
          go_ret3
          exact ⟨rfl, rfl⟩
      · have hi9 : i < 9 := by
          rcases q9 with q | ⟨q, q2⟩
          · have : i ≠ 9 := fun e => by rw [e] at q; cases q
            omega
          · omega
        have hy : 1 < y.toNat := by omega
        rw [cmb_more h9' h1, ← HU.out.1] at HV2
        have hu2 : u ≤ 72057594037927936 := by
          rw [HU.out.1]
          exact Nat.le_trans (Nat.pow_le_pow_right (by omega) (show i ≤ 8 by omega)) (by decide)
        have m1 : (y.toNat - 128) * u ≤ 127 * u := Nat.mul_le_mul_right _ (by omega)
        have e1 : (y.toNat : Int) % 128 = ((y.toNat - 128 : Nat) : Int) := by omega
        have e2 : ((y.toNat - 128 : Nat) : Int) * (u : Int) = (((y.toNat - 128) * u : Nat) : Int) := by rw [Int.natCast_mul]
        have t4 : ¬ (y.toNat : Int) < 128 := by omega
        have HU2 : Hid (u * 128 = 128 ^ (i + 1) ∧ x + (y.toNat - 128) * u < u * 128) := Lib.hid ⟨by rw [Nat.pow_succ, HU.out.1], by omega⟩
        have HV3 : Hid (tr (l.drop k) = cmb (i + 1) (x + (y.toNat - 128) * u) (tk (10 - (i + 1)) (l.drop (k + (i + 1))))) := Lib.hid (by
          rw [HV2, hm1, hm]
          have : 9 - i = 10 - (i + 1) := by omega
          rw [this])
        have bd : y.toNat - 128 ≤ 127 := by omega
        clear hd HV2 HV HF HU HT h9 h9' h0 h0' hm
        have q9' : ((i : Int) == 9) = false := by rw [beq_eq_false_iff_ne]; omega
        have q0' : ((y.toNat : Int) == 0) = false := by rw [beq_eq_false_iff_ne]; omega
        clear q9 q0
        generalize (y.toNat - 128) * u = p at *
        have e3 : (x : Int) + (p : Int) = ((x + p : Nat) : Int) := by omega
        have e4 : (u : Int) * 128 = ((u * 128 : Nat) : Int) := by omega
        obtain ⟨s, hs⟩ : ∃ s, s = x + p := ⟨_, rfl⟩
        obtain ⟨u2, hu2'⟩ : ∃ s, s = u * 128 := ⟨_, rfl⟩
        rw [← hs] at e3 HU2 HV3
        rw [← hu2'] at e4 HU2
        have bs : s < 18446744073709551616 := by omega
        have bu2 : u2 < 18446744073709551616 := by omega
        clear hs hu2'
        generalize y.toNat - 128 = d at *
        go_wp2_with fail
        go_round
        case rel => exact ⟨i + 1, s, u2, by omega, rfl, rfl, by go_num, HU2, HV3⟩
        case measure => simp [intOf]; omega
    · have hd : l.drop (k + i) = [] := List.drop_eq_nil_of_le (by rw [hn.out]; omega)
      have HV2 := HV.out
      rw [hd, show 10 - i = (9 - i) + 1 by omega, tk_nil, cmb_no (by omega)] at HV2
      obtain ⟨rfl, rfl, rfl⟩ := (HF.out _ _ _ HV2).2 (by omega) rfl
      have t1 : ¬ ((k : Int) + (i : Int) < (n : Int)) := by omega
      clear hd HV2 HV HF HU HT
      go_wp2_with fail
      go_ret3
      exact ⟨rfl, rfl⟩
end Go.Proofs.Ytpmmddemeiljjaa.wrB

/-
  The laws of layer 1: each call answers true, for every argument; new memory and draws alone.
-/
import Derived.Test.YtfalonklnfekhaaDoorNumW
import Derived.Lib.ItoaLen
namespace Go.Proofs.YtfalonklnfekhaaDoor.numL
open Go.RowKit
open Go.Proofs.YtfalonklnfekhaaDoor.numM Go.Proofs.YtfalonklnfekhaaDoor.numA Go.Proofs.YtfalonklnfekhaaDoor.numB Go.Proofs.YtfalonklnfekhaaDoor.numD Go.Proofs.YtfalonklnfekhaaDoor.numE Go.Proofs.YtfalonklnfekhaaDoor.numF Go.Proofs.YtfalonklnfekhaaDoor.numT Go.Proofs.YtfalonklnfekhaaDoor.numS Go.Proofs.YtfalonklnfekhaaDoor.numP Go.Proofs.YtfalonklnfekhaaDoor.numG Go.Proofs.YtfalonklnfekhaaDoor.numW
set_option linter.unusedVariables false

set_option maxRecDepth 100000 in
set_option maxHeartbeats 1000000 in
theorem adds (a b : Int) (a0 : -9223372036854775808 ≤ a) (a1 : a ≤ 9223372036854775807) (b0 : -9223372036854775808 ≤ b) (b1 : b ≤ 9223372036854775807) (w : World) (h : Tab w) :
    Calls Tryd.prog 3 #[.int .i64 a, .int .i64 b] w fun e w' => e = .returned (.bool true) ∧ Below w.heap.size w w' := by
  have c1 := fun w => add_any a b a0 a1 b0 b1 w
  have c2 := fun w => sub_any a b a0 a1 b0 b1 w
  have c3 := fun w => mul_any a b a0 a1 b0 b1 w
  have d1 := fun w => radd_any a b a0 a1 b0 b1 w
  have d2 := fun w => rsub_any a b a0 a1 b0 b1 w
  have d3 := fun w => rmul_any a b a0 a1 b0 b1 w
  generalize fitV (a + b) = x1 at *
  generalize fitE (a + b) = e1 at *
  generalize fitV (a - b) = x2 at *
  generalize fitE (a - b) = e2 at *
  generalize fitV (a * b) = x3 at *
  generalize fitE (a * b) = e3 at *
  have caw := awake_any
  go_enter Tryd.func3, Tryd.ntmps3
  go_wp2_with (first | (go_at_call 12; refine (c1 _).mono ?_; rintro e w' ⟨rfl, rfl⟩) | (go_at_call 13; refine (c2 _).mono ?_; rintro e w' ⟨rfl, rfl⟩) | (go_at_call 14; refine (c3 _).mono ?_; rintro e w' ⟨rfl, rfl⟩) | (go_at_call 15; refine (d1 _).mono ?_; rintro e w' ⟨rfl, rfl⟩) | (go_at_call 16; refine (d2 _).mono ?_; rintro e w' ⟨rfl, rfl⟩) | (go_at_call 17; refine (d3 _).mono ?_; rintro e w' ⟨rfl, rfl⟩) | (go_at_call 18; refine (caw _ (by assumption)).mono ?_; rintro e w9 ⟨rfl, hb9⟩))
  go_ret
  exact ⟨rfl, hb9⟩

set_option maxRecDepth 100000 in
set_option maxHeartbeats 1600000 in
theorem inverts (a b : Int) (a0 : -9223372036854775808 ≤ a) (a1 : a ≤ 9223372036854775807) (b0 : -9223372036854775808 ≤ b) (b1 : b ≤ 9223372036854775807) (w : World) (h : Tab w) :
    Calls Tryd.prog 4 #[.int .i64 a, .int .i64 b] w fun e w' => e = .returned (.bool true) ∧ Below w.heap.size w w' := by
  have k1 := fun w => add_any a b a0 a1 b0 b1 w
  have k1b := fun w => add_any b a b0 b1 a0 a1 w
  rw [Int.add_comm b a] at k1b
  have c2 := fun w => sub_any a b a0 a1 b0 b1 w
  have k3 := fun w => mul_any a b a0 a1 b0 b1 w
  have k3b := fun w => mul_any b a b0 b1 a0 a1 w
  rw [Int.mul_comm b a] at k3b
  generalize fitV (a * b) = x3 at *
  generalize fitE (a * b) = e3 at *
  have s1 := fitV_bd (a + b)
  have s2 := fitV_bd (a - b)
  have c4 := fun w => sub_any (fitV (a + b)) b s1.1 s1.2 b0 b1 w
  have c5 := fun w => add_any (fitV (a - b)) b s2.1 s2.2 b0 b1 w
  have u1 : fitE (a + b) = 0 → fitV (fitV (a + b) - b) = a ∧ fitE (fitV (a + b) - b) = 0 := fun he => by
    rcases fitE_or (a + b) with ⟨_, f2, _⟩ | ⟨f1, _⟩
    · rw [f2, show a + b - b = a by omega]; exact ⟨fitV_in a0 a1, fitE_in a0 a1⟩
    · omega
  have u2 : fitE (a - b) = 0 → fitV (fitV (a - b) + b) = a ∧ fitE (fitV (a - b) + b) = 0 := fun he => by
    rcases fitE_or (a - b) with ⟨_, f2, _⟩ | ⟨f1, _⟩
    · rw [f2, show a - b + b = a by omega]; exact ⟨fitV_in a0 a1, fitE_in a0 a1⟩
    · omega
  have g1 : fitE (a + b) = 0 ∨ fitE (a + b) = 9 := by rcases fitE_or (a + b) with ⟨f1, _⟩ | ⟨f1, _⟩ <;> simp [f1]
  have g2 : fitE (a - b) = 0 ∨ fitE (a - b) = 9 := by rcases fitE_or (a - b) with ⟨f1, _⟩ | ⟨f1, _⟩ <;> simp [f1]
  clear s1 s2
  generalize fitV (a + b) = x1 at *
  generalize fitE (a + b) = e1 at *
  generalize fitV (a - b) = x2 at *
  generalize fitE (a - b) = e2 at *
  rcases g1 with rfl | rfl
  · obtain ⟨q1, q2⟩ := u1 rfl
    rw [q1, q2] at c4
    clear q1 q2 u1
    rcases g2 with rfl | rfl
    · obtain ⟨q1, q2⟩ := u2 rfl
      rw [q1, q2] at c5
      clear q1 q2 u2
      go_enter Tryd.func4, Tryd.ntmps4
      go_wp2_with (first | (go_at_call 12; first | ((with_reducible refine (k1 _).mono ?_); rintro e w' ⟨rfl, rfl⟩) | ((with_reducible refine (k1b _).mono ?_); rintro e w' ⟨rfl, rfl⟩) | ((with_reducible refine (c5 _).mono ?_); rintro e w' ⟨rfl, rfl⟩)) | (go_at_call 13; first | ((with_reducible refine (c2 _).mono ?_); rintro e w' ⟨rfl, rfl⟩) | ((with_reducible refine (c4 _).mono ?_); rintro e w' ⟨rfl, rfl⟩)) | (go_at_call 14; first | ((with_reducible refine (k3 _).mono ?_); rintro e w' ⟨rfl, rfl⟩) | ((with_reducible refine (k3b _).mono ?_); rintro e w' ⟨rfl, rfl⟩)) | (go_at_call 18; refine (awake_any _ h).mono ?_; rintro e w9 ⟨rfl, hb9⟩))
      go_ret
      exact ⟨rfl, hb9⟩
    · clear u2 c5
      go_enter Tryd.func4, Tryd.ntmps4
      go_wp2_with (first | (go_at_call 12; first | ((with_reducible refine (k1 _).mono ?_); rintro e w' ⟨rfl, rfl⟩) | ((with_reducible refine (k1b _).mono ?_); rintro e w' ⟨rfl, rfl⟩)) | (go_at_call 13; first | ((with_reducible refine (c2 _).mono ?_); rintro e w' ⟨rfl, rfl⟩) | ((with_reducible refine (c4 _).mono ?_); rintro e w' ⟨rfl, rfl⟩)) | (go_at_call 14; first | ((with_reducible refine (k3 _).mono ?_); rintro e w' ⟨rfl, rfl⟩) | ((with_reducible refine (k3b _).mono ?_); rintro e w' ⟨rfl, rfl⟩)) | (go_at_call 18; refine (awake_any _ h).mono ?_; rintro e w9 ⟨rfl, hb9⟩))
      go_ret
      exact ⟨rfl, hb9⟩
  · clear u1 c4
    rcases g2 with rfl | rfl
    · obtain ⟨q1, q2⟩ := u2 rfl
      rw [q1, q2] at c5
      clear q1 q2 u2
      go_enter Tryd.func4, Tryd.ntmps4
      go_wp2_with (first | (go_at_call 12; first | ((with_reducible refine (k1 _).mono ?_); rintro e w' ⟨rfl, rfl⟩) | ((with_reducible refine (k1b _).mono ?_); rintro e w' ⟨rfl, rfl⟩) | ((with_reducible refine (c5 _).mono ?_); rintro e w' ⟨rfl, rfl⟩)) | (go_at_call 13; first | ((with_reducible refine (c2 _).mono ?_); rintro e w' ⟨rfl, rfl⟩)) | (go_at_call 14; first | ((with_reducible refine (k3 _).mono ?_); rintro e w' ⟨rfl, rfl⟩) | ((with_reducible refine (k3b _).mono ?_); rintro e w' ⟨rfl, rfl⟩)) | (go_at_call 18; refine (awake_any _ h).mono ?_; rintro e w9 ⟨rfl, hb9⟩))
      go_ret
      exact ⟨rfl, hb9⟩
    · clear u2 c5
      go_enter Tryd.func4, Tryd.ntmps4
      go_wp2_with (first | (go_at_call 12; first | ((with_reducible refine (k1 _).mono ?_); rintro e w' ⟨rfl, rfl⟩) | ((with_reducible refine (k1b _).mono ?_); rintro e w' ⟨rfl, rfl⟩)) | (go_at_call 13; first | ((with_reducible refine (c2 _).mono ?_); rintro e w' ⟨rfl, rfl⟩)) | (go_at_call 14; first | ((with_reducible refine (k3 _).mono ?_); rintro e w' ⟨rfl, rfl⟩) | ((with_reducible refine (k3b _).mono ?_); rintro e w' ⟨rfl, rfl⟩)) | (go_at_call 18; refine (awake_any _ h).mono ?_; rintro e w9 ⟨rfl, hb9⟩))
      go_ret
      exact ⟨rfl, hb9⟩

set_option maxRecDepth 100000 in
set_option maxHeartbeats 1600000 in
theorem muldivs (a b c : Int) (a0 : -9223372036854775808 ≤ a) (a1 : a ≤ 9223372036854775807) (b0 : -9223372036854775808 ≤ b) (b1 : b ≤ 9223372036854775807) (c0 : -9223372036854775808 ≤ c) (c1 : c ≤ 9223372036854775807) (w : World) (h : Tab w) :
    Calls Tryd.prog 5 #[.int .i64 a, .int .i64 b, .int .i64 c] w fun e w' => e = .returned (.bool true) ∧ Below w.heap.size w w' := by
  have k1 := fun w => (md_any a b c a0 a1 b0 b1 c0 c1 w).1
  have k2 := fun w => (md_any a b c a0 a1 b0 b1 c0 c1 w).2
  generalize mdQ a b c = q at *
  generalize mdR a b c = r at *
  generalize mdE a b c = f at *
  have hT : ∀ k, Tab (w.drewN k) := fun k => tab_on h (below_draw w k)
  go_enter Tryd.func5, Tryd.ntmps5
  go_wp2_with (first | (go_at_call 19; refine (k1 _).mono ?_; rintro e w' ⟨rfl, k, rfl⟩) | (go_at_call 20; refine (k2 _).mono ?_; rintro e w' ⟨rfl, rfl⟩) | (go_at_call 18; refine (awake_any _ (hT _)).mono ?_; rintro e w9 ⟨rfl, hb9⟩))
  go_ret
  exact ⟨rfl, below_on (below_draw w k) hb9⟩

set_option maxRecDepth 100000 in
set_option maxHeartbeats 1600000 in
theorem powers (a b : Int) (a0 : -9223372036854775808 ≤ a) (a1 : a ≤ 9223372036854775807) (b0 : -9223372036854775808 ≤ b) (b1 : b ≤ 9223372036854775807) (w : World) (h : Tab w) :
    Calls Tryd.prog 7 #[.int .i64 a, .int .i64 b] w fun e w' => e = .returned (.bool true) ∧ Below w.heap.size w w' := by
  have k1 := fun w => pow_any a b a0 a1 b0 b1 w
  have k2 := fun w => rpow_any a b a0 a1 b0 b1 w
  generalize pwV a b = q at *
  generalize pwE a b = f at *
  go_enter Tryd.func7, Tryd.ntmps7
  go_wp2_with (first | (go_at_call 22; refine (k1 _).mono ?_; rintro e w' ⟨rfl, rfl⟩) | (go_at_call 23; refine (k2 _).mono ?_; rintro e w' ⟨rfl, rfl⟩) | (go_at_call 18; refine (awake_any _ h).mono ?_; rintro e w9 ⟨rfl, hb9⟩))
  go_ret
  exact ⟨rfl, hb9⟩

set_option maxRecDepth 100000 in
set_option maxHeartbeats 1600000 in
theorem grows (a : Int) (m : Nat) (a0 : -9223372036854775808 ≤ a) (a1 : a ≤ 9223372036854775807) (hm : m ≤ 255) (w : World) (h : Tab w) :
    Calls Tryd.prog 8 #[.int .i64 a, .int .u8 m] w fun e w' => e = .returned (.bool true) ∧ Below w.heap.size w w' := by
  obtain ⟨K, hK⟩ : ∃ K, K = m % 62 := ⟨_, rfl⟩
  have hk : (m : Int) % 62 = (K : Int) := by omega
  have hK1 : K < 62 := by omega
  have hm' : (m : Int) ≤ 255 := by omega
  clear hK hm
  have hKi : (K : Int) < 62 := by omega
  obtain ⟨e1, e2⟩ := pw_in (a := a) (n := K) (by omega)
  obtain ⟨e3, e4⟩ := pw_in (a := a) (n := K + 1) (by omega)
  have k1 := fun w => pow_any a K a0 a1 (by omega) (by omega) w
  have k2 := fun w => pow_any a ((K + 1 : Nat) : Int) a0 a1 (by omega) (by omega) w
  have k3 : ∀ w, Calls Tryd.prog 22 #[.int .i64 a, .int .i64 0] w fun e w' => e = .returned (.tuple #[.int .i64 1, .int .i64 0]) ∧ w = w' := fun w => pow_any a 0 a0 a1 (by omega) (by omega) w
  have k4 := fun w => pow_any a (-1 - (m : Int)) a0 a1 (by omega) (by omega) w
  have k5 := fun w => pow_any a (63 + (m : Int)) a0 a1 (by omega) (by omega) w
  rw [e1, e2] at k1
  rw [e3, e4, show ((K + 1 : Nat) : Int) = (K : Int) + 1 by omega] at k2
  rw [(pw_out (a := a) (n := -1 - (m : Int)) (.inl (by omega))).1, (pw_out (a := a) (n := -1 - (m : Int)) (.inl (by omega))).2] at k4
  rw [(pw_out (a := a) (n := 63 + (m : Int)) (.inr (by omega))).1, (pw_out (a := a) (n := 63 + (m : Int)) (.inr (by omega))).2] at k5
  clear e1 e2 e3 e4
  have pb := pw_bd a K
  rcases pw_or a K with hz | hz
  · have hs := pw_step hz
    rw [hs] at k2
    rw [hz] at k1
    have k6 := fun w => mul_any (pw a K).1 a pb.1 pb.2 a0 a1 w
    clear hs hz pb
    generalize (pw a K).1 = p at *
    generalize fitV (p * a) = x at *
    generalize fitE (p * a) = y at *
    go_enter Tryd.func8, Tryd.ntmps8
    go_wp2_with (first | (go_at_call 22; first | ((with_reducible refine (k1 _).mono ?_); rintro e w' ⟨rfl, rfl⟩) | ((with_reducible refine (k2 _).mono ?_); rintro e w' ⟨rfl, rfl⟩) | ((with_reducible refine (k3 _).mono ?_); rintro e w' ⟨rfl, rfl⟩) | ((with_reducible refine (k4 _).mono ?_); rintro e w' ⟨rfl, rfl⟩) | ((with_reducible refine (k5 _).mono ?_); rintro e w' ⟨rfl, rfl⟩)) | (go_at_call 14; refine (k6 _).mono ?_; rintro e w' ⟨rfl, rfl⟩) | (go_at_call 18; refine (awake_any _ h).mono ?_; rintro e w9 ⟨rfl, hb9⟩))
    go_ret
    exact ⟨rfl, hb9⟩
  · rw [pw_no (by rw [hz]; decide)] at k2
    rw [hz] at k1
    clear hz pb
    go_enter Tryd.func8, Tryd.ntmps8
    go_wp2_with (first | (go_at_call 22; first | ((with_reducible refine (k1 _).mono ?_); rintro e w' ⟨rfl, rfl⟩) | ((with_reducible refine (k2 _).mono ?_); rintro e w' ⟨rfl, rfl⟩) | ((with_reducible refine (k3 _).mono ?_); rintro e w' ⟨rfl, rfl⟩) | ((with_reducible refine (k4 _).mono ?_); rintro e w' ⟨rfl, rfl⟩) | ((with_reducible refine (k5 _).mono ?_); rintro e w' ⟨rfl, rfl⟩)) | (go_at_call 18; refine (awake_any _ h).mono ?_; rintro e w9 ⟨rfl, hb9⟩))
    go_ret
    exact ⟨rfl, hb9⟩

theorem gcd_swap (a b : Int) : gcdV b a = gcdV a b := by unfold gcdV; rw [Nat.gcd_comm]
theorem gcd_facts (a b : Int) : 0 ≤ gcdV a b ∧ gcdV a b ≤ 9223372036854775807 ∧ (gcdV a b ≠ 0 → a.tmod (gcdV a b) = 0 ∧ b.tmod (gcdV a b) = 0 ∧ a % (gcdV a b) = 0 ∧ b % (gcdV a b) = 0) := by
  unfold gcdV
  split
  · refine ⟨by omega, by omega, fun _ => ?_⟩
    have h1 : ((Nat.gcd a.natAbs b.natAbs : Nat) : Int) ∣ a := Int.ofNat_dvd_left.2 (Nat.gcd_dvd_left _ _)
    have h2 : ((Nat.gcd a.natAbs b.natAbs : Nat) : Int) ∣ b := Int.ofNat_dvd_left.2 (Nat.gcd_dvd_right _ _)
    exact ⟨Int.tmod_eq_zero_of_dvd h1, Int.tmod_eq_zero_of_dvd h2, Int.emod_eq_zero_of_dvd h1, Int.emod_eq_zero_of_dvd h2⟩
  · exact ⟨by omega, by omega, fun h => absurd rfl h⟩

set_option maxRecDepth 100000 in
set_option maxHeartbeats 1600000 in
theorem gcds (a b : Int) (a0 : -9223372036854775808 ≤ a) (a1 : a ≤ 9223372036854775807) (b0 : -9223372036854775808 ≤ b) (b1 : b ≤ 9223372036854775807) (w : World) (h : Tab w) :
    Calls Tryd.prog 9 #[.int .i64 a, .int .i64 b] w fun e w' => e = .returned (.bool true) ∧ Below w.heap.size w w' := by
  have k1 := fun w => gcd_any a b (gcdV a b) rfl a0 a1 b0 b1 w
  have k2 := fun w => rgcd_any a b (gcdV a b) rfl a0 a1 b0 b1 w
  have k3 := fun w => gcd_any b a (gcdV a b) (gcd_swap a b).symm b0 b1 a0 a1 w
  obtain ⟨f1, f2, f3⟩ := gcd_facts a b
  generalize gcdV a b = G at *
  have hT : ∀ k, Tab (w.drewN k) := fun k => tab_on h (below_draw w k)
  have hl : ¬ G < 0 := by omega
  by_cases g0 : G = 0
  · subst g0
    clear f3 f1 f2 hl
    go_enter Tryd.func9, Tryd.ntmps9
    go_wp2_with (first | (go_at_call 24; first | ((with_reducible refine (k1 _).mono ?_); rintro e w' ⟨rfl, k, rfl⟩) | ((with_reducible refine (k3 _).mono ?_); rintro e w' ⟨rfl, k, rfl⟩)) | (go_at_call 25; refine (k2 _).mono ?_; rintro e w' ⟨rfl, rfl⟩) | (go_at_call 18; refine (awake_any _ (hT _)).mono ?_; rintro e w9 ⟨rfl, hb9⟩))
    go_ret
    exact ⟨rfl, below_on (below_draw w _) hb9⟩
  · obtain ⟨t1, t2, t3, t4⟩ := f3 g0
    have g1 : (G == 0) = false := by simpa using g0
    have g2 : 0 < G := by omega
    clear f3 g0
    go_enter Tryd.func9, Tryd.ntmps9
    go_wp2_with (first | (go_at_call 24; first | ((with_reducible refine (k1 _).mono ?_); rintro e w' ⟨rfl, k, rfl⟩) | ((with_reducible refine (k3 _).mono ?_); rintro e w' ⟨rfl, k, rfl⟩)) | (go_at_call 25; refine (k2 _).mono ?_; rintro e w' ⟨rfl, rfl⟩) | (go_at_call 18; refine (awake_any _ (hT _)).mono ?_; rintro e w9 ⟨rfl, hb9⟩))
    go_ret
    exact ⟨rfl, below_on (below_draw w _) hb9⟩

set_option maxRecDepth 100000 in
set_option maxHeartbeats 1600000 in
theorem formats (n : Int) (n0 : -9223372036854775808 ≤ n) (n1 : n ≤ 9223372036854775807) (w : World) (h : Tab w) :
    Calls Tryd.prog 11 #[.int .i64 n] w fun e w' => e = .returned (.bool true) ∧ Below w.heap.size w w' := by
  obtain ⟨X, hX⟩ : ∃ X : ByteArray, X = ⟨(Lib.itoa n).toArray⟩ := ⟨_, rfl⟩
  have k1 := fun w (h : Tab w) => format_any n X hX n0 n1 w h
  have k2 := fun w => rformat_any n X hX n0 n1 w
  obtain ⟨d1, d2⟩ := decB_itoa n
  have hl := Lib.itoa_length_le n n0 n1
  have hd : X.data.toList = Lib.itoa n := by rw [hX]
  have hz : X.size ≤ 21 := by rw [size_len, hd]; exact hl
  have k3 := fun w => parse_in X n (by show _ = _; rw [hd]; exact d1) (by show _ = _; rw [hd]; exact d2.symm) n0 n1 (by omega) w
  clear hX d1 d2 hl hd hz
  go_enter Tryd.func11, Tryd.ntmps11
  go_wp2_with (go_at_call 28; refine (k1 _ h).mono ?_; rintro e w1 ⟨rfl, hb1⟩; refine Hid.out ?_)
  refine Lib.hid ?_
  have h1 := tab_on h hb1
  go_wp2_with (go_at_call 26; refine (k3 _).mono ?_; rintro e w2 ⟨rfl, hb2⟩; refine Hid.out ?_)
  refine Lib.hid ?_
  have h2 := tab_on h1 hb2
  have hT : ∀ w3, Below w2.heap.size w2 w3 → Tab w3 := fun w3 hb => tab_on h2 hb
  go_wp2_with (first | (go_at_call 29; refine (k2 _).mono ?_; rintro e w3 ⟨rfl, hb3⟩) | (go_at_call 18; refine (awake_any _ (hT _ hb3)).mono ?_; rintro e w9 ⟨rfl, hb9⟩))
  go_ret
  exact ⟨rfl, below_on (below_on (below_on hb1 hb2) hb3) hb9⟩

set_option maxRecDepth 100000 in
set_option maxHeartbeats 1600000 in
theorem parses (s : ByteArray) (hs : s.size ≤ 281474976710656) (tp : TypeId) (p : Value) (w : World) (h : Tab w) (hvar : w.var? Tryd.prog "strconv.ErrRange" = some #[.iface tp p]) :
    Calls Tryd.prog 10 #[.string s] w fun e w' => e = .returned (.bool true) ∧ Below w.heap.size w w' := by
  have k1 := parse_any s _ _ rfl rfl hs tp p w hvar
  have k2 := fun w => rparse_any s _ _ rfl rfl hs w
  have hf : prE s.data.toList = 0 → s = ⟨(Lib.itoa (prV s.data.toList)).toArray⟩ ∧ -9223372036854775808 ≤ prV s.data.toList ∧ prV s.data.toList ≤ 9223372036854775807 := fun he => by
    by_cases hd : decB s.data.toList = true
    · obtain ⟨e1, e2⟩ := pr_yes hd
      rw [e2] at he
      rcases fitE_or (intN s.data.toList) with ⟨_, f2, f3⟩ | ⟨f1, _⟩
      · rw [e1, f2]; exact ⟨str_eq (by rw [itoa_intN hd]), f3⟩
      · omega
    · obtain ⟨_, e2⟩ := pr_no (show decB s.data.toList = false by simpa using hd)
      omega
  generalize prV s.data.toList = V at *
  generalize prE s.data.toList = E at *
  clear hvar
  by_cases he : E = 0
  · subst he
    obtain ⟨f1, f2, f3⟩ := hf rfl
    have k3 := fun w (h : Tab w) => format_any V s f1 f2 f3 w h
    clear hf f1 f2 f3
    go_enter Tryd.func10, Tryd.ntmps10
    go_wp2_with (go_at_call 26; refine k1.mono ?_; rintro e w1 ⟨rfl, hb1⟩; refine Hid.out ?_)
    refine Lib.hid ?_
    have h1 := tab_on h hb1
    have hT : ∀ w3, Below w1.heap.size w1 w3 → Tab w3 := fun w3 hb => tab_on h1 hb
    go_wp2_with (first | (go_at_call 27; refine (k2 _).mono ?_; rintro e w' ⟨rfl, rfl⟩) | (go_at_call 28; refine (k3 _ h1).mono ?_; rintro e w3 ⟨rfl, hb3⟩) | (go_at_call 18; refine (awake_any _ (hT _ hb3)).mono ?_; rintro e w9 ⟨rfl, hb9⟩))
    go_ret
    exact ⟨rfl, below_on (below_on hb1 hb3) hb9⟩
  · have he' : (E != 0) = true := by simpa using he
    clear hf he
    go_enter Tryd.func10, Tryd.ntmps10
    go_wp2_with (go_at_call 26; refine k1.mono ?_; rintro e w1 ⟨rfl, hb1⟩; refine Hid.out ?_)
    refine Lib.hid ?_
    have h1 := tab_on h hb1
    go_wp2_with (first | (go_at_call 27; refine (k2 _).mono ?_; rintro e w' ⟨rfl, rfl⟩) | (go_at_call 18; refine (awake_any _ h1).mono ?_; rintro e w9 ⟨rfl, hb9⟩))
    go_ret
    exact ⟨rfl, below_on hb1 hb9⟩

set_option maxRecDepth 100000 in
set_option maxHeartbeats 1600000 in
/-- the arguments that are refused at once: an error, and zeros -/
theorem divides_early (a b c E : Int) (hE : (E != 0) = true) (h3 : a < 0 ∨ b < 0 ∨ c ≤ 0)
    (k1 : ∀ w, Calls Tryd.prog 19 #[.int .i64 a, .int .i64 b, .int .i64 c] w fun e w' => e = .returned (.tuple #[.int .i64 0, .int .i64 0, .int .i64 E]) ∧ ∃ k, w' = w.drewN k) (w : World) (h : Tab w) :
    Calls Tryd.prog 6 #[.int .i64 a, .int .i64 b, .int .i64 c] w fun e w' => e = .returned (.bool true) ∧ Below w.heap.size w w' := by
  have hT : ∀ k, Tab (w.drewN k) := fun k => tab_on h (below_draw w k)
  by_cases ha : a < 0
  · clear h3
    go_enter Tryd.func6, Tryd.ntmps6
    go_wp2_with (first | (go_at_call 19; refine (k1 _).mono ?_; rintro e w' ⟨rfl, k, rfl⟩) | (go_at_call 21; first | ((with_reducible refine (k1 _).mono ?_); rintro e w' ⟨rfl, rfl⟩)) | (go_at_call 18; refine (awake_any _ (hT _)).mono ?_; rintro e w9 ⟨rfl, hb9⟩))
    go_ret
    exact ⟨rfl, below_on (below_draw w _) hb9⟩
  · by_cases hb : b < 0
    · clear h3
      go_enter Tryd.func6, Tryd.ntmps6
      go_wp2_with (first | (go_at_call 19; refine (k1 _).mono ?_; rintro e w' ⟨rfl, k, rfl⟩) | (go_at_call 21; first | ((with_reducible refine (k1 _).mono ?_); rintro e w' ⟨rfl, rfl⟩)) | (go_at_call 18; refine (awake_any _ (hT _)).mono ?_; rintro e w9 ⟨rfl, hb9⟩))
      go_ret
      exact ⟨rfl, below_on (below_draw w _) hb9⟩
    · have hc : c ≤ 0 := by omega
      clear h3
      go_enter Tryd.func6, Tryd.ntmps6
      go_wp2_with (first | (go_at_call 19; refine (k1 _).mono ?_; rintro e w' ⟨rfl, k, rfl⟩) | (go_at_call 21; first | ((with_reducible refine (k1 _).mono ?_); rintro e w' ⟨rfl, rfl⟩)) | (go_at_call 18; refine (awake_any _ (hT _)).mono ?_; rintro e w9 ⟨rfl, hb9⟩))
      go_ret
      exact ⟨rfl, below_on (below_draw w _) hb9⟩

/-- what the two products of the law say -/
theorem over_iff (p z : Nat) (hz : 0 < z) : (z * 9223372036854775808 ≤ p ↔ ¬ p / z ≤ 9223372036854775807) := by
  constructor
  · intro h hle
    have h1 : 9223372036854775808 ≤ p / z := by rw [Nat.le_div_iff_mul_le hz, Nat.mul_comm]; exact h
    omega
  · intro h
    have h1 : 9223372036854775808 ≤ p / z := by omega
    rw [Nat.le_div_iff_mul_le hz, Nat.mul_comm] at h1; exact h1
theorem words_le (p m : Nat) : (m ≤ p ↔ m / 18446744073709551616 < p / 18446744073709551616 ∨ m / 18446744073709551616 = p / 18446744073709551616 ∧ m % 18446744073709551616 ≤ p % 18446744073709551616) := by omega
theorem words_add (m r : Nat) (hr : r < 18446744073709551616) : (m + r) % 18446744073709551616 = (m % 18446744073709551616 + r) % 18446744073709551616 ∧
    ((m % 18446744073709551616 + r) % 18446744073709551616 < m % 18446744073709551616 → (m + r) / 18446744073709551616 = m / 18446744073709551616 + 1) ∧
    (¬ (m % 18446744073709551616 + r) % 18446744073709551616 < m % 18446744073709551616 → (m + r) / 18446744073709551616 = m / 18446744073709551616) := by omega

set_option maxRecDepth 100000 in
set_option maxHeartbeats 1600000 in
/-- the quotient overflows -/
theorem divides_over (x y z hi lo top low : Nat) (hx : x < 9223372036854775808) (hy : y < 9223372036854775808) (hz0 : 0 < z) (hz : z < 9223372036854775808)
    (ho : (top : Int) < (hi : Int) ∨ top = hi ∧ (low : Int) ≤ (lo : Int))
    (k1 : ∀ w, Calls Tryd.prog 19 #[.int .i64 x, .int .i64 y, .int .i64 z] w fun e w' => e = .returned (.tuple #[.int .i64 0, .int .i64 0, .int .i64 9]) ∧ ∃ k, w' = w.drewN k)
    (k2 : ∀ w, Calls Tryd.prog 21 #[.int .u64 x, .int .u64 y] w fun e w' => e = .returned (.tuple #[.int .u64 (hi : Int), .int .u64 (lo : Int)]) ∧ w = w')
    (k3 : ∀ w, Calls Tryd.prog 21 #[.int .u64 z, .int .u64 9223372036854775808] w fun e w' => e = .returned (.tuple #[.int .u64 (top : Int), .int .u64 (low : Int)]) ∧ w = w') (w : World) (h : Tab w) :
    Calls Tryd.prog 6 #[.int .i64 x, .int .i64 y, .int .i64 z] w fun e w' => e = .returned (.bool true) ∧ Below w.heap.size w w' := by
  have hT : ∀ k, Tab (w.drewN k) := fun k => tab_on h (below_draw w k)
  have z1 : ¬ (z : Int) ≤ 0 := by omega
  by_cases h1 : (top : Int) < (hi : Int)
  · clear ho
    go_enter Tryd.func6, Tryd.ntmps6
    go_wp2_with (first | (go_at_call 19; refine (k1 _).mono ?_; rintro e w' ⟨rfl, k, rfl⟩) | (go_at_call 21; first | ((with_reducible refine (k2 _).mono ?_); rintro e w' ⟨rfl, rfl⟩) | ((with_reducible refine (k3 _).mono ?_); rintro e w' ⟨rfl, rfl⟩)) | (go_at_call 18; refine (awake_any _ (hT _)).mono ?_; rintro e w9 ⟨rfl, hb9⟩))
    go_ret
    exact ⟨rfl, below_on (below_draw w _) hb9⟩
  · obtain ⟨rfl, h2⟩ := ho.resolve_left h1
    clear ho
    go_enter Tryd.func6, Tryd.ntmps6
    go_wp2_with (first | (go_at_call 19; refine (k1 _).mono ?_; rintro e w' ⟨rfl, k, rfl⟩) | (go_at_call 21; first | ((with_reducible refine (k2 _).mono ?_); rintro e w' ⟨rfl, rfl⟩) | ((with_reducible refine (k3 _).mono ?_); rintro e w' ⟨rfl, rfl⟩)) | (go_at_call 18; refine (awake_any _ (hT _)).mono ?_; rintro e w9 ⟨rfl, hb9⟩))
    go_ret
    exact ⟨rfl, below_on (below_draw w _) hb9⟩

set_option maxRecDepth 100000 in
set_option maxHeartbeats 1600000 in
/-- the quotient is an int -/
theorem divides_ok (x y z hi lo top low Q R X Y S : Nat) (hx : x < 9223372036854775808) (hy : y < 9223372036854775808) (hz0 : 0 < z) (hz : z < 9223372036854775808)
    (n1 : ¬ (top : Int) < (hi : Int)) (n2 : ¬ (top = hi ∧ (low : Int) ≤ (lo : Int))) (hQ : Q ≤ 9223372036854775807) (hR : R < z) (hX : X < 9223372036854775808)
    (hS : IntKind.u64.wrap ((Y : Int) + (R : Int)) = (S : Int)) (hsl : S = lo) (hlt : (S : Int) < (Y : Int) → hi = X + 1) (hge : ¬ (S : Int) < (Y : Int) → hi = X)
    (k1 : ∀ w, Calls Tryd.prog 19 #[.int .i64 x, .int .i64 y, .int .i64 z] w fun e w' => e = .returned (.tuple #[.int .i64 (Q : Int), .int .i64 (R : Int), .int .i64 0]) ∧ ∃ k, w' = w.drewN k)
    (k2 : ∀ w, Calls Tryd.prog 21 #[.int .u64 x, .int .u64 y] w fun e w' => e = .returned (.tuple #[.int .u64 (hi : Int), .int .u64 (lo : Int)]) ∧ w = w')
    (k3 : ∀ w, Calls Tryd.prog 21 #[.int .u64 z, .int .u64 9223372036854775808] w fun e w' => e = .returned (.tuple #[.int .u64 (top : Int), .int .u64 (low : Int)]) ∧ w = w')
    (k4 : ∀ w, Calls Tryd.prog 21 #[.int .u64 Q, .int .u64 z] w fun e w' => e = .returned (.tuple #[.int .u64 (X : Int), .int .u64 (Y : Int)]) ∧ w = w') (w : World) (h : Tab w) :
    Calls Tryd.prog 6 #[.int .i64 x, .int .i64 y, .int .i64 z] w fun e w' => e = .returned (.bool true) ∧ Below w.heap.size w w' := by
  have hT : ∀ k, Tab (w.drewN k) := fun k => tab_on h (below_draw w k)
  have z1 : ¬ (z : Int) ≤ 0 := by omega
  have r1 : ¬ (z : Int) ≤ (R : Int) := by omega
  subst hsl
  by_cases h1 : (top : Int) = (hi : Int)
  · have h2 : ¬ (low : Int) ≤ (S : Int) := fun hh => n2 ⟨by omega, hh⟩
    obtain rfl : top = hi := by omega
    by_cases h3 : (S : Int) < (Y : Int)
    · obtain rfl := hlt h3
      clear hlt hge n2 h1
      go_enter Tryd.func6, Tryd.ntmps6
      go_wp2_with (first | (go_at_call 19; refine (k1 _).mono ?_; rintro e w' ⟨rfl, k, rfl⟩) | (go_at_call 21; first | ((with_reducible refine (k2 _).mono ?_); rintro e w' ⟨rfl, rfl⟩) | ((with_reducible refine (k3 _).mono ?_); rintro e w' ⟨rfl, rfl⟩) | ((with_reducible refine (k4 _).mono ?_); rintro e w' ⟨rfl, rfl⟩)) | (go_at_call 18; refine (awake_any _ (hT _)).mono ?_; rintro e w9 ⟨rfl, hb9⟩))
      go_ret
      exact ⟨rfl, below_on (below_draw w _) hb9⟩
    · obtain rfl := hge h3
      clear hlt hge n2 h1
      go_enter Tryd.func6, Tryd.ntmps6
      go_wp2_with (first | (go_at_call 19; refine (k1 _).mono ?_; rintro e w' ⟨rfl, k, rfl⟩) | (go_at_call 21; first | ((with_reducible refine (k2 _).mono ?_); rintro e w' ⟨rfl, rfl⟩) | ((with_reducible refine (k3 _).mono ?_); rintro e w' ⟨rfl, rfl⟩) | ((with_reducible refine (k4 _).mono ?_); rintro e w' ⟨rfl, rfl⟩)) | (go_at_call 18; refine (awake_any _ (hT _)).mono ?_; rintro e w9 ⟨rfl, hb9⟩))
      go_ret
      exact ⟨rfl, below_on (below_draw w _) hb9⟩
  · have h1' : ((top : Int) == (hi : Int)) = false := by simpa using h1
    by_cases h3 : (S : Int) < (Y : Int)
    · obtain rfl := hlt h3
      have h1'' : ((top : Int) == (X : Int) + 1) = false := by rw [beq_eq_false_iff_ne]; omega
      clear hlt hge n2 h1 h1'
      go_enter Tryd.func6, Tryd.ntmps6
      go_wp2_with (first | (go_at_call 19; refine (k1 _).mono ?_; rintro e w' ⟨rfl, k, rfl⟩) | (go_at_call 21; first | ((with_reducible refine (k2 _).mono ?_); rintro e w' ⟨rfl, rfl⟩) | ((with_reducible refine (k3 _).mono ?_); rintro e w' ⟨rfl, rfl⟩) | ((with_reducible refine (k4 _).mono ?_); rintro e w' ⟨rfl, rfl⟩)) | (go_at_call 18; refine (awake_any _ (hT _)).mono ?_; rintro e w9 ⟨rfl, hb9⟩))
      go_ret
      exact ⟨rfl, below_on (below_draw w _) hb9⟩
    · obtain rfl := hge h3
      clear hlt hge n2 h1
      go_enter Tryd.func6, Tryd.ntmps6
      go_wp2_with (first | (go_at_call 19; refine (k1 _).mono ?_; rintro e w' ⟨rfl, k, rfl⟩) | (go_at_call 21; first | ((with_reducible refine (k2 _).mono ?_); rintro e w' ⟨rfl, rfl⟩) | ((with_reducible refine (k3 _).mono ?_); rintro e w' ⟨rfl, rfl⟩) | ((with_reducible refine (k4 _).mono ?_); rintro e w' ⟨rfl, rfl⟩)) | (go_at_call 18; refine (awake_any _ (hT _)).mono ?_; rintro e w9 ⟨rfl, hb9⟩))
      go_ret
      exact ⟨rfl, below_on (below_draw w _) hb9⟩

end Go.Proofs.YtfalonklnfekhaaDoor.numL

/-
  Contracts: absolute values, signed, the product of two words in halves, num.Mul and the reference's Mul: the integer, or (0, 9) where it is no int; the world is as it was.
-/
import Derived.Test.YtjblfmgiafdefaaNumA
import Derived.Test.YtjblfmgiafdefaaShelf
import Derived.Lib.Hide
namespace Go.Proofs.Ytjblfmgiafdefaa.numB
open Go.RowKit
open Go.Proofs.Ytjblfmgiafdefaa.numM Go.Proofs.Ytjblfmgiafdefaa.numA

theorem ret_int {k : IntKind} {a b : Int} (h : a = b) : Ending.returned (.int k a) = .returned (.int k b) := by rw [h]
theorem divN (a : Nat) : (a : Int) / 4294967296 = ((a / 4294967296 : Nat) : Int) := by omega
theorem modN (a : Nat) : (a : Int) % 4294967296 = ((a % 4294967296 : Nat) : Int) := by omega
theorem mulN (a b : Nat) : (a : Int) * (b : Int) = ((a * b : Nat) : Int) := (Int.natCast_mul a b).symm
theorem mulC (a : Nat) : (a : Int) * 4294967296 = ((a * 4294967296 : Nat) : Int) := by omega
theorem addN (a b : Nat) : (a : Int) + (b : Int) = ((a + b : Nat) : Int) := (Int.natCast_add a b).symm
theorem wrapN (a : Nat) (ha : a < 18446744073709551616) : IntKind.u64.wrap (a : Int) = (a : Int) := by rw [IntKind.wrap_u64]; omega
theorem tdivN (a : Nat) : (a : Int).tdiv 4294967296 = ((a / 4294967296 : Nat) : Int) := by rw [Int.tdiv_eq_ediv_of_nonneg (by omega)]; omega
theorem tmodN (a : Nat) : (a : Int).tmod 4294967296 = ((a % 4294967296 : Nat) : Int) := by rw [Int.tmod_eq_emod_of_nonneg (by omega)]; omega
theorem wrapM (a : Nat) : IntKind.u64.wrap (a : Int) = ((a % 18446744073709551616 : Nat) : Int) := by rw [IntKind.wrap_u64]; omega

set_option maxHeartbeats 400000 in
theorem mag_any (a : Int) (a0 : -9223372036854775808 ≤ a) (a1 : a ≤ 9223372036854775807) (w : World) :
    Calls Try.prog 56 #[.int .i64 a] w fun e w' => e = .returned (.int .u64 (a.natAbs : Int)) ∧ w = w' := by
  by_cases h : a < 0
  · rw [show ((a.natAbs : Nat) : Int) = -a by omega]
    by_cases hm : a = -9223372036854775808
    · subst hm
      go_enter Try.func56, Try.ntmps56
      go_wp2
      go_ret
      exact ⟨rfl, rfl⟩
    · have hm' : (a == -9223372036854775808) = false := by simpa using hm
      have hn : -9223372036854775807 ≤ a := by omega
      clear hm
      go_enter Try.func56, Try.ntmps56
      go_wp2
      go_ret
      exact ⟨ret_int (by first | rfl | omega), rfl⟩
  · rw [show ((a.natAbs : Nat) : Int) = a by omega]
    have hm' : (a == -9223372036854775808) = false := by simp; omega
    go_enter Try.func56, Try.ntmps56
    go_wp2
    go_ret
    exact ⟨rfl, rfl⟩

set_option maxHeartbeats 400000 in
theorem size_any (a : Int) (a0 : -9223372036854775808 ≤ a) (a1 : a ≤ 9223372036854775807) (w : World) :
    Calls Try.prog 58 #[.int .i64 a] w fun e w' => e = .returned (.int .u64 (a.natAbs : Int)) ∧ w = w' := by
  by_cases h : a < 0
  · rw [show ((a.natAbs : Nat) : Int) = -a by omega]
    by_cases hm : a = -9223372036854775808
    · subst hm
      go_enter Try.func58, Try.ntmps58
      go_wp2
      go_ret
      exact ⟨rfl, rfl⟩
    · have hm' : (a == -9223372036854775808) = false := by simpa using hm
      have hn : -9223372036854775807 ≤ a := by omega
      clear hm
      go_enter Try.func58, Try.ntmps58
      go_wp2
      go_ret
      exact ⟨ret_int (by first | rfl | omega), rfl⟩
  · rw [show ((a.natAbs : Nat) : Int) = a by omega]
    have hm' : (a == -9223372036854775808) = false := by simp; omega
    go_enter Try.func58, Try.ntmps58
    go_wp2
    go_ret
    exact ⟨rfl, rfl⟩

set_option maxHeartbeats 400000 in
theorem signed_neg (m : Nat) (hm : m < 18446744073709551616) (w : World) :
    Calls Try.prog 57 #[.bool true, .int .u64 (m : Int)] w fun e w' => e = .returned (.tuple #[.int .i64 (fitV (-(m : Int))), .int .i64 (fitE (-(m : Int)))]) ∧ w = w' := by
  by_cases h1 : m = 9223372036854775808
  · subst h1
    rw [fitV_in (by omega) (by omega), fitE_in (by omega) (by omega)]
    go_enter Try.func57, Try.ntmps57
    go_wp2
    go_ret2
    exact ⟨rfl, rfl⟩
  · have h1' : ((m : Int) == 9223372036854775808) = false := by simp; omega
    by_cases h2 : m < 9223372036854775808
    · rw [fitV_in (by omega) (by omega), fitE_in (by omega) (by omega)]
      clear h1
      go_enter Try.func57, Try.ntmps57
      go_wp2
      go_ret2
      exact ⟨rfl, rfl⟩
    · have h3 : 9223372036854775809 ≤ m := by omega
      rw [fitV_lo (by omega), fitE_lo (by omega)]
      clear h1 h2
      go_enter Try.func57, Try.ntmps57
      go_wp2
      go_ret2
      exact ⟨rfl, rfl⟩
set_option maxHeartbeats 400000 in
theorem signed_pos (m : Nat) (hm : m < 18446744073709551616) (w : World) :
    Calls Try.prog 57 #[.bool false, .int .u64 (m : Int)] w fun e w' => e = .returned (.tuple #[.int .i64 (fitV (m : Int)), .int .i64 (fitE (m : Int))]) ∧ w = w' := by
  by_cases h2 : m < 9223372036854775808
  · rw [fitV_in (by omega) (by omega), fitE_in (by omega) (by omega)]
    go_enter Try.func57, Try.ntmps57
    go_wp2
    go_ret2
    exact ⟨rfl, rfl⟩
  · rw [fitV_hi (by omega), fitE_hi (by omega)]
    go_enter Try.func57, Try.ntmps57
    go_wp2
    go_ret2
    exact ⟨rfl, rfl⟩

set_option maxHeartbeats 400000 in
theorem rsigned_neg (m : Nat) (hm : m < 18446744073709551616) (w : World) :
    Calls Try.prog 59 #[.int .u64 (m : Int), .bool true] w fun e w' => e = .returned (.tuple #[.int .i64 (fitV (-(m : Int))), .int .i64 (fitE (-(m : Int)))]) ∧ w = w' := by
  by_cases h1 : m = 9223372036854775808
  · subst h1
    rw [fitV_in (by omega) (by omega), fitE_in (by omega) (by omega)]
    go_enter Try.func59, Try.ntmps59
    go_wp2
    go_ret2
    exact ⟨rfl, rfl⟩
  · have h1' : ((m : Int) == 9223372036854775808) = false := by simp; omega
    by_cases h2 : m < 9223372036854775808
    · rw [fitV_in (by omega) (by omega), fitE_in (by omega) (by omega)]
      clear h1
      go_enter Try.func59, Try.ntmps59
      go_wp2
      go_ret2
      exact ⟨rfl, rfl⟩
    · have h3 : 9223372036854775809 ≤ m := by omega
      rw [fitV_lo (by omega), fitE_lo (by omega)]
      clear h1 h2
      go_enter Try.func59, Try.ntmps59
      go_wp2
      go_ret2
      exact ⟨rfl, rfl⟩
set_option maxHeartbeats 400000 in
theorem rsigned_pos (m : Nat) (hm : m < 18446744073709551616) (w : World) :
    Calls Try.prog 59 #[.int .u64 (m : Int), .bool false] w fun e w' => e = .returned (.tuple #[.int .i64 (fitV (m : Int)), .int .i64 (fitE (m : Int))]) ∧ w = w' := by
  by_cases h2 : m < 9223372036854775808
  · rw [fitV_in (by omega) (by omega), fitE_in (by omega) (by omega)]
    go_enter Try.func59, Try.ntmps59
    go_wp2
    go_ret2
    exact ⟨rfl, rfl⟩
  · rw [fitV_hi (by omega), fitE_hi (by omega)]
    go_enter Try.func59, Try.ntmps59
    go_wp2
    go_ret2
    exact ⟨rfl, rfl⟩

set_option maxRecDepth 100000 in
set_option maxHeartbeats 1000000 in
theorem rwide_any (x y : Nat) (hx : x < 18446744073709551616) (hy : y < 18446744073709551616) (w : World) :
    Calls Try.prog 54 #[.int .u64 x, .int .u64 y] w fun e w' => e = .returned (.tuple #[.int .u64 ((x * y / 18446744073709551616 : Nat) : Int), .int .u64 ((x * y % 18446744073709551616 : Nat) : Int)]) ∧ w = w' := by
  obtain ⟨bd, bt, bw, hhi⟩ := Lib.mul64_hi x y hx hy
  have hlo := wide_lo x y hx hy
  have ba := Lib.half_mul_le (a := x / 4294967296) (b := y / 4294967296) (by omega) (by omega)
  have bb := Lib.half_mul_le (a := x / 4294967296) (b := y % 4294967296) (by omega) (by omega)
  have bc := Lib.half_mul_le (a := x % 4294967296) (b := y / 4294967296) (by omega) (by omega)
  have ba' : x / 4294967296 * (y / 4294967296) < 18446744073709551616 := by omega
  have bb' : x / 4294967296 * (y % 4294967296) < 18446744073709551616 := by omega
  have bc' : x % 4294967296 * (y / 4294967296) < 18446744073709551616 := by omega
  have bh1 : x / 4294967296 * (y / 4294967296) + (x / 4294967296 * (y % 4294967296) + x % 4294967296 * (y % 4294967296) / 4294967296) / 4294967296 < 18446744073709551616 := by omega
  have bh : x / 4294967296 * (y / 4294967296) + (x / 4294967296 * (y % 4294967296) + x % 4294967296 * (y % 4294967296) / 4294967296) / 4294967296 + ((x / 4294967296 * (y % 4294967296) + x % 4294967296 * (y % 4294967296) / 4294967296) % 4294967296 + x % 4294967296 * (y / 4294967296)) / 4294967296 < 18446744073709551616 := by omega
  have bd2 : x % 4294967296 * (y % 4294967296) / 4294967296 < 18446744073709551616 := by omega
  have bt2 : (x / 4294967296 * (y % 4294967296) + x % 4294967296 * (y % 4294967296) / 4294967296) / 4294967296 < 18446744073709551616 := by omega
  have bw2 : ((x / 4294967296 * (y % 4294967296) + x % 4294967296 * (y % 4294967296) / 4294967296) % 4294967296 + x % 4294967296 * (y / 4294967296)) / 4294967296 < 18446744073709551616 := by omega
  have bl1 : ((x / 4294967296 * (y % 4294967296) + x % 4294967296 * (y % 4294967296) / 4294967296) % 4294967296 + x % 4294967296 * (y / 4294967296)) % 4294967296 * 4294967296 < 18446744073709551616 := by omega
  have bl2 : ((x / 4294967296 * (y % 4294967296) + x % 4294967296 * (y % 4294967296) / 4294967296) % 4294967296 + x % 4294967296 * (y / 4294967296)) % 4294967296 * 4294967296 + x % 4294967296 * (y % 4294967296) % 4294967296 < 18446744073709551616 := by rw [hlo]; exact Nat.mod_lt _ (by omega)
  have hcm : x % 4294967296 * (y / 4294967296) + (x / 4294967296 * (y % 4294967296) + x % 4294967296 * (y % 4294967296) / 4294967296) % 4294967296 = (x / 4294967296 * (y % 4294967296) + x % 4294967296 * (y % 4294967296) / 4294967296) % 4294967296 + x % 4294967296 * (y / 4294967296) := Nat.add_comm _ _
  have HC := Lib.hid hcm
  clear hcm
  go_enter Try.func54, Try.ntmps54
  go_wp2
  simp only [modN, divN, tdivN, tmodN, mulC, mulN, addN, HC.out, wrapN _ bd, wrapN _ bd2, wrapN _ bb', wrapN _ bt, wrapN _ bt2, wrapN _ bc', wrapN _ bw, wrapN _ bw2, wrapN _ ba', wrapN _ bh1, wrapN _ bh, wrapN _ bl1, wrapN _ bl2]
  rw [hhi, hlo]
  go_ret2
  exact ⟨rfl, rfl⟩

set_option maxHeartbeats 400000 in
theorem mul_any (a b : Int) (a0 : -9223372036854775808 ≤ a) (a1 : a ≤ 9223372036854775807) (b0 : -9223372036854775808 ≤ b) (b1 : b ≤ 9223372036854775807) (w : World) :
    Calls Try.prog 36 #[.int .i64 a, .int .i64 b] w fun e w' => e = .returned (.tuple #[.int .i64 (fitV (a * b)), .int .i64 (fitE (a * b))]) ∧ w = w' := by
  have ha : a.natAbs < 18446744073709551616 := by omega
  have hb : b.natAbs < 18446744073709551616 := by omega
  have hlo : a.natAbs * b.natAbs % 18446744073709551616 < 18446744073709551616 := Nat.mod_lt _ (by omega)
  have ca := fun w => mag_any a a0 a1 w
  have cb := fun w => mag_any b b0 b1 w
  have cm := fun w => Try.bits_Mul64 _ _ ha hb w
  have cp := fun w => signed_pos _ hlo w
  have cn := fun w => signed_neg _ hlo w
  have ep : (a < 0) = (b < 0) → a * b = (a.natAbs * b.natAbs : Nat) := abs_mul_pos
  have en : (a < 0) ≠ (b < 0) → a * b = -((a.natAbs * b.natAbs : Nat) : Int) := abs_mul_neg
  have ez : a.natAbs * b.natAbs < 18446744073709551616 → a.natAbs * b.natAbs / 18446744073709551616 = 0 ∧ a.natAbs * b.natAbs % 18446744073709551616 = a.natAbs * b.natAbs := fun h => ⟨Nat.div_eq_of_lt h, Nat.mod_eq_of_lt h⟩
  have eb : ¬ a.natAbs * b.natAbs < 18446744073709551616 → 1 ≤ a.natAbs * b.natAbs / 18446744073709551616 := fun h => (Nat.le_div_iff_mul_le (by omega)).2 (by omega)
  have eo : ¬ a.natAbs * b.natAbs < 18446744073709551616 → fitV (a * b) = 0 ∧ fitE (a * b) = 9 := fun h => by
    rcases fitE_or (a * b) with ⟨_, _, h0, h1⟩ | ⟨h1, h2, _⟩
    · rw [← Int.natAbs_mul] at h; omega
    · exact ⟨h2, h1⟩
  generalize a.natAbs * b.natAbs / 18446744073709551616 = hi at *
  generalize a.natAbs * b.natAbs % 18446744073709551616 = lo at *
  generalize a.natAbs * b.natAbs = p at *
  generalize a.natAbs = ma at *
  generalize b.natAbs = mb at *
  by_cases hz : p < 18446744073709551616
  · obtain ⟨rfl, rfl⟩ := ez hz
    clear ez eb eo
    by_cases sa : a < 0
    · by_cases sb : b < 0
      · rw [ep (by simp [sa, sb])]
        clear ep en
        · clear cn
          have sa' : decide (a < 0) = true := by simpa using sa
          have sb' : decide (b < 0) = true := by simpa using sb
          go_enter Try.func36, Try.ntmps36
          go_wp2_with (first | (go_at_call 56; first | ((with_reducible refine (ca _).mono ?_); rintro e w' ⟨rfl, rfl⟩) | ((with_reducible refine (cb _).mono ?_); rintro e w' ⟨rfl, rfl⟩)) | (go_at_call 52; refine (cm _).mono ?_; rintro e w' ⟨rfl, rfl⟩) | (go_at_call 57; refine (cp _).mono ?_; rintro e w' ⟨rfl, rfl⟩))
          go_ret2
          exact ⟨rfl, rfl⟩
      · rw [en (by simp [sa, sb])]
        clear ep en
        · clear cp
          have sa' : decide (a < 0) = true := by simpa using sa
          have sb' : decide (b < 0) = false := by simpa using sb
          go_enter Try.func36, Try.ntmps36
          go_wp2_with (first | (go_at_call 56; first | ((with_reducible refine (ca _).mono ?_); rintro e w' ⟨rfl, rfl⟩) | ((with_reducible refine (cb _).mono ?_); rintro e w' ⟨rfl, rfl⟩)) | (go_at_call 52; refine (cm _).mono ?_; rintro e w' ⟨rfl, rfl⟩) | (go_at_call 57; refine (cn _).mono ?_; rintro e w' ⟨rfl, rfl⟩))
          go_ret2
          exact ⟨rfl, rfl⟩
    · by_cases sb : b < 0
      · rw [en (by simp [sa, sb])]
        clear ep en
        · clear cp
          have sa' : decide (a < 0) = false := by simpa using sa
          have sb' : decide (b < 0) = true := by simpa using sb
          go_enter Try.func36, Try.ntmps36
          go_wp2_with (first | (go_at_call 56; first | ((with_reducible refine (ca _).mono ?_); rintro e w' ⟨rfl, rfl⟩) | ((with_reducible refine (cb _).mono ?_); rintro e w' ⟨rfl, rfl⟩)) | (go_at_call 52; refine (cm _).mono ?_; rintro e w' ⟨rfl, rfl⟩) | (go_at_call 57; refine (cn _).mono ?_; rintro e w' ⟨rfl, rfl⟩))
          go_ret2
          exact ⟨rfl, rfl⟩
      · rw [ep (by simp [sa, sb])]
        clear ep en
        · clear cn
          have sa' : decide (a < 0) = false := by simpa using sa
          have sb' : decide (b < 0) = false := by simpa using sb
          go_enter Try.func36, Try.ntmps36
          go_wp2_with (first | (go_at_call 56; first | ((with_reducible refine (ca _).mono ?_); rintro e w' ⟨rfl, rfl⟩) | ((with_reducible refine (cb _).mono ?_); rintro e w' ⟨rfl, rfl⟩)) | (go_at_call 52; refine (cm _).mono ?_; rintro e w' ⟨rfl, rfl⟩) | (go_at_call 57; refine (cp _).mono ?_; rintro e w' ⟨rfl, rfl⟩))
          go_ret2
          exact ⟨rfl, rfl⟩
  · have hn : ((hi : Int) != 0) = true := by
      have := eb hz
      simp only [bne_iff_ne]; omega
    rw [(eo hz).1, (eo hz).2]
    clear ez eb eo ep en hz
    · clear cn
      go_enter Try.func36, Try.ntmps36
      go_wp2_with (first | (go_at_call 56; first | ((with_reducible refine (ca _).mono ?_); rintro e w' ⟨rfl, rfl⟩) | ((with_reducible refine (cb _).mono ?_); rintro e w' ⟨rfl, rfl⟩)) | (go_at_call 52; refine (cm _).mono ?_; rintro e w' ⟨rfl, rfl⟩) | (go_at_call 57; refine (cp _).mono ?_; rintro e w' ⟨rfl, rfl⟩))
      go_ret2
      exact ⟨rfl, rfl⟩

set_option maxHeartbeats 400000 in
theorem rmul_any (a b : Int) (a0 : -9223372036854775808 ≤ a) (a1 : a ≤ 9223372036854775807) (b0 : -9223372036854775808 ≤ b) (b1 : b ≤ 9223372036854775807) (w : World) :
    Calls Try.prog 37 #[.int .i64 a, .int .i64 b] w fun e w' => e = .returned (.tuple #[.int .i64 (fitV (a * b)), .int .i64 (fitE (a * b))]) ∧ w = w' := by
  have ha : a.natAbs < 18446744073709551616 := by omega
  have hb : b.natAbs < 18446744073709551616 := by omega
  have hlo : a.natAbs * b.natAbs % 18446744073709551616 < 18446744073709551616 := Nat.mod_lt _ (by omega)
  have ca := fun w => size_any a a0 a1 w
  have cb := fun w => size_any b b0 b1 w
  have cm := fun w => rwide_any _ _ ha hb w
  have cp := fun w => rsigned_pos _ hlo w
  have cn := fun w => rsigned_neg _ hlo w
  have ep : (a < 0) = (b < 0) → a * b = (a.natAbs * b.natAbs : Nat) := abs_mul_pos
  have en : (a < 0) ≠ (b < 0) → a * b = -((a.natAbs * b.natAbs : Nat) : Int) := abs_mul_neg
  have ez : a.natAbs * b.natAbs < 18446744073709551616 → a.natAbs * b.natAbs / 18446744073709551616 = 0 ∧ a.natAbs * b.natAbs % 18446744073709551616 = a.natAbs * b.natAbs := fun h => ⟨Nat.div_eq_of_lt h, Nat.mod_eq_of_lt h⟩
  have eb : ¬ a.natAbs * b.natAbs < 18446744073709551616 → 1 ≤ a.natAbs * b.natAbs / 18446744073709551616 := fun h => (Nat.le_div_iff_mul_le (by omega)).2 (by omega)
  have eo : ¬ a.natAbs * b.natAbs < 18446744073709551616 → fitV (a * b) = 0 ∧ fitE (a * b) = 9 := fun h => by
    rcases fitE_or (a * b) with ⟨_, _, h0, h1⟩ | ⟨h1, h2, _⟩
    · rw [← Int.natAbs_mul] at h; omega
    · exact ⟨h2, h1⟩
  generalize a.natAbs * b.natAbs / 18446744073709551616 = hi at *
  generalize a.natAbs * b.natAbs % 18446744073709551616 = lo at *
  generalize a.natAbs * b.natAbs = p at *
  generalize a.natAbs = ma at *
  generalize b.natAbs = mb at *
  by_cases hz : p < 18446744073709551616
  · obtain ⟨rfl, rfl⟩ := ez hz
    clear ez eb eo
    by_cases sa : a < 0
    · by_cases sb : b < 0
      · rw [ep (by simp [sa, sb])]
        clear ep en
        · clear cn
          have sa' : decide (a < 0) = true := by simpa using sa
          have sb' : decide (b < 0) = true := by simpa using sb
          go_enter Try.func37, Try.ntmps37
          go_wp2_with (first | (go_at_call 58; first | ((with_reducible refine (ca _).mono ?_); rintro e w' ⟨rfl, rfl⟩) | ((with_reducible refine (cb _).mono ?_); rintro e w' ⟨rfl, rfl⟩)) | (go_at_call 54; refine (cm _).mono ?_; rintro e w' ⟨rfl, rfl⟩) | (go_at_call 59; refine (cp _).mono ?_; rintro e w' ⟨rfl, rfl⟩))
          go_ret2
          exact ⟨rfl, rfl⟩
      · rw [en (by simp [sa, sb])]
        clear ep en
        · clear cp
          have sa' : decide (a < 0) = true := by simpa using sa
          have sb' : decide (b < 0) = false := by simpa using sb
          go_enter Try.func37, Try.ntmps37
          go_wp2_with (first | (go_at_call 58; first | ((with_reducible refine (ca _).mono ?_); rintro e w' ⟨rfl, rfl⟩) | ((with_reducible refine (cb _).mono ?_); rintro e w' ⟨rfl, rfl⟩)) | (go_at_call 54; refine (cm _).mono ?_; rintro e w' ⟨rfl, rfl⟩) | (go_at_call 59; refine (cn _).mono ?_; rintro e w' ⟨rfl, rfl⟩))
          go_ret2
          exact ⟨rfl, rfl⟩
    · by_cases sb : b < 0
      · rw [en (by simp [sa, sb])]
        clear ep en
        · clear cp
          have sa' : decide (a < 0) = false := by simpa using sa
          have sb' : decide (b < 0) = true := by simpa using sb
          go_enter Try.func37, Try.ntmps37
          go_wp2_with (first | (go_at_call 58; first | ((with_reducible refine (ca _).mono ?_); rintro e w' ⟨rfl, rfl⟩) | ((with_reducible refine (cb _).mono ?_); rintro e w' ⟨rfl, rfl⟩)) | (go_at_call 54; refine (cm _).mono ?_; rintro e w' ⟨rfl, rfl⟩) | (go_at_call 59; refine (cn _).mono ?_; rintro e w' ⟨rfl, rfl⟩))
          go_ret2
          exact ⟨rfl, rfl⟩
      · rw [ep (by simp [sa, sb])]
        clear ep en
        · clear cn
          have sa' : decide (a < 0) = false := by simpa using sa
          have sb' : decide (b < 0) = false := by simpa using sb
          go_enter Try.func37, Try.ntmps37
          go_wp2_with (first | (go_at_call 58; first | ((with_reducible refine (ca _).mono ?_); rintro e w' ⟨rfl, rfl⟩) | ((with_reducible refine (cb _).mono ?_); rintro e w' ⟨rfl, rfl⟩)) | (go_at_call 54; refine (cm _).mono ?_; rintro e w' ⟨rfl, rfl⟩) | (go_at_call 59; refine (cp _).mono ?_; rintro e w' ⟨rfl, rfl⟩))
          go_ret2
          exact ⟨rfl, rfl⟩
  · have hn : ((hi : Int) != 0) = true := by
      have := eb hz
      simp only [bne_iff_ne]; omega
    rw [(eo hz).1, (eo hz).2]
    clear ez eb eo ep en hz
    · clear cn
      go_enter Try.func37, Try.ntmps37
      go_wp2_with (first | (go_at_call 58; first | ((with_reducible refine (ca _).mono ?_); rintro e w' ⟨rfl, rfl⟩) | ((with_reducible refine (cb _).mono ?_); rintro e w' ⟨rfl, rfl⟩)) | (go_at_call 54; refine (cm _).mono ?_; rintro e w' ⟨rfl, rfl⟩) | (go_at_call 59; refine (cp _).mono ?_; rintro e w' ⟨rfl, rfl⟩))
      go_ret2
      exact ⟨rfl, rfl⟩
end Go.Proofs.Ytjblfmgiafdefaa.numB

/-
  Plain mathematics for package num: no program in sight. Ints that fit a word; the product of two words; Knuth's division of two digits by one; long division bit by bit; powers; Euclid.
-/
import Derived.Lib.Mul64
import Derived.Lib.BitFns
namespace Go.Proofs.YtppklkiodbnipaaDoor.numM
set_option linter.unusedVariables false

/-- the integer, or 0 where it is no int -/
def fitV (n : Int) : Int := if -9223372036854775808 ≤ n ∧ n ≤ 9223372036854775807 then n else 0
/-- OK, or ErrOverflow -/
def fitE (n : Int) : Int := if -9223372036854775808 ≤ n ∧ n ≤ 9223372036854775807 then 0 else 9
theorem fitV_in {n : Int} (h0 : -9223372036854775808 ≤ n) (h1 : n ≤ 9223372036854775807) : fitV n = n := if_pos ⟨h0, h1⟩
theorem fitE_in {n : Int} (h0 : -9223372036854775808 ≤ n) (h1 : n ≤ 9223372036854775807) : fitE n = 0 := if_pos ⟨h0, h1⟩
theorem fitV_lo {n : Int} (h : n < -9223372036854775808) : fitV n = 0 := if_neg (by omega)
theorem fitE_lo {n : Int} (h : n < -9223372036854775808) : fitE n = 9 := if_neg (by omega)
theorem fitV_hi {n : Int} (h : 9223372036854775807 < n) : fitV n = 0 := if_neg (by omega)
theorem fitE_hi {n : Int} (h : 9223372036854775807 < n) : fitE n = 9 := if_neg (by omega)
theorem fitV_bd (n : Int) : -9223372036854775808 ≤ fitV n ∧ fitV n ≤ 9223372036854775807 := by unfold fitV; split <;> omega
theorem fitE_or (n : Int) : (fitE n = 0 ∧ fitV n = n ∧ -9223372036854775808 ≤ n ∧ n ≤ 9223372036854775807) ∨ (fitE n = 9 ∧ fitV n = 0 ∧ ¬ (-9223372036854775808 ≤ n ∧ n ≤ 9223372036854775807)) := by
  by_cases h : -9223372036854775808 ≤ n ∧ n ≤ 9223372036854775807
  · exact .inl ⟨if_pos h, if_pos h, h⟩
  · exact .inr ⟨if_neg h, if_neg h, h⟩

/-! ### a product by the absolute values -/
theorem abs_mul_pos {a b : Int} (h : (a < 0) = (b < 0)) : a * b = (a.natAbs * b.natAbs : Nat) := by
  rw [← Int.natAbs_mul]
  have : 0 ≤ a * b := by
    by_cases ha : a < 0
    · have hb : b < 0 := h ▸ ha
      exact Int.mul_nonneg_of_nonpos_of_nonpos (by omega) (by omega)
    · have hb : ¬ b < 0 := h ▸ ha
      exact Int.mul_nonneg (by omega) (by omega)
  omega
theorem abs_mul_neg {a b : Int} (h : (a < 0) ≠ (b < 0)) : a * b = -((a.natAbs * b.natAbs : Nat) : Int) := by
  rw [← Int.natAbs_mul]
  have : a * b ≤ 0 := by
    by_cases ha : a < 0
    · by_cases hb : b < 0
      · exact absurd (by simp [ha, hb]) h
      · exact Int.mul_nonpos_of_nonpos_of_nonneg (by omega) (by omega)
    · by_cases hb : b < 0
      · exact Int.mul_nonpos_of_nonneg_of_nonpos (by omega) (by omega)
      · exact absurd (by simp [ha, hb]) h
  omega

/-! ### the product of two words, in halves -/
theorem wide_lo (x y : Nat) (hx : x < 18446744073709551616) (hy : y < 18446744073709551616) :
    ((((x / 4294967296) * (y % 4294967296) + (x % 4294967296) * (y % 4294967296) / 4294967296) % 4294967296 + (x % 4294967296) * (y / 4294967296)) % 4294967296) * 4294967296 + (x % 4294967296) * (y % 4294967296) % 4294967296 = x * y % 18446744073709551616 := by
  have e : x * y = (x / 4294967296) * (y / 4294967296) * (4294967296 * 4294967296) + ((x / 4294967296) * (y % 4294967296) + (x % 4294967296) * (y / 4294967296)) * 4294967296 + (x % 4294967296) * (y % 4294967296) := by
    rw [← Lib.split_mul, Nat.div_add_mod' x 4294967296, Nat.div_add_mod' y 4294967296]
  rw [e]
  generalize (x / 4294967296) * (y / 4294967296) = a
  generalize (x / 4294967296) * (y % 4294967296) = b
  generalize (x % 4294967296) * (y / 4294967296) = c
  generalize (x % 4294967296) * (y % 4294967296) = d
  omega

/-! ### Knuth's division of two words by one -/
/-- the trial quotient's invariant -/
theorem start_le (u yn1 yn0 un1 : Nat) (h1 : 0 < yn1) (hun : un1 < 4294967296) :
    (u * 4294967296 + un1) / (yn1 * 4294967296 + yn0) ≤ u / yn1 := by
  have hq : u < (u / yn1 + 1) * yn1 := by
    have := Nat.div_add_mod u yn1; have := Nat.mod_lt u h1
    rw [Nat.add_mul, Nat.mul_comm (u / yn1)]; omega
  apply Nat.le_of_lt_succ
  rw [Nat.div_lt_iff_lt_mul (by omega), Nat.succ_eq_add_one, Nat.mul_add, ← Nat.mul_assoc]
  have : 0 ≤ (u / yn1 + 1) * yn0 := Nat.zero_le _
  generalize (u / yn1 + 1) * yn0 = a at *
  generalize (u / yn1 + 1) * yn1 = b at *
  omega
theorem start_bd (u yn1 yn0 : Nat) (h1 : 2147483648 ≤ yn1) (h0 : yn0 < 4294967296) (hu : u < yn1 * 4294967296 + yn0) : u / yn1 ≤ 4294967297 := by
  apply Nat.le_of_lt_succ
  rw [Nat.div_lt_iff_lt_mul (by omega)]; omega
theorem start_eq (u yn1 : Nat) : u / yn1 * yn1 + (u - u / yn1 * yn1) = u := by
  have := Nat.div_mul_le_self u yn1; omega
theorem start_r (u yn1 : Nat) (h : 0 < yn1) : u - u / yn1 * yn1 < yn1 := by
  have h1 := Nat.div_add_mod u yn1; have h2 := Nat.mod_lt u h
  have e : u / yn1 * yn1 = yn1 * (u / yn1) := Nat.mul_comm _ _
  rw [e]; generalize yn1 * (u / yn1) = a at *; omega
theorem mul_split (q yn1 yn0 : Nat) : q * (yn1 * 4294967296 + yn0) = q * yn1 * 4294967296 + q * yn0 := by rw [Nat.mul_add, Nat.mul_assoc]
theorem big_lt (u yn1 yn0 un1 q : Nat) (hun : un1 < 4294967296) (hu : u < yn1 * 4294967296 + yn0) (hq : 4294967296 ≤ q) : u * 4294967296 + un1 < q * (yn1 * 4294967296 + yn0) := by
  have : 4294967296 * (yn1 * 4294967296 + yn0) ≤ q * (yn1 * 4294967296 + yn0) := Nat.mul_le_mul_right _ hq
  omega
theorem test_lt (u yn1 yn0 un1 q r : Nat) (he : q * yn1 + r = u) (ht : 4294967296 * r + un1 < q * yn0) : u * 4294967296 + un1 < q * (yn1 * 4294967296 + yn0) := by
  rw [mul_split]; generalize q * yn1 = a at *; omega
theorem down (u yn1 yn0 un1 q : Nat) (hy : 0 < yn1 * 4294967296 + yn0) (h : u * 4294967296 + un1 < q * (yn1 * 4294967296 + yn0)) : (u * 4294967296 + un1) / (yn1 * 4294967296 + yn0) ≤ q - 1 ∧ 1 ≤ q := by
  have h := (Nat.div_lt_iff_lt_mul hy).2 h
  generalize (u * 4294967296 + un1) / (yn1 * 4294967296 + yn0) = a at *; omega
theorem down_eq (u yn1 q r : Nat) (hq : 1 ≤ q) (he : q * yn1 + r = u) : (q - 1) * yn1 + (r + yn1) = u := by
  obtain ⟨k, rfl⟩ : ∃ k, q = k + 1 := ⟨q - 1, by omega⟩
  rw [Nat.add_sub_cancel]; rw [Nat.add_mul] at he; omega
theorem stop_eq (u yn1 yn0 un1 q r : Nat) (hy : 0 < yn1 * 4294967296 + yn0) (hle : (u * 4294967296 + un1) / (yn1 * 4294967296 + yn0) ≤ q) (he : q * yn1 + r = u) (ht : q * yn0 ≤ 4294967296 * r + un1) : q = (u * 4294967296 + un1) / (yn1 * 4294967296 + yn0) := by
  have : q * (yn1 * 4294967296 + yn0) ≤ u * 4294967296 + un1 := by rw [mul_split]; generalize q * yn1 = a at *; omega
  exact Nat.le_antisymm ((Nat.le_div_iff_mul_le hy).2 this) hle
theorem break_le (yn0 un1 q r : Nat) (h0 : yn0 < 4294967296) (hq : q ≤ 4294967296) (hr : 4294967296 ≤ r) : q * yn0 ≤ 4294967296 * r + un1 := by
  have : q * yn0 ≤ 4294967296 * yn0 := Nat.mul_le_mul_right _ hq
  omega
/-- the whole division in two digits -/
theorem two_digits (u y a b : Nat) (hy : 0 < y) (hu : u < y) (ha : a < 4294967296) (hb : b < 4294967296) :
    ((u * 4294967296 + a) / y * 4294967296 + ((u * 4294967296 + a) % y * 4294967296 + b) / y = (u * 18446744073709551616 + a * 4294967296 + b) / y) ∧
    ((u * 4294967296 + a) % y * 4294967296 + b) % y = (u * 18446744073709551616 + a * 4294967296 + b) % y := by
  have e : u * 18446744073709551616 + a * 4294967296 + b = ((u * 4294967296 + a) % y * 4294967296 + b) + ((u * 4294967296 + a) / y * 4294967296) * y := by
    have := Nat.div_add_mod (u * 4294967296 + a) y
    have e2 : (u * 4294967296 + a) / y * 4294967296 * y = y * ((u * 4294967296 + a) / y) * 4294967296 := by
      rw [Nat.mul_comm _ y, Nat.mul_assoc y]
    rw [e2]; omega
  rw [e]
  refine ⟨?_, ?_⟩
  · rw [Nat.add_mul_div_right _ _ hy, Nat.add_comm]
  · rw [Nat.add_mul_mod_self_right]
theorem shift_div (n y p : Nat) (hp : 0 < p) : (n * p) / (y * p) = n / y := Nat.mul_div_mul_right _ _ hp
theorem shift_mod (n y p : Nat) (hp : 0 < p) : (n * p) % (y * p) / p = n % y := by
  rw [Nat.mul_mod_mul_right]; exact Nat.mul_div_cancel _ hp

/-! ### the shift that brings a divisor to its full length -/
theorem bitLenAux_range : ∀ (f x : Nat), 0 < x → x < 2 ^ f → 1 ≤ Lib.bitLenAux f x ∧ 2 ^ (Lib.bitLenAux f x - 1) ≤ x ∧ x < 2 ^ Lib.bitLenAux f x
  | 0, x, h0, h => by simp at h; omega
  | f + 1, x, h0, h => by
    have e : Lib.bitLenAux (f + 1) x = 1 + Lib.bitLenAux f (x / 2) := by
      rw [Lib.bitLenAux]; rw [if_neg (by omega)]
    rw [e]
    by_cases h2 : 0 < x / 2
    · have := bitLenAux_range f (x / 2) h2 (by rw [Nat.pow_succ] at h; omega)
      generalize Lib.bitLenAux f (x / 2) = k at *
      obtain ⟨j, rfl⟩ : ∃ j, k = j + 1 := ⟨k - 1, by omega⟩
      simp only [Nat.add_sub_cancel, Nat.pow_succ, Nat.add_comm 1] at *
      omega
    · have hx : x = 1 := by omega
      subst hx
      have : Lib.bitLenAux f (1 / 2) = 0 := by cases f <;> simp [Lib.bitLenAux]
      rw [this]; simp
theorem norm_s (y : Nat) (h0 : 0 < y) (h : y < 18446744073709551616) : ∃ s : Nat, (64 - (Lib.bitLen y : Int)) = (s : Int) ∧ s ≤ 63 ∧ 9223372036854775808 ≤ y * 2 ^ s ∧ y * 2 ^ s < 18446744073709551616 := by
  obtain ⟨a, b, c⟩ := bitLenAux_range 64 y h0 (by omega)
  have d : Lib.bitLenAux 64 y ≤ 64 := Lib.bitLen_le y 64 (by omega) (by omega)
  unfold Lib.bitLen
  generalize Lib.bitLenAux 64 y = k at *
  refine ⟨64 - k, by omega, by omega, ?_, ?_⟩
  · have e : (2 : Nat) ^ (k - 1) * 2 ^ (64 - k) = 2 ^ 63 := by rw [← Nat.pow_add]; congr 1; omega
    have := Nat.mul_le_mul_right (2 ^ (64 - k)) b
    rw [e] at this; omega
  · have e : (2 : Nat) ^ k * 2 ^ (64 - k) = 2 ^ 64 := by rw [← Nat.pow_add]; congr 1; omega
    have := Nat.mul_lt_mul_of_pos_right c (show 0 < 2 ^ (64 - k) from Nat.pos_of_ne_zero (by simp))
    rw [e] at this; omega
/-- what the shifted dividend is -/
theorem norm_u (hi lo y s : Nat) (hs : s ≤ 63) (hlt : hi < y) (hlo : lo < 18446744073709551616) (hY : y * 2 ^ s < 18446744073709551616) :
    hi * 2 ^ s < 18446744073709551616 ∧ lo / 2 ^ (64 - s) < 18446744073709551616 ∧ (hi * 2 ^ s ||| lo / 2 ^ (64 - s)) = hi * 2 ^ s + lo / 2 ^ (64 - s) ∧ hi * 2 ^ s + lo / 2 ^ (64 - s) < y * 2 ^ s ∧
    (hi * 2 ^ s + lo / 2 ^ (64 - s)) * 18446744073709551616 + lo * 2 ^ s % 18446744073709551616 = (hi * 18446744073709551616 + lo) * 2 ^ s := by
  have hP : 0 < 2 ^ s := Nat.pos_of_ne_zero (by simp)
  have hQ : 0 < 2 ^ (64 - s) := Nat.pos_of_ne_zero (by simp)
  have e : (2 : Nat) ^ (64 - s) * 2 ^ s = 18446744073709551616 := by rw [← Nat.pow_add, show 64 - s + s = 64 by omega]
  have hq : lo / 2 ^ (64 - s) < 2 ^ s := by
    rw [Nat.div_lt_iff_lt_mul hQ, Nat.mul_comm, e]; exact hlo
  have hle : (hi + 1) * 2 ^ s ≤ y * 2 ^ s := Nat.mul_le_mul_right _ (by omega)
  rw [Nat.add_mul, Nat.one_mul] at hle
  have e4 : lo * 2 ^ s / 18446744073709551616 = lo / 2 ^ (64 - s) := by rw [← e, Nat.mul_div_mul_right _ _ hP]
  have e5 := Nat.div_add_mod (lo * 2 ^ s) 18446744073709551616
  rw [e4] at e5
  refine ⟨by omega, by omega, ?_, by omega, ?_⟩
  · rw [Nat.mul_comm hi, Nat.two_pow_add_eq_or_of_lt hq]
  · have e6 : (hi * 18446744073709551616 + lo) * 2 ^ s = hi * 2 ^ s * 18446744073709551616 + lo * 2 ^ s := by rw [Nat.add_mul, Nat.mul_right_comm]
    rw [e6]; generalize lo * 2 ^ s % 18446744073709551616 = m at *; generalize lo * 2 ^ s = n at *; generalize hi * 2 ^ s = a at *; omega
/-- a difference of two wrapped numbers is the small number that it is -/
theorem wsub (N M V : Nat) (hV : V < 18446744073709551616) (h : N = M + V) : (((N % 18446744073709551616 : Nat) : Int) - ((M % 18446744073709551616 : Nat) : Int)) % 18446744073709551616 = (V : Int) := by omega

/-! ### long division, bit by bit -/
theorem bit_lo (hi lo i : Nat) (h : i < 64) : (hi * 18446744073709551616 + lo) / 2 ^ i % 2 = lo / 2 ^ i % 2 := by
  have e : (18446744073709551616 : Nat) = 2 ^ (63 - i) * 2 * 2 ^ i := by rw [← Nat.pow_succ, ← Nat.pow_add, show 63 - i + 1 + i = 64 by omega]
  rw [e, ← Nat.mul_assoc, ← Nat.mul_assoc, Nat.add_comm, Nat.add_mul_div_right _ _ (Nat.pos_of_ne_zero (by simp)), Nat.add_mul_mod_self_right]
theorem bit_hi (hi lo i : Nat) (hlo : lo < 18446744073709551616) (h : 64 ≤ i) : (hi * 18446744073709551616 + lo) / 2 ^ i % 2 = hi / 2 ^ (i - 64) % 2 := by
  have e : (2 : Nat) ^ i = 18446744073709551616 * 2 ^ (i - 64) := by rw [show (18446744073709551616 : Nat) = 2 ^ 64 by rfl, ← Nat.pow_add, show 64 + (i - 64) = i by omega]
  rw [e, ← Nat.div_div_eq_div_mul, show (hi * 18446744073709551616 + lo) / 18446744073709551616 = hi by omega]
theorem half_pow (x k : Nat) : x / 2 ^ k / 2 = x / 2 ^ (k + 1) := by rw [Nat.div_div_eq_div_mul, Nat.pow_succ]
/-- the quotient and the rest of the first bits -/
structure Lg (N c k q r : Nat) : Prop where
  q : q = N / 2 ^ k / c
  r : r = N / 2 ^ k % c
theorem Lg.start (N c : Nat) (hN : N < 340282366920938463463374607431768211456) (hc : 0 < c) : Lg N c 128 0 0 := by
  have : N / 2 ^ 128 = 0 := Nat.div_eq_of_lt (by simpa using hN)
  exact ⟨by rw [this]; simp, by rw [this]; simp⟩
theorem Lg.step {N c k q r : Nat} (hc : 0 < c) (h : Lg N c (k + 1) q r) :
    (2 * r + N / 2 ^ k % 2 < c → Lg N c k (2 * q) (2 * r + N / 2 ^ k % 2)) ∧ (c ≤ 2 * r + N / 2 ^ k % 2 → Lg N c k (2 * q + 1) (2 * r + N / 2 ^ k % 2 - c)) := by
  have e := half_pow N k
  obtain ⟨h1, h2⟩ := h
  rw [← e] at h1 h2
  have h3 := Nat.div_add_mod (N / 2 ^ k / 2) c
  have h4 := Nat.mod_lt (N / 2 ^ k / 2) hc
  rw [← h1, ← h2] at h3
  rw [← h2] at h4
  have h5 : N / 2 ^ k = 2 * (N / 2 ^ k / 2) + N / 2 ^ k % 2 := by omega
  have hb : N / 2 ^ k % 2 < 2 := Nat.mod_lt _ (by omega)
  generalize N / 2 ^ k % 2 = b at *
  have key : ∀ q' r', N / 2 ^ k = c * q' + r' → r' < c → Lg N c k q' r' := fun q' r' e1 e2 => by
    refine ⟨?_, ?_⟩
    · rw [e1, Nat.mul_add_div hc, Nat.div_eq_of_lt e2, Nat.add_zero]
    · rw [e1, Nat.mul_add_mod, Nat.mod_eq_of_lt e2]
  refine ⟨fun hlt => key _ _ ?_ hlt, fun hge => key _ _ ?_ (by omega)⟩
  · rw [h5, ← h3, Nat.mul_left_comm c 2 q]; omega
  · have e9 : c * (2 * q + 1) = 2 * (c * q) + c := by rw [Nat.mul_add, Nat.mul_left_comm, Nat.mul_one]
    rw [h5, ← h3, e9]; omega
theorem Lg.done {N c q r : Nat} (h : Lg N c 0 q r) : q = N / c ∧ r = N % c := by
  obtain ⟨h1, h2⟩ := h
  rw [Nat.pow_zero, Nat.div_one] at h1 h2
  exact ⟨h1, h2⟩
theorem Lg.bound {N c k q r : Nat} (hN : N < c * 18446744073709551616) (hc : 0 < c) (h : Lg N c (k + 1) q r) : q ≤ 9223372036854775807 ∧ r < c := by
  obtain ⟨h1, h2⟩ := h
  refine ⟨?_, by rw [h2]; exact Nat.mod_lt _ hc⟩
  have a : N / 2 ^ (k + 1) ≤ N / 2 := by
    rw [Nat.pow_succ, Nat.mul_comm, ← Nat.div_div_eq_div_mul]; exact Nat.div_le_self _ _
  have b : N / 2 ^ (k + 1) / c ≤ N / 2 / c := Nat.div_le_div_right a
  have d : N / 2 / c < 9223372036854775808 := by
    rw [Nat.div_lt_iff_lt_mul hc]
    rw [Nat.mul_comm] at hN
    have : 18446744073709551616 * c = 2 * (9223372036854775808 * c) := by rw [← Nat.mul_assoc]
    omega
  omega

/-! ### what MulDiv returns -/
def mdE (a b c : Int) : Int := if c = 0 then 10 else if a < 0 ∨ b < 0 ∨ c < 0 then 2 else if a * b / c ≤ 9223372036854775807 then 0 else 9
def mdQ (a b c : Int) : Int := if mdE a b c = 0 then a * b / c else 0
def mdR (a b c : Int) : Int := if mdE a b c = 0 then a * b % c else 0
theorem md_zero (a b : Int) : mdE a b 0 = 10 ∧ mdQ a b 0 = 0 ∧ mdR a b 0 = 0 := by
  have h : mdE a b 0 = 10 := if_pos rfl
  exact ⟨h, by unfold mdQ; rw [h]; rfl, by unfold mdR; rw [h]; rfl⟩
theorem md_neg (a b c : Int) (hc : c ≠ 0) (h : a < 0 ∨ b < 0 ∨ c < 0) : mdE a b c = 2 ∧ mdQ a b c = 0 ∧ mdR a b c = 0 := by
  have h : mdE a b c = 2 := by unfold mdE; rw [if_neg hc, if_pos h]
  exact ⟨h, by unfold mdQ; rw [h]; rfl, by unfold mdR; rw [h]; rfl⟩
theorem md_ok (x y z : Nat) (hz : 0 < z) (h : x * y / z ≤ 9223372036854775807) : mdE x y z = 0 ∧ mdQ x y z = ((x * y / z : Nat) : Int) ∧ mdR x y z = ((x * y % z : Nat) : Int) := by
  have e : ((x : Int) * y / z) = ((x * y / z : Nat) : Int) := by simp
  have e2 : ((x : Int) * y % z) = ((x * y % z : Nat) : Int) := by simp
  have h : mdE x y z = 0 := by unfold mdE; rw [if_neg (by omega), if_neg (by omega), if_pos (by rw [e]; omega)]
  exact ⟨h, by unfold mdQ; rw [h, if_pos rfl, e], by unfold mdR; rw [h, if_pos rfl, e2]⟩
theorem md_over (x y z : Nat) (hz : 0 < z) (h : ¬ x * y / z ≤ 9223372036854775807) : mdE x y z = 9 ∧ mdQ x y z = 0 ∧ mdR x y z = 0 := by
  have e : ((x : Int) * y / z) = ((x * y / z : Nat) : Int) := by simp
  have h : mdE x y z = 9 := by unfold mdE; rw [if_neg (by omega), if_neg (by omega), if_neg (by rw [e]; omega)]
  exact ⟨h, by unfold mdQ; rw [h]; rfl, by unfold mdR; rw [h]; rfl⟩
theorem words (p : Nat) : p / 18446744073709551616 * 18446744073709551616 + p % 18446744073709551616 = p := by omega
theorem big_quot (p z : Nat) (hz : 0 < z) (h : z ≤ p / 18446744073709551616) : ¬ p / z ≤ 9223372036854775807 := by
  intro hle
  have h1 : z * 18446744073709551616 ≤ p := by omega
  have : 18446744073709551616 ≤ p / z := by rw [Nat.le_div_iff_mul_le hz, Nat.mul_comm]; exact h1
  omega
theorem word_lt (p z : Nat) (h : ¬ z ≤ p / 18446744073709551616) : p < z * 18446744073709551616 := by omega

/-! ### powers -/
/-- the k-th power and its error: as long as all goes well, the product of the one before and a -/
def pw (a : Int) : Nat → Int × Int
  | 0 => (1, 0)
  | k + 1 => if (pw a k).2 = 0 then (fitV ((pw a k).1 * a), fitE ((pw a k).1 * a)) else (0, 9)
theorem pw_bd (a : Int) (k : Nat) : -9223372036854775808 ≤ (pw a k).1 ∧ (pw a k).1 ≤ 9223372036854775807 := by
  cases k with
  | zero => simp [pw]
  | succ k =>
    unfold pw; split
    · exact fitV_bd _
    · simp
theorem pw_step {a : Int} {k : Nat} (h : (pw a k).2 = 0) : pw a (k + 1) = (fitV ((pw a k).1 * a), fitE ((pw a k).1 * a)) := by rw [pw, if_pos h]
theorem pw_no {a : Int} {k : Nat} (h : (pw a k).2 ≠ 0) : pw a (k + 1) = (0, 9) := by rw [pw, if_neg h]
theorem fitE_ne {n : Int} (h : fitE n ≠ 0) : fitE n = 9 ∧ fitV n = 0 := by
  rcases fitE_or n with ⟨h1, _⟩ | ⟨h1, h2, _⟩
  · exact absurd h1 h
  · exact ⟨h1, h2⟩
theorem pw_or (a : Int) (k : Nat) : (pw a k).2 = 0 ∨ pw a k = (0, 9) := by
  cases k with
  | zero => exact .inl rfl
  | succ k =>
    by_cases h : (pw a k).2 = 0
    · rw [pw_step h]
      by_cases h2 : fitE ((pw a k).1 * a) = 0
      · exact .inl h2
      · obtain ⟨e1, e2⟩ := fitE_ne h2
        exact .inr (by rw [e1, e2])
    · exact .inr (pw_no h)
/-- an error stays -/
theorem pw_stays {a : Int} {k : Nat} (h : (pw a k).2 ≠ 0) : ∀ j, k ≤ j → pw a j = (0, 9) := by
  intro j hj
  induction j with
  | zero => obtain rfl : k = 0 := by omega
            exact absurd rfl h
  | succ j ih =>
    by_cases e : k = j + 1
    · subst e; exact (pw_or a (j + 1)).resolve_left h
    · exact pw_no (by rw [ih (by omega)]; decide)
def pwV (a n : Int) : Int := if n < 0 ∨ 62 < n then 0 else (pw a n.toNat).1
def pwE (a n : Int) : Int := if n < 0 ∨ 62 < n then 2 else (pw a n.toNat).2
theorem pw_out {a n : Int} (h : n < 0 ∨ 62 < n) : pwV a n = 0 ∧ pwE a n = 2 := ⟨if_pos h, if_pos h⟩
theorem pw_in {a : Int} {n : Nat} (h : n ≤ 62) : pwV a n = (pw a n).1 ∧ pwE a n = (pw a n).2 := ⟨if_neg (by omega), if_neg (by omega)⟩

/-! ### Euclid -/
def gcdV (a b : Int) : Int := if Nat.gcd a.natAbs b.natAbs ≤ 9223372036854775807 then (Nat.gcd a.natAbs b.natAbs : Int) else 0
theorem gcd_step (x y : Nat) : Nat.gcd x y = Nat.gcd y (x % y) := by rw [Nat.gcd_comm x y, Nat.gcd_rec y x, Nat.gcd_comm]
/-- Euclid's steps are few: from the first one on the product halves -/
def Few (i x y : Nat) : Prop := (i = 0 ∧ x < 18446744073709551616 ∧ y < 18446744073709551616) ∨ (1 ≤ i ∧ y < x ∧ x < 18446744073709551616 ∧ x * y * 2 ^ (i - 1) < 340282366920938463463374607431768211456)
theorem Few.step {i x y : Nat} (h : Few i x y) (hy : 0 < y) : Few (i + 1) y (x % y) := by
  have hm := Nat.mod_lt x hy
  rcases h with ⟨rfl, hx, hy1⟩ | ⟨hi, hlt, hx, hp⟩
  · refine .inr ⟨by omega, hm, hy1, ?_⟩
    have : y * (x % y) < 18446744073709551616 * 18446744073709551616 := Nat.mul_lt_mul'' hy1 (by omega)
    simpa using this
  · refine .inr ⟨by omega, hm, by omega, ?_⟩
    have h2 : 2 * (x % y) ≤ x := by
      have := Nat.div_add_mod x y
      have h1 : 1 ≤ x / y := (Nat.le_div_iff_mul_le hy).2 (by omega)
      have h3 : y * 1 ≤ y * (x / y) := Nat.mul_le_mul_left y h1
      omega
    have h3 : y * (2 * (x % y)) ≤ y * x := Nat.mul_le_mul_left y h2
    obtain ⟨j, rfl⟩ : ∃ j, i = j + 1 := ⟨i - 1, by omega⟩
    rw [Nat.add_sub_cancel] at hp ⊢
    rw [Nat.pow_succ]
    have h4 : y * (x % y) * (2 ^ j * 2) = y * (2 * (x % y)) * 2 ^ j := by
      rw [Nat.mul_comm (2 ^ j) 2, ← Nat.mul_assoc, Nat.mul_assoc y, Nat.mul_comm (x % y) 2]
    rw [h4]
    refine Nat.lt_of_le_of_lt (Nat.mul_le_mul_right _ h3) ?_
    rw [Nat.mul_comm y x]; exact hp
theorem Few.end {i x y : Nat} (h : Few i x y) (hy : 0 < y) : i < 200 := by
  rcases h with ⟨rfl, _⟩ | ⟨hi, hlt, hx, hp⟩
  · omega
  · by_cases hl : i < 200
    · exact hl
    · have h1 : 1 ≤ x * y := Nat.mul_pos (by omega) hy
      have h2 : 2 ^ 199 ≤ 2 ^ (i - 1) := Nat.pow_le_pow_right (by omega) (by omega)
      have h3 : 1 * 2 ^ 199 ≤ x * y * 2 ^ (i - 1) := Nat.mul_le_mul h1 h2
      have h4 : (340282366920938463463374607431768211456 : Nat) ≤ 1 * 2 ^ 199 := by decide
      omega
theorem gcdV_eq (a b : Int) {x : Nat} (h : Nat.gcd a.natAbs b.natAbs = x) : (x ≤ 9223372036854775807 → gcdV a b = x) ∧ (¬ x ≤ 9223372036854775807 → gcdV a b = 0) := by
  subst h
  exact ⟨fun h => if_pos h, fun h => if_neg h⟩
end Go.Proofs.YtppklkiodbnipaaDoor.numM

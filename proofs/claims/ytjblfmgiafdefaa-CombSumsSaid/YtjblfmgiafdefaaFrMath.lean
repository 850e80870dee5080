/-
  Fractions in lowest terms: plain mathematics.
-/
import Derived.Test.YtjblfmgiafdefaaNatMath
import Derived.Lib.Hide
namespace Go.Proofs.Ytjblfmgiafdefaa.frM
open Go.Proofs.Ytjblfmgiafdefaa.natM
set_option linter.unusedVariables false

/-- in lowest terms -/
def Low (X Y : Nat) : Prop := 0 < Y ∧ Nat.gcd X Y = 1
def q (X Y : Nat) : Rat := mkRat (X : Int) Y
/-- what a call answers: error, numerator, denominator -/
abbrev Ans := Int × Nat × Nat
def no (e : Int) : Ans := (e, 0, 0)
def rd (X Y : Nat) : Ans := (0, X / Nat.gcd X Y, Y / Nat.gcd X Y)

theorem gcd_pos {X Y : Nat} (h : 0 < Y) : 0 < Nat.gcd X Y := Nat.gcd_pos_of_pos_right X h
theorem rd_low {X Y : Nat} (h : 0 < Y) : Low (X / Nat.gcd X Y) (Y / Nat.gcd X Y) := by
  have hg := gcd_pos (X := X) h
  refine ⟨Nat.div_pos (Nat.le_of_dvd h (Nat.gcd_dvd_right X Y)) hg, ?_⟩
  rw [Nat.gcd_div (Nat.gcd_dvd_left X Y) (Nat.gcd_dvd_right X Y), Nat.div_self hg]
theorem rd_of_low {X Y : Nat} (h : Low X Y) : rd X Y = (0, X, Y) := by
  unfold rd; rw [h.2, Nat.div_one, Nat.div_one]
theorem rd_q {X Y : Nat} (h : 0 < Y) : q (X / Nat.gcd X Y) (Y / Nat.gcd X Y) = q X Y := by
  have hg := gcd_pos (X := X) h
  have e := rd_low (X := X) h
  unfold q
  rw [Rat.mkRat_eq_iff (by have := e.1; omega) (by omega)]
  have h1 := Nat.div_mul_cancel (Nat.gcd_dvd_left X Y)
  have h2 := Nat.div_mul_cancel (Nat.gcd_dvd_right X Y)
  generalize X / Nat.gcd X Y = a at *
  generalize Y / Nat.gcd X Y = b at *
  generalize Nat.gcd X Y = g at *
  subst h1
  subst h2
  rw [← Int.natCast_mul, ← Int.natCast_mul]
  congr 1
  rw [Nat.mul_comm b g, ← Nat.mul_assoc]
theorem q_eq {X Y Z W : Nat} (h : 0 < Y) (h2 : 0 < W) : q X Y = q Z W ↔ X * W = Z * Y := by
  unfold q
  rw [Rat.mkRat_eq_iff (by omega) (by omega), ← Int.natCast_mul, ← Int.natCast_mul]
  exact Int.ofNat_inj
theorem low_inj {X Y Z W : Nat} (h : Low X Y) (h2 : Low Z W) (e : q X Y = q Z W) : X = Z ∧ Y = W := by
  rw [q_eq h.1 h2.1] at e
  have c1 : Nat.Coprime Y X := by rw [Nat.Coprime, Nat.gcd_comm]; exact h.2
  have c2 : Nat.Coprime W Z := by rw [Nat.Coprime, Nat.gcd_comm]; exact h2.2
  have d1 : Y ∣ W := c1.dvd_of_dvd_mul_left (e ▸ Nat.dvd_mul_left Y Z)
  have d2 : W ∣ Y := c2.dvd_of_dvd_mul_left (e ▸ Nat.dvd_mul_left W X)
  have e2 : Y = W := Nat.dvd_antisymm d1 d2
  subst e2
  exact ⟨Nat.eq_of_mul_eq_mul_right h.1 e, rfl⟩
theorem q_add {X Y Z W : Nat} (h : 0 < Y) (h2 : 0 < W) : q (X * W + Z * Y) (Y * W) = q X Y + q Z W := by
  unfold q
  rw [Rat.mkRat_add_mkRat _ _ (by omega) (by omega)]
  simp
theorem q_mul {X Y Z W : Nat} : q (X * Z) (Y * W) = q X Y * q Z W := by
  unfold q
  rw [Rat.mkRat_mul_mkRat]
  simp
theorem q_sub {X Y Z W : Nat} (h : 0 < Y) (h2 : 0 < W) (hle : Z * Y ≤ X * W) : q (X * W - Z * Y) (Y * W) = q X Y - q Z W := by
  have e : q (X * W - Z * Y) (Y * W) + q Z W = q X Y := by
    rw [← q_add (Nat.mul_pos h h2) h2, q_eq (Nat.mul_pos (Nat.mul_pos h h2) h2) h]
    have e1 : Z * (Y * W) = Z * Y * W := (Nat.mul_assoc _ _ _).symm
    rw [e1, ← Nat.add_mul, Nat.sub_add_cancel hle, Nat.mul_assoc X W W, Nat.mul_assoc X, Nat.mul_assoc Y W W, Nat.mul_comm Y]
  rw [← e]
  exact (Rat.add_sub_cancel).symm
theorem q_div {X Y Z W : Nat} (h : 0 < W) (hz : 0 < Z) : q (X * W) (Y * Z) = q X Y * (q Z W)⁻¹ := by
  rw [q_mul]
  congr 1
  symm
  apply Rat.inv_eq_of_mul_eq_one
  rw [← q_mul, Nat.mul_comm W Z]
  have : q (Z * W) (Z * W) = q 1 1 := by
    rw [q_eq (Nat.mul_pos hz h) (by omega)]
    omega
  rw [this]; rfl
theorem q_zero {Y : Nat} : q 0 Y = 0 := by unfold q; simp
theorem q_one : q 1 1 = 1 := rfl
theorem q_ne {X Y : Nat} (h : 0 < Y) : q X Y = 0 ↔ X = 0 := by
  unfold q
  rw [Rat.mkRat_eq_zero (by omega)]
  omega
theorem q_lt {X Y Z W : Nat} (h : Low X Y) (h2 : Low Z W) : q X Y < q Z W ↔ X * W < Z * Y := by
  have e1 : q X Y = ⟨(X : Int), Y, by have := h.1; omega, by simpa [Nat.Coprime] using h.2⟩ := (Rat.mk_eq_mkRat _ _ _ _).symm
  have e2 : q Z W = ⟨(Z : Int), W, by have := h2.1; omega, by simpa [Nat.Coprime] using h2.2⟩ := (Rat.mk_eq_mkRat _ _ _ _).symm
  rw [Rat.lt_iff, e1, e2]
  show (X : Int) * (W : Int) < (Z : Int) * (Y : Int) ↔ _
  rw [← Int.natCast_mul, ← Int.natCast_mul]
  exact Int.ofNat_lt

/-- how two values compare -/
def cmpQ (r s : Rat) : Int := if r < s then -1 else if s < r then 1 else 0
theorem cmp_q {X Y Z W : Nat} (h : Low X Y) (h2 : Low Z W) : cmpI (X * W) (Z * Y) = cmpQ (q X Y) (q Z W) := by
  unfold cmpQ cmpI
  have e1 := propext (q_lt h h2)
  have e2 := propext (q_lt h2 h)
  simp only [e1, e2]
theorem cmpQ_add (r s t : Rat) : cmpQ (r + t) (s + t) = cmpQ r s := by
  unfold cmpQ
  have e1 := propext (Rat.add_lt_add_right (a := r) (b := s) (c := t))
  have e2 := propext (Rat.add_lt_add_right (a := s) (b := r) (c := t))
  simp only [e1, e2]
theorem cmpQ_self (r : Rat) : cmpQ r r = 0 := by
  unfold cmpQ
  rw [if_neg (Rat.lt_irrefl), if_neg (Rat.lt_irrefl)]
theorem cmpQ_anti (r s : Rat) : cmpQ r s = -cmpQ s r := by
  unfold cmpQ
  by_cases h : r < s
  · have h2 : ¬ s < r := fun h2 => (Rat.lt_iff_le_and_not_ge.1 h).2 (Rat.lt_iff_le_and_not_ge.1 h2).1
    simp [h, h2]
  · by_cases h2 : s < r
    · simp [h, h2]
    · simp [h, h2]
theorem cmpQ_zero {r s : Rat} : cmpQ r s = 0 ↔ r = s := by
  unfold cmpQ
  constructor
  · intro h
    by_cases h1 : r < s
    · simp [h1] at h
    · by_cases h2 : s < r
      · simp [h1, h2] at h
      · exact Rat.le_antisymm (Rat.not_lt.1 h2) (Rat.not_lt.1 h1)
  · rintro rfl
    rw [if_neg (Rat.lt_irrefl), if_neg (Rat.lt_irrefl)]

/-! ### answers -/
def big (v : Nat) : Bool := decide (64 < nlen 4294967296 v)
def addA (a b : Bool) (X Y Z W : Nat) : Ans := if a && b then (if big (X * W) || big (Z * Y) || big (Y * W) || big (X * W + Z * Y) then no 9 else rd (X * W + Z * Y) (Y * W)) else no 2
def subA (a b : Bool) (X Y Z W : Nat) : Ans := if a && b && decide (Z * Y ≤ X * W) then (if big (X * W) || big (Z * Y) || big (Y * W) then no 9 else rd (X * W - Z * Y) (Y * W)) else no 2
def mulA (a b : Bool) (X Y Z W : Nat) : Ans := if a && b then (if big (X * Z) || big (Y * W) then no 9 else rd (X * Z) (Y * W)) else no 2
def divA (a b : Bool) (X Y Z W : Nat) : Ans := if a && b then (if Z = 0 then no 10 else if big (X * W) || big (Y * Z) then no 9 else rd (X * W) (Y * Z)) else no 2
theorem big_no {v : Nat} (h : nlen 4294967296 v ≤ 64) : big v = false := by unfold big; rw [decide_eq_false]; omega
theorem big_iff {v : Nat} : big v = false ↔ nlen 4294967296 v ≤ 64 := by unfold big; rw [decide_eq_false_iff_not]; omega
/-- a fraction in lowest terms of this value, of at most k limbs in each part -/
structure Is (N D : Nat) (r : Rat) (k : Nat) : Prop where
  low : Low N D
  val : q N D = r
  num : N < 4294967296 ^ k
  den : D < 4294967296 ^ k
theorem pow_lt {x y i j : Nat} (h : x < 4294967296 ^ i) (h2 : y < 4294967296 ^ j) : x * y < 4294967296 ^ (i + j) := by
  rw [Nat.pow_add]
  exact Nat.mul_lt_mul'' h h2
theorem pow_up {x i j : Nat} (h : x < 4294967296 ^ i) (hij : i ≤ j) : x < 4294967296 ^ j := Nat.lt_of_lt_of_le h (Nat.pow_le_pow_right (by omega) hij)
theorem pow_sum {x y k : Nat} (h : x < 4294967296 ^ k) (h2 : y < 4294967296 ^ k) : x + y < 4294967296 ^ (k + 1) := by
  rw [Nat.pow_succ]; omega
theorem len_of {x k : Nat} (h : x < 4294967296 ^ k) (hk : k ≤ 64) : nlen 4294967296 x ≤ 64 := nlen_le (by omega) (pow_up h hk)
theorem is_rd {X Y k : Nat} {r : Rat} (h : 0 < Y) (e : q X Y = r) (hX : X < 4294967296 ^ k) (hY : Y < 4294967296 ^ k) : ∃ N D, rd X Y = (0, N, D) ∧ Is N D r k :=
  ⟨_, _, rfl, rd_low h, (rd_q h).trans e, Nat.lt_of_le_of_lt (Nat.div_le_self _ _) hX, Nat.lt_of_le_of_lt (Nat.div_le_self _ _) hY⟩
theorem is_add {X Y Z W k j : Nat} {r s : Rat} (h : Is X Y r k) (h2 : Is Z W s j) (hk : k + j + 1 ≤ 64) : ∃ N D, addA true true X Y Z W = (0, N, D) ∧ Is N D (r + s) (k + j + 1) := by
  have e1 := pow_lt h.num h2.den
  have e2 := pow_lt h2.num h.den
  have e3 := pow_lt h.den h2.den
  rw [Nat.add_comm j k] at e2
  have e4 := pow_sum e1 e2
  unfold addA
  rw [big_no (len_of e1 (by omega)), big_no (len_of e2 (by omega)), big_no (len_of e3 (by omega)), big_no (len_of e4 (by omega))]
  simp only [Bool.and_self, Bool.or_self, if_true, Bool.false_eq_true, if_false]
  refine is_rd (Nat.mul_pos h.low.1 h2.low.1) ?_ e4 (pow_up e3 (by omega))
  rw [q_add h.low.1 h2.low.1, h.val, h2.val]
theorem is_mul {X Y Z W k j : Nat} {r s : Rat} (h : Is X Y r k) (h2 : Is Z W s j) (hk : k + j ≤ 64) : ∃ N D, mulA true true X Y Z W = (0, N, D) ∧ Is N D (r * s) (k + j) := by
  have e1 := pow_lt h.num h2.num
  have e3 := pow_lt h.den h2.den
  unfold mulA
  rw [big_no (len_of e1 (by omega)), big_no (len_of e3 (by omega))]
  simp only [Bool.and_self, Bool.or_self, if_true, Bool.false_eq_true, if_false]
  refine is_rd (Nat.mul_pos h.low.1 h2.low.1) ?_ e1 e3
  rw [q_mul, h.val, h2.val]
theorem is_sub {X Y Z W k j : Nat} {r s : Rat} (h : Is X Y r k) (h2 : Is Z W s j) (hk : k + j ≤ 64) (hle : s ≤ r) : ∃ N D, subA true true X Y Z W = (0, N, D) ∧ Is N D (r - s) (k + j) := by
  have e1 := pow_lt h.num h2.den
  have e2 := pow_lt h2.num h.den
  have e3 := pow_lt h.den h2.den
  rw [Nat.add_comm j k] at e2
  have hl : Z * Y ≤ X * W := by
    apply Nat.le_of_not_lt
    intro hc
    rw [← q_lt h.low h2.low, h.val, h2.val] at hc
    exact Rat.not_lt.2 hle hc
  unfold subA
  rw [big_no (len_of e1 (by omega)), big_no (len_of e2 (by omega)), big_no (len_of e3 (by omega))]
  simp only [Bool.and_self, Bool.or_self, if_true, Bool.false_eq_true, if_false, Bool.true_and, decide_eq_true_eq, hl]
  refine is_rd (Nat.mul_pos h.low.1 h2.low.1) ?_ (Nat.lt_of_le_of_lt (Nat.sub_le _ _) e1) e3
  rw [q_sub h.low.1 h2.low.1 hl, h.val, h2.val]
theorem is_div {X Y Z W k j : Nat} {r s : Rat} (h : Is X Y r k) (h2 : Is Z W s j) (hk : k + j ≤ 64) (hz : 0 < Z) : ∃ N D, divA true true X Y Z W = (0, N, D) ∧ Is N D (r * s⁻¹) (k + j) := by
  have e1 := pow_lt h.num h2.den
  have e3 := pow_lt h.den h2.num
  have hz2 : Z ≠ 0 := by omega
  unfold divA
  rw [big_no (len_of e1 (by omega)), big_no (len_of e3 (by omega))]
  simp only [Bool.and_self, Bool.or_self, if_true, Bool.false_eq_true, if_false, hz2]
  refine is_rd (Nat.mul_pos h.low.1 hz) ?_ e1 e3
  rw [q_div h2.low.1 hz, h.val, h2.val]
theorem is_eq {X Y Z W k j : Nat} {r s : Rat} (h : Is X Y r k) (h2 : Is Z W s j) (e : r = s) : X = Z ∧ Y = W := low_inj h.low h2.low (by rw [h.val, h2.val, e])
theorem is_cmp {X Y Z W k j : Nat} {r s : Rat} (h : Is X Y r k) (h2 : Is Z W s j) : cmpI (X * W) (Z * Y) = cmpQ r s := by rw [cmp_q h.low h2.low, h.val, h2.val]
theorem is_num {X Y k : Nat} {r : Rat} (h : Is X Y r k) : r = 0 ↔ X = 0 := by rw [← h.val, q_ne h.low.1]
theorem q_nonneg {X Y : Nat} : 0 ≤ q X Y := by
  unfold q
  by_cases h : Y = 0
  · subst h; rw [Rat.mkRat_zero]; exact Rat.le_refl
  · rw [← Rat.divInt_ofNat]; exact Rat.divInt_nonneg (Int.natCast_nonneg _) (Int.natCast_nonneg _)

/-! ### comparing by integer parts -/
theorem cmp_quot {a b c d : Nat} (hb : 0 < b) (hd : 0 < d) (h : a / b ≠ c / d) : cmpI (a * d) (c * b) = cmpI (a / b) (c / d) := by
  have h1 := Nat.div_add_mod a b
  have h2 := Nat.div_add_mod c d
  have h3 := Nat.mod_lt a hb
  have h4 := Nat.mod_lt c hd
  generalize a / b = q1 at *
  generalize c / d = q2 at *
  generalize a % b = r1 at *
  generalize c % d = r2 at *
  unfold cmpI
  by_cases hq : q1 < q2
  · have : a * d < c * b := by
      have k1 : a < b * (q1 + 1) := by rw [Nat.mul_add]; omega
      have k2 : b * (q1 + 1) ≤ b * q2 := Nat.mul_le_mul_left b hq
      have k3 : a * d < b * q2 * d := Nat.mul_lt_mul_of_pos_right (by omega) hd
      have k4 : b * q2 * d = b * (d * q2) := by rw [Nat.mul_assoc, Nat.mul_comm q2]
      have k5 : b * (d * q2) ≤ b * c := Nat.mul_le_mul_left b (by omega)
      rw [Nat.mul_comm c b]; omega
    rw [if_pos this, if_pos hq]
  · have hq2 : q2 < q1 := by omega
    have : c * b < a * d := by
      have k1 : c < d * (q2 + 1) := by rw [Nat.mul_add]; omega
      have k2 : d * (q2 + 1) ≤ d * q1 := Nat.mul_le_mul_left d hq2
      have k3 : c * b < d * q1 * b := Nat.mul_lt_mul_of_pos_right (by omega) hb
      have k4 : d * q1 * b = d * (b * q1) := by rw [Nat.mul_assoc, Nat.mul_comm q1]
      have k5 : d * (b * q1) ≤ d * a := Nat.mul_le_mul_left d (by omega)
      rw [Nat.mul_comm a d]; omega
    have n1 : ¬ a * d < c * b := by omega
    rw [if_neg n1, if_pos this, if_neg hq, if_pos hq2]
theorem cmp_add (k x y : Nat) : cmpI (k + x) (k + y) = cmpI x y := by
  unfold cmpI
  by_cases h : x < y
  · rw [if_pos h, if_pos (by omega)]
  · by_cases h2 : y < x
    · rw [if_neg h, if_pos h2, if_neg (by omega), if_pos (by omega)]
    · rw [if_neg h, if_neg h2, if_neg (by omega), if_neg (by omega)]
theorem cmp_rest {a b c d : Nat} (h : a / b = c / d) : cmpI (a * d) (c * b) = cmpI (a % b * d) (c % d * b) := by
  have h1 := Nat.div_add_mod a b
  have h2 := Nat.div_add_mod c d
  rw [← h] at h2
  generalize a / b = q1 at *
  generalize a % b = r1 at *
  generalize c % d = r2 at *
  subst h1
  subst h2
  rw [Nat.add_mul, Nat.add_mul, show b * q1 * d = d * q1 * b by rw [Nat.mul_right_comm, Nat.mul_comm b d, Nat.mul_right_comm]]
  exact cmp_add _ _ _
theorem cmp_left {a b c d : Nat} (hb : 0 < b) (hd : 0 < d) (h : a / b = c / d) (h0 : a % b = 0 ∨ c % d = 0) : cmpI (a * d) (c * b) = cmpI (a % b) (c % d) := by
  rw [cmp_rest h]
  rcases h0 with h0 | h0
  · rw [h0, Nat.zero_mul]
    unfold cmpI
    by_cases h1 : 0 < c % d
    · rw [if_pos (Nat.mul_pos h1 hb), if_pos h1]
    · rw [show c % d = 0 by omega, Nat.zero_mul]
  · rw [h0, Nat.zero_mul]
    unfold cmpI
    by_cases h1 : 0 < a % b
    · have := Nat.mul_pos h1 hd
      rw [if_neg (by omega), if_pos this, if_neg (by omega), if_pos h1]
    · rw [show a % b = 0 by omega, Nat.zero_mul]
theorem cmp_turn {a b c d : Nat} (h : a / b = c / d) : cmpI (a * d) (c * b) = cmpI (d * (a % b)) (b * (c % d)) := by
  rw [cmp_rest h, Nat.mul_comm d, Nat.mul_comm b]
end Go.Proofs.Ytjblfmgiafdefaa.frM

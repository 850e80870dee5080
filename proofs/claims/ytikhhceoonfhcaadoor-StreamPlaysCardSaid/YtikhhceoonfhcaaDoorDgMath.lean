/-
  Plain mathematics of digests: numbers below 2^64; a shifted exclusive or and an odd multiplier can be inverted.
-/
namespace Go.Proofs.YtikhhceoonfhcaaDoor.dgM
set_option linter.unusedVariables false

/-- 2^64 -/
def A64 : Nat := 18446744073709551616
theorem A64_pow : A64 = 2 ^ 64 := by decide
theorem xor_lt {a b : Nat} (ha : a < A64) (hb : b < A64) : a ^^^ b < A64 := by
  rw [A64_pow] at *; exact Nat.xor_lt_two_pow ha hb
theorem shr_lt {a : Nat} (k : Nat) (ha : a < A64) : a >>> k < A64 := Nat.lt_of_le_of_lt (Nat.shiftRight_le a k) ha
theorem shr_zero {a k : Nat} (ha : a < A64) (hk : 64 ≤ k) : a >>> k = 0 := by
  rw [Nat.shiftRight_eq_div_pow]
  apply Nat.div_eq_of_lt
  rw [A64_pow] at ha
  exact Nat.lt_of_lt_of_le ha (Nat.pow_le_pow_right (by omega) hk)
/-- a shifted exclusive or -/
def xs (k x : Nat) : Nat := x ^^^ (x >>> k)
/-- one step back -/
def st (k y x : Nat) : Nat := y ^^^ (x >>> k)
/-- four steps back -/
def us (k y : Nat) : Nat := st k y (st k y (st k y (st k y y)))
theorem st_diff (k y a b : Nat) : st k y a ^^^ st k y b = (a ^^^ b) >>> k := by
  unfold st
  rw [Nat.shiftRight_xor_distrib]
  apply Nat.eq_of_testBit_eq
  intro i
  simp only [Nat.testBit_xor]
  cases y.testBit i <;> simp
theorem xor_zero_eq {a b : Nat} (h : a ^^^ b = 0) : a = b := by
  apply Nat.eq_of_testBit_eq
  intro i
  have := congrArg (fun n => Nat.testBit n i) h
  simp only [Nat.testBit_xor, Nat.zero_testBit] at this
  cases e : a.testBit i <;> cases f : b.testBit i <;> simp_all
theorem shr_shr (a j k : Nat) : a >>> j >>> k = a >>> (j + k) := (Nat.shiftRight_add a j k).symm
/-- what is shifted back is the number -/
theorem us_xs {k x : Nat} (hk : 16 ≤ k) (hx : x < A64) : us k (xs k x) = x := by
  have fx : st k (xs k x) x = x := by
    unfold st xs
    apply Nat.eq_of_testBit_eq
    intro i
    simp only [Nat.testBit_xor]
    cases x.testBit i <;> cases (x >>> k).testBit i <;> rfl
  have d0 : xs k x ^^^ x = x >>> k := by
    unfold xs
    apply Nat.eq_of_testBit_eq
    intro i
    simp only [Nat.testBit_xor]
    cases x.testBit i <;> cases (x >>> k).testBit i <;> rfl
  have step : ∀ a n, a ^^^ x = x >>> n → st k (xs k x) a ^^^ x = x >>> (n + k) := fun a n h => by
    have := st_diff k (xs k x) a x
    rw [fx, h, shr_shr] at this
    exact this
  apply xor_zero_eq
  have h := step _ _ (step _ _ (step _ _ (step _ _ d0)))
  unfold us
  rw [h]
  exact shr_zero hx (by omega)
theorem st_lt {k y x : Nat} (hy : y < A64) (hx : x < A64) : st k y x < A64 := xor_lt hy (shr_lt k hx)
theorem us_lt {k y : Nat} (hy : y < A64) : us k y < A64 := st_lt hy (st_lt hy (st_lt hy (st_lt hy hy)))
theorem xs_lt {k x : Nat} (hx : x < A64) : xs k x < A64 := xor_lt hx (shr_lt k hx)
/-- every number is a shifted one -/
theorem xs_us {k y : Nat} (hk : 16 ≤ k) (hy : y < A64) : xs k (us k y) = y := by
  have d0 : st k y y ^^^ y = y >>> k := by
    unfold st
    apply Nat.eq_of_testBit_eq
    intro i
    simp only [Nat.testBit_xor]
    cases y.testBit i <;> cases (y >>> k).testBit i <;> rfl
  have step : ∀ a b n, a ^^^ b = y >>> n → st k y a ^^^ st k y b = y >>> (n + k) := fun a b n h => by
    rw [st_diff, h, shr_shr]
  have h := step _ _ _ (step _ _ _ (step _ _ _ (step _ _ _ d0)))
  rw [shr_zero hy (by omega)] at h
  have e := xor_zero_eq h
  unfold xs
  have e2 : us k y = st k y (us k y) := e.symm
  have e3 : us k y ^^^ (us k y >>> k) = st k y (us k y) ^^^ (us k y >>> k) := by rw [← e2]
  rw [e3]
  unfold st
  apply Nat.eq_of_testBit_eq
  intro i
  simp only [Nat.testBit_xor]
  cases y.testBit i <;> cases (us k y >>> k).testBit i <;> rfl

/-- a multiplier -/
def mu (m x : Nat) : Nat := x * m % A64
theorem mu_mu {m n x : Nat} (h : m * n % A64 = 1) (hx : x < A64) : mu n (mu m x) = x := by
  unfold mu
  rw [Nat.mod_mul_mod, Nat.mul_assoc, ← Nat.mul_mod_mod, h, Nat.mul_one, Nat.mod_eq_of_lt hx]
theorem mu_lt (m x : Nat) : mu m x < A64 := Nat.mod_lt _ (by decide)
def m1 : Nat := 0xbf58476d1ce4e5b9
def m2 : Nat := 0x94d049bb133111eb
/-- Newton's step for an inverse -/
def nt (m x : Nat) : Nat := x * ((2 + (A64 - m * x % A64)) % A64) % A64
def iv (m : Nat) : Nat := nt m (nt m (nt m (nt m (nt m (nt m m)))))
theorem iv1 : m1 * iv m1 % A64 = 1 := by decide +kernel
theorem iv2 : m2 * iv m2 % A64 = 1 := by decide +kernel
/-- the mixing function and its inverse -/
def mx (x : Nat) : Nat := xs 31 (mu m2 (xs 27 (mu m1 (xs 30 x))))
def ux (y : Nat) : Nat := us 30 (mu (iv m1) (us 27 (mu (iv m2) (us 31 y))))
theorem mx_lt {x : Nat} (hx : x < A64) : mx x < A64 := xs_lt (mu_lt _ _)
theorem ux_lt {y : Nat} (hy : y < A64) : ux y < A64 := us_lt (mu_lt _ _)
theorem ux_mx {x : Nat} (hx : x < A64) : ux (mx x) = x := by
  unfold ux mx
  rw [us_xs (by omega) (mu_lt _ _), mu_mu iv2 (xs_lt (mu_lt _ _)), us_xs (by omega) (mu_lt _ _), mu_mu iv1 (xs_lt hx), us_xs (by omega) hx]
theorem mx_ux {y : Nat} (hy : y < A64) : mx (ux y) = y := by
  unfold ux mx
  rw [xs_us (by omega) (mu_lt _ _), mu_mu (by rw [Nat.mul_comm]; exact iv1) (us_lt (mu_lt _ _)), xs_us (by omega) (mu_lt _ _), mu_mu (by rw [Nat.mul_comm]; exact iv2) (us_lt hy), xs_us (by omega) hy]
theorem mx_inj {x y : Nat} (hx : x < A64) (hy : y < A64) (h : mx x = mx y) : x = y := by
  rw [← ux_mx hx, ← ux_mx hy, h]

/-! ### the digest of a text -/
def fs (x : Nat) (c : UInt8) : Nat := (x ^^^ c.toNat) * 1099511628211 % A64
def sm (x : Nat) (l : List UInt8) : Nat := l.foldl fs x
def s0 : Nat := 14695981039346656037
theorem fold_append {α β : Type} (f : α → β → α) (x : α) (l r : List β) : (l ++ r).foldl f x = r.foldl f (l.foldl f x) := List.foldl_append
theorem sm_append (x : Nat) (l r : List UInt8) : sm x (l ++ r) = sm (sm x l) r := fold_append fs x l r
theorem fold_snoc {α β : Type} (f : α → β → α) (x : α) (l : List β) (c : β) : (l ++ [c]).foldl f x = f (l.foldl f x) c := by rw [List.foldl_append]; rfl
theorem sm_snoc (x : Nat) (l : List UInt8) (c : UInt8) : sm x (l ++ [c]) = fs (sm x l) c := fold_snoc fs x l c
theorem fs_lt (x : Nat) (c : UInt8) : fs x c < A64 := Nat.mod_lt _ (by decide)
theorem fold_lt {β : Type} (f : Nat → β → Nat) (h : ∀ x c, f x c < A64) (l : List β) : ∀ x, x < A64 → l.foldl f x < A64 := by
  induction l with
  | nil => intro x hx; exact hx
  | cons c r ih => intro x _; exact ih _ (h x c)
theorem sm_lt {x : Nat} (hx : x < A64) (l : List UInt8) : sm x l < A64 := fold_lt fs fs_lt l x hx

/-! ### the rounds of a table, and the number with a shift doubled -/
theorem mu_one {x : Nat} (hx : x < A64) : mu 1 x = x := by unfold mu; rw [Nat.mul_one, Nat.mod_eq_of_lt hx]
/-- the steps back, the shift doubled each time -/
def pu (k y : Nat) : Nat := xs (2 * k) (xs k y)
theorem xs_twice (k x : Nat) : xs k (xs k x) = xs (2 * k) x := by
  unfold xs
  rw [Nat.shiftRight_xor_distrib, shr_shr, show k + k = 2 * k by omega]
  apply Nat.eq_of_testBit_eq
  intro i
  simp only [Nat.testBit_xor]
  cases x.testBit i <;> cases (x >>> k).testBit i <;> cases (x >>> (2 * k)).testBit i <;> rfl
theorem xs_comm (j k x : Nat) : xs j (xs k x) = xs k (xs j x) := by
  unfold xs
  rw [Nat.shiftRight_xor_distrib, Nat.shiftRight_xor_distrib, shr_shr, shr_shr, Nat.add_comm k j]
  apply Nat.eq_of_testBit_eq
  intro i
  simp only [Nat.testBit_xor]
  cases x.testBit i <;> cases (x >>> k).testBit i <;> cases (x >>> j).testBit i <;> cases (x >>> (j + k)).testBit i <;> rfl
theorem xs_big {k x : Nat} (hk : 64 ≤ k) (hx : x < A64) : xs k x = x := by
  unfold xs; rw [shr_zero hx hk, Nat.xor_zero]
theorem pu_us {k y : Nat} (hk : 16 ≤ k) (hy : y < A64) : pu k y = us k y := by
  have h : xs k (pu k y) = y := by
    unfold pu
    rw [xs_comm k (2 * k), xs_twice, xs_twice, xs_big (by omega) hy]
  have := us_xs (k := k) (x := pu k y) hk (xs_lt (xs_lt hy))
  rw [h] at this
  exact this.symm
theorem pu_lt {k y : Nat} (hy : y < A64) : pu k y < A64 := xs_lt (xs_lt hy)
theorem c1 : iv m1 = 10871156337175269513 := by decide +kernel
theorem c2 : iv m2 = 3573116690164977347 := by decide +kernel
end Go.Proofs.YtikhhceoonfhcaaDoor.dgM

/-
  Plain mathematics of the calendar: the days before a year and before a month, the date of a day.
-/
namespace Go.Proofs.YtppklkiodbnipaaDoor.clM

/-- is a year a leap year? -/
def Lp (y : Nat) : Prop := y % 4 = 0 ∧ (y % 100 ≠ 0 ∨ y % 400 = 0)
instance (y : Nat) : Decidable (Lp y) := by unfold Lp; infer_instance
/-- how many days a year has -/
def yl (y : Nat) : Nat := if Lp y then 366 else 365
/-- leap years from the year 1 to y -/
def lq (y : Nat) : Nat := y / 4 - y / 100 + y / 400
/-- days from 2000-01-01 to the first day of y -/
def yS (y : Nat) : Nat := (y - 2000) * 365 + lq (y - 1) - 484
theorem lq_ge {y : Nat} (h : 1999 ≤ y) : 484 ≤ lq y := by unfold lq; omega
theorem yS_eq {y : Nat} (h : 2000 ≤ y) : yS y + 484 = (y - 2000) * 365 + lq (y - 1) := by
  have := lq_ge (y := y - 1) (by omega)
  unfold yS; omega
theorem lq_succ (y : Nat) (h : 1 ≤ y) : lq y = lq (y - 1) + (if Lp y then 1 else 0) := by
  by_cases c : Lp y
  · rw [if_pos c]; unfold Lp at c; unfold lq; omega
  · rw [if_neg c]; unfold Lp at c; unfold lq; omega
theorem yS_succ {y : Nat} (h : 2000 ≤ y) : yS (y + 1) = yS y + yl y := by
  have h1 := yS_eq h
  have h2 := yS_eq (y := y + 1) (by omega)
  have h3 := lq_succ y (by omega)
  rw [Nat.add_sub_cancel] at h2
  unfold yl
  split at h3
  · rename_i h; rw [if_pos h]; omega
  · rename_i h; rw [if_neg h]; omega
theorem yS_2000 : yS 2000 = 0 := by decide
theorem yl_bound (y : Nat) : 365 ≤ yl y ∧ yl y ≤ 366 := by unfold yl; split <;> omega
theorem yS_le {a b : Nat} (h : 2000 ≤ a) (hab : a ≤ b) : yS a ≤ yS b := by
  induction b with
  | zero => omega
  | succ b ih =>
    by_cases c : a = b + 1
    · rw [c]; exact Nat.le_refl _
    · have := yS_succ (y := b) (by omega)
      have := ih (by omega)
      omega
theorem grow_gen (f g : Nat → Nat) (a : Nat) (h : ∀ k, f (a + k + 1) = f (a + k) + g (a + k)) (hg : ∀ y, 365 ≤ g y) (k : Nat) : f a + k * 365 ≤ f (a + k) := by
  induction k with
  | zero => rw [Nat.zero_mul]; exact Nat.le_refl _
  | succ k ih =>
    have h1 := h k
    have h3 := hg (a + k)
    have e : (k + 1) * 365 = k * 365 + 365 := Nat.succ_mul k 365
    rw [e, show a + (k + 1) = a + k + 1 from rfl, h1]
    exact Nat.le_trans (Nat.le_of_eq (Nat.add_assoc _ _ _).symm) (Nat.add_le_add ih h3)
theorem yS_grow {a : Nat} (k : Nat) (h : 2000 ≤ a) : yS a + k * 365 ≤ yS (a + k) :=
  grow_gen yS yl a (fun k => yS_succ (by omega)) (fun y => (yl_bound y).1) k

theorem grow_gen2 (f g : Nat → Nat) (a : Nat) (h : ∀ k, f (a + k + 1) = f (a + k) + g (a + k)) (hg : ∀ y, g y ≤ 366) (k : Nat) : f (a + k) ≤ f a + k * 366 := by
  induction k with
  | zero => rw [Nat.zero_mul]; exact Nat.le_refl _
  | succ k ih =>
    have h1 := h k
    have h3 := hg (a + k)
    have e : (k + 1) * 366 = k * 366 + 366 := Nat.succ_mul k 366
    rw [e, show a + (k + 1) = a + k + 1 from rfl, h1]
    exact Nat.le_trans (Nat.add_le_add ih h3) (Nat.le_of_eq (Nat.add_assoc _ _ _))
/-- a year that is not too late to begin with -/
theorem early {n y : Nat} (h0 : 2000 ≤ y) (h : n < yS (y + 1)) : 2000 + n / 366 ≤ y := by
  have g := grow_gen2 yS yl 2000 (fun k => yS_succ (by omega)) (fun y => (yl_bound y).2) (y + 1 - 2000)
  rw [show 2000 + (y + 1 - 2000) = y + 1 by omega, yS_2000] at g
  generalize yS (y + 1) = s at *
  have : n / 366 < y + 1 - 2000 := by
    rw [Nat.div_lt_iff_lt_mul (by omega)]
    omega
  omega

/-- days of a common year before month m + 1 -/
def tbl : List Nat := [0, 31, 59, 90, 120, 151, 181, 212, 243, 273, 304, 334, 365]
def lens : List Nat := [31, 28, 31, 30, 31, 30, 31, 31, 30, 31, 30, 31]
/-- days of a month -/
def ml (y m : Nat) : Nat := if m = 2 ∧ Lp y then 29 else lens.getD (m - 1) 0
/-- days from 2000-01-01 to the first day of a month -/
def mS (y m : Nat) : Nat := yS y + tbl.getD (m - 1) 0 + (if 2 < m ∧ Lp y then 1 else 0)
theorem months {m : Nat} (h1 : 1 ≤ m) (h2 : m ≤ 12) : m = 1 ∨ m = 2 ∨ m = 3 ∨ m = 4 ∨ m = 5 ∨ m = 6 ∨ m = 7 ∨ m = 8 ∨ m = 9 ∨ m = 10 ∨ m = 11 ∨ m = 12 := by omega
theorem mS_one (y : Nat) : mS y 1 = yS y := by simp [mS, tbl]
theorem mS_succ (y : Nat) {m : Nat} (h1 : 1 ≤ m) (h2 : m ≤ 12) : mS y (m + 1) = mS y m + ml y m := by
  by_cases hl : Lp y
  · rcases months h1 h2 with rfl | rfl | rfl | rfl | rfl | rfl | rfl | rfl | rfl | rfl | rfl | rfl <;> simp [mS, ml, tbl, lens, hl] <;> omega
  · rcases months h1 h2 with rfl | rfl | rfl | rfl | rfl | rfl | rfl | rfl | rfl | rfl | rfl | rfl <;> simp [mS, ml, tbl, lens, hl] <;> omega
theorem mS_last {y : Nat} (h : 2000 ≤ y) : mS y 13 = yS (y + 1) := by
  rw [yS_succ h]
  by_cases hl : Lp y <;> simp [mS, tbl, yl, hl]
theorem ml_bound (y : Nat) {m : Nat} (h1 : 1 ≤ m) (h2 : m ≤ 12) : 28 ≤ ml y m ∧ ml y m ≤ 31 := by
  by_cases hl : Lp y
  · rcases months h1 h2 with rfl | rfl | rfl | rfl | rfl | rfl | rfl | rfl | rfl | rfl | rfl | rfl <;> simp [ml, lens, hl]
  · rcases months h1 h2 with rfl | rfl | rfl | rfl | rfl | rfl | rfl | rfl | rfl | rfl | rfl | rfl <;> simp [ml, lens, hl]
theorem mS_le (y : Nat) {a b : Nat} (h : 1 ≤ a) (hab : a ≤ b) (hb : b ≤ 13) : mS y a ≤ mS y b := by
  induction b with
  | zero => omega
  | succ b ih =>
    by_cases c : a = b + 1
    · rw [c]; exact Nat.le_refl _
    · have := mS_succ y (m := b) (by omega) (by omega)
      have := ih (by omega) (by omega)
      omega

/-- day n has the date y, m, d -/
structure Is (n y m d : Nat) : Prop where
  y0 : 2000 ≤ y
  m0 : 1 ≤ m
  m1 : m ≤ 12
  d0 : 1 ≤ d
  d1 : d ≤ ml y m
  eq : n + 1 = mS y m + d
theorem Is.month {n y m d : Nat} (h : Is n y m d) : mS y m ≤ n ∧ n < mS y (m + 1) := by
  have := mS_succ y h.m0 h.m1
  have := h.d0; have := h.d1; have := h.eq
  omega
theorem Is.year {n y m d : Nat} (h : Is n y m d) : yS y ≤ n ∧ n < yS (y + 1) := by
  have h1 := h.month
  have h2 := mS_le y (Nat.le_refl 1) h.m0 (by have := h.m1; omega)
  have h3 := mS_le y (a := m + 1) (b := 13) (by omega) (by have := h.m1; omega) (Nat.le_refl _)
  rw [mS_one] at h2
  rw [mS_last h.y0] at h3
  omega
theorem Is.unique {n y m d y' m' d' : Nat} (h : Is n y m d) (h' : Is n y' m' d') : y = y' ∧ m = m' ∧ d = d' := by
  have a := h.year; have b := h'.year
  have hy : y = y' := by
    rcases Nat.lt_trichotomy y y' with c | c | c
    · have := yS_le (a := y + 1) (b := y') (by have := h.y0; omega) c; omega
    · exact c
    · have := yS_le (a := y' + 1) (b := y) (by have := h'.y0; omega) c; omega
  subst hy
  have a := h.month; have b := h'.month
  have hm : m = m' := by
    rcases Nat.lt_trichotomy m m' with c | c | c
    · have := mS_le y (a := m + 1) (b := m') (by omega) c (by have := h'.m1; omega); omega
    · exact c
    · have := mS_le y (a := m' + 1) (b := m) (by omega) c (by have := h.m1; omega); omega
  subst hm
  have := h.eq; have := h'.eq
  exact ⟨rfl, rfl, by omega⟩
theorem find_month (y n : Nat) (h1 : mS y 1 ≤ n) : ∀ k, k ≤ 12 → n < mS y (k + 1) → ∃ m, 1 ≤ m ∧ m ≤ k ∧ mS y m ≤ n ∧ n < mS y (m + 1) := by
  intro k
  induction k with
  | zero => intro _ h; rw [Nat.zero_add] at h; omega
  | succ k ih =>
    intro hk h
    by_cases c : n < mS y (k + 1)
    · obtain ⟨m, a, b, e, f⟩ := ih (by omega) c
      exact ⟨m, a, by omega, e, f⟩
    · exact ⟨k + 1, by omega, by omega, by omega, h⟩
theorem find_year (n : Nat) : ∀ k, n < yS (2000 + k) → ∃ y, 2000 ≤ y ∧ yS y ≤ n ∧ n < yS (y + 1) := by
  intro k
  induction k with
  | zero => intro h; rw [Nat.add_zero, yS_2000] at h; omega
  | succ k ih =>
    intro h
    by_cases c : n < yS (2000 + k)
    · exact ih c
    · exact ⟨2000 + k, by omega, by omega, h⟩
/-- every day has a date -/
theorem Is.ex (n : Nat) : ∃ y m d, Is n y m d := by
  obtain ⟨y, y0, a, b⟩ := find_year n (n + 1) (by
    have := yS_grow (a := 2000) (n + 1) (by omega)
    rw [yS_2000] at this; omega)
  obtain ⟨m, m0, m1, c, d⟩ := find_month y n (by rw [mS_one]; exact a) 12 (by omega) (by rw [mS_last y0]; exact b)
  have := mS_succ y m0 m1
  exact ⟨y, m, n + 1 - mS y m, y0, m0, m1, by omega, by omega, by omega⟩
/-- the next day's date -/
theorem Is.next {n y m d y' m' d' : Nat} (h : Is n y m d) (h' : Is (n + 1) y' m' d') :
    (y' = y ∧ m' = m ∧ d' = d + 1 ∧ d < ml y m) ∨ (d' = 1 ∧ 28 ≤ d ∧ (y' = y ∧ m' = m + 1 ∨ y' = y + 1 ∧ m' = 1 ∧ m = 12)) := by
  obtain ⟨y0, m0, m1, d0, d1, eq⟩ := h
  by_cases c : d < ml y m
  · obtain ⟨rfl, rfl, rfl⟩ := h'.unique (⟨y0, m0, m1, by omega, by omega, by omega⟩ : Is (n + 1) y m (d + 1))
    exact .inl ⟨rfl, rfl, rfl, c⟩
  · have b := ml_bound y m0 m1
    have s := mS_succ y m0 m1
    by_cases e : m = 12
    · subst e
      rw [show 12 + 1 = 13 from rfl] at s
      have l := mS_last y0
      have o := mS_one (y + 1)
      have bb := ml_bound (y + 1) (m := 1) (by omega) (by omega)
      obtain ⟨rfl, rfl, rfl⟩ := h'.unique (⟨by omega, by omega, by omega, by omega, by omega, by omega⟩ : Is (n + 1) (y + 1) 1 1)
      exact .inr ⟨rfl, by omega, .inr ⟨rfl, rfl, rfl⟩⟩
    · have bb := ml_bound y (m := m + 1) (by omega) (by omega)
      obtain ⟨rfl, rfl, rfl⟩ := h'.unique (⟨by omega, by omega, by omega, by omega, by omega, by omega⟩ : Is (n + 1) y (m + 1) 1)
      exact .inr ⟨rfl, by omega, .inl ⟨rfl, rfl⟩⟩
/-- the years of the days that the calendar has -/
theorem Is.small {n y m d : Nat} (h : Is n y m d) (hn : n ≤ 745654) : y ≤ 4041 ∧ d ≤ 31 := by
  refine ⟨?_, by have := ml_bound y h.m0 h.m1; have := h.d1; omega⟩
  apply Decidable.byContradiction
  intro c
  have a := h.year
  have b := yS_le (a := 4042) (b := y) (by omega) (by omega)
  have e : yS 4042 = 745826 := by decide
  omega
theorem yS_big {y : Nat} (h : 4042 ≤ y) : 745826 ≤ yS y := by
  have b := yS_le (a := 4042) (b := y) (by omega) h
  have e : yS 4042 = 745826 := by decide
  omega
end Go.Proofs.YtppklkiodbnipaaDoor.clM

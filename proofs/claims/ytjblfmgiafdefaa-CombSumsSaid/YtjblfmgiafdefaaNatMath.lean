/-
  Plain mathematics: numbers as lists of digits in a base; sums, products, differences, quotients digit by digit.
-/
import Derived.Test.YtjblfmgiafdefaaRows
namespace Go.Proofs.Ytjblfmgiafdefaa.natM
set_option linter.unusedVariables false

def nv (B : Nat) : List Nat → Nat
  | [] => 0
  | x :: xs => x + B * nv B xs
/-- that many digits of a number, the lowest first -/
def dg (B : Nat) : Nat → Nat → List Nat
  | 0, _ => []
  | n + 1, v => v % B :: dg B n (v / B)
def at0 (l : List Nat) (k : Nat) : Nat := l.getD k 0

theorem at0_some {l : List Nat} {k : Nat} (h : k < l.length) : l[k]? = some (at0 l k) := by simp [at0, List.getD, h]
theorem at0_of {l : List Nat} {k x : Nat} (h : l[k]? = some x) : at0 l k = x := by simp [at0, List.getD, h]
theorem lt_of_some {l : List Nat} {k x : Nat} (h : l[k]? = some x) : k < l.length := (List.getElem?_eq_some_iff.1 h).1
theorem at0_out {l : List Nat} {k : Nat} (h : l.length ≤ k) : at0 l k = 0 := by simp [at0, List.getD, h]
theorem ext0 {a b : List Nat} (h : a.length = b.length) (h2 : ∀ k, k < a.length → at0 a k = at0 b k) : a = b := by
  apply List.ext_getElem? ; intro k
  by_cases hk : k < a.length
  · rw [at0_some hk, at0_some (by omega), h2 k hk]
  · rw [List.getElem?_eq_none (by omega), List.getElem?_eq_none (by omega)]
theorem at0_set (l : List Nat) (i x k : Nat) (h : i < l.length) : at0 (l.set i x) k = if k = i then x else at0 l k := by
  unfold at0 List.getD
  rw [List.getElem?_set]
  by_cases e : k = i
  · subst e; simp [h]
  · simp [e, Ne.symm e]

theorem dg_len (B n v : Nat) : (dg B n v).length = n := by
  induction n generalizing v with
  | zero => rfl
  | succ n ih => simp [dg, ih]
theorem dg_at {B n v k : Nat} (h : k < n) : at0 (dg B n v) k = v / B ^ k % B := by
  induction n generalizing v k with
  | zero => omega
  | succ n ih =>
    cases k with
    | zero => simp [dg, at0]
    | succ k =>
      have := ih (v := v / B) (k := k) (by omega)
      simp only [at0, dg, List.getD_cons_succ] at this ⊢
      rw [this, Nat.div_div_eq_div_mul, Nat.pow_succ, Nat.mul_comm B]
theorem dg_ext {B n : Nat} {l : List Nat} {v : Nat} (hl : l.length = n) (h : ∀ k, k < n → at0 l k = v / B ^ k % B) : l = dg B n v :=
  ext0 (by rw [dg_len, hl]) fun k hk => by rw [h k (by omega), dg_at (by omega)]
theorem dg_small {B : Nat} (hB : 0 < B) (n v : Nat) : ∀ x ∈ dg B n v, x < B := by
  induction n generalizing v with
  | zero => intro x hx; simp [dg] at hx
  | succ n ih =>
    intro x hx
    simp only [dg, List.mem_cons] at hx
    rcases hx with rfl | hx
    · exact Nat.mod_lt _ hB
    · exact ih _ x hx
theorem nv_lt {B : Nat} {xs : List Nat} (hs : ∀ x ∈ xs, x < B) : nv B xs < B ^ xs.length := by
  induction xs with
  | nil => simp [nv]
  | cons x xs ih =>
    have h1 := ih fun y hy => hs y (List.mem_cons_of_mem _ hy)
    have h2 := hs x List.mem_cons_self
    have h3 : B * (nv B xs + 1) ≤ B * B ^ xs.length := Nat.mul_le_mul_left B h1
    rw [Nat.mul_add, Nat.mul_one] at h3
    rw [nv, List.length_cons, Nat.pow_succ, Nat.mul_comm (B ^ _)]
    omega
theorem dg_nv {B : Nat} {xs : List Nat} (hs : ∀ x ∈ xs, x < B) : dg B xs.length (nv B xs) = xs := by
  induction xs with
  | nil => rfl
  | cons x xs ih =>
    have h2 := hs x List.mem_cons_self
    have e1 : (x + B * nv B xs) % B = x := by rw [Nat.add_mul_mod_self_left]; exact Nat.mod_eq_of_lt h2
    have e2 : (x + B * nv B xs) / B = nv B xs := by rw [Nat.add_mul_div_left _ _ (by omega), Nat.div_eq_of_lt h2, Nat.zero_add]
    rw [List.length_cons, dg, nv, e1, e2, ih fun y hy => hs y (List.mem_cons_of_mem _ hy)]
theorem dg_take {B n v k : Nat} (h : k ≤ n) : (dg B n v).take k = dg B k v := by
  induction n generalizing v k with
  | zero => obtain rfl : k = 0 := by omega
            rfl
  | succ n ih =>
    cases k with
    | zero => rfl
    | succ k => simp only [dg, List.take_succ_cons]; rw [ih (by omega)]
theorem dg_div {B n v k : Nat} (h : k ≤ n) : (dg B n v).drop k = dg B (n - k) (v / B ^ k) := by
  apply dg_ext
  · rw [List.length_drop, dg_len]
  · intro j hj
    have : at0 ((dg B n v).drop k) j = at0 (dg B n v) (k + j) := by simp [at0, List.getD]
    rw [this, dg_at (by omega), Nat.div_div_eq_div_mul, ← Nat.pow_add]
theorem dg_zero (B v : Nat) : dg B 0 v = [] := rfl
theorem dg_snoc (B n v : Nat) : dg B (n + 1) v = dg B n v ++ [v / B ^ n % B] := by
  induction n generalizing v with
  | zero => simp [dg]
  | succ n ih =>
    rw [dg, ih, dg, Nat.div_div_eq_div_mul, Nat.pow_succ, Nat.mul_comm B]; rfl
theorem dg_congr {B n u v : Nat} (h : u % B ^ n = v % B ^ n) : dg B n u = dg B n v := by
  apply dg_ext (dg_len _ _ _)
  intro k hk
  rw [dg_at hk]
  have e : ∀ z, z / B ^ k % B = z % B ^ n / B ^ k % B := fun z => by
    obtain ⟨d, rfl⟩ : ∃ d, n = k + 1 + d := ⟨n - k - 1, by omega⟩
    rw [Nat.pow_add, Nat.pow_succ, Nat.mul_assoc, Nat.mod_mul_right_div_self, Nat.mod_mul_right_mod]
  rw [e u, e v, h]
theorem nv_dg {B : Nat} (hB : 0 < B) {n v : Nat} (h : v < B ^ n) : nv B (dg B n v) = v := by
  induction n generalizing v with
  | zero => have : v = 0 := by simpa using h
            subst this; rfl
  | succ n ih =>
    rw [Nat.pow_succ] at h
    rw [dg, nv, ih (Nat.div_lt_of_lt_mul (by rw [Nat.mul_comm]; exact h))]
    have := Nat.mod_add_div v B
    omega
theorem dg_of_zero (B n : Nat) : dg B n 0 = List.replicate n 0 := by
  induction n with
  | zero => rfl
  | succ n ih => rw [dg, Nat.zero_mod, Nat.zero_div, ih]; rfl

/-! ### how many digits a number has -/
def nlen (B v : Nat) : Nat := if h : 0 < v ∧ 2 ≤ B then nlen B (v / B) + 1 else 0
termination_by v
decreasing_by exact Nat.div_lt_self h.1 h.2
theorem nlen_zero (B : Nat) : nlen B 0 = 0 := by rw [nlen, dif_neg (by omega)]
theorem nlen_lt {B : Nat} (hB : 2 ≤ B) (v : Nat) : v < B ^ nlen B v := by
  induction v using Nat.strongRecOn with
  | _ v ih =>
    rw [nlen]
    by_cases h : 0 < v
    · rw [dif_pos ⟨h, hB⟩]
      have h1 := ih (v / B) (Nat.div_lt_self h hB)
      have h2 := Nat.div_add_mod v B
      have h3 := Nat.mod_lt v (show 0 < B by omega)
      have h4 : B * (v / B + 1) ≤ B * B ^ nlen B (v / B) := Nat.mul_le_mul_left B h1
      rw [Nat.mul_add, Nat.mul_one] at h4
      rw [Nat.pow_succ, Nat.mul_comm (B ^ _)]
      omega
    · rw [dif_neg (by omega)]; simp; omega
theorem nlen_le {B : Nat} (hB : 2 ≤ B) {v n : Nat} (h : v < B ^ n) : nlen B v ≤ n := by
  induction n generalizing v with
  | zero =>
    have : v = 0 := by simpa using h
    subst this; rw [nlen_zero]; omega
  | succ n ih =>
    rw [nlen]
    by_cases h0 : 0 < v
    · rw [dif_pos ⟨h0, hB⟩]
      rw [Nat.pow_succ] at h
      have := ih (v := v / B) (Nat.div_lt_of_lt_mul (by rw [Nat.mul_comm]; exact h))
      omega
    · rw [dif_neg (by omega)]; omega
theorem nlen_gt {B : Nat} (hB : 2 ≤ B) {v n : Nat} (h : B ^ n ≤ v) : n < nlen B v := by
  apply Decidable.byContradiction; intro hn
  have h1 := nlen_lt hB v
  have h2 : B ^ nlen B v ≤ B ^ n := Nat.pow_le_pow_right (by omega) (by omega)
  omega
theorem nlen_eq {B : Nat} (hB : 2 ≤ B) {v n : Nat} (h1 : B ^ n ≤ v) (h2 : v < B ^ (n + 1)) : nlen B v = n + 1 := by
  have := nlen_gt hB h1
  have := nlen_le hB h2
  omega
theorem nlen_pos {B : Nat} (hB : 2 ≤ B) {v : Nat} (h : 0 < v) : 0 < nlen B v := nlen_gt hB (by rw [Nat.pow_zero]; exact h)
theorem nlen_low {B : Nat} (hB : 2 ≤ B) {v n : Nat} (h : n + 1 = nlen B v) : B ^ n ≤ v := by
  apply Decidable.byContradiction; intro hn
  have := nlen_le hB (v := v) (n := n) (by omega)
  omega
theorem nlen_mono {B : Nat} (hB : 2 ≤ B) {u v : Nat} (h : u ≤ v) : nlen B u ≤ nlen B v := nlen_le hB (by have := nlen_lt hB v; omega)
theorem lt_of_nlen {B : Nat} (hB : 2 ≤ B) {u v : Nat} (h : nlen B u < nlen B v) : u < v := by
  apply Decidable.byContradiction; intro hn
  have := nlen_mono hB (u := v) (v := u) (by omega)
  omega
theorem nlen_zero_iff {B : Nat} (hB : 2 ≤ B) {v : Nat} : nlen B v = 0 ↔ v = 0 := by
  constructor
  · intro h
    apply Decidable.byContradiction; intro hn
    have := nlen_pos hB (v := v) (by omega); omega
  · rintro rfl; exact nlen_zero B
/-- the digits of a number, no zero at the end -/
def can (B v : Nat) : List Nat := dg B (nlen B v) v
theorem can_len (B v : Nat) : (can B v).length = nlen B v := dg_len _ _ _
theorem can_zero (B : Nat) : can B 0 = [] := by rw [can, nlen_zero]; rfl
theorem can_inj {B : Nat} (hB : 2 ≤ B) {u v : Nat} (h : can B u = can B v) : u = v := by
  rw [← nv_dg (by omega) (nlen_lt hB u), ← nv_dg (by omega) (nlen_lt hB v)]
  exact congrArg (nv B) h
theorem top_zero {B v n : Nat} (h : v < B ^ (n + 1)) (h0 : v / B ^ n % B = 0) : v < B ^ n := by
  rw [Nat.pow_succ] at h
  have h1 : v / B ^ n < B := Nat.div_lt_of_lt_mul h
  rw [Nat.mod_eq_of_lt h1] at h0
  apply Decidable.byContradiction; intro hn
  have hp : 0 < B ^ n := by
    rcases Nat.eq_zero_or_pos (B ^ n) with e | e
    · rw [e] at h; simp at h
    · exact e
  have := Nat.div_pos (show B ^ n ≤ v by omega) hp
  omega
theorem top_pos {B v n : Nat} (h0 : v / B ^ n % B ≠ 0) : B ^ n ≤ v := by
  apply Decidable.byContradiction; intro hn
  rw [Nat.div_eq_of_lt (by omega), Nat.zero_mod] at h0
  exact h0 rfl
/-- a list of digits without a zero at the end is the list of its number -/
theorem can_of {B : Nat} (hB : 2 ≤ B) {n v : Nat} (h : v < B ^ n) (ht : n = 0 ∨ v / B ^ (n - 1) % B ≠ 0) : nlen B v = n := by
  rcases Nat.eq_zero_or_pos n with e | e
  · subst e
    have : v = 0 := by simpa using h
    subst this; exact nlen_zero B
  · obtain ⟨k, rfl⟩ : ∃ k, n = k + 1 := ⟨n - 1, by omega⟩
    exact nlen_eq hB (top_pos (ht.resolve_left (by omega))) h
theorem can_top {B : Nat} (hB : 2 ≤ B) {v : Nat} (h : 0 < v) : v / B ^ (nlen B v - 1) % B ≠ 0 := by
  obtain ⟨k, hk⟩ : ∃ k, k + 1 = nlen B v := ⟨nlen B v - 1, by have := nlen_pos hB h; omega⟩
  rw [← hk, Nat.add_sub_cancel]
  intro h0
  have h1 := nlen_lt hB v
  rw [← hk] at h1
  have := top_zero h1 h0
  have := nlen_low hB hk
  omega
theorem pow_pos' {B : Nat} (hB : 2 ≤ B) (n : Nat) : 0 < B ^ n := Nat.pow_pos (by omega)

/-! ### sums with a factor: x + f * y, digit by digit -/
theorem carry_step {B X Y f k c n : Nat} (hB : 0 < B) (h : (X + f * (Y % B ^ k)) / B ^ k = c + X / B ^ k) (hn : n = X / B ^ k % B + c + f * (Y / B ^ k % B)) :
    (X + f * Y) / B ^ k % B = n % B ∧ (X + f * (Y % B ^ (k + 1))) / B ^ (k + 1) = n / B + X / B ^ (k + 1) := by
  have hP : 0 < B ^ k := Nat.pow_pos hB
  rw [Nat.pow_succ]
  generalize B ^ k = P at *
  have hx := Nat.mod_add_div (X / P) B
  have hy := Nat.mod_add_div (Y / P) B
  constructor
  · have e0 : X + f * Y = (X + f * (Y % P)) + P * (f * (Y / P)) := by
      have e1 := Nat.mod_add_div Y P
      calc X + f * Y = X + f * (Y % P + P * (Y / P)) := by rw [e1]
        _ = _ := by rw [Nat.mul_add, Nat.mul_left_comm]; omega
    rw [e0, Nat.add_mul_div_left _ _ hP, h]
    have e2 : f * (Y / P) = f * (Y / P % B) + B * (f * (Y / P / B)) := by
      calc f * (Y / P) = f * (Y / P % B + B * (Y / P / B)) := by rw [hy]
        _ = _ := by rw [Nat.mul_add, Nat.mul_left_comm]
    have e3 : c + X / P + f * (Y / P) = n + B * (X / P / B + f * (Y / P / B)) := by rw [e2, hn, Nat.mul_add]; omega
    rw [e3, Nat.add_mul_mod_self_left]
  · have e0 : X + f * (Y % (P * B)) = (X + f * (Y % P)) + P * (f * (Y / P % B)) := by
      rw [Nat.mod_mul, Nat.mul_add, Nat.mul_left_comm f P]; omega
    rw [← Nat.div_div_eq_div_mul, e0, Nat.add_mul_div_left _ _ hP, h, ← Nat.div_div_eq_div_mul]
    have e3 : c + X / P + f * (Y / P % B) = n + B * (X / P / B) := by omega
    rw [e3, Nat.add_mul_div_left _ _ hB]
theorem carry_zero (B X Y f : Nat) : (X + f * (Y % B ^ 0)) / B ^ 0 = 0 + X / B ^ 0 := by simp [Nat.mod_one]
theorem carry_le {P X Z f c : Nat} (hZ : Z < P) (h : (X + f * Z) / P = c + X / P) : c ≤ f := by
  have h1 : (X + f * Z) / P ≤ (X + P * f) / P := Nat.div_le_div_right (by have : f * Z ≤ f * P := Nat.mul_le_mul_left f (by omega)
                                                                          rw [Nat.mul_comm P]; omega)
  rw [Nat.add_mul_div_left _ _ (by omega)] at h1
  omega
theorem step_bd {B x c f y : Nat} (hx : x < B) (hc : c ≤ f) (hf : f < B) (hy : y < B) : x + c + f * y < B * B := by
  have h1 : f * y ≤ (B - 1) * (B - 1) := Nat.mul_le_mul (by omega) (by omega)
  obtain ⟨d, rfl⟩ : ∃ d, B = d + 1 := ⟨B - 1, by omega⟩
  have h2 : (d + 1) * (d + 1) = d * d + d + d + 1 := by rw [Nat.add_mul, Nat.mul_add]; omega
  simp only [Nat.add_sub_cancel] at h1
  omega

/-! ### differences -/
theorem borrow_step {B X Y D k b n : Nat} (hB : 0 < B) (hD : D + Y = X) (hb : b ≤ 1) (h : X % B ^ k + b * B ^ k = D % B ^ k + Y % B ^ k)
    (hn : n = X / B ^ k % B + B - (b + Y / B ^ k % B)) :
    D / B ^ k % B = n % B ∧ n / B ≤ 1 ∧ X % B ^ (k + 1) + (1 - n / B) * B ^ (k + 1) = D % B ^ (k + 1) + Y % B ^ (k + 1) := by
  have hP : 0 < B ^ k := Nat.pow_pos hB
  rw [Nat.pow_succ]
  generalize B ^ k = P at *
  have hM : 0 < P * B := Nat.mul_pos hP hB
  have hd := Nat.mod_lt (D / P) hB
  have hx := Nat.mod_lt (X / P) hB
  have hy := Nat.mod_lt (Y / P) hB
  -- the sum of the parts
  obtain ⟨b2, hb2, he⟩ : ∃ b2, b2 ≤ 1 ∧ D % (P * B) + Y % (P * B) = X % (P * B) + b2 * (P * B) := by
    have h1 : (D % (P * B) + Y % (P * B)) % (P * B) = X % (P * B) := by rw [← hD, Nat.add_mod D Y]
    have h2 := Nat.mod_lt D hM
    have h3 := Nat.mod_lt Y hM
    have h4 := Nat.div_add_mod (D % (P * B) + Y % (P * B)) (P * B)
    rw [h1] at h4
    refine ⟨(D % (P * B) + Y % (P * B)) / (P * B), ?_, by rw [Nat.mul_comm _ (P * B)]; omega⟩
    have : (D % (P * B) + Y % (P * B)) / (P * B) < 2 := Nat.div_lt_of_lt_mul (by omega)
    omega
  have key : b + D / P % B + Y / P % B = X / P % B + b2 * B := by
    rw [Nat.mod_mul, Nat.mod_mul, Nat.mod_mul] at he
    have h5 : P * (b + D / P % B + Y / P % B) = P * (X / P % B + b2 * B) := by
      have e1 : b2 * (P * B) = P * (b2 * B) := by rw [Nat.mul_left_comm]
      rw [e1] at he
      have e2 : b * P = P * b := Nat.mul_comm _ _
      rw [e2] at h
      rw [Nat.mul_add, Nat.mul_add, Nat.mul_add]
      omega
    exact Nat.eq_of_mul_eq_mul_left hP h5
  have cases_b2 : b2 = 0 ∨ b2 = 1 := by omega
  rcases cases_b2 with rfl | rfl
  · have en : n = D / P % B + B := by omega
    rw [en, Nat.add_mod_right, Nat.mod_eq_of_lt hd, Nat.add_div_right _ hB, Nat.div_eq_of_lt hd]
    exact ⟨rfl, by omega, by omega⟩
  · have en : n = D / P % B := by omega
    rw [en, Nat.mod_eq_of_lt hd, Nat.div_eq_of_lt hd]
    exact ⟨rfl, by omega, by omega⟩
theorem borrow_zero (B X Y D : Nat) : X % B ^ 0 + 0 * B ^ 0 = D % B ^ 0 + Y % B ^ 0 := by simp [Nat.mod_one]

/-! ### order -/
theorem lt_of_div {P X Y : Nat} (h : X / P < Y / P) : X < Y := by
  apply Decidable.byContradiction; intro hn
  have := Nat.div_le_div_right (c := P) (show Y ≤ X by omega)
  omega
theorem cmp_step {B X Y k : Nat} (h : X / B ^ (k + 1) = Y / B ^ (k + 1)) :
    (X / B ^ k % B < Y / B ^ k % B → X < Y) ∧ (X / B ^ k % B = Y / B ^ k % B → X / B ^ k = Y / B ^ k) ∧ (Y / B ^ k % B < X / B ^ k % B → Y < X) := by
  rw [Nat.pow_succ, ← Nat.div_div_eq_div_mul, ← Nat.div_div_eq_div_mul] at h
  have hx := Nat.mod_add_div (X / B ^ k) B
  have hy := Nat.mod_add_div (Y / B ^ k) B
  rw [h] at hx
  exact ⟨fun hh => lt_of_div (P := B ^ k) (by omega), fun hh => by omega, fun hh => lt_of_div (P := B ^ k) (by omega)⟩
def cmpI (a b : Nat) : Int := if a < b then -1 else if b < a then 1 else 0
theorem cmpI_lt {a b : Nat} (h : a < b) : cmpI a b = -1 := if_pos h
theorem cmpI_gt {a b : Nat} (h : b < a) : cmpI a b = 1 := by unfold cmpI; rw [if_neg (by omega), if_pos h]
theorem cmpI_eq {a b : Nat} (h : a = b) : cmpI a b = 0 := by subst h; unfold cmpI; rw [if_neg (by omega), if_neg (by omega)]
theorem cmpI_neg (a b : Nat) : cmpI b a = -cmpI a b := by unfold cmpI; split <;> split <;> first | omega | rfl

/-! ### a list whose middle is written anew -/
def put (zs : List Nat) (o : Nat) (ys : List Nat) : List Nat := zs.take o ++ ys ++ zs.drop (o + ys.length)
theorem put_len {zs ys : List Nat} {o : Nat} (h : o + ys.length ≤ zs.length) : (put zs o ys).length = zs.length := by simp [put]; omega
theorem put_at {zs ys : List Nat} {o : Nat} (h : o + ys.length ≤ zs.length) (j : Nat) : at0 (put zs o ys) j = if o ≤ j ∧ j < o + ys.length then at0 ys (j - o) else at0 zs j := by
  have hto : (zs.take o).length = o := by rw [List.length_take]; omega
  unfold put at0 List.getD
  by_cases h1 : j < o
  · rw [if_neg (by omega), List.append_assoc, List.getElem?_append_left (by omega), List.getElem?_take_of_lt h1]
  · by_cases h2 : j < o + ys.length
    · rw [if_pos (by omega), List.getElem?_append_left (by rw [List.length_append]; omega), List.getElem?_append_right (by omega), hto]
    · rw [if_neg (by omega), List.getElem?_append_right (by rw [List.length_append]; omega), List.length_append, hto, List.getElem?_drop]
      congr 2; omega
theorem put_nil (zs : List Nat) (o : Nat) : put zs o [] = zs := by simp [put]
theorem put_full {zs ys : List Nat} (h : ys.length = zs.length) : put zs 0 ys = ys := by simp [put, h]
theorem put_snoc {zs ys : List Nat} {o x : Nat} (h : o + ys.length < zs.length) : (put zs o ys).set (o + ys.length) x = put zs o (ys ++ [x]) := by
  apply ext0
  · rw [List.length_set, put_len (by omega), put_len (by simp; omega)]
  · intro k _
    rw [at0_set _ _ _ _ (by rw [put_len (by omega)]; omega), put_at (by omega), put_at (by simp; omega)]
    by_cases e : k = o + ys.length
    · subst e
      rw [if_pos rfl, if_pos (by simp)]
      simp [at0, List.getD]
    · rw [if_neg e]
      by_cases h1 : o ≤ k ∧ k < o + ys.length
      · rw [if_pos h1, if_pos (by simp; omega)]
        simp only [at0, List.getD]; rw [List.getElem?_append_left (by omega)]
      · rw [if_neg h1, if_neg (by simp; omega)]
theorem put_cons {zs ys : List Nat} {o x : Nat} (h : o + 1 + ys.length ≤ zs.length) : (put zs (o + 1) ys).set o x = put zs o (x :: ys) := by
  apply ext0
  · rw [List.length_set, put_len (by omega), put_len (by simp; omega)]
  · intro k _
    rw [at0_set _ _ _ _ (by rw [put_len (by omega)]; omega), put_at (by omega), put_at (by simp; omega)]
    by_cases e : k = o
    · subst e
      rw [if_pos rfl, if_pos (by simp)]
      simp [at0, List.getD]
    · rw [if_neg e]
      by_cases h1 : o + 1 ≤ k ∧ k < o + 1 + ys.length
      · rw [if_pos h1, if_pos (by simp; omega)]
        obtain ⟨d, hd⟩ : ∃ d, k - o = d + 1 := ⟨k - o - 1, by omega⟩
        rw [hd, show k - (o + 1) = d by omega]
        simp [at0, List.getD]
      · rw [if_neg h1, if_neg (by simp; omega)]
theorem dg_cons {B n i v : Nat} (h : i < n) : dg B (n - i) (v / B ^ i) = v / B ^ i % B :: dg B (n - (i + 1)) (v / B ^ (i + 1)) := by
  obtain ⟨d, hd⟩ : ∃ d, n - i = d + 1 := ⟨n - i - 1, by omega⟩
  rw [hd, dg, Nat.div_div_eq_div_mul, ← Nat.pow_succ, show n - (i + 1) = d by omega]
/-- a window of a number's digits written anew -/
theorem put_dg {B N o n V W : Nat} (hB : 0 < B) (h : o + n ≤ N) (hW : W < B ^ n) (hV : V < B ^ (o + n)) : put (dg B N V) o (dg B n W) = dg B N (V % B ^ o + B ^ o * W) := by
  have hP : 0 < B ^ o := Nat.pow_pos hB
  have hlt : V % B ^ o + B ^ o * W < B ^ (o + n) := by
    have h1 := Nat.mod_lt V hP
    have h2 : B ^ o * (W + 1) ≤ B ^ o * B ^ n := Nat.mul_le_mul_left _ hW
    rw [Nat.mul_add, Nat.mul_one] at h2
    rw [Nat.pow_add]; omega
  apply dg_ext
  · rw [put_len (by rw [dg_len, dg_len]; exact h), dg_len]
  · intro k hk
    rw [put_at (by rw [dg_len, dg_len]; exact h), dg_len]
    by_cases h1 : k < o
    · rw [if_neg (by omega), dg_at hk]
      obtain ⟨d, rfl⟩ : ∃ d, o = k + 1 + d := ⟨o - k - 1, by omega⟩
      have e1 : B ^ (k + 1 + d) = B ^ k * (B * B ^ d) := by rw [Nat.pow_add, Nat.pow_succ, Nat.mul_assoc]
      have hPk : 0 < B ^ k := Nat.pow_pos hB
      rw [e1, Nat.mul_assoc (B ^ k), Nat.add_mul_div_left _ _ hPk, Nat.mod_mul_right_div_self, Nat.mul_assoc B, Nat.add_mul_mod_self_left, Nat.mod_mul_right_mod]
    · by_cases h2 : k < o + n
      · rw [if_pos (by omega), dg_at (by omega)]
        obtain ⟨d, rfl⟩ : ∃ d, k = o + d := ⟨k - o, by omega⟩
        rw [Nat.add_sub_cancel_left, Nat.pow_add, ← Nat.div_div_eq_div_mul, Nat.add_mul_div_left _ _ hP, Nat.div_eq_of_lt (Nat.mod_lt V hP), Nat.zero_add]
      · rw [if_neg (by omega), dg_at hk]
        have e : B ^ (o + n) ≤ B ^ k := Nat.pow_le_pow_right hB (by omega)
        rw [Nat.div_eq_of_lt (by omega), Nat.div_eq_of_lt (by omega)]
/-- a window of a number's digits read -/
theorem win_at {B N o n V j : Nat} (h : o + n ≤ N) (hj : j < n) : at0 (dg B N V) (o + j) = at0 (dg B n (V / B ^ o)) j := by
  rw [dg_at (by omega), dg_at hj, Nat.div_div_eq_div_mul, Nat.pow_add]

/-! ### products by rows -/
theorem row_step {B a b o m : Nat} (hB : 0 < B) (hb : b < B ^ m) :
    (a % B ^ o * b) / B ^ o + (a / B ^ o % B) * b < B ^ (m + 1) ∧ (a % B ^ o * b) < B ^ (o + m) ∧
    (a % B ^ o * b) % B ^ o + B ^ o * ((a % B ^ o * b) / B ^ o + (a / B ^ o % B) * b) = a % B ^ (o + 1) * b := by
  have hP : 0 < B ^ o := Nat.pow_pos hB
  have e : a % B ^ (o + 1) = a % B ^ o + B ^ o * (a / B ^ o % B) := by rw [Nat.pow_succ, Nat.mod_mul]
  have h3 : (a % B ^ o * b) % B ^ o + B ^ o * ((a % B ^ o * b) / B ^ o + (a / B ^ o % B) * b) = a % B ^ (o + 1) * b := by
    rw [e, Nat.mul_add, ← Nat.add_assoc, Nat.mod_add_div, Nat.add_mul, Nat.mul_assoc]
  have h1 : a % B ^ o * b < B ^ (o + m) := by
    rw [Nat.pow_add]
    have h4 := Nat.mod_lt a hP
    rcases Nat.eq_zero_or_pos b with rfl | hb0
    · rw [Nat.mul_zero]; exact Nat.mul_pos hP (by omega)
    · exact Nat.mul_lt_mul_of_lt_of_le h4 (by omega) (by omega)
  refine ⟨?_, h1, h3⟩
  have h5 : a % B ^ (o + 1) * b < B ^ (o + 1) * B ^ m := by
    have h4 := Nat.mod_lt a (Nat.pow_pos hB (n := o + 1))
    rcases Nat.eq_zero_or_pos b with rfl | hb0
    · rw [Nat.mul_zero]; exact Nat.mul_pos (Nat.pow_pos hB) (by omega)
    · exact Nat.mul_lt_mul_of_lt_of_le h4 (by omega) (by omega)
  have e7 : B ^ (o + 1) * B ^ m = B ^ o * (B * B ^ m) := by rw [Nat.pow_succ, Nat.mul_assoc]
  rw [e7] at h5
  have h6 : B ^ o * ((a % B ^ o * b) / B ^ o + (a / B ^ o % B) * b) < B ^ o * (B * B ^ m) :=
    Nat.lt_of_le_of_lt (Nat.le_trans (Nat.le_add_left _ _) (Nat.le_of_eq h3)) h5
  have := Nat.lt_of_mul_lt_mul_left h6
  rw [Nat.pow_succ, Nat.mul_comm (B ^ m)]; exact this

/-! ### quotients -/
/-- a digit of the quotient, guessed from the highest digits -/
theorem guess_ge {B W D P : Nat} (hP : 0 < P) (hD : 0 < D / P) (h : W < D * B) : W / D ≤ (W / P) / (D / P) ∧ W / D < B := by
  have hD0 : 0 < D := by
    rcases Nat.eq_zero_or_pos D with e | e
    · subst e; simp at hD
    · exact e
  refine ⟨?_, Nat.div_lt_of_lt_mul h⟩
  rw [Nat.le_div_iff_mul_le hD, Nat.le_div_iff_mul_le hP]
  have h1 := Nat.div_mul_le_self W D
  have h2 : D / P * P ≤ D := Nat.div_mul_le_self D P
  calc W / D * (D / P) * P = W / D * (D / P * P) := by rw [Nat.mul_assoc]
    _ ≤ W / D * D := Nat.mul_le_mul_left _ h2
    _ ≤ W := h1
theorem guess_down {W D t : Nat} (hD : 0 < D) (h : W < t * D) : W / D < t := (Nat.div_lt_iff_lt_mul hD).2 h
theorem guess_stop {W D t : Nat} (hD : 0 < D) (h1 : W / D ≤ t) (h : t * D ≤ W) : t = W / D ∧ W - t * D = W % D := by
  have h2 : t ≤ W / D := (Nat.le_div_iff_mul_le hD).2 h
  have e : t = W / D := by omega
  refine ⟨e, ?_⟩
  have := Nat.mod_add_div W D
  rw [e, Nat.mul_comm (W / D)]; omega
theorem div_step {B X D i : Nat} (hB : 0 < B) (hD : 0 < D) :
    (X % (B ^ (i + 1) * D)) / B ^ i < D * B ∧ (X % (B ^ (i + 1) * D)) / B ^ i / D = X / D / B ^ i % B ∧
    (X % (B ^ (i + 1) * D)) % B ^ i + B ^ i * ((X % (B ^ (i + 1) * D)) / B ^ i % D) = X % (B ^ i * D) := by
  have hP : 0 < B ^ i := Nat.pow_pos hB
  rw [Nat.pow_succ]
  generalize B ^ i = P at *
  have e1 : P * B * D = P * (D * B) := by rw [Nat.mul_assoc, Nat.mul_comm B]
  rw [e1]
  refine ⟨?_, ?_, ?_⟩
  · exact Nat.div_lt_of_lt_mul (Nat.mod_lt _ (Nat.mul_pos hP (Nat.mul_pos hD hB)))
  · rw [Nat.mod_mul_right_div_self, Nat.mod_mul_right_div_self, Nat.div_div_eq_div_mul, Nat.div_div_eq_div_mul, Nat.mul_comm P]
  · rw [← Nat.mod_mul, ← Nat.mul_assoc, Nat.mod_mul_right_mod]
theorem div_start {B x y s m n : Nat} (hB : 2 ≤ B) (hx : x < B ^ m) (hn : n + 1 = nlen B y) (hmn : n ≤ m) : x * s < B ^ (m - n) * (y * s) ∨ s = 0 := by
  rcases Nat.eq_zero_or_pos s with e | e
  · exact .inr e
  · left
    have h1 := nlen_low hB hn
    have h2 : B ^ m ≤ B ^ (m - n) * y := by
      calc B ^ m = B ^ (m - n) * B ^ n := by rw [← Nat.pow_add]; congr 1; omega
        _ ≤ _ := Nat.mul_le_mul_left _ h1
    rw [← Nat.mul_assoc]
    exact Nat.mul_lt_mul_of_pos_right (by omega) e
/-- shifts to the right, digit by digit -/
theorem shr_step {B S T X i : Nat} (hS : 0 < S) (hB : B = S * T) :
    ((X / B ^ (i + 1) % B) * B + X / B ^ i % B) / S % B = X / S / B ^ i % B := by
  have e0 : X / S / B ^ i = X / B ^ i / S := by rw [Nat.div_div_eq_div_mul, Nat.div_div_eq_div_mul, Nat.mul_comm]
  rw [e0, Nat.pow_succ, ← Nat.div_div_eq_div_mul]
  generalize X / B ^ i = Z
  have e1 := Nat.mod_add_div Z B
  have e2 := Nat.mod_add_div (Z / B) B
  have e3 : Z = (Z / B % B * B + Z % B) + S * (T * B * (Z / B / B)) := by
    have e4 : S * (T * B * (Z / B / B)) = B * (B * (Z / B / B)) := by
      conv => rhs; lhs; rw [hB]
      simp only [Nat.mul_assoc]
    have e5 : B * (Z / B) = B * (Z / B % B) + B * (B * (Z / B / B)) := by rw [← Nat.mul_add, e2]
    have e6 : Z / B % B * B = B * (Z / B % B) := Nat.mul_comm _ _
    omega
  conv => rhs; rw [e3]
  rw [Nat.add_mul_div_left _ _ hS, Nat.mul_comm T, Nat.mul_assoc, Nat.add_mul_mod_self_left]
/-- division by a small number, from the highest digit on -/
theorem chunk_step {B X c i : Nat} (hB : 0 < B) (hc : 0 < c) :
    (X / B ^ (i + 1) % c * B + X / B ^ i % B) / c = X / c / B ^ i % B ∧ (X / B ^ (i + 1) % c * B + X / B ^ i % B) % c = X / B ^ i % c := by
  have e0 : X / c / B ^ i = X / B ^ i / c := by rw [Nat.div_div_eq_div_mul, Nat.div_div_eq_div_mul, Nat.mul_comm]
  rw [e0, Nat.pow_succ, ← Nat.div_div_eq_div_mul]
  generalize X / B ^ i = Z
  have e1 := Nat.mod_add_div Z B
  have e2 := Nat.mod_add_div (Z / B) c
  have e3 : Z = (Z / B % c * B + Z % B) + c * (Z / B / c * B) := by
    have e4 : c * (Z / B / c * B) = B * (c * (Z / B / c)) := by rw [← Nat.mul_assoc, Nat.mul_comm _ B]
    have e5 : B * (Z / B) = B * (Z / B % c) + B * (c * (Z / B / c)) := by rw [← Nat.mul_add, e2]
    have e6 : Z / B % c * B = B * (Z / B % c) := Nat.mul_comm _ _
    omega
  have hlt : (Z / B % c * B + Z % B) / c < B := by
    apply Nat.div_lt_of_lt_mul
    have h1 := Nat.mod_lt (Z / B) hc
    have h2 := Nat.mod_lt Z hB
    have h3 : (Z / B % c + 1) * B ≤ c * B := Nat.mul_le_mul_right B h1
    rw [Nat.add_mul, Nat.one_mul] at h3
    omega
  constructor
  · conv => rhs; rw [e3]
    rw [Nat.add_mul_div_left _ _ hc, Nat.add_mul_mod_self_right, Nat.mod_eq_of_lt hlt]
  · conv => rhs; rw [e3]
    rw [Nat.add_mul_mod_self_left]
/-- two digits in base H are one in base H * H -/
theorem half_at (H v i : Nat) (hH : 0 < H) : v / (H * H) ^ i % (H * H) % H = v / H ^ (2 * i) % H ∧ v / (H * H) ^ i % (H * H) / H = v / H ^ (2 * i + 1) % H := by
  have e : (H * H) ^ i = H ^ (2 * i) := by rw [Nat.pow_mul, Nat.pow_two]
  rw [e]
  constructor
  · rw [Nat.mod_mul_right_mod]
  · rw [Nat.mod_mul_right_div_self, Nat.div_div_eq_div_mul, Nat.pow_succ]
theorem nlen_double (H v : Nat) (hH : 2 ≤ H) : nlen H v ≤ 2 * nlen (H * H) v ∧ 2 * nlen (H * H) v ≤ nlen H v + 1 := by
  have hHH : 2 ≤ H * H := by have : 2 * 2 ≤ H * H := Nat.mul_le_mul hH hH
                             omega
  have h1 := nlen_lt hHH v
  have e : ∀ i, (H * H) ^ i = H ^ (2 * i) := fun i => by rw [Nat.pow_mul, Nat.pow_two]
  rw [e] at h1
  refine ⟨nlen_le hH h1, ?_⟩
  apply Decidable.byContradiction; intro hn
  obtain ⟨k, hk⟩ : ∃ k, k + 1 = nlen (H * H) v := ⟨nlen (H * H) v - 1, by omega⟩
  have h2 := nlen_low hHH hk
  rw [e] at h2
  have := nlen_gt hH h2
  omega
end Go.Proofs.Ytjblfmgiafdefaa.natM

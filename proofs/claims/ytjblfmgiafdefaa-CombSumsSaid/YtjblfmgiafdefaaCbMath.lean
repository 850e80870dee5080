/-
  Binomial coefficients, ranks of combinations, Vandermonde's sum: plain mathematics.
-/
import Derived.Test.YtjblfmgiafdefaaMonMath
import Derived.Lib.Hide
namespace Go.Proofs.Ytjblfmgiafdefaa.cbM
open Go.Proofs.Ytjblfmgiafdefaa.monM
set_option linter.unusedVariables false

/-- the binomial coefficient -/
def ch : Nat → Nat → Nat
  | _, 0 => 1
  | 0, _ + 1 => 0
  | n + 1, k + 1 => ch n k + ch n (k + 1)
theorem ch_zero (n : Nat) : ch n 0 = 1 := by cases n <;> rfl
theorem ch_z (k : Nat) : ch 0 (k + 1) = 0 := rfl
theorem ch_succ (n k : Nat) : ch (n + 1) (k + 1) = ch n k + ch n (k + 1) := rfl
theorem ch_gt : ∀ {n k : Nat}, n < k → ch n k = 0
  | _, 0, h => by omega
  | 0, k + 1, _ => rfl
  | n + 1, k + 1, h => by rw [ch_succ, ch_gt (by omega), ch_gt (by omega)]
theorem ch_self : ∀ n : Nat, ch n n = 1
  | 0 => rfl
  | n + 1 => by rw [ch_succ, ch_self n, ch_gt (by omega)]
theorem ch_pos : ∀ {n k : Nat}, k ≤ n → 0 < ch n k
  | n, 0, _ => by rw [ch_zero]; omega
  | n + 1, k + 1, h => by rw [ch_succ]; have := ch_pos (n := n) (k := k) (by omega); omega
theorem ch_mono1 (n k : Nat) : ch n k ≤ ch (n + 1) k := by
  cases k with
  | zero => rw [ch_zero, ch_zero]; omega
  | succ k => rw [ch_succ]; omega
theorem ch_mono {m n k : Nat} (h : m ≤ n) : ch m k ≤ ch n k := by
  obtain ⟨d, rfl⟩ := Nat.le.dest h
  clear h
  induction d with
  | zero => exact Nat.le_refl _
  | succ d ih => exact Nat.le_trans ih (ch_mono1 _ _)
/-- C(n, k) and C(n, k+1) within C(n+1, k+1) -/
theorem ch_le1 (n k : Nat) : ch n k ≤ ch (n + 1) (k + 1) := by rw [ch_succ]; omega
theorem ch_le2 (n k : Nat) : ch n (k + 1) ≤ ch (n + 1) (k + 1) := by rw [ch_succ]; omega
/-- absorption: (k+1) C(n+1, k+1) = (n+1) C(n, k) -/
theorem ch_absorb : ∀ n k : Nat, ch (n + 1) (k + 1) * (k + 1) = ch n k * (n + 1)
  | 0, 0 => rfl
  | 0, k + 1 => by rw [ch_gt (show 0 + 1 < k + 1 + 1 by omega), ch_z]; omega
  | n + 1, 0 => by
    have h := ch_absorb n 0
    rw [ch_succ (n + 1) 0, ch_zero, Nat.add_mul]
    rw [ch_zero] at h
    omega
  | n + 1, k + 1 => by
    have h1 := ch_absorb n k
    have h2 := ch_absorb n (k + 1)
    rw [ch_succ (n + 1) (k + 1), Nat.add_mul, h2, Nat.mul_add (ch (n + 1) (k + 1)) (k + 1) 1, h1, ch_succ n k]
    simp only [Nat.mul_add, Nat.add_mul, Nat.mul_one]
    omega
/-- from one coefficient of n to the next -/
theorem ch_step : ∀ n k : Nat, ch n (k + 1) * (k + 1) = ch n k * (n - k)
  | 0, 0 => rfl
  | 0, k + 1 => by rw [ch_z, ch_z]; omega
  | n + 1, k => by
    by_cases h : k ≤ n
    · have h1 := ch_absorb n k
      cases k with
      | zero =>
        rw [ch_zero] at h1 ⊢
        omega
      | succ k =>
        have h2 := ch_absorb n k
        have e : ch (n + 1) (k + 1) * (n + 1 - (k + 1)) = ch n (k + 1) * (n + 1) := by
          have h3 := ch_step n k
          obtain ⟨d, hd⟩ := Nat.le.dest (show k + 1 ≤ n from h)
          subst hd
          rw [show k + 1 + d + 1 - (k + 1) = d + 1 by omega]
          rw [show k + 1 + d - k = d + 1 by omega] at h3
          rw [ch_succ, Nat.add_mul, ← h3, ← Nat.mul_add]
          congr 1
        rw [h1, e]
    · rw [ch_gt (show n + 1 < k + 1 by omega), Nat.zero_mul, show n + 1 - k = 0 by omega, Nat.mul_zero]
theorem ch_symm_add : ∀ a b : Nat, ch (a + b) a = ch (a + b) b
  | 0, b => by rw [ch_zero, Nat.zero_add, ch_self]
  | a + 1, 0 => by rw [ch_zero, Nat.add_zero, ch_self]
  | a + 1, b + 1 => by
    have h1 := ch_symm_add a (b + 1)
    have h2 := ch_symm_add (a + 1) b
    rw [show a + 1 + (b + 1) = (a + b + 1) + 1 by omega, ch_succ (a + b + 1) a, ch_succ (a + b + 1) b]
    rw [show a + (b + 1) = a + b + 1 by omega] at h1
    rw [show a + 1 + b = a + b + 1 by omega] at h2
    omega
theorem ch_symm {n k : Nat} (h : k ≤ n) : ch n (n - k) = ch n k := by
  obtain ⟨d, rfl⟩ := Nat.le.dest h
  rw [show k + d - k = d by omega, ch_symm_add]
/-- up to the middle the coefficients grow -/
theorem ch_grow {n i j : Nat} (h : i ≤ j) (hj : 2 * j ≤ n) : ch n i ≤ ch n j := by
  obtain ⟨d, rfl⟩ := Nat.le.dest h
  clear h
  induction d with
  | zero => exact Nat.le_refl _
  | succ d ih =>
    refine Nat.le_trans (ih (by omega)) ?_
    have e := ch_step n (i + d)
    have : ch n (i + d) * (i + d + 1) ≤ ch n (i + (d + 1)) * (i + d + 1) := by
      rw [show i + (d + 1) = i + d + 1 by omega, e]
      exact Nat.mul_le_mul_left _ (by omega)
    exact Nat.le_of_mul_le_mul_right this (by omega)
theorem ch_pow : ∀ n k : Nat, ch n k ≤ 2 ^ n
  | n, 0 => by rw [ch_zero]; exact Nat.one_le_two_pow
  | 0, k + 1 => by rw [ch_z]; omega
  | n + 1, k + 1 => by
    have h1 := ch_pow n k
    have h2 := ch_pow n (k + 1)
    rw [ch_succ, Nat.pow_succ]; omega
theorem ch_80 {n k : Nat} (h : n ≤ 80) : ch n k ≤ 1208925819614629174706176 := Nat.le_trans (ch_pow n k) (Nat.le_trans (Nat.pow_le_pow_right (by omega) h) (by decide))

/-! ### lists in ascending order -/
def Asc (n : Nat) : Nat → List Int → Prop
  | _, [] => True
  | lo, x :: l => (lo : Int) < x ∧ x ≤ (n : Int) ∧ Asc n x.toNat l
/-- how many combinations are greater -/
def gl (n : Nat) : List Int → Nat
  | [] => 0
  | x :: l => ch (n - x.toNat) (l.length + 1) + gl n l
theorem gl_le {n : Nat} : ∀ {lo : Nat} {l : List Int}, lo ≤ n → Asc n lo l → gl n l + 1 ≤ ch (n - lo) l.length
  | lo, [], _, _ => by simp [gl, ch_zero]
  | lo, x :: l, hlo, ⟨h1, h2, h3⟩ => by
    have ih := gl_le (show x.toNat ≤ n by omega) h3
    have e : ch (n - x.toNat + 1) (l.length + 1) ≤ ch (n - lo) (l.length + 1) := ch_mono (by omega)
    rw [ch_succ] at e
    simp only [gl, List.length_cons]
    omega
theorem gl_drop_le (n : Nat) : ∀ (i : Nat) (l : List Int), gl n (l.drop i) ≤ gl n l
  | 0, l => by simp
  | i + 1, [] => by simp
  | i + 1, x :: l => by
    rw [List.drop_succ_cons]
    exact Nat.le_trans (gl_drop_le n i l) (by simp [gl])
theorem drop_at {l : List Int} {i : Nat} (h : i < l.length) : l.drop i = at0 l i :: l.drop (i + 1) := by
  rw [List.drop_eq_getElem_cons h]
  have := at0_some h
  rw [List.getElem?_eq_getElem h] at this
  injection this with this
  rw [this]
/-- one element fewer at the head -/
theorem gl_drop {n i : Nat} {l : List Int} (h : i < l.length) : gl n (l.drop i) = ch (n - (at0 l i).toNat) (l.length - i) + gl n (l.drop (i + 1)) := by
  rw [drop_at h]
  simp only [gl, List.length_drop]
  rw [show l.length - (i + 1) + 1 = l.length - i by omega]

/-! ### the combination of a rank -/
def un (n : Nat) : Nat → Nat → Nat → List Int
  | 0, _, _ => []
  | m + 1, j, r => if j = 0 then [] else if r < ch m (j - 1) then ((n - m : Nat) : Int) :: un n m (j - 1) r else un n m j (r - ch m (j - 1))
theorem un_zero (n m r : Nat) : un n m 0 r = [] := by cases m <;> simp [un]
theorem un_take {n m j r : Nat} (h : r < ch m j) : un n (m + 1) (j + 1) r = ((n - m : Nat) : Int) :: un n m j r := by
  rw [un, if_neg (by omega), show j + 1 - 1 = j by omega, if_pos h]
theorem un_skip {n m j r : Nat} (h : ch m j ≤ r) : un n (m + 1) (j + 1) r = un n m (j + 1) (r - ch m j) := by
  rw [un, if_neg (by omega), show j + 1 - 1 = j by omega, if_neg (by omega)]
theorem un_len {n : Nat} : ∀ {m j r : Nat}, r < ch m j → (un n m j r).length = j
  | m, 0, r, _ => by rw [un_zero]; rfl
  | 0, j + 1, r, h => by rw [ch_z] at h; omega
  | m + 1, j + 1, r, h => by
    by_cases c : r < ch m j
    · rw [un_take c, List.length_cons, un_len c]
    · rw [un_skip (by omega), un_len (by rw [ch_succ] at h; omega)]
theorem un_asc {n : Nat} : ∀ {m j r : Nat}, m ≤ n → r < ch m j → ∀ lo, lo ≤ n - m → Asc n lo (un n m j r)
  | m, 0, r, _, _, lo, _ => by rw [un_zero]; trivial
  | 0, j + 1, r, _, h, lo, _ => by rw [ch_z] at h; omega
  | m + 1, j + 1, r, hm, h, lo, hlo => by
    by_cases c : r < ch m j
    · rw [un_take c]
      refine ⟨by omega, by omega, un_asc (by omega) c _ (by omega)⟩
    · rw [un_skip (by omega)]
      exact un_asc (by omega) (by rw [ch_succ] at h; omega) lo (by omega)
theorem un_gl {n : Nat} : ∀ {m j r : Nat}, m ≤ n → r < ch m j → gl n (un n m j r) + 1 + r = ch m j
  | m, 0, r, _, h => by rw [un_zero, ch_zero]; rw [ch_zero] at h; simp [gl]; omega
  | 0, j + 1, r, _, h => by rw [ch_z] at h; omega
  | m + 1, j + 1, r, hm, h => by
    by_cases c : r < ch m j
    · have ih := un_gl (n := n) (show m ≤ n by omega) c
      rw [un_take c]
      simp only [gl]
      rw [un_len c, ch_succ, show n - ((n - m : Nat) : Int).toNat = m by omega]
      omega
    · have ih := un_gl (n := n) (show m ≤ n by omega) (show r - ch m j < ch m (j + 1) by rw [ch_succ] at h; omega)
      rw [un_skip (by omega), ch_succ]
      omega

/-! ### the next combination -/
def sq (x : Int) : Nat → List Int
  | 0 => []
  | m + 1 => x :: sq (x + 1) m
theorem sq_len : ∀ (x : Int) (m : Nat), (sq x m).length = m
  | x, 0 => rfl
  | x, m + 1 => by rw [sq, List.length_cons, sq_len]
theorem sq_at : ∀ (x : Int) (m j : Nat), j < m → at0 (sq x m) j = x + j
  | x, m + 1, 0, _ => by simp [sq, at0]
  | x, m + 1, j + 1, h => by
    have := sq_at (x + 1) m j (by omega)
    unfold at0 at this ⊢
    rw [sq, List.getD_cons_succ, this]
    omega
theorem sq_gl {n : Nat} : ∀ (m : Nat) (x : Int), 0 < x → x.toNat + m ≤ n + 1 → gl n (sq x m) + 1 = ch (n + 1 - x.toNat) m
  | 0, x, _, _ => by rw [ch_zero]; rfl
  | m + 1, x, h0, h => by
    have ih := sq_gl (n := n) m (x + 1) (by omega) (by omega)
    simp only [sq, gl]
    rw [sq_len, show n + 1 - x.toNat = n - x.toNat + 1 by omega, ch_succ]
    rw [show n + 1 - (x + 1).toNat = n - x.toNat by omega] at ih
    omega
theorem sq_asc {n : Nat} : ∀ (m : Nat) (x : Int) (lo : Nat), (lo : Int) < x → x + m ≤ n + 1 → Asc n lo (sq x m)
  | 0, x, lo, _, _ => trivial
  | m + 1, x, lo, h0, h => ⟨h0, by omega, sq_asc m (x + 1) x.toNat (by omega) (by omega)⟩
theorem asc_room {n : Nat} : ∀ {lo : Nat} {l : List Int}, lo ≤ n → Asc n lo l → lo + l.length ≤ n
  | lo, [], h, _ => by simpa using h
  | lo, x :: l, h, ⟨h1, h2, h3⟩ => by
    have := asc_room (show x.toNat ≤ n by omega) h3
    rw [List.length_cons]; omega
theorem asc_app {n : Nat} {q s : List Int} : ∀ {p : List Int} {lo : Nat}, (∀ m : Nat, m ≤ n → Asc n m s → Asc n m q) → lo ≤ n → Asc n lo (p ++ s) → Asc n lo (p ++ q)
  | [], lo, hq, hlo, h => hq lo hlo h
  | x :: p, lo, hq, hlo, ⟨h1, h2, h3⟩ => ⟨h1, h2, asc_app hq (by omega) h3⟩
theorem asc_tail {n : Nat} {s : List Int} : ∀ {p : List Int} {lo : Nat}, lo ≤ n → Asc n lo (p ++ s) → ∃ m, lo ≤ m ∧ m ≤ n ∧ Asc n m s
  | [], lo, hlo, h => ⟨lo, Nat.le_refl _, hlo, h⟩
  | x :: p, lo, hlo, ⟨h1, h2, h3⟩ => by
    obtain ⟨m, a, b, c⟩ := asc_tail (by omega) h3
    exact ⟨m, by omega, b, c⟩
/-- with the same length behind, the head counts the same -/
theorem gl_app {n : Nat} {q s : List Int} (hl : q.length = s.length) {d : Nat} (hg : gl n q + d = gl n s) : ∀ p : List Int, gl n (p ++ q) + d = gl n (p ++ s)
  | [] => hg
  | x :: p => by
    have ih := gl_app hl hg p
    simp only [List.cons_append, gl, List.length_append, hl]
    omega
/-- a tail as great as can be, from place T on -/
def Top (n : Nat) (zs : List Int) (T : Nat) : Prop := zs.drop T = sq ((n : Int) + 1 - (zs.length - T : Nat)) (zs.length - T)
theorem top_end (n : Nat) (zs : List Int) : Top n zs zs.length := by unfold Top; rw [Nat.sub_self, List.drop_length]; rfl
theorem top_down {n T : Nat} {zs : List Int} (hT : T < zs.length) (h : Top n zs (T + 1)) (he : at0 zs T = (n : Int) - (zs.length - (T + 1) : Nat)) : Top n zs T := by
  unfold Top at h ⊢
  rw [drop_at hT, h, he, show zs.length - T = zs.length - (T + 1) + 1 by omega, sq]
  congr 1
  · omega
  · congr 1; omega
theorem top_zero {n : Nat} {zs : List Int} (hA : Asc n 0 zs) (h : Top n zs 0) : gl n zs = 0 := by
  have hr := asc_room (by omega) hA
  unfold Top at h
  rw [List.drop_zero, Nat.sub_zero] at h
  have hg := sq_gl (n := n) zs.length ((n : Int) + 1 - (zs.length : Nat)) (by omega) (by omega)
  rw [show n + 1 - ((n : Int) + 1 - (zs.length : Nat)).toNat = zs.length by omega, ch_self] at hg
  rw [← h] at hg
  omega
/-- the list with the elements from T to i - 1 replaced by the successors of the one at T -/
def nr (zs : List Int) (T i : Nat) : List Int := (List.range zs.length).map fun j => if T ≤ j ∧ j < i then at0 zs T + 1 + ((j - T : Nat) : Int) else at0 zs j
theorem nr_len (zs : List Int) (T i : Nat) : (nr zs T i).length = zs.length := by simp [nr]
theorem nr_at {zs : List Int} {T i j : Nat} (h : j < zs.length) : at0 (nr zs T i) j = if T ≤ j ∧ j < i then at0 zs T + 1 + ((j - T : Nat) : Int) else at0 zs j := by
  apply at0_of
  unfold nr
  rw [List.getElem?_map, List.getElem?_range h]; rfl
theorem nr_start (zs : List Int) (T : Nat) : nr zs T T = zs := by
  apply ext0 (nr_len _ _ _)
  intro k hk
  rw [nr_len] at hk
  rw [nr_at hk, if_neg (by omega)]
theorem nr_set {zs : List Int} {T i : Nat} (hT : T ≤ i) (hi : i < zs.length) : (nr zs T i).set i (at0 zs T + 1 + ((i - T : Nat) : Int)) = nr zs T (i + 1) := by
  apply ext0 (by simp [nr_len])
  intro k hk
  rw [List.length_set, nr_len] at hk
  rw [at0_set _ _ _ _ (by rw [nr_len]; exact hi), nr_at hk, nr_at hk]
  by_cases e : k = i
  · subst e; rw [if_pos rfl, if_pos (by omega)]
  · rw [if_neg e]
    by_cases c : T ≤ k ∧ k < i
    · rw [if_pos c, if_pos (by omega)]
    · rw [if_neg c, if_neg (by omega)]
theorem at0_app_l {a b : List Int} {k : Nat} (h : k < a.length) : at0 (a ++ b) k = at0 a k := by
  apply at0_of; rw [List.getElem?_append_left h]; exact at0_some h
theorem at0_app_r {a b : List Int} {k : Nat} (h : a.length ≤ k) (h2 : k < a.length + b.length) : at0 (a ++ b) k = at0 b (k - a.length) := by
  apply at0_of; rw [List.getElem?_append_right h]; exact at0_some (by omega)
theorem at0_take {a : List Int} {k T : Nat} (h : k < T) (h2 : k < a.length) : at0 (a.take T) k = at0 a k := by
  apply at0_of; rw [List.getElem?_take_of_lt h]; exact at0_some h2
theorem nr_eq {zs : List Int} {T : Nat} (hT : T ≤ zs.length) : nr zs T zs.length = zs.take T ++ sq (at0 zs T + 1) (zs.length - T) := by
  have hl : (zs.take T).length = T := by simp; omega
  apply ext0 (by simp [nr_len, sq_len]; omega)
  intro k hk
  rw [nr_len] at hk
  rw [nr_at hk]
  by_cases c : T ≤ k
  · rw [if_pos ⟨c, hk⟩, at0_app_r (by omega) (by rw [hl, sq_len]; omega), hl, sq_at _ _ _ (by omega)]
  · rw [if_neg (by omega), at0_app_l (by omega), at0_take (by omega) hk]
theorem take_drop_at {zs : List Int} {T : Nat} (hT : T < zs.length) : zs.take T ++ (at0 zs T :: zs.drop (T + 1)) = zs := by rw [← drop_at hT, List.take_append_drop]
/-- the successor: one place further, in order, as long -/
theorem nr_next {n T : Nat} {zs : List Int} (hT : T < zs.length) (hA : Asc n 0 zs) (h : Top n zs (T + 1)) (he : at0 zs T ≠ (n : Int) - (zs.length - (T + 1) : Nat)) :
    Asc n 0 (nr zs T zs.length) ∧ gl n (nr zs T zs.length) + 1 = gl n zs := by
  obtain ⟨m, hm⟩ : ∃ m, m = zs.length - (T + 1) := ⟨_, rfl⟩
  unfold Top at h
  rw [← hm] at h he
  have e0 := take_drop_at hT
  have hA2 := hA
  rw [← e0] at hA2
  obtain ⟨lo, l1, l2, hx⟩ := asc_tail (by omega) hA2
  obtain ⟨x1, x2, x3⟩ := hx
  have room := asc_room (n := n) (lo := lo) l2 (show Asc n lo (at0 zs T :: zs.drop (T + 1)) from ⟨x1, x2, x3⟩)
  have room2 := asc_room (n := n) (lo := (at0 zs T).toNat) (by omega) x3
  rw [List.length_drop, ← hm] at room2
  rw [nr_eq (by omega), show zs.length - T = m + 1 by omega]
  obtain ⟨x, hxe⟩ : ∃ x, x = at0 zs T := ⟨_, rfl⟩
  rw [← hxe] at e0 he x1 x2 x3 hA2 room2 ⊢
  constructor
  · refine asc_app (s := x :: zs.drop (T + 1)) ?_ (by omega) hA2
    intro k hk ⟨y1, y2, y3⟩
    exact sq_asc _ _ _ (by omega) (by omega)
  · have hs : gl n (zs.drop (T + 1)) = 0 := by
      rw [h]
      have hg := sq_gl (n := n) m ((n : Int) + 1 - m) (by omega) (by omega)
      rw [show n + 1 - ((n : Int) + 1 - m).toNat = m by omega, ch_self] at hg
      omega
    have hg := sq_gl (n := n) (m + 1) (x + 1) (by omega) (by omega)
    have hd : gl n (x :: zs.drop (T + 1)) = ch (n - x.toNat) (m + 1) := by
      simp only [gl, List.length_drop]
      rw [hs, ← hm]; omega
    rw [show n + 1 - (x + 1).toNat = n - x.toNat by omega] at hg
    have := gl_app (n := n) (q := sq (x + 1) (m + 1)) (s := x :: zs.drop (T + 1)) (by rw [sq_len]; simp; omega) (d := 1) (by rw [hg, hd]) (zs.take T)
    rw [this, e0]

/-! ### Vandermonde -/
def vt (d m k i : Nat) : Nat := if i ≤ k then ch d i * ch m (k - i) else 0
def vs (d m k : Nat) : Nat → Nat
  | 0 => 0
  | h + 1 => vs d m k h + vt d m k h
theorem vs_mono {d m k i : Nat} : ∀ {h : Nat}, i ≤ h → vs d m k i ≤ vs d m k h
  | 0, hi => by rw [show i = 0 by omega]; exact Nat.le_refl _
  | h + 1, hi => by
    by_cases e : i = h + 1
    · rw [e]; exact Nat.le_refl _
    · exact Nat.le_trans (vs_mono (h := h) (by omega)) (Nat.le_add_right _ _)
theorem vt_split (d m k i : Nat) : vt (d + 1) m (k + 1) (i + 1) = vt d m (k + 1) (i + 1) + vt d m k i := by
  unfold vt
  by_cases c : i ≤ k
  · rw [if_pos (by omega), if_pos (by omega), if_pos c, ch_succ, show k + 1 - (i + 1) = k - i by omega, Nat.add_mul]
    omega
  · rw [if_neg (by omega), if_neg (by omega), if_neg c]
theorem vs_split (d m k : Nat) : ∀ h : Nat, vs (d + 1) m (k + 1) (h + 1) = vs d m (k + 1) (h + 1) + vs d m k h
  | 0 => by simp [vs, vt, ch_zero]
  | h + 1 => by
    rw [vs, vs_split d m k h, vt_split]
    conv => rhs; rw [vs]
    rw [show vs d m k (h + 1) = vs d m k h + vt d m k h from rfl]
    omega
theorem vs_zero (d m : Nat) : ∀ h : Nat, vs d m 0 (h + 1) = 1
  | 0 => by simp [vs, vt, ch_zero]
  | h + 1 => by rw [vs, vs_zero d m h]; simp [vt]
theorem vs_all : ∀ (d m k h : Nat), d + 1 ≤ h → vs d m k h = ch (d + m) k
  | 0, m, k, h, hh => by
    rw [Nat.zero_add]
    obtain ⟨g, rfl⟩ : ∃ g, h = g + 1 := ⟨h - 1, by omega⟩
    clear hh
    induction g with
    | zero => simp [vs, vt, ch_zero]
    | succ g ih =>
      rw [vs, ih]
      unfold vt
      split
      · rw [ch_z, Nat.zero_mul]; rfl
      · rfl
  | d + 1, m, 0, h, hh => by
    obtain ⟨g, rfl⟩ : ∃ g, h = g + 1 := ⟨h - 1, by omega⟩
    rw [vs_zero, ch_zero]
  | d + 1, m, k + 1, h, hh => by
    obtain ⟨g, rfl⟩ : ∃ g, h = g + 1 := ⟨h - 1, by omega⟩
    rw [vs_split, vs_all d m (k + 1) (g + 1) (by omega), vs_all d m k g (by omega), show d + 1 + m = d + m + 1 by omega, ch_succ]
    omega
end Go.Proofs.Ytjblfmgiafdefaa.cbM

/-
  Plain mathematics for package money: no program in sight. Sums; the first greatest element; parts that are rounded down and the units that are given out.
-/
import Derived.Lib.Mul64
import Derived.Lib.Hide
namespace Go.Proofs.Ytjblfmgiafdefaa.monM
set_option linter.unusedVariables false

/-! ### lists -/
def at0 (l : List Int) (k : Nat) : Int := l.getD k 0
theorem at0_of {l : List Int} {k : Nat} {x : Int} (h : l[k]? = some x) : at0 l k = x := by simp [at0, List.getD, h]
theorem at0_some {l : List Int} {k : Nat} (h : k < l.length) : l[k]? = some (at0 l k) := by simp [at0, List.getD, List.getElem?_eq_getElem h]
theorem at0_out {l : List Int} {k : Nat} (h : l.length ≤ k) : at0 l k = 0 := by simp [at0, List.getD, List.getElem?_eq_none h]
theorem lt_of_some {l : List Int} {k : Nat} {x : Int} (h : l[k]? = some x) : k < l.length := by
  rcases Nat.lt_or_ge k l.length with h1 | h1
  · exact h1
  · rw [List.getElem?_eq_none h1] at h; cases h
theorem at0_set (l : List Int) (i : Nat) (x : Int) (k : Nat) (h : i < l.length) : at0 (l.set i x) k = if k = i then x else at0 l k := by
  unfold at0 List.getD
  rw [List.getElem?_set]
  by_cases e : k = i
  · subst e; rw [if_pos rfl, if_pos rfl, if_pos h]; rfl
  · rw [if_neg (Ne.symm e), if_neg e]
theorem ext0 {a b : List Int} (hl : a.length = b.length) (h : ∀ k, k < a.length → at0 a k = at0 b k) : a = b := by
  apply List.ext_getElem? ; intro k
  rcases Nat.lt_or_ge k a.length with h1 | h1
  · rw [at0_some h1, at0_some (by omega), h k h1]
  · rw [List.getElem?_eq_none h1, List.getElem?_eq_none (by omega)]

/-- the sum of the first k -/
def sm (l : List Int) : Nat → Int
  | 0 => 0
  | k + 1 => sm l k + at0 l k
theorem sm_le {l : List Int} {c : Int} (h : ∀ j, at0 l j ≤ c) (k : Nat) : sm l k ≤ c * k := by
  induction k with
  | zero => simp [sm]
  | succ k ih => rw [sm]; have := h k; rw [Int.natCast_succ, Int.mul_add, Int.mul_one]; omega
theorem sm_nonneg {l : List Int} (h : ∀ j, 0 ≤ at0 l j) (k : Nat) : 0 ≤ sm l k := by
  induction k with
  | zero => simp [sm]
  | succ k ih => rw [sm]; have := h k; omega
theorem sm_mono {l : List Int} (h : ∀ j, 0 ≤ at0 l j) {i k : Nat} (hk : i ≤ k) : sm l i ≤ sm l k := by
  induction k with
  | zero => obtain rfl : i = 0 := by omega
            exact Int.le_refl _
  | succ k ih =>
    by_cases e : i = k + 1
    · subst e; exact Int.le_refl _
    · have := ih (by omega); rw [sm]; have := h k; omega
theorem sm_ge_one {l : List Int} (h : ∀ j, 0 ≤ at0 l j) {i k : Nat} (hk : i < k) : at0 l i ≤ sm l k := by
  have := sm_mono h (show i + 1 ≤ k by omega)
  rw [sm] at this; have := sm_nonneg h i; omega
theorem sm_congr {a b : List Int} {k : Nat} (h : ∀ j, j < k → at0 a j = at0 b j) : sm a k = sm b k := by
  induction k with
  | zero => rfl
  | succ k ih => rw [sm, sm, ih (fun j hj => h j (by omega)), h k (by omega)]
theorem sm_set (l : List Int) (i : Nat) (x : Int) (h : i < l.length) (k : Nat) : sm (l.set i x) k = sm l k + if i < k then x - at0 l i else 0 := by
  induction k with
  | zero => simp [sm]
  | succ k ih =>
    rw [sm, sm, ih, at0_set l i x k h]
    by_cases e : k = i
    · subst e; rw [if_pos rfl, if_neg (by omega), if_pos (by omega)]; omega
    · rw [if_neg e]
      by_cases h2 : i < k
      · rw [if_pos h2, if_pos (by omega)]; omega
      · rw [if_neg h2, if_neg (by omega)]; omega
theorem sm_pos_ex {l : List Int} (k : Nat) (h : 0 < sm l k) : ∃ j, j < k ∧ 0 < at0 l j := by
  induction k with
  | zero => simp [sm] at h
  | succ k ih =>
    by_cases h2 : 0 < at0 l k
    · exact ⟨k, by omega, h2⟩
    · rw [sm] at h
      obtain ⟨j, h3, h4⟩ := ih (by omega)
      exact ⟨j, by omega, h4⟩

/-! ### the first greatest element -/
def gr (l : List Int) : Nat → Nat
  | 0 => 0
  | k + 1 => if at0 l (gr l k) < at0 l k then k else gr l k
theorem gr_one (l : List Int) : gr l 1 = 0 := by
  show (if at0 l 0 < at0 l 0 then 0 else 0) = 0
  split <;> rfl
theorem gr_lt (l : List Int) (k : Nat) : gr l k ≤ k ∧ (0 < k → gr l k < k) := by
  induction k with
  | zero => simp [gr]
  | succ k ih => rw [gr]; split <;> omega
theorem gr_yes {l : List Int} {k : Nat} (h : at0 l (gr l k) < at0 l k) : gr l (k + 1) = k := if_pos h
theorem gr_no {l : List Int} {k : Nat} (h : ¬ at0 l (gr l k) < at0 l k) : gr l (k + 1) = gr l k := if_neg h
theorem gr_max (l : List Int) (k : Nat) : ∀ j, j < k → at0 l j ≤ at0 l (gr l k) ∧ (j < gr l k → at0 l j < at0 l (gr l k)) := by
  induction k with
  | zero => intro j hj; omega
  | succ k ih =>
    intro j hj
    have hb := gr_lt l k
    by_cases h : at0 l (gr l k) < at0 l k
    · rw [gr_yes h]
      by_cases e : j = k
      · subst e; exact ⟨Int.le_refl _, fun h => by omega⟩
      · have := (ih j (by omega)).1
        exact ⟨by omega, fun _ => by omega⟩
    · rw [gr_no h]
      by_cases e : j = k
      · subst e; exact ⟨by omega, fun h => by omega⟩
      · exact ih j (by omega)
theorem gr_unique {l : List Int} {k i : Nat} (hi : i < k) (h : ∀ j, j < k → at0 l j ≤ at0 l i ∧ (j < i → at0 l j < at0 l i)) : gr l k = i := by
  have hm := gr_max l k
  have hb := (gr_lt l k).2 (by omega)
  have h1 := hm i hi
  have h2 := h (gr l k) hb
  by_cases e : gr l k < i
  · have := h2.2 e; omega
  · by_cases e2 : i < gr l k
    · have := h1.2 e2; omega
    · omega

/-! ### the units that are given out: z is what marks a part that has had its unit -/
def stepP (z : Int) (s : List Int × List Int) : List Int × List Int :=
  (s.1.set (gr s.2 s.2.length) (at0 s.1 (gr s.2 s.2.length) + 1), s.2.set (gr s.2 s.2.length) z)
def give (z : Int) (p r : List Int) : Nat → List Int × List Int
  | 0 => (p, r)
  | k + 1 => stepP z (give z p r k)
theorem give_len (z : Int) (p r : List Int) (k : Nat) : (give z p r k).1.length = p.length ∧ (give z p r k).2.length = r.length := by
  induction k with
  | zero => exact ⟨rfl, rfl⟩
  | succ k ih => simp [give, stepP, ih]

/-- what holds when k units are given: q, r0 at the start; W above each remainder -/
structure Giv (q r0 p r : List Int) (n k : Nat) (z W : Int) : Prop where
  lp : p.length = n
  lr : r.length = n
  each : ∀ j, j < n → (at0 p j = at0 q j ∧ at0 r j = at0 r0 j) ∨ (at0 p j = at0 q j + 1 ∧ at0 r j = z ∧ 0 < at0 r0 j)
  tot : sm p n = sm q n + k
  rest : sm r0 n ≤ sm r n + k * W
  ord : ∀ i j, i < n → j < n → (at0 r0 j < at0 r0 i ∨ (at0 r0 i = at0 r0 j ∧ i < j)) → at0 p j = at0 q j + 1 → at0 p i = at0 q i + 1
theorem Giv.start {q r0 : List Int} {n : Nat} (lq : q.length = n) (lr : r0.length = n) (z W : Int) : Giv q r0 q r0 n 0 z W where
  lp := lq
  lr := lr
  each := fun j hj => .inl ⟨rfl, rfl⟩
  tot := by simp
  rest := by simp
  ord := fun i j _ _ _ h => by omega
/-- the one that is next: it has had none, and its remainder is not 0 -/
theorem Giv.next {q r0 p r : List Int} {n k : Nat} {z W L : Int} (h : Giv q r0 p r n k z W) (hz0 : z ≤ 0) (hW : 0 < W) (hL : sm r0 n = L * W) (hk : (k : Int) < L) :
    gr r n < n ∧ 0 < at0 r (gr r n) ∧ at0 p (gr r n) = at0 q (gr r n) ∧ at0 r (gr r n) = at0 r0 (gr r n) := by
  have h1 := h.rest
  rw [hL] at h1
  have h2 : 1 * W ≤ (L - k) * W := Int.mul_le_mul_of_nonneg_right (by omega) (by omega)
  rw [Int.sub_mul] at h2
  obtain ⟨j, hj, hp⟩ := sm_pos_ex (l := r) n (by omega)
  have h3 := (gr_max r n j hj).1
  have h4 := (gr_lt r n).2 (by omega)
  have h5 : 0 < at0 r (gr r n) := by omega
  refine ⟨h4, h5, ?_⟩
  rcases h.each _ h4 with ⟨a, b⟩ | ⟨a, b, c⟩
  · exact ⟨a, b⟩
  · omega
theorem Giv.step {q r0 p r : List Int} {n k : Nat} {z W L : Int} (h : Giv q r0 p r n k z W) (hz0 : z ≤ 0) (hz1 : -1 ≤ z) (hW : 0 < W) (hr : ∀ j, at0 r0 j < W) (hL : sm r0 n = L * W) (hk : (k : Int) < L) :
    Giv q r0 (p.set (gr r n) (at0 p (gr r n) + 1)) (r.set (gr r n) z) n (k + 1) z W := by
  obtain ⟨f1, f2, f3, f4⟩ := h.next hz0 hW hL hk
  have hm := gr_max r n
  have hrf := hr (gr r n)
  generalize gr r n = f at *
  have lp := h.lp
  have lr := h.lr
  have ap := fun j => at0_set p f (at0 p f + 1) j (by omega)
  have ar := fun j => at0_set r f z j (by omega)
  refine ⟨by simp [lp], by simp [lr], fun j hj => ?_, ?_, ?_, fun i j hi hj hb hg => ?_⟩
  · rw [ap, ar]
    by_cases e : j = f
    · subst e; rw [if_pos rfl, if_pos rfl]; exact .inr ⟨by omega, rfl, by omega⟩
    · rw [if_neg e, if_neg e]; exact h.each j hj
  · rw [sm_set p f _ (by omega), if_pos f1, h.tot]; omega
  · rw [sm_set r f _ (by omega), if_pos f1]
    have := h.rest
    rw [Int.natCast_succ, Int.add_mul, Int.one_mul]
    omega
  · rw [ap] at hg ⊢
    by_cases ei : i = f
    · subst ei; rw [if_pos rfl]; omega
    · rw [if_neg ei]
      by_cases ej : j = f
      · subst ej
        rcases h.each i hi with ⟨a, b⟩ | ⟨a, b, c⟩
        · have := hm i hi
          rcases hb with hb | ⟨hb1, hb2⟩
          · omega
          · have := this.2 hb2; omega
        · exact a
      · rw [if_neg ej] at hg
        exact h.ord i j hi hj hb hg
/-- whatever marks the given ones: the same parts -/
theorem Giv.same {q r0 p r r' : List Int} {n k : Nat} {z z' W L : Int} (h : Giv q r0 p r n k z W) (h' : Giv q r0 p r' n k z' W) (hz0 : z ≤ 0) (hz0' : z' ≤ 0) (hW : 0 < W) (hL : sm r0 n = L * W) (hk : (k : Int) < L) :
    gr r' n = gr r n := by
  obtain ⟨f1, f2, f3, f4⟩ := h.next hz0 hW hL hk
  have hm := gr_max r n
  generalize gr r n = f at *
  refine gr_unique f1 fun j hj => ?_
  have e := h.each j hj
  have e' := h'.each j hj
  have ef := h'.each f f1
  have := hm j hj
  refine ⟨?_, fun hlt => ?_⟩
  · omega
  · have := this.2 hlt; omega
theorem give_giv {q r0 : List Int} {n : Nat} {z W L : Int} (lq : q.length = n) (lr : r0.length = n) (hz0 : z ≤ 0) (hz1 : -1 ≤ z) (hW : 0 < W) (hr : ∀ j, at0 r0 j < W) (hL : sm r0 n = L * W) :
    ∀ k : Nat, (k : Int) ≤ L → Giv q r0 (give z q r0 k).1 (give z q r0 k).2 n k z W
  | 0, _ => Giv.start lq lr z W
  | k + 1, hk => by
    have h := give_giv lq lr hz0 hz1 hW hr hL k (by omega)
    have h2 := h.step hz0 hz1 hW hr hL (by omega)
    have e : (give z q r0 k).2.length = n := h.lr
    show Giv q r0 (stepP z (give z q r0 k)).1 (stepP z (give z q r0 k)).2 n (k + 1) z W
    unfold stepP
    rw [e]; exact h2
theorem give_same {q r0 : List Int} {n : Nat} {W L : Int} (lq : q.length = n) (lr : r0.length = n) (hW : 0 < W) (hr : ∀ j, at0 r0 j < W) (hL : sm r0 n = L * W) :
    ∀ k : Nat, (k : Int) ≤ L → (give (-1) q r0 k).1 = (give 0 q r0 k).1
  | 0, _ => rfl
  | k + 1, hk => by
    have ih := give_same lq lr hW hr hL k (by omega)
    have h := give_giv (z := 0) lq lr (by omega) (by omega) hW hr hL k (by omega)
    have h' := give_giv (z := -1) lq lr (by omega) (by omega) hW hr hL k (by omega)
    rw [ih] at h'
    have hs := h.same h' (by omega) (by omega) hW hL (by omega)
    show (stepP (-1) (give (-1) q r0 k)).1 = (stepP 0 (give 0 q r0 k)).1
    unfold stepP
    dsimp only
    rw [h.lr, h'.lr, hs, ih]

/-! ### a split -/
def qs (m W : Int) (ws : List Int) : List Int := ws.map fun x => m * x / W
def rs (m W : Int) (ws : List Int) : List Int := ws.map fun x => m * x % W
theorem qs_len (m W : Int) (ws : List Int) : (qs m W ws).length = ws.length := by simp [qs]
theorem rs_len (m W : Int) (ws : List Int) : (rs m W ws).length = ws.length := by simp [rs]
theorem qs_at (m W : Int) (ws : List Int) (j : Nat) : at0 (qs m W ws) j = m * at0 ws j / W := by
  by_cases h : j < ws.length
  · exact at0_of (by simp [qs, at0_some h])
  · rw [at0_out (by rw [qs_len]; omega), at0_out (by omega)]; simp
theorem rs_at (m W : Int) (ws : List Int) (j : Nat) : at0 (rs m W ws) j = m * at0 ws j % W := by
  by_cases h : j < ws.length
  · exact at0_of (by simp [rs, at0_some h])
  · rw [at0_out (by rw [rs_len]; omega), at0_out (by omega)]; simp
theorem split_eq (m W : Int) (ws : List Int) (k : Nat) : sm (qs m W ws) k * W + sm (rs m W ws) k = m * sm ws k := by
  induction k with
  | zero => simp [sm]
  | succ k ih =>
    rw [sm, sm, sm, qs_at, rs_at, Int.add_mul, Int.mul_add, ← ih]
    have := Int.ediv_mul_add_emod (m * at0 ws k) W
    omega
theorem left_eq (m : Int) (ws : List Int) (n : Nat) : sm (rs m (sm ws n) ws) n = (m - sm (qs m (sm ws n) ws) n) * sm ws n := by
  have := split_eq m (sm ws n) ws n
  rw [Int.sub_mul]; omega
theorem rs_bd {m W : Int} (hW : 0 < W) (ws : List Int) (j : Nat) : 0 ≤ at0 (rs m W ws) j ∧ at0 (rs m W ws) j < W := by
  rw [rs_at]; exact ⟨Int.emod_nonneg _ (by omega), Int.emod_lt_of_pos _ hW⟩
theorem qs_nn {m W : Int} (hm : 0 ≤ m) (hW : 0 < W) {ws : List Int} (hw : ∀ j, 0 ≤ at0 ws j) (j : Nat) : 0 ≤ at0 (qs m W ws) j := by
  rw [qs_at]; exact Int.ediv_nonneg (Int.mul_nonneg hm (hw j)) (by omega)
theorem left_bd {m : Int} (hm : 0 ≤ m) {ws : List Int} {n : Nat} (hw : ∀ j, 0 ≤ at0 ws j) (hW : 0 < sm ws n) (k : Nat) (hk : k ≤ n) :
    0 ≤ sm (qs m (sm ws n) ws) k ∧ sm (qs m (sm ws n) ws) k ≤ sm (qs m (sm ws n) ws) n ∧ sm (qs m (sm ws n) ws) n ≤ m := by
  have hq := fun j => qs_nn hm hW hw j
  refine ⟨sm_nonneg hq k, sm_mono hq hk, ?_⟩
  have e := left_eq m ws n
  have h0 := sm_nonneg (fun j => (rs_bd (m := m) hW ws j).1) n
  rw [e] at h0
  have : 0 ≤ m - sm (qs m (sm ws n) ws) n := by
    apply Decidable.byContradiction; intro hn
    have := Int.mul_neg_of_neg_of_pos (show m - sm (qs m (sm ws n) ws) n < 0 by omega) hW
    omega
  omega

/-- the parts of a split -/
def parts (m : Int) (ws : List Int) : List Int := (give 0 (qs m (sm ws ws.length) ws) (rs m (sm ws ws.length) ws) (m - sm (qs m (sm ws ws.length) ws) ws.length).toNat).1
theorem parts_giv {m : Int} (hm : 0 ≤ m) {ws : List Int} (hw : ∀ j, 0 ≤ at0 ws j) (hW : 0 < sm ws ws.length) :
    ∃ r, Giv (qs m (sm ws ws.length) ws) (rs m (sm ws ws.length) ws) (parts m ws) r ws.length (m - sm (qs m (sm ws ws.length) ws) ws.length).toNat 0 (sm ws ws.length) := by
  obtain ⟨b1, b2, b3⟩ := left_bd hm hw hW ws.length (Nat.le_refl _)
  exact ⟨_, give_giv (qs_len _ _ _) (rs_len _ _ _) (by omega) (by omega) hW (fun j => (rs_bd hW ws j).2) (left_eq m ws ws.length) _ (by omega)⟩
theorem parts_len {m : Int} (hm : 0 ≤ m) {ws : List Int} (hw : ∀ j, 0 ≤ at0 ws j) (hW : 0 < sm ws ws.length) : (parts m ws).length = ws.length := by
  obtain ⟨r, h⟩ := parts_giv hm hw hW; exact h.lp
theorem parts_sum {m : Int} (hm : 0 ≤ m) {ws : List Int} (hw : ∀ j, 0 ≤ at0 ws j) (hW : 0 < sm ws ws.length) : sm (parts m ws) ws.length = m := by
  obtain ⟨r, h⟩ := parts_giv hm hw hW
  obtain ⟨b1, b2, b3⟩ := left_bd hm hw hW ws.length (Nat.le_refl _)
  rw [h.tot]; omega
theorem parts_each {m : Int} (hm : 0 ≤ m) {ws : List Int} (hw : ∀ j, 0 ≤ at0 ws j) (hW : 0 < sm ws ws.length) {j : Nat} (hj : j < ws.length) :
    at0 (parts m ws) j = m * at0 ws j / sm ws ws.length ∨ (at0 (parts m ws) j = m * at0 ws j / sm ws ws.length + 1 ∧ 0 < m * at0 ws j % sm ws ws.length) := by
  obtain ⟨r, h⟩ := parts_giv hm hw hW
  rcases h.each j hj with ⟨a, _⟩ | ⟨a, _, b⟩
  · rw [qs_at] at a; exact .inl a
  · rw [qs_at] at a; rw [rs_at] at b; exact .inr ⟨a, b⟩
theorem parts_ord {m : Int} (hm : 0 ≤ m) {ws : List Int} (hw : ∀ j, 0 ≤ at0 ws j) (hW : 0 < sm ws ws.length) {i k : Nat} (hi : i < ws.length) (hk : k < ws.length) :
    (at0 ws k < at0 ws i → at0 (parts m ws) k ≤ at0 (parts m ws) i) ∧ (at0 ws i = at0 ws k → i < k → at0 (parts m ws) k ≤ at0 (parts m ws) i ∧ at0 (parts m ws) i ≤ at0 (parts m ws) k + 1) := by
  obtain ⟨r, h⟩ := parts_giv hm hw hW
  have ei := h.each i hi
  have ek := h.each k hk
  have o := h.ord i k hi hk
  have qi := qs_at m (sm ws ws.length) ws i
  have qk := qs_at m (sm ws ws.length) ws k
  have ri := rs_at m (sm ws ws.length) ws i
  have rk := rs_at m (sm ws ws.length) ws k
  refine ⟨fun hlt => ?_, fun he hlt => ?_⟩
  · have hmul : m * at0 ws k ≤ m * at0 ws i := Int.mul_le_mul_of_nonneg_left (by omega) hm
    have hd := Int.ediv_le_ediv hW hmul
    have e1 := Int.ediv_mul_add_emod (m * at0 ws i) (sm ws ws.length)
    have e2 := Int.ediv_mul_add_emod (m * at0 ws k) (sm ws ws.length)
    by_cases hq : m * at0 ws k / sm ws ws.length = m * at0 ws i / sm ws ws.length
    · rw [hq] at e2 qk
      by_cases hz : m * at0 ws k % sm ws ws.length = m * at0 ws i % sm ws ws.length
      · -- the product is the same, so the amount is 0
        have hme : m * at0 ws k = m * at0 ws i := by omega
        have hm0 : m = 0 := by
          apply Decidable.byContradiction; intro hn
          have := Int.eq_of_mul_eq_mul_left hn hme
          omega
        have z1 : m * at0 ws i = 0 := by rw [hm0]; simp
        rw [hme, z1] at rk
        rw [z1] at ri
        simp at ri rk
        omega
      · omega
    · omega
  · rw [he] at qi ri
    omega
end Go.Proofs.Ytjblfmgiafdefaa.monM

/-
  Plain mathematics of the binary form: varints of numbers below 2^64, their reading, zigzag codes; a reader's steps on what is left; frames.
-/
import Derived.Test.YtpmmddemeiljjaaDgMath
namespace Go.Proofs.Ytpmmddemeiljjaa.wrM
open Go.Proofs.Ytpmmddemeiljjaa.dgM
set_option linter.unusedVariables false

/-- a byte -/
def by8 (n : Nat) : UInt8 := UInt8.ofNat n
theorem by8_nat {n : Nat} (h : n < 256) : (by8 n).toNat = n := by
  unfold by8; rw [UInt8.toNat_ofNat', Nat.mod_eq_of_lt h]
theorem by8_back (c : UInt8) : by8 c.toNat = c := by
  apply UInt8.toNat_inj.1; rw [by8_nat c.toNat_lt]
/-- the varint of a number, at most f bytes -/
def vn : Nat → Nat → List UInt8
  | 0, _ => []
  | f + 1, x => if x < 128 then [by8 x] else by8 (x % 128 + 128) :: vn f (x / 128)
theorem vn_small {f x : Nat} (h : x < 128) : vn (f + 1) x = [by8 x] := by rw [vn, if_pos h]
theorem vn_big {f x : Nat} (h : ¬ x < 128) : vn (f + 1) x = by8 (x % 128 + 128) :: vn f (x / 128) := by rw [vn, if_neg h]
theorem vn_len : ∀ (f x : Nat), (vn f x).length ≤ f
  | 0, _ => Nat.le_refl _
  | f + 1, x => by
    by_cases h : x < 128
    · rw [vn_small h]; simp
    · rw [vn_big h, List.length_cons]; have := vn_len f (x / 128); omega
theorem vn_pos (f x : Nat) : 0 < (vn (f + 1) x).length := by
  by_cases h : x < 128
  · rw [vn_small h]; simp
  · rw [vn_big h, List.length_cons]; omega

/-! ### reading -/
/-- what is read from a list, f bytes at most: the number, how many bytes, the error -/
def tk : Nat → List UInt8 → Nat × Nat × Nat
  | 0, _ => (0, 0, 9)
  | _ + 1, [] => (0, 0, 28)
  | f + 1, c :: l =>
    if f = 0 ∧ 1 < c.toNat then (0, 0, 9)
    else if c.toNat = 0 ∧ f < 9 then (0, 0, 27)
    else if c.toNat < 128 then (c.toNat, 1, 0)
    else if (tk f l).2.2 = 0 then (c.toNat - 128 + 128 * (tk f l).1, (tk f l).2.1 + 1, 0) else (0, 0, (tk f l).2.2)
section
variable {f : Nat} {c : UInt8} {l : List UInt8}
theorem tk_nil : tk (f + 1) [] = (0, 0, 28) := rfl
theorem tk_over (h : f = 0) (h1 : 1 < c.toNat) : tk (f + 1) (c :: l) = (0, 0, 9) := by rw [tk, if_pos ⟨h, h1⟩]
theorem tk_zero (h : ¬ (f = 0 ∧ 1 < c.toNat)) (h0 : c.toNat = 0) (h1 : f < 9) : tk (f + 1) (c :: l) = (0, 0, 27) := by rw [tk, if_neg h, if_pos ⟨h0, h1⟩]
theorem tk_last (h : ¬ (f = 0 ∧ 1 < c.toNat)) (h0 : ¬ (c.toNat = 0 ∧ f < 9)) (h1 : c.toNat < 128) : tk (f + 1) (c :: l) = (c.toNat, 1, 0) := by rw [tk, if_neg h, if_neg h0, if_pos h1]
theorem tk_more (h : ¬ (f = 0 ∧ 1 < c.toNat)) (h1 : ¬ c.toNat < 128) : tk (f + 1) (c :: l) = if (tk f l).2.2 = 0 then (c.toNat - 128 + 128 * (tk f l).1, (tk f l).2.1 + 1, 0) else (0, 0, (tk f l).2.2) := by
  rw [tk, if_neg h, if_neg (by omega), if_neg h1]
end
/-- an error leaves nothing -/
theorem tk_err : ∀ (f : Nat) (l : List UInt8), (tk f l).2.2 ≠ 0 → (tk f l).1 = 0 ∧ (tk f l).2.1 = 0
  | 0, _, _ => ⟨rfl, rfl⟩
  | f + 1, [], _ => ⟨rfl, rfl⟩
  | f + 1, c :: l, h => by
    by_cases a : f = 0 ∧ 1 < c.toNat
    · rw [tk_over a.1 a.2]; exact ⟨rfl, rfl⟩
    by_cases b : c.toNat = 0 ∧ f < 9
    · rw [tk_zero a b.1 b.2]; exact ⟨rfl, rfl⟩
    by_cases d : c.toNat < 128
    · rw [tk_last a b d] at h; exact absurd rfl h
    · rw [tk_more a d] at h ⊢
      by_cases e : (tk f l).2.2 = 0
      · rw [if_pos e] at h; exact absurd rfl h
      · rw [if_neg e]; exact ⟨rfl, rfl⟩
theorem tk_len : ∀ (f : Nat) (l : List UInt8), (tk f l).2.1 ≤ l.length
  | 0, _ => Nat.zero_le _
  | f + 1, [] => Nat.zero_le _
  | f + 1, c :: l => by
    by_cases a : f = 0 ∧ 1 < c.toNat
    · rw [tk_over a.1 a.2]; exact Nat.zero_le _
    by_cases b : c.toNat = 0 ∧ f < 9
    · rw [tk_zero a b.1 b.2]; exact Nat.zero_le _
    by_cases d : c.toNat < 128
    · rw [tk_last a b d, List.length_cons]; show 1 ≤ _; omega
    · rw [tk_more a d]
      have := tk_len f l
      by_cases e : (tk f l).2.2 = 0
      · rw [if_pos e, List.length_cons]; show (tk f l).2.1 + 1 ≤ _; omega
      · rw [if_neg e]; exact Nat.zero_le _
/-- the greatest number of f bytes, less than -/
def cap : Nat → Nat
  | 0 => 0
  | 1 => 2
  | f + 2 => 128 * cap (f + 1)
theorem cap_ten : cap 10 = A64 := by decide
theorem cap_pos : ∀ f, 2 ≤ cap (f + 1)
  | 0 => Nat.le_refl _
  | f + 1 => by show 2 ≤ 128 * cap (f + 1); have := cap_pos f; omega
theorem cap_big : ∀ f, 1 ≤ f → 128 ≤ cap (f + 1)
  | 0, h => absurd h (by omega)
  | f + 1, _ => by show 128 ≤ 128 * cap (f + 1); have := cap_pos f; omega
/-- what is written is read: a last byte is 0 only at the first place -/
theorem tk_vn : ∀ (f x : Nat) (r : List UInt8), f ≤ 9 → x < cap (f + 1) → (f < 9 → x ≠ 0) → tk (f + 1) (vn (f + 1) x ++ r) = (x, (vn (f + 1) x).length, 0)
  | f, x, r, hf, hx, h0 => by
    by_cases h : x < 128
    · have e : (by8 x).toNat = x := by8_nat (by omega)
      have hx2 : f = 0 → x < 2 := fun z => by subst z; exact hx
      rw [vn_small h]
      show tk (f + 1) (by8 x :: r) = _
      rw [tk_last (by rw [e]; exact fun z => by have := hx2 z.1; omega) (by rw [e]; exact fun z => h0 z.2 z.1) (by rw [e]; exact h), e]
      rfl
    · have e : (by8 (x % 128 + 128)).toNat = x % 128 + 128 := by8_nat (by omega)
      cases f with
      | zero => exact absurd hx (by show ¬ x < 2; omega)
      | succ f =>
        have hx' : x / 128 < cap (f + 1) := by
          have : x < 128 * cap (f + 1) := hx
          omega
        rw [vn_big h, List.cons_append, tk_more (by omega) (by rw [e]; omega), tk_vn f (x / 128) r (by omega) hx' (by intro _; omega), if_pos rfl, e]
        show (x % 128 + 128 - 128 + 128 * (x / 128), (vn (f + 1) (x / 128)).length + 1, 0) = (x, _, 0)
        rw [List.length_cons]
        congr 1
        omega
/-- what is read was written -/
theorem vn_tk : ∀ (f : Nat) (l : List UInt8), f ≤ 9 → (tk (f + 1) l).2.2 = 0 →
    vn (f + 1) (tk (f + 1) l).1 ++ l.drop (tk (f + 1) l).2.1 = l ∧ (vn (f + 1) (tk (f + 1) l).1).length = (tk (f + 1) l).2.1 ∧ (tk (f + 1) l).1 < cap (f + 1) ∧ (f < 9 → (tk (f + 1) l).1 ≠ 0)
  | f, [], hf, h => absurd h (by rw [tk_nil]; show ¬ 28 = 0; omega)
  | f, c :: l, hf, h => by
    by_cases a : f = 0 ∧ 1 < c.toNat
    · rw [tk_over a.1 a.2] at h; exact absurd h (by show ¬ 9 = 0; omega)
    by_cases b : c.toNat = 0 ∧ f < 9
    · rw [tk_zero a b.1 b.2] at h; exact absurd h (by show ¬ 27 = 0; omega)
    by_cases d : c.toNat < 128
    · rw [tk_last a b d]
      refine ⟨?_, ?_, ?_, ?_⟩
      · show vn (f + 1) c.toNat ++ l = _
        rw [vn_small d, by8_back]; rfl
      · show (vn (f + 1) c.toNat).length = 1
        rw [vn_small d]; rfl
      · show c.toNat < cap (f + 1)
        cases f with
        | zero => show c.toNat < 2; omega
        | succ f => have := cap_big (f + 1) (by omega); omega
      · show f < 9 → c.toNat ≠ 0
        intro z y; exact b ⟨y, z⟩
    · rw [tk_more a d] at h ⊢
      have u := c.toNat_lt
      by_cases e : (tk f l).2.2 = 0
      · rw [if_pos e] at h ⊢
        cases f with
        | zero => exact absurd e (by show ¬ 9 = 0; omega)
        | succ f =>
          obtain ⟨i1, i2, i3, i4⟩ := vn_tk f l (by omega) e
          have i4' := i4 (by omega)
          generalize (tk (f + 1) l).1 = x at *
          generalize (tk (f + 1) l).2.1 = n at *
          have k1 : (c.toNat - 128 + 128 * x) % 128 + 128 = c.toNat := by omega
          have k2 : (c.toNat - 128 + 128 * x) / 128 = x := by omega
          have k3 : ¬ c.toNat - 128 + 128 * x < 128 := by omega
          refine ⟨?_, ?_, ?_, ?_⟩
          · show vn (f + 1 + 1) (c.toNat - 128 + 128 * x) ++ l.drop n = c :: l
            rw [vn_big k3, k1, k2, by8_back, List.cons_append, i1]
          · show (vn (f + 1 + 1) (c.toNat - 128 + 128 * x)).length = n + 1
            rw [vn_big k3, k2, List.length_cons, i2]
          · show c.toNat - 128 + 128 * x < 128 * cap (f + 1)
            omega
          · show _ → c.toNat - 128 + 128 * x ≠ 0
            omega
      · rw [if_neg e] at h; exact absurd h e
/-- the varint of a number -/
def vr (x : Nat) : List UInt8 := vn 10 x
/-- a varint is read -/
def tr (l : List UInt8) : Nat × Nat × Nat := tk 10 l
theorem tr_vr {x : Nat} (hx : x < A64) (r : List UInt8) : tr (vr x ++ r) = (x, (vr x).length, 0) :=
  tk_vn 9 x r (Nat.le_refl _) (by rw [cap_ten]; exact hx) (fun h => absurd h (by omega))
theorem vr_tr {l : List UInt8} (h : (tr l).2.2 = 0) : vr (tr l).1 ++ l.drop (tr l).2.1 = l ∧ (vr (tr l).1).length = (tr l).2.1 ∧ (tr l).1 < A64 := by
  obtain ⟨a, b, c, _⟩ := vn_tk 9 l (Nat.le_refl _) h
  rw [cap_ten] at c
  exact ⟨a, b, c⟩
theorem vr_len (x : Nat) : (vr x).length ≤ 10 := vn_len 10 x
theorem vr_pos (x : Nat) : 0 < (vr x).length := vn_pos 9 x
theorem tr_len (l : List UInt8) : (tr l).2.1 ≤ l.length := tk_len 10 l
theorem tr_nil : tr [] = (0, 0, 28) := rfl

/-! ### zigzag -/
def zz (x : Int) : Nat := if x < 0 then 2 * (-(x + 1)).toNat + 1 else 2 * x.toNat
def sg (u : Nat) : Int := if u % 2 = 1 then -((u / 2 : Nat) : Int) - 1 else ((u / 2 : Nat) : Int)
theorem sg_zz (x : Int) : sg (zz x) = x := by
  unfold zz sg
  split
  · rw [if_pos (by omega)]; omega
  · rw [if_neg (by omega)]; omega
theorem zz_sg (u : Nat) : zz (sg u) = u := by
  unfold zz sg
  split
  · rw [if_pos (by omega)]; omega
  · rw [if_neg (by omega)]; omega
theorem zz_lt {x : Int} (h0 : -9223372036854775808 ≤ x) (h1 : x ≤ 9223372036854775807) : zz x < A64 := by
  show zz x < 18446744073709551616
  unfold zz; split <;> omega
theorem sg_in {u : Nat} (h : u < A64) : -9223372036854775808 ≤ sg u ∧ sg u ≤ 9223372036854775807 := by
  have h' : u < 18446744073709551616 := h
  unfold sg; split <;> omega
end Go.Proofs.Ytpmmddemeiljjaa.wrM

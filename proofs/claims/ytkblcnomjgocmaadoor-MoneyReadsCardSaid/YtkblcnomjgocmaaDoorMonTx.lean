/-
  Plain mathematics of amounts as texts: no program in sight.
-/
import Derived.Test.YtkblcnomjgocmaaDoorNumText
namespace Go.Proofs.YtkblcnomjgocmaaDoor.monX
open Go.Proofs.YtkblcnomjgocmaaDoor.numT
set_option linter.unusedVariables false

def b0 (l : List UInt8) (k : Nat) : UInt8 := l.getD k 0
theorem b0_get {l : List UInt8} {k : Nat} (h : k < l.length) : b0 l k = l[k] := by simp [b0, List.getD, h]
/-- the text of a number with two places -/
def frm (l : List UInt8) : Bool := decide (4 ≤ l.length) && (b0 l (l.length - 3) == 46) && digs (l.drop (l.length - 2)) && refB (l.take (l.length - 3))
def amt (l : List UInt8) : Nat := valN (l.take (l.length - 3)) * 100 + valN (l.drop (l.length - 2))
def mE (l : List UInt8) : Int := if frm l = true then (if amt l ≤ 1000000000000 then 0 else 9) else 1
def mV (l : List UInt8) : Int := if frm l = true then (if amt l ≤ 1000000000000 then (amt l : Int) else 0) else 0
theorem m_no {l : List UInt8} (h : frm l = false) : mV l = 0 ∧ mE l = 1 := by
  unfold mV mE; rw [if_neg (by simp [h]), if_neg (by simp [h])]; exact ⟨rfl, rfl⟩
theorem m_ok {l : List UInt8} (h : frm l = true) (h2 : amt l ≤ 1000000000000) : mV l = (amt l : Int) ∧ mE l = 0 := by
  unfold mV mE; rw [if_pos h, if_pos h, if_pos h2, if_pos h2]; exact ⟨rfl, rfl⟩
theorem m_big {l : List UInt8} (h : frm l = true) (h2 : 1000000000000 < amt l) : mV l = 0 ∧ mE l = 9 := by
  unfold mV mE; rw [if_pos h, if_pos h, if_neg (by omega), if_neg (by omega)]; exact ⟨rfl, rfl⟩
theorem frm_short {l : List UInt8} (h : l.length < 4) : frm l = false := by
  unfold frm; rw [decide_eq_false (by omega)]; rfl
theorem refB_digs {l : List UInt8} (h : refB l = true) : digs l = true ∧ l ≠ [] := by
  unfold refB at h
  rw [Bool.or_eq_true] at h
  rcases h with h | h
  · have : l = [48] := by simpa using h
    subst this; exact ⟨by decide, by simp⟩
  · have := numB_iff.1 h; exact ⟨this.2.2, this.1⟩
theorem frm_iff {l : List UInt8} {n : Nat} (hn : l.length = n + 3) : frm l = true ↔ b0 l n = 46 ∧ digs (l.drop (n + 1)) = true ∧ refB (l.take n) = true := by
  unfold frm
  rw [hn, show n + 3 - 3 = n by omega, show n + 3 - 2 = n + 1 by omega]
  simp only [Bool.and_eq_true, decide_eq_true_eq, beq_iff_eq]
  constructor
  · rintro ⟨⟨⟨h1, h2⟩, h3⟩, h4⟩; exact ⟨h2, h3, h4⟩
  · rintro ⟨h2, h3, h4⟩
    refine ⟨⟨⟨?_, h2⟩, h3⟩, h4⟩
    have := (refB_digs h4).2
    have h5 : n ≠ 0 := fun e => this (by rw [e]; rfl)
    omega
theorem frm_no {l : List UInt8} {n : Nat} (hn : l.length = n + 3) (h : b0 l n ≠ 46 ∨ digs (l.drop (n + 1)) = false ∨ refB (l.take n) = false) : frm l = false := by
  cases e : frm l with
  | false => rfl
  | true =>
    obtain ⟨h1, h2, h3⟩ := (frm_iff hn).1 e
    rcases h with h | h | h
    · exact absurd h1 h
    · rw [h] at h2; cases h2
    · rw [h] at h3; cases h3
theorem refB_not {l : List UInt8} (h : digs l = false) : refB l = false := by
  cases e : refB l with
  | false => rfl
  | true => have := (refB_digs e).1; rw [h] at this; cases this
theorem decB_refB {l : List UInt8} (h : digs l = true) : decB l = refB l := by
  have : strip l = l := strip_other (head_ne45 h)
  unfold decB refB; rw [this]
theorem intN_digs {l : List UInt8} (h : digs l = true) : intN l = (valN l : Int) := by
  unfold intN; rw [if_neg (head_ne45 h), strip_other (head_ne45 h)]

/-! ### the two places -/
theorem drop_two {l : List UInt8} {n : Nat} (hn : l.length = n + 3) : l.drop (n + 1) = [b0 l (n + 1), b0 l (n + 2)] := by
  rw [b0_get (by omega), b0_get (by omega)]
  rw [List.drop_eq_getElem_cons (by omega), List.drop_eq_getElem_cons (by omega), List.drop_of_length_le (by omega)]
theorem valN_two (a b : UInt8) : valN [a, b] = 10 * (a.toNat - 48) + (b.toNat - 48) := by simp [valN, valA]
theorem digs_two {a b : UInt8} : digs [a, b] = true ↔ dig a = true ∧ dig b = true := by simp [digs]
theorem amt_eq {l : List UInt8} {n : Nat} (hn : l.length = n + 3) : amt l = valN (l.take n) * 100 + (10 * ((b0 l (n + 1)).toNat - 48) + ((b0 l (n + 2)).toNat - 48)) := by
  unfold amt
  rw [hn, show n + 3 - 3 = n by omega, show n + 3 - 2 = n + 1 by omega, drop_two hn, valN_two]

/-! ### read from the left, the point left out -/
def run (l : List UInt8) : Nat → Nat
  | 0 => 0
  | i + 1 => if b0 l i = 46 then run l i else 10 * run l i + ((b0 l i).toNat - 48)
theorem run_mono {l : List UInt8} {i j : Nat} (h : i ≤ j) : run l i ≤ run l j := by
  induction j with
  | zero => obtain rfl : i = 0 := by omega
            exact Nat.le_refl _
  | succ j ih =>
    by_cases e : i = j + 1
    · subst e; exact Nat.le_refl _
    · have := ih (by omega)
      rw [run]; split <;> omega
theorem dig_ne46 {c : UInt8} (h : dig c = true) : c ≠ 46 := by
  rintro rfl; revert h; decide
theorem take_b0 {l : List UInt8} {i : Nat} (h : i < l.length) : l.take (i + 1) = l.take i ++ [b0 l i] := by
  rw [List.take_succ_eq_append_getElem h, b0_get h]
theorem digs_b0 {l : List UInt8} {n i : Nat} (h : digs (l.take n) = true) (hi : i < n) (hl : i < l.length) : dig (b0 l i) = true := by
  have h1 := digs_of_take h (i + 1)
  rw [List.take_take, Nat.min_eq_left (by omega), take_b0 hl, digs_snoc, Bool.and_eq_true] at h1
  exact h1.2
theorem run_head {l : List UInt8} {n : Nat} (h : digs (l.take n) = true) (hn : n ≤ l.length) : ∀ i, i ≤ n → run l i = valN (l.take i)
  | 0, _ => rfl
  | i + 1, hi => by
    have hd := digs_b0 h (show i < n by omega) (by omega)
    rw [run, if_neg (dig_ne46 hd), run_head h hn i (by omega), take_b0 (by omega), valN_snoc]
theorem run_all {l : List UInt8} {n : Nat} (hn : l.length = n + 3) (h : frm l = true) : run l (n + 3) = amt l := by
  obtain ⟨h1, h2, h3⟩ := (frm_iff hn).1 h
  rw [drop_two hn, digs_two] at h2
  have hh := run_head (refB_digs h3).1 (by omega) n (Nat.le_refl _)
  rw [amt_eq hn]
  show (if b0 l (n + 2) = 46 then run l (n + 2) else 10 * run l (n + 2) + ((b0 l (n + 2)).toNat - 48)) = _
  rw [if_neg (dig_ne46 h2.2)]
  rw [show run l (n + 2) = 10 * run l (n + 1) + ((b0 l (n + 1)).toNat - 48) from if_neg (dig_ne46 h2.1)]
  rw [show run l (n + 1) = run l n from if_pos h1, hh]
  omega
/-- each byte is a digit, but for the point -/
theorem frm_byte {l : List UInt8} {n : Nat} (hn : l.length = n + 3) (h : frm l = true) {i : Nat} (hi : i < n + 3) : (i = n ∧ b0 l i = 46) ∨ (i ≠ n ∧ dig (b0 l i) = true) := by
  obtain ⟨h1, h2, h3⟩ := (frm_iff hn).1 h
  rw [drop_two hn, digs_two] at h2
  by_cases e : i = n
  · subst e; exact .inl ⟨rfl, h1⟩
  · refine .inr ⟨e, ?_⟩
    by_cases e2 : i < n
    · exact digs_b0 (refB_digs h3).1 e2 (by omega)
    · by_cases e3 : i = n + 1
      · subst e3; exact h2.1
      · obtain rfl : i = n + 2 := by omega
        exact h2.2

/-! ### the text of an amount -/
def fmtL (m : Nat) : List UInt8 := Lib.decDigits (m / 100) ++ [46, UInt8.ofNat (48 + m / 10 % 10), UInt8.ofNat (48 + m % 10)]
theorem refB_dec (u : Nat) : refB (Lib.decDigits u) = true := by
  obtain ⟨h1, h2, h3, h4⟩ := decDigits_facts u
  unfold refB
  by_cases h0 : u = 0
  · subst h0; rw [Lib.decDigits, dif_pos (by omega)]; rfl
  · rw [Bool.or_eq_true]; exact .inr (numB_iff.2 ⟨h3, h4 (by omega), h1⟩)
theorem fmt_parts (m : Nat) : (fmtL m).length = (Lib.decDigits (m / 100)).length + 3 ∧ (fmtL m).take (Lib.decDigits (m / 100)).length = Lib.decDigits (m / 100) ∧
    b0 (fmtL m) (Lib.decDigits (m / 100)).length = 46 ∧ b0 (fmtL m) ((Lib.decDigits (m / 100)).length + 1) = UInt8.ofNat (48 + m / 10 % 10) ∧ b0 (fmtL m) ((Lib.decDigits (m / 100)).length + 2) = UInt8.ofNat (48 + m % 10) := by
  unfold fmtL b0 List.getD
  refine ⟨by simp, by simp, ?_, ?_, ?_⟩
  · rw [List.getElem?_append_right (Nat.le_refl _), Nat.sub_self]; rfl
  · rw [List.getElem?_append_right (by omega), Nat.add_sub_cancel_left]; rfl
  · rw [List.getElem?_append_right (by omega), Nat.add_sub_cancel_left]; rfl
theorem frm_fmt (m : Nat) : frm (fmtL m) = true ∧ amt (fmtL m) = m := by
  obtain ⟨h1, h2, h3, h4, h5⟩ := fmt_parts m
  generalize hk : (Lib.decDigits (m / 100)).length = k at *
  refine ⟨(frm_iff h1).2 ⟨h3, ?_, by rw [h2]; exact refB_dec _⟩, ?_⟩
  · rw [drop_two h1, digs_two, h4, h5]
    exact ⟨dig_of (by omega), dig_of (by omega)⟩
  · rw [amt_eq h1, h2, h4, h5, (decDigits_facts (m / 100)).2.1, sub_of (by omega), sub_of (by omega)]
    omega
theorem fmt_amt {l : List UInt8} (h : frm l = true) : fmtL (amt l) = l := by
  have h4 : 4 ≤ l.length := by
    rcases Nat.lt_or_ge l.length 4 with h2 | h2
    · rw [frm_short h2] at h; cases h
    · exact h2
  obtain ⟨n, hn⟩ : ∃ n, l.length = n + 3 := ⟨l.length - 3, by omega⟩
  obtain ⟨h1, h2, h3⟩ := (frm_iff hn).1 h
  have e := drop_two hn
  rw [e, digs_two] at h2
  have a1 := dig_iff.1 h2.1
  have a2 := dig_iff.1 h2.2
  have o1 := of_dig h2.1
  have o2 := of_dig h2.2
  have hv : Lib.decDigits (valN (l.take n)) = l.take n := by
    unfold refB at h3
    rw [Bool.or_eq_true] at h3
    rcases h3 with h3 | h3
    · have : l.take n = [48] := by simpa using h3
      rw [this, show valN [48] = 0 by decide, Lib.decDigits, dif_pos (by omega)]; rfl
    · exact decDigits_valN _ h3
  have ea := amt_eq hn
  unfold fmtL
  rw [show amt l / 100 = valN (l.take n) by omega, hv, show amt l / 10 % 10 = (b0 l (n + 1)).toNat - 48 by omega, show amt l % 10 = (b0 l (n + 2)).toNat - 48 by omega, o1, o2]
  have : l = l.take n ++ l.drop n := (List.take_append_drop n l).symm
  rw [List.drop_eq_getElem_cons (by omega), e, ← b0_get (by omega), h1] at this
  exact this.symm
theorem fmt_len {m : Nat} (h : m ≤ 1000000000000) : (fmtL m).length ≤ 20 := by
  obtain ⟨h1, _⟩ := fmt_parts m
  rw [h1]
  have h2 := decDigits_facts (m / 100)
  rcases Nat.lt_or_ge 1 (Lib.decDigits (m / 100)).length with h3 | h3
  · have hr := refB_dec (m / 100)
    unfold refB at hr
    rw [Bool.or_eq_true] at hr
    rcases hr with hr | hr
    · have : Lib.decDigits (m / 100) = [48] := by simpa using hr
      rw [this] at h3; simp at h3
    · have h4 := numB_pos _ hr
      rw [h2.2.1] at h4
      apply Decidable.byContradiction; intro hn
      have h5 : (10 : Nat) ^ 12 ≤ 10 ^ ((Lib.decDigits (m / 100)).length - 1) := Nat.pow_le_pow_right (by omega) (by omega)
      have h6 : (10 : Nat) ^ 12 = 1000000000000 := by decide
      omega
  · omega

theorem head_b0 {l : List UInt8} {n : Nat} (hn : 0 < n) (hl : 0 < l.length) : (l.take n).head? = some (b0 l 0) := by
  cases l with
  | nil => simp at hl
  | cons a r => obtain ⟨k, rfl⟩ : ∃ k, n = k + 1 := ⟨n - 1, by omega⟩
                simp [b0]
theorem refB_of {l : List UInt8} (hd : digs l = true) (hne : l ≠ []) (h : l.length ≤ 1 ∨ l.head? ≠ some 48) : refB l = true := by
  unfold refB
  rw [Bool.or_eq_true]
  by_cases h48 : l.head? = some 48
  · have h1 := h.resolve_right (by simp [h48])
    cases l with
    | nil => exact absurd rfl hne
    | cons a r =>
      have : r = [] := List.eq_nil_of_length_eq_zero (by rw [List.length_cons] at h1; omega)
      subst this
      simp at h48
      subst h48; left; rfl
  · exact .inr (numB_iff.2 ⟨hne, h48, hd⟩)
theorem refB_bad0 {l : List UInt8} (h1 : 1 < l.length) (h : l.head? = some 48) : refB l = false := by
  cases e : refB l with
  | false => rfl
  | true =>
    unfold refB at e
    rw [Bool.or_eq_true] at e
    rcases e with e | e
    · have : l = [48] := by simpa using e
      rw [this] at h1; simp at h1
    · exact absurd h (numB_iff.1 e).2.1
end Go.Proofs.YtkblcnomjgocmaaDoor.monX

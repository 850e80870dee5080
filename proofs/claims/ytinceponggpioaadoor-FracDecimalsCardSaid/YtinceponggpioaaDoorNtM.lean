/-
  Decimal digits of a number, one by one and in chunks of nine.
-/
import Derived.Test.YtinceponggpioaaDoorNtP
namespace Go.Proofs.YtinceponggpioaaDoor.ntM
open Go.RowKit
open Go.Proofs.YtinceponggpioaaDoor.natM Go.Proofs.YtinceponggpioaaDoor.natB Go.Proofs.YtinceponggpioaaDoor.numT Go.Proofs.YtinceponggpioaaDoor.ntP
set_option linter.unusedVariables false

/-- the digits of a number; none of 0 -/
def gd (X : Nat) : List UInt8 := if X = 0 then [] else Lib.decDigits X
theorem gd_zero : gd 0 = [] := rfl
theorem gd_pos {X : Nat} (h : 0 < X) : gd X = Lib.decDigits X := if_neg (by omega)
theorem dec_small {d : Nat} (h : d < 10) : Lib.decDigits d = [UInt8.ofNat (48 + d)] := by rw [Lib.decDigits, dif_pos h]
theorem gd_step {X : Nat} (h : 0 < X) : gd X = gd (X / 10) ++ [UInt8.ofNat (48 + X % 10)] := by
  rw [gd_pos h]
  by_cases h1 : X < 10
  · rw [show X / 10 = 0 by omega, gd_zero, Nat.mod_eq_of_lt h1, dec_small h1]; rfl
  · rw [gd_pos (by omega), Lib.decDigits, dif_neg h1]
/-- the decimal text of a number -/
theorem numB_dec {X : Nat} (h : 0 < X) : numB (Lib.decDigits X) = true := by
  obtain ⟨a, b, c, d⟩ := decDigits_facts X
  exact numB_iff.2 ⟨c, d h, a⟩
theorem dec_len {X k : Nat} (h : X < 10 ^ k) (hk : 0 < k) : (Lib.decDigits X).length ≤ k := by
  by_cases h0 : 0 < X
  · have h1 := numB_pos _ (numB_dec h0)
    rw [(decDigits_facts X).2.1] at h1
    apply Decidable.byContradiction
    intro hn
    have h2 : (10 : Nat) ^ k ≤ 10 ^ ((Lib.decDigits X).length - 1) := Nat.pow_le_pow_right (by omega) (by omega)
    omega
  · obtain rfl : X = 0 := by omega
    rw [dec_small (by omega)]; exact hk
theorem dec_len2 {X k m n : Nat} (h : X < (10 ^ m) ^ n) (hk : k = m * n) (h0 : 0 < k) : (Lib.decDigits X).length ≤ k := by
  rw [← Nat.pow_mul, ← hk] at h
  exact dec_len h h0
theorem refB_dec (X : Nat) : refB (Lib.decDigits X) = true := by
  by_cases h0 : 0 < X
  · unfold refB; rw [numB_dec h0, Bool.or_true]
  · obtain rfl : X = 0 := by omega
    rw [dec_small (by omega)]; rfl
theorem valN_zeros (k : Nat) (l : List UInt8) : valN (List.replicate k 48 ++ l) = valN l := by
  rw [valN_app]
  have : valN (List.replicate k 48) = 0 := by
    induction k with
    | zero => rfl
    | succ k ih => rw [List.replicate_succ', valN_app, ih]; rfl
  rw [this]; omega
theorem digs_zeros (k : Nat) : digs (List.replicate k 48) = true := by simp [digs, dig]
/-- nine digits of a number -/
def pad (r : Nat) : List UInt8 := List.replicate (9 - (Lib.decDigits r).length) 48 ++ Lib.decDigits r
theorem pad_len {r : Nat} (h : r < 1000000000) : (pad r).length = 9 := by
  have := dec_len (k := 9) (show r < 10 ^ 9 from h) (by omega)
  unfold pad; rw [List.length_append, List.length_replicate]; omega
theorem dec_chunk {q r : Nat} (hq : 0 < q) (hr : r < 1000000000) : Lib.decDigits (q * 1000000000 + r) = Lib.decDigits q ++ pad r := by
  obtain ⟨a, b, c, d⟩ := decDigits_facts q
  have h1 : numB (Lib.decDigits q ++ pad r) = true := by
    refine numB_iff.2 ⟨by simp [c], ?_, ?_⟩
    · have := d hq
      cases e : Lib.decDigits q with
      | nil => exact absurd e c
      | cons x t => rw [e] at this; simpa using this
    · rw [digs_app, a]; unfold pad; rw [digs_app, digs_zeros, (decDigits_facts r).1]; rfl
  have h2 : valN (Lib.decDigits q ++ pad r) = q * 1000000000 + r := by
    rw [valN_app, b, pad_len hr]
    unfold pad; rw [valN_zeros, (decDigits_facts r).2.1]
  rw [← h2]; exact decDigits_valN _ h1
theorem gd_chunk {X : Nat} (h : 1000000000 ≤ X) : gd X = gd (X / 1000000000) ++ pad (X % 1000000000) := by
  have e := Nat.div_add_mod X 1000000000
  rw [gd_pos (by omega), gd_pos (by omega), ← dec_chunk (by omega) (Nat.mod_lt _ (by omega)), Nat.mul_comm, e]
/-- the text that Format gives -/
def fmtL (n X : Nat) : List UInt8 := if valB n X = true then Lib.decDigits X else []
theorem fmt_no {n X : Nat} (h : valB n X = false) : fmtL n X = [] := if_neg (by simp [h])
theorem fmt_yes {n X : Nat} (h : valB n X = true) : fmtL n X = Lib.decDigits X := if_pos h
theorem pow64 : (4294967296 : Nat) ^ 64 ≤ (10 ^ 20) ^ 31 := by decide
/-- a valid number has at most 620 digits -/
theorem dec_620 {n X : Nat} (h : valB n X = true) : (Lib.decDigits X).length ≤ 620 := by
  have hv := valB_iff.1 h
  have h1 : X < 4294967296 ^ 64 := Nat.lt_of_lt_of_le (nlen_lt (B := 4294967296) (by omega) X) (Nat.pow_le_pow_right (by omega) (by omega))
  have h2 : X < (10 ^ 20) ^ 31 := Nat.lt_of_lt_of_le h1 pow64
  exact dec_len2 h2 rfl (by omega)
theorem str_eq {a b : ByteArray} (h : a.data.toList = b.data.toList) : a = b := by
  cases a with | mk a => cases b with | mk b => cases a; cases b; simp at h; rw [h]
theorem ret_str {a b : ByteArray} (h : a = b) : Ending.returned (.string a) = .returned (.string b) := by rw [h]
end Go.Proofs.YtinceponggpioaaDoor.ntM

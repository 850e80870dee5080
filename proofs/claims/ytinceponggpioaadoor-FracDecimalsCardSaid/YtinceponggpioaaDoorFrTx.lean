/-
  Decimal texts of fractions: plain mathematics.
-/
import Derived.Test.YtinceponggpioaaDoorNtM
namespace Go.Proofs.YtinceponggpioaaDoor.frTx
open Go.RowKit
open Go.Proofs.YtinceponggpioaaDoor.natM Go.Proofs.YtinceponggpioaaDoor.natB Go.Proofs.YtinceponggpioaaDoor.numT Go.Proofs.YtinceponggpioaaDoor.ntP Go.Proofs.YtinceponggpioaaDoor.ntM
set_option linter.unusedVariables false

/-- at least that many digits of a number -/
def padp (p r : Nat) : List UInt8 := List.replicate (p - (Lib.decDigits r).length) 48 ++ Lib.decDigits r
theorem padp_len {p r : Nat} (hr : r < 10 ^ p) (hp : 0 < p) : (padp p r).length = p := by
  have := dec_len hr hp
  unfold padp; rw [List.length_append, List.length_replicate]; omega
theorem dec_chunkp {p q r : Nat} (hp : 0 < p) (hq : 0 < q) (hr : r < 10 ^ p) : Lib.decDigits (q * 10 ^ p + r) = Lib.decDigits q ++ padp p r := by
  obtain ⟨a, b, c, d⟩ := decDigits_facts q
  have h1 : numB (Lib.decDigits q ++ padp p r) = true := by
    refine numB_iff.2 ⟨by simp [c], ?_, ?_⟩
    · have := d hq
      cases e : Lib.decDigits q with
      | nil => exact absurd e c
      | cons x t => rw [e] at this; simpa using this
    · rw [digs_app, a]; unfold padp; rw [digs_app, digs_zeros, (decDigits_facts r).1]; rfl
  have h2 : valN (Lib.decDigits q ++ padp p r) = q * 10 ^ p + r := by
    rw [valN_app, b, padp_len hr hp]
    unfold padp; rw [valN_zeros, (decDigits_facts r).2.1]
  rw [← h2]; exact decDigits_valN _ h1
/-- the decimal text of Q / 10 ^ p -/
def decT (Q p : Nat) : List UInt8 := if p = 0 then Lib.decDigits Q else Lib.decDigits (Q / 10 ^ p) ++ [46] ++ padp p (Q % 10 ^ p)
theorem dec_split {Q p : Nat} (hp : 0 < p) : List.replicate (p + 1 - (Lib.decDigits Q).length) 48 ++ Lib.decDigits Q = Lib.decDigits (Q / 10 ^ p) ++ padp p (Q % 10 ^ p) := by
  have hP : 0 < 10 ^ p := Nat.pow_pos (by omega)
  have hr := Nat.mod_lt Q hP
  have e := Nat.div_add_mod Q (10 ^ p)
  by_cases h : Q / 10 ^ p = 0
  · have hQ : Q % 10 ^ p = Q := by rw [h, Nat.mul_zero, Nat.zero_add] at e; exact e
    rw [h, hQ, dec_small (d := 0) (by omega)]
    rw [hQ] at hr
    have hl := dec_len hr hp
    unfold padp
    rw [← List.append_assoc, show p + 1 - (Lib.decDigits Q).length = 1 + (p - (Lib.decDigits Q).length) by omega, ← List.replicate_append_replicate]
    rfl
  · have h2 := dec_chunkp hp (Nat.pos_of_ne_zero h) hr
    rw [Nat.mul_comm, e] at h2
    have hl := padp_len hr hp
    have h1 : 0 < (Lib.decDigits (Q / 10 ^ p)).length := List.length_pos_iff.2 (decDigits_facts _).2.2.1
    rw [h2, List.length_append, hl, show p + 1 - ((Lib.decDigits (Q / 10 ^ p)).length + p) = 0 by omega]
    rfl
theorem dec_take {Q p : Nat} (hp : 0 < p) {s : List UInt8} (hs : s = List.replicate (p + 1 - (Lib.decDigits Q).length) 48 ++ Lib.decDigits Q) : p + 1 ≤ s.length ∧ s.take (s.length - p) = Lib.decDigits (Q / 10 ^ p) ∧ s.drop (s.length - p) = padp p (Q % 10 ^ p) := by
  have hP : 0 < 10 ^ p := Nat.pow_pos (by omega)
  have hl := padp_len (Nat.mod_lt Q hP) hp
  have h1 : 0 < (Lib.decDigits (Q / 10 ^ p)).length := List.length_pos_iff.2 (decDigits_facts _).2.2.1
  rw [dec_split hp] at hs
  subst hs
  rw [List.length_append, hl, Nat.add_sub_cancel]
  exact ⟨by omega, by simp, by simp⟩
end Go.Proofs.YtinceponggpioaaDoor.frTx

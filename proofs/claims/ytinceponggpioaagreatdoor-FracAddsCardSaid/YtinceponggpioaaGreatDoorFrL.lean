/-
  The laws of fractions: what is made.
-/
import Derived.Test.YtinceponggpioaaGreatDoorFrV
import Derived.Test.YtinceponggpioaaGreatDoorFrY
namespace Go.Proofs.YtinceponggpioaaGreatDoor.frL
open Go.RowKit
open Go.Proofs.YtinceponggpioaaGreatDoor.natM Go.Proofs.YtinceponggpioaaGreatDoor.natA Go.Proofs.YtinceponggpioaaGreatDoor.natB Go.Proofs.YtinceponggpioaaGreatDoor.natF Go.Proofs.YtinceponggpioaaGreatDoor.natG Go.Proofs.YtinceponggpioaaGreatDoor.natX Go.Proofs.YtinceponggpioaaGreatDoor.natUi Go.Proofs.YtinceponggpioaaGreatDoor.frM Go.Proofs.YtinceponggpioaaGreatDoor.frA Go.Proofs.YtinceponggpioaaGreatDoor.frB Go.Proofs.YtinceponggpioaaGreatDoor.frC Go.Proofs.YtinceponggpioaaGreatDoor.frD Go.Proofs.YtinceponggpioaaGreatDoor.frE Go.Proofs.YtinceponggpioaaGreatDoor.frI Go.Proofs.YtinceponggpioaaGreatDoor.frR Go.Proofs.YtinceponggpioaaGreatDoor.frS Go.Proofs.YtinceponggpioaaGreatDoor.frV Go.Proofs.YtinceponggpioaaGreatDoor.ntF Go.Proofs.YtinceponggpioaaGreatDoor.frX Go.Proofs.YtinceponggpioaaGreatDoor.frY
set_option linter.unusedVariables false

/-- both parts have at most 64 limbs -/
def small (r : Ans) : Prop := nlen 4294967296 r.2.1 ≤ 64 ∧ nlen 4294967296 r.2.2 ≤ 64
theorem small_no (e : Int) : small (no e) := ⟨by show nlen 4294967296 0 ≤ 64; rw [nlen_zero]; omega, by show nlen 4294967296 0 ≤ 64; rw [nlen_zero]; omega⟩
theorem small_rd {X Y : Nat} (h : nlen 4294967296 X ≤ 64) (h2 : nlen 4294967296 Y ≤ 64) : small (rd X Y) :=
  ⟨Nat.le_trans (nlen_mono (by omega) (Nat.div_le_self _ _)) h, Nat.le_trans (nlen_mono (by omega) (Nat.div_le_self _ _)) h2⟩
theorem val_len {n X : Nat} (h : valB n X = true) : nlen 4294967296 X ≤ 64 := by have := valB_iff.1 h; omega
theorem small_mk (n X m Y : Nat) : small (mkA (valB n X) (valB m Y) X Y) := by
  unfold mkA
  cases ha : valB n X with
  | false => exact small_no 2
  | true =>
    cases hb : valB m Y with
    | false => exact small_no 2
    | true =>
      by_cases h0 : Y = 0
      · simp only [Bool.and_self, if_true, h0]; exact small_no 10
      · simp only [Bool.and_self, if_true, h0, if_false]; exact small_rd (val_len ha) (val_len hb)
theorem small_of (x y : Int) (hx : x ≤ 9223372036854775807) (hy : y ≤ 9223372036854775807) : small (ofA x y) := by
  unfold ofA
  by_cases h : x < 0 ∨ y < 0
  · rw [if_pos h]; exact small_no 2
  · rw [if_neg h]
    unfold mkA
    simp only [Bool.and_self, if_true]
    split
    · exact small_no 10
    · exact small_rd (Nat.le_trans (len_word (by omega)) (by omega)) (Nat.le_trans (len_word (by omega)) (by omega))
theorem big_len {v : Nat} (h : big v = false) : nlen 4294967296 v ≤ 64 := big_iff.1 h
theorem small_mul (a b : Bool) (X Y Z W : Nat) : small (mulA a b X Y Z W) := by
  unfold mulA
  split
  · split
    · exact small_no 9
    · rename_i h
      simp only [Bool.or_eq_true, not_or, Bool.not_eq_true] at h
      exact small_rd (big_len h.1) (big_len h.2)
  · exact small_no 2
theorem small_div (a b : Bool) (X Y Z W : Nat) : small (divA a b X Y Z W) := by
  unfold divA
  split
  · split
    · exact small_no 10
    · split
      · exact small_no 9
      · rename_i h
        simp only [Bool.or_eq_true, not_or, Bool.not_eq_true] at h
        exact small_rd (big_len h.1) (big_len h.2)
  · exact small_no 2
theorem small_add (a b : Bool) (X Y Z W : Nat) : small (addA a b X Y Z W) := by
  unfold addA
  split
  · split
    · exact small_no 9
    · rename_i h
      simp only [Bool.or_eq_true, not_or, Bool.not_eq_true] at h
      exact small_rd (big_len h.2) (big_len h.1.2)
  · exact small_no 2
theorem small_sub (a b : Bool) (X Y Z W : Nat) : small (subA a b X Y Z W) := by
  unfold subA
  split
  · split
    · exact small_no 9
    · rename_i h
      simp only [Bool.or_eq_true, not_or, Bool.not_eq_true] at h
      exact small_rd (Nat.le_trans (nlen_mono (by omega) (Nat.sub_le _ _)) (big_len h.1.1)) (big_len h.2)
  · exact small_no 2
theorem same_ok {L M N D : Nat} (hL : L = nlen 4294967296 N) (hM : M = nlen 4294967296 D) (h1 : L ≤ 64) (h2 : M ≤ 64) (A : Option Addr) (c : Nat) (B : Option Addr) (d : Nat) (A2 : Option Addr) (c2 : Nat) (B2 : Option Addr) (d2 : Nat) (w : World) (q1 : Cel .u32 w A (dg 4294967296 L N)) (q2 : Cel .u32 w B (dg 4294967296 M D)) (q3 : Cel .u32 w A2 (dg 4294967296 L N)) (q4 : Cel .u32 w B2 (dg 4294967296 M D)) :
    Calls Tryz.prog 10 #[.agg #[.slice A L c, .slice B M d], .agg #[.slice A2 L c2, .slice B2 M d2]] w fun e w' => e = .returned (.bool true) ∧ Below w.heap.size w w' :=
  have hN : Hid (N < 4294967296 ^ L) := Lib.hid (by rw [hL]; exact nlen_lt (by omega) N)
  have hD : Hid (D < 4294967296 ^ M) := Lib.hid (by rw [hM]; exact nlen_lt (by omega) D)
  sm_any A B A2 B2 L c M d L c2 M d2 N D N D true hN hD hN hD (by omega) (by omega) (by omega) (by omega) (Lib.hid (by unfold smB; simp)) w q1 q2 q3 q4
theorem val_nl {V : Nat} (h : nlen 4294967296 V ≤ 64) : valB (nlen 4294967296 V) V = true := valB_iff.2 ⟨h, rfl⟩
theorem fr_of_low {N D : Nat} (h : Low N D) (h1 : nlen 4294967296 N ≤ 64) (h2 : nlen 4294967296 D ≤ 64) : true = frB (nlen 4294967296 N) N (nlen 4294967296 D) D := by
  unfold frB
  rw [val_nl h1, val_nl h2, decide_eq_true h.1, h.2]; rfl
theorem of_low {x y : Int} {N D : Nat} (h : ofA x y = (0, N, D)) : Low N D := by
  unfold ofA at h
  by_cases hn : x < 0 ∨ y < 0
  · rw [if_pos hn] at h; cases h
  · rw [if_neg hn] at h
    unfold mkA at h
    simp only [Bool.and_self, if_true] at h
    by_cases h0 : y.toNat = 0
    · rw [if_pos h0] at h; cases h
    · rw [if_neg h0] at h
      unfold rd at h
      injection h with h1 h2
      injection h2 with h2 h3
      rw [← h2, ← h3]
      exact rd_low (by omega)
end Go.Proofs.YtinceponggpioaaGreatDoor.frL

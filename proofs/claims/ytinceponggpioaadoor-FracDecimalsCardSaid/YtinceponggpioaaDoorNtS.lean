/-
  Contracts of nat.isDecimal and nat.parseChunk; the world is as it was.
-/
import Derived.Test.YtinceponggpioaaDoorNumText
import Derived.Test.YtinceponggpioaaDoorNatA
import Derived.WalkSpells
import Derived.Deep.DeepCutAuto
namespace Go.Proofs.YtinceponggpioaaDoor.ntS
open Go.RowKit
open Go.Proofs.YtinceponggpioaaDoor.numT
set_option linter.unusedVariables false
theorem ret_bool {a b : Bool} (h : a = b) : Ending.returned (.bool a) = .returned (.bool b) := by rw [h]
theorem refB_48 {t : ByteArray} (h : (t.toList == [48]) = true) : refB t.data.toList = true := by
  rw [ByteArray.toList_eq] at h
  have : t.data.toList = [48] := by simpa using h
  rw [this]; rfl
theorem not_nil {s : ByteArray} (h : 0 < s.size) : (s.toList == []) = false := by
  rw [ByteArray.toList_eq, size_len] at *
  cases e : s.data.toList with
  | nil => rw [e] at h; simp at h
  | cons a r => rfl
theorem is_nil {s : ByteArray} (h : ¬ 0 < s.size) : (s.toList == []) = true := by
  rw [size_len] at h
  have e : s.data.toList = [] := List.length_eq_zero_iff.1 (by omega)
  rw [ByteArray.toList_eq, e]; rfl
theorem u32_eq {a b : Int} (h : a = b) : Value.int .u32 a = .int .u32 b := by rw [h]
theorem pow8 (k : Nat) (h : k ≤ 8) : (10 : Nat) ^ k ≤ 100000000 := Nat.le_trans (Nat.pow_le_pow_right (by omega) h) (by decide)
end Go.Proofs.YtinceponggpioaaDoor.ntS

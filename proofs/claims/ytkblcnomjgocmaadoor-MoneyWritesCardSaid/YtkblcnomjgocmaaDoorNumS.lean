/-
  Contracts of num.isDecimal and of the reference's Decimal: whether the text is a decimal form; the world is as it was.
-/
import Derived.Test.YtkblcnomjgocmaaDoorNumF
import Derived.Test.YtkblcnomjgocmaaDoorNumText
import Derived.WalkSpells
import Derived.Deep.DeepCutAuto
namespace Go.Proofs.YtkblcnomjgocmaaDoor.numS
open Go.RowKit
open Go.Proofs.YtkblcnomjgocmaaDoor.numT
set_option linter.unusedVariables false
theorem ret_bool {a b : Bool} (h : a = b) : Ending.returned (.bool a) = .returned (.bool b) := by rw [h]

set_option maxHeartbeats 1600000 in
theorem isdec_any (s : ByteArray) (R : Bool) (HR : Hid (R = decB s.data.toList)) (hs : s.size ≤ 9223372036854775807) (w : World) :
    Calls Tryd.prog 50 #[.string s] w fun e w' => e = .returned (.bool R) ∧ w = w' := by
  go_enter Tryd.func50, Tryd.ntmps50
  go_upto_region 5 with fail
  · have e0 : (s.toList == [48]) = true := by assumption
    go_ret
    exact ⟨ret_bool (by rw [HR.out, decB_zero s e0]), rfl⟩
  · have e0 : (s.toList == [48]) = false := by assumption
    have e1 : 0 < s.size := by assumption
    have e2 : ((s[0].toNat : Int) == 45) = true := by assumption
    have HN : Hid (R = numB (s.extract 1 s.size).data.toList) := Lib.hid (by rw [HR.out, decB_else s e0, strip_minus s e1 e2])
    have ht : (s.extract 1 s.size).size ≤ 9223372036854775807 := by rw [ByteArray.size_extract]; omega
    generalize s.extract 1 s.size = t at *
    by_cases p0 : 0 < t.size
    · have pe : ((t.size : Int) == 0) = false := by rw [beq_eq_false_iff_ne]; omega
      by_cases p1 : ((t[0].toNat : Int) == 48) = true
      · have HD : Hid (R = false) := Lib.hid (by rw [HN.out]; exact numB_zero t p0 p1)
        go_wp2
        go_ret
        exact ⟨ret_bool HD.out.symm, rfl⟩
      · have p1' : ((t[0].toNat : Int) == 48) = false := by simpa using p1
        have HD : Hid (R = digs t.data.toList) := Lib.hid (by rw [HN.out]; exact numB_digs t p0 p1')
        clear p1
        go_wp2
        go_loop [26] (fun sc => ∃ k : Nat, k ≤ t.size ∧ sc = .int .i64 (k : Int) ∧ Hid (digs (t.data.toList.take k) = true)) (fun sc => t.size - (intOf sc).toNat)
        case atStart => exact ⟨0, Nat.zero_le _, rfl, rfl⟩
        case round =>
          obtain ⟨k, hk, rfl, H⟩ := hrel
          by_cases hlt : k < t.size
          · go_wp2
            · go_ret
              exact ⟨ret_bool (by rw [HD.out]; exact (digs_bad t k hlt (by omega)).symm), rfl⟩
            · go_round
              case rel => exact ⟨_, _, _, ⟨k + 1, by omega, rfl, digs_more t k hlt H.out (by omega) (by omega)⟩, rfl, rfl, by go_num⟩
              case measure => simp [intOf]; omega
            · go_ret
              exact ⟨ret_bool (by rw [HD.out]; exact (digs_bad t k hlt (by omega)).symm), rfl⟩
          · have : k = t.size := by omega
            subst this
            go_wp2
            go_ret
            exact ⟨ret_bool (by rw [HD.out]; exact (digs_all t H.out).symm), rfl⟩
    · have pe : ((t.size : Int) == 0) = true := by rw [beq_iff_eq]; omega
      have HD : Hid (R = false) := Lib.hid (by rw [HN.out]; exact numB_empty t p0)
      go_wp2
      go_ret
      exact ⟨ret_bool HD.out.symm, rfl⟩
  · have e0 : (s.toList == [48]) = false := by assumption
    have e1 : 0 < s.size := by assumption
    have e2 : ((s[0].toNat : Int) == 45) = false := by assumption
    have HN : Hid (R = numB s.data.toList) := Lib.hid (by rw [HR.out, decB_else s e0, strip_plain s e1 e2])
    by_cases p0 : 0 < s.size
    · have pe : ((s.size : Int) == 0) = false := by rw [beq_eq_false_iff_ne]; omega
      by_cases p1 : ((s[0].toNat : Int) == 48) = true
      · have HD : Hid (R = false) := Lib.hid (by rw [HN.out]; exact numB_zero s p0 p1)
        go_wp2
        go_ret
        exact ⟨ret_bool HD.out.symm, rfl⟩
      · have p1' : ((s[0].toNat : Int) == 48) = false := by simpa using p1
        have HD : Hid (R = digs s.data.toList) := Lib.hid (by rw [HN.out]; exact numB_digs s p0 p1')
        clear p1
        go_wp2
        go_loop [26] (fun sc => ∃ k : Nat, k ≤ s.size ∧ sc = .int .i64 (k : Int) ∧ Hid (digs (s.data.toList.take k) = true)) (fun sc => s.size - (intOf sc).toNat)
        case atStart => exact ⟨0, Nat.zero_le _, rfl, rfl⟩
        case round =>
          obtain ⟨k, hk, rfl, H⟩ := hrel
          by_cases hlt : k < s.size
          · go_wp2
            · go_ret
              exact ⟨ret_bool (by rw [HD.out]; exact (digs_bad s k hlt (by omega)).symm), rfl⟩
            · go_round
              case rel => exact ⟨_, _, _, ⟨k + 1, by omega, rfl, digs_more s k hlt H.out (by omega) (by omega)⟩, rfl, rfl, by go_num⟩
              case measure => simp [intOf]; omega
            · go_ret
              exact ⟨ret_bool (by rw [HD.out]; exact (digs_bad s k hlt (by omega)).symm), rfl⟩
          · have : k = s.size := by omega
            subst this
            go_wp2
            go_ret
            exact ⟨ret_bool (by rw [HD.out]; exact (digs_all s H.out).symm), rfl⟩
    · have pe : ((s.size : Int) == 0) = true := by rw [beq_iff_eq]; omega
      have HD : Hid (R = false) := Lib.hid (by rw [HN.out]; exact numB_empty s p0)
      go_wp2
      go_ret
      exact ⟨ret_bool HD.out.symm, rfl⟩
  · have e0 : (s.toList == [48]) = false := by assumption
    have e1 : ¬ 0 < s.size := by assumption
    have pe : ((s.size : Int) == 0) = true := by rw [beq_iff_eq]; omega
    have HD : Hid (R = false) := Lib.hid (by rw [HR.out, decB_else s e0, strip_empty s e1]; exact numB_empty s e1)
    go_wp2
    go_ret
    exact ⟨ret_bool HD.out.symm, rfl⟩

end Go.Proofs.YtkblcnomjgocmaaDoor.numS

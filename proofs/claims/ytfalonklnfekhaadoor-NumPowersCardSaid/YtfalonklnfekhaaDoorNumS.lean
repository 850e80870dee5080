/-
  Contracts of num.isDecimal and of the reference's Decimal: whether the text is a decimal form; the world is as it was.
-/
import Derived.Test.YtfalonklnfekhaaDoorNumF
import Derived.Test.YtfalonklnfekhaaDoorNumText
import Derived.WalkSpells
import Derived.Deep.DeepCutAuto
namespace Go.Proofs.YtfalonklnfekhaaDoor.numS
open Go.RowKit
open Go.Proofs.YtfalonklnfekhaaDoor.numT
set_option linter.unusedVariables false
theorem ret_bool {a b : Bool} (h : a = b) : Ending.returned (.bool a) = .returned (.bool b) := by rw [h]

set_option maxHeartbeats 1600000 in
theorem isdec_any (s : ByteArray) (R : Bool) (HR : Hid (R = decB s.data.toList)) (hs : s.size ≤ 9223372036854775807) (w : World) :
    Calls Tryd.prog 38 #[.string s] w fun e w' => e = .returned (.bool R) ∧ w = w' := by
  go_enter Tryd.func38, Tryd.ntmps38
  go_upto_region 5 with fail
  · have e0 : (s.toList == [48]) = true := by assumption
    go_ret
    exact ⟨ret_bool (by rw [HR.out, decB_zero s e0]), rfl⟩
  · have e0 : (s.toList == [48]) = false := by assumption
    have e1 : 0 < s.size := by assumption
    have e2 : ((s[0].toNat : Int) == 45) = true := by assumption
    have HN : Hid (R = numB (s.extract 1 s.size).data.toList) := Lib.hid (by rw [HR.out, decB_else s e0, strip_minus s e1 e2])
    have ht : (s.extract 1 s.size).size ≤ 9223372036854775807 := by rw [ByteArray.size_extract]; omega
    generalize s.extract 1 s.size = t at *
    by_cases p0 : 0 < t.size
    · have pe : ((t.size : Int) == 0) = false := by rw [beq_eq_false_iff_ne]; omega
      by_cases p1 : ((t[0].toNat : Int) == 48) = true
      · have HD : Hid (R = false) := Lib.hid (by rw [HN.out]; exact numB_zero t p0 p1)
        go_wp2
        go_ret
        exact ⟨ret_bool HD.out.symm, rfl⟩
      · have p1' : ((t[0].toNat : Int) == 48) = false := by simpa using p1
        have HD : Hid (R = digs t.data.toList) := Lib.hid (by rw [HN.out]; exact numB_digs t p0 p1')
        clear p1
        go_wp2
        go_loop [26] (fun sc => ∃ k : Nat, k ≤ t.size ∧ sc = .int .i64 (k : Int) ∧ Hid (digs (t.data.toList.take k) = true)) (fun sc => t.size - (intOf sc).toNat)
        case atStart => exact ⟨0, Nat.zero_le _, rfl, rfl⟩
        case round =>
          obtain ⟨k, hk, rfl, H⟩ := hrel
          by_cases hlt : k < t.size
          · go_wp2
            · go_ret
              exact ⟨ret_bool (by rw [HD.out]; exact (digs_bad t k hlt (by omega)).symm), rfl⟩
            · go_round
              case rel => exact ⟨_, _, _, ⟨k + 1, by omega, rfl, digs_more t k hlt H.out (by omega) (by omega)⟩, rfl, rfl, by go_num⟩
              case measure => simp [intOf]; omega
            · go_ret
              exact ⟨ret_bool (by rw [HD.out]; exact (digs_bad t k hlt (by omega)).symm), rfl⟩
          · have : k = t.size := by omega
            subst this
            go_wp2
            go_ret
            exact ⟨ret_bool (by rw [HD.out]; exact (digs_all t H.out).symm), rfl⟩
    · have pe : ((t.size : Int) == 0) = true := by rw [beq_iff_eq]; omega
      have HD : Hid (R = false) := Lib.hid (by rw [HN.out]; exact numB_empty t p0)
      go_wp2
      go_ret
      exact ⟨ret_bool HD.out.symm, rfl⟩
  · have e0 : (s.toList == [48]) = false := by assumption
    have e1 : 0 < s.size := by assumption
    have e2 : ((s[0].toNat : Int) == 45) = false := by assumption
    have HN : Hid (R = numB s.data.toList) := Lib.hid (by rw [HR.out, decB_else s e0, strip_plain s e1 e2])
    by_cases p0 : 0 < s.size
    · have pe : ((s.size : Int) == 0) = false := by rw [beq_eq_false_iff_ne]; omega
      by_cases p1 : ((s[0].toNat : Int) == 48) = true
      · have HD : Hid (R = false) := Lib.hid (by rw [HN.out]; exact numB_zero s p0 p1)
        go_wp2
        go_ret
        exact ⟨ret_bool HD.out.symm, rfl⟩
      · have p1' : ((s[0].toNat : Int) == 48) = false := by simpa using p1
        have HD : Hid (R = digs s.data.toList) := Lib.hid (by rw [HN.out]; exact numB_digs s p0 p1')
        clear p1
        go_wp2
        go_loop [26] (fun sc => ∃ k : Nat, k ≤ s.size ∧ sc = .int .i64 (k : Int) ∧ Hid (digs (s.data.toList.take k) = true)) (fun sc => s.size - (intOf sc).toNat)
        case atStart => exact ⟨0, Nat.zero_le _, rfl, rfl⟩
        case round =>
          obtain ⟨k, hk, rfl, H⟩ := hrel
          by_cases hlt : k < s.size
          · go_wp2
            · go_ret
              exact ⟨ret_bool (by rw [HD.out]; exact (digs_bad s k hlt (by omega)).symm), rfl⟩
            · go_round
              case rel => exact ⟨_, _, _, ⟨k + 1, by omega, rfl, digs_more s k hlt H.out (by omega) (by omega)⟩, rfl, rfl, by go_num⟩
              case measure => simp [intOf]; omega
            · go_ret
              exact ⟨ret_bool (by rw [HD.out]; exact (digs_bad s k hlt (by omega)).symm), rfl⟩
          · have : k = s.size := by omega
            subst this
            go_wp2
            go_ret
            exact ⟨ret_bool (by rw [HD.out]; exact (digs_all s H.out).symm), rfl⟩
    · have pe : ((s.size : Int) == 0) = true := by rw [beq_iff_eq]; omega
      have HD : Hid (R = false) := Lib.hid (by rw [HN.out]; exact numB_empty s p0)
      go_wp2
      go_ret
      exact ⟨ret_bool HD.out.symm, rfl⟩
  · have e0 : (s.toList == [48]) = false := by assumption
    have e1 : ¬ 0 < s.size := by assumption
    have pe : ((s.size : Int) == 0) = true := by rw [beq_iff_eq]; omega
    have HD : Hid (R = false) := Lib.hid (by rw [HR.out, decB_else s e0, strip_empty s e1]; exact numB_empty s e1)
    go_wp2
    go_ret
    exact ⟨ret_bool HD.out.symm, rfl⟩

set_option maxHeartbeats 1600000 in
theorem rdec_any (s : ByteArray) (R : Bool) (HR : Hid (R = decB s.data.toList)) (hs : s.size ≤ 9223372036854775807) (w : World) :
    Calls Tryd.prog 40 #[.string s] w fun e w' => e = .returned (.bool R) ∧ w = w' := by
  go_enter Tryd.func40, Tryd.ntmps40
  go_upto_region 5 with fail
  · have e1 : 0 < s.size := by assumption
    have e2 : ((s[0].toNat : Int) == 45) = true := by assumption
    have e3 : ((s.extract 1 s.size).toList == [48]) = true := by assumption
    go_ret
    exact ⟨ret_bool (by rw [HR.out, decB_minus s e1 e2, numB_48 e3]), rfl⟩
  · have e1 : 0 < s.size := by assumption
    have e2 : ((s[0].toNat : Int) == 45) = true := by assumption
    have e3 : ((s.extract 1 s.size).toList == [48]) = false := by assumption
    have HN : Hid (R = refB (s.extract 1 s.size).data.toList) := Lib.hid (by rw [HR.out, decB_minus s e1 e2, refB_minus e3])
    have ht : (s.extract 1 s.size).size ≤ 9223372036854775807 := by rw [ByteArray.size_extract]; omega
    generalize s.extract 1 s.size = t at *
    by_cases p0 : 0 < t.size
    · have pe : ((t.size : Int) == 0) = false := by rw [beq_eq_false_iff_ne]; omega
      by_cases p2 : (1 : Int) < (t.size : Int)
      · by_cases p1 : ((t[0].toNat : Int) == 48) = true
        · have HD : Hid (R = false) := Lib.hid (by rw [HN.out]; exact refB_zero t (by omega) p1)
          go_wp2
          go_ret
          exact ⟨ret_bool HD.out.symm, rfl⟩
        · have p1' : ((t[0].toNat : Int) == 48) = false := by simpa using p1
          have HD : Hid (R = digs t.data.toList) := Lib.hid (by rw [HN.out]; exact refB_more t (by omega) p1')
          have p2' : decide ((1 : Int) < (t.size : Int)) = true := decide_eq_true p2
          clear p1
          go_wp2
          go_loop [3] (fun sc => ∃ k : Nat, k ≤ t.size ∧ sc = .int .i64 (k : Int) ∧ Hid (digs (t.data.toList.take k) = true)) (fun sc => t.size - (intOf sc).toNat)
          case atStart => exact ⟨0, Nat.zero_le _, rfl, rfl⟩
          case round =>
            obtain ⟨k, hk, rfl, H⟩ := hrel
            by_cases hlt : k < t.size
            · go_wp2
              · go_ret
                exact ⟨ret_bool (by rw [HD.out]; exact (digs_bad t k hlt (by omega)).symm), rfl⟩
              · go_round
                case rel => first | exact ⟨k + 1, by omega, by go_num, digs_more t k hlt H.out (by omega) (by omega)⟩ | exact ⟨_, _, ⟨k + 1, by omega, rfl, digs_more t k hlt H.out (by omega) (by omega)⟩, rfl, by go_num⟩
                case measure => simp [intOf]; omega
              · go_ret
                exact ⟨ret_bool (by rw [HD.out]; exact (digs_bad t k hlt (by omega)).symm), rfl⟩
            · have : k = t.size := by omega
              subst this
              go_wp2
              go_ret
              exact ⟨ret_bool (by rw [HD.out]; exact (digs_all t H.out).symm), rfl⟩
      · have HD : Hid (R = digs t.data.toList) := Lib.hid (by rw [HN.out]; exact refB_one t p0 (by omega))
        have p2' : decide ((1 : Int) < (t.size : Int)) = false := decide_eq_false p2
        go_wp2
        go_loop [3] (fun sc => ∃ k : Nat, k ≤ t.size ∧ sc = .int .i64 (k : Int) ∧ Hid (digs (t.data.toList.take k) = true)) (fun sc => t.size - (intOf sc).toNat)
        case atStart => exact ⟨0, Nat.zero_le _, rfl, rfl⟩
        case round =>
          obtain ⟨k, hk, rfl, H⟩ := hrel
          by_cases hlt : k < t.size
          · go_wp2
            · go_ret
              exact ⟨ret_bool (by rw [HD.out]; exact (digs_bad t k hlt (by omega)).symm), rfl⟩
            · go_round
              case rel => first | exact ⟨k + 1, by omega, by go_num, digs_more t k hlt H.out (by omega) (by omega)⟩ | exact ⟨_, _, ⟨k + 1, by omega, rfl, digs_more t k hlt H.out (by omega) (by omega)⟩, rfl, by go_num⟩
              case measure => simp [intOf]; omega
            · go_ret
              exact ⟨ret_bool (by rw [HD.out]; exact (digs_bad t k hlt (by omega)).symm), rfl⟩
          · have : k = t.size := by omega
            subst this
            go_wp2
            go_ret
            exact ⟨ret_bool (by rw [HD.out]; exact (digs_all t H.out).symm), rfl⟩
    · have pe : ((t.size : Int) == 0) = true := by rw [beq_iff_eq]; omega
      have HD : Hid (R = false) := Lib.hid (by rw [HN.out]; exact refB_empty t p0)
      go_wp2
      go_ret
      exact ⟨ret_bool HD.out.symm, rfl⟩
  · have e1 : 0 < s.size := by assumption
    have e2 : ((s[0].toNat : Int) == 45) = false := by assumption
    have HN : Hid (R = refB s.data.toList) := Lib.hid (by rw [HR.out, decB_plain s (strip_plain s e1 e2)])
    by_cases p0 : 0 < s.size
    · have pe : ((s.size : Int) == 0) = false := by rw [beq_eq_false_iff_ne]; omega
      by_cases p2 : (1 : Int) < (s.size : Int)
      · by_cases p1 : ((s[0].toNat : Int) == 48) = true
        · have HD : Hid (R = false) := Lib.hid (by rw [HN.out]; exact refB_zero s (by omega) p1)
          go_wp2
          go_ret
          exact ⟨ret_bool HD.out.symm, rfl⟩
        · have p1' : ((s[0].toNat : Int) == 48) = false := by simpa using p1
          have HD : Hid (R = digs s.data.toList) := Lib.hid (by rw [HN.out]; exact refB_more s (by omega) p1')
          have p2' : decide ((1 : Int) < (s.size : Int)) = true := decide_eq_true p2
          clear p1
          go_wp2
          go_loop [3] (fun sc => ∃ k : Nat, k ≤ s.size ∧ sc = .int .i64 (k : Int) ∧ Hid (digs (s.data.toList.take k) = true)) (fun sc => s.size - (intOf sc).toNat)
          case atStart => exact ⟨0, Nat.zero_le _, rfl, rfl⟩
          case round =>
            obtain ⟨k, hk, rfl, H⟩ := hrel
            by_cases hlt : k < s.size
            · go_wp2
              · go_ret
                exact ⟨ret_bool (by rw [HD.out]; exact (digs_bad s k hlt (by omega)).symm), rfl⟩
              · go_round
                case rel => first | exact ⟨k + 1, by omega, by go_num, digs_more s k hlt H.out (by omega) (by omega)⟩ | exact ⟨_, _, ⟨k + 1, by omega, rfl, digs_more s k hlt H.out (by omega) (by omega)⟩, rfl, by go_num⟩
                case measure => simp [intOf]; omega
              · go_ret
                exact ⟨ret_bool (by rw [HD.out]; exact (digs_bad s k hlt (by omega)).symm), rfl⟩
            · have : k = s.size := by omega
              subst this
              go_wp2
              go_ret
              exact ⟨ret_bool (by rw [HD.out]; exact (digs_all s H.out).symm), rfl⟩
      · have HD : Hid (R = digs s.data.toList) := Lib.hid (by rw [HN.out]; exact refB_one s p0 (by omega))
        have p2' : decide ((1 : Int) < (s.size : Int)) = false := decide_eq_false p2
        go_wp2
        go_loop [3] (fun sc => ∃ k : Nat, k ≤ s.size ∧ sc = .int .i64 (k : Int) ∧ Hid (digs (s.data.toList.take k) = true)) (fun sc => s.size - (intOf sc).toNat)
        case atStart => exact ⟨0, Nat.zero_le _, rfl, rfl⟩
        case round =>
          obtain ⟨k, hk, rfl, H⟩ := hrel
          by_cases hlt : k < s.size
          · go_wp2
            · go_ret
              exact ⟨ret_bool (by rw [HD.out]; exact (digs_bad s k hlt (by omega)).symm), rfl⟩
            · go_round
              case rel => first | exact ⟨k + 1, by omega, by go_num, digs_more s k hlt H.out (by omega) (by omega)⟩ | exact ⟨_, _, ⟨k + 1, by omega, rfl, digs_more s k hlt H.out (by omega) (by omega)⟩, rfl, by go_num⟩
              case measure => simp [intOf]; omega
            · go_ret
              exact ⟨ret_bool (by rw [HD.out]; exact (digs_bad s k hlt (by omega)).symm), rfl⟩
          · have : k = s.size := by omega
            subst this
            go_wp2
            go_ret
            exact ⟨ret_bool (by rw [HD.out]; exact (digs_all s H.out).symm), rfl⟩
    · have pe : ((s.size : Int) == 0) = true := by rw [beq_iff_eq]; omega
      have HD : Hid (R = false) := Lib.hid (by rw [HN.out]; exact refB_empty s p0)
      go_wp2
      go_ret
      exact ⟨ret_bool HD.out.symm, rfl⟩
  · have e1 : ¬ 0 < s.size := by assumption
    have pe : ((s.size : Int) == 0) = true := by rw [beq_iff_eq]; omega
    have HD : Hid (R = false) := Lib.hid (by rw [HR.out, decB_plain s (strip_empty s e1)]; exact refB_empty s e1)
    go_wp2
    go_ret
    exact ⟨ret_bool HD.out.symm, rfl⟩
end Go.Proofs.YtfalonklnfekhaaDoor.numS

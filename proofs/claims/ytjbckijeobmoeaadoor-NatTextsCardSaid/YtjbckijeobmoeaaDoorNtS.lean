/-
  Contracts of nat.isDecimal and nat.parseChunk; the world is as it was.
-/
import Derived.Test.YtjbckijeobmoeaaDoorNumText
import Derived.Test.YtjbckijeobmoeaaDoorNatA
import Derived.WalkSpells
import Derived.Deep.DeepCutAuto
namespace Go.Proofs.YtjbckijeobmoeaaDoor.ntS
open Go.RowKit
open Go.Proofs.YtjbckijeobmoeaaDoor.numT
set_option linter.unusedVariables false
theorem ret_bool {a b : Bool} (h : a = b) : Ending.returned (.bool a) = .returned (.bool b) := by rw [h]
theorem refB_48 {t : ByteArray} (h : (t.toList == [48]) = true) : refB t.data.toList = true := by
  rw [ByteArray.toList_eq] at h
  have : t.data.toList = [48] := by simpa using h
  rw [this]; rfl
theorem not_nil {s : ByteArray} (h : 0 < s.size) : (s.toList == []) = false := by
  rw [ByteArray.toList_eq, size_len] at *
  cases e : s.data.toList with
  | nil => rw [e] at h; simp at h
  | cons a r => rfl
theorem is_nil {s : ByteArray} (h : ¬ 0 < s.size) : (s.toList == []) = true := by
  rw [size_len] at h
  have e : s.data.toList = [] := List.length_eq_zero_iff.1 (by omega)
  rw [ByteArray.toList_eq, e]; rfl
set_option maxHeartbeats 1600000 in
theorem nisdec_any (s : ByteArray) (R : Bool) (HR : Hid (R = refB s.data.toList)) (hs : s.size ≤ 9223372036854775807) (w : World) :
    Calls Tryd.prog 11 #[.string s] w fun e w' => e = .returned (.bool R) ∧ w = w' := by
  by_cases e0 : (s.toList == [48]) = true
  · have HD : Hid (R = true) := Lib.hid (by rw [HR.out]; exact refB_48 e0)
    clear HR
    go_enter Tryd.func11, Tryd.ntmps11
    go_wp2_with fail
    go_ret
    exact ⟨ret_bool HD.out.symm, rfl⟩
  have e0' : (s.toList == [48]) = false := by simpa using e0
  have HN : Hid (R = numB s.data.toList) := Lib.hid (by rw [HR.out]; exact refB_minus e0')
  clear e0 HR
  by_cases p0 : 0 < s.size
  · have pe := not_nil p0
    by_cases p1 : ((s[0].toNat : Int) == 48) = true
    · have HD : Hid (R = false) := Lib.hid (by rw [HN.out]; exact numB_zero s p0 p1)
      go_enter Tryd.func11, Tryd.ntmps11
      go_wp2_with fail
      go_ret
      exact ⟨ret_bool HD.out.symm, rfl⟩
    · have p1' : ((s[0].toNat : Int) == 48) = false := by simpa using p1
      have HD : Hid (R = digs s.data.toList) := Lib.hid (by rw [HN.out]; exact numB_digs s p0 p1')
      clear p1
      go_enter Tryd.func11, Tryd.ntmps11
      go_wp2_with fail
      go_loop [15] (fun sc => ∃ k : Nat, k ≤ s.size ∧ sc = .int .i64 (k : Int) ∧ Hid (digs (s.data.toList.take k) = true)) (fun sc => s.size - (intOf sc).toNat)
      case atStart => exact ⟨0, Nat.zero_le _, rfl, rfl⟩
      case round =>
        obtain ⟨k, hk, rfl, H⟩ := hrel
        by_cases hlt : k < s.size
        · go_wp2
          · go_ret
            exact ⟨ret_bool (by rw [HD.out]; exact (digs_bad s k hlt (by omega)).symm), rfl⟩
          · go_round
            case rel => exact ⟨k + 1, by omega, by go_num, digs_more s k hlt H.out (by omega) (by omega)⟩
            case measure => simp [intOf]; omega
          · go_ret
            exact ⟨ret_bool (by rw [HD.out]; exact (digs_bad s k hlt (by omega)).symm), rfl⟩
        · have : k = s.size := by omega
          subst this
          go_wp2
          go_ret
          exact ⟨ret_bool (by rw [HD.out]; exact (digs_all s H.out).symm), rfl⟩
  · have pe := is_nil p0
    have HD : Hid (R = false) := Lib.hid (by rw [HN.out]; exact numB_empty s p0)
    go_enter Tryd.func11, Tryd.ntmps11
    go_wp2_with fail
    go_ret
    exact ⟨ret_bool HD.out.symm, rfl⟩

theorem u32_eq {a b : Int} (h : a = b) : Value.int .u32 a = .int .u32 b := by rw [h]
theorem pow8 (k : Nat) (h : k ≤ 8) : (10 : Nat) ^ k ≤ 100000000 := Nat.le_trans (Nat.pow_le_pow_right (by omega) h) (by decide)
set_option maxHeartbeats 1600000 in
theorem pchunk_any (s : ByteArray) (hd : Hid (digs s.data.toList = true)) (hs : s.size ≤ 9) (w : World) :
    Calls Tryd.prog 12 #[.string s] w fun e w' => e = .returned (.int .u32 (valN s.data.toList : Int)) ∧ w = w' := by
  go_enter Tryd.func12, Tryd.ntmps12
  go_wp2_with fail
  go_loop [3, 7] (fun s3 s7 => ∃ k v : Nat, k ≤ s.size ∧ s7 = .int .i64 (k : Int) ∧ s3 = .int .u32 (v : Int) ∧ Hid (v = valN (s.data.toList.take k))) (fun _ s7 => s.size - (intOf s7).toNat)
  case atStart => exact ⟨0, 0, Nat.zero_le _, rfl, rfl, rfl⟩
  case round =>
    obtain ⟨k, v, hk, rfl, rfl, HW⟩ := hrel
    by_cases hlt : k < s.size
    · have hd1 := dig_at s hd.out k hlt
      have HS := Lib.hid (valN_take s k hlt)
      have hv1 : v < 100000000 := by
        have h1 := valN_small s hd.out k (by omega)
        have h2 := pow8 k (by omega)
        rw [← HW.out] at h1; omega
      have d0 : (48 : Int) ≤ (s[k].toNat : Int) := by omega
      have d1 : (s[k].toNat : Int) ≤ 57 := by omega
      obtain ⟨d, hdd⟩ : ∃ d, d = s[k].toNat - 48 := ⟨_, rfl⟩
      clear hd1
      go_wp2_with fail
      go_round
      case rel => exact ⟨k + 1, 10 * v + d, by omega, by go_num, u32_eq (by omega), by show _ = _; rw [HS.out, ← HW.out, hdd]⟩
      case measure => simp [intOf]; omega
    · have : k = s.size := by omega
      subst this
      have e := valN_all s
      rw [e] at HW
      obtain rfl := HW.out
      go_wp2_with fail
      go_ret
      exact ⟨rfl, rfl⟩
end Go.Proofs.YtjbckijeobmoeaaDoor.ntS

/-
  Contracts of the functions that read and write amounts: isDigits, Parse, Format of money; digit, form, Parse, Format of the reference.
-/
import Derived.Test.YtkblcnomjgocmaaDoorMonD
import Derived.Test.YtkblcnomjgocmaaDoorNumG
import Derived.Test.YtkblcnomjgocmaaDoorMonTx
import Derived.Lib.AppendIntMem
namespace Go.Proofs.YtkblcnomjgocmaaDoor.monT
open Go.RowKit
open Go.Proofs.YtkblcnomjgocmaaDoor.numM Go.Proofs.YtkblcnomjgocmaaDoor.numB Go.Proofs.YtkblcnomjgocmaaDoor.numT Go.Proofs.YtkblcnomjgocmaaDoor.numS Go.Proofs.YtkblcnomjgocmaaDoor.numP Go.Proofs.YtkblcnomjgocmaaDoor.numG Go.Proofs.YtkblcnomjgocmaaDoor.monA Go.Proofs.YtkblcnomjgocmaaDoor.monB Go.Proofs.YtkblcnomjgocmaaDoor.monX
set_option linter.unusedVariables false

set_option maxHeartbeats 1000000 in
theorem isdig_any (t : ByteArray) (R : Bool) (HR : Hid (R = digs t.data.toList)) (hs : t.size ≤ 9223372036854775807) (w : World) :
    Calls Tryd.prog 42 #[.string t] w fun e w' => e = .returned (.bool R) ∧ w = w' := by
  go_enter Tryd.func42, Tryd.ntmps42
  go_wp2
  go_loop [6] (fun sc => ∃ k : Nat, k ≤ t.size ∧ sc = .int .i64 (k : Int) ∧ Hid (digs (t.data.toList.take k) = true)) (fun sc => t.size - (intOf sc).toNat)
  case atStart => exact ⟨0, Nat.zero_le _, rfl, rfl⟩
  case round =>
    obtain ⟨k, hk, rfl, H⟩ := hrel
    by_cases hlt : k < t.size
    · go_wp2
      · go_ret
        exact ⟨ret_bool (by rw [HR.out]; exact (digs_bad t k hlt (by omega)).symm), rfl⟩
      · go_round
        case rel => exact ⟨k + 1, by omega, by go_num, digs_more t k hlt H.out (by omega) (by omega)⟩
        case measure => simp [intOf]; omega
      · go_ret
        exact ⟨ret_bool (by rw [HR.out]; exact (digs_bad t k hlt (by omega)).symm), rfl⟩
    · have : k = t.size := by omega
      subst this
      go_wp2
      go_ret
      exact ⟨ret_bool (by rw [HR.out]; exact (digs_all t H.out).symm), rfl⟩
set_option maxHeartbeats 400000 in
theorem rdigit_any (c : UInt8) (R : Bool) (HR : Hid (R = dig c)) (w : World) :
    Calls Tryd.prog 52 #[.int .u8 (c.toNat : Int)] w fun e w' => e = .returned (.bool R) ∧ w = w' := by
  by_cases h0 : (c.toNat : Int) < 48
  · obtain rfl := HR.out.trans (dig_no (.inl h0))
    have h0' : decide ((48 : Int) ≤ (c.toNat : Int)) = false := by simp; omega
    go_enter Tryd.func52, Tryd.ntmps52
    go_wp2
    go_ret
    exact ⟨rfl, rfl⟩
  · by_cases h1 : 57 < (c.toNat : Int)
    · obtain rfl := HR.out.trans (dig_no (.inr h1))
      have h1' : decide ((c.toNat : Int) ≤ (57 : Int)) = false := by simp; omega
      have h0' : decide ((48 : Int) ≤ (c.toNat : Int)) = true := by simp; omega
      go_enter Tryd.func52, Tryd.ntmps52
      go_wp2
      go_ret
      exact ⟨rfl, rfl⟩
    · obtain rfl := HR.out.trans (dig_yes h0 h1)
      have h1' : decide ((c.toNat : Int) ≤ (57 : Int)) = true := by simp; omega
      have h0' : decide ((48 : Int) ≤ (c.toNat : Int)) = true := by simp; omega
      go_enter Tryd.func52, Tryd.ntmps52
      go_wp2
      go_ret
      exact ⟨rfl, rfl⟩

theorem at_b0 (s : ByteArray) (k : Nat) (h : k < s.size) : s[k] = b0 s.data.toList k := by
  rw [b0_get (by rw [← size_len]; exact h)]; rfl
theorem head_take (s : ByteArray) (n : Nat) : (s.extract 0 n).data.toList = s.data.toList.take n := by rw [Lib.extract_data]; simp
theorem two_eq' {a b a' b' : Int} (h1 : a = a') (h2 : b = b') : Ending.returned (.tuple #[.int .i64 a, .int .i64 b]) = .returned (.tuple #[.int .i64 a', .int .i64 b']) := by rw [h1, h2]

set_option maxHeartbeats 1000000 in
/-- a text of fewer than three bytes -/
theorem parse_short (s : ByteArray) (h : s.size < 3) (w : World) :
    Calls Tryd.prog 27 #[.string s] w fun e w' => e = .returned (.tuple #[.int .i64 0, .int .i64 1]) ∧ w = w' := by
  have e1 : ((s.size : Int) - 2 - 1) < 0 := by omega
  go_enter Tryd.func27, Tryd.ntmps27
  go_wp2_with fail
  go_ret2
  exact ⟨rfl, rfl⟩

set_option maxHeartbeats 1000000 in
/-- a text that has not the form: the digits or the point -/
theorem parse_form (s : ByteArray) (n : Nat) (hn : Hid (s.size = n + 3)) (hs : s.size ≤ 281474976710656) (hb : n < s.size)
    (h : ((s[n].toNat : Int) == 46) = false ∨ digs (s.extract 0 n).data.toList = false ∨ digs (s.extract (n + 1) s.size).data.toList = false) (w : World) :
    Calls Tryd.prog 27 #[.string s] w fun e w' => e = .returned (.tuple #[.int .i64 0, .int .i64 1]) ∧ w = w' := by
  have e1 : (s.size : Int) - 2 = (n : Int) + 1 := by have := hn.out; omega
  have n0 : ¬ (n : Int) < 0 := by omega
  have z1 : (s.extract 0 n).size ≤ 9223372036854775807 := by rw [ByteArray.size_extract]; omega
  have z2 : (s.extract (n + 1) s.size).size ≤ 9223372036854775807 := by rw [ByteArray.size_extract]; omega
  by_cases h1 : ((s[n].toNat : Int) == 46) = false
  · have h1' : ((s[n].toNat : Int) != 46) = true := by simpa using h1
    clear h
    go_enter Tryd.func27, Tryd.ntmps27
    go_wp2_with fail
    go_ret2
    exact ⟨rfl, rfl⟩
  · have h1' : ((s[n].toNat : Int) != 46) = false := by simpa using h1
    have h2 := h.resolve_left h1
    clear h h1
    have hb2 : n + 1 ≤ s.size := by omega
    by_cases hd : digs (s.extract 0 n).data.toList = true
    · have hd2 : digs (s.extract (n + 1) s.size).data.toList = false := h2.resolve_left (by rw [hd]; simp)
      have c1 := fun w => isdig_any (s.extract 0 n) true (Lib.hid hd.symm) z1 w
      have c2 := fun w => isdig_any (s.extract (n + 1) s.size) false (Lib.hid hd2.symm) z2 w
      clear h2 hd hd2
      go_enter Tryd.func27, Tryd.ntmps27
      go_wp2_with (go_at_call 42; first | ((with_reducible refine (c1 _).mono ?_); rintro e w' ⟨rfl, rfl⟩) | ((with_reducible refine (c2 _).mono ?_); rintro e w' ⟨rfl, rfl⟩))
      go_ret2
      exact ⟨rfl, rfl⟩
    · have hd' : digs (s.extract 0 n).data.toList = false := by simpa using hd
      have c1 := fun w => isdig_any (s.extract 0 n) false (Lib.hid hd'.symm) z1 w
      clear h2 hd hd'
      go_enter Tryd.func27, Tryd.ntmps27
      go_wp2_with (go_at_call 42; refine (c1 _).mono ?_; rintro e w' ⟨rfl, rfl⟩)
      go_ret2
      exact ⟨rfl, rfl⟩

set_option maxHeartbeats 1000000 in
/-- the form is right so far, and the number before the point is refused -/
theorem parse_bad (s : ByteArray) (n : Nat) (hn : Hid (s.size = n + 3)) (hs : s.size ≤ 281474976710656) (hb : n < s.size) (V E : Int) (hE : (E != 0) = true)
    (h1' : ((s[n].toNat : Int) != 46) = false) (c1 : ∀ w, Calls Tryd.prog 42 #[.string (s.extract 0 n)] w fun e w' => e = .returned (.bool true) ∧ w = w')
    (c2 : ∀ w, Calls Tryd.prog 42 #[.string (s.extract (n + 1) s.size)] w fun e w' => e = .returned (.bool true) ∧ w = w') (w : World)
    (c3 : Calls Tryd.prog 43 #[.string (s.extract 0 n)] w fun e w' => e = .returned (.tuple #[.int .i64 V, .int .i64 E]) ∧ Below w.heap.size w w') :
    Calls Tryd.prog 27 #[.string s] w fun e w' => e = .returned (.tuple #[.int .i64 0, .int .i64 E]) ∧ Below w.heap.size w w' := by
  have e1 : (s.size : Int) - 2 = (n : Int) + 1 := by have := hn.out; omega
  have n0 : ¬ (n : Int) < 0 := by omega
  have hb2 : n + 1 ≤ s.size := by omega
  go_enter Tryd.func27, Tryd.ntmps27
  go_wp2_with (first | (go_at_call 42; first | ((with_reducible refine (c1 _).mono ?_); rintro e w' ⟨rfl, rfl⟩) | ((with_reducible refine (c2 _).mono ?_); rintro e w' ⟨rfl, rfl⟩)) | (go_at_call 43; refine c3.mono ?_; rintro e w1 ⟨rfl, bel⟩))
  go_ret2
  exact ⟨rfl, bel⟩

set_option maxHeartbeats 1000000 in
theorem parse_go (s : ByteArray) (n U : Nat) (hn : Hid (s.size = n + 3)) (hs : s.size ≤ 281474976710656) (hb : n < s.size) (hb1 : n + 1 < s.size) (hb2 : n + 2 < s.size) (hU : U ≤ 9223372036854775807)
    (h1' : ((s[n].toNat : Int) != 46) = false) (c1 : ∀ w, Calls Tryd.prog 42 #[.string (s.extract 0 n)] w fun e w' => e = .returned (.bool true) ∧ w = w')
    (c2 : ∀ w, Calls Tryd.prog 42 #[.string (s.extract (n + 1) s.size)] w fun e w' => e = .returned (.bool true) ∧ w = w') (w : World)
    (d1 : dig s[n + 1] = true) (d2 : dig s[n + 2] = true) (M : Nat) (hM : Hid (M = U * 100 + (10 * (s[n + 1].toNat - 48) + (s[n + 2].toNat - 48)))) (V E : Int) (hV : Hid (M ≤ 1000000000000 → V = M ∧ E = 0)) (hV2 : Hid (1000000000000 < M → V = 0 ∧ E = 9))
    (c3 : Calls Tryd.prog 43 #[.string (s.extract 0 n)] w fun e w' => e = .returned (.tuple #[.int .i64 (U : Int), .int .i64 0]) ∧ Below w.heap.size w w') :
    Calls Tryd.prog 27 #[.string s] w fun e w' => e = .returned (.tuple #[.int .i64 V, .int .i64 E]) ∧ Below w.heap.size w w' := by
  have e1 : (s.size : Int) - 2 = (n : Int) + 1 := by have := hn.out; omega
  have n0 : ¬ (n : Int) < 0 := by omega
  have hb3 : n + 1 ≤ s.size := by omega
  have D1 := dig_iff.1 d1
  have D2 := dig_iff.1 d2
  clear d1 d2
  by_cases hbig : 10000000000 < (U : Int)
  · obtain ⟨rfl, rfl⟩ := hV2.out (by have := hM.out; omega)
    clear hV hV2 hM D1 D2
    go_enter Tryd.func27, Tryd.ntmps27
    go_wp2_with (first | (go_at_call 42; first | ((with_reducible refine (c1 _).mono ?_); rintro e w' ⟨rfl, rfl⟩) | ((with_reducible refine (c2 _).mono ?_); rintro e w' ⟨rfl, rfl⟩)) | (go_at_call 43; refine c3.mono ?_; rintro e w1 ⟨rfl, bel⟩))
    go_ret2
    exact ⟨rfl, bel⟩
  · have U1 : U ≤ 10000000000 := by omega
    obtain ⟨a, ha⟩ : ∃ a, a = s[n + 1].toNat - 48 := ⟨_, rfl⟩
    obtain ⟨b, hb'⟩ : ∃ b, b = s[n + 2].toNat - 48 := ⟨_, rfl⟩
    rw [← ha, ← hb'] at hM
    have a9 : a ≤ 9 := by omega
    have b9 : b ≤ 9 := by omega
    have g1 : IntKind.u8.wrap ((s[n + 1].toNat : Int) - 48) = (a : Int) := by rw [IntKind.wrap_u8]; omega
    have g2 : IntKind.u8.wrap ((s[n + 2].toNat : Int) - 48) = (b : Int) := by rw [IntKind.wrap_u8]; omega
    have g3 : IntKind.i64.wrap (a : Int) = (a : Int) := IntWalk.i64_in _ (by omega)
    have g4 : IntKind.i64.wrap (b : Int) = (b : Int) := IntWalk.i64_in _ (by omega)
    have g5 : IntKind.i64.wrap ((U : Int) * 100) = (U : Int) * 100 := IntWalk.i64_in _ (by omega)
    have g6 : IntKind.i64.wrap ((a : Int) * 10) = (a : Int) * 10 := IntWalk.i64_in _ (by omega)
    have g7 : IntKind.i64.wrap ((U : Int) * 100 + (a : Int) * 10) = (U : Int) * 100 + (a : Int) * 10 := IntWalk.i64_in _ (by omega)
    have g8 : IntKind.i64.wrap ((U : Int) * 100 + (a : Int) * 10 + (b : Int)) = (M : Int) := by rw [IntWalk.i64_in _ (by omega)]; have := hM.out; omega
    have g9 : IntKind.i64.wrap ((n : Int) + 1) = (n : Int) + 1 := IntWalk.i64_in _ (by omega)
    have g10 : IntKind.i64.wrap ((n : Int) + 2) = (n : Int) + 2 := IntWalk.i64_in _ (by omega)
    have i1 : (0 : Int) ≤ (n : Int) + 1 := by omega
    have i2 : (n : Int) + 1 < (s.size : Int) := by omega
    have i3 : (0 : Int) ≤ (n : Int) + 2 := by omega
    have i4 : (n : Int) + 2 < (s.size : Int) := by omega
    have t1 : ((n : Int) + 1).toNat = n + 1 := by omega
    have t2 : ((n : Int) + 2).toNat = n + 2 := by omega
    clear ha hb' D1 D2
    have n10 : ¬ (10000000000 : Int) < (U : Int) := hbig
    by_cases hv : M ≤ 1000000000000
    · obtain ⟨rfl, rfl⟩ := hV.out hv
      have cv := fun w => valid_any (M : Int) true (Lib.hid (vB_yes (by omega) (by omega)).symm) w
      clear hV hV2 hM hv hbig
      go_enter Tryd.func27, Tryd.ntmps27
      go_wp2_with (first | (go_at_call 42; first | ((with_reducible refine (c1 _).mono ?_); rintro e w' ⟨rfl, rfl⟩) | ((with_reducible refine (c2 _).mono ?_); rintro e w' ⟨rfl, rfl⟩)) | (go_at_call 43; refine c3.mono ?_; rintro e w1 ⟨rfl, bel⟩))
      go_quiet (fail)
      (try clear g1); (try clear g2); (try clear g3); (try clear g4); (try clear g5); (try clear g6); (try clear g7); (try clear g8); (try clear g9); (try clear g10)
      go_wp2_with (go_at_call 14; refine (cv _).mono ?_; rintro e w' ⟨rfl, rfl⟩)
      go_ret2
      exact ⟨rfl, Below.mono (monC.bel_drewN bel _) (Nat.le_refl _)⟩
    · have hv' : 1000000000000 < M := by omega
      obtain ⟨rfl, rfl⟩ := hV2.out hv'
      have cv := fun w => valid_any (M : Int) false (Lib.hid (vB_no (.inr (by omega))).symm) w
      clear hV hV2 hM hv hbig hv'
      go_enter Tryd.func27, Tryd.ntmps27
      go_wp2_with (first | (go_at_call 42; first | ((with_reducible refine (c1 _).mono ?_); rintro e w' ⟨rfl, rfl⟩) | ((with_reducible refine (c2 _).mono ?_); rintro e w' ⟨rfl, rfl⟩)) | (go_at_call 43; refine c3.mono ?_; rintro e w1 ⟨rfl, bel⟩))
      go_quiet (fail)
      (try clear g1); (try clear g2); (try clear g3); (try clear g4); (try clear g5); (try clear g6); (try clear g7); (try clear g8); (try clear g9); (try clear g10)
      go_wp2_with (go_at_call 14; refine (cv _).mono ?_; rintro e w' ⟨rfl, rfl⟩)
      go_ret2
      exact ⟨rfl, Below.mono (monC.bel_drewN bel _) (Nat.le_refl _)⟩

/-- money.Parse, whatever the text -/
theorem mparse_any (s : ByteArray) (V E : Int) (hV : Hid (V = mV s.data.toList)) (hE : Hid (E = mE s.data.toList)) (hs : s.size ≤ 281474976710656) (w : World)
    (hvar2 : ∀ n, s.size = n + 3 → digs (s.data.toList.take n) = true → refB (s.data.toList.take n) = true → valN (s.data.toList.take n) ≤ 9223372036854775807 ∨ ∃ tp p, w.var? Tryd.prog "strconv.ErrRange" = some #[.iface tp p]) :
    Calls Tryd.prog 27 #[.string s] w fun e w' => e = .returned (.tuple #[.int .i64 V, .int .i64 E]) ∧ Below w.heap.size w w' := by
  have hl : s.data.toList.length = s.size := (size_len s).symm
  by_cases h3 : s.size < 3
  · obtain ⟨e1, e2⟩ := m_no (frm_short (l := s.data.toList) (by omega))
    rw [hV.out, hE.out, e1, e2]
    refine (parse_short s h3 w).mono ?_
    rintro e w' ⟨rfl, rfl⟩
    exact ⟨rfl, Below.refl _ _⟩
  · obtain ⟨n, hn⟩ : ∃ n, s.size = n + 3 := ⟨s.size - 3, by omega⟩
    have hln : s.data.toList.length = n + 3 := by omega
    have hb : n < s.size := by omega
    have hb1 : n + 1 < s.size := by omega
    have hb2 : n + 2 < s.size := by omega
    have eh := head_take s n
    have et : (s.extract (n + 1) s.size).data.toList = s.data.toList.drop (n + 1) := Lib.extract_to_end s (n + 1)
    have c46 := at_b0 s n hb
    have no : ((s[n].toNat : Int) == 46) = false ∨ digs (s.extract 0 n).data.toList = false ∨ digs (s.extract (n + 1) s.size).data.toList = false →
        Calls Tryd.prog 27 #[.string s] w fun e w' => e = .returned (.tuple #[.int .i64 V, .int .i64 E]) ∧ Below w.heap.size w w' := fun h => by
      have hf : frm s.data.toList = false := frm_no hln (by
        rcases h with h | h | h
        · left; rw [← c46]; exact u8_ne (n := 46) (by decide) h
        · right; right; exact refB_not (by rw [← eh]; exact h)
        · right; left; rw [← et]; exact h)
      obtain ⟨e1, e2⟩ := m_no hf
      rw [hV.out, hE.out, e1, e2]
      refine (parse_form s n (Lib.hid hn) hs hb h w).mono ?_
      rintro e w' ⟨rfl, rfl⟩
      exact ⟨rfl, Below.refl _ _⟩
    by_cases h46 : ((s[n].toNat : Int) == 46) = false
    · exact no (.inl h46)
    · by_cases hd : digs (s.extract 0 n).data.toList = true
      · by_cases ht : digs (s.extract (n + 1) s.size).data.toList = true
        · have h46' : ((s[n].toNat : Int) == 46) = true := by simpa using h46
          have h1' : ((s[n].toNat : Int) != 46) = false := by simpa using h46
          have z1 : (s.extract 0 n).size ≤ 9223372036854775807 := by rw [ByteArray.size_extract]; omega
          have z3 : (s.extract 0 n).size ≤ 281474976710656 := by rw [ByteArray.size_extract]; omega
          have z2 : (s.extract (n + 1) s.size).size ≤ 9223372036854775807 := by rw [ByteArray.size_extract]; omega
          have c1 := fun w => isdig_any (s.extract 0 n) true (Lib.hid hd.symm) z1 w
          have c2 := fun w => isdig_any (s.extract (n + 1) s.size) true (Lib.hid ht.symm) z2 w
          have hd2 : digs (s.data.toList.take n) = true := by rw [← eh]; exact hd
          by_cases hr : refB (s.data.toList.take n) = true
          · have hf : frm s.data.toList = true := (frm_iff hln).2 ⟨by rw [← c46]; exact u8_eq (n := 46) (by decide) h46', by rw [← et]; exact ht, hr⟩
            have hdec : decB (s.extract 0 n).data.toList = true := by rw [eh, decB_refB hd2]; exact hr
            have hval : intN (s.extract 0 n).data.toList = (valN (s.data.toList.take n) : Int) := by rw [eh]; exact intN_digs hd2
            have ea := amt_eq hln
            by_cases hU : valN (s.data.toList.take n) ≤ 9223372036854775807
            · have c3 := parse_in (s.extract 0 n) (valN (s.data.toList.take n) : Int) (Lib.hid hdec) (Lib.hid hval.symm) (by omega) (by omega) z3 w
              rw [et, drop_two hln, digs_two] at ht
              have t1 := ht.1
              have t2 := ht.2
              rw [← at_b0 s (n + 1) hb1] at t1 ea
              rw [← at_b0 s (n + 2) hb2] at t2 ea
              refine parse_go s n (valN (s.data.toList.take n)) (Lib.hid hn) hs hb hb1 hb2 hU h1' c1 c2 w t1 t2 (amt s.data.toList) (Lib.hid ea) V E (Lib.hid fun hle => ?_) (Lib.hid fun hgt => ?_) c3
              · obtain ⟨e1, e2⟩ := m_ok hf hle
                exact ⟨hV.out.trans e1, hE.out.trans e2⟩
              · obtain ⟨e1, e2⟩ := m_big hf hgt
                exact ⟨hV.out.trans e1, hE.out.trans e2⟩
            · obtain ⟨tp, p, hv⟩ := (hvar2 n hn hd2 hr).resolve_left hU
              obtain ⟨e1, e2⟩ := m_big hf (by omega)
              obtain ⟨p1, p2⟩ := pr_yes hdec
              have c3 := parse_any (s.extract 0 n) _ _ rfl rfl z3 tp p w hv
              rw [p1, p2, hval, fitV_hi (by omega), fitE_hi (by omega)] at c3
              rw [hV.out, hE.out, e1, e2]
              exact parse_bad s n (Lib.hid hn) hs hb 0 9 (by decide) h1' c1 c2 w c3
          · have hr' : refB (s.data.toList.take n) = false := by simpa using hr
            have hdec : decB (s.extract 0 n).data.toList = false := by rw [eh, decB_refB hd2]; exact hr'
            obtain ⟨e1, e2⟩ := m_no (frm_no hln (.inr (.inr hr')))
            rw [hV.out, hE.out, e1, e2]
            have c3 := parse_no (s.extract 0 n) (Lib.hid hdec) z3 w
            exact parse_bad s n (Lib.hid hn) hs hb 0 1 (by decide) h1' c1 c2 w (c3.mono (by rintro e w' ⟨rfl, rfl⟩; exact ⟨rfl, Below.refl _ _⟩))
        · exact no (.inr (.inr (by simpa using ht)))
      · exact no (.inr (.inl (by simpa using hd)))
end Go.Proofs.YtkblcnomjgocmaaDoor.monT

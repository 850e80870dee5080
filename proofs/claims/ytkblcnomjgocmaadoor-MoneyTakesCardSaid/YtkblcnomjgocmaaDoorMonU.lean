/-
  Contracts of the reference's form and Parse.
-/
import Derived.Test.YtkblcnomjgocmaaDoorMonT
namespace Go.Proofs.YtkblcnomjgocmaaDoor.monU
open Go.RowKit
open Go.Proofs.YtkblcnomjgocmaaDoor.numM Go.Proofs.YtkblcnomjgocmaaDoor.numB Go.Proofs.YtkblcnomjgocmaaDoor.numT Go.Proofs.YtkblcnomjgocmaaDoor.numS Go.Proofs.YtkblcnomjgocmaaDoor.monA Go.Proofs.YtkblcnomjgocmaaDoor.monB Go.Proofs.YtkblcnomjgocmaaDoor.monX Go.Proofs.YtkblcnomjgocmaaDoor.monT
set_option linter.unusedVariables false

set_option maxHeartbeats 1600000 in
theorem rform_any (s : ByteArray) (R : Bool) (HR : Hid (R = frm s.data.toList)) (hs : s.size ≤ 281474976710656) (w : World) :
    Calls Tryd.prog 44 #[.string s] w fun e w' => e = .returned (.bool R) ∧ w = w' := by
  have hl : s.data.toList.length = s.size := (size_len s).symm
  by_cases h4 : s.size < 4
  · obtain rfl := HR.out.trans (frm_short (by omega))
    have e1 : (s.size : Int) - 3 < 1 := by omega
    clear HR
    go_enter Tryd.func44, Tryd.ntmps44
    go_wp2_with fail
    go_ret
    exact ⟨rfl, rfl⟩
  · obtain ⟨n, hn⟩ : ∃ n, s.size = n + 3 := ⟨s.size - 3, by omega⟩
    have hln : s.data.toList.length = n + 3 := by omega
    have e1 : (s.size : Int) - 3 = (n : Int) := by omega
    have n1 : decide ((n : Int) < 1) = false := by simp; omega
    have n1' : 1 ≤ n := by omega
    have hb : n < s.size := by omega
    have hb1 : n + 1 < s.size := by omega
    have hb2 : n + 2 < s.size := by omega
    have hp : 0 < s.size := by omega
    have HN := Lib.hid hn
    have c46 := at_b0 s n hb
    have C46 := Lib.hid c46
    have k1 := fun (r : Bool) (h : Hid (r = dig s[n + 1])) w => rdigit_any s[n + 1] r h w
    have k2 := fun (r : Bool) (h : Hid (r = dig s[n + 2])) w => rdigit_any s[n + 2] r h w
    have E1 := Lib.hid (at_b0 s (n + 1) hb1)
    have E2 := Lib.hid (at_b0 s (n + 2) hb2)
    have E0 := Lib.hid (at_b0 s 0 hp)
    have hN : (n : Int) ≤ 281474976710656 := by omega
    clear hn c46 h4
    by_cases h46 : ((s[n].toNat : Int) == 46) = false
    · obtain rfl := HR.out.trans (frm_no hln (.inl (by rw [← C46.out]; exact u8_ne (n := 46) (by decide) h46)))
      have h1' : ((s[n].toNat : Int) != 46) = true := by simpa using h46
      clear HR h46
      go_enter Tryd.func44, Tryd.ntmps44
      go_wp2_with fail
      go_ret
      exact ⟨rfl, rfl⟩
    · have h46' : ((s[n].toNat : Int) == 46) = true := by simpa using h46
      have h1' : ((s[n].toNat : Int) != 46) = false := by simpa using h46
      have B46 : Hid (b0 s.data.toList n = 46) := Lib.hid (by rw [← C46.out]; exact u8_eq (n := 46) (by decide) h46')
      clear h46 h46'
      cases d1 : dig s[n + 1] with
      | false =>
        obtain rfl := HR.out.trans (frm_no hln (.inr (.inl (by rw [drop_two hln, ← E1.out]; simp [digs, d1]))))
        have c1 := k1 false (Lib.hid d1.symm)
        clear HR d1 k1 k2
        go_enter Tryd.func44, Tryd.ntmps44
        go_wp2_with (go_at_call 52; first | ((with_reducible refine (c1 _).mono ?_); rintro e w' ⟨rfl, rfl⟩))
        go_ret
        exact ⟨rfl, rfl⟩
      | true =>
        have c1 := k1 true (Lib.hid d1.symm)
        cases d2 : dig s[n + 2] with
        | false =>
          obtain rfl := HR.out.trans (frm_no hln (.inr (.inl (by rw [drop_two hln, ← E2.out]; simp [digs, d2]))))
          have c2 := k2 false (Lib.hid d2.symm)
          clear HR d1 d2 k1 k2
          go_enter Tryd.func44, Tryd.ntmps44
          go_wp2_with (go_at_call 52; first | ((with_reducible refine (c1 _).mono ?_); rintro e w' ⟨rfl, rfl⟩) | ((with_reducible refine (c2 _).mono ?_); rintro e w' ⟨rfl, rfl⟩))
          go_ret
          exact ⟨rfl, rfl⟩
        | true =>
          have c2 := k2 true (Lib.hid d2.symm)
          have DD : Hid (digs (s.data.toList.drop (n + 1)) = true) := Lib.hid (by rw [drop_two hln, digs_two, ← E1.out, ← E2.out]; exact ⟨d1, d2⟩)
          clear d1 d2 k1 k2
          by_cases hz : 1 < n ∧ ((s[0].toNat : Int) == 48) = true
          · obtain ⟨hz1, hz2⟩ := hz
            obtain rfl := HR.out.trans (frm_no hln (.inr (.inr (refB_bad0 (by simp; omega) (by rw [head_b0 (by omega) (by omega), ← E0.out, u8_eq (n := 48) (by decide) hz2]; rfl)))))
            have hz3 : (1 : Int) < (n : Int) := by omega
            clear HR
            go_enter Tryd.func44, Tryd.ntmps44
            go_wp2_with (go_at_call 52; first | ((with_reducible refine (c1 _).mono ?_); rintro e w' ⟨rfl, rfl⟩) | ((with_reducible refine (c2 _).mono ?_); rintro e w' ⟨rfl, rfl⟩))
            go_ret
            exact ⟨rfl, rfl⟩
          · have HZ : Hid (digs (s.data.toList.take n) = true → R = true) := fun hd => by
              rw [HR.out]
              refine (frm_iff hln).2 ⟨B46.out, DD.out, refB_of hd (fun e => ?_) ?_⟩
              · have : (s.data.toList.take n).length = 0 := by rw [e]; rfl
                rw [List.length_take] at this; omega
              · by_cases h1 : 1 < n
                · right
                  rw [head_b0 (by omega) (by omega), ← E0.out]
                  have : ((s[0].toNat : Int) == 48) = false := by
                    cases e : ((s[0].toNat : Int) == 48) with
                    | false => rfl
                    | true => exact absurd ⟨h1, e⟩ hz
                  have h3 := u8_ne (n := 48) (by decide) this
                  intro h5; injection h5 with h5; exact h3 h5
                · left; simp; omega
            have HF : Hid (digs (s.data.toList.take n) = false → R = false) := fun hd => HR.out.trans (frm_no hln (.inr (.inr (refB_not hd))))
            clear HR
            by_cases h1 : 1 < n
            · have hz3 : (1 : Int) < (n : Int) := by omega
              have hz2 : ((s[0].toNat : Int) == 48) = false := by
                cases e : ((s[0].toNat : Int) == 48) with
                | false => rfl
                | true => exact absurd ⟨h1, e⟩ hz
              clear hz
              go_enter Tryd.func44, Tryd.ntmps44
              go_wp2_with (go_at_call 52; first | ((with_reducible refine (c1 _).mono ?_); rintro e w' ⟨rfl, rfl⟩) | ((with_reducible refine (c2 _).mono ?_); rintro e w' ⟨rfl, rfl⟩))
              clear c1 c2
              go_loop [4] (fun sc => ∃ k : Nat, k ≤ n ∧ sc = .int .i64 (k : Int) ∧ Hid (digs (s.data.toList.take k) = true)) (fun sc => n - (intOf sc).toNat)
              case atStart => exact ⟨0, Nat.zero_le _, rfl, rfl⟩
              case round =>
                obtain ⟨k, hk, rfl, H⟩ := hrel
                by_cases hlt : k < n
                · have hks : k < s.size := by omega
                  have HS : Hid (digs (s.data.toList.take (k + 1)) = (digs (s.data.toList.take k) && dig s[k])) := Lib.hid (by rw [take_snoc s k hks, digs_snoc])
                  cases dk : dig s[k] with
                  | false =>
                    have ck := rdigit_any s[k] false (Lib.hid dk.symm)
                    obtain rfl := HF.out (by
                      have h5 : digs (s.data.toList.take (k + 1)) = false := by rw [HS.out, dk, Bool.and_false]
                      have h6 : s.data.toList.take (k + 1) = (s.data.toList.take n).take (k + 1) := by rw [List.take_take, Nat.min_eq_left (by omega)]
                      rw [h6] at h5; exact digs_take_false h5)
                    clear HF HZ dk
                    go_wp2_with (go_at_call 52; refine (ck _).mono ?_; rintro e w' ⟨rfl, rfl⟩)
                    go_ret
                    exact ⟨rfl, rfl⟩
                  | true =>
                    have ck := rdigit_any s[k] true (Lib.hid dk.symm)
                    have H2 : Hid (digs (s.data.toList.take (k + 1)) = true) := Lib.hid (by rw [HS.out, H.out, dk]; rfl)
                    clear dk
                    go_wp2_with (go_at_call 52; refine (ck _).mono ?_; rintro e w' ⟨rfl, rfl⟩)
                    go_round
                    case rel => exact ⟨k + 1, by omega, by go_num, H2⟩
                    case measure => simp [intOf]; omega
                · have e : k = n := by omega
                  subst e
                  obtain rfl := HZ.out H.out
                  clear HF HZ
                  go_wp2
                  go_ret
                  exact ⟨rfl, rfl⟩
            · have hz3 : decide ((1 : Int) < (n : Int)) = false := by simp; omega
              clear hz
              go_enter Tryd.func44, Tryd.ntmps44
              go_wp2_with (go_at_call 52; first | ((with_reducible refine (c1 _).mono ?_); rintro e w' ⟨rfl, rfl⟩) | ((with_reducible refine (c2 _).mono ?_); rintro e w' ⟨rfl, rfl⟩))
              clear c1 c2
              go_loop [4] (fun sc => ∃ k : Nat, k ≤ n ∧ sc = .int .i64 (k : Int) ∧ Hid (digs (s.data.toList.take k) = true)) (fun sc => n - (intOf sc).toNat)
              case atStart => exact ⟨0, Nat.zero_le _, rfl, rfl⟩
              case round =>
                obtain ⟨k, hk, rfl, H⟩ := hrel
                by_cases hlt : k < n
                · have hks : k < s.size := by omega
                  have HS : Hid (digs (s.data.toList.take (k + 1)) = (digs (s.data.toList.take k) && dig s[k])) := Lib.hid (by rw [take_snoc s k hks, digs_snoc])
                  cases dk : dig s[k] with
                  | false =>
                    have ck := rdigit_any s[k] false (Lib.hid dk.symm)
                    obtain rfl := HF.out (by
                      have h5 : digs (s.data.toList.take (k + 1)) = false := by rw [HS.out, dk, Bool.and_false]
                      have h6 : s.data.toList.take (k + 1) = (s.data.toList.take n).take (k + 1) := by rw [List.take_take, Nat.min_eq_left (by omega)]
                      rw [h6] at h5; exact digs_take_false h5)
                    clear HF HZ dk
                    go_wp2_with (go_at_call 52; refine (ck _).mono ?_; rintro e w' ⟨rfl, rfl⟩)
                    go_ret
                    exact ⟨rfl, rfl⟩
                  | true =>
                    have ck := rdigit_any s[k] true (Lib.hid dk.symm)
                    have H2 : Hid (digs (s.data.toList.take (k + 1)) = true) := Lib.hid (by rw [HS.out, H.out, dk]; rfl)
                    clear dk
                    go_wp2_with (go_at_call 52; refine (ck _).mono ?_; rintro e w' ⟨rfl, rfl⟩)
                    go_round
                    case rel => exact ⟨k + 1, by omega, by go_num, H2⟩
                    case measure => simp [intOf]; omega
                · have e : k = n := by omega
                  subst e
                  obtain rfl := HZ.out H.out
                  clear HF HZ
                  go_wp2
                  go_ret
                  exact ⟨rfl, rfl⟩

set_option maxHeartbeats 1600000 in
theorem rmparse_any (s : ByteArray) (V E : Int) (hV : Hid (V = mV s.data.toList)) (hE : Hid (E = mE s.data.toList)) (hs : s.size ≤ 281474976710656) (w : World) :
    Calls Tryd.prog 28 #[.string s] w fun e w' => e = .returned (.tuple #[.int .i64 V, .int .i64 E]) ∧ w = w' := by
  cases hf : frm s.data.toList with
  | false =>
    have cf := fun w => rform_any s false (Lib.hid hf.symm) hs w
    obtain ⟨e1, e2⟩ := m_no hf
    obtain rfl := hV.out.trans e1
    obtain rfl := hE.out.trans e2
    clear hV hE e1 e2 hf
    go_enter Tryd.func28, Tryd.ntmps28
    go_wp2_with (go_at_call 44; refine (cf _).mono ?_; rintro e w' ⟨rfl, rfl⟩)
    go_ret2
    exact ⟨rfl, rfl⟩
  | true =>
    have cf := fun w => rform_any s true (Lib.hid hf.symm) hs w
    have hl : s.data.toList.length = s.size := (size_len s).symm
    have h4 : 4 ≤ s.size := by
      rcases Nat.lt_or_ge s.data.toList.length 4 with h2 | h2
      · rw [frm_short h2] at hf; cases hf
      · omega
    obtain ⟨n, hn⟩ : ∃ n, s.size = n + 3 := ⟨s.size - 3, by omega⟩
    have hln : s.data.toList.length = n + 3 := by omega
    have HLN := Lib.hid hln
    have HF := Lib.hid hf
    have HA : Hid (run s.data.toList s.size = amt s.data.toList) := Lib.hid (by rw [hn]; exact run_all hln hf)
    have HN := Lib.hid hn
    clear hf hn hln hl h4
    go_enter Tryd.func28, Tryd.ntmps28
    go_wp2_with (go_at_call 44; refine (cf _).mono ?_; rintro e w' ⟨rfl, rfl⟩)
    clear cf
    go_loop [4, 5] (fun t i => ∃ k v : Nat, k ≤ s.size ∧ i = .int .i64 (k : Int) ∧ t = .int .i64 (v : Int) ∧ v ≤ 1000000000000 ∧ Hid (v = run s.data.toList k)) (fun _ i => s.size - (intOf i).toNat)
    case atStart => exact ⟨0, 0, Nat.zero_le _, rfl, rfl, by omega, rfl⟩
    case round =>
      obtain ⟨k, v, hk, rfl, rfl, hv, HV⟩ := hrel
      by_cases hlt : k < s.size
      · have hby := frm_byte HLN.out HF.out (i := k) (by rw [← HN.out]; exact hlt)
        rw [← at_b0 s k hlt] at hby
        have HR : Hid (run s.data.toList (k + 1) = if s[k] = 46 then run s.data.toList k else 10 * run s.data.toList k + (s[k].toNat - 48)) := Lib.hid (by rw [run, at_b0 s k hlt])
        rcases hby with ⟨e, h46⟩ | ⟨e, hd⟩
        · have HS : Hid (v = run s.data.toList (k + 1)) := Lib.hid (by rw [HR.out, if_pos h46]; exact HV.out)
          have h46' : ((s[k].toNat : Int) == 46) = true := by rw [h46]; rfl
          clear HR h46 e
          go_wp2
          go_round
          case rel => exact ⟨k + 1, v, by omega, by go_num, rfl, hv, HS⟩
          case measure => simp [intOf]; omega
        · have hd2 := dig_iff.1 hd
          have hne := dig_ne46 hd
          obtain ⟨a, ha⟩ : ∃ a, a = s[k].toNat - 48 := ⟨_, rfl⟩
          have HS : Hid (10 * v + a = run s.data.toList (k + 1)) := Lib.hid (by rw [HR.out, if_neg hne, ← HV.out, ha])
          have h46' : ((s[k].toNat : Int) == 46) = false := by
            rw [beq_eq_false_iff_ne]; intro h5
            exact hne (u8_eq (n := 46) (by decide) (by rw [h5]; rfl))
          have g1 : IntKind.u8.wrap ((s[k].toNat : Int) - 48) = (a : Int) := by rw [IntKind.wrap_u8]; omega
          have a9 : a ≤ 9 := by omega
          have HB : Hid (1000000000000 < 10 * v + a → V = 0 ∧ E = 9) := fun h => by
            have h6 := run_mono (l := s.data.toList) (show k + 1 ≤ s.size by omega)
            obtain ⟨e1, e2⟩ := m_big HF.out (by rw [← HA.out]; have := HS.out; omega)
            exact ⟨hV.out.trans e1, hE.out.trans e2⟩
          have d1 : (48 : Int) ≤ (s[k].toNat : Int) := by omega
          have d2 : (s[k].toNat : Int) ≤ 57 := by omega
          have ea : (s[k].toNat : Int) - 48 = (a : Int) := by omega
          clear HR hne hd hd2 ha e
          by_cases hbig : 1000000000000 < 10 * v + a
          · obtain ⟨rfl, rfl⟩ := HB.out hbig
            have hbig' : (1000000000000 : Int) < 10 * (v : Int) + (a : Int) := by omega
            clear HB hbig hV hE
            go_wp2
            go_ret2
            exact ⟨rfl, rfl⟩
          · have hbig' : ¬ (1000000000000 : Int) < 10 * (v : Int) + (a : Int) := by omega
            clear HB
            go_wp2
            go_round
            case rel => exact ⟨k + 1, 10 * v + a, by omega, by go_num, by go_num, by omega, HS⟩
            case measure => simp [intOf]; omega
      · have e : k = s.size := by omega
        subst e
        have e3 := HV.out.trans HA.out
        obtain ⟨e1, e2⟩ := m_ok HF.out (by rw [← e3]; exact hv)
        have h1 : Hid ((v : Int) = V) := Lib.hid (by rw [hV.out, e1, e3])
        obtain rfl := hE.out.trans e2
        clear e1 e2 e3 hV hE
        go_wp2
        go_ret2
        exact ⟨two_eq' h1.out rfl, rfl⟩
end Go.Proofs.YtkblcnomjgocmaaDoor.monU

/-
  Contracts of num.Parse and of the reference's Parse: the number and the error of every text.
-/
import Derived.Test.YtfalonklnfekhaaDoorNumS
namespace Go.Proofs.YtfalonklnfekhaaDoor.numP
open Go.RowKit
open Go.Proofs.YtfalonklnfekhaaDoor.numM Go.Proofs.YtfalonklnfekhaaDoor.numA Go.Proofs.YtfalonklnfekhaaDoor.numB Go.Proofs.YtfalonklnfekhaaDoor.numD Go.Proofs.YtfalonklnfekhaaDoor.numT Go.Proofs.YtfalonklnfekhaaDoor.numS
set_option linter.unusedVariables false

set_option maxHeartbeats 400000 in
theorem parse_any (s : ByteArray) (V E : Int) (hV : Hid (V = prV s.data.toList)) (hE : Hid (E = prE s.data.toList)) (hs : s.size ≤ 281474976710656) (tp : TypeId) (p : Value) (w : World) (hvar : w.var? Tryd.prog "strconv.ErrRange" = some #[.iface tp p]) :
    Calls Tryd.prog 26 #[.string s] w fun e w' => e = .returned (.tuple #[.int .i64 V, .int .i64 E]) ∧ Below w.heap.size w w' := by
  by_cases hd : decB s.data.toList = true
  · obtain ⟨e1, e2⟩ := pr_yes hd
    have cd := fun w => isdec_any s true (Lib.hid hd.symm) (by omega) w
    obtain ⟨a1, a2⟩ := atoi_dec hd
    rcases fitE_or (intN s.data.toList) with ⟨f1, f2, f3⟩ | ⟨f1, f2, f3⟩
    · obtain rfl : E = 0 := by rw [hE.out, e2, f1]
      have HV : Hid (V = intN s.data.toList) := Lib.hid (by rw [hV.out, e1, f2])
      have ca := fun w => Tryd.strconv_Atoi_ok s (by omega) _ (a1 f3) w
      rw [← HV.out] at ca
      clear hd e1 e2 a1 a2 f1 f2 f3 hvar
      go_enter Tryd.func26, Tryd.ntmps26
      go_wp2_with (first | (go_at_call 38; refine (cd _).mono ?_; rintro e w' ⟨rfl, rfl⟩) | (go_at_call 39; refine (ca _).mono ?_; rintro e w' ⟨rfl, hw⟩; have HW := Lib.hid hw; clear hw))
      go_ret2
      refine ⟨rfl, ?_⟩
      rcases HW.out with h | ⟨t, h⟩
      · rw [h]; exact Below.refl _ _
      · rw [h]; exact Lib.bytesWorld_below _ _ _
    · obtain rfl : E = 9 := by rw [hE.out, e2, f1]
      obtain rfl : V = 0 := by rw [hV.out, e1, f2]
      have ca := Tryd.strconv_Atoi_range_var s hs (a2 f3) tp p w hvar
      clear hd e1 e2 a1 a2 f1 f2 f3 hvar hV hE
      go_enter Tryd.func26, Tryd.ntmps26
      go_wp2_with (first | (go_at_call 38; refine (cd _).mono ?_; rintro e w' ⟨rfl, rfl⟩) | (go_at_call 39; refine ca.mono ?_; rintro e w' ⟨N, rfl, hN, hc, hb⟩))
      go_ret2
      exact ⟨rfl, hb⟩
  · have hd' : decB s.data.toList = false := by simpa using hd
    obtain ⟨e1, e2⟩ := pr_no hd'
    obtain rfl : E = 1 := by rw [hE.out, e2]
    obtain rfl : V = 0 := by rw [hV.out, e1]
    have cd := fun w => isdec_any s false (Lib.hid hd'.symm) (by omega) w
    clear hd hd' e1 e2 hV hE hvar
    go_enter Tryd.func26, Tryd.ntmps26
    go_wp2_with (go_at_call 38; refine (cd _).mono ?_; rintro e w' ⟨rfl, rfl⟩)
    go_ret2
    exact ⟨rfl, Below.refl _ _⟩

set_option maxHeartbeats 400000 in
/-- a text that says an int: no variable is read -/
theorem parse_in (s : ByteArray) (V : Int) (hd : Hid (decB s.data.toList = true)) (hV : Hid (V = intN s.data.toList)) (v0 : -9223372036854775808 ≤ V) (v1 : V ≤ 9223372036854775807) (hs : s.size ≤ 281474976710656) (w : World) :
    Calls Tryd.prog 26 #[.string s] w fun e w' => e = .returned (.tuple #[.int .i64 V, .int .i64 0]) ∧ Below w.heap.size w w' := by
  have cd := fun w => isdec_any s true (Lib.hid hd.out.symm) (by omega) w
  have ca := fun w => Tryd.strconv_Atoi_ok s (by omega) _ ((atoi_dec hd.out).1 (by rw [← hV.out]; exact ⟨v0, v1⟩)) w
  rw [← hV.out] at ca
  go_enter Tryd.func26, Tryd.ntmps26
  go_wp2_with (first | (go_at_call 38; refine (cd _).mono ?_; rintro e w' ⟨rfl, rfl⟩) | (go_at_call 39; refine (ca _).mono ?_; rintro e w' ⟨rfl, hw⟩; have HW := Lib.hid hw; clear hw))
  go_ret2
  refine ⟨rfl, ?_⟩
  rcases HW.out with h | ⟨t, h⟩
  · rw [h]; exact Below.refl _ _
  · rw [h]; exact Lib.bytesWorld_below _ _ _

set_option maxHeartbeats 400000 in
/-- a text that is no decimal number -/
theorem parse_no (s : ByteArray) (hd : Hid (decB s.data.toList = false)) (hs : s.size ≤ 281474976710656) (w : World) :
    Calls Tryd.prog 26 #[.string s] w fun e w' => e = .returned (.tuple #[.int .i64 0, .int .i64 1]) ∧ w = w' := by
  have cd := fun w => isdec_any s false (Lib.hid hd.out.symm) (by omega) w
  go_enter Tryd.func26, Tryd.ntmps26
  go_wp2_with (go_at_call 38; refine (cd _).mono ?_; rintro e w' ⟨rfl, rfl⟩)
  go_ret2
  exact ⟨rfl, rfl⟩

set_option maxHeartbeats 1600000 in
theorem rparse_any (s : ByteArray) (V E : Int) (hV : Hid (V = prV s.data.toList)) (hE : Hid (E = prE s.data.toList)) (hs : s.size ≤ 281474976710656) (w : World) :
    Calls Tryd.prog 27 #[.string s] w fun e w' => e = .returned (.tuple #[.int .i64 V, .int .i64 E]) ∧ w = w' := by
  by_cases hd : decB s.data.toList = true
  · obtain ⟨e1, e2⟩ := pr_yes hd
    have cd := fun w => rdec_any s true (Lib.hid hd.symm) (by omega) w
    have h0 := dec_ne hd
    have hp : (0 : Int) < (s.size : Int) := by omega
    by_cases hm : ((s[0].toNat : Int) == 45) = true
    · obtain ⟨n1, n2⟩ := dec_minus hd h0 hm
      have HD : Hid (digs (s.extract 1 s.size).data.toList = true) := Lib.hid (numB_iff.1 n1).2.2
      have HB : Hid (19 < (s.extract 1 s.size).size → V = 0 ∧ E = 9) := Lib.hid fun h => by
        have := long_big n1 h
        rw [hV.out, hE.out, e1, e2, n2]
        exact ⟨fitV_lo (by omega), fitE_lo (by omega)⟩
      have HV : Hid (V = fitV (-(valN (s.extract 1 s.size).data.toList : Int)) ∧ E = fitE (-(valN (s.extract 1 s.size).data.toList : Int))) := Lib.hid (by rw [hV.out, hE.out, e1, e2, n2]; exact ⟨rfl, rfl⟩)
      have ht : (s.extract 1 s.size).size ≤ 281474976710656 := by rw [ByteArray.size_extract]; omega
      clear e1 e2 hd n1 n2 hV hE
      go_enter Tryd.func27, Tryd.ntmps27
      go_upto_region 6 with (go_at_call 40; refine (cd _).mono ?_; rintro e w' ⟨rfl, rfl⟩)
      generalize s.extract 1 s.size = t at *
      by_cases h19 : (19 : Int) < (t.size : Int)
      · obtain ⟨rfl, rfl⟩ := HB.out (by omega)
        clear HB HV
        go_wp2_with fail
        go_ret2
        exact ⟨rfl, rfl⟩
      · clear HB
        have h19' : decide ((19 : Int) < (t.size : Int)) = false := decide_eq_false h19
        go_wp2_with fail
        go_loop [5, 6] (fun s5 s6 => ∃ k v : Nat, k ≤ t.size ∧ s6 = .int .i64 (k : Int) ∧ s5 = .int .u64 (v : Int) ∧ Hid (v = valN (t.data.toList.take k))) (fun _ s6 => t.size - (intOf s6).toNat)
        case atStart => exact ⟨0, 0, Nat.zero_le _, rfl, rfl, rfl⟩
        case round =>
          obtain ⟨k, v, hk, rfl, rfl, HW⟩ := hrel
          by_cases hlt : k < t.size
          · have hd := dig_at t HD.out k hlt
            have HS := Lib.hid (valN_take t k hlt)
            have hv1 : (v : Int) < 1000000000000000000 := by
              have h1 := valN_small t HD.out k (by omega)
              have h2 := pow18 k (by omega)
              rw [← HW.out] at h1; omega
            have d0 : (48 : Int) ≤ (t[k].toNat : Int) := by omega
            have d1 : (t[k].toNat : Int) ≤ 57 := by omega
            clear hd
            go_wp2_with fail
            go_round
            case rel => exact ⟨k + 1, 10 * v + (t[k].toNat - 48), by omega, by go_num, u64_eq (by omega), by show _ = _; rw [HS.out, ← HW.out]⟩
            case measure => simp [intOf]; omega
          · have : k = t.size := by omega
            subst this
            have hv1 := valN_small t HD.out t.size (by omega)
            have hv2 := pow19 t.size (by omega)
            have e := valN_all t
            rw [e] at HW hv1
            obtain rfl := HW.out
            have cs := fun w => rsigned_neg (valN t.data.toList) (by omega) w
            rw [← HV.out.1, ← HV.out.2] at cs
            generalize valN t.data.toList = v at *
            clear hv1 hv2 e
            go_wp2_with (go_at_call 35; refine (cs _).mono ?_; rintro e w' ⟨rfl, rfl⟩)
            go_ret2
            exact ⟨rfl, rfl⟩
    · have hm' : ((s[0].toNat : Int) == 45) = false := by simpa using hm
      obtain ⟨n1, n2, n3⟩ := dec_plain hd h0 hm'
      have HD : Hid (digs s.data.toList = true) := Lib.hid n1
      have HB : Hid (19 < s.size → V = 0 ∧ E = 9) := Lib.hid fun h => by
        have := long_big (n3 (by omega)) h
        rw [hV.out, hE.out, e1, e2, n2]
        exact ⟨fitV_hi (by omega), fitE_hi (by omega)⟩
      have HV : Hid (V = fitV (valN s.data.toList : Int) ∧ E = fitE (valN s.data.toList : Int)) := Lib.hid (by rw [hV.out, hE.out, e1, e2, n2]; exact ⟨rfl, rfl⟩)
      clear e1 e2 hd n1 n2 n3 hV hE hm
      go_enter Tryd.func27, Tryd.ntmps27
      go_upto_region 6 with (go_at_call 40; refine (cd _).mono ?_; rintro e w' ⟨rfl, rfl⟩)
      by_cases h19 : (19 : Int) < (s.size : Int)
      · obtain ⟨rfl, rfl⟩ := HB.out (by omega)
        clear HB HV
        go_wp2_with fail
        go_ret2
        exact ⟨rfl, rfl⟩
      · clear HB
        have h19' : decide ((19 : Int) < (s.size : Int)) = false := decide_eq_false h19
        go_wp2_with fail
        go_loop [5, 6] (fun s5 s6 => ∃ k v : Nat, k ≤ s.size ∧ s6 = .int .i64 (k : Int) ∧ s5 = .int .u64 (v : Int) ∧ Hid (v = valN (s.data.toList.take k))) (fun _ s6 => s.size - (intOf s6).toNat)
        case atStart => exact ⟨0, 0, Nat.zero_le _, rfl, rfl, rfl⟩
        case round =>
          obtain ⟨k, v, hk, rfl, rfl, HW⟩ := hrel
          by_cases hlt : k < s.size
          · have hd := dig_at s HD.out k hlt
            have HS := Lib.hid (valN_take s k hlt)
            have hv1 : (v : Int) < 1000000000000000000 := by
              have h1 := valN_small s HD.out k (by omega)
              have h2 := pow18 k (by omega)
              rw [← HW.out] at h1; omega
            have d0 : (48 : Int) ≤ (s[k].toNat : Int) := by omega
            have d1 : (s[k].toNat : Int) ≤ 57 := by omega
            clear hd
            go_wp2_with fail
            go_round
            case rel => exact ⟨k + 1, 10 * v + (s[k].toNat - 48), by omega, by go_num, u64_eq (by omega), by show _ = _; rw [HS.out, ← HW.out]⟩
            case measure => simp [intOf]; omega
          · have : k = s.size := by omega
            subst this
            have hv1 := valN_small s HD.out s.size (by omega)
            have hv2 := pow19 s.size (by omega)
            have e := valN_all s
            rw [e] at HW hv1
            obtain rfl := HW.out
            have cs := fun w => rsigned_pos (valN s.data.toList) (by omega) w
            rw [← HV.out.1, ← HV.out.2] at cs
            generalize valN s.data.toList = v at *
            clear hv1 hv2 e
            go_wp2_with (go_at_call 35; refine (cs _).mono ?_; rintro e w' ⟨rfl, rfl⟩)
            go_ret2
            exact ⟨rfl, rfl⟩
  · have hd' : decB s.data.toList = false := by simpa using hd
    obtain ⟨e1, e2⟩ := pr_no hd'
    obtain rfl : E = 1 := by rw [hE.out, e2]
    obtain rfl : V = 0 := by rw [hV.out, e1]
    have cd := fun w => rdec_any s false (Lib.hid hd'.symm) (by omega) w
    clear hd hd' e1 e2 hV hE
    go_enter Tryd.func27, Tryd.ntmps27
    go_wp2_with (go_at_call 40; refine (cd _).mono ?_; rintro e w' ⟨rfl, rfl⟩)
    go_ret2
    exact ⟨rfl, rfl⟩
end Go.Proofs.YtfalonklnfekhaaDoor.numP

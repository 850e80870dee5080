/-
  Contracts of num.Parse and of the reference's Parse: the number and the error of every text.
-/
import Derived.Test.YtkblcnomjgocmaaDoorNumS
namespace Go.Proofs.YtkblcnomjgocmaaDoor.numP
open Go.RowKit
open Go.Proofs.YtkblcnomjgocmaaDoor.numM Go.Proofs.YtkblcnomjgocmaaDoor.numA Go.Proofs.YtkblcnomjgocmaaDoor.numB Go.Proofs.YtkblcnomjgocmaaDoor.numD Go.Proofs.YtkblcnomjgocmaaDoor.numT Go.Proofs.YtkblcnomjgocmaaDoor.numS
set_option linter.unusedVariables false

set_option maxHeartbeats 400000 in
theorem parse_any (s : ByteArray) (V E : Int) (hV : Hid (V = prV s.data.toList)) (hE : Hid (E = prE s.data.toList)) (hs : s.size ≤ 281474976710656) (tp : TypeId) (p : Value) (w : World) (hvar : w.var? Tryd.prog "strconv.ErrRange" = some #[.iface tp p]) :
    Calls Tryd.prog 43 #[.string s] w fun e w' => e = .returned (.tuple #[.int .i64 V, .int .i64 E]) ∧ Below w.heap.size w w' := by
  by_cases hd : decB s.data.toList = true
  · obtain ⟨e1, e2⟩ := pr_yes hd
    have cd := fun w => isdec_any s true (Lib.hid hd.symm) (by omega) w
    obtain ⟨a1, a2⟩ := atoi_dec hd
    rcases fitE_or (intN s.data.toList) with ⟨f1, f2, f3⟩ | ⟨f1, f2, f3⟩
    · obtain rfl : E = 0 := by rw [hE.out, e2, f1]
      have HV : Hid (V = intN s.data.toList) := Lib.hid (by rw [hV.out, e1, f2])
      have ca := fun w => Tryd.strconv_Atoi_ok s (by omega) _ (a1 f3) w
      rw [← HV.out] at ca
      clear hd e1 e2 a1 a2 f1 f2 f3 hvar
      go_enter Tryd.func43, Tryd.ntmps43
      go_wp2_with (first | (go_at_call 50; refine (cd _).mono ?_; rintro e w' ⟨rfl, rfl⟩) | (go_at_call 51; refine (ca _).mono ?_; rintro e w' ⟨rfl, hw⟩; have HW := Lib.hid hw; clear hw))
      go_ret2
      refine ⟨rfl, ?_⟩
      rcases HW.out with h | ⟨t, h⟩
      · rw [h]; exact Below.refl _ _
      · rw [h]; exact Lib.bytesWorld_below _ _ _
    · obtain rfl : E = 9 := by rw [hE.out, e2, f1]
      obtain rfl : V = 0 := by rw [hV.out, e1, f2]
      have ca := Tryd.strconv_Atoi_range_var s hs (a2 f3) tp p w hvar
      clear hd e1 e2 a1 a2 f1 f2 f3 hvar hV hE
      go_enter Tryd.func43, Tryd.ntmps43
      go_wp2_with (first | (go_at_call 50; refine (cd _).mono ?_; rintro e w' ⟨rfl, rfl⟩) | (go_at_call 51; refine ca.mono ?_; rintro e w' ⟨N, rfl, hN, hc, hb⟩))
      go_ret2
      exact ⟨rfl, hb⟩
  · have hd' : decB s.data.toList = false := by simpa using hd
    obtain ⟨e1, e2⟩ := pr_no hd'
    obtain rfl : E = 1 := by rw [hE.out, e2]
    obtain rfl : V = 0 := by rw [hV.out, e1]
    have cd := fun w => isdec_any s false (Lib.hid hd'.symm) (by omega) w
    clear hd hd' e1 e2 hV hE hvar
    go_enter Tryd.func43, Tryd.ntmps43
    go_wp2_with (go_at_call 50; refine (cd _).mono ?_; rintro e w' ⟨rfl, rfl⟩)
    go_ret2
    exact ⟨rfl, Below.refl _ _⟩

set_option maxHeartbeats 400000 in
/-- a text that says an int: no variable is read -/
theorem parse_in (s : ByteArray) (V : Int) (hd : Hid (decB s.data.toList = true)) (hV : Hid (V = intN s.data.toList)) (v0 : -9223372036854775808 ≤ V) (v1 : V ≤ 9223372036854775807) (hs : s.size ≤ 281474976710656) (w : World) :
    Calls Tryd.prog 43 #[.string s] w fun e w' => e = .returned (.tuple #[.int .i64 V, .int .i64 0]) ∧ Below w.heap.size w w' := by
  have cd := fun w => isdec_any s true (Lib.hid hd.out.symm) (by omega) w
  have ca := fun w => Tryd.strconv_Atoi_ok s (by omega) _ ((atoi_dec hd.out).1 (by rw [← hV.out]; exact ⟨v0, v1⟩)) w
  rw [← hV.out] at ca
  go_enter Tryd.func43, Tryd.ntmps43
  go_wp2_with (first | (go_at_call 50; refine (cd _).mono ?_; rintro e w' ⟨rfl, rfl⟩) | (go_at_call 51; refine (ca _).mono ?_; rintro e w' ⟨rfl, hw⟩; have HW := Lib.hid hw; clear hw))
  go_ret2
  refine ⟨rfl, ?_⟩
  rcases HW.out with h | ⟨t, h⟩
  · rw [h]; exact Below.refl _ _
  · rw [h]; exact Lib.bytesWorld_below _ _ _

set_option maxHeartbeats 400000 in
/-- a text that is no decimal number -/
theorem parse_no (s : ByteArray) (hd : Hid (decB s.data.toList = false)) (hs : s.size ≤ 281474976710656) (w : World) :
    Calls Tryd.prog 43 #[.string s] w fun e w' => e = .returned (.tuple #[.int .i64 0, .int .i64 1]) ∧ w = w' := by
  have cd := fun w => isdec_any s false (Lib.hid hd.out.symm) (by omega) w
  go_enter Tryd.func43, Tryd.ntmps43
  go_wp2_with (go_at_call 50; refine (cd _).mono ?_; rintro e w' ⟨rfl, rfl⟩)
  go_ret2
  exact ⟨rfl, rfl⟩

end Go.Proofs.YtkblcnomjgocmaaDoor.numP

/-
  The reference's Same, Cmp, Of, Uint; Of and Uint of nat.
-/
import Derived.Test.YtinceponggpioaaDoorNatW
namespace Go.Proofs.YtinceponggpioaaDoor.natX
open Go.RowKit
open Go.Proofs.YtinceponggpioaaDoor.natM Go.Proofs.YtinceponggpioaaDoor.natA Go.Proofs.YtinceponggpioaaDoor.natB Go.Proofs.YtinceponggpioaaDoor.natC Go.Proofs.YtinceponggpioaaDoor.natD Go.Proofs.YtinceponggpioaaDoor.natE Go.Proofs.YtinceponggpioaaDoor.natF Go.Proofs.YtinceponggpioaaDoor.natG Go.Proofs.YtinceponggpioaaDoor.natH Go.Proofs.YtinceponggpioaaDoor.natI Go.Proofs.YtinceponggpioaaDoor.natJ Go.Proofs.YtinceponggpioaaDoor.natR Go.Proofs.YtinceponggpioaaDoor.natS Go.Proofs.YtinceponggpioaaDoor.natT Go.Proofs.YtinceponggpioaaDoor.natU Go.Proofs.YtinceponggpioaaDoor.natV Go.Proofs.YtinceponggpioaaDoor.natW
set_option linter.unusedVariables false

theorem cel_drew {K : IntKind} {w : World} {A : Option Addr} {zs : List Nat} (h : Cel K w A zs) : Cel K w.drew A zs := h
theorem bx_drew {w : World} {b : Nat} {v : Value} (h : Bx w b v) : Bx w.drew b v := h
theorem bel_drew {B : Nat} {a w : World} (h : Below B a w) : Below B a w.drew := ⟨h.os, h.tape, h.output, h.size, h.block⟩
/-! ### Same -/
/-! ### Cmp of the reference -/
theorem half_len {n X : Nat} (hX : X < 4294967296 ^ n) (hn : n ≤ 64) : nlen 65536 X ≤ 128 := Nat.le_trans (nlen_le (by omega) (show X < 65536 ^ (2 * n) by rw [← half_pow]; exact hX)) (by omega)

set_option maxRecDepth 4000 in
set_option maxHeartbeats 4000000 in
theorem rcmpx_any (A D : Option Addr) (n c m d X Y : Nat) (C : Int) (hX : Hid (X < 4294967296 ^ n)) (hY : Hid (Y < 4294967296 ^ m)) (hn : n ≤ 9223372036854775807) (hm : m ≤ 9223372036854775807) (hC : Hid (C = cmpV n X m Y))
    (w : World) (hI : Cel .u32 w A (dg 4294967296 n X)) (hJ : Cel .u32 w D (dg 4294967296 m Y)) :
    Calls Tryd.prog 43 #[.agg #[.slice A n c], .agg #[.slice D m d]] w fun e w' => e = .returned (.int .i64 C) ∧ Below w.heap.size w w' := by
  have HI := Lib.hid hI
  have HJ := Lib.hid hJ
  clear hI hJ
  cases ha : valB n X with
  | false =>
    obtain rfl := hC.out.trans (cmpV_a ha)
    have cv := fun w hI => rvalid_any A n c X false hX (Lib.hid ha.symm) hn w hI
    clear ha hC
    go_enter Tryd.func43, Tryd.ntmps43
    go_wp2_with (go_at_call 36; refine (cv _ (cel_two HI.out _ _)).mono ?_; rintro e w1 ⟨rfl, hb1⟩; have HB1 := Lib.hid hb1; clear hb1)
    go_ret
    exact ⟨rfl, below_on (below_two _ _ _) HB1.out⟩
  | true =>
    have cv := fun w hI => rvalid_any A n c X true hX (Lib.hid ha.symm) hn w hI
    have HA := Lib.hid ha
    clear ha
    cases hb : valB m Y with
    | false =>
      obtain rfl := hC.out.trans (cmpV_b hb)
      have cu := fun w hI => rvalid_any D m d Y false hY (Lib.hid hb.symm) hm w hI
      clear hb hC
      go_enter Tryd.func43, Tryd.ntmps43
      go_wp2_with (go_at_call 36; first
        | ((with_reducible refine (cv _ (cel_two HI.out _ _)).mono ?_); rintro e w1 ⟨rfl, hb1⟩; have HB1 := Lib.hid hb1; have HJ1 := Lib.hid ((cel_two HJ.out _ _).below hb1); have XB := Lib.hid ((bx2 _ _ _ _ _).2.below hb1); have xb := XB.out.cell; clear hb1)
        | ((with_reducible refine (cu _ HJ1.out).mono ?_); rintro e w2 ⟨rfl, hb2⟩; have HB2 := Lib.hid hb2; clear hb2))
      go_ret
      exact ⟨rfl, below_on (below_on (below_two _ _ _) HB1.out) HB2.out⟩
    | true =>
      have hC2 : Hid (C = cmpI X Y) := Lib.hid (hC.out.trans (cmpV_ok HA.out hb))
      have cu := fun w hI => rvalid_any D m d Y true hY (Lib.hid hb.symm) hm w hI
      have hn64 : n ≤ 64 := (valB_iff.1 HA.out).1
      have hm64 : m ≤ 64 := (valB_iff.1 hb).1
      have LX : Hid (nlen 65536 X ≤ 128) := Lib.hid (half_len hX.out hn64)
      have LY : Hid (nlen 65536 Y ≤ 128) := Lib.hid (half_len hY.out hm64)
      clear hb hC
      go_enter Tryd.func43, Tryd.ntmps43
      go_wp2_with (go_at_call 36; first
          | ((with_reducible refine (cv _ (cel_two HI.out _ _)).mono ?_); rintro e w1 ⟨rfl, hb1⟩; have HB1 := Lib.hid hb1; have HI1 := Lib.hid ((cel_two HI.out _ _).below hb1); have HJ1 := Lib.hid ((cel_two HJ.out _ _).below hb1); have XA := Lib.hid ((bx2 _ _ _ _ _).1.below hb1); have XB := Lib.hid ((bx2 _ _ _ _ _).2.below hb1); have xb := XB.out.cell; clear hb1)
          | ((with_reducible refine (cu _ HJ1.out).mono ?_); rintro e w2 ⟨rfl, hb2⟩; have HB2 := Lib.hid hb2; have HI2 := Lib.hid (HI1.out.below hb2); have HJ2 := Lib.hid (HJ1.out.below hb2); have XA2 := Lib.hid (XA.out.below hb2); have XB2 := Lib.hid (XB.out.below hb2); have xa2 := XA2.out.cell; have xb2 := XB2.out.cell; clear hb2))
      have ch1 := Lib.hid (halves_any A n c X hX (by omega) w2.drew (cel_drew HI2.out))
      clear cv cu XA XB xb
      go_region_held3 (fun w' => w'.cell? ⟨w.heap.size, 0, none⟩ = some (.slice A n c) ∧ w'.cell? ⟨w.heap.size + 1, 0, none⟩ = some (.slice D m d)) (go_keep)
        (first
          | (go_at_call 62; first
            | ((with_reducible refine ch1.out.mono ?_); rintro e w3 ⟨A3, n3, c3, rfl, hh, _, hb3⟩; have H3 := Lib.hid hh; have B3 := Lib.hid hb3; have J3 := Lib.hid ((cel_drew HJ2.out).below hb3); have xa3 := ((bx_drew XA2.out).below hb3).cell; have xb3 := ((bx_drew XB2.out).below hb3).cell; have XA3 := Lib.hid ((bx_drew XA2.out).below hb3); have XB3 := Lib.hid ((bx_drew XB2.out).below hb3); clear hh hb3)
            | ((with_reducible refine (halves_any D m d Y hY (by omega) w3 J3.out).mono ?_); rintro e w4 ⟨A4, n4, c4, rfl, hh, _, hb4⟩; have H4 := Lib.hid hh; have B4 := Lib.hid hb4; have H34 := Lib.hid (H3.out.below hb4); have xa4 := (XA3.out.below hb4).cell; have xb4 := (XB3.out.below hb4).cell; have XA4 := Lib.hid (XA3.out.below hb4); have XB4 := Lib.hid (XB3.out.below hb4); clear hh hb4))
          | (go_at_call 64; (with_reducible refine (rcmp_any A3 A4 n3 c3 n4 c4 X Y C (Lib.hid H3.out.lt) (Lib.hid H4.out.lt) ⟨(hal_len H3.out).symm, (hal_len H4.out).symm⟩ hC2 (by rw [hal_len H3.out]; have := LX.out; omega) (by rw [hal_len H4.out]; have := LY.out; omega) w4 (hal_cel H34.out) (hal_cel H4.out)).mono ?_); rintro e w5 ⟨rfl, kk, rfl⟩; have xa5 := (XA4.out.drewN kk).cell; have xb5 := (XB4.out.drewN kk).cell))
      go_wp2_with fail
      go_ret
      exact ⟨rfl, bel_drewN (below_on (below_on (bel_drew (below_on (below_on (below_two _ _ _) HB1.out) HB2.out)) B3.out) B4.out) _⟩
end Go.Proofs.YtinceponggpioaaDoor.natX

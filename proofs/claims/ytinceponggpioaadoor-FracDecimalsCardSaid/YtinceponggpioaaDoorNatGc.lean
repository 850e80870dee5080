/-
  The reference's GCD: halves and differences.
-/
import Derived.Test.YtinceponggpioaaDoorNatDm
namespace Go.Proofs.YtinceponggpioaaDoor.natGc
open Go.RowKit
open Go.Proofs.YtinceponggpioaaDoor.natM Go.Proofs.YtinceponggpioaaDoor.natA Go.Proofs.YtinceponggpioaaDoor.natB Go.Proofs.YtinceponggpioaaDoor.natC Go.Proofs.YtinceponggpioaaDoor.natD Go.Proofs.YtinceponggpioaaDoor.natE Go.Proofs.YtinceponggpioaaDoor.natF Go.Proofs.YtinceponggpioaaDoor.natG Go.Proofs.YtinceponggpioaaDoor.natH Go.Proofs.YtinceponggpioaaDoor.natI Go.Proofs.YtinceponggpioaaDoor.natJ Go.Proofs.YtinceponggpioaaDoor.natR Go.Proofs.YtinceponggpioaaDoor.natS Go.Proofs.YtinceponggpioaaDoor.natT Go.Proofs.YtinceponggpioaaDoor.natU Go.Proofs.YtinceponggpioaaDoor.natV Go.Proofs.YtinceponggpioaaDoor.natW Go.Proofs.YtinceponggpioaaDoor.natX Go.Proofs.YtinceponggpioaaDoor.natY
set_option linter.unusedVariables false

/-! ### the steps -/
theorem gcd_both {x y t G : Nat} (hx : x % 2 = 0) (hy : y % 2 = 0) (h : Nat.gcd x y * 2 ^ t = G) : Nat.gcd (x / 2) (y / 2) * 2 ^ (t + 1) = G := by
  have ex : x = 2 * (x / 2) := by omega
  have ey : y = 2 * (y / 2) := by omega
  rw [ex, ey, Nat.gcd_mul_left] at h
  rw [Nat.pow_succ, ← h, Nat.mul_comm (2 ^ t) 2, ← Nat.mul_assoc, Nat.mul_comm (Nat.gcd _ _) 2]
theorem gcd_left {x y : Nat} (hx : x % 2 = 0) (hy : y % 2 = 1) : Nat.gcd (x / 2) y = Nat.gcd x y := by
  have ex : x = 2 * (x / 2) := by omega
  have hc : Nat.Coprime 2 y := by
    rw [Nat.coprime_iff_gcd_eq_one, Nat.gcd_rec, hy]; rfl
  conv => rhs; rw [ex]
  exact (Nat.Coprime.gcd_mul_left_cancel (x / 2) hc).symm
theorem gcd_right {x y : Nat} (hx : x % 2 = 1) (hy : y % 2 = 0) : Nat.gcd x (y / 2) = Nat.gcd x y := by
  rw [Nat.gcd_comm, gcd_left hy hx, Nat.gcd_comm]
theorem gcd_diff {x y : Nat} (h : y ≤ x) : Nat.gcd (x - y) y = Nat.gcd x y := by
  have := Nat.gcd_sub_self_left h
  exact this
theorem gcd_pow_le {x y t X Y : Nat} (hx : 0 < x) (hxX : x ≤ X) (h : Nat.gcd x y * 2 ^ t = Nat.gcd X Y) : 2 ^ t ≤ X := by
  have h1 : 0 < Nat.gcd x y := Nat.gcd_pos_of_pos_left _ hx
  have h2 : 2 ^ t ≤ Nat.gcd x y * 2 ^ t := Nat.le_mul_of_pos_left _ h1
  have h3 : Nat.gcd X Y ≤ X := Nat.gcd_le_left _ (by omega)
  omega
theorem pow_lt_of {t n X : Nat} (h : 2 ^ t ≤ X) (hX : X < 4294967296 ^ n) (hn : n ≤ 64) : t < 2048 := by
  have e : (4294967296 : Nat) ^ n = 2 ^ (32 * n) := by rw [Nat.pow_mul]
  rw [e] at hX
  have h2 : 2 ^ t < 2 ^ (32 * n) := by omega
  have := (Nat.pow_lt_pow_iff_right (show 1 < 2 by omega)).1 h2
  omega
theorem low_bit {x : Nat} : x / 65536 ^ 0 % 65536 % 2 = x % 2 := by rw [Nat.pow_zero, Nat.div_one]; omega
theorem hal_low {w : World} {A : Option Addr} {n c v : Nat} (h : Hal w A n c v) (hv : 0 < v) : ∃ b off, A = some ⟨b, off, none⟩ ∧ w.cell? ⟨b, off, none⟩ = some (.int .i64 ((v % 65536 : Nat) : Int)) ∧ 0 < n := by
  have hp := nlen_pos (B := 65536) (by omega) hv
  have hn : 0 < n := by rw [h.1]; exact hp
  obtain ⟨b, off, e, hc⟩ := h.2.2.at_ (k := 0) (by rw [dg_len]; exact hn)
  rw [dg_at hn, Nat.pow_zero, Nat.div_one, Nat.add_zero] at hc
  exact ⟨b, off, e, hc, hn⟩

theorem hal_drewN {w : World} {A : Option Addr} {n c v : Nat} (h : Hal w A n c v) (k : Nat) : Hal (w.drewN k) A n c v := h
set_option maxRecDepth 4000 in
set_option maxHeartbeats 1000000 in
theorem rgcd_no1 (A D : Option Addr) (n c m d X : Nat) (hX : Hid (X < 4294967296 ^ n)) (hn : n ≤ 9223372036854775807) (ha : Hid (false = valB n X)) (w : World) (hI : Cel .u32 w A (dg 4294967296 n X)) :
    Calls Tryd.prog 42 #[.agg #[.slice A n c], .agg #[.slice D m d]] w (ResP 0 2 w) := by
  have HI := Lib.hid hI
  clear hI
  have cv := fun w hI => rvalid_any A n c X false hX ha hn w hI
  go_enter Tryd.func42, Tryd.ntmps42
  go_wp2_with (go_at_call 36; refine (cv _ (cel_three HI.out _ _ _)).mono ?_; rintro e w1 ⟨rfl, hb1⟩; have HB1 := Lib.hid (below_on (below_three _ _ _ _) hb1); have XR := Lib.hid ((bx3 _ _ _ _ _ _ _).2.2.below hb1); have xr := XR.out.cell; have fr := XR.out.free; clear hb1)
  have xs := set_same XR.out
  refine bodyPost_ret (v := .tuple #[.agg #[.slice none 0 0], .int .i64 2]) (by simp [results, Tryd.results42, go_sem, xs]) rfl ?_
  exact ⟨none, 0, 0, rfl, Num.nil _, HB1.out.setCell (by simp; omega) _⟩
set_option maxRecDepth 4000 in
set_option maxHeartbeats 1000000 in
theorem rgcd_no2 (A D : Option Addr) (n c m d X Y : Nat) (hX : Hid (X < 4294967296 ^ n)) (hY : Hid (Y < 4294967296 ^ m)) (hn : n ≤ 9223372036854775807) (hm : m ≤ 9223372036854775807) (ha : Hid (true = valB n X)) (hb : Hid (false = valB m Y)) (w : World) (hI : Cel .u32 w A (dg 4294967296 n X)) (hJ : Cel .u32 w D (dg 4294967296 m Y)) :
    Calls Tryd.prog 42 #[.agg #[.slice A n c], .agg #[.slice D m d]] w (ResP 0 2 w) := by
  have HI := Lib.hid hI
  have HJ := Lib.hid hJ
  clear hI hJ
  have cv := fun w hI => rvalid_any A n c X true hX ha hn w hI
  have cu := fun w hI => rvalid_any D m d Y false hY hb hm w hI
  go_enter Tryd.func42, Tryd.ntmps42
  go_wp2_with (go_at_call 36; first
    | ((with_reducible refine (cv _ (cel_three HI.out _ _ _)).mono ?_); rintro e w1 ⟨rfl, hb1⟩; have HB1 := Lib.hid (below_on (below_three _ _ _ _) hb1); have HJ1 := Lib.hid ((cel_three HJ.out _ _ _).below hb1); have XR := Lib.hid ((bx3 _ _ _ _ _ _ _).2.2.below hb1); have xb := ((bx3 _ _ _ _ _ _ _).2.1.below hb1).cell; clear hb1)
    | ((with_reducible refine (cu _ HJ1.out).mono ?_); rintro e w2 ⟨rfl, hb2⟩; have HB2 := Lib.hid (below_on HB1.out hb2); have XR2 := Lib.hid (XR.out.below hb2); have xr := XR2.out.cell; have fr := XR2.out.free; clear hb2))
  have xs := set_same XR2.out
  refine bodyPost_ret (v := .tuple #[.agg #[.slice none 0 0], .int .i64 2]) (by simp [results, Tryd.results42, go_sem, xs]) rfl ?_
  exact ⟨none, 0, 0, rfl, Num.nil _, HB2.out.setCell (by simp; omega) _⟩
set_option maxRecDepth 4000 in
set_option maxHeartbeats 16000000 in
theorem rgcd_yes (A D : Option Addr) (n c m d X Y : Nat) (hX : Hid (X < 4294967296 ^ n)) (hY : Hid (Y < 4294967296 ^ m)) (ha : Hid (true = valB n X)) (hb : Hid (true = valB m Y)) (w : World) (hI : Cel .u32 w A (dg 4294967296 n X)) (hJ : Cel .u32 w D (dg 4294967296 m Y)) :
    Calls Tryd.prog 42 #[.agg #[.slice A n c], .agg #[.slice D m d]] w (ResP (Nat.gcd X Y) 0 w) := by
  have hn64 : n ≤ 64 := (valB_iff.1 ha.out.symm).1
  have hm64 : m ≤ 64 := (valB_iff.1 hb.out.symm).1
  have HI := Lib.hid hI
  have HJ := Lib.hid hJ
  clear hI hJ
  have cv := fun w hI => rvalid_any A n c X true hX ha (by omega) w hI
  have cu := fun w hI => rvalid_any D m d Y true hY hb (by omega) w hI
  have LX : Hid (nlen 65536 X ≤ 128) := Lib.hid (half_len hX.out hn64)
  have LY : Hid (nlen 65536 Y ≤ 128) := Lib.hid (half_len hY.out hm64)
  have KX : Hid (nlen 4294967296 X ≤ 64) := Lib.hid (by rw [(valB_iff.1 ha.out.symm).2]; exact hn64)
  have KY : Hid (nlen 4294967296 Y ≤ 64) := Lib.hid (by rw [(valB_iff.1 hb.out.symm).2]; exact hm64)
  go_enter Tryd.func42, Tryd.ntmps42
  go_wp2_with (first
    | (go_at_call 36; first
      | ((with_reducible refine (cv _ (cel_three HI.out _ _ _)).mono ?_); rintro e w1 ⟨rfl, hb1⟩; have S1 := Lib.hid ((St.start3 HI.out HJ.out).below hb1); have xb := S1.out.xb; clear hb1)
      | ((with_reducible refine (cu _ S1.out.cJ).mono ?_); rintro e w2 ⟨rfl, hb2⟩; have S2 := Lib.hid (S1.out.below hb2); have xa2 := S2.out.xa; have xb2 := S2.out.xb; clear hb2))
    | (go_at_call 62; first
        | ((with_reducible refine (halves_any A n c X hX (by omega) w2 S2.out.cI).mono ?_); rintro e w3 ⟨A3, n3, c3, rfl, hh, _, hb3⟩; have H3 := Lib.hid hh; have S3 := Lib.hid (S2.out.below hb3); have xa3 := S3.out.xa; have xb3 := S3.out.xb; clear hh hb3)
        | ((with_reducible refine (halves_any D m d Y hY (by omega) w3 S3.out.cJ).mono ?_); rintro e w4 ⟨A4, n4, c4, rfl, hh, _, hb4⟩; have H4 := Lib.hid hh; have H34 := Lib.hid (H3.out.below hb4); have S4 := Lib.hid (S3.out.below hb4); clear hh hb4)))
  clear cv cu S1 xb xa2 xb2 xa3 xb3
  go_loopg [6, 7, 8] (X + Y) (fun k s6 s7 s8 wr => ∃ (x y t : Nat) (A1 : Option Addr) (n1 c1 : Nat) (A2 : Option Addr) (n2 c2 : Nat), x + y = k ∧ s6 = .slice A1 n1 c1 ∧ s7 = .slice A2 n2 c2 ∧ s8 = .int .i64 (t : Int) ∧ t ≤ 2048 ∧
      Hid (Hal wr A1 n1 c1 x) ∧ Hid (Hal wr A2 n2 c2 y) ∧ Hid (x ≤ X) ∧ Hid (y ≤ Y) ∧ Hid (Nat.gcd x y * 2 ^ t = Nat.gcd X Y) ∧ Hid (St w A D n c m d X Y wr))
  case atStart => exact ⟨X, Y, 0, A3, n3, c3, A4, n4, c4, rfl, rfl, rfl, rfl, by omega, H34, H4, Lib.hid (Nat.le_refl _), Lib.hid (Nat.le_refl _), Lib.hid (by rw [Nat.pow_zero, Nat.mul_one]), S4⟩
  case round =>
    clear H34 H4 S4 H3
    obtain ⟨x, y, t, A1, n1, c1, A2, n2, c2, hk, rfl, rfl, rfl, ht, h1, h2, hxX, hyY, hg, hS⟩ := hrel
    have l1 : Hid (n1 ≤ 128) := Lib.hid (by rw [hal_len h1.out]; exact Nat.le_trans (nlen_mono (by omega) hxX.out) LX.out)
    have l2 : Hid (n2 ≤ 128) := Lib.hid (by rw [hal_len h2.out]; exact Nat.le_trans (nlen_mono (by omega) hyY.out) LY.out)
    have hk' := Lib.hid hk
    clear hk
    by_cases hpos : 0 < x ∧ 0 < y
    · obtain ⟨px, py⟩ := hpos
      obtain ⟨b1, o1, rfl, e1, p1⟩ := hal_low h1.out px
      obtain ⟨b2, o2, rfl, e2, p2⟩ := hal_low h2.out py
      have ht2 : t + 1 ≤ 2048 := pow_lt_of (gcd_pow_le px hxX.out hg.out) hX.out hn64
      obtain ⟨xl, hxl⟩ : ∃ xl, xl = x % 65536 := ⟨_, rfl⟩
      obtain ⟨yl, hyl⟩ : ∃ yl, yl = y % 65536 := ⟨_, rfl⟩
      rw [← hxl] at e1
      rw [← hyl] at e2
      have px' := Lib.hid px
      have py' := Lib.hid py
      have q1 : (0 : Int) < (n1 : Int) := by omega
      have q2 : (0 : Int) < (n2 : Int) := by omega
      have d1 : decide (0 < n1) = true := by simpa using p1
      have d2 : decide (0 < n2) = true := by simpa using p2
      by_cases ex : x % 2 = 0
      · have m1 : (xl : Int) % 2 = 0 := by omega
        by_cases ey : y % 2 = 0
        · have m2 : (yl : Int) % 2 = 0 := by omega
          have HG : Hid (Nat.gcd (x / 2) (y / 2) * 2 ^ (t + 1) = Nat.gcd X Y) := Lib.hid (gcd_both ex ey hg.out)
          have HM : Hid (x / 2 + y / 2 < x + y ∧ x / 2 ≤ X ∧ y / 2 ≤ Y) := Lib.hid (by have := hxX.out; have := hyY.out; omega)
          clear ex ey hxl hyl px py
          go_wp2_with (go_at_call 63; first
            | ((with_reducible refine (rhalf_any (some ⟨b1, o1, none⟩) n1 c1 x (Lib.hid h1.out.lt) (by have := l1.out; omega) wr (hal_cel h1.out)).mono ?_); rintro e w5 ⟨A5, n5, c5, rfl, hh, _, hb5⟩; have H5 := Lib.hid hh; have S5 := Lib.hid (hS.out.below hb5); have H25 := Lib.hid (h2.out.below hb5); clear hh hb5)
            | ((with_reducible refine (rhalf_any (some ⟨b2, o2, none⟩) n2 c2 y (Lib.hid h2.out.lt) (by have := l2.out; omega) w5 (hal_cel H25.out)).mono ?_); rintro e w6 ⟨A6, n6, c6, rfl, hh, _, hb6⟩; have H6 := Lib.hid hh; have S6 := Lib.hid (S5.out.below hb6); have H56 := Lib.hid (H5.out.below hb6); clear hh hb6))
          go_roundg (x / 2 + y / 2)
          case measure => have := HM.out.1; have := hk'.out; omega
          case rel => exact ⟨x / 2, y / 2, t + 1, A5, n5, c5, A6, n6, c6, rfl, rfl, rfl, by go_num, ht2, H56, H6, Lib.hid HM.out.2.1, Lib.hid HM.out.2.2, HG, S6⟩
        · have m2 : (yl : Int) % 2 = 1 := by omega
          have HG : Hid (Nat.gcd (x / 2) y * 2 ^ t = Nat.gcd X Y) := Lib.hid (by rw [gcd_left ex (by omega)]; exact hg.out)
          have HM : Hid (x / 2 + y < x + y ∧ x / 2 ≤ X) := Lib.hid (by have := hxX.out; omega)
          clear ex ey hxl hyl px py
          go_wp2_with (go_at_call 63; (with_reducible refine (rhalf_any (some ⟨b1, o1, none⟩) n1 c1 x (Lib.hid h1.out.lt) (by have := l1.out; omega) wr (hal_cel h1.out)).mono ?_); rintro e w5 ⟨A5, n5, c5, rfl, hh, _, hb5⟩; have H5 := Lib.hid hh; have S5 := Lib.hid (hS.out.below hb5); have H25 := Lib.hid (h2.out.below hb5); clear hh hb5)
          go_roundg (x / 2 + y)
          case measure => have := HM.out.1; have := hk'.out; omega
          case rel => exact ⟨x / 2, y, t, A5, n5, c5, _, n2, c2, rfl, rfl, rfl, rfl, ht, H5, H25, Lib.hid HM.out.2, hyY, HG, S5⟩
      · have m1 : (xl : Int) % 2 = 1 := by omega
        by_cases ey : y % 2 = 0
        · have m2 : (yl : Int) % 2 = 0 := by omega
          have HG : Hid (Nat.gcd x (y / 2) * 2 ^ t = Nat.gcd X Y) := Lib.hid (by rw [gcd_right (by omega) ey]; exact hg.out)
          have HM : Hid (x + y / 2 < x + y ∧ y / 2 ≤ Y) := Lib.hid (by have := hyY.out; omega)
          clear ex ey hxl hyl px py
          go_wp2_with (go_at_call 63; (with_reducible refine (rhalf_any (some ⟨b2, o2, none⟩) n2 c2 y (Lib.hid h2.out.lt) (by have := l2.out; omega) wr (hal_cel h2.out)).mono ?_); rintro e w5 ⟨A5, n5, c5, rfl, hh, _, hb5⟩; have H5 := Lib.hid hh; have S5 := Lib.hid (hS.out.below hb5); have H15 := Lib.hid (h1.out.below hb5); clear hh hb5)
          go_roundg (x + y / 2)
          case measure => have := HM.out.1; have := hk'.out; omega
          case rel => exact ⟨x, y / 2, t, _, n1, c1, A5, n5, c5, rfl, rfl, rfl, rfl, ht, H15, H5, hxX, Lib.hid HM.out.2, HG, S5⟩
        · have m2 : (yl : Int) % 2 = 1 := by omega
          by_cases hc : y ≤ x
          · obtain ⟨C, hC, hC0⟩ : ∃ C, Hid (C = cmpI x y) ∧ 0 ≤ C := ⟨cmpI x y, rfl, by unfold cmpI; rw [if_neg (by omega)]; split <;> omega⟩
            have HG : Hid (Nat.gcd (x - y) y * 2 ^ t = Nat.gcd X Y) := Lib.hid (by rw [gcd_diff hc]; exact hg.out)
            have HM : Hid (x - y + y < x + y ∧ x - y ≤ X) := Lib.hid (by have := hxX.out; omega)
            have HC := Lib.hid hc
            clear ex ey hxl hyl px py hc
            go_wp2_with (first
              | (go_at_call 64; (with_reducible refine (rcmp_any (some ⟨b1, o1, none⟩) (some ⟨b2, o2, none⟩) n1 c1 n2 c2 x y C (Lib.hid h1.out.lt) (Lib.hid h2.out.lt) ⟨(hal_len h1.out).symm, (hal_len h2.out).symm⟩ hC (by have := l1.out; omega) (by have := l2.out; omega) wr (hal_cel h1.out) (hal_cel h2.out)).mono ?_); rintro e w' ⟨rfl, kk, rfl⟩)
              | (go_at_call 65; (with_reducible refine (rsub_any (some ⟨b1, o1, none⟩) (some ⟨b2, o2, none⟩) n1 c1 n2 c2 x y (Lib.hid h1.out.lt) (Lib.hid h2.out.lt) HC (by have := l1.out; omega) (by have := l2.out; omega) _ ((hal_cel h1.out).drewN kk) ((hal_cel h2.out).drewN kk)).mono ?_); rintro e w5 ⟨A5, n5, c5, rfl, hh, _, hb5⟩; have H5 := Lib.hid hh; have S5 := Lib.hid ((hS.out.drewN kk).below hb5); have H25 := Lib.hid ((hal_drewN h2.out kk).below hb5); clear hh hb5))
            go_roundg (x - y + y)
            case measure => have := HM.out.1; have := hk'.out; omega
            case rel => exact ⟨x - y, y, t, A5, n5, c5, _, n2, c2, rfl, rfl, rfl, rfl, ht, H5, H25, Lib.hid HM.out.2, hyY, HG, S5⟩
          · obtain ⟨C, hC, hC0⟩ : ∃ C, Hid (C = cmpI x y) ∧ C < 0 := ⟨-1, Lib.hid (cmpI_lt (by omega)).symm, by omega⟩
            have HG : Hid (Nat.gcd x (y - x) * 2 ^ t = Nat.gcd X Y) := Lib.hid (by rw [Nat.gcd_comm, gcd_diff (by omega), Nat.gcd_comm]; exact hg.out)
            have HM : Hid (x + (y - x) < x + y ∧ y - x ≤ Y) := Lib.hid (by have := hyY.out; omega)
            have HC : Hid (x ≤ y) := Lib.hid (by omega)
            clear ex ey hxl hyl px py hc
            go_wp2_with (first
              | (go_at_call 64; (with_reducible refine (rcmp_any (some ⟨b1, o1, none⟩) (some ⟨b2, o2, none⟩) n1 c1 n2 c2 x y C (Lib.hid h1.out.lt) (Lib.hid h2.out.lt) ⟨(hal_len h1.out).symm, (hal_len h2.out).symm⟩ hC (by have := l1.out; omega) (by have := l2.out; omega) wr (hal_cel h1.out) (hal_cel h2.out)).mono ?_); rintro e w' ⟨rfl, kk, rfl⟩)
              | (go_at_call 65; (with_reducible refine (rsub_any (some ⟨b2, o2, none⟩) (some ⟨b1, o1, none⟩) n2 c2 n1 c1 y x (Lib.hid h2.out.lt) (Lib.hid h1.out.lt) HC (by have := l2.out; omega) (by have := l1.out; omega) _ ((hal_cel h2.out).drewN kk) ((hal_cel h1.out).drewN kk)).mono ?_); rintro e w5 ⟨A5, n5, c5, rfl, hh, _, hb5⟩; have H5 := Lib.hid hh; have S5 := Lib.hid ((hS.out.drewN kk).below hb5); have H15 := Lib.hid ((hal_drewN h1.out kk).below hb5); clear hh hb5))
            go_roundg (x + (y - x))
            case measure => have := HM.out.1; have := hk'.out; omega
            case rel => exact ⟨x, y - x, t, _, n1, c1, A5, n5, c5, rfl, rfl, rfl, rfl, ht, H15, H5, hxX, Lib.hid HM.out.2, HG, S5⟩
    · obtain ⟨G, hG⟩ : ∃ G, G = x + y := ⟨_, rfl⟩
      have HGT : Hid (G * 2 ^ t = Nat.gcd X Y) := Lib.hid (by
        rw [← hg.out, hG]; congr 1
        rcases Nat.eq_zero_or_pos x with h | h
        · subst h; rw [Nat.gcd_zero_left, Nat.zero_add]
        · have : y = 0 := by omega
          subst this; rw [Nat.gcd_zero_right, Nat.add_zero])
      have HLG : Hid (nlen 65536 (Nat.gcd X Y) ≤ 128 ∧ nlen 4294967296 (Nat.gcd X Y) ≤ 64) := Lib.hid (by
        rcases Nat.eq_zero_or_pos X with h | h
        · rw [h, Nat.gcd_zero_left]; exact ⟨LY.out, KY.out⟩
        · exact ⟨Nat.le_trans (nlen_mono (by omega) (Nat.gcd_le_left _ h)) LX.out, Nat.le_trans (nlen_mono (by omega) (Nat.gcd_le_left _ h)) KX.out⟩)
      have hends : (n1 = 0) ∨ (0 < n1 ∧ n2 = 0) := by
        rcases Nat.eq_zero_or_pos x with h | h
        · left; rw [hal_len h1.out, h, nlen_zero]
        · right
          have : y = 0 := by omega
          refine ⟨?_, ?_⟩
          · rw [hal_len h1.out]; exact nlen_pos (by omega) h
          · rw [hal_len h2.out, this, nlen_zero]
      have HG0 := Lib.hid hG
      clear hpos hG
      rcases hends with q | ⟨q, q2⟩
      · have t1 : decide (0 < n1) = false := by simp; omega
        have t1' : ¬ (0 : Int) < (n1 : Int) := by omega
        clear q
        go_wp2_with (go_at_call 66; (with_reducible refine (radd_any A1 A2 n1 c1 n2 c2 x y (Lib.hid h1.out.lt) (Lib.hid h2.out.lt) (by have := l1.out; omega) (by have := l2.out; omega) wr (hal_cel h1.out) (hal_cel h2.out)).mono ?_); rintro e w5 ⟨A5, n5, c5, rfl, hh, _, hb5⟩; rw [← HG0.out] at hh; have H5 := Lib.hid hh; have S5 := Lib.hid (hS.out.below hb5); clear hh hb5)
        go_loopw [9, 10] (fun l i wr => ∃ (k : Nat) (A5 : Option Addr) (n5 c5 : Nat), k ≤ t ∧ i = .int .i64 (k : Int) ∧ l = .slice A5 n5 c5 ∧ Hid (Hal wr A5 n5 c5 (G * 2 ^ k)) ∧ Hid (St w A D n c m d X Y wr)) (fun _ i _ => t - (intOf i).toNat)
        case atStart => exact ⟨0, A5, n5, c5, by omega, rfl, rfl, Lib.hid (by rw [Nat.pow_zero, Nat.mul_one]; exact H5.out), S5⟩
        case round =>
          clear H5 S5
          obtain ⟨k, A6, n6, c6, hk, rfl, rfl, H6, S6⟩ := hrel
          have hle : Hid (G * 2 ^ k ≤ Nat.gcd X Y) := Lib.hid (by rw [← HGT.out]; exact Nat.mul_le_mul_left _ (Nat.pow_le_pow_right (by omega) hk))
          have l6 : Hid (n6 ≤ 128) := Lib.hid (by rw [hal_len H6.out]; exact Nat.le_trans (nlen_mono (by omega) hle.out) HLG.out.1)
          by_cases hlt : k < t
          · go_wp2_with (go_at_call 66; (with_reducible refine (radd_any A6 A6 n6 c6 n6 c6 (G * 2 ^ k) (G * 2 ^ k) (Lib.hid H6.out.lt) (Lib.hid H6.out.lt) (by have := l6.out; omega) (by have := l6.out; omega) wr (hal_cel H6.out) (hal_cel H6.out)).mono ?_); rintro e w7 ⟨A7, n7, c7, rfl, hh, _, hb7⟩; have H7 := Lib.hid hh; have S7 := Lib.hid (S6.out.below hb7); clear hh hb7)
            go_roundw
            case rel => exact ⟨k + 1, A7, n7, c7, by omega, by go_num, rfl, Lib.hid (by have := H7.out; rwa [← Nat.mul_two, Nat.mul_assoc, ← Nat.pow_succ] at this), S7⟩
            case measure => simp [intOf]; omega
          · have e : k = t := by omega
            subst e
            have HV := HGT.out
            rw [HV] at H6
            have HVH := Lib.hid HV
            clear HV
            go_wp2_with (go_at_call 67; (with_reducible refine (whole_ok A6 n6 c6 (Nat.gcd X Y) (Lib.hid H6.out.lt) (hal_cap H6.out) (by have := l6.out; omega) HLG.out.2 wr (hal_cel H6.out)).mono ?_); rintro e w7 ⟨A7, n7, c7, rfl, hh, hnw, hb7⟩; have N7 := Lib.hid hh; have R7 := Lib.hid (hnw.far S6.out.br.lt); have S7 := Lib.hid (S6.out.below hb7); have xr := fun o => (S7.out.br.alloc o).cell; have fr := fun o => (S7.out.br.alloc o).free; clear hh hnw hb7)
            have xs := fun (o : Obj) => set_same (S7.out.br.alloc o)
            refine bodyPost_ret (v := .tuple #[.agg #[.slice A7 n7 c7], .int .i64 0]) (by simp [results, Tryd.results42, go_sem, xs]) rfl ?_
            exact ⟨A7, n7, c7, rfl, num_set (N7.out.below (below_new _ _)) R7.out _, (S7.out.alloc _).bel.setCell (by simp; omega) _⟩
      · have t1 : decide (0 < n1) = true := by simpa using q
        have t1' : (0 : Int) < (n1 : Int) := by omega
        have t2 : decide (0 < n2) = false := by simp; omega
        have t2' : ¬ (0 : Int) < (n2 : Int) := by omega
        clear q2
        go_wp2_with (go_at_call 66; (with_reducible refine (radd_any A1 A2 n1 c1 n2 c2 x y (Lib.hid h1.out.lt) (Lib.hid h2.out.lt) (by have := l1.out; omega) (by have := l2.out; omega) wr (hal_cel h1.out) (hal_cel h2.out)).mono ?_); rintro e w5 ⟨A5, n5, c5, rfl, hh, _, hb5⟩; rw [← HG0.out] at hh; have H5 := Lib.hid hh; have S5 := Lib.hid (hS.out.below hb5); clear hh hb5)
        go_loopw [9, 10] (fun l i wr => ∃ (k : Nat) (A5 : Option Addr) (n5 c5 : Nat), k ≤ t ∧ i = .int .i64 (k : Int) ∧ l = .slice A5 n5 c5 ∧ Hid (Hal wr A5 n5 c5 (G * 2 ^ k)) ∧ Hid (St w A D n c m d X Y wr)) (fun _ i _ => t - (intOf i).toNat)
        case atStart => exact ⟨0, A5, n5, c5, by omega, rfl, rfl, Lib.hid (by rw [Nat.pow_zero, Nat.mul_one]; exact H5.out), S5⟩
        case round =>
          clear H5 S5
          obtain ⟨k, A6, n6, c6, hk, rfl, rfl, H6, S6⟩ := hrel
          have hle : Hid (G * 2 ^ k ≤ Nat.gcd X Y) := Lib.hid (by rw [← HGT.out]; exact Nat.mul_le_mul_left _ (Nat.pow_le_pow_right (by omega) hk))
          have l6 : Hid (n6 ≤ 128) := Lib.hid (by rw [hal_len H6.out]; exact Nat.le_trans (nlen_mono (by omega) hle.out) HLG.out.1)
          by_cases hlt : k < t
          · go_wp2_with (go_at_call 66; (with_reducible refine (radd_any A6 A6 n6 c6 n6 c6 (G * 2 ^ k) (G * 2 ^ k) (Lib.hid H6.out.lt) (Lib.hid H6.out.lt) (by have := l6.out; omega) (by have := l6.out; omega) wr (hal_cel H6.out) (hal_cel H6.out)).mono ?_); rintro e w7 ⟨A7, n7, c7, rfl, hh, _, hb7⟩; have H7 := Lib.hid hh; have S7 := Lib.hid (S6.out.below hb7); clear hh hb7)
            go_roundw
            case rel => exact ⟨k + 1, A7, n7, c7, by omega, by go_num, rfl, Lib.hid (by have := H7.out; rwa [← Nat.mul_two, Nat.mul_assoc, ← Nat.pow_succ] at this), S7⟩
            case measure => simp [intOf]; omega
          · have e : k = t := by omega
            subst e
            have HV := HGT.out
            rw [HV] at H6
            have HVH := Lib.hid HV
            clear HV
            go_wp2_with (go_at_call 67; (with_reducible refine (whole_ok A6 n6 c6 (Nat.gcd X Y) (Lib.hid H6.out.lt) (hal_cap H6.out) (by have := l6.out; omega) HLG.out.2 wr (hal_cel H6.out)).mono ?_); rintro e w7 ⟨A7, n7, c7, rfl, hh, hnw, hb7⟩; have N7 := Lib.hid hh; have R7 := Lib.hid (hnw.far S6.out.br.lt); have S7 := Lib.hid (S6.out.below hb7); have xr := fun o => (S7.out.br.alloc o).cell; have fr := fun o => (S7.out.br.alloc o).free; clear hh hnw hb7)
            have xs := fun (o : Obj) => set_same (S7.out.br.alloc o)
            refine bodyPost_ret (v := .tuple #[.agg #[.slice A7 n7 c7], .int .i64 0]) (by simp [results, Tryd.results42, go_sem, xs]) rfl ?_
            exact ⟨A7, n7, c7, rfl, num_set (N7.out.below (below_new _ _)) R7.out _, (S7.out.alloc _).bel.setCell (by simp; omega) _⟩

theorem rxgcd_any (A D : Option Addr) (n c m d X Y : Nat) (hX : Hid (X < 4294967296 ^ n)) (hY : Hid (Y < 4294967296 ^ m)) (hn : n ≤ 9223372036854775807) (hm : m ≤ 9223372036854775807) (w : World) (hI : Cel .u32 w A (dg 4294967296 n X)) (hJ : Cel .u32 w D (dg 4294967296 m Y)) :
    Calls Tryd.prog 42 #[.agg #[.slice A n c], .agg #[.slice D m d]] w (ResP (gcdV n X m Y) (gcdE n X m Y) w) := by
  unfold gcdE gcdV
  cases ha : valB n X with
  | false => rw [(g_no1 (X := X) (Y := Y)).1, g_no1.2]; exact rgcd_no1 A D n c m d X hX hn (Lib.hid ha.symm) w hI
  | true =>
    cases hb : valB m Y with
    | false => rw [(g_no2 (X := X) (Y := Y)).1, g_no2.2]; exact rgcd_no2 A D n c m d X Y hX hY hn hm (Lib.hid ha.symm) (Lib.hid hb.symm) w hI hJ
    | true => rw [(g_ok (X := X) (Y := Y)).1, g_ok.2]; exact rgcd_yes A D n c m d X Y hX hY (Lib.hid ha.symm) (Lib.hid hb.symm) w hI hJ
end Go.Proofs.YtinceponggpioaaDoor.natGc

/-
  The reference's add, sub, half.
-/
import Derived.Test.YtjblfmgiafdefaaNatT
namespace Go.Proofs.Ytjblfmgiafdefaa.natU
open Go.RowKit
open Go.Proofs.Ytjblfmgiafdefaa.natM Go.Proofs.Ytjblfmgiafdefaa.natA Go.Proofs.Ytjblfmgiafdefaa.natB Go.Proofs.Ytjblfmgiafdefaa.natC Go.Proofs.Ytjblfmgiafdefaa.natD Go.Proofs.Ytjblfmgiafdefaa.natE Go.Proofs.Ytjblfmgiafdefaa.natF Go.Proofs.Ytjblfmgiafdefaa.natG Go.Proofs.Ytjblfmgiafdefaa.natR Go.Proofs.Ytjblfmgiafdefaa.natS Go.Proofs.Ytjblfmgiafdefaa.natT
set_option linter.unusedVariables false

/-! ### add -/
theorem radd_round {X Y k cc x y : Nat} (hx : x = X / 65536 ^ k % 65536) (hy : y = Y / 65536 ^ k % 65536) (hc : cc ≤ 1) (h : (X + 1 * (Y % 65536 ^ k)) / 65536 ^ k = cc + X / 65536 ^ k) :
    ∃ s N lo c2 : Nat, (x : Int) + (y : Int) = (s : Int) ∧ (s : Int) + (cc : Int) = (N : Int) ∧ (N : Int) % 65536 = (lo : Int) ∧ (N : Int) / 65536 = (c2 : Int) ∧
      s < 262144 ∧ N < 262144 ∧ lo < 65536 ∧ x < 65536 ∧ y < 65536 ∧ lo = (X + Y) / 65536 ^ k % 65536 ∧ c2 ≤ 1 ∧ (X + 1 * (Y % 65536 ^ (k + 1))) / 65536 ^ (k + 1) = c2 + X / 65536 ^ (k + 1) := by
  have hx2 : x < 65536 := by rw [hx]; exact Nat.mod_lt _ (by omega)
  have hy2 : y < 65536 := by rw [hy]; exact Nat.mod_lt _ (by omega)
  obtain ⟨h1, h2⟩ := carry_step (B := 65536) (n := x + cc + 1 * y) (by omega) h (by rw [hx, hy])
  rw [Nat.one_mul] at h1
  have e : x + cc + 1 * y = x + y + cc := by omega
  rw [e] at h1 h2
  exact ⟨x + y, x + y + cc, (x + y + cc) % 65536, (x + y + cc) / 65536, by omega, by omega, by omega, by omega, by omega, by omega, Nat.mod_lt _ (by omega), hx2, hy2, h1.symm, by omega, h2⟩
set_option maxRecDepth 4000 in
set_option maxHeartbeats 4000000 in
theorem radd_ge (A D : Option Addr) (n c m d X Y : Nat) (hX : Hid (X < 65536 ^ n)) (hY : Hid (Y < 65536 ^ m)) (hn : n ≤ 1000) (hm : m ≤ 1000) (h : ¬ n < m) (w : World) (hI : Cel .i64 w A (dg 65536 n X)) (hJ : Cel .i64 w D (dg 65536 m Y)) :
    Calls Try.prog 43 #[.slice A n c, .slice D m d] w (RP (X + Y) w) := by
  have HI := Lib.hid hI
  have HJ := Lib.hid hJ
  have HX1 : Hid (X < 65536 ^ n) := Lib.hid (Nat.lt_of_lt_of_le hX.out (Nat.pow_le_pow_right (by omega) (by omega)))
  have HY1 : Hid (Y < 65536 ^ n) := Lib.hid (Nat.lt_of_lt_of_le hY.out (Nat.pow_le_pow_right (by omega) (by omega)))
  have HS : Hid (X + Y < 65536 ^ (n + 1)) := Lib.hid (by rw [Nat.pow_succ]; have := HX1.out; have := HY1.out; omega)
  clear hI hJ
  go_enter Try.func43, Try.ntmps43
  go_wp2_with fail
  clear h
  go_loopw [6, 7, 8] (fun s cr i wr => ∃ k cc : Nat, k ≤ n + 1 ∧ i = .int .i64 (k : Int) ∧ cr = .int .i64 (cc : Int) ∧ cc ≤ 1 ∧ Hid ((X + 1 * (Y % 65536 ^ k)) / 65536 ^ k = cc + X / 65536 ^ k) ∧
      Hid (wr.ownsRow w.heap.size 3 1 s k (cells .i64 (dg 65536 k (X + Y)))) ∧ Hid (Below w.heap.size w wr)) (fun _ _ i _ => n + 1 - (intOf i).toNat)
  case atStart => exact ⟨0, 0, by omega, rfl, rfl, by omega, Lib.hid (carry_zero _ _ _ _), Lib.hid (World.ownsRow_nil _ _ _ _), Lib.hid (Below.refl _ _)⟩
  case round =>
    obtain ⟨k, cc, hk, rfl, rfl, hcc, hq, hown, hbel⟩ := hrel
    by_cases hlt : k < n + 1
    · obtain ⟨x, hx⟩ : ∃ x, Hid (x = X / 65536 ^ k % 65536) := ⟨_, rfl⟩
      obtain ⟨y, hy⟩ : ∃ y, Hid (y = Y / 65536 ^ k % 65536) := ⟨_, rfl⟩
      have cx := digit_any A n c X k x hX hx (by omega) (by omega) wr (HI.out.below hbel.out)
      have cy := digit_any D m d Y k y hY hy (by omega) (by omega) wr (HJ.out.below hbel.out)
      obtain ⟨s, N, lo, c2, e1, e2, e3, e4, b1, b2, b3, b4, b5, l1, l2, l3⟩ := radd_round hx.out hy.out hcc hq.out
      have D1 : Hid (dg 65536 k (X + Y) ++ [lo] = dg 65536 (k + 1) (X + Y)) := Lib.hid (by rw [dg_snoc, l1])
      have HQ := Lib.hid l3
      have hkP : k ≤ n := by omega
      have hB := hbel.out.size
      clear l1 l3
      go_wp2_with (first
        | (go_at_call 61; first | ((with_reducible refine cx.mono ?_); rintro e w' ⟨rfl, rfl⟩) | ((with_reducible refine cy.mono ?_); rintro e w' ⟨rfl, rfl⟩))
        | (refine push_i64 (by rfl) (.tmp 32) (.tmp 35) (by rfl) wr w.heap.size _ k (dg 65536 k (X + Y)) lo (by rfl) hown.out (by rfl) (by omega) hB ?_; intro g cg w3 hp; rw [D1.out] at hp; have HP := Lib.hid hp; clear hp))
      go_roundw
      case rel => exact ⟨k + 1, c2, by omega, by go_num, rfl, l2, HQ, Lib.hid HP.out.1, Lib.hid (hbel.out.trans HP.out.2.1)⟩
      case measure => simp [intOf]; omega
    · have e : k = n + 1 := by omega
      have HK := Lib.hid e
      have HV : Hid (X + Y < 65536 ^ k) := Lib.hid (by rw [e]; exact HS.out)
      have hkP : ¬ k ≤ n := by omega
      clear e hlt
      obtain ⟨A2, c2, rfl, hc2, hcel, hnew⟩ := own_slice hown.out
      obtain ⟨N, hN⟩ : ∃ N, Hid (N = nlen 65536 (X + Y)) := ⟨_, rfl⟩
      have hNk : Hid (N ≤ k) := Lib.hid (by rw [hN.out]; exact nlen_le (by omega) HV.out)
      have ct := rtrim_any A2 k c2 (X + Y) N HV hN hc2 (by omega) wr hcel
      have HC := Lib.hid (cel_less hcel hNk.out)
      have HNW := Lib.hid hnew
      clear hcel hnew
      go_wp2_with (go_at_call 60; refine ct.mono ?_; rintro e w' ⟨rfl, rfl⟩)
      go_ret
      exact ⟨A2, N, c2, rfl, ⟨hN.out, by have := hNk.out; omega, HC.out⟩, fun _ ad e => HNW.out ad e, hbel.out⟩
set_option maxRecDepth 4000 in
set_option maxHeartbeats 4000000 in
theorem radd_lt (A D : Option Addr) (n c m d X Y : Nat) (hX : Hid (X < 65536 ^ n)) (hY : Hid (Y < 65536 ^ m)) (hn : n ≤ 1000) (hm : m ≤ 1000) (h : n < m) (w : World) (hI : Cel .i64 w A (dg 65536 n X)) (hJ : Cel .i64 w D (dg 65536 m Y)) :
    Calls Try.prog 43 #[.slice A n c, .slice D m d] w (RP (X + Y) w) := by
  have HI := Lib.hid hI
  have HJ := Lib.hid hJ
  have HX1 : Hid (X < 65536 ^ m) := Lib.hid (Nat.lt_of_lt_of_le hX.out (Nat.pow_le_pow_right (by omega) (by omega)))
  have HY1 : Hid (Y < 65536 ^ m) := Lib.hid (Nat.lt_of_lt_of_le hY.out (Nat.pow_le_pow_right (by omega) (by omega)))
  have HS : Hid (X + Y < 65536 ^ (m + 1)) := Lib.hid (by rw [Nat.pow_succ]; have := HX1.out; have := HY1.out; omega)
  clear hI hJ
  go_enter Try.func43, Try.ntmps43
  go_wp2_with fail
  clear h
  go_loopw [6, 7, 8] (fun s cr i wr => ∃ k cc : Nat, k ≤ m + 1 ∧ i = .int .i64 (k : Int) ∧ cr = .int .i64 (cc : Int) ∧ cc ≤ 1 ∧ Hid ((X + 1 * (Y % 65536 ^ k)) / 65536 ^ k = cc + X / 65536 ^ k) ∧
      Hid (wr.ownsRow w.heap.size 3 1 s k (cells .i64 (dg 65536 k (X + Y)))) ∧ Hid (Below w.heap.size w wr)) (fun _ _ i _ => m + 1 - (intOf i).toNat)
  case atStart => exact ⟨0, 0, by omega, rfl, rfl, by omega, Lib.hid (carry_zero _ _ _ _), Lib.hid (World.ownsRow_nil _ _ _ _), Lib.hid (Below.refl _ _)⟩
  case round =>
    obtain ⟨k, cc, hk, rfl, rfl, hcc, hq, hown, hbel⟩ := hrel
    by_cases hlt : k < m + 1
    · obtain ⟨x, hx⟩ : ∃ x, Hid (x = X / 65536 ^ k % 65536) := ⟨_, rfl⟩
      obtain ⟨y, hy⟩ : ∃ y, Hid (y = Y / 65536 ^ k % 65536) := ⟨_, rfl⟩
      have cx := digit_any A n c X k x hX hx (by omega) (by omega) wr (HI.out.below hbel.out)
      have cy := digit_any D m d Y k y hY hy (by omega) (by omega) wr (HJ.out.below hbel.out)
      obtain ⟨s, N, lo, c2, e1, e2, e3, e4, b1, b2, b3, b4, b5, l1, l2, l3⟩ := radd_round hx.out hy.out hcc hq.out
      have D1 : Hid (dg 65536 k (X + Y) ++ [lo] = dg 65536 (k + 1) (X + Y)) := Lib.hid (by rw [dg_snoc, l1])
      have HQ := Lib.hid l3
      have hkP : k ≤ m := by omega
      have hB := hbel.out.size
      clear l1 l3
      go_wp2_with (first
        | (go_at_call 61; first | ((with_reducible refine cx.mono ?_); rintro e w' ⟨rfl, rfl⟩) | ((with_reducible refine cy.mono ?_); rintro e w' ⟨rfl, rfl⟩))
        | (refine push_i64 (by rfl) (.tmp 32) (.tmp 35) (by rfl) wr w.heap.size _ k (dg 65536 k (X + Y)) lo (by rfl) hown.out (by rfl) (by omega) hB ?_; intro g cg w3 hp; rw [D1.out] at hp; have HP := Lib.hid hp; clear hp))
      go_roundw
      case rel => exact ⟨k + 1, c2, by omega, by go_num, rfl, l2, HQ, Lib.hid HP.out.1, Lib.hid (hbel.out.trans HP.out.2.1)⟩
      case measure => simp [intOf]; omega
    · have e : k = m + 1 := by omega
      have HK := Lib.hid e
      have HV : Hid (X + Y < 65536 ^ k) := Lib.hid (by rw [e]; exact HS.out)
      have hkP : ¬ k ≤ m := by omega
      clear e hlt
      obtain ⟨A2, c2, rfl, hc2, hcel, hnew⟩ := own_slice hown.out
      obtain ⟨N, hN⟩ : ∃ N, Hid (N = nlen 65536 (X + Y)) := ⟨_, rfl⟩
      have hNk : Hid (N ≤ k) := Lib.hid (by rw [hN.out]; exact nlen_le (by omega) HV.out)
      have ct := rtrim_any A2 k c2 (X + Y) N HV hN hc2 (by omega) wr hcel
      have HC := Lib.hid (cel_less hcel hNk.out)
      have HNW := Lib.hid hnew
      clear hcel hnew
      go_wp2_with (go_at_call 60; refine ct.mono ?_; rintro e w' ⟨rfl, rfl⟩)
      go_ret
      exact ⟨A2, N, c2, rfl, ⟨hN.out, by have := hNk.out; omega, HC.out⟩, fun _ ad e => HNW.out ad e, hbel.out⟩
theorem radd_any (A D : Option Addr) (n c m d X Y : Nat) (hX : Hid (X < 65536 ^ n)) (hY : Hid (Y < 65536 ^ m)) (hn : n ≤ 1000) (hm : m ≤ 1000) (w : World) (hI : Cel .i64 w A (dg 65536 n X)) (hJ : Cel .i64 w D (dg 65536 m Y)) :
    Calls Try.prog 43 #[.slice A n c, .slice D m d] w (RP (X + Y) w) := by
  by_cases h : n < m
  · exact radd_lt A D n c m d X Y hX hY hn hm h w hI hJ
  · exact radd_ge A D n c m d X Y hX hY hn hm h w hI hJ

/-! ### sub -/
theorem rsub_round {X Y D k b x y : Nat} (hx : x = X / 65536 ^ k % 65536) (hy : y = Y / 65536 ^ k % 65536) (hD : D + Y = X) (hb : b ≤ 1) (h : X % 65536 ^ k + b * 65536 ^ k = D % 65536 ^ k + Y % 65536 ^ k) :
    ∃ (z1 z2 : Int) (lo b2 : Nat), (x : Int) - (y : Int) = z1 ∧ z1 - (b : Int) = z2 ∧ -70000 ≤ z1 ∧ z1 ≤ 70000 ∧ -70000 ≤ z2 ∧ z2 ≤ 70000 ∧ (z2 < 0 → z2 + 65536 = (lo : Int) ∧ b2 = 1) ∧ (¬ z2 < 0 → z2 = (lo : Int) ∧ b2 = 0) ∧
      lo < 65536 ∧ x < 65536 ∧ y < 65536 ∧ b2 ≤ 1 ∧ lo = D / 65536 ^ k % 65536 ∧ X % 65536 ^ (k + 1) + b2 * 65536 ^ (k + 1) = D % 65536 ^ (k + 1) + Y % 65536 ^ (k + 1) := by
  have hx2 : x < 65536 := by rw [hx]; exact Nat.mod_lt _ (by omega)
  have hy2 : y < 65536 := by rw [hy]; exact Nat.mod_lt _ (by omega)
  obtain ⟨h1, h2, h3⟩ := borrow_step (B := 65536) (n := x + 65536 - (b + y)) (by omega) hD hb h (by rw [hx, hy])
  exact ⟨x - y, x - y - b, (x + 65536 - (b + y)) % 65536, 1 - (x + 65536 - (b + y)) / 65536, rfl, rfl, by omega, by omega, by omega, by omega, fun _ => by omega, fun _ => by omega, Nat.mod_lt _ (by omega), hx2, hy2, by omega, h1.symm, h3⟩

set_option maxRecDepth 4000 in
set_option maxHeartbeats 4000000 in
theorem rsub_any (A D : Option Addr) (n c m d X Y : Nat) (hX : Hid (X < 65536 ^ n)) (hY : Hid (Y < 65536 ^ m)) (hYX : Hid (Y ≤ X)) (hn : n ≤ 1000) (hm : m ≤ 1000) (w : World) (hI : Cel .i64 w A (dg 65536 n X)) (hJ : Cel .i64 w D (dg 65536 m Y)) :
    Calls Try.prog 68 #[.slice A n c, .slice D m d] w (RP (X - Y) w) := by
  obtain ⟨V, hV⟩ : ∃ V, V = X - Y := ⟨_, rfl⟩
  have HD : Hid (V + Y = X) := Lib.hid (by have := hYX.out; omega)
  have HVn : Hid (V < 65536 ^ n) := Lib.hid (by have := hX.out; omega)
  rw [← hV]
  have HI := Lib.hid hI
  have HJ := Lib.hid hJ
  clear hI hJ hV
  go_enter Try.func68, Try.ntmps68
  go_wp2_with fail
  go_loopw [5, 6, 7] (fun s br i wr => ∃ k bb : Nat, k ≤ n ∧ i = .int .i64 (k : Int) ∧ br = .int .i64 (bb : Int) ∧ bb ≤ 1 ∧ Hid (X % 65536 ^ k + bb * 65536 ^ k = V % 65536 ^ k + Y % 65536 ^ k) ∧
      Hid (wr.ownsRow w.heap.size 3 1 s k (cells .i64 (dg 65536 k V))) ∧ Hid (Below w.heap.size w wr)) (fun _ _ i _ => n - (intOf i).toNat)
  case atStart => exact ⟨0, 0, by omega, rfl, rfl, by omega, Lib.hid (borrow_zero _ _ _ _), Lib.hid (World.ownsRow_nil _ _ _ _), Lib.hid (Below.refl _ _)⟩
  case round =>
    obtain ⟨k, bb, hk, rfl, rfl, hbb, hq, hown, hbel⟩ := hrel
    by_cases hlt : k < n
    · obtain ⟨b, off, rfl, hc⟩ := (HI.out.below hbel.out).at_ (k := k) (by rw [dg_len]; exact hlt)
      rw [dg_at hlt] at hc
      obtain ⟨x, hx⟩ : ∃ x, x = X / 65536 ^ k % 65536 := ⟨_, rfl⟩
      obtain ⟨y, hy⟩ : ∃ y, Hid (y = Y / 65536 ^ k % 65536) := ⟨_, rfl⟩
      rw [← hx] at hc
      have cy := fun q => digit_any D m d Y k y hY hy (by omega) (by omega) (wr.drewN q) ((HJ.out.below hbel.out).drewN q)
      obtain ⟨z1, z2, lo, b2, e1, e2, b1, b3, b4, b5, h1, h2, b6, b7, b8, b9, l1, l3⟩ := rsub_round hx hy.out HD.out hbb hq.out
      have D1 : Hid (dg 65536 k V ++ [lo] = dg 65536 (k + 1) V) := Lib.hid (by rw [dg_snoc, l1])
      have HQ := Lib.hid l3
      have hB := hbel.out.size
      have i0 : (0 : Int) ≤ (k : Int) := by omega
      have i1 : (k : Int) < (n : Int) := by omega
      have w1 : IntKind.i64.wrap z1 = z1 := IntWalk.i64_in _ (by omega)
      have w2 : IntKind.i64.wrap z2 = z2 := IntWalk.i64_in _ (by omega)
      have CY := Lib.hid cy
      clear l1 l3 hx cy
      by_cases hneg : z2 < 0
      · obtain ⟨e3, e4⟩ := h1 hneg
        subst e4
        clear h1 h2
        go_wp2_with fail
        go_quiet ((go_at_call 61; exact quiet_one (CY.out _)))
        go_wp2_with (refine push_i64 (by rfl) (.tmp 29) (.tmp 31) (by rfl) (wr.drewN nq) w.heap.size _ k (dg 65536 k V) lo (by rfl) hown.out (by rfl) (by omega) hB ?_; intro g cg w3 hp; rw [D1.out] at hp; have HP := Lib.hid hp; clear hp)
        go_roundw
        case rel => exact ⟨k + 1, 1, by omega, by go_num, rfl, by omega, HQ, Lib.hid HP.out.1, Lib.hid ((bel_drewN hbel.out _).trans HP.out.2.1)⟩
        case measure => simp [intOf]; omega
      · obtain ⟨e3, e4⟩ := h2 hneg
        subst e4
        subst e3
        clear h1 h2 w1 w2
        have w1 : IntKind.i64.wrap z1 = z1 := IntWalk.i64_in _ (by omega)
        have w2 : IntKind.i64.wrap (lo : Int) = (lo : Int) := IntWalk.i64_in _ (by omega)
        go_wp2_with fail
        go_quiet ((go_at_call 61; exact quiet_one (CY.out _)))
        go_wp2_with (refine push_i64 (by rfl) (.tmp 29) (.tmp 31) (by rfl) (wr.drewN nq) w.heap.size _ k (dg 65536 k V) lo (by rfl) hown.out (by rfl) (by omega) hB ?_; intro g cg w3 hp; rw [D1.out] at hp; have HP := Lib.hid hp; clear hp)
        go_roundw
        case rel => exact ⟨k + 1, 0, by omega, by go_num, rfl, by omega, HQ, Lib.hid HP.out.1, Lib.hid ((bel_drewN hbel.out _).trans HP.out.2.1)⟩
        case measure => simp [intOf]; omega
    · have e : k = n := by omega
      subst e
      obtain ⟨A2, c2, rfl, hc2, hcel, hnew⟩ := own_slice hown.out
      obtain ⟨N, hN⟩ : ∃ N, Hid (N = nlen 65536 V) := ⟨_, rfl⟩
      have hNk : Hid (N ≤ k) := Lib.hid (by rw [hN.out]; exact nlen_le (by omega) HVn.out)
      have ct := rtrim_any A2 k c2 V N HVn hN hc2 (by omega) wr hcel
      have HC := Lib.hid (cel_less hcel hNk.out)
      have HNW := Lib.hid hnew
      clear hcel hnew
      go_wp2_with (go_at_call 60; refine ct.mono ?_; rintro e w' ⟨rfl, rfl⟩)
      go_ret
      exact ⟨A2, N, c2, rfl, ⟨hN.out, by have := hNk.out; omega, HC.out⟩, fun _ ad e => HNW.out ad e, hbel.out⟩
end Go.Proofs.Ytjblfmgiafdefaa.natU

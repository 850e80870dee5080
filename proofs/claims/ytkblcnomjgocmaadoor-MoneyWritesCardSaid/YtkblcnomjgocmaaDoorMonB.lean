/-
  What a slice of ints reads as; contracts of the functions that only read one: greatest (both), allValid, Sum (both), wholeOf, checkSplit, same.
-/
import Derived.Test.YtkblcnomjgocmaaDoorMonA
import Derived.Test.YtkblcnomjgocmaaDoorMonMath
namespace Go.Proofs.YtkblcnomjgocmaaDoor.monB
open Go.RowKit
open Go.Proofs.YtkblcnomjgocmaaDoor.numM Go.Proofs.YtkblcnomjgocmaaDoor.numA Go.Proofs.YtkblcnomjgocmaaDoor.numB Go.Proofs.YtkblcnomjgocmaaDoor.monA Go.Proofs.YtkblcnomjgocmaaDoor.monM
set_option linter.unusedVariables false

/-- the cells of a row of ints -/
def CellsAt (w : World) (b off : Nat) (zs : List Int) : Prop := ∀ j x, zs[j]? = some x → w.cell? ⟨b, off + j, none⟩ = some (.int .i64 x)
/-- a slice value of that many elements reads as these ints -/
def Ints (w : World) (A : Option Addr) (zs : List Int) : Prop := 0 < zs.length → ∃ b off, A = some ⟨b, off, none⟩ ∧ CellsAt w b off zs
theorem Ints.at_ {w : World} {A : Option Addr} {zs : List Int} (h : Ints w A zs) {k : Nat} (hk : k < zs.length) :
    ∃ b off, A = some ⟨b, off, none⟩ ∧ w.cell? ⟨b, off + k, none⟩ = some (.int .i64 (at0 zs k)) := by
  obtain ⟨b, off, e, hc⟩ := h (by omega)
  exact ⟨b, off, e, hc k _ (at0_some hk)⟩
theorem Ints.two {w : World} {A : Option Addr} {zs : List Int} (h : Ints w A zs) {k g : Nat} (hk : k < zs.length) (hg : g < zs.length) :
    ∃ b off, A = some ⟨b, off, none⟩ ∧ w.cell? ⟨b, off + k, none⟩ = some (.int .i64 (at0 zs k)) ∧ w.cell? ⟨b, off + g, none⟩ = some (.int .i64 (at0 zs g)) := by
  obtain ⟨b, off, e, hc⟩ := h (by omega)
  exact ⟨b, off, e, hc k _ (at0_some hk), hc g _ (at0_some hg)⟩

set_option maxHeartbeats 1000000 in
theorem greatest_any (A : Option Addr) (n c G : Nat) (zs : List Int) (hn : Hid (zs.length = n)) (hN : n ≤ 9223372036854775807) (hG : Hid (G = gr zs n)) (w : World) (hI : Ints w A zs) :
    Calls Tryd.prog 35 #[.slice A n c] w fun e w' => e = .returned (.int .i64 (G : Int)) ∧ w = w' := by
  go_enter Tryd.func35, Tryd.ntmps35
  go_wp2
  go_loop [3, 8] (fun g i => ∃ k b : Nat, k ≤ n ∧ (b = 0 ∨ b < n) ∧ i = .int .i64 k ∧ g = .int .i64 b ∧ Hid (b = gr zs k)) (fun _ i => n - (intOf i).toNat)
  case atStart => exact ⟨0, 0, Nat.zero_le _, .inl rfl, rfl, rfl, rfl⟩
  case round =>
    obtain ⟨k, g, hk, hgn, rfl, rfl, hg⟩ := hrel
    by_cases hlt : k < n
    · obtain ⟨ad, off, rfl, hx, hy⟩ := hI.two (k := k) (g := g) (by rw [hn.out]; exact hlt) (by rw [hn.out]; omega)
      have hstep : Hid ((at0 zs g < at0 zs k → k = gr zs (k + 1)) ∧ (¬ at0 zs g < at0 zs k → g = gr zs (k + 1))) :=
        ⟨fun h => (gr_yes (by rw [← hg.out]; exact h)).symm, fun h => by rw [gr_no (by rw [← hg.out]; exact h)]; exact hg.out⟩
      generalize at0 zs k = x at *
      generalize at0 zs g = y at *
      by_cases h : y < x
      · go_wp2
        go_round
        case rel => exact ⟨k + 1, k, by omega, by omega, by go_num, rfl, hstep.out.1 h⟩
        case measure => simp [intOf]; omega
      · go_wp2
        go_round
        case rel => exact ⟨k + 1, g, by omega, by omega, by go_num, rfl, hstep.out.2 h⟩
        case measure => simp [intOf]; omega
    · have e : k = n := by omega
      subst e
      go_wp2
      go_ret
      exact ⟨ret_int (by rw [hg.out, hG.out]), rfl⟩

theorem Ints.drewN {w : World} {A : Option Addr} {zs : List Int} (h : Ints w A zs) (k : Nat) : Ints (w.drewN k) A zs := h

set_option maxHeartbeats 1000000 in
theorem rgreatest_any (A : Option Addr) (n c G : Nat) (zs : List Int) (hn : Hid (zs.length = n)) (hN : n ≤ 9223372036854775807) (hp : 0 < n) (hG : Hid (G = gr zs n)) (w : World) (hI : Ints w A zs) :
    Calls Tryd.prog 37 #[.slice A n c] w fun e w' => e = .returned (.int .i64 (G : Int)) ∧ ∃ k, w' = w.drewN k := by
  go_enter Tryd.func37, Tryd.ntmps37
  go_wp2
  go_loopw [3, 4] (fun g i wr => ∃ k b d : Nat, k ≤ n ∧ 1 ≤ k ∧ b < n ∧ i = .int .i64 k ∧ g = .int .i64 b ∧ Hid (b = gr zs k) ∧ wr = w.drewN d) (fun _ i _ => n - (intOf i).toNat)
  case atStart => exact ⟨1, 0, 0, by omega, by omega, by omega, rfl, rfl, Lib.hid (gr_one zs).symm, rfl⟩
  case round =>
    obtain ⟨k, g, d, hk, hk1, hgn, rfl, rfl, hg, rfl⟩ := hrel
    by_cases hlt : k < n
    · obtain ⟨ad, off, rfl, hx, hy⟩ := hI.two (k := k) (g := g) (by rw [hn.out]; exact hlt) (by rw [hn.out]; omega)
      have hstep : Hid ((at0 zs g < at0 zs k → k = gr zs (k + 1)) ∧ (¬ at0 zs g < at0 zs k → g = gr zs (k + 1))) :=
        ⟨fun h => (gr_yes (by rw [← hg.out]; exact h)).symm, fun h => by rw [gr_no (by rw [← hg.out]; exact h)]; exact hg.out⟩
      generalize at0 zs k = x at *
      generalize at0 zs g = y at *
      have i0 : (0 : Int) ≤ (k : Int) := by omega
      have i1 : (k : Int) < (n : Int) := by omega
      have i2 : (0 : Int) ≤ (g : Int) := by omega
      have i3 : (g : Int) < (n : Int) := by omega
      by_cases h : y < x
      · go_wp2
        go_quiet (fail)
        go_wp2
        go_roundw
        case rel => exact ⟨k + 1, k, _, by omega, by omega, by omega, by go_num, rfl, hstep.out.1 h, rfl⟩
        case measure => simp [intOf]; omega
      · go_wp2
        go_quiet (fail)
        go_wp2
        go_roundw
        case rel => exact ⟨k + 1, g, _, by omega, by omega, by omega, by go_num, rfl, hstep.out.2 h, rfl⟩
        case measure => simp [intOf]; omega
    · have e : k = n := by omega
      subst e
      go_wp2
      go_ret
      exact ⟨ret_int (by rw [hg.out, hG.out]), d, rfl⟩

/-! ### all are amounts; sums -/
def allv (zs : List Int) : Nat → Bool
  | 0 => true
  | k + 1 => allv zs k && vB (at0 zs k)
theorem allv_all {zs : List Int} : ∀ {k : Nat}, allv zs k = true → ∀ j, j < k → vB (at0 zs j) = true
  | 0, _, j, hj => by omega
  | k + 1, h, j, hj => by
    rw [allv, Bool.and_eq_true] at h
    by_cases e : j = k
    · subst e; exact h.2
    · exact allv_all h.1 j (by omega)
theorem allv_bad {zs : List Int} {n j : Nat} (hj : j < n) (h : vB (at0 zs j) = false) : allv zs n = false := by
  cases e : allv zs n with
  | false => rfl
  | true => have := allv_all e j hj; rw [h] at this; cases this
theorem allv_nn {zs : List Int} {n : Nat} (hn : zs.length = n) (h : allv zs n = true) (j : Nat) : 0 ≤ at0 zs j ∧ at0 zs j ≤ 1000000000000 := by
  by_cases hj : j < n
  · exact vB_iff.1 (allv_all h j hj)
  · rw [at0_out (by omega)]; omega

set_option maxHeartbeats 1000000 in
theorem allvalid_any (A : Option Addr) (n c : Nat) (R : Bool) (zs : List Int) (hn : Hid (zs.length = n)) (hN : n ≤ 9223372036854775807) (hR : Hid (R = allv zs n)) (w : World) (hI : Ints w A zs) :
    Calls Tryd.prog 31 #[.slice A n c] w fun e w' => e = .returned (.bool R) ∧ w = w' := by
  go_enter Tryd.func31, Tryd.ntmps31
  go_wp2
  go_loop [7] (fun i => ∃ k : Nat, k ≤ n ∧ i = .int .i64 k ∧ Hid (allv zs k = true)) (fun i => n - (intOf i).toNat)
  case atStart => exact ⟨0, Nat.zero_le _, rfl, rfl⟩
  case round =>
    obtain ⟨k, hk, rfl, hv⟩ := hrel
    by_cases hlt : k < n
    · obtain ⟨ad, off, rfl, hx⟩ := hI.at_ (k := k) (by rw [hn.out]; exact hlt)
      cases hb : vB (at0 zs k) with
      | false =>
        have cv := valid_any (at0 zs k) false (Lib.hid hb.symm)
        have hRf := hR.out.trans (allv_bad hlt hb)
        subst hRf
        clear hR hb
        generalize at0 zs k = x at *
        go_wp2_with (go_at_call 14; refine (cv _).mono ?_; rintro e w' ⟨rfl, rfl⟩)
        go_ret
        exact ⟨rfl, rfl⟩
      | true =>
        have cv := valid_any (at0 zs k) true (Lib.hid hb.symm)
        have hv2 : Hid (allv zs (k + 1) = true) := Lib.hid (by rw [allv, hv.out, hb]; rfl)
        clear hb
        generalize at0 zs k = x at *
        go_wp2_with (go_at_call 14; refine (cv _).mono ?_; rintro e w' ⟨rfl, rfl⟩)
        go_round
        case rel => exact ⟨k + 1, by omega, by go_num, hv2⟩
        case measure => simp [intOf]; omega
    · have e : k = n := by omega
      subst e
      have hRt := hR.out.trans hv.out
      subst hRt
      clear hR
      go_wp2
      go_ret
      exact ⟨rfl, rfl⟩

def sumE (zs : List Int) (n : Nat) : Int := if allv zs n = true then (if sm zs n ≤ 1000000000000 then 0 else 9) else 2
def sumV (zs : List Int) (n : Nat) : Int := if allv zs n = true then (if sm zs n ≤ 1000000000000 then sm zs n else 0) else 0
theorem sum_bad {zs : List Int} {n : Nat} (h : allv zs n = false) : sumV zs n = 0 ∧ sumE zs n = 2 := by
  unfold sumV sumE; rw [if_neg (by simp [h]), if_neg (by simp [h])]; exact ⟨rfl, rfl⟩
theorem sum_ok {zs : List Int} {n : Nat} (h : allv zs n = true) (h2 : sm zs n ≤ 1000000000000) : sumV zs n = sm zs n ∧ sumE zs n = 0 := by
  unfold sumV sumE; rw [if_pos h, if_pos h, if_pos h2, if_pos h2]; exact ⟨rfl, rfl⟩
theorem sum_big {zs : List Int} {n : Nat} (h : allv zs n = true) (h2 : 1000000000000 < sm zs n) : sumV zs n = 0 ∧ sumE zs n = 9 := by
  unfold sumV sumE; rw [if_pos h, if_pos h, if_neg (by omega), if_neg (by omega)]; exact ⟨rfl, rfl⟩
theorem two_eq {a b a' b' : Int} (h1 : a = a') (h2 : b = b') : Ending.returned (.tuple #[.int .i64 a, .int .i64 b]) = .returned (.tuple #[.int .i64 a', .int .i64 b']) := by rw [h1, h2]
theorem sm_over {zs : List Int} {n k : Nat} (hn : zs.length = n) (h : allv zs n = true) (hk : k < n) (h2 : 1000000000000 < sm zs k + at0 zs k) : 1000000000000 < sm zs n := by
  have := sm_mono (fun j => (allv_nn hn h j).1) (show k + 1 ≤ n by omega)
  rw [sm] at this; omega

set_option maxHeartbeats 1000000 in
theorem sum_any (A : Option Addr) (n c : Nat) (V E : Int) (zs : List Int) (hn : Hid (zs.length = n)) (hN : n ≤ 9223372036854775807) (hV : Hid (V = sumV zs n)) (hE : Hid (E = sumE zs n)) (w : World) (hI : Ints w A zs) :
    Calls Tryd.prog 12 #[.slice A n c] w fun e w' => e = .returned (.tuple #[.int .i64 V, .int .i64 E]) ∧ w = w' := by
  cases ha : allv zs n with
  | false =>
    have ca := fun w => allvalid_any A n c false zs hn hN (Lib.hid ha.symm) w
    obtain ⟨e1, e2⟩ := sum_bad ha
    rw [hV.out.trans e1, hE.out.trans e2]
    clear hV hE e1 e2 ha
    go_enter Tryd.func12, Tryd.ntmps12
    go_wp2_with (go_at_call 31; refine (ca _ hI).mono ?_; rintro e w' ⟨rfl, rfl⟩)
    go_ret2
    exact ⟨rfl, rfl⟩
  | true =>
    have ca := fun w => allvalid_any A n c true zs hn hN (Lib.hid ha.symm) w
    have HA := Lib.hid ha
    clear ha
    go_enter Tryd.func12, Tryd.ntmps12
    go_wp2_with (go_at_call 31; refine (ca _ hI).mono ?_; rintro e w' ⟨rfl, rfl⟩)
    go_loop [4, 12] (fun t i => ∃ (k : Nat) (s : Int), k ≤ n ∧ i = .int .i64 k ∧ t = .int .i64 s ∧ 0 ≤ s ∧ s ≤ 1000000000000 ∧ Hid (s = sm zs k)) (fun _ i => n - (intOf i).toNat)
    case atStart => exact ⟨0, 0, Nat.zero_le _, rfl, rfl, by omega, by omega, rfl⟩
    case round =>
      obtain ⟨k, s, hk, rfl, rfl, s0, s1, hs⟩ := hrel
      by_cases hlt : k < n
      · obtain ⟨ad, off, rfl, hx⟩ := hI.at_ (k := k) (by rw [hn.out]; exact hlt)
        obtain ⟨x0, x1⟩ := allv_nn hn.out HA.out k
        have hs2 : Hid (s + at0 zs k = sm zs (k + 1)) := Lib.hid (by rw [hs.out]; rfl)
        have hov : Hid (1000000000000 < s + at0 zs k → V = 0 ∧ E = 9) := fun h => by
          have := sum_big HA.out (sm_over hn.out HA.out hlt (by rw [← hs.out]; exact h))
          exact ⟨hV.out.trans this.1, hE.out.trans this.2⟩
        generalize at0 zs k = x at *
        by_cases h : 1000000000000 < s + x
        · obtain ⟨rfl, rfl⟩ := hov.out h
          clear hov hs2
          go_wp2
          go_ret2
          exact ⟨rfl, rfl⟩
        · go_wp2
          go_round
          case rel => exact ⟨k + 1, s + x, by omega, by go_num, rfl, by omega, by omega, hs2⟩
          case measure => simp [intOf]; omega
      · have e : k = n := by omega
        subst e
        have hok := sum_ok HA.out (by rw [← hs.out]; exact s1)
        have h1 : Hid (s = V) := Lib.hid (by rw [hV.out, hok.1, hs.out])
        have h2 := hE.out.trans hok.2
        subst h2
        clear hok hE hV
        go_wp2
        go_ret2
        exact ⟨two_eq h1.out rfl, rfl⟩

set_option maxHeartbeats 1000000 in
theorem rsum_any (A : Option Addr) (n c : Nat) (V E : Int) (zs : List Int) (hn : Hid (zs.length = n)) (hN : n ≤ 9223372036854775807) (hV : Hid (V = sumV zs n)) (hE : Hid (E = sumE zs n)) (w : World) (hI : Ints w A zs) :
    Calls Tryd.prog 13 #[.slice A n c] w fun e w' => e = .returned (.tuple #[.int .i64 V, .int .i64 E]) ∧ w = w' := by
  go_enter Tryd.func13, Tryd.ntmps13
  go_wp2
  go_loop [4] (fun i => ∃ k : Nat, k ≤ n ∧ i = .int .i64 k ∧ Hid (allv zs k = true)) (fun i => n - (intOf i).toNat)
  case atStart => exact ⟨0, Nat.zero_le _, rfl, rfl⟩
  case round =>
    obtain ⟨k, hk, rfl, hv⟩ := hrel
    by_cases hlt : k < n
    · obtain ⟨ad, off, rfl, hx⟩ := hI.at_ (k := k) (by rw [hn.out]; exact hlt)
      cases hb : vB (at0 zs k) with
      | false =>
        have cv := rvalid_any (at0 zs k) false (Lib.hid hb.symm)
        obtain ⟨e1, e2⟩ := sum_bad (allv_bad hlt hb)
        have e1' := hV.out.trans e1
        have e2' := hE.out.trans e2
        subst e1' e2'
        clear hV hE e1 e2 hb
        generalize at0 zs k = x at *
        go_wp2_with (go_at_call 15; refine (cv _).mono ?_; rintro e w' ⟨rfl, rfl⟩)
        go_ret2
        exact ⟨rfl, rfl⟩
      | true =>
        have cv := rvalid_any (at0 zs k) true (Lib.hid hb.symm)
        have hv2 : Hid (allv zs (k + 1) = true) := Lib.hid (by rw [allv, hv.out, hb]; rfl)
        clear hb
        generalize at0 zs k = x at *
        go_wp2_with (go_at_call 15; refine (cv _).mono ?_; rintro e w' ⟨rfl, rfl⟩)
        go_round
        case rel => exact ⟨k + 1, by omega, by go_num, hv2⟩
        case measure => simp [intOf]; omega
    · have e : k = n := by omega
      subst e
      have HA : Hid (allv zs k = true) := hv
      clear hv
      go_wp2
      go_loop [5, 6] (fun t i => ∃ (j : Nat) (s : Int), j ≤ k ∧ i = .int .i64 j ∧ t = .int .i64 s ∧ 0 ≤ s ∧ s ≤ 1000000000000 ∧ Hid (s = sm zs j)) (fun _ i => k - (intOf i).toNat)
      case atStart => exact ⟨0, 0, Nat.zero_le _, rfl, rfl, by omega, by omega, rfl⟩
      case round =>
        obtain ⟨j, s, hj, rfl, rfl, s0, s1, hs⟩ := hrel
        by_cases hlt2 : j < k
        · obtain ⟨ad, off, rfl, hx⟩ := hI.at_ (k := j) (by rw [hn.out]; exact hlt2)
          obtain ⟨x0, x1⟩ := allv_nn hn.out HA.out j
          have hs2 : Hid (s + at0 zs j = sm zs (j + 1)) := Lib.hid (by rw [hs.out]; rfl)
          have hov : Hid (1000000000000 < s + at0 zs j → V = 0 ∧ E = 9) := fun h => by
            have := sum_big HA.out (sm_over hn.out HA.out hlt2 (by rw [← hs.out]; exact h))
            exact ⟨hV.out.trans this.1, hE.out.trans this.2⟩
          generalize at0 zs j = x at *
          by_cases h : 1000000000000 < s + x
          · obtain ⟨rfl, rfl⟩ := hov.out h
            clear hov hs2
            go_wp2
            go_ret2
            exact ⟨rfl, rfl⟩
          · go_wp2
            go_round
            case rel => exact ⟨j + 1, s + x, by omega, by go_num, rfl, by omega, by omega, hs2⟩
            case measure => simp [intOf]; omega
        · have e : j = k := by omega
          subst e
          have hok := sum_ok HA.out (by rw [← hs.out]; exact s1)
          have h1 : Hid (s = V) := Lib.hid (by rw [hV.out, hok.1, hs.out])
          have h2 := hE.out.trans hok.2
          subst h2
          clear hok hE hV
          go_wp2
          go_ret2
          exact ⟨two_eq h1.out rfl, rfl⟩

/-! ### what a split is given -/
def spE (m : Int) (zs : List Int) (n : Nat) : Int :=
  if vB m = true then (if n < 1 ∨ 64 < n then 3 else if allv zs n = true then (if sm zs n = 0 then 10 else 0) else 2) else 2
def spW (m : Int) (zs : List Int) (n : Nat) : Int := if spE m zs n = 0 then sm zs n else 0
theorem sp_m {m : Int} {zs : List Int} {n : Nat} (h : vB m = false) : spW m zs n = 0 ∧ spE m zs n = 2 := by
  have e : spE m zs n = 2 := if_neg (by simp [h])
  exact ⟨by unfold spW; rw [e]; rfl, e⟩
theorem sp_n {m : Int} {zs : List Int} {n : Nat} (h : vB m = true) (h2 : n < 1 ∨ 64 < n) : spW m zs n = 0 ∧ spE m zs n = 3 := by
  have e : spE m zs n = 3 := by unfold spE; rw [if_pos h, if_pos h2]
  exact ⟨by unfold spW; rw [e]; rfl, e⟩
theorem sp_bad {m : Int} {zs : List Int} {n : Nat} (h : vB m = true) (h2 : ¬ (n < 1 ∨ 64 < n)) (h3 : allv zs n = false) : spW m zs n = 0 ∧ spE m zs n = 2 := by
  have e : spE m zs n = 2 := by unfold spE; rw [if_pos h, if_neg h2, if_neg (by simp [h3])]
  exact ⟨by unfold spW; rw [e]; rfl, e⟩
theorem sp_zero {m : Int} {zs : List Int} {n : Nat} (h : vB m = true) (h2 : ¬ (n < 1 ∨ 64 < n)) (h3 : allv zs n = true) (h4 : sm zs n = 0) : spW m zs n = 0 ∧ spE m zs n = 10 := by
  have e : spE m zs n = 10 := by unfold spE; rw [if_pos h, if_neg h2, if_pos h3, if_pos h4]
  exact ⟨by unfold spW; rw [e]; rfl, e⟩
theorem sp_ok {m : Int} {zs : List Int} {n : Nat} (h : vB m = true) (h2 : ¬ (n < 1 ∨ 64 < n)) (h3 : allv zs n = true) (h4 : ¬ sm zs n = 0) : spW m zs n = sm zs n ∧ spE m zs n = 0 := by
  have e : spE m zs n = 0 := by unfold spE; rw [if_pos h, if_neg h2, if_pos h3, if_neg h4]
  exact ⟨by unfold spW; rw [e]; rfl, e⟩
/-- a split that is accepted -/
theorem sp_inv {m : Int} {zs : List Int} {n : Nat} (hn : zs.length = n) (h : spE m zs n = 0) :
    (0 ≤ m ∧ m ≤ 1000000000000) ∧ (1 ≤ n ∧ n ≤ 64) ∧ (∀ j, 0 ≤ at0 zs j ∧ at0 zs j ≤ 1000000000000) ∧ allv zs n = true ∧ spW m zs n = sm zs n ∧ 0 < sm zs n ∧ sm zs n ≤ 64000000000000 := by
  have ew : spW m zs n = sm zs n := if_pos h
  unfold spE at h
  by_cases h1 : vB m = true
  · rw [if_pos h1] at h
    by_cases h2 : n < 1 ∨ 64 < n
    · rw [if_pos h2] at h; omega
    · rw [if_neg h2] at h
      by_cases h3 : allv zs n = true
      · rw [if_pos h3] at h
        have hv := allv_nn hn h3
        have h5 := sm_nonneg (fun j => (hv j).1) n
        have h6 := sm_le (fun j => (hv j).2) n
        by_cases h4 : sm zs n = 0
        · rw [if_pos h4] at h; omega
        · exact ⟨vB_iff.1 h1, by omega, hv, h3, ew, by omega, by omega⟩
      · rw [if_neg h3] at h; omega
  · rw [if_neg h1] at h; omega

set_option maxHeartbeats 1000000 in
theorem whole_any (m : Int) (A : Option Addr) (n c : Nat) (V E : Int) (zs : List Int) (hn : Hid (zs.length = n)) (hN : n ≤ 9223372036854775807) (hV : Hid (V = spW m zs n)) (hE : Hid (E = spE m zs n)) (w : World) (hI : Ints w A zs) :
    Calls Tryd.prog 32 #[.int .i64 m, .slice A n c] w fun e w' => e = .returned (.tuple #[.int .i64 V, .int .i64 E]) ∧ w = w' := by
  cases hm : vB m with
  | false =>
    have cv := valid_any m false (Lib.hid hm.symm)
    obtain ⟨e1, e2⟩ := sp_m (zs := zs) (n := n) hm
    rw [hV.out.trans e1, hE.out.trans e2]
    clear hV hE e1 e2 hm
    go_enter Tryd.func32, Tryd.ntmps32
    go_wp2_with (go_at_call 14; refine (cv _).mono ?_; rintro e w' ⟨rfl, rfl⟩)
    go_ret2
    exact ⟨rfl, rfl⟩
  | true =>
    have cv := valid_any m true (Lib.hid hm.symm)
    have HM := Lib.hid hm
    clear hm
    by_cases h0 : n = 0
    · obtain ⟨e1, e2⟩ := sp_n (zs := zs) HM.out (show n < 1 ∨ 64 < n by omega)
      rw [hV.out.trans e1, hE.out.trans e2]
      subst h0
      clear hV hE e1 e2
      go_enter Tryd.func32, Tryd.ntmps32
      go_wp2_with (go_at_call 14; refine (cv _).mono ?_; rintro e w' ⟨rfl, rfl⟩)
      go_ret2
      exact ⟨rfl, rfl⟩
    · have h0' : ((n : Int) == 0) = false := by simpa using h0
      by_cases h64 : 64 < n
      · obtain ⟨e1, e2⟩ := sp_n (zs := zs) HM.out (show n < 1 ∨ 64 < n by omega)
        rw [hV.out.trans e1, hE.out.trans e2]
        clear hV hE e1 e2 h0
        go_enter Tryd.func32, Tryd.ntmps32
        go_wp2_with (go_at_call 14; refine (cv _).mono ?_; rintro e w' ⟨rfl, rfl⟩)
        go_ret2
        exact ⟨rfl, rfl⟩
      · have h64' : ¬ (64 : Int) < (n : Int) := by omega
        have hle : n ≤ 64 := by omega
        have HN : Hid (¬ (n < 1 ∨ 64 < n)) := Lib.hid (by omega)
        clear h64 h0
        cases ha : allv zs n with
        | false =>
          have ca := fun w => allvalid_any A n c false zs hn hN (Lib.hid ha.symm) w
          obtain ⟨e1, e2⟩ := sp_bad HM.out HN.out ha
          rw [hV.out.trans e1, hE.out.trans e2]
          clear hV hE e1 e2 ha
          go_enter Tryd.func32, Tryd.ntmps32
          go_wp2_with (first | (go_at_call 14; refine (cv _).mono ?_; rintro e w' ⟨rfl, rfl⟩) | (go_at_call 31; refine (ca _ hI).mono ?_; rintro e w' ⟨rfl, rfl⟩))
          go_ret2
          exact ⟨rfl, rfl⟩
        | true =>
          have ca := fun w => allvalid_any A n c true zs hn hN (Lib.hid ha.symm) w
          have HA := Lib.hid ha
          clear ha
          go_enter Tryd.func32, Tryd.ntmps32
          go_wp2_with (first | (go_at_call 14; refine (cv _).mono ?_; rintro e w' ⟨rfl, rfl⟩) | (go_at_call 31; refine (ca _ hI).mono ?_; rintro e w' ⟨rfl, rfl⟩))
          go_loop [6, 25] (fun t i => ∃ (k : Nat) (s : Int), k ≤ n ∧ i = .int .i64 k ∧ t = .int .i64 s ∧ 0 ≤ s ∧ s ≤ 1000000000000 * k ∧ Hid (s = sm zs k)) (fun _ i => n - (intOf i).toNat)
          case atStart => exact ⟨0, 0, Nat.zero_le _, rfl, rfl, by omega, by omega, rfl⟩
          case round =>
            obtain ⟨k, s, hk, rfl, rfl, s0, s1, hs⟩ := hrel
            by_cases hlt : k < n
            · obtain ⟨ad, off, rfl, hx⟩ := hI.at_ (k := k) (by rw [hn.out]; exact hlt)
              obtain ⟨x0, x1⟩ := allv_nn hn.out HA.out k
              have hs2 : Hid (s + at0 zs k = sm zs (k + 1)) := Lib.hid (by rw [hs.out]; rfl)
              generalize at0 zs k = x at *
              go_wp2
              go_round
              case rel => exact ⟨k + 1, s + x, by omega, by go_num, rfl, by omega, by omega, hs2⟩
              case measure => simp [intOf]; omega
            · have e : k = n := by omega
              subst e
              by_cases hz : s = 0
              · obtain ⟨e1, e2⟩ := sp_zero HM.out HN.out HA.out (by rw [← hs.out]; exact hz)
                have e1' := hV.out.trans e1
                have e2' := hE.out.trans e2
                subst e1' e2' hz
                clear hV hE e1 e2 hs
                go_wp2
                go_ret2
                exact ⟨rfl, rfl⟩
              · obtain ⟨e1, e2⟩ := sp_ok HM.out HN.out HA.out (by rw [← hs.out]; exact hz)
                have h1 : Hid (s = V) := Lib.hid (by rw [hV.out, e1, hs.out])
                have e2' := hE.out.trans e2
                subst e2'
                have hz' : (s == 0) = false := by simpa using hz
                clear hV hE e1 e2 hs hz
                go_wp2
                go_ret2
                exact ⟨two_eq h1.out rfl, rfl⟩

set_option maxHeartbeats 1000000 in
theorem check_any (m : Int) (A : Option Addr) (n c : Nat) (V E : Int) (zs : List Int) (hn : Hid (zs.length = n)) (hN : n ≤ 9223372036854775807) (hV : Hid (V = spW m zs n)) (hE : Hid (E = spE m zs n)) (w : World) (hI : Ints w A zs) :
    Calls Tryd.prog 36 #[.int .i64 m, .slice A n c] w fun e w' => e = .returned (.tuple #[.int .i64 V, .int .i64 E]) ∧ w = w' := by
  cases hm : vB m with
  | false =>
    have cv := rvalid_any m false (Lib.hid hm.symm)
    obtain ⟨e1, e2⟩ := sp_m (zs := zs) (n := n) hm
    rw [hV.out.trans e1, hE.out.trans e2]
    clear hV hE e1 e2 hm
    go_enter Tryd.func36, Tryd.ntmps36
    go_wp2_with (go_at_call 15; refine (cv _).mono ?_; rintro e w' ⟨rfl, rfl⟩)
    go_ret2
    exact ⟨rfl, rfl⟩
  | true =>
    have cm := rvalid_any m true (Lib.hid hm.symm)
    have HM := Lib.hid hm
    clear hm
    by_cases h0 : n < 1
    · obtain ⟨e1, e2⟩ := sp_n (zs := zs) HM.out (show n < 1 ∨ 64 < n by omega)
      rw [hV.out.trans e1, hE.out.trans e2]
      clear hV hE e1 e2
      go_enter Tryd.func36, Tryd.ntmps36
      go_wp2_with (go_at_call 15; refine (cm _).mono ?_; rintro e w' ⟨rfl, rfl⟩)
      go_ret2
      exact ⟨rfl, rfl⟩
    · have h0' : decide ((n : Int) < 1) = false := by simp; omega
      by_cases h64 : 64 < n
      · obtain ⟨e1, e2⟩ := sp_n (zs := zs) HM.out (show n < 1 ∨ 64 < n by omega)
        rw [hV.out.trans e1, hE.out.trans e2]
        clear hV hE e1 e2 h0
        go_enter Tryd.func36, Tryd.ntmps36
        go_wp2_with (go_at_call 15; refine (cm _).mono ?_; rintro e w' ⟨rfl, rfl⟩)
        go_ret2
        exact ⟨rfl, rfl⟩
      · have h64' : decide ((64 : Int) < (n : Int)) = false := by simp; omega
        have hle : n ≤ 64 := by omega
        have HN : Hid (¬ (n < 1 ∨ 64 < n)) := Lib.hid (by omega)
        clear h64 h0
        go_enter Tryd.func36, Tryd.ntmps36
        go_wp2_with (go_at_call 15; refine (cm _).mono ?_; rintro e w' ⟨rfl, rfl⟩)
        go_loop [6, 7] (fun t i => ∃ (k : Nat) (s : Int), k ≤ n ∧ i = .int .i64 k ∧ t = .int .i64 s ∧ 0 ≤ s ∧ s ≤ 1000000000000 * k ∧ Hid (s = sm zs k) ∧ Hid (allv zs k = true)) (fun _ i => n - (intOf i).toNat)
        case atStart => exact ⟨0, 0, Nat.zero_le _, rfl, rfl, by omega, by omega, rfl, rfl⟩
        case round =>
          obtain ⟨k, s, hk, rfl, rfl, s0, s1, hs, hv⟩ := hrel
          clear cm
          by_cases hlt : k < n
          · obtain ⟨ad, off, rfl, hx⟩ := hI.at_ (k := k) (by rw [hn.out]; exact hlt)
            have hs2 : Hid (s + at0 zs k = sm zs (k + 1)) := Lib.hid (by rw [hs.out]; rfl)
            cases hb : vB (at0 zs k) with
            | false =>
              have cv := rvalid_any (at0 zs k) false (Lib.hid hb.symm)
              obtain ⟨e1, e2⟩ := sp_bad HM.out HN.out (allv_bad hlt hb)
              have e1' := hV.out.trans e1
              have e2' := hE.out.trans e2
              subst e1' e2'
              clear hV hE e1 e2 hb hs2
              generalize at0 zs k = x at *
              go_wp2_with (go_at_call 15; refine (cv _).mono ?_; rintro e w' ⟨rfl, rfl⟩)
              go_ret2
              exact ⟨rfl, rfl⟩
            | true =>
              have cv := rvalid_any (at0 zs k) true (Lib.hid hb.symm)
              have hv2 : Hid (allv zs (k + 1) = true) := Lib.hid (by rw [allv, hv.out, hb]; rfl)
              obtain ⟨x0, x1⟩ := vB_iff.1 hb
              clear hb
              generalize at0 zs k = x at *
              go_wp2_with (go_at_call 15; refine (cv _).mono ?_; rintro e w' ⟨rfl, rfl⟩)
              go_round
              case rel => exact ⟨k + 1, s + x, by omega, by go_num, rfl, by omega, by omega, hs2, hv2⟩
              case measure => simp [intOf]; omega
          · have e : k = n := by omega
            subst e
            by_cases hz : s = 0
            · obtain ⟨e1, e2⟩ := sp_zero HM.out HN.out hv.out (by rw [← hs.out]; exact hz)
              have e1' := hV.out.trans e1
              have e2' := hE.out.trans e2
              subst e1' e2' hz
              clear hV hE e1 e2 hs
              go_wp2
              go_ret2
              exact ⟨rfl, rfl⟩
            · obtain ⟨e1, e2⟩ := sp_ok HM.out HN.out hv.out (by rw [← hs.out]; exact hz)
              have h1 : Hid (s = V) := Lib.hid (by rw [hV.out, e1, hs.out])
              have e2' := hE.out.trans e2
              subst e2'
              have hz' : (s == 0) = false := by simpa using hz
              clear hV hE e1 e2 hs hz
              go_wp2
              go_ret2
              exact ⟨two_eq h1.out rfl, rfl⟩
end Go.Proofs.YtkblcnomjgocmaaDoor.monB

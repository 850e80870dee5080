/-
  Contracts of check and Rank of comb, of Check and Rank of the reference.
-/
import Derived.Test.YtjblfmgiafdefaaCbA
import Derived.Test.YtjblfmgiafdefaaMonB
namespace Go.Proofs.Ytjblfmgiafdefaa.cbC
open Go.RowKit
open Go.Proofs.Ytjblfmgiafdefaa.numM Go.Proofs.Ytjblfmgiafdefaa.numA Go.Proofs.Ytjblfmgiafdefaa.numB Go.Proofs.Ytjblfmgiafdefaa.numE Go.Proofs.Ytjblfmgiafdefaa.monM Go.Proofs.Ytjblfmgiafdefaa.monB Go.Proofs.Ytjblfmgiafdefaa.cbM Go.Proofs.Ytjblfmgiafdefaa.cbA
set_option linter.unusedVariables false

/-- the element before -/
def pv (zs : List Int) (k : Nat) : Int := if k = 0 then 0 else at0 zs (k - 1)
theorem pv_zero (zs : List Int) : pv zs 0 = 0 := rfl
theorem pv_succ (zs : List Int) (k : Nat) : pv zs (k + 1) = at0 zs k := by unfold pv; rw [if_neg (by omega), Nat.add_sub_cancel]
def st (m p x : Int) : Int := if x < 1 ∨ m < x then 2 else if x ≤ p then 1 else 0
/-- the first error among the first k elements -/
def ckE (m : Int) (zs : List Int) : Nat → Int
  | 0 => 0
  | k + 1 => if ckE m zs k = 0 then st m (pv zs k) (at0 zs k) else ckE m zs k
def chk (m : Int) (zs : List Int) : Int := if m < 0 ∨ 80 < m then 2 else ckE m zs zs.length
theorem ck_stays {m : Int} {zs : List Int} {k : Nat} (h : ckE m zs k ≠ 0) : ∀ {n : Nat}, k ≤ n → ckE m zs n = ckE m zs k
  | 0, hn => by rw [show k = 0 by omega]
  | n + 1, hn => by
    by_cases e : k = n + 1
    · rw [e]
    · have := ck_stays h (n := n) (by omega)
      rw [ckE, this, if_neg h]
theorem ck_all {m : Int} {zs : List Int} {n k : Nat} (h : ckE m zs n = 0) (hk : k ≤ n) : ckE m zs k = 0 := by
  by_cases e : ckE m zs k = 0
  · exact e
  · have := ck_stays e hk; rw [this] at h; exact absurd h e
theorem ck_each {m : Int} {zs : List Int} {n k : Nat} (h : ckE m zs n = 0) (hk : k < n) : st m (pv zs k) (at0 zs k) = 0 := by
  have := ck_all h (show k + 1 ≤ n by omega)
  rw [ckE, if_pos (ck_all h (by omega))] at this
  exact this
theorem st_zero {m p x : Int} (h : st m p x = 0) : 1 ≤ x ∧ x ≤ m ∧ p < x := by
  unfold st at h
  split at h
  · cases h
  · split at h
    · cases h
    · omega
theorem st_ok {m p x : Int} (h1 : 1 ≤ x) (h2 : x ≤ m) (h3 : p < x) : st m p x = 0 := by unfold st; rw [if_neg (by omega), if_neg (by omega)]
theorem st_out {m p x : Int} (h : x < 1 ∨ m < x) : st m p x = 2 := if_pos h
theorem st_ord {m p x : Int} (h : ¬ (x < 1 ∨ m < x)) (h2 : x ≤ p) : st m p x = 1 := by unfold st; rw [if_neg h, if_pos h2]
theorem pv_ge {m : Int} {zs : List Int} (h : ckE m zs zs.length = 0) (k : Nat) (hk : k ≤ zs.length) : 0 ≤ pv zs k := by
  cases k with
  | zero => rw [pv_zero]; omega
  | succ k => rw [pv_succ]; have := st_zero (ck_each h (show k < zs.length by omega)); omega
theorem ck_asc {n : Nat} {zs : List Int} (h : ckE n zs zs.length = 0) : ∀ (d i : Nat), i + d = zs.length → Asc n (pv zs i).toNat (zs.drop i)
  | 0, i, hi => by rw [List.drop_eq_nil_of_le (by omega)]; trivial
  | d + 1, i, hi => by
    have ih := ck_asc h d (i + 1) (by omega)
    have hs := st_zero (ck_each h (show i < zs.length by omega))
    have hp := pv_ge h i (by omega)
    rw [pv_succ] at ih
    rw [drop_at (by omega)]
    exact ⟨by omega, hs.2.1, ih⟩
theorem asc_ck {n : Nat} {zs : List Int} (h : Asc n 0 zs) : ∀ i : Nat, i ≤ zs.length → ckE n zs i = 0 ∧ Asc n (pv zs i).toNat (zs.drop i) ∧ 0 ≤ pv zs i
  | 0, _ => ⟨rfl, h, by rw [pv_zero]; omega⟩
  | i + 1, hi => by
    obtain ⟨a, b, c⟩ := asc_ck h i (by omega)
    rw [drop_at (by omega)] at b
    obtain ⟨b1, b2, b3⟩ := b
    rw [pv_succ]
    refine ⟨?_, b3, by omega⟩
    rw [ckE, if_pos a]
    exact st_ok (by omega) b2 (by omega)
theorem chk_asc {n : Nat} {zs : List Int} (h : chk n zs = 0) : n ≤ 80 ∧ Asc n 0 zs ∧ ckE n zs zs.length = 0 := by
  unfold chk at h
  split at h
  · cases h
  · exact ⟨by omega, ck_asc h zs.length 0 (by omega), h⟩
theorem asc_chk {n : Nat} {zs : List Int} (hn : n ≤ 80) (h : Asc n 0 zs) : chk n zs = 0 := by
  unfold chk; rw [if_neg (by omega)]; exact (asc_ck h _ (Nat.le_refl _)).1
theorem asc_at {n : Nat} {zs : List Int} (h : Asc n 0 zs) {i : Nat} (hi : i < zs.length) : 0 ≤ pv zs i ∧ pv zs i < at0 zs i ∧ at0 zs i ≤ n := by
  obtain ⟨a, b, c⟩ := asc_ck h i (by omega)
  rw [drop_at hi] at b
  exact ⟨c, by have := b.1; omega, b.2.1⟩

set_option maxHeartbeats 1000000 in
theorem check_any (A : Option Addr) (n c : Nat) (m E : Int) (zs : List Int) (hn : Hid (zs.length = n)) (hN : n ≤ 9223372036854775807) (hE : Hid (E = chk m zs)) (w : World) (hI : Ints w A zs) :
    Calls Try.prog 38 #[.slice A n c, .int .i64 m] w fun e w' => e = .returned (.int .i64 E) ∧ w = w' := by
  by_cases g : m < 0 ∨ 80 < m
  · have cs := fun w => size_any m false (Lib.hid (decide_eq_false (by omega)).symm) w
    obtain rfl : E = 2 := by rw [hE.out]; exact if_pos g
    go_enter Try.func38, Try.ntmps38
    go_wp2_with (go_at_call 26; refine (cs _).mono ?_; rintro e w' ⟨rfl, rfl⟩)
    go_ret
    exact ⟨rfl, rfl⟩
  · have cs := fun w => size_any m true (Lib.hid (decide_eq_true (by omega)).symm) w
    have HE : Hid (E = ckE m zs n) := Lib.hid (by rw [hE.out, ← hn.out]; exact if_neg g)
    clear hE g
    go_enter Try.func38, Try.ntmps38
    go_wp2_with (go_at_call 26; refine (cs _).mono ?_; rintro e w' ⟨rfl, rfl⟩)
    go_loop [5, 13] (fun b i => ∃ (k : Nat) (p : Int), k ≤ n ∧ i = .int .i64 k ∧ b = .int .i64 p ∧ Hid (p = pv zs k) ∧ Hid (ckE m zs k = 0)) (fun _ i => n - (intOf i).toNat)
    case atStart => exact ⟨0, 0, Nat.zero_le _, rfl, rfl, Lib.hid (pv_zero zs).symm, Lib.hid rfl⟩
    case round =>
      obtain ⟨k, p, hk, rfl, rfl, hp, hc⟩ := hrel
      by_cases hlt : k < n
      · obtain ⟨ad, off, rfl, hx⟩ := hI.at_ (k := k) (by rw [hn.out]; exact hlt)
        have hs : ckE m zs (k + 1) = st m p (at0 zs k) := by rw [ckE, if_pos hc.out, hp.out]
        have hE1 : st m p (at0 zs k) ≠ 0 → E = st m p (at0 zs k) := fun h => by
          rw [HE.out, ck_stays (k := k + 1) (by rw [hs]; exact h) (by omega), hs]
        have hp2 : Hid (at0 zs k = pv zs (k + 1)) := Lib.hid (pv_succ zs k).symm
        generalize at0 zs k = x at *
        by_cases h1 : x < 1
        · have e := st_out (m := m) (p := p) (x := x) (.inl h1)
          rw [e] at hE1 hs
          obtain rfl := hE1 (by omega)
          clear hE1 hs e
          go_wp2_with fail
          go_ret
          exact ⟨rfl, rfl⟩
        by_cases h2 : m < x
        · have e := st_out (m := m) (p := p) (x := x) (.inr h2)
          rw [e] at hE1 hs
          obtain rfl := hE1 (by omega)
          clear hE1 hs e
          go_wp2_with fail
          go_ret
          exact ⟨rfl, rfl⟩
        by_cases h3 : x ≤ p
        · have e := st_ord (m := m) (p := p) (x := x) (by omega) h3
          rw [e] at hE1 hs
          obtain rfl := hE1 (by omega)
          clear hE1 hs e
          go_wp2_with fail
          go_ret
          exact ⟨rfl, rfl⟩
        · rw [st_ok (by omega) (by omega) (by omega)] at hs
          have HS := Lib.hid hs
          clear hE1 hs
          go_wp2_with fail
          go_round
          case rel => exact ⟨k + 1, x, by omega, by go_num, rfl, hp2, HS⟩
          case measure => simp [intOf]; omega
      · obtain rfl : k = n := by omega
        obtain rfl : E = 0 := HE.out.trans hc.out
        go_wp2_with fail
        go_ret
        exact ⟨rfl, rfl⟩

set_option maxHeartbeats 1000000 in
theorem rcheck_any (A : Option Addr) (n c : Nat) (m E : Int) (zs : List Int) (hn : Hid (zs.length = n)) (hN : n ≤ 9223372036854775807) (hE : Hid (E = chk m zs)) (w : World) (hI : Ints w A zs) :
    Calls Try.prog 40 #[.slice A n c, .int .i64 m] w fun e w' => e = .returned (.int .i64 E) ∧ ∃ d, w' = w.drewN d := by
  by_cases g : m < 0 ∨ 80 < m
  · have cs := fun w => in_any m 80 false (Lib.hid (decide_eq_false (by omega)).symm) w
    obtain rfl : E = 2 := by rw [hE.out]; exact if_pos g
    go_enter Try.func40, Try.ntmps40
    go_wp2_with (go_at_call 30; refine (cs _).mono ?_; rintro e w' ⟨rfl, rfl⟩)
    go_ret
    exact ⟨rfl, 0, rfl⟩
  · have cs := fun w => in_any m 80 true (Lib.hid (decide_eq_true (by omega)).symm) w
    have HE : Hid (E = ckE m zs n) := Lib.hid (by rw [hE.out, ← hn.out]; exact if_neg g)
    clear hE g
    go_enter Try.func40, Try.ntmps40
    go_wp2_with (go_at_call 30; refine (cs _).mono ?_; rintro e w' ⟨rfl, rfl⟩)
    go_loopw [5] (fun i wr => ∃ k d : Nat, k ≤ n ∧ i = .int .i64 k ∧ Hid (ckE m zs k = 0) ∧ wr = w.drewN d) (fun i _ => n - (intOf i).toNat)
    case atStart => exact ⟨0, 0, Nat.zero_le _, rfl, Lib.hid rfl, rfl⟩
    case round =>
      obtain ⟨k, d, hk, rfl, hc, rfl⟩ := hrel
      by_cases hlt : k < n
      · have hs : ckE m zs (k + 1) = st m (pv zs k) (at0 zs k) := by rw [ckE, if_pos hc.out]
        have hE1 : st m (pv zs k) (at0 zs k) ≠ 0 → E = st m (pv zs k) (at0 zs k) := fun h => by
          rw [HE.out, ck_stays (k := k + 1) (by rw [hs]; exact h) (by omega), hs]
        by_cases hk0 : k = 0
        · subst hk0
          rw [pv_zero] at hs hE1
          obtain ⟨ad, off, rfl, hx⟩ := hI.at_ (k := 0) (by rw [hn.out]; exact hlt)
          rw [Nat.add_zero] at hx
          generalize at0 zs 0 = x at *
          by_cases h1 : x < 1
          · have e := st_out (m := m) (p := 0) (x := x) (.inl h1)
            rw [e] at hE1 hs
            obtain rfl := hE1 (by omega)
            clear hE1 hs e
            go_wp2_with fail
            go_ret
            exact ⟨rfl, _, rfl⟩
          by_cases h2 : m < x
          · have e := st_out (m := m) (p := 0) (x := x) (.inr h2)
            rw [e] at hE1 hs
            obtain rfl := hE1 (by omega)
            clear hE1 hs e
            go_wp2_with fail
            go_ret
            exact ⟨rfl, _, rfl⟩
          rw [st_ok (by omega) (by omega) (by omega)] at hs
          have HS := Lib.hid hs
          clear hE1 hs
          go_wp2_with fail
          go_quiet (fail)
          go_wp2_with fail
          go_roundw
          case rel => exact ⟨1, _, by omega, by go_num, HS, rfl⟩
          case measure => simp [intOf]; omega
        · obtain ⟨t, rfl⟩ : ∃ t, k = t + 1 := ⟨k - 1, by omega⟩
          rw [pv_succ] at hs hE1
          obtain ⟨ad, off, rfl, hx, hy⟩ := hI.two (k := t + 1) (g := t) (by rw [hn.out]; exact hlt) (by rw [hn.out]; omega)
          generalize at0 zs (t + 1) = x at *
          generalize at0 zs t = p at *
          have i0 : (0 : Int) ≤ (t : Int) := by omega
          have i1 : (t : Int) < (n : Int) := by omega
          have i2 : (0 : Int) ≤ (t : Int) + 1 := by omega
          have i3 : (t : Int) + 1 < (n : Int) := by omega
          have i4 : decide ((0 : Int) < (t : Int) + 1) = true := decide_eq_true (by omega)
          by_cases h1 : x < 1
          · have e := st_out (m := m) (p := p) (x := x) (.inl h1)
            rw [e] at hE1 hs
            obtain rfl := hE1 (by omega)
            clear hE1 hs e
            go_wp2_with fail
            go_ret
            exact ⟨rfl, _, rfl⟩
          by_cases h2 : m < x
          · have e := st_out (m := m) (p := p) (x := x) (.inr h2)
            rw [e] at hE1 hs
            obtain rfl := hE1 (by omega)
            clear hE1 hs e
            go_wp2_with fail
            go_ret
            exact ⟨rfl, _, rfl⟩
          by_cases h3 : x ≤ p
          · have e := st_ord (m := m) (p := p) (x := x) (by omega) h3
            rw [e] at hE1 hs
            obtain rfl := hE1 (by omega)
            clear hE1 hs e
            go_wp2_with fail
            go_quiet (fail)
            go_wp2_with fail
            go_ret
            exact ⟨rfl, _, World.drewN_drewN _ _ _⟩
          · rw [st_ok (by omega) (by omega) (by omega)] at hs
            have HS := Lib.hid hs
            clear hE1 hs
            go_wp2_with fail
            go_quiet (fail)
            go_wp2_with fail
            go_roundw
            case rel => exact ⟨t + 1 + 1, _, by omega, by go_num, HS, rfl⟩
            case measure => simp [intOf]; omega
      · obtain rfl : k = n := by omega
        obtain rfl : E = 0 := HE.out.trans hc.out
        go_wp2_with fail
        go_ret
        exact ⟨rfl, _, rfl⟩

/-! ### Rank -/
def rkE (m : Int) (zs : List Int) : Int := if chk m zs = 0 then (if ch m.toNat zs.length ≤ 9223372036854775807 then 0 else 9) else chk m zs
def rkV (m : Int) (zs : List Int) : Int := if rkE m zs = 0 then ((ch m.toNat zs.length - 1 - gl m.toNat zs : Nat) : Int) else 0
theorem rk_no {m : Int} {zs : List Int} (h : chk m zs ≠ 0) : rkV m zs = 0 ∧ rkE m zs = chk m zs := by
  have e : rkE m zs = chk m zs := if_neg h
  exact ⟨by unfold rkV; rw [e, if_neg h], e⟩
theorem rk_over {m : Nat} {zs : List Int} (h : chk m zs = 0) (h2 : 9223372036854775807 < ch m zs.length) : rkV m zs = 0 ∧ rkE m zs = 9 := by
  have e : rkE m zs = 9 := by unfold rkE; rw [if_pos h, if_neg (by rw [Int.toNat_natCast]; omega)]
  exact ⟨by unfold rkV; rw [e]; rfl, e⟩
theorem rk_ok {m : Nat} {zs : List Int} (h : chk m zs = 0) (h2 : ch m zs.length ≤ 9223372036854775807) : rkV m zs = ((ch m zs.length - 1 - gl m zs : Nat) : Int) ∧ rkE m zs = 0 := by
  have e : rkE m zs = 0 := by unfold rkE; rw [if_pos h, if_pos (by rw [Int.toNat_natCast]; exact h2)]
  exact ⟨by unfold rkV; rw [e, if_pos rfl, Int.toNat_natCast], e⟩
theorem ci {n k : Nat} {V E : Int} (hn : n ≤ 80) {q : Nat} (hq : q = ch n k) (g : q ≤ 9223372036854775807) : cV n k = (q : Int) ∧ cE n k = 0 := by
  have hc := c_ok (n := (n : Int)) (k := (k : Int)) (by omega) (by omega) (by rw [cC_nat, ← hq]; exact g)
  rw [cC_nat, ← hq] at hc
  exact hc
set_option maxHeartbeats 1000000 in
theorem rank_any (A : Option Addr) (n c : Nat) (m V E : Int) (zs : List Int) (hn : Hid (zs.length = n)) (hN : n ≤ 9223372036854775807) (hV : Hid (V = rkV m zs)) (hE : Hid (E = rkE m zs)) (w : World) (hI : Ints w A zs) :
    Calls Try.prog 18 #[.slice A n c, .int .i64 m] w fun e w' => e = .returned (.tuple #[.int .i64 V, .int .i64 E]) ∧ ∃ d, w' = w.drewN d := by
  obtain ⟨F, hF⟩ : ∃ F, Hid (F = chk m zs) := ⟨_, Lib.hid rfl⟩
  have ck := fun w => check_any A n c m F zs hn hN hF w
  by_cases g : F = 0
  · subst g
    have hr : 0 ≤ m ∧ m ≤ 80 := by
      have := hF.out
      unfold chk at this
      by_cases c : m < 0 ∨ 80 < m
      · rw [if_pos c] at this; cases this
      · omega
    obtain ⟨N, rfl⟩ := Int.eq_ofNat_of_zero_le hr.1
    obtain ⟨h80, hA, -⟩ := chk_asc hF.out.symm
    obtain ⟨C, hC⟩ : ∃ C, C = ch N n := ⟨_, rfl⟩
    by_cases go : 9223372036854775807 < C
    · have ho := rk_over (zs := zs) hF.out.symm (by rw [hn.out, ← hC]; exact go)
      obtain rfl : V = 0 := hV.out.trans ho.1
      obtain rfl : E = 9 := hE.out.trans ho.2
      have hc := c_over (n := (N : Int)) (k := (n : Int)) (by omega) (by omega) (by rw [cC_nat, ← hC]; exact go)
      have cc := fun w => count_any (N : Int) (n : Int) 0 9 (Lib.hid hc.1.symm) (Lib.hid hc.2.symm) w
      clear hc ho hC go hV hE hr
      go_enter Try.func18, Try.ntmps18
      go_wp2_with (first
        | (go_at_call 38; (with_reducible refine (ck _ hI).mono ?_); rintro e w' ⟨rfl, rfl⟩)
        | (go_at_call 12; (with_reducible refine (cc _).mono ?_); rintro e w' ⟨rfl, d, rfl⟩))
      go_ret2
      exact ⟨rfl, _, rfl⟩
    · have ho := rk_ok (zs := zs) hF.out.symm (by rw [hn.out, ← hC]; omega)
      rw [hn.out, ← hC] at ho
      have hVV := hV.out.trans ho.1
      obtain rfl : E = 0 := hE.out.trans ho.2
      have hc := ci (V := 0) (E := 0) h80 hC (by omega)
      have cc := fun w => count_any (N : Int) (n : Int) (C : Int) 0 (Lib.hid hc.1.symm) (Lib.hid hc.2.symm) w
      have hgl := gl_le (n := N) (by omega) hA
      rw [Nat.sub_zero, hn.out, ← hC] at hgl
      obtain ⟨G, hG⟩ : ∃ G, Hid (G = gl N zs) := ⟨_, Lib.hid rfl⟩
      rw [← hG.out] at hgl hVV
      clear hc ho hC hV hE hr
      have HA := Lib.hid hA
      clear hA
      go_enter Try.func18, Try.ntmps18
      go_wp2_with (first
        | (go_at_call 38; (with_reducible refine (ck _ hI).mono ?_); rintro e w' ⟨rfl, rfl⟩)
        | (go_at_call 12; (with_reducible refine (cc _).mono ?_); rintro e w' ⟨rfl, d, rfl⟩))
      go_loopw [9, 32] (fun s9 s32 wr => ∃ i r d : Nat, i ≤ n ∧ s32 = .int .i64 (i : Int) ∧ s9 = .int .i64 (r : Int) ∧ r < C ∧ Hid (r + G + 1 = C + gl N (zs.drop i)) ∧ wr = w.drewN d) (fun _ s32 _ => n - (intOf s32).toNat)
      case atStart => exact ⟨0, C - 1, d, by omega, rfl, by congr 1; omega, by omega, Lib.hid (by rw [List.drop_zero, ← hG.out]; omega), rfl⟩
      case round =>
        obtain ⟨i, r, d1, hi, rfl, rfl, hrC, H, rfl⟩ := hrel
        by_cases hlt : i < n
        · obtain ⟨ad, off, rfl, hx⟩ := hI.at_ (k := i) (by rw [hn.out]; exact hlt)
          have h1 := gl_drop (n := N) (l := zs) (i := i) (by rw [hn.out]; exact hlt)
          have h2 := asc_at HA.out (i := i) (by rw [hn.out]; exact hlt)
          have h3 := gl_drop_le N i zs
          rw [← hG.out] at h3
          rw [hn.out] at h1
          have hH := H.out
          obtain ⟨x, hx0⟩ : ∃ x : Nat, at0 zs i = (x : Int) := ⟨(at0 zs i).toNat, by omega⟩
          rw [hx0] at hx h1 h2
          rw [Int.toNat_natCast] at h1
          obtain ⟨q, hq⟩ : ∃ q, Hid (q = ch (N - x) (n - i)) := ⟨_, Lib.hid rfl⟩
          rw [← hq.out] at h1
          have cg := fun w => greater_any N x (n - i) q hq h80 (by omega) (by omega) (by omega) w
          have e1 : IntKind.i64.wrap ((n : Int) - (i : Int)) = ((n - i : Nat) : Int) := by rw [IntWalk.i64_in _ (by omega)]; omega
          have e2 : IntKind.i64.wrap ((r : Int) - (q : Int)) = ((r - q : Nat) : Int) := by rw [IntWalk.i64_in _ (by omega)]; omega
          have HS : Hid (r - q + G + 1 = C + gl N (zs.drop (i + 1))) := Lib.hid (by omega)
          clear h1 h2 h3 hH hx0
          go_wp2_with (go_at_call 39; (with_reducible refine (cg _).mono ?_); rintro e w' ⟨rfl, kk, rfl⟩)
          go_roundw
          case rel => exact ⟨i + 1, r - q, _, by omega, by go_num, rfl, by omega, HS, rfl⟩
          case measure => simp [intOf]; omega
        · obtain rfl : i = n := by omega
          have hH := H.out
          rw [List.drop_eq_nil_of_le (by rw [hn.out]; omega)] at hH
          have hg0 : gl N [] = 0 := rfl
          rw [hg0] at hH
          obtain rfl : r = C - 1 - G := by omega
          rw [← hVV]
          clear hH hg0
          go_wp2_with fail
          go_ret2
          exact ⟨rfl, _, rfl⟩
  · have hno := rk_no (m := m) (zs := zs) (by rw [← hF.out]; exact g)
    rw [← hF.out] at hno
    obtain rfl : V = 0 := hV.out.trans hno.1
    obtain rfl : E = F := hE.out.trans hno.2
    have gb : (E != 0) = true := by simpa using g
    clear hV hE hno hF g
    go_enter Try.func18, Try.ntmps18
    go_wp2_with (first
      | (go_at_call 38; (with_reducible refine (ck _ hI).mono ?_); rintro e w' ⟨rfl, rfl⟩))
    go_ret2
    exact ⟨rfl, 0, rfl⟩
set_option maxHeartbeats 2000000 in
theorem rrank_any (A : Option Addr) (n c : Nat) (m V E : Int) (zs : List Int) (hn : Hid (zs.length = n)) (hN : n ≤ 9223372036854775807) (hV : Hid (V = rkV m zs)) (hE : Hid (E = rkE m zs)) (w : World) (hI : Ints w A zs) :
    Calls Try.prog 19 #[.slice A n c, .int .i64 m] w fun e w' => e = .returned (.tuple #[.int .i64 V, .int .i64 E]) ∧ ∃ d, w' = w.drewN d := by
  obtain ⟨F, hF⟩ : ∃ F, Hid (F = chk m zs) := ⟨_, Lib.hid rfl⟩
  have ck := fun w => rcheck_any A n c m F zs hn hN hF w
  by_cases g : F = 0
  · subst g
    have hr : 0 ≤ m ∧ m ≤ 80 := by
      have := hF.out
      unfold chk at this
      by_cases c : m < 0 ∨ 80 < m
      · rw [if_pos c] at this; cases this
      · omega
    obtain ⟨N, rfl⟩ := Int.eq_ofNat_of_zero_le hr.1
    obtain ⟨h80, hA, -⟩ := chk_asc hF.out.symm
    obtain ⟨C, hC⟩ : ∃ C, C = ch N n := ⟨_, rfl⟩
    by_cases go : 9223372036854775807 < C
    · have ho := rk_over (zs := zs) hF.out.symm (by rw [hn.out, ← hC]; exact go)
      obtain rfl : V = 0 := hV.out.trans ho.1
      obtain rfl : E = 9 := hE.out.trans ho.2
      have hc := c_over (n := (N : Int)) (k := (n : Int)) (by omega) (by omega) (by rw [cC_nat, ← hC]; exact go)
      have cc := fun w => rcount_any (N : Int) (n : Int) 0 9 (Lib.hid hc.1.symm) (Lib.hid hc.2.symm) w
      clear hc ho hC go hV hE hr
      go_enter Try.func19, Try.ntmps19
      go_wp2_with (first
        | (go_at_call 40; (with_reducible refine (ck _ hI).mono ?_); rintro e w' ⟨rfl, d, rfl⟩)
        | (go_at_call 13; (with_reducible refine (cc _).mono ?_); rintro e w' ⟨rfl, d2, rfl⟩))
      go_ret2
      exact ⟨rfl, _, rfl⟩
    · have ho := rk_ok (zs := zs) hF.out.symm (by rw [hn.out, ← hC]; omega)
      rw [hn.out, ← hC] at ho
      have hVV := hV.out.trans ho.1
      obtain rfl : E = 0 := hE.out.trans ho.2
      have hc := ci (V := 0) (E := 0) h80 hC (by omega)
      have cc := fun w => rcount_any (N : Int) (n : Int) (C : Int) 0 (Lib.hid hc.1.symm) (Lib.hid hc.2.symm) w
      obtain ⟨G, hG⟩ : ∃ G, Hid (G = gl N zs) := ⟨_, Lib.hid rfl⟩
      rw [← hG.out] at hVV
      have HC := Lib.hid hC
      clear hc ho hC hV hE hr
      have HA := Lib.hid hA
      clear hA
      go_enter Try.func19, Try.ntmps19
      go_wp2_with (first
        | (go_at_call 40; (with_reducible refine (ck _ hI).mono ?_); rintro e w' ⟨rfl, d, rfl⟩)
        | (go_at_call 13; (with_reducible refine (cc _).mono ?_); rintro e w' ⟨rfl, d2, rfl⟩))
      go_loopw [9, 10, 11] (fun s9 s10 s11 wr => ∃ i r p d : Nat, i ≤ n ∧ s11 = .int .i64 (i : Int) ∧ s9 = .int .i64 (r : Int) ∧ s10 = .int .i64 (p : Int) ∧ p ≤ N ∧ r ≤ C ∧ Hid (pv zs i = (p : Int)) ∧ Hid (r + ch (N - p) (n - i) + G = C + gl N (zs.drop i)) ∧ wr = w.drewN d) (fun _ _ s11 _ => n - (intOf s11).toNat)
      case atStart => exact ⟨0, 0, 0, _, by omega, rfl, rfl, rfl, by omega, by omega, Lib.hid rfl, Lib.hid (by rw [List.drop_zero, ← hG.out, Nat.sub_zero, Nat.sub_zero, ← HC.out]; omega), rfl⟩
      case round =>
        obtain ⟨i, r, p, d1, hi, rfl, rfl, rfl, hpN, hrC, hp, H, rfl⟩ := hrel
        by_cases hlt : i < n
        · obtain ⟨ad, off, rfl, hx⟩ := hI.at_ (k := i) (by rw [hn.out]; exact hlt)
          have h1 := gl_drop (n := N) (l := zs) (i := i) (by rw [hn.out]; exact hlt)
          have h2 := asc_at HA.out (i := i) (by rw [hn.out]; exact hlt)
          have h3 := gl_drop_le N i zs
          rw [← hG.out] at h3
          rw [hn.out] at h1
          rw [hp.out] at h2
          obtain ⟨x, hx0⟩ : ∃ x : Nat, at0 zs i = (x : Int) := ⟨(at0 zs i).toNat, by omega⟩
          rw [hx0] at hx h1 h2
          rw [Int.toNat_natCast] at h1
          have hpx : p < x := by omega
          have hxN : x ≤ N := by omega
          have HX := Lib.hid hx0
          have H1 := Lib.hid h1
          have H3 := Lib.hid h3
          clear h1 h2 h3 hx0
          go_wp2_with fail
          go_loopw [9, 12] (fun s9 s12 wr => ∃ r v d : Nat, p < v ∧ v ≤ x ∧ s12 = .int .i64 (v : Int) ∧ s9 = .int .i64 (r : Int) ∧ r ≤ C ∧ Hid (r + ch (N + 1 - v) (n - i) + G = C + gl N (zs.drop i)) ∧ wr = w.drewN d) (fun _ s12 _ => x - (intOf s12).toNat)
          case atStart => exact ⟨r, p + 1, _, by omega, by omega, by go_num, rfl, hrC, Lib.hid (by rw [show N + 1 - (p + 1) = N - p by omega]; exact H.out), rfl⟩
          case round =>
            obtain ⟨r, v, d2, hv1, hv2, rfl, rfl, hr2, H2, rfl⟩ := hrel
            have hH := H2.out
            rw [show N + 1 - v = N - v + 1 by omega, show n - i = n - i - 1 + 1 by omega, ch_succ] at hH
            have hi1 := H1.out
            have hi3 := H3.out
            by_cases hlt2 : v < x
            · obtain ⟨q, hq⟩ : ∃ q, Hid (q = ch (N - v) (n - i - 1)) := ⟨_, Lib.hid rfl⟩
              rw [← hq.out] at hH
              have hc2 := ci (V := 0) (E := 0) (show N - v ≤ 80 by omega) hq.out (by omega)
              have cr := fun w => rcount_any ((N - v : Nat) : Int) ((n - i - 1 : Nat) : Int) (q : Int) 0 (Lib.hid hc2.1.symm) (Lib.hid hc2.2.symm) w
              have e1 : IntKind.i64.wrap ((N : Int) - (v : Int)) = ((N - v : Nat) : Int) := by rw [IntWalk.i64_in _ (by omega)]; omega
              have e2 : IntKind.i64.wrap ((n : Int) - 1) = ((n - 1 : Nat) : Int) := by rw [IntWalk.i64_in _ (by omega)]; omega
              have e3 : IntKind.i64.wrap (((n - 1 : Nat) : Int) - (i : Int)) = ((n - i - 1 : Nat) : Int) := by rw [IntWalk.i64_in _ (by omega)]; omega
              have e4 : IntKind.i64.wrap ((r : Int) + (q : Int)) = ((r + q : Nat) : Int) := by rw [IntWalk.i64_in _ (by omega)]; omega
              have HS : Hid (r + q + ch (N + 1 - (v + 1)) (n - i) + G = C + gl N (zs.drop i)) := Lib.hid (by
                rw [show N + 1 - (v + 1) = N - v by omega, show n - i = n - i - 1 + 1 by omega]; omega)
              have hrq : r + q ≤ C := by omega
              clear hc2 hH hi1 hi3
              go_wp2_with (go_at_call 13; (with_reducible refine (cr _).mono ?_); rintro e w' ⟨rfl, kk, rfl⟩)
              go_roundw
              case rel => exact ⟨r + q, v + 1, _, by omega, by omega, by go_num, rfl, hrq, HS, rfl⟩
              case measure => simp [intOf]; omega
            · obtain rfl : v = x := by omega
              have HS : Hid (r + ch (N - v) (n - (i + 1)) + G = C + gl N (zs.drop (i + 1))) := Lib.hid (by
                rw [show n - i - 1 + 1 = n - i by omega] at hH
                rw [show n - (i + 1) = n - i - 1 by omega]; omega)
              have HP : Hid (pv zs (i + 1) = (v : Int)) := Lib.hid ((pv_succ zs i).trans HX.out)
              clear hH hi1 hi3
              go_wp2_with fail
              go_roundw
              case rel => exact ⟨i + 1, r, v, _, by omega, by go_num, rfl, rfl, hxN, hr2, HP, HS, rfl⟩
              case measure => simp [intOf]; omega
        · obtain rfl : i = n := by omega
          have hH := H.out
          rw [List.drop_eq_nil_of_le (by rw [hn.out]; omega), Nat.sub_self, ch_zero] at hH
          have hg0 : gl N [] = 0 := rfl
          rw [hg0] at hH
          obtain rfl : r = C - 1 - G := by omega
          rw [← hVV]
          clear hH hg0
          go_wp2_with fail
          go_ret2
          exact ⟨rfl, _, rfl⟩
  · have hno := rk_no (m := m) (zs := zs) (by rw [← hF.out]; exact g)
    rw [← hF.out] at hno
    obtain rfl : V = 0 := hV.out.trans hno.1
    obtain rfl : E = F := hE.out.trans hno.2
    have gb : (E != 0) = true := by simpa using g
    clear hV hE hno hF g
    go_enter Try.func19, Try.ntmps19
    go_wp2_with (first
      | (go_at_call 40; (with_reducible refine (ck _ hI).mono ?_); rintro e w' ⟨rfl, d, rfl⟩))
    go_ret2
    exact ⟨rfl, _, rfl⟩
end Go.Proofs.Ytjblfmgiafdefaa.cbC

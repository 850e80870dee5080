/-
  The laws StreamPlays and StreamRepeats.
-/
import Derived.Test.YtikhhceoonfhcaaDoorStN
namespace Go.Proofs.YtikhhceoonfhcaaDoor.stP
open Go.RowKit
open Go.Proofs.YtikhhceoonfhcaaDoor.dgM Go.Proofs.YtikhhceoonfhcaaDoor.dgA Go.Proofs.YtikhhceoonfhcaaDoor.dgB Go.Proofs.YtikhhceoonfhcaaDoor.stM Go.Proofs.YtikhhceoonfhcaaDoor.stA Go.Proofs.YtikhhceoonfhcaaDoor.stB Go.Proofs.YtikhhceoonfhcaaDoor.stC Go.Proofs.YtikhhceoonfhcaaDoor.stD Go.Proofs.YtikhhceoonfhcaaDoor.stE Go.Proofs.YtikhhceoonfhcaaDoor.stL Go.Proofs.YtikhhceoonfhcaaDoor.stN
set_option linter.unusedVariables false

set_option maxRecDepth 10000 in
set_option maxHeartbeats 2000000 in
theorem plays (a : Nat) (ha : a < A64) (A : Option Addr) (n c : Nat) (xs : List Op3) (hn : Hid (xs.length = n)) (hN : n ≤ 9223372036854775807) (w : World) (hI : Ops w A xs) (hR : Rnd w) :
    Calls Tryd.prog 4 #[.int .u64 (a : Int), .slice A n c] w fun e w' => e = .returned (.bool true) ∧ Below w.heap.size w w' := by
  by_cases h : 20 < n
  · have t : (20 : Int) < (n : Int) := by omega
    clear h
    go_enter Tryd.func4, Tryd.ntmps4
    go_wp2_with (go_at_call 10; (refine (lives_any _ hR).mono ?_); rintro e w1 ⟨rfl, M1⟩)
    go_ret
    exact ⟨rfl, mv_below M1⟩
  · have t : ¬ (20 : Int) < (n : Int) := by omega
    clear h
    go_enter Tryd.func4, Tryd.ntmps4
    go_wp2_with (first
      | (go_at_call 11; (refine (new_any a _ hR).mono ?_); rintro e w1 ⟨p, rfl, L1, g1, M1⟩)
      | (go_at_call 12; (refine (rnew_any a _ L1.rnd).mono ?_); rintro e w2 ⟨q, rfl, L2, g2, M2⟩))
    have D := Lib.hid (two_start L1 g1 M1 L2 g2 M2)
    clear L1 L2 M1 M2
    go_loopw [7] (fun s7 wr => ∃ i k : Nat, i ≤ n ∧ s7 = .int .i64 (i : Int) ∧ Hid (Two w wr p q a a k k)) (fun s7 _ => n - (intOf s7).toNat)
    case atStart => exact ⟨0, 0, Nat.zero_le _, rfl, D⟩
    case round =>
      obtain ⟨i, k, hi, rfl, D⟩ := hrel
      by_cases hlt : i < n
      · have hk2 : i < xs.length := by rw [hn.out]; exact hlt
        obtain ⟨b0, off0, rfl, hx0⟩ := hI.at_ (k := i) hk2
        have i0 : (0 : Int) ≤ (i : Int) := by omega
        have i1 : (i : Int) < (n : Int) := by omega
        have hi1 : i + 1 ≤ n := hlt
        generalize xs[i] = x at *
        obtain ⟨h0, h1, h2⟩ := hx0.below D.out.b
        have cs := same_any p q a k ha x w wr D.out
        clear hx0
        go_wp2_with (first
          | (go_at_call 17; (refine cs.mono ?_); rintro e w3 ⟨rfl, k3, d3⟩; have D3 := Lib.hid d3; have c3 := fun w h => used_any p a k3 w h; have c4 := fun w h => rused_any q a k3 w h; (obtain ⟨U, hU⟩ : ∃ U, cnt k3 = U := ⟨_, rfl⟩); rw [hU] at c3 c4; clear d3 hU; have t : (U != U) = false := (by simp))
          | (go_at_call 15; (refine (c3 _ D3.out.s).mono ?_); rintro e w' ⟨rfl, rfl⟩)
          | (go_at_call 16; (refine (c4 _ D3.out.t).mono ?_); rintro e w' ⟨rfl, rfl⟩))
        go_roundw
        case rel => exact ⟨i + 1, k3, hi1, by go_num, D3⟩
        case measure => simp [intOf]; omega
      · obtain rfl : i = n := by omega
        go_wp2_with (go_at_call 10; (refine (lives_any _ D.out.s.rnd).mono ?_); rintro e w9 ⟨rfl, M9⟩)
        go_ret
        exact ⟨rfl, M9.below D.out.b (by simp)⟩
/-- a round of StreamRepeats: what the calls answer -/
theorem not_two {A : Option Addr} {w : World} {p q : Nat} (z : ∀ b off, A = some ⟨b, off, none⟩ → w.heap.size ≤ b) (hp : p < w.heap.size) (hq : q < w.heap.size) : ∀ b off, A = some ⟨b, off, none⟩ → b ≠ p ∧ b ≠ q := fun b off e => by
  have := z b off e
  omega
set_option maxRecDepth 10000 in
set_option maxHeartbeats 4000000 in
theorem repeats (a : Nat) (ha : a < A64) (A : Option Addr) (n c : Nat) (xs : List Op3) (hn : Hid (xs.length = n)) (hN : n ≤ 9223372036854775807) (w : World) (hI : Ops w A xs) (hR : Rnd w) :
    Calls Tryd.prog 8 #[.int .u64 (a : Int), .slice A n c] w fun e w' => e = .returned (.bool true) ∧ Below w.heap.size w w' := by
  by_cases h : 20 < n
  · have t : (20 : Int) < (n : Int) := by omega
    clear h
    go_enter Tryd.func8, Tryd.ntmps8
    go_wp2_with (go_at_call 10; (refine (lives_any _ hR).mono ?_); rintro e w1 ⟨rfl, M1⟩)
    go_ret
    exact ⟨rfl, mv_below M1⟩
  · have t : ¬ (20 : Int) < (n : Int) := by omega
    clear h
    go_enter Tryd.func8, Tryd.ntmps8
    go_upto_region 4 with (go_at_call 11; (refine (new_any a _ hR).mono ?_); rintro e w1 ⟨p, rfl, L1, g1, M1⟩)
    go_wp2_with (go_at_call 11; (refine (new_any a _ L1.rnd).mono ?_); rintro e w2 ⟨q, rfl, L2, g2, M2⟩)
    have D := Lib.hid (two_start L1 g1 M1 L2 g2 M2)
    clear L1 L2 M1 M2
    go_loopw [7] (fun s7 wr => ∃ i k : Nat, i ≤ n ∧ s7 = .int .i64 (i : Int) ∧ Hid (Two w wr p q a a k k)) (fun s7 _ => n - (intOf s7).toNat)
    case atStart => exact ⟨0, 0, Nat.zero_le _, rfl, D⟩
    case round =>
      obtain ⟨i, k, hi, rfl, D⟩ := hrel
      by_cases hlt : i < n
      · have hk2 : i < xs.length := by rw [hn.out]; exact hlt
        obtain ⟨b0, off0, rfl, hx0⟩ := hI.at_ (k := i) hk2
        have i0 : (0 : Int) ≤ (i : Int) := by omega
        have i1 : (i : Int) < (n : Int) := by omega
        have hi1 : i + 1 ≤ n := hlt
        generalize xs[i] = x at *
        obtain ⟨h0, h1, h2⟩ := hx0.below D.out.b
        have HX := Lib.hid hx0
        clear hx0
        obtain ⟨m, hm⟩ : ∃ m, Hid (m = if 300 < x.n then 300 else x.n) := ⟨_, Lib.hid rfl⟩
        obtain ⟨X, E, k3, hX, cs, _⟩ := samp_pair a k ha m x.k
        obtain ⟨V, F, k5, cb, _⟩ := below_pair a k3 ha m
        obtain ⟨v, hv⟩ : ∃ v, v = vl a (k5 + 1) := ⟨_, rfl⟩
        have cx := fun p w h => next_any p a k5 v ha (Lib.hid hv) w h
        have cu := fun p w h => used_any p a (k5 + 1) w h
        obtain ⟨N, hNX⟩ : ∃ N, Hid (X.length = N) := ⟨_, Lib.hid rfl⟩
        have hN4 : N ≤ 4096 := by rw [← hNX.out]; exact hX
        have cm := fun A B c d hc w hI hJ => same_ok A B N c d X hNX hc w hI hJ
        have t1 : ((E : Int) != (E : Int)) = false := by simp
        have t2 : ((F : Int) != (F : Int)) = false := by simp
        have t3 : ((V : Int) != (V : Int)) = false := by simp
        have t4 : ((v : Int) != (v : Int)) = false := by simp
        have t5 : (cnt (k5 + 1) != cnt (k5 + 1)) = false := by simp
        have hpw := D.out.s.lt
        have hqw := D.out.t.lt
        clear hX hv
        generalize cnt (k5 + 1) = U at *
        have HB := Lib.hid (fun w' (b : Below w.heap.size w w') => (HX.out.below b).2.2)
        clear HX
        have go1 : 300 < x.n ∧ m = 300 ∨ ¬ 300 < x.n ∧ m = x.n := by
          by_cases hc : 300 < x.n
          · exact .inl ⟨hc, by rw [hm.out, if_pos hc]⟩
          · exact .inr ⟨hc, by rw [hm.out, if_neg hc]⟩
        clear hm
        rcases go1 with ⟨hc, rfl⟩ | ⟨hc, rfl⟩
        all_goals
          go_wp2_with (first
            | (go_at_call 22; first
              | ((with_reducible refine (cs p _ D.out.s).mono ?_); rintro e w3 r3; (obtain ⟨A3, d3, rfl, g3, i3, z3, l3, m3⟩ := lst_n hNX r3); have n3 := not_two z3 hpw hqw; have D3 := Lib.hid (D.out.s1 l3 m3); have h3 := HB.out _ D3.out.b; clear r3 l3 m3 z3)
              | ((with_reducible refine (cs q _ D3.out.t).mono ?_); rintro e w4 r4; (obtain ⟨A4, d4, rfl, g4, i4, z4, l4, m4⟩ := lst_n hNX r4); have n4 := not_two z4 D3.out.s.lt D3.out.t.lt; have i3 := ci_keep i3 (fun b off e => (n3 b off e).2) m4; have D4 := Lib.hid (D3.out.s2 l4 m4); clear r4 l4 m4 z4))
            | (go_at_call 18; first
              | ((with_reducible refine (cb p _ D4.out.s).mono ?_); rintro e w5 ⟨rfl, l5, m5⟩; have i3 := ci_keep i3 (fun b off e => (n3 b off e).1) m5; have i4 := ci_keep i4 (fun b off e => (n4 b off e).1) m5; have D5 := Lib.hid (D4.out.s1 l5 m5); clear l5 m5)
              | ((with_reducible refine (cb q _ D5.out.t).mono ?_); rintro e w6 ⟨rfl, l6, m6⟩; have i3 := ci_keep i3 (fun b off e => (n3 b off e).2) m6; have i4 := ci_keep i4 (fun b off e => (n4 b off e).2) m6; have D6 := Lib.hid (D5.out.s2 l6 m6); clear l6 m6))
            | (go_at_call 13; first
              | ((with_reducible refine (cx p _ D6.out.s).mono ?_); rintro e w7 ⟨rfl, l7, m7⟩; have i3 := ci_keep i3 (fun b off e => (n3 b off e).1) m7; have i4 := ci_keep i4 (fun b off e => (n4 b off e).1) m7; have D7 := Lib.hid (D6.out.s1 l7 m7); clear l7 m7)
              | ((with_reducible refine (cx q _ D8.out.t).mono ?_); rintro e w9 ⟨rfl, l9, m9⟩; have D9 := Lib.hid (D8.out.s2 l9 m9); clear l9 m9))
            | (go_at_call 23; (refine (cm _ _ _ _ (by omega) _ i3 i4).mono ?_); rintro e w8 ⟨rfl, b8⟩; have D8 := Lib.hid (D7.out.on (mv_draw b8)); clear b8)
            | (go_at_call 15; first
              | ((with_reducible refine (cu p _ D9.out.s).mono ?_); rintro e w' ⟨rfl, rfl⟩)
              | ((with_reducible refine (cu q _ D9.out.t).mono ?_); rintro e w' ⟨rfl, rfl⟩)))
          go_roundw
          case rel => exact ⟨i + 1, k5 + 1, hi1, by go_num, D9⟩
          case measure => simp [intOf]; omega
      · obtain rfl : i = n := by omega
        go_wp2_with (go_at_call 10; (refine (lives_any _ D.out.s.rnd).mono ?_); rintro e w9 ⟨rfl, M9⟩)
        go_ret
        exact ⟨rfl, M9.below D.out.b (by simp)⟩
end Go.Proofs.YtikhhceoonfhcaaDoor.stP

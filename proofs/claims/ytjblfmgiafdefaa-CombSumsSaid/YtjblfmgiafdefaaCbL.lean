/-
  The laws CombCounts, CombHits, CombOrders, CombUnranks.
-/
import Derived.Test.YtjblfmgiafdefaaCbH
namespace Go.Proofs.Ytjblfmgiafdefaa.cbL
open Go.RowKit
open Go.Proofs.Ytjblfmgiafdefaa.natM Go.Proofs.Ytjblfmgiafdefaa.natA Go.Proofs.Ytjblfmgiafdefaa.natB Go.Proofs.Ytjblfmgiafdefaa.natF Go.Proofs.Ytjblfmgiafdefaa.natG Go.Proofs.Ytjblfmgiafdefaa.natX Go.Proofs.Ytjblfmgiafdefaa.natUi Go.Proofs.Ytjblfmgiafdefaa.frA Go.Proofs.Ytjblfmgiafdefaa.frB Go.Proofs.Ytjblfmgiafdefaa.monB Go.Proofs.Ytjblfmgiafdefaa.monC Go.Proofs.Ytjblfmgiafdefaa.cbM Go.Proofs.Ytjblfmgiafdefaa.cbA Go.Proofs.Ytjblfmgiafdefaa.cbB Go.Proofs.Ytjblfmgiafdefaa.cbC Go.Proofs.Ytjblfmgiafdefaa.cbD Go.Proofs.Ytjblfmgiafdefaa.cbE Go.Proofs.Ytjblfmgiafdefaa.cbF Go.Proofs.Ytjblfmgiafdefaa.cbG Go.Proofs.Ytjblfmgiafdefaa.cbH
set_option linter.unusedVariables false

theorem chV_len (n k : Int) : nlen 4294967296 (chV n k) ≤ 3 := by
  unfold chV
  by_cases h : n < 0 ∨ 80 < n
  · rw [if_pos h, nlen_zero]; omega
  · rw [if_neg h]
    unfold cC
    by_cases h2 : 0 ≤ k
    · rw [if_pos h2]; exact ch_len (by omega)
    · rw [if_neg h2, nlen_zero]; omega
set_option maxRecDepth 4000 in
set_option maxHeartbeats 4000000 in
theorem counts_any (n k : Int) (w : World) : Calls Try.prog 3 #[.int .i64 n, .int .i64 k] w fun e w' => e = .returned (.bool true) ∧ Below w.heap.size w w' := by
  obtain ⟨V, hV⟩ : ∃ V, Hid (V = chV n k) := ⟨_, Lib.hid rfl⟩
  obtain ⟨E, hE⟩ : ∃ E, Hid (E = chE n) := ⟨_, Lib.hid rfl⟩
  obtain ⟨X, hX⟩ : ∃ X, Hid (X = cV n k) := ⟨_, Lib.hid rfl⟩
  obtain ⟨F, hF⟩ : ∃ F, Hid (F = cE n k) := ⟨_, Lib.hid rfl⟩
  obtain ⟨m, hm⟩ : ∃ m, Hid (m = nlen 4294967296 V) := ⟨_, Lib.hid rfl⟩
  have hm3 : m ≤ 3 := by rw [hm.out, hV.out]; exact chV_len n k
  have k1 := fun w => choose_any n k V E hV hE w
  have k2 := fun w => rchoose_any n k V E hV hE w
  have k3 := fun w => count_any n k X F hX hF w
  have k4 := fun w => rcount_any n k X F hX hF w
  have k5 := fun A D c d w h1 h2 => same_any A D m c d V (by omega) w h1 h2
  have k6 := awake_any
  have e1 : (E == E) = true := by simp
  have e2 : (X == X) = true := by simp
  have e3 : (F == F) = true := by simp
  have S0 := Lib.hid (Kp.start w)
  clear hV hE hX hF
  go_enter Try.func3, Try.ntmps3
  go_wp2_with (first
    | (go_at_call 10; (with_reducible refine (k1 _).mono ?_); rintro e w1 ⟨A1, n1, c1, rfl, q, hb⟩; obtain ⟨z, q2⟩ := num_at hm.out q; subst z; have S1 := Lib.hid ((S0.out.below hb).addc q2); clear hb q q2)
    | (go_at_call 11; (with_reducible refine (k2 _).mono ?_); rintro e w2 ⟨A2, n2, c2, rfl, q, hb⟩; obtain ⟨z, q2⟩ := num_at hm.out q; subst z; have S2 := Lib.hid (((S1.out.al1 _ _).below hb).addc q2); clear hb q q2)
    | (go_at_call 12; (with_reducible refine (k3 _).mono ?_); rintro e w' ⟨rfl, d3, rfl⟩; have S3 := Lib.hid ((S2.out.al1 #[.slice A2 m c2] 24).drewN d3))
    | (go_at_call 13; (with_reducible refine (k4 _).mono ?_); rintro e w' ⟨rfl, d4, rfl⟩; have S4 := Lib.hid ((S2.out.al1 #[.slice A2 m c2] 24).drewN (d3 + d4)); have x1 := S4.out.b1.one; have x2 := S4.out.b0.one)
    | (go_at_call 14; (with_reducible refine (k5 _ _ _ _ _ S4.out.c1 S4.out.c0).mono ?_); rintro e w5 ⟨rfl, hb⟩; have S5 := Lib.hid (S4.out.below hb); clear hb)
    | (go_at_call 15; (with_reducible refine (k6 _).mono ?_); rintro e w6 ⟨rfl, hb⟩; have S6 := Lib.hid (S5.out.below hb); clear hb)
    | fail)
  go_ret
  exact ⟨rfl, S6.out.bel⟩

set_option maxRecDepth 4000 in
set_option maxHeartbeats 4000000 in
theorem hitsl_any (n k d h : Int) (w : World) : Calls Try.prog 4 #[.agg #[.int .i64 n, .int .i64 k, .int .i64 d, .int .i64 h]] w fun e w' => e = .returned (.bool true) ∧ Below w.heap.size w w' := by
  obtain ⟨X, hX⟩ : ∃ X, Hid (X = hV n k d h) := ⟨_, Lib.hid rfl⟩
  obtain ⟨F, hF⟩ : ∃ F, Hid (F = hE n k d h) := ⟨_, Lib.hid rfl⟩
  have k1 := fun w => hits_any n k d h X F hX hF w
  have k2 := fun w => rhits_any n k d h X F hX hF w
  have k6 := awake_any
  have e2 : (X == X) = true := by simp
  have e3 : (F == F) = true := by simp
  have S0 := Lib.hid ((Kp.start w).al1 #[.int .i64 n, .int .i64 k, .int .i64 d, .int .i64 h] 34)
  have y0 := S0.out.b0.at_ 0
  have y1 := S0.out.b0.at_ 1
  have y2 := S0.out.b0.at_ 2
  have y3 := S0.out.b0.at_ 3
  simp at y0 y1 y2 y3
  clear hX hF
  go_enter Try.func4, Try.ntmps4
  go_wp2_with (first
    | (go_at_call 16; (with_reducible refine (k1 _).mono ?_); rintro e w' ⟨rfl, d1, rfl⟩; have S1 := Lib.hid (S0.out.drewN d1))
    | (go_at_call 17; (with_reducible refine (k2 _).mono ?_); rintro e w' ⟨rfl, d2, rfl⟩; have S2 := Lib.hid (S0.out.drewN (d1 + d2)))
    | (go_at_call 15; (with_reducible refine (k6 _).mono ?_); rintro e w6 ⟨rfl, hb⟩; have S6 := Lib.hid (S2.out.below hb); clear hb)
    | fail)
  go_ret
  exact ⟨rfl, S6.out.bel⟩

theorem nxL_len (n : Nat) (zs : List Int) : (nxL n zs).length ≤ zs.length := by
  unfold nxL
  split
  · simp
  · rw [nr_len]; exact Nat.le_refl _
set_option maxRecDepth 4000 in
set_option maxHeartbeats 4000000 in
theorem orders_any (A : Option Addr) (n c : Nat) (m : Int) (zs : List Int) (hn : Hid (zs.length = n)) (hN : n ≤ 9223372036854775807) (w : World) (hI : Ints w A zs) :
    Calls Try.prog 5 #[.slice A n c, .int .i64 m] w fun e w' => e = .returned (.bool true) ∧ Below w.heap.size w w' := by
  have k6 := awake_any
  have S0 := Lib.hid (Kp.start w)
  by_cases g : (200 : Int) < n
  · go_enter Try.func5, Try.ntmps5
    go_wp2_with (first
      | (go_at_call 15; (with_reducible refine (k6 _).mono ?_); rintro e w6 ⟨rfl, hb⟩; have S6 := Lib.hid (S0.out.below hb); clear hb)
      | fail)
    go_ret
    exact ⟨rfl, S6.out.bel⟩
  · obtain ⟨X, hX⟩ : ∃ X, Hid (X = rkV m zs) := ⟨_, Lib.hid rfl⟩
    obtain ⟨F, hF⟩ : ∃ F, Hid (F = rkE m zs) := ⟨_, Lib.hid rfl⟩
    obtain ⟨L, hL⟩ : ∃ L, Hid (L = if chk m zs = 0 then nxL m.toNat zs else []) := ⟨_, Lib.hid rfl⟩
    obtain ⟨b, hb⟩ : ∃ b, Hid (b = if chk m zs = 0 then nxB m.toNat zs else false) := ⟨_, Lib.hid rfl⟩
    obtain ⟨p, hp⟩ : ∃ p, Hid (L.length = p) := ⟨_, Lib.hid rfl⟩
    have hpn : p ≤ n := by
      rw [← hp.out, hL.out, ← hn.out]
      split
      · exact nxL_len _ _
      · simp
    have k1 := fun w hI => rank_any A n c m X F zs hn hN hX hF w hI
    have k2 := fun w hI => rrank_any A n c m X F zs hn hN hX hF w hI
    have k3 := fun w hI => next_any A n c m zs L b hL hb hn hN w hI
    have k4 := fun w hI => rnext_any A n c m zs L b hL hb hn hN w hI
    have k5 := fun A B c d w h1 h2 => same_ok A B p c d L hp (by omega) w h1 h2
    have e2 : (X == X) = true := by simp
    have e3 : (F == F) = true := by simp
    have e4 : (b == b) = true := by simp
    have HI := Lib.hid hI
    clear hX hF hL hb hI
    go_enter Try.func5, Try.ntmps5
    go_wp2_with (first
      | (go_at_call 18; (with_reducible refine (k1 _ HI.out).mono ?_); rintro e w' ⟨rfl, d1, rfl⟩; have S1 := Lib.hid (S0.out.drewN d1); have I1 := Lib.hid (ints_dr HI.out d1))
      | (go_at_call 19; (with_reducible refine (k2 _ I1.out).mono ?_); rintro e w' ⟨rfl, d2, rfl⟩; have S2 := Lib.hid (S0.out.drewN (d1 + d2)); have I2 := Lib.hid (ints_dr HI.out (d1 + d2)))
      | (go_at_call 20; (with_reducible refine (k3 _ I2.out).mono ?_); rintro e w3 ⟨A3, n3, c3, rfl, hl, hc, hJ, hb⟩; obtain rfl : p = n3 := hp.out.symm.trans hl; have S3 := Lib.hid (S2.out.below hb); have J3 := Lib.hid hJ; have I3 := Lib.hid (ints_below I2.out hb); clear hl hc hJ hb)
      | (go_at_call 21; (with_reducible refine (k4 _ I3.out).mono ?_); rintro e w4 ⟨A4, n4, c4, rfl, hl, hc, hJ, hb⟩; obtain rfl : p = n4 := hp.out.symm.trans hl; have S4 := Lib.hid (S3.out.below hb); have J4 := Lib.hid hJ; have K4 := Lib.hid (ints_below J3.out hb); clear hl hc hJ hb)
      | (go_at_call 22; (with_reducible refine (k5 _ _ _ _ _ K4.out J4.out).mono ?_); rintro e w' ⟨rfl, d5, rfl⟩; have S5 := Lib.hid (S4.out.drewN d5))
      | (go_at_call 15; (with_reducible refine (k6 _).mono ?_); rintro e w6 ⟨rfl, hb⟩; have S6 := Lib.hid (S5.out.below hb); clear hb)
      | fail)
    go_ret
    exact ⟨rfl, S6.out.bel⟩

theorem urL_len (r n k : Int) : (urL r n k).length ≤ 80 := by
  unfold urL
  split
  case isTrue h =>
    unfold urE at h
    by_cases c : n < 0 ∨ 80 < n ∨ k < 0 ∨ n < k
    · rw [if_pos c] at h; cases h
    · rw [if_neg c] at h
      by_cases c2 : 9223372036854775807 < ch n.toNat k.toNat
      · rw [if_pos c2] at h; cases h
      · rw [if_neg c2] at h
        by_cases c3 : r < 0 ∨ (ch n.toNat k.toNat : Int) ≤ r
        · rw [if_pos c3] at h; cases h
        · rw [un_len (by omega)]; omega
  case isFalse => simp
set_option maxRecDepth 4000 in
set_option maxHeartbeats 4000000 in
theorem unranks_any (r n k : Int) (w : World) : Calls Try.prog 6 #[.int .i64 r, .int .i64 n, .int .i64 k] w fun e w' => e = .returned (.bool true) ∧ Below w.heap.size w w' := by
  have k6 := awake_any
  have S0 := Lib.hid (Kp.start w)
  obtain ⟨L, hL⟩ : ∃ L, Hid (L = urL r n k) := ⟨_, Lib.hid rfl⟩
  obtain ⟨F, hF⟩ : ∃ F, Hid (F = urE r n k) := ⟨_, Lib.hid rfl⟩
  obtain ⟨p, hp⟩ : ∃ p, Hid (L.length = p) := ⟨_, Lib.hid rfl⟩
  have hpn : p ≤ 80 := by rw [← hp.out, hL.out]; exact urL_len r n k
  have k1 := fun w => unrank_any r n k L F hL hF w
  have k2 := fun w => runrank_any r n k L F hL hF w
  have k5 := fun A B c d w h1 h2 => same_ok A B p c d L hp (by omega) w h1 h2
  have e3 : (F == F) = true := by simp
  clear hL hF
  go_enter Try.func6, Try.ntmps6
  go_wp2_with (first
    | (go_at_call 23; (with_reducible refine (k1 _).mono ?_); rintro e w3 ⟨A3, n3, c3, rfl, hl, hc, hJ, hb⟩; obtain rfl : p = n3 := hp.out.symm.trans hl; have S3 := Lib.hid (S0.out.below hb); have J3 := Lib.hid hJ; clear hl hc hJ hb)
    | (go_at_call 24; (with_reducible refine (k2 _).mono ?_); rintro e w4 ⟨A4, n4, c4, rfl, hl, hc, hJ, hb⟩; obtain rfl : p = n4 := hp.out.symm.trans hl; have S4 := Lib.hid (S3.out.below hb); have J4 := Lib.hid hJ; have K4 := Lib.hid (ints_below J3.out hb); clear hl hc hJ hb)
    | (go_at_call 22; (with_reducible refine (k5 _ _ _ _ _ K4.out J4.out).mono ?_); rintro e w' ⟨rfl, d5, rfl⟩; have S5 := Lib.hid (S4.out.drewN d5))
    | (go_at_call 15; (with_reducible refine (k6 _).mono ?_); rintro e w6 ⟨rfl, hb⟩; have S6 := Lib.hid (S5.out.below hb); clear hb)
    | fail)
  go_ret
  exact ⟨rfl, S6.out.bel⟩
end Go.Proofs.Ytjblfmgiafdefaa.cbL

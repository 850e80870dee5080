/-
  The laws CombAdds, CombSums.
-/
import Derived.Test.YtjblfmgiafdefaaCbL
import Derived.Test.YtjblfmgiafdefaaNatY
namespace Go.Proofs.Ytjblfmgiafdefaa.cbN
open Go.RowKit
open Go.Proofs.Ytjblfmgiafdefaa.natM Go.Proofs.Ytjblfmgiafdefaa.natA Go.Proofs.Ytjblfmgiafdefaa.natB Go.Proofs.Ytjblfmgiafdefaa.natF Go.Proofs.Ytjblfmgiafdefaa.natG Go.Proofs.Ytjblfmgiafdefaa.natX Go.Proofs.Ytjblfmgiafdefaa.natY Go.Proofs.Ytjblfmgiafdefaa.natUi Go.Proofs.Ytjblfmgiafdefaa.frA Go.Proofs.Ytjblfmgiafdefaa.frB Go.Proofs.Ytjblfmgiafdefaa.monB Go.Proofs.Ytjblfmgiafdefaa.monC Go.Proofs.Ytjblfmgiafdefaa.cbM Go.Proofs.Ytjblfmgiafdefaa.cbA Go.Proofs.Ytjblfmgiafdefaa.cbB Go.Proofs.Ytjblfmgiafdefaa.cbC Go.Proofs.Ytjblfmgiafdefaa.cbD Go.Proofs.Ytjblfmgiafdefaa.cbE Go.Proofs.Ytjblfmgiafdefaa.cbF Go.Proofs.Ytjblfmgiafdefaa.cbG Go.Proofs.Ytjblfmgiafdefaa.cbH Go.Proofs.Ytjblfmgiafdefaa.cbL
set_option linter.unusedVariables false

set_option maxHeartbeats 1000000 in
theorem adds_out (n k : Int) (h : n < 1 ∨ 80 < n ∨ k < 0 ∨ n < k) (w : World) : Calls Try.prog 8 #[.int .i64 n, .int .i64 k] w fun e w' => e = .returned (.bool true) ∧ Below w.heap.size w w' := by
  have k6 := awake_any
  by_cases h0 : n < 1
  · clear h
    go_enter Try.func8, Try.ntmps8
    go_wp2_with (go_at_call 15; (with_reducible refine (k6 _).mono ?_); rintro e w6 ⟨rfl, hb⟩)
    go_ret
    exact ⟨rfl, hb⟩
  by_cases h1 : 80 < n
  · clear h
    go_enter Try.func8, Try.ntmps8
    go_wp2_with (go_at_call 15; (with_reducible refine (k6 _).mono ?_); rintro e w6 ⟨rfl, hb⟩)
    go_ret
    exact ⟨rfl, hb⟩
  by_cases h2 : k < 0
  · clear h
    go_enter Try.func8, Try.ntmps8
    go_wp2_with (go_at_call 15; (with_reducible refine (k6 _).mono ?_); rintro e w6 ⟨rfl, hb⟩)
    go_ret
    exact ⟨rfl, hb⟩
  · have h3 : n < k := by omega
    clear h
    go_enter Try.func8, Try.ntmps8
    go_wp2_with (go_at_call 15; (with_reducible refine (k6 _).mono ?_); rintro e w6 ⟨rfl, hb⟩)
    go_ret
    exact ⟨rfl, hb⟩
theorem add_fit {n X m Y : Nat} (a : n = nlen 4294967296 X) (a2 : n ≤ 64) (b : m = nlen 4294967296 Y) (b2 : m ≤ 64) (h : nlen 4294967296 (X + Y) ≤ 64) : addV n X m Y = X + Y ∧ addE n X m Y = 0 := by
  unfold addV addE
  rw [val_of a a2, val_of b b2]
  exact ⟨(r_ok h).2, (r_ok h).1⟩
theorem pascal {n k : Nat} (h : 1 ≤ n) : cC ((n - 1 : Nat) : Int) ((k : Int) - 1) + cC ((n - 1 : Nat) : Int) (k : Int) = ch n k := by
  obtain ⟨m, rfl⟩ : ∃ m, n = m + 1 := ⟨n - 1, by omega⟩
  rw [Nat.add_sub_cancel, cC_nat]
  cases k with
  | zero => rw [cC_neg (by omega), ch_zero, ch_zero]
  | succ j => rw [show ((j + 1 : Nat) : Int) - 1 = ((j : Nat) : Int) by omega, cC_nat, ch_succ]
set_option maxRecDepth 4000 in
set_option maxHeartbeats 4000000 in
theorem adds_in (n k : Nat) (h1 : 1 ≤ n) (h2 : n ≤ 80) (hk : k ≤ n) (w : World) : Calls Try.prog 8 #[.int .i64 (n : Int), .int .i64 (k : Int)] w fun e w' => e = .returned (.bool true) ∧ Below w.heap.size w w' := by
  have k6 := awake_any
  obtain ⟨V, hV⟩ : ∃ V, V = ch n k := ⟨_, rfl⟩
  obtain ⟨z, hz⟩ : ∃ z : Int, z = (k : Int) - 1 := ⟨_, rfl⟩
  obtain ⟨m, hm⟩ : ∃ m, m = n - 1 := ⟨_, rfl⟩
  obtain ⟨C, hC⟩ : ∃ C, C = chV m z := ⟨_, rfl⟩
  obtain ⟨D, hD⟩ : ∃ D, D = chV m k := ⟨_, rfl⟩
  obtain ⟨kV, hkV⟩ : ∃ l, l = nlen 4294967296 V := ⟨_, rfl⟩
  obtain ⟨kC, hkC⟩ : ∃ l, l = nlen 4294967296 C := ⟨_, rfl⟩
  obtain ⟨kD, hkD⟩ : ∃ l, l = nlen 4294967296 D := ⟨_, rfl⟩
  have lV : kV ≤ 3 := by rw [hkV, hV]; exact ch_len h2
  have lC : kC ≤ 3 := by rw [hkC, hC]; exact chV_len _ _
  have lD : kD ≤ 3 := by rw [hkD, hD]; exact chV_len _ _
  have eCD : C + D = V := by
    rw [hC, hD, hV, hz, hm]
    unfold chV
    rw [if_neg (by omega), if_neg (by omega)]
    exact pascal h1
  have v1 : V = chV n k := by unfold chV; rw [if_neg (by omega), cC_nat, hV]
  have v2 : V = chV n ((n - k : Nat) : Int) := by unfold chV; rw [if_neg (by omega), cC_nat, ch_symm hk, hV]
  have E0 : 0 = chE (n : Int) := by unfold chE; rw [if_neg (by omega)]
  have E1 : 0 = chE (m : Int) := by unfold chE; rw [if_neg (by omega)]
  have k1 := fun w => choose_any n k V 0 (Lib.hid v1) (Lib.hid E0) w
  have k2 := fun w => choose_any n ((n - k : Nat) : Int) V 0 (Lib.hid v2) (Lib.hid E0) w
  have k3 := fun w => choose_any m z C 0 (Lib.hid hC) (Lib.hid E1) w
  have k4 := fun w => choose_any m k D 0 (Lib.hid hD) (Lib.hid E1) w
  have af := add_fit hkC (by omega) hkD (by omega) (by rw [eCD, ← hkV]; omega)
  rw [eCD] at af
  have k5 := fun A D' c d w h1 h2 => rxadd_any A D' kC c kD d C D (lt_pw hkC) (lt_pw hkD) (by omega) (by omega) w h1 h2
  rw [af.1, af.2] at k5
  have ks := fun A D c d w h1 h2 => same_any A D kV c d V (by omega) w h1 h2
  have e1 : IntKind.i64.wrap ((n : Int) - (k : Int)) = ((n - k : Nat) : Int) := by rw [IntWalk.i64_in _ (by omega)]; omega
  have e2 : IntKind.i64.wrap ((n : Int) - 1) = (m : Int) := by rw [IntWalk.i64_in _ (by omega)]; omega
  have e3 : IntKind.i64.wrap ((k : Int) - 1) = z := by rw [IntWalk.i64_in _ (by omega)]; omega
  have n0 : decide ((n : Int) < 1) = false := decide_eq_false (by omega)
  have n1 : decide (80 < (n : Int)) = false := decide_eq_false (by omega)
  have n2 : decide ((k : Int) < 0) = false := decide_eq_false (by omega)
  have n3 : decide (n < k) = false := decide_eq_false (by omega)
  have HV := Lib.hid hkV
  have HC := Lib.hid hkC
  have HD := Lib.hid hkD
  have S0 := Lib.hid (Kp.start w)
  clear hV hC hD hkV hkC hkD eCD v1 v2 E0 E1 af hz hm
  go_enter Try.func8, Try.ntmps8
  go_wp2_with (first
    | (go_at_call 10; first
      | ((with_reducible refine (k1 _).mono ?_); rintro e w1 ⟨A1, n1, c1, rfl, q, hb⟩; obtain ⟨zz, q2⟩ := num_at HV.out q; subst zz; have S1 := Lib.hid (((S0.out.below hb).addc q2).al1 #[.slice A1 kV c1] 24); clear hb q q2)
      | ((with_reducible refine (k2 _).mono ?_); rintro e w2 ⟨A2, n2, c2, rfl, q, hb⟩; obtain ⟨zz, q2⟩ := num_at HV.out q; subst zz; have S2 := Lib.hid (((S1.out.below hb).addc q2).al1 #[.slice A2 kV c2] 24); clear hb q q2)
      | ((with_reducible refine (k3 _).mono ?_); rintro e w3 ⟨A3, n3, c3, rfl, q, hb⟩; obtain ⟨zz, q2⟩ := num_at HC.out q; subst zz; have S3 := Lib.hid (((S2.out.below hb).addc q2).al1 #[.slice A3 kC c3] 24); clear hb q q2)
      | ((with_reducible refine (k4 _).mono ?_); rintro e w4 ⟨A4, n4, c4, rfl, q, hb⟩; obtain ⟨zz, q2⟩ := num_at HD.out q; subst zz; have S4 := Lib.hid (((S3.out.below hb).addc q2).al1 #[.slice A4 kD c4] 24); have x3 := S4.out.b1.one; have x4 := S4.out.b0.one; clear hb q q2)
      | fail)
    | (go_at_call 25; (with_reducible refine (k5 _ _ _ _ _ S4.out.c1 S4.out.c0).mono ?_); rintro e w5 ⟨A5, n5, c5, rfl, q, hb⟩; obtain ⟨zz, q2⟩ := num_at HV.out q; subst zz; have S5 := Lib.hid (((S4.out.below hb).addc q2).al1 #[.slice A5 kV c5] 24); clear x3 x4; have y1 := S5.out.b4.one; have y2 := S5.out.b3.one; clear hb q q2)
    | (go_at_call 14; first
      | ((with_reducible refine (ks _ _ _ _ _ S5.out.c4 S5.out.c3).mono ?_); rintro e w6 ⟨rfl, hb⟩; have S6 := Lib.hid (S5.out.below hb); clear y1 y2; have z1 := S6.out.b4.one; have z5 := S6.out.b0.one; clear hb)
      | ((with_reducible refine (ks _ _ _ _ _ S6.out.c4 S6.out.c0).mono ?_); rintro e w7 ⟨rfl, hb⟩; have S7 := Lib.hid (S6.out.below hb); clear hb)
      | fail)
    | (go_at_call 15; (with_reducible refine (k6 _).mono ?_); rintro e w8 ⟨rfl, hb⟩; have S8 := Lib.hid (S7.out.below hb); clear hb)
    | fail)
  go_ret
  exact ⟨rfl, S8.out.bel⟩
theorem adds_any (n k : Int) (w : World) : Calls Try.prog 8 #[.int .i64 n, .int .i64 k] w fun e w' => e = .returned (.bool true) ∧ Below w.heap.size w w' := by
  by_cases h : n < 1 ∨ 80 < n ∨ k < 0 ∨ n < k
  · exact adds_out n k h w
  · obtain ⟨N, rfl⟩ := Int.eq_ofNat_of_zero_le (show 0 ≤ n by omega)
    obtain ⟨K, rfl⟩ := Int.eq_ofNat_of_zero_le (show 0 ≤ k by omega)
    exact adds_in N K (by omega) (by omega) (by omega) w

/-! ### CombSums -/
theorem vt_hits {n k d h : Nat} (hk : k ≤ n) (hd : d ≤ n) (hh : h ≤ d) : hC n k d h = vt d (n - d) k h := by
  unfold hC vt
  rw [if_pos (by omega), cC_nat]
  by_cases c : h ≤ k
  · rw [if_pos c, show (n : Int) - (d : Int) = ((n - d : Nat) : Int) by omega, show (k : Int) - (h : Int) = ((k - h : Nat) : Int) by omega, cC_nat]
  · rw [if_neg c, cC_neg (by omega), Nat.mul_zero]
set_option maxHeartbeats 1000000 in
theorem sums_err (n k d V F : Int) (hV : Hid (V = cV n k)) (hF : Hid (F = cE n k)) (hne : (F != 0) = true) (w : World) : Calls Try.prog 9 #[.int .i64 n, .int .i64 k, .int .i64 d] w fun e w' => e = .returned (.bool true) ∧ Below w.heap.size w w' := by
  have k6 := awake_any
  have k1 := fun w => count_any n k V F hV hF w
  go_enter Try.func9, Try.ntmps9
  go_wp2_with (first
    | (go_at_call 12; (with_reducible refine (k1 _).mono ?_); rintro e w' ⟨rfl, d1, rfl⟩)
    | (go_at_call 15; (with_reducible refine (k6 _).mono ?_); rintro e w6 ⟨rfl, hb⟩)
    | fail)
  go_ret
  exact ⟨rfl, ((Kp.start w).drewN _ |>.below hb).bel⟩
set_option maxHeartbeats 1000000 in
theorem sums_out (n k d V : Int) (hV : Hid (V = cV n k)) (hF : Hid (0 = cE n k)) (hd : d < 0 ∨ n < d) (w : World) : Calls Try.prog 9 #[.int .i64 n, .int .i64 k, .int .i64 d] w fun e w' => e = .returned (.bool true) ∧ Below w.heap.size w w' := by
  have k6 := awake_any
  have k1 := fun w => count_any n k V 0 hV hF w
  by_cases h : d < 0
  · clear hd
    go_enter Try.func9, Try.ntmps9
    go_wp2_with (first
      | (go_at_call 12; (with_reducible refine (k1 _).mono ?_); rintro e w' ⟨rfl, d1, rfl⟩)
      | (go_at_call 15; (with_reducible refine (k6 _).mono ?_); rintro e w6 ⟨rfl, hb⟩)
      | fail)
    go_ret
    exact ⟨rfl, ((Kp.start w).drewN _ |>.below hb).bel⟩
  · have h2 : n < d := by omega
    clear hd
    go_enter Try.func9, Try.ntmps9
    go_wp2_with (first
      | (go_at_call 12; (with_reducible refine (k1 _).mono ?_); rintro e w' ⟨rfl, d1, rfl⟩)
      | (go_at_call 15; (with_reducible refine (k6 _).mono ?_); rintro e w6 ⟨rfl, hb⟩)
      | fail)
    go_ret
    exact ⟨rfl, ((Kp.start w).drewN _ |>.below hb).bel⟩
/-- the sums of a row that adds up: S j is what the first j give -/
structure Row (n k d : Int) (D C : Nat) (S : Nat → Nat) : Prop where
  zero : S 0 = 0
  all : S (D + 1) = C
  step : ∀ h : Nat, h ≤ D → S (h + 1) = S h + hC n k d h
  le : ∀ h : Nat, h ≤ D → S h + hC n k d h ≤ C
set_option maxRecDepth 4000 in
set_option maxHeartbeats 4000000 in
theorem sums_in (n D C : Nat) (k V : Int) (S : Nat → Nat) (hV : Hid (V = cV n k)) (hF : Hid (0 = cE n k)) (hVC : V = (C : Int)) (hCm : C ≤ 9223372036854775807) (h80 : n ≤ 80) (hD : D ≤ n) (hS : Hid (Row n k D D C S)) (w : World) : Calls Try.prog 9 #[.int .i64 (n : Int), .int .i64 k, .int .i64 (D : Int)] w fun e w' => e = .returned (.bool true) ∧ Below w.heap.size w w' := by
  subst hVC
  have k6 := awake_any
  have k1 := fun w => count_any n k C 0 hV hF w
  have n0 : decide ((D : Int) < 0) = false := decide_eq_false (by omega)
  have n1 : decide (n < D) = false := decide_eq_false (by omega)
  have S0 := Lib.hid (Kp.start w)
  clear hV hF
  go_enter Try.func9, Try.ntmps9
  go_wp2_with (first
    | (go_at_call 12; (with_reducible refine (k1 _).mono ?_); rintro e w' ⟨rfl, d1, rfl⟩)
    | fail)
  go_loopw [9, 10] (fun s9 s10 wr => ∃ h l d : Nat, h ≤ D + 1 ∧ s10 = .int .i64 (h : Int) ∧ s9 = .int .i64 (l : Int) ∧ l ≤ C ∧ Hid (l + S h = C) ∧ wr = w.drewN d) (fun _ s10 _ => D + 1 - (intOf s10).toNat)
  case atStart => exact ⟨0, C, _, by omega, rfl, rfl, by omega, Lib.hid (by rw [hS.out.zero]; omega), rfl⟩
  case round =>
    obtain ⟨h, l, d, hh, rfl, rfl, hl, H, rfl⟩ := hrel
    by_cases hlt : h ≤ D
    · have h1 := hS.out.step h hlt
      have h2 := hS.out.le h hlt
      have h3 := H.out
      obtain ⟨q, hq⟩ : ∃ q, hC n k D h = q := ⟨_, rfl⟩
      rw [hq] at h1 h2
      have ho := h_ok hq (by omega) (by omega)
      have kh := fun w => hits_any n k D h (q : Int) 0 (Lib.hid ho.1.symm) (Lib.hid ho.2.symm) w
      have HS : Hid (l - q + S (h + 1) = C) := Lib.hid (by omega)
      have m0 : decide ((q : Int) < 0) = false := decide_eq_false (by omega)
      have m1 : decide (l < q) = false := decide_eq_false (by omega)
      have e1 : IntKind.i64.wrap ((l : Int) - (q : Int)) = ((l - q : Nat) : Int) := by rw [IntWalk.i64_in _ (by omega)]; omega
      clear h1 h2 h3 hq ho
      go_wp2_with (go_at_call 16; (with_reducible refine (kh _).mono ?_); rintro e w' ⟨rfl, d2, rfl⟩)
      go_roundw
      case rel => exact ⟨h + 1, l - q, _, by omega, by go_num, rfl, by omega, HS, rfl⟩
      case measure => simp [intOf]; omega
    · obtain rfl : h = D + 1 := by omega
      have h3 := H.out
      rw [hS.out.all] at h3
      obtain rfl : l = 0 := by omega
      have l0 : decide (D + 1 ≤ D) = false := decide_eq_false (by omega)
      clear h3
      go_wp2_with (go_at_call 15; (with_reducible refine (k6 _).mono ?_); rintro e w6 ⟨rfl, hb⟩)
      go_ret
      exact ⟨rfl, ((Kp.start w).drewN _ |>.below hb).bel⟩
theorem row_in {n k D : Nat} (hk : k ≤ n) (hD : D ≤ n) : Row n k D D (ch n k) (vs D (n - D) k) := by
  have hall : vs D (n - D) k (D + 1) = ch n k := by rw [vs_all _ _ _ _ (Nat.le_refl _), show D + (n - D) = n by omega]
  have hstep : ∀ h : Nat, h ≤ D → vs D (n - D) k (h + 1) = vs D (n - D) k h + hC n k D h := fun h hh => by rw [vt_hits hk hD hh]; rfl
  refine ⟨rfl, hall, hstep, fun h hh => ?_⟩
  rw [← hstep h hh, ← hall]
  exact vs_mono (by omega)
theorem row_out {n k : Int} {D : Nat} (h : k < 0 ∨ n < k) : Row n k D D 0 (fun _ => 0) :=
  ⟨rfl, rfl, fun h' _ => by unfold hC; rw [if_neg (by omega)], fun h' _ => by unfold hC; rw [if_neg (by omega)]; omega⟩
theorem sums_any (n k d : Int) (w : World) : Calls Try.prog 9 #[.int .i64 n, .int .i64 k, .int .i64 d] w fun e w' => e = .returned (.bool true) ∧ Below w.heap.size w w' := by
  by_cases hE : cE n k = 0
  · by_cases hd : d < 0 ∨ n < d
    · exact sums_out n k d _ (Lib.hid rfl) (Lib.hid hE.symm) hd w
    · have hn : ¬ (n < 0 ∨ 80 < n) := by
        intro c
        rw [(c_out (k := k) c).2] at hE; cases hE
      have hc : cC n k ≤ 9223372036854775807 := by
        by_cases c : cC n k ≤ 9223372036854775807
        · exact c
        · rw [(c_over (k := k) (by omega) (by omega) (by omega)).2] at hE; cases hE
      have hV := (c_ok (n := n) (k := k) (by omega) (by omega) hc).1
      obtain ⟨N, rfl⟩ := Int.eq_ofNat_of_zero_le (show 0 ≤ n by omega)
      obtain ⟨D, rfl⟩ := Int.eq_ofNat_of_zero_le (show 0 ≤ d by omega)
      by_cases hk : k < 0 ∨ (N : Int) < k
      · have hz : cC N k = 0 := by
          rcases hk with h2 | h2
          · exact cC_neg h2
          · exact cC_big (by omega) h2
        rw [hz] at hV
        exact sums_in N D 0 k 0 _ (Lib.hid hV.symm) (Lib.hid hE.symm) rfl (by omega) (by omega) (by omega) (Lib.hid (row_out hk)) w
      · obtain ⟨K, rfl⟩ := Int.eq_ofNat_of_zero_le (show 0 ≤ k by omega)
        rw [cC_nat] at hV hc
        exact sums_in N D (ch N K) K _ _ (Lib.hid hV.symm) (Lib.hid hE.symm) rfl hc (by omega) (by omega) (Lib.hid (row_in (by omega) (by omega))) w
  · exact sums_err n k d _ _ (Lib.hid rfl) (Lib.hid rfl) (by simpa using hE) w
end Go.Proofs.Ytjblfmgiafdefaa.cbN

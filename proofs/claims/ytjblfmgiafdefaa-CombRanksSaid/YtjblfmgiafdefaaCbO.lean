/-
  The law CombRanks.
-/
import Derived.Test.YtjblfmgiafdefaaCbL
namespace Go.Proofs.Ytjblfmgiafdefaa.cbO
open Go.RowKit
open Go.Proofs.Ytjblfmgiafdefaa.natM Go.Proofs.Ytjblfmgiafdefaa.natA Go.Proofs.Ytjblfmgiafdefaa.natB Go.Proofs.Ytjblfmgiafdefaa.natF Go.Proofs.Ytjblfmgiafdefaa.natG Go.Proofs.Ytjblfmgiafdefaa.natX Go.Proofs.Ytjblfmgiafdefaa.natUi Go.Proofs.Ytjblfmgiafdefaa.frA Go.Proofs.Ytjblfmgiafdefaa.frB Go.Proofs.Ytjblfmgiafdefaa.monB Go.Proofs.Ytjblfmgiafdefaa.monC Go.Proofs.Ytjblfmgiafdefaa.cbM Go.Proofs.Ytjblfmgiafdefaa.cbA Go.Proofs.Ytjblfmgiafdefaa.cbB Go.Proofs.Ytjblfmgiafdefaa.cbC Go.Proofs.Ytjblfmgiafdefaa.cbD Go.Proofs.Ytjblfmgiafdefaa.cbE Go.Proofs.Ytjblfmgiafdefaa.cbF Go.Proofs.Ytjblfmgiafdefaa.cbG Go.Proofs.Ytjblfmgiafdefaa.cbH Go.Proofs.Ytjblfmgiafdefaa.cbL
set_option linter.unusedVariables false

/-- what the law's calls give -/
structure Give (n k t C : Nat) (L M : List Int) (b : Bool) : Prop where
  len : L.length = k
  un : L = urL t n k ∧ 0 = urE t n k
  rk : (t : Int) = rkV n L ∧ 0 = rkE n L
  nx : M = (if chk n L = 0 then nxL (n : Int).toNat L else []) ∧ b = (if chk n L = 0 then nxB (n : Int).toNat L else false)
  no : b = false → C = t + 1 ∧ M = []
  yes : b = true → t + 1 < C ∧ M.length = k ∧ ((t + 1 : Nat) : Int) = rkV n M ∧ 0 = rkE n M
theorem give {n k t : Nat} (h80 : n ≤ 80) (hk : k ≤ n) (hC : ch n k ≤ 9223372036854775807) (ht : t < ch n k) :
    Give n k t (ch n k) (un n n k t) (nxL n (un n n k t)) (nxB n (un n n k t)) := by
  have hl : (un n n k t).length = k := un_len ht
  have hA : Asc n 0 (un n n k t) := un_asc (Nat.le_refl _) ht 0 (by omega)
  have hg := un_gl (n := n) (Nat.le_refl _) ht
  have hc := asc_chk h80 hA
  have hu := ur_ok h80 hk hC ht
  have hr := rk_ok (m := n) hc (by rw [hl]; exact hC)
  obtain ⟨L, hL⟩ : ∃ L, L = un n n k t := ⟨_, rfl⟩
  rw [← hL] at hl hA hg hc hu hr ⊢
  have htop := lt_top (n := n) (zs := L) (Nat.le_refl _) (top_end n L)
  refine ⟨hl, ⟨hu.1.symm, hu.2.symm⟩, ⟨?_, hr.2.symm⟩, ⟨by rw [if_pos hc, Int.toNat_natCast], by rw [if_pos hc, Int.toNat_natCast]⟩, fun h => ?_, fun h => ?_⟩
  · rw [hr.1, hl]; omega
  · cases hT : lt n L L.length with
    | zero =>
      rw [hT] at htop
      have := top_zero hA htop.1
      exact ⟨by omega, (nx_no hT).1⟩
    | succ T => rw [(nx_yes hT).2] at h; cases h
  · cases hT : lt n L L.length with
    | zero => rw [(nx_no hT).2] at h; cases h
    | succ T =>
      have hTl := lt_le n L L.length
      rw [hT] at htop hTl
      obtain ⟨n1, n2⟩ := nr_next (by omega) hA htop.1 (htop.2 T rfl)
      rw [(nx_yes hT).1]
      have hl2 : (nr L T L.length).length = k := by rw [nr_len, hl]
      have hr2 := rk_ok (m := n) (asc_chk h80 n1) (by rw [hl2]; exact hC)
      exact ⟨by omega, hl2, by rw [hr2.1, hl2]; omega, hr2.2.symm⟩
set_option maxHeartbeats 1000000 in
theorem ranks_out (R : Nat) (n k V F : Int) (hV : Hid (V = cV n k)) (hF : Hid (F = cE n k)) (hne : F ≠ 0 ∨ V = 0) (w : World) : Calls Try.prog 7 #[.int .u64 (R : Int), .int .i64 n, .int .i64 k] w fun e w' => e = .returned (.bool true) ∧ Below w.heap.size w w' := by
  have k6 := awake_any
  have k1 := fun w => count_any n k V F hV hF w
  by_cases h : F = 0
  · have h0 : V = 0 := by omega
    subst h h0
    clear hne
    go_enter Try.func7, Try.ntmps7
    go_wp2_with (first
      | (go_at_call 12; (with_reducible refine (k1 _).mono ?_); rintro e w' ⟨rfl, d1, rfl⟩)
      | (go_at_call 15; (with_reducible refine (k6 _).mono ?_); rintro e w6 ⟨rfl, hb⟩)
      | fail)
    go_ret
    exact ⟨rfl, ((Kp.start w).drewN _ |>.below hb).bel⟩
  · have h0 : (F != 0) = true := by simpa using h
    clear hne h
    go_enter Try.func7, Try.ntmps7
    go_wp2_with (first
      | (go_at_call 12; (with_reducible refine (k1 _).mono ?_); rintro e w' ⟨rfl, d1, rfl⟩)
      | (go_at_call 15; (with_reducible refine (k6 _).mono ?_); rintro e w6 ⟨rfl, hb⟩)
      | fail)
    go_ret
    exact ⟨rfl, ((Kp.start w).drewN _ |>.below hb).bel⟩
set_option maxRecDepth 4000 in
set_option maxHeartbeats 4000000 in
theorem ranks_in (R n k C t : Nat) (L M : List Int) (b : Bool) (hR : R < 18446744073709551616) (h80 : n ≤ 80) (hk : k ≤ n) (hCe : Hid (C = ch n k)) (hC0 : 0 < C) (hCm : C ≤ 9223372036854775807) (ht : t < C) (htR : Hid (t = R % C)) (hG : Hid (Give n k t C L M b)) (w : World) : Calls Try.prog 7 #[.int .u64 (R : Int), .int .i64 (n : Int), .int .i64 (k : Int)] w fun e w' => e = .returned (.bool true) ∧ Below w.heap.size w w' := by
  have k6 := awake_any
  have hc := ci (V := 0) (E := 0) h80 hCe.out hCm
  have k1 := fun w => count_any (n : Int) (k : Int) (C : Int) 0 (Lib.hid hc.1.symm) (Lib.hid hc.2.symm) w
  obtain ⟨g1, g2, g3, g4, g5, g6⟩ := hG.out
  have HL := Lib.hid g1
  have k2 := fun w => unrank_any (t : Int) (n : Int) (k : Int) L 0 (Lib.hid g2.1) (Lib.hid g2.2) w
  have k3 := fun A c w hI => rank_any A k c (n : Int) (t : Int) 0 L (Lib.hid g1) (by omega) (Lib.hid g3.1) (Lib.hid g3.2) w hI
  have k4 := fun A c w hI => next_any A k c (n : Int) L M b (Lib.hid g4.1) (Lib.hid g4.2) (Lib.hid g1) (by omega) w hI
  have S0 := Lib.hid (Kp.start w)
  have c0 : ((C : Int) == 0) = false := by simp; omega
  have c1 : ((C : Int) != 0) = true := by simp; omega
  have c2 : decide ((C : Int) < 0) = false := decide_eq_false (by omega)
  have e1 : IntKind.u64.wrap (C : Int) = (C : Int) := IntWalk.u64_in _ (by omega)
  have e2 : (R : Int) % (C : Int) = (t : Int) := by rw [htR.out]; rfl
  have e3 : IntKind.u64.wrap (t : Int) = (t : Int) := IntWalk.u64_in _ (by omega)
  have e4 : IntKind.i64.wrap (t : Int) = (t : Int) := IntWalk.i64_in _ (by omega)
  obtain ⟨C1, hC1⟩ : ∃ C1, C1 = C - 1 := ⟨_, rfl⟩
  have e5 : IntKind.i64.wrap ((C : Int) - 1) = (C1 : Int) := by rw [IntWalk.i64_in _ (by omega)]; omega
  have q1 : ((t : Int) != (t : Int)) = false := by simp
  have q2 : ((k : Int) != (k : Int)) = false := by simp
  cases b with
  | false =>
    obtain ⟨h1, h2⟩ := g5 rfl
    have lt1 : decide (t < C1) = false := decide_eq_false (by omega)
    clear g1 g2 g3 g4 g5 g6 hc h1 h2 hC1
    go_enter Try.func7, Try.ntmps7
    go_wp2_with (first
      | (go_at_call 12; (with_reducible refine (k1 _).mono ?_); rintro e w' ⟨rfl, d1, rfl⟩; have S1 := Lib.hid (S0.out.drewN d1))
      | (go_at_call 23; (with_reducible refine (k2 _).mono ?_); rintro e w2 ⟨A2, n2, c2', rfl, hl, hcc, hJ, hb⟩; obtain rfl : k = n2 := HL.out.symm.trans hl; have S2 := Lib.hid (S1.out.below hb); have J2 := Lib.hid hJ; clear hl hcc hJ hb)
      | (go_at_call 18; (with_reducible refine (k3 _ _ _ J2.out).mono ?_); rintro e w' ⟨rfl, d3, rfl⟩; have S3 := Lib.hid (S2.out.drewN d3); have J3 := Lib.hid (ints_dr J2.out d3))
      | (go_at_call 20; (with_reducible refine (k4 _ _ _ J3.out).mono ?_); rintro e w4 ⟨A4, n4, c4, rfl, hl, hcc, hJ, hb⟩; have S4 := Lib.hid (S3.out.below hb); clear hl hcc hJ hb)
      | (go_at_call 15; (with_reducible refine (k6 _).mono ?_); rintro e w6 ⟨rfl, hb⟩; have S6 := Lib.hid (S4.out.below hb); clear hb)
      | fail)
    go_ret
    exact ⟨rfl, S6.out.bel⟩
  | true =>
    obtain ⟨h1, h2, h3, h4⟩ := g6 rfl
    have lt1 : decide (t < C1) = true := decide_eq_true (by omega)
    have HM := Lib.hid h2
    have k5 := fun A c w hI => rank_any A k c (n : Int) ((t + 1 : Nat) : Int) 0 M (Lib.hid h2) (by omega) (Lib.hid h3) (Lib.hid h4) w hI
    have e6 : IntKind.i64.wrap ((t : Int) + 1) = ((t + 1 : Nat) : Int) := by rw [IntWalk.i64_in _ (by omega)]; omega
    have q3 : (((t + 1 : Nat) : Int) != ((t + 1 : Nat) : Int)) = false := by simp
    clear g1 g2 g3 g4 g5 g6 hc h1 h2 h3 h4 hC1
    go_enter Try.func7, Try.ntmps7
    go_wp2_with (first
      | (go_at_call 12; (with_reducible refine (k1 _).mono ?_); rintro e w' ⟨rfl, d1, rfl⟩; have S1 := Lib.hid (S0.out.drewN d1))
      | (go_at_call 23; (with_reducible refine (k2 _).mono ?_); rintro e w2 ⟨A2, n2, c2', rfl, hl, hcc, hJ, hb⟩; obtain rfl : k = n2 := HL.out.symm.trans hl; have S2 := Lib.hid (S1.out.below hb); have J2 := Lib.hid hJ; clear hl hcc hJ hb)
      | (go_at_call 18; first
        | ((with_reducible refine (k3 _ _ _ J2.out).mono ?_); rintro e w' ⟨rfl, d3, rfl⟩; have S3 := Lib.hid (S2.out.drewN d3); have J3 := Lib.hid (ints_dr J2.out d3))
        | ((with_reducible refine (k5 _ _ _ J4.out).mono ?_); rintro e w' ⟨rfl, d5, rfl⟩; have S5 := Lib.hid (S4.out.drewN d5))
        | fail)
      | (go_at_call 20; (with_reducible refine (k4 _ _ _ J3.out).mono ?_); rintro e w4 ⟨A4, n4, c4, rfl, hl, hcc, hJ, hb⟩; obtain rfl : k = n4 := HM.out.symm.trans hl; have S4 := Lib.hid (S3.out.below hb); have J4 := Lib.hid hJ; clear hl hcc hJ hb)
      | (go_at_call 15; (with_reducible refine (k6 _).mono ?_); rintro e w6 ⟨rfl, hb⟩; have S6 := Lib.hid (S5.out.below hb); clear hb)
      | fail)
    go_ret
    exact ⟨rfl, S6.out.bel⟩
theorem ranks_any (R : Nat) (n k : Int) (hR : R < 18446744073709551616) (w : World) : Calls Try.prog 7 #[.int .u64 (R : Int), .int .i64 n, .int .i64 k] w fun e w' => e = .returned (.bool true) ∧ Below w.heap.size w w' := by
  by_cases h : cE n k ≠ 0 ∨ cV n k = 0
  · exact ranks_out R n k _ _ (Lib.hid rfl) (Lib.hid rfl) h w
  · have hE : cE n k = 0 := by omega
    have hn : ¬ (n < 0 ∨ 80 < n) := by
      intro c
      rw [(c_out (k := k) c).2] at hE; cases hE
    have hc : cC n k ≤ 9223372036854775807 := by
      by_cases c : cC n k ≤ 9223372036854775807
      · exact c
      · rw [(c_over (k := k) (by omega) (by omega) (by omega)).2] at hE; cases hE
    have hV := (c_ok (n := n) (k := k) (by omega) (by omega) hc).1
    have hk : ¬ (k < 0 ∨ n < k) := by
      intro c
      have := (c_zero (n := n) (k := k) (by omega) (by omega) c).1
      omega
    obtain ⟨N, rfl⟩ := Int.eq_ofNat_of_zero_le (show 0 ≤ n by omega)
    obtain ⟨K, rfl⟩ := Int.eq_ofNat_of_zero_le (show 0 ≤ k by omega)
    rw [cC_nat] at hV hc
    have hp : 0 < ch N K := ch_pos (by omega)
    have ht : R % ch N K < ch N K := Nat.mod_lt _ hp
    exact ranks_in R N K (ch N K) (R % ch N K) _ _ _ hR (by omega) (by omega) (Lib.hid rfl) hp hc ht (Lib.hid rfl) (Lib.hid (give (by omega) (by omega) hc ht)) w
end Go.Proofs.Ytjblfmgiafdefaa.cbO

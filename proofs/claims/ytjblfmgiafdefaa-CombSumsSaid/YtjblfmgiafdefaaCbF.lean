/-
  Contracts of Unrank of comb and of the reference.
-/
import Derived.Test.YtjblfmgiafdefaaCbE
namespace Go.Proofs.Ytjblfmgiafdefaa.cbF
open Go.RowKit
open Go.Proofs.Ytjblfmgiafdefaa.numM Go.Proofs.Ytjblfmgiafdefaa.numA Go.Proofs.Ytjblfmgiafdefaa.numB Go.Proofs.Ytjblfmgiafdefaa.numE Go.Proofs.Ytjblfmgiafdefaa.monM Go.Proofs.Ytjblfmgiafdefaa.monB Go.Proofs.Ytjblfmgiafdefaa.monC Go.Proofs.Ytjblfmgiafdefaa.cbM Go.Proofs.Ytjblfmgiafdefaa.cbA Go.Proofs.Ytjblfmgiafdefaa.cbC Go.Proofs.Ytjblfmgiafdefaa.cbD Go.Proofs.Ytjblfmgiafdefaa.cbE
set_option linter.unusedVariables false

/-- what Unrank answers -/
def urE (r n k : Int) : Int := if n < 0 ∨ 80 < n ∨ k < 0 ∨ n < k then 2 else if 9223372036854775807 < ch n.toNat k.toNat then 9 else if r < 0 ∨ (ch n.toNat k.toNat : Int) ≤ r then 2 else 0
def urL (r n k : Int) : List Int := if urE r n k = 0 then un n.toNat n.toNat k.toNat r.toNat else []
theorem ur_out {r n k : Int} (h : n < 0 ∨ 80 < n ∨ k < 0 ∨ n < k) : urL r n k = [] ∧ urE r n k = 2 := by
  have e : urE r n k = 2 := if_pos h
  exact ⟨by unfold urL; rw [e]; rfl, e⟩
theorem ur_over {r n k : Int} (h : ¬ (n < 0 ∨ 80 < n ∨ k < 0 ∨ n < k)) (h2 : 9223372036854775807 < ch n.toNat k.toNat) : urL r n k = [] ∧ urE r n k = 9 := by
  have e : urE r n k = 9 := by unfold urE; rw [if_neg h, if_pos h2]
  exact ⟨by unfold urL; rw [e]; rfl, e⟩
theorem ur_no {r n k : Int} (h : ¬ (n < 0 ∨ 80 < n ∨ k < 0 ∨ n < k)) (h2 : ¬ 9223372036854775807 < ch n.toNat k.toNat) (h3 : r < 0 ∨ (ch n.toNat k.toNat : Int) ≤ r) : urL r n k = [] ∧ urE r n k = 2 := by
  have e : urE r n k = 2 := by unfold urE; rw [if_neg h, if_neg h2, if_pos h3]
  exact ⟨by unfold urL; rw [e]; rfl, e⟩
theorem ur_ok {r n k : Nat} (h1 : n ≤ 80) (h : k ≤ n) (h2 : ch n k ≤ 9223372036854775807) (h3 : r < ch n k) : urL r n k = un n n k r ∧ urE r n k = 0 := by
  have e : urE r n k = 0 := by unfold urE; rw [if_neg (by omega), if_neg (by simp; omega), if_neg (by simp; omega)]
  exact ⟨by unfold urL; rw [e, if_pos rfl]; simp, e⟩
def UnP (L : List Int) (E : Int) (w : World) (e : Ending) (w' : World) : Prop :=
  ∃ A n c, e = .returned (.tuple #[.slice A n c, .int .i64 E]) ∧ L.length = n ∧ n ≤ c ∧ Ints w' A L ∧ Below w.heap.size w w'
theorem unp_nil (E : Int) (w : World) (d : Nat) : UnP [] E w (.returned (.tuple #[.slice none 0 0, .int .i64 E])) (w.drewN d) :=
  ⟨none, 0, 0, rfl, rfl, Nat.le_refl _, ints_nil _ _, bel_drewN (Below.refl _ _) _⟩

set_option maxHeartbeats 1000000 in
theorem unrank_err (r n k V F : Int) (hV : Hid (V = cV n k)) (hE : Hid (F = cE n k)) (hF : (F != 0) = true) (w : World) :
    Calls Try.prog 23 #[.int .i64 r, .int .i64 n, .int .i64 k] w (UnP [] F w) := by
  have cc := fun w => count_any n k V F hV hE w
  go_enter Try.func23, Try.ntmps23
  go_wp2_with (go_at_call 12; (with_reducible refine (cc _).mono ?_); rintro e w' ⟨rfl, d, rfl⟩)
  go_ret2
  exact unp_nil _ _ _
set_option maxHeartbeats 1000000 in
theorem unrank_rng (r n k V : Int) (hV : Hid (V = cV n k)) (hE : Hid (0 = cE n k)) (hr : r < 0 ∨ V ≤ r) (w : World) :
    Calls Try.prog 23 #[.int .i64 r, .int .i64 n, .int .i64 k] w (UnP [] 2 w) := by
  have cc := fun w => count_any n k V 0 hV hE w
  by_cases h : r < 0
  · clear hr
    go_enter Try.func23, Try.ntmps23
    go_wp2_with (go_at_call 12; (with_reducible refine (cc _).mono ?_); rintro e w' ⟨rfl, d, rfl⟩)
    go_ret2
    exact unp_nil _ _ _
  · have h2 : V ≤ r := by omega
    clear hr
    go_enter Try.func23, Try.ntmps23
    go_wp2_with (go_at_call 12; (with_reducible refine (cc _).mono ?_); rintro e w' ⟨rfl, d, rfl⟩)
    go_ret2
    exact unp_nil _ _ _
theorem head_at {L S : List Int} {i : Nat} {x : Int} (hi : i < L.length) (h : L.drop i = x :: S) : at0 L i = x ∧ L.drop (i + 1) = S := by
  rw [drop_at hi] at h
  injection h with h1 h2
  exact ⟨h1, h2⟩
set_option maxRecDepth 4000 in
set_option maxHeartbeats 4000000 in
theorem unrank_ok (r n k : Nat) (L : List Int) (hL : Hid (L = un n n k r)) (h80 : n ≤ 80) (hk : k ≤ n) (hC : ch n k ≤ 9223372036854775807) (hr : r < ch n k) (w : World) :
    Calls Try.prog 23 #[.int .i64 (r : Int), .int .i64 (n : Int), .int .i64 (k : Int)] w (UnP L 0 w) := by
  obtain ⟨C, hCC⟩ : ∃ C, C = ch n k := ⟨_, rfl⟩
  have hc := ci (V := 0) (E := 0) h80 hCC (by omega)
  have cc := fun w => count_any (n : Int) (k : Int) (C : Int) 0 (Lib.hid hc.1.symm) (Lib.hid hc.2.symm) w
  have hLn : Hid (L.length = k) := Lib.hid (by rw [hL.out]; exact un_len hr)
  have hmk := fun W' => (run_make_row' (P := Try.prog) 37 3 (.int .i64 0) 8 Try.underlying37 infoInt rfl .i64 .i64 k (by omega) (by omega) W')
  rw [made_row] at hmk
  rw [← hCC] at hr hC
  have HC := Lib.hid hCC
  clear hc hCC
  have f0 : decide (C ≤ r) = false := decide_eq_false (by omega)
  have f1 : decide ((r : Int) < 0) = false := decide_eq_false (by omega)
  go_enter Try.func23, Try.ntmps23
  go_wp2_with (go_at_call 12; (with_reducible refine (cc _).mono ?_); rintro e w' ⟨rfl, d, rfl⟩)
  obtain ⟨w1, hw1⟩ : ∃ w1, (w.drewN d).alloc (Obj.cells (rowA (List.replicate k 0)) 3) = w1 := ⟨_, rfl⟩
  have r1 : RowI w1 w.heap.size (pre k 0 L) := by rw [← hw1, pre_zero]; exact RowI.new_ _ _ rfl
  have b1 : Below w.heap.size w w1 := by rw [← hw1]; exact (bel_drewN (Below.refl _ _) _).alloc (Nat.le_refl _) _
  rw [hw1]
  clear hw1 hmk cc
  go_loopw [11, 12, 38] (fun s11 s12 s38 wr => ∃ i q v t : Nat, i ≤ k ∧ 1 ≤ v ∧ v ≤ n + 1 ∧ s38 = .int .i64 (i : Int) ∧ s11 = .int .i64 (q : Int) ∧ s12 = .int .i64 (v : Int) ∧ q + 1 + t ≤ C ∧ Hid (q + 1 + t = ch (n + 1 - v) (k - i)) ∧ Hid (L.drop i = un n (n + 1 - v) (k - i) t) ∧ RowI wr w.heap.size (pre k i L) ∧ Below w.heap.size w wr) (fun _ _ s38 _ => k - (intOf s38).toNat)
  case atStart => exact ⟨0, C - 1 - r, 1, r, by omega, by omega, by omega, rfl, by congr 1; omega, rfl, by omega, Lib.hid (by rw [Nat.add_sub_cancel, Nat.sub_zero, ← HC.out]; omega), Lib.hid (by rw [List.drop_zero, Nat.add_sub_cancel, Nat.sub_zero]; exact hL.out), r1, b1⟩
  case round =>
    obtain ⟨i, q, v, t, hi, hv1, hv2, rfl, rfl, rfl, hqC, H1, H2, hrow, hbel⟩ := hrel
    by_cases hlt : i < k
    · obtain ⟨j, hj⟩ : ∃ j, k - i = j + 1 := ⟨k - i - 1, by omega⟩
      have HR := Lib.hid hrow
      have HB := Lib.hid hbel
      have hj2 : ((k : Int) - (i : Int)) = ((j + 1 : Nat) : Int) := by omega
      rw [hj] at H1 H2
      have e1 : IntKind.i64.wrap ((k : Int) - (i : Int)) = ((k - i : Nat) : Int) := by rw [IntWalk.i64_in _ (by omega)]; omega
      have HJ := Lib.hid hj
      clear hrow hbel hj2 r1 b1 hj
      go_wp2_with fail
      go_loopw [12] (fun s12 wx => ∃ v t dd : Nat, 1 ≤ v ∧ v ≤ n + 1 ∧ s12 = .int .i64 (v : Int) ∧ q + 1 + t ≤ C ∧ Hid (q + 1 + t = ch (n + 1 - v) (j + 1)) ∧ Hid (L.drop i = un n (n + 1 - v) (j + 1) t) ∧ wx = wr.drewN dd) (fun s12 _ => n + 1 - (intOf s12).toNat)
      case atStart => exact ⟨v, t, 0, hv1, hv2, rfl, hqC, H1, H2, rfl⟩
      case round =>
        obtain ⟨v, t, dd, hv1, hv2, rfl, hqC, H1, H2, rfl⟩ := hrel
        have hvn : v ≤ n := by
          by_cases e : v = n + 1
          · have := H1.out
            rw [e, Nat.sub_self, ch_z] at this
            omega
          · omega
        have h1 := H1.out
        have h2 := H2.out
        rw [show n + 1 - v = n - v + 1 by omega] at h1 h2
        rw [ch_succ] at h1
        obtain ⟨G, hG⟩ : ∃ G, G = ch (n - v) (j + 1) := ⟨_, rfl⟩
        obtain ⟨F, hF⟩ : ∃ F, F = ch (n - v) j := ⟨_, rfl⟩
        rw [← hG, ← hF] at h1
        have cg := fun w => greater_any n v (k - i) G (Lib.hid (by rw [HJ.out]; exact hG)) h80 hvn (by omega) (by omega) w
        by_cases hg : q < G
        · have h3 := un_skip (n := n) (m := n - v) (j := j) (r := t) (by rw [← hF]; omega)
          rw [← hF] at h3
          have N1 : Hid (q + 1 + (t - F) = ch (n + 1 - (v + 1)) (j + 1)) := Lib.hid (by rw [show n + 1 - (v + 1) = n - v by omega, ← hG]; omega)
          have N2 : Hid (L.drop i = un n (n + 1 - (v + 1)) (j + 1) (t - F)) := Lib.hid (by rw [show n + 1 - (v + 1) = n - v by omega, ← h3]; exact h2)
          clear h1 h2 h3 hG hF
          go_wp2_with (go_at_call 39; (with_reducible refine (cg _).mono ?_); rintro e w' ⟨rfl, kk, rfl⟩)
          go_roundw
          case rel => exact ⟨v + 1, t - F, _, by omega, by omega, by go_num, by omega, N1, N2, rfl⟩
          case measure => simp [intOf]; omega
        · have h3 := un_take (n := n) (m := n - v) (j := j) (r := t) (by rw [← hF]; omega)
          rw [h3] at h2
          obtain ⟨h4, h5⟩ := head_at (by rw [hLn.out]; exact hlt) h2
          have h6 : at0 L i = (v : Int) := by rw [h4]; omega
          have c1 := HR.out.cell (j := i) (by rw [pre_len hLn.out (by omega)]; exact hlt)
          have c2 := HR.out.frozen i
          have N0 : Hid (∀ d2, RowI ((wr.drewN d2).setCell ⟨w.heap.size, i, none⟩ (.int .i64 (v : Int))) w.heap.size (pre k (i + 1) L) ∧ Below w.heap.size w ((wr.drewN d2).setCell ⟨w.heap.size, i, none⟩ (.int .i64 (v : Int)))) := Lib.hid fun d2 => by
            refine ⟨?_, (bel_drewN HB.out d2).setCell (Nat.le_refl _) _⟩
            rw [← pre_set hLn.out hlt, h6]
            exact (HR.out.drewN _).set_ i _
          have N1 : Hid (q - G + 1 + t = ch (n + 1 - (v + 1)) (k - (i + 1))) := Lib.hid (by rw [show n + 1 - (v + 1) = n - v by omega, show k - (i + 1) = j by have := HJ.out; omega, ← hF]; omega)
          have N2 : Hid (L.drop (i + 1) = un n (n + 1 - (v + 1)) (k - (i + 1)) t) := Lib.hid (by rw [show n + 1 - (v + 1) = n - v by omega, show k - (i + 1) = j by have := HJ.out; omega]; exact h5)
          have e2 : IntKind.i64.wrap ((q : Int) - (G : Int)) = ((q - G : Nat) : Int) := by rw [IntWalk.i64_in _ (by omega)]; omega
          generalize at0 (pre k i L) i = z at *
          clear h1 h2 h3 h4 h5 h6 hG hF
          go_wp2_with (go_at_call 39; (with_reducible refine (cg _).mono ?_); rintro e w' ⟨rfl, kk, rfl⟩)
          go_roundw
          case rel => exact ⟨i + 1, q - G, v + 1, t, by omega, by omega, by omega, by go_num, rfl, by go_num, by omega, N1, N2, (N0.out _).1, (N0.out _).2⟩
          case measure => simp [intOf]; omega
    · obtain rfl : i = k := by omega
      rw [pre_all hLn.out] at hrow
      have HI := Lib.hid hrow.ints
      clear hrow r1
      go_wp2_with fail
      go_ret2
      exact ⟨some ⟨w.heap.size, 0, none⟩, i, i, rfl, hLn.out, Nat.le_refl _, HI.out, hbel⟩
theorem unrank_any (r n k : Int) (L : List Int) (E : Int) (hL : Hid (L = urL r n k)) (hE : Hid (E = urE r n k)) (w : World) :
    Calls Try.prog 23 #[.int .i64 r, .int .i64 n, .int .i64 k] w (UnP L E w) := by
  by_cases h : n < 0 ∨ 80 < n
  · have hu := ur_out (r := r) (n := n) (k := k) (by omega)
    obtain rfl := hL.out.trans hu.1
    obtain rfl := hE.out.trans hu.2
    have hc := c_out (n := n) (k := k) h
    exact unrank_err r n k 0 2 (Lib.hid hc.1.symm) (Lib.hid hc.2.symm) rfl w
  by_cases h2 : k < 0 ∨ n < k
  · have hu := ur_out (r := r) (n := n) (k := k) (by omega)
    obtain rfl := hL.out.trans hu.1
    obtain rfl := hE.out.trans hu.2
    have hc := c_zero (n := n) (k := k) (by omega) (by omega) h2
    exact unrank_rng r n k 0 (Lib.hid hc.1.symm) (Lib.hid hc.2.symm) (by omega) w
  obtain ⟨N, rfl⟩ := Int.eq_ofNat_of_zero_le (show 0 ≤ n by omega)
  obtain ⟨K, rfl⟩ := Int.eq_ofNat_of_zero_le (show 0 ≤ k by omega)
  by_cases h3 : 9223372036854775807 < ch N K
  · have hu := ur_over (r := r) (n := N) (k := K) (by omega) (by simpa using h3)
    obtain rfl := hL.out.trans hu.1
    obtain rfl := hE.out.trans hu.2
    have hc := c_over (n := (N : Int)) (k := (K : Int)) (by omega) (by omega) (by rw [cC_nat]; exact h3)
    exact unrank_err r N K 0 9 (Lib.hid hc.1.symm) (Lib.hid hc.2.symm) rfl w
  by_cases h4 : r < 0 ∨ (ch N K : Int) ≤ r
  · have hu := ur_no (r := r) (n := N) (k := K) (by omega) (by simpa using h3) (by simpa using h4)
    obtain rfl := hL.out.trans hu.1
    obtain rfl := hE.out.trans hu.2
    have hc := ci (V := 0) (E := 0) (n := N) (k := K) (by omega) rfl (by omega)
    exact unrank_rng r N K _ (Lib.hid hc.1.symm) (Lib.hid hc.2.symm) h4 w
  · obtain ⟨R, rfl⟩ := Int.eq_ofNat_of_zero_le (show 0 ≤ r by omega)
    have hu := ur_ok (r := R) (n := N) (k := K) (by omega) (by omega) (by omega) (by omega)
    have e1 := hL.out.trans hu.1
    obtain rfl := hE.out.trans hu.2
    exact unrank_ok R N K L (Lib.hid e1) (by omega) (by omega) (by omega) (by omega) w

/-! ### the reference's -/
set_option maxHeartbeats 1000000 in
theorem runrank_out (r n k : Int) (h : n < 0 ∨ 80 < n ∨ k < 0 ∨ n < k) (w : World) :
    Calls Try.prog 24 #[.int .i64 r, .int .i64 n, .int .i64 k] w (UnP [] 2 w) := by
  by_cases h0 : n < 0 ∨ 80 < n
  · have cs := fun w => in_any n 80 false (Lib.hid (decide_eq_false (by omega)).symm) w
    clear h h0
    go_enter Try.func24, Try.ntmps24
    go_wp2_with (go_at_call 30; (with_reducible refine (cs _).mono ?_); rintro e w' ⟨rfl, rfl⟩)
    go_ret2
    exact unp_nil _ _ 0
  · have cs := fun w => in_any n 80 true (Lib.hid (decide_eq_true (by omega)).symm) w
    have ck := fun w => in_any k n false (Lib.hid (decide_eq_false (by omega)).symm) w
    clear h h0
    go_enter Try.func24, Try.ntmps24
    go_wp2_with (go_at_call 30; first | ((with_reducible refine (cs _).mono ?_); rintro e w' ⟨rfl, rfl⟩) | ((with_reducible refine (ck _).mono ?_); rintro e w' ⟨rfl, rfl⟩))
    go_ret2
    exact unp_nil _ _ 0
set_option maxHeartbeats 1000000 in
theorem runrank_err (r n k V F : Int) (h0 : 0 ≤ n) (h1 : n ≤ 80) (h2 : 0 ≤ k) (h3 : k ≤ n) (hV : Hid (V = cV n k)) (hE : Hid (F = cE n k)) (hF : (F != 0) = true) (w : World) :
    Calls Try.prog 24 #[.int .i64 r, .int .i64 n, .int .i64 k] w (UnP [] F w) := by
  have cs := fun w => in_any n 80 true (Lib.hid (decide_eq_true (by omega)).symm) w
  have ck := fun w => in_any k n true (Lib.hid (decide_eq_true (by omega)).symm) w
  have cc := fun w => rcount_any n k V F hV hE w
  go_enter Try.func24, Try.ntmps24
  go_wp2_with (first
    | (go_at_call 30; first | ((with_reducible refine (cs _).mono ?_); rintro e w' ⟨rfl, rfl⟩) | ((with_reducible refine (ck _).mono ?_); rintro e w' ⟨rfl, rfl⟩))
    | (go_at_call 13; (with_reducible refine (cc _).mono ?_); rintro e w' ⟨rfl, d, rfl⟩))
  go_ret2
  exact unp_nil _ _ _
set_option maxHeartbeats 1000000 in
theorem runrank_rng (r n k V : Int) (h0 : 0 ≤ n) (h1 : n ≤ 80) (h2 : 0 ≤ k) (h3 : k ≤ n) (hV : Hid (V = cV n k)) (hE : Hid (0 = cE n k)) (hr : r < 0 ∨ V ≤ r) (w : World) :
    Calls Try.prog 24 #[.int .i64 r, .int .i64 n, .int .i64 k] w (UnP [] 2 w) := by
  have cs := fun w => in_any n 80 true (Lib.hid (decide_eq_true (by omega)).symm) w
  have ck := fun w => in_any k n true (Lib.hid (decide_eq_true (by omega)).symm) w
  have cc := fun w => rcount_any n k V 0 hV hE w
  by_cases h : r < 0
  · clear hr
    go_enter Try.func24, Try.ntmps24
    go_wp2_with (first
      | (go_at_call 30; first | ((with_reducible refine (cs _).mono ?_); rintro e w' ⟨rfl, rfl⟩) | ((with_reducible refine (ck _).mono ?_); rintro e w' ⟨rfl, rfl⟩))
      | (go_at_call 13; (with_reducible refine (cc _).mono ?_); rintro e w' ⟨rfl, d, rfl⟩))
    go_ret2
    exact unp_nil _ _ _
  · have h2 : V ≤ r := by omega
    clear hr
    go_enter Try.func24, Try.ntmps24
    go_wp2_with (first
      | (go_at_call 30; first | ((with_reducible refine (cs _).mono ?_); rintro e w' ⟨rfl, rfl⟩) | ((with_reducible refine (ck _).mono ?_); rintro e w' ⟨rfl, rfl⟩))
      | (go_at_call 13; (with_reducible refine (cc _).mono ?_); rintro e w' ⟨rfl, d, rfl⟩))
    go_ret2
    exact unp_nil _ _ _
set_option maxRecDepth 4000 in
set_option maxHeartbeats 4000000 in
theorem runrank_ok (r n k : Nat) (L : List Int) (hL : Hid (L = un n n k r)) (h80 : n ≤ 80) (hk : k ≤ n) (hC : ch n k ≤ 9223372036854775807) (hr : r < ch n k) (w : World) :
    Calls Try.prog 24 #[.int .i64 (r : Int), .int .i64 (n : Int), .int .i64 (k : Int)] w (UnP L 0 w) := by
  have cs := fun w => in_any (n : Int) 80 true (Lib.hid (decide_eq_true (by omega)).symm) w
  have ck := fun w => in_any (k : Int) n true (Lib.hid (decide_eq_true (by omega)).symm) w
  obtain ⟨C, hCC⟩ : ∃ C, C = ch n k := ⟨_, rfl⟩
  have hc := ci (V := 0) (E := 0) h80 hCC (by omega)
  have cc := fun w => rcount_any (n : Int) (k : Int) (C : Int) 0 (Lib.hid hc.1.symm) (Lib.hid hc.2.symm) w
  have hLn : Hid (L.length = k) := Lib.hid (by rw [hL.out]; exact un_len hr)
  rw [← hCC] at hr hC
  have HC := Lib.hid hCC
  clear hc hCC
  have f0 : decide (C ≤ r) = false := decide_eq_false (by omega)
  have f1 : decide ((r : Int) < 0) = false := decide_eq_false (by omega)
  go_enter Try.func24, Try.ntmps24
  go_wp2_with (first
    | (go_at_call 30; first | ((with_reducible refine (cs _).mono ?_); rintro e w' ⟨rfl, rfl⟩) | ((with_reducible refine (ck _).mono ?_); rintro e w' ⟨rfl, rfl⟩))
    | (go_at_call 13; (with_reducible refine (cc _).mono ?_); rintro e w' ⟨rfl, d, rfl⟩))
  clear cs ck cc
  go_loopw [0, 10, 11] (fun s0 s10 s11 wr => ∃ t v i : Nat, i ≤ k ∧ 1 ≤ v ∧ v ≤ n + 1 ∧ s11 = .int .i64 (v : Int) ∧ s0 = .int .i64 (t : Int) ∧ t < C ∧ Hid (t < ch (n + 1 - v) (k - i)) ∧ Hid (ch (n + 1 - v) (k - i) ≤ C) ∧ Hid (L.drop i = un n (n + 1 - v) (k - i) t) ∧ Hid (OwnI wr w.heap.size s10 (L.take i) i) ∧ Below w.heap.size w wr) (fun _ _ s11 _ => n + 1 - (intOf s11).toNat)
  case atStart => exact ⟨r, 1, 0, by omega, by omega, by omega, rfl, rfl, hr, Lib.hid (by rw [Nat.add_sub_cancel, Nat.sub_zero, ← HC.out]; exact hr), Lib.hid (by rw [Nat.add_sub_cancel, Nat.sub_zero, ← HC.out]; omega), Lib.hid (by rw [List.drop_zero, Nat.add_sub_cancel, Nat.sub_zero]; exact hL.out), Lib.hid (own_nil _ _), bel_drewN (Below.refl _ _) _⟩
  case round =>
    obtain ⟨t, v, i, hi, hv1, hv2, rfl, rfl, htC, H1, H3, H2, hown, hbel⟩ := hrel
    obtain ⟨A9, c9, rfl, h5, h6, h7⟩ := own_sliceI hown.out
    by_cases hlt : i < k
    · obtain ⟨j, hj⟩ : ∃ j, k - i = j + 1 := ⟨k - i - 1, by omega⟩
      rw [hj] at H1 H2 H3
      have hvn : v ≤ n := by
        by_cases e : v = n + 1
        · have := H1.out
          rw [e, Nat.sub_self, ch_z] at this
          omega
        · omega
      have h1 := H1.out
      have h2 := H2.out
      have h3 := H3.out
      rw [show n + 1 - v = n - v + 1 by omega] at h1 h2 h3
      rw [ch_succ] at h1 h3
      obtain ⟨G, hG⟩ : ∃ G, G = ch (n - v) (j + 1) := ⟨_, rfl⟩
      obtain ⟨F, hF⟩ : ∃ F, F = ch (n - v) j := ⟨_, rfl⟩
      rw [← hG, ← hF] at h1 h3
      have hc2 := ci (V := 0) (E := 0) (show n - v ≤ 80 by omega) hF (by omega)
      have cr := fun w => rcount_any ((n - v : Nat) : Int) (j : Int) (F : Int) 0 (Lib.hid hc2.1.symm) (Lib.hid hc2.2.symm) w
      obtain ⟨k1, hk1⟩ : ∃ k1 : Nat, (k : Int) - 1 = (k1 : Int) := ⟨k - 1, by omega⟩
      have hk2 : (k1 : Int) - (i : Int) = (j : Int) := by omega
      have e1 : IntKind.i64.wrap ((n : Int) - (v : Int)) = ((n - v : Nat) : Int) := by rw [IntWalk.i64_in _ (by omega)]; omega
      have HJ := Lib.hid hj
      have HB := hbel.size
      have HBel := Lib.hid hbel
      clear hj hc2 hbel h6
      by_cases hg : t < F
      · have h4 := un_take (n := n) (m := n - v) (j := j) (r := t) (by rw [← hF]; omega)
        rw [h4] at h2
        obtain ⟨g4, g5⟩ := head_at (by rw [hLn.out]; exact hlt) h2
        have g6 : at0 L i = (v : Int) := by rw [g4]; omega
        have D1 : Hid (L.take i ++ [(v : Int)] = L.take (i + 1)) := Lib.hid (by rw [← g6, take_snoc (by rw [hLn.out]; exact hlt)])
        have N1 : Hid (t < ch (n + 1 - (v + 1)) (k - (i + 1))) := Lib.hid (by rw [show n + 1 - (v + 1) = n - v by omega, show k - (i + 1) = j by have := HJ.out; omega, ← hF]; exact hg)
        have N3 : Hid (ch (n + 1 - (v + 1)) (k - (i + 1)) ≤ C) := Lib.hid (by rw [show n + 1 - (v + 1) = n - v by omega, show k - (i + 1) = j by have := HJ.out; omega, ← hF]; omega)
        have N2 : Hid (L.drop (i + 1) = un n (n + 1 - (v + 1)) (k - (i + 1)) t) := Lib.hid (by rw [show n + 1 - (v + 1) = n - v by omega, show k - (i + 1) = j by have := HJ.out; omega]; exact g5)
        clear h1 h2 h3 h4 g4 g5 g6 hG hF h7
        go_wp2_with (first
          | (go_at_call 13; (with_reducible refine (cr _).mono ?_); rintro e w' ⟨rfl, kk, rfl⟩)
          | (refine push_int (by rfl) (.tmp 65) (.tmp 67) (by rfl) (wr.drewN kk) w.heap.size _ i (L.take i) (v : Int) (by rfl) hown.out (by rfl) (by omega) HB ?_; intro g cg w3 hp; unfold PushedI at hp; rw [D1.out] at hp; have HP := Lib.hid hp; clear hp))
        go_roundw
        case rel => exact ⟨t, v + 1, i + 1, by omega, by omega, by omega, by go_num, rfl, htC, N1, N3, N2, Lib.hid HP.out.1, (bel_drewN HBel.out _).trans HP.out.2⟩
        case measure => simp [intOf]; omega
      · have h4 := un_skip (n := n) (m := n - v) (j := j) (r := t) (by rw [← hF]; omega)
        rw [← hF] at h4
        have N1 : Hid (t - F < ch (n + 1 - (v + 1)) (k - i)) := Lib.hid (by rw [show n + 1 - (v + 1) = n - v by omega, HJ.out, ← hG]; omega)
        have N3 : Hid (ch (n + 1 - (v + 1)) (k - i) ≤ C) := Lib.hid (by rw [show n + 1 - (v + 1) = n - v by omega, HJ.out, ← hG]; omega)
        have N2 : Hid (L.drop i = un n (n + 1 - (v + 1)) (k - i) (t - F)) := Lib.hid (by rw [show n + 1 - (v + 1) = n - v by omega, HJ.out, ← h4]; exact h2)
        have e2 : IntKind.i64.wrap ((t : Int) - (F : Int)) = ((t - F : Nat) : Int) := by rw [IntWalk.i64_in _ (by omega)]; omega
        have tF : t - F < C := by omega
        clear h1 h2 h3 h4 hG hF h7
        go_wp2_with (first
          | (go_at_call 13; (with_reducible refine (cr _).mono ?_); rintro e w' ⟨rfl, kk, rfl⟩))
        go_roundw
        case rel => exact ⟨t - F, v + 1, i, by omega, by omega, by omega, by go_num, rfl, tF, N1, N3, N2, hown, bel_drewN HBel.out _⟩
        case measure => simp [intOf]; omega
    · obtain rfl : i = k := by omega
      rw [List.take_of_length_le (by rw [hLn.out]; omega)] at h6
      have H6 := Lib.hid h6
      have HBel := Lib.hid hbel
      clear h6 h7 hbel
      by_cases hv : v ≤ n
      · go_wp2_with fail
        go_ret2
        exact ⟨A9, i, c9, rfl, hLn.out, h5, H6.out, HBel.out⟩
      · go_wp2_with fail
        go_ret2
        exact ⟨A9, i, c9, rfl, hLn.out, h5, H6.out, HBel.out⟩
theorem runrank_any (r n k : Int) (L : List Int) (E : Int) (hL : Hid (L = urL r n k)) (hE : Hid (E = urE r n k)) (w : World) :
    Calls Try.prog 24 #[.int .i64 r, .int .i64 n, .int .i64 k] w (UnP L E w) := by
  by_cases h : n < 0 ∨ 80 < n ∨ k < 0 ∨ n < k
  · have hu := ur_out (r := r) (n := n) (k := k) h
    obtain rfl := hL.out.trans hu.1
    obtain rfl := hE.out.trans hu.2
    exact runrank_out r n k h w
  obtain ⟨N, rfl⟩ := Int.eq_ofNat_of_zero_le (show 0 ≤ n by omega)
  obtain ⟨K, rfl⟩ := Int.eq_ofNat_of_zero_le (show 0 ≤ k by omega)
  by_cases h3 : 9223372036854775807 < ch N K
  · have hu := ur_over (r := r) (n := N) (k := K) (by omega) (by simpa using h3)
    obtain rfl := hL.out.trans hu.1
    obtain rfl := hE.out.trans hu.2
    have hc := c_over (n := (N : Int)) (k := (K : Int)) (by omega) (by omega) (by rw [cC_nat]; exact h3)
    exact runrank_err r N K 0 9 (by omega) (by omega) (by omega) (by omega) (Lib.hid hc.1.symm) (Lib.hid hc.2.symm) rfl w
  by_cases h4 : r < 0 ∨ (ch N K : Int) ≤ r
  · have hu := ur_no (r := r) (n := N) (k := K) (by omega) (by simpa using h3) (by simpa using h4)
    obtain rfl := hL.out.trans hu.1
    obtain rfl := hE.out.trans hu.2
    have hc := ci (V := 0) (E := 0) (n := N) (k := K) (by omega) rfl (by omega)
    exact runrank_rng r N K _ (by omega) (by omega) (by omega) (by omega) (Lib.hid hc.1.symm) (Lib.hid hc.2.symm) h4 w
  · obtain ⟨R, rfl⟩ := Int.eq_ofNat_of_zero_le (show 0 ≤ r by omega)
    have hu := ur_ok (r := R) (n := N) (k := K) (by omega) (by omega) (by omega) (by omega)
    have e1 := hL.out.trans hu.1
    obtain rfl := hE.out.trans hu.2
    exact runrank_ok R N K L (Lib.hid e1) (by omega) (by omega) (by omega) (by omega) w
end Go.Proofs.Ytjblfmgiafdefaa.cbF

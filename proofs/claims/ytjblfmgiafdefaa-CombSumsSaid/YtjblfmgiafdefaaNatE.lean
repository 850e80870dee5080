/-
  The contract of takeDigit of nat.
-/
import Derived.Test.YtjblfmgiafdefaaNatD
namespace Go.Proofs.Ytjblfmgiafdefaa.natE
open Go.RowKit
open Go.Proofs.Ytjblfmgiafdefaa.natM Go.Proofs.Ytjblfmgiafdefaa.natA Go.Proofs.Ytjblfmgiafdefaa.natB Go.Proofs.Ytjblfmgiafdefaa.natC Go.Proofs.Ytjblfmgiafdefaa.natD
set_option linter.unusedVariables false

theorem win_dg {zs : List Nat} {o n V j : Nat} (ho : o + n ≤ zs.length) (hj : j < n) : at0 (put zs o (dg 4294967296 n V)) (o + j) = V / 4294967296 ^ j % 4294967296 := by
  rw [put_at (by rw [dg_len]; exact ho), dg_len, if_pos (by omega), Nat.add_sub_cancel_left, dg_at hj]
theorem put_put {zs ys us : List Nat} {o : Nat} (h : o + ys.length ≤ zs.length) (hl : us.length = ys.length) : put (put zs o ys) o us = put zs o us := by
  apply ext0
  · rw [put_len (by rw [put_len h]; omega), put_len h, put_len (by omega)]
  · intro k _
    rw [put_at (by rw [put_len h]; omega), put_at h, put_at (by omega), hl]
    by_cases h1 : o ≤ k ∧ k < o + ys.length
    · rw [if_pos h1, if_pos h1]
    · rw [if_neg h1, if_neg h1, if_neg h1]
theorem own_win {w : World} {zs : List Nat} {g o n V : Nat} (h : Own .u32 w g (put zs o (dg 4294967296 n V))) (ho : o + n ≤ zs.length) : Cel .u32 w (some ⟨g, o, none⟩) (dg 4294967296 n V) :=
  h.cel fun j hj => by
    rw [dg_len] at hj
    rw [put_len (by rw [dg_len]; exact ho), win_dg ho hj, dg_at hj]
    exact ⟨by omega, rfl⟩
theorem own_cel {w : World} {zs : List Nat} {g o n V : Nat} (h : Own .u32 w g zs) (ho : o + n ≤ zs.length) (hwin : ∀ j, j < n → at0 zs (o + j) = V / 4294967296 ^ j % 4294967296) : Cel .u32 w (some ⟨g, o, none⟩) (dg 4294967296 n V) :=
  h.cel fun j hj => by
    rw [dg_len] at hj
    rw [hwin j hj, dg_at hj]
    exact ⟨by omega, rfl⟩

/-- the first guess -/
theorem guess_round {W D j n N rh rl dt : Nat} (hn : n = j + 1) (hN : N = n + 1) (hW : W < D * 4294967296) (hDl : 4294967296 ^ j ≤ D) (hDh : D < 4294967296 ^ n)
    (h1 : rh = W / 4294967296 ^ n % 4294967296) (h2 : rl = W / 4294967296 ^ j % 4294967296) (h3 : dt = D / 4294967296 ^ j % 4294967296) :
    ∃ H1 Hh q0 : Nat, (rh : Int) * 4294967296 = (H1 : Int) ∧ bits .or .u64 (H1 : Int) (rl : Int) = (Hh : Int) ∧ (Hh : Int) / (dt : Int) = (q0 : Int) ∧ H1 < 18446744073709551616 ∧ Hh < 18446744073709551616 ∧ q0 < 18446744073709551616 ∧ rh < 4294967296 ∧ rl < 4294967296 ∧ dt < 4294967296 ∧ 0 < dt ∧
      (∃ t0 : Nat, (if (4294967295 : Int) < (q0 : Int) then (4294967295 : Int) else (q0 : Int)) = (t0 : Int) ∧ t0 < 4294967296 ∧ W / D ≤ t0) ∧ W < 4294967296 ^ N := by
  have b1 : rh < 4294967296 := by rw [h1]; exact Nat.mod_lt _ (by omega)
  have b2 : rl < 4294967296 := by rw [h2]; exact Nat.mod_lt _ (by omega)
  have b3 : dt < 4294967296 := by rw [h3]; exact Nat.mod_lt _ (by omega)
  have hP : 0 < 4294967296 ^ j := Nat.pow_pos (by omega)
  have eB : (4294967296 : Nat) ^ n = 4294967296 ^ j * 4294967296 := by rw [hn, Nat.pow_succ]
  have hd : D / 4294967296 ^ j < 4294967296 := Nat.div_lt_of_lt_mul (by rw [← eB]; exact hDh)
  have hd0 : 0 < D / 4294967296 ^ j := Nat.div_pos hDl hP
  have ed : dt = D / 4294967296 ^ j := by rw [h3, Nat.mod_eq_of_lt hd]
  have hWN : W < 4294967296 ^ N := by
    have : D * 4294967296 < 4294967296 ^ N := by rw [hN, Nat.pow_succ]; omega
    omega
  have eH : rh * 4294967296 + rl = W / 4294967296 ^ j := by
    have e1 := Nat.mod_add_div (W / 4294967296 ^ j) 4294967296
    rw [Nat.div_div_eq_div_mul, ← eB] at e1
    have e2 : W / 4294967296 ^ n < 4294967296 := Nat.div_lt_of_lt_mul (by rw [hN, Nat.pow_succ] at hWN; exact hWN)
    rw [h1, h2, Nat.mod_eq_of_lt e2]; omega
  obtain ⟨g1, g2⟩ := guess_ge (B := 4294967296) (W := W) (D := D) (P := 4294967296 ^ j) hP hd0 hW
  rw [← ed, ← eH] at g1
  have hq : (rh * 4294967296 + rl) / dt ≤ rh * 4294967296 + rl := Nat.div_le_self _ _
  refine ⟨rh * 4294967296, rh * 4294967296 + rl, (rh * 4294967296 + rl) / dt, by omega, or_word rh rl b1 b2, by rw [Int.natCast_ediv], by omega, by omega, by omega, b1, b2, b3, by omega, ?_, hWN⟩
  generalize (rh * 4294967296 + rl) / dt = q at *
  by_cases h : (4294967295 : Int) < (q : Int)
  · exact ⟨4294967295, by rw [if_pos h]; rfl, by omega, by omega⟩
  · exact ⟨q, by rw [if_neg h], by omega, g1⟩
theorem zero65 (w : World) : (zeroValue 88).run Try.prog w = .ok (.agg ((dg 4294967296 65 0).map fun x : Nat => Value.int .u32 (x : Int)).toArray) w := by kernel_rfl

set_option maxHeartbeats 4000000 in
theorem take_any (g o n j N cx cd W D : Nat) (A : Option Addr) (zs : List Nat) (hn : Hid (n = j + 1)) (hN : Hid (N = n + 1)) (hoz : o + N ≤ zs.length) (hwin : Hid (∀ k, k < N → at0 zs (o + k) = W / 4294967296 ^ k % 4294967296)) (hW : Hid (W < D * 4294967296))
    (hDl : Hid (4294967296 ^ j ≤ D)) (hDh : Hid (D < 4294967296 ^ n)) (hn64 : n ≤ 64) (w : World) (hx : Own .u32 w g zs) (hI : Cel .u32 w A (dg 4294967296 n D)) (hF : Far A n g) :
    Calls Try.prog 65 #[.slice (some ⟨g, o, none⟩) N cx, .slice A n cd] w fun e w' => e = .returned (.int .u32 ((W / D : Nat) : Int)) ∧ Own .u32 w' g (put zs o (dg 4294967296 N (W % D))) ∧ w.grownBy w' (some g) := by
  have hn1 := hn.out
  have hN1 := hN.out
  have c1 := hx.cell (j := o + n) (by omega)
  have c2 := hx.cell (j := o + j) (by omega)
  rw [hwin.out n (by omega)] at c1
  rw [hwin.out j (by omega)] at c2
  obtain ⟨b, off, rfl, c3⟩ := hI.at_ (k := j) (by rw [dg_len]; omega)
  rw [dg_at (by omega)] at c3
  obtain ⟨rh, h1⟩ : ∃ x, x = W / 4294967296 ^ n % 4294967296 := ⟨_, rfl⟩
  obtain ⟨rl, h2⟩ : ∃ x, x = W / 4294967296 ^ j % 4294967296 := ⟨_, rfl⟩
  obtain ⟨dt, h3⟩ : ∃ x, x = D / 4294967296 ^ j % 4294967296 := ⟨_, rfl⟩
  rw [← h1] at c1
  rw [← h2] at c2
  rw [← h3] at c3
  obtain ⟨H1, Hh, q0, e1, e2, e3, b1, b2, b3, b4, b5, b6, b7, ⟨t0, e4, b8, g1⟩, hWN⟩ := guess_round hn.out hN.out hW.out hDl.out hDh.out h1 h2 h3
  have HX := Lib.hid hx
  have HI := Lib.hid hI
  have HF := Lib.hid hF
  have G1 := Lib.hid g1
  have HW := Lib.hid hWN
  have n0 : (0 : Int) ≤ (n : Int) := by omega
  have n1 : (n : Int) < (N : Int) := by omega
  have j0 : (0 : Int) ≤ (j : Int) := by omega
  have j1 : (j : Int) < (N : Int) := by omega
  have j2 : (j : Int) < (n : Int) := by omega
  have ej : (n : Int) - 1 = (j : Int) := by omega
  have eN : (n : Int) + 1 = (N : Int) := by omega
  have N0 : (N : Int) ≤ 65 := by omega
  clear hx hI hF g1 hWN h1 h2 h3 hn1 hN1
  have hz := zero65
  have HB : Hid (∀ t, t < 4294967296 → t * D < 4294967296 ^ N) := Lib.hid fun t ht => by
    have h1 : t * D ≤ 4294967295 * D := Nat.mul_le_mul_right D (by omega)
    have h2 : (4294967296 : Nat) ^ N = 4294967296 ^ n * 4294967296 := by rw [hN.out, Nat.pow_succ]
    have := hDh.out
    omega
  have HD0 : Hid (0 < D) := Lib.hid (Nat.lt_of_lt_of_le (Nat.pow_pos (by omega)) hDl.out)
  have HGne : Hid (w.heap.size ≠ g) := Lib.hid (fun e => by have := HX.out.lt; omega)
  have hgl : Hid (g < w.heap.size) := Lib.hid HX.out.lt
  have ca := fun k => addT_any w.heap.size 0 N N n cd t0 0 D (some ⟨b, off, none⟩) (dg 4294967296 65 0) (by rw [dg_len]; omega) (Lib.hid fun j hj => by rw [Nat.zero_add, dg_at (by omega)]) hDh b8 (by omega) (by omega) ((w.drewN k).alloc (.cells ((dg 4294967296 65 0).map fun x : Nat => Value.int .u32 (x : Int)).toArray 88)) (Own.new_ .u32 (w.drewN k) 88 (dg 4294967296 65 0) rfl) ((HI.out.drewN k).alloc _) (by have := HI.out.far (g := w.heap.size) (Nat.le_refl _); rwa [dg_len] at this)
  have ca2 := Lib.hid ca
  clear ca
  rw [Nat.zero_add] at ca2
  go_enter Try.func65, Try.ntmps65
  go_wp2_with fail
  go_quiet (fail)
  go_wp2_with (go_at_call 47; refine (ca2.out _).mono ?_; rintro e w1 ⟨rfl, ho, hg⟩; have HO := Lib.hid ho; have HG := Lib.hid hg; clear ho hg)
  have HB1 : Hid (Below w.heap.size w w1) := Lib.hid (below_grown ((bel_drewN (Below.refl _ w) _).alloc (Nat.le_refl _) _) HG.out (Nat.le_refl _) (by simp))
  clear ca2 hz HG c1 c2 c3 e1 e2 e3 e4
  go_loopw [7] (fun d wr => ∃ t : Nat, d = .int .u32 (t : Int) ∧ Hid (W / D ≤ t) ∧ t < 4294967296 ∧ Own .u32 wr w.heap.size (put (dg 4294967296 65 0) 0 (dg 4294967296 N (t * D))) ∧ Below w.heap.size w wr) (fun d _ => (intOf d).toNat)
  case atStart => exact ⟨t0, rfl, G1, b8, HO.out, HB1.out⟩
  case round =>
    obtain ⟨t, rfl, ht, ht2, own, bel⟩ := hrel
    have hZ : 0 + N ≤ (dg 4294967296 65 0).length := by rw [dg_len]; omega
    have celP := own_win own hZ
    have ownR : Own .u32 wr g zs := HX.out.below bel
    have celR := own_cel ownR hoz hwin.out
    have celD := HI.out.below bel
    have hVb := HB.out t ht2
    have OW := Lib.hid own
    have BL := Lib.hid bel
    have OR := Lib.hid ownR
    by_cases h : W < t * D
    · have hlt : W / D < t := guess_down HD0.out h
      obtain ⟨t', rfl⟩ : ∃ t', t = t' + 1 := ⟨t - 1, by have := Nat.lt_of_le_of_lt (Nat.zero_le _) hlt; omega⟩
      have cc := compare_any (some ⟨w.heap.size, 0, none⟩) (some ⟨g, o, none⟩) N N N cx ((t' + 1) * D) W 1 (Lib.hid hVb) HW (.inl rfl) (Lib.hid (cmpI_gt h).symm) (by omega) (by omega) wr celP celR
      have cs := fun k => subT_any w.heap.size 0 N N n cd ((t' + 1) * D) D (some ⟨b, off, none⟩) (put (dg 4294967296 65 0) 0 (dg 4294967296 N ((t' + 1) * D))) (by rw [put_len (by rw [dg_len]; exact hZ)]; exact hZ) (Lib.hid fun j hj => win_dg hZ hj) hDh (Lib.hid (by rw [Nat.add_mul, Nat.one_mul]; exact Nat.le_add_left _ _)) (by omega) (by omega) (wr.drewN k) (OW.out.drewN k) (celD.drewN k) (by have := HI.out.far (g := w.heap.size) (Nat.le_refl _); rwa [dg_len] at this)
      rw [put_put (by rw [dg_len]; exact hZ) (by rw [dg_len, dg_len]), show (t' + 1) * D - D = t' * D by rw [Nat.add_mul, Nat.one_mul, Nat.add_sub_cancel]] at cs
      have CC := Lib.hid cc
      have CS := Lib.hid cs
      have ht3 : Hid (W / D ≤ t') := Lib.hid (Nat.le_of_lt_succ hlt)
      clear own bel ownR celP celR celD hVb cc cs h hlt
      go_wp2_with (first
        | (go_at_call 71; refine CC.out.mono ?_; rintro e w2 ⟨rfl, k2, rfl⟩)
        | (go_at_call 72; refine (CS.out _).mono ?_; rintro e w3 ⟨rfl, ho, hg⟩; have HO3 := Lib.hid ho; have HG3 := Lib.hid hg; clear ho hg))
      go_roundw
      case rel => exact ⟨t', by go_num, ht3, by omega, HO3.out, below_grown (bel_drewN BL.out _) HG3.out (Nat.le_refl _) (by simpa using BL.out.size)⟩
      case measure => simp [intOf]
    · have hle : t * D ≤ W := Nat.le_of_not_lt h
      obtain ⟨hq1, hq2⟩ := guess_stop HD0.out ht.out hle
      obtain ⟨C, hC, hC0⟩ : ∃ C, Hid (C = cmpI (t * D) W) ∧ C ≤ 0 := ⟨cmpI (t * D) W, rfl, by unfold cmpI; rw [if_neg (show ¬ W < t * D from h)]; split <;> omega⟩
      have cc := compare_any (some ⟨w.heap.size, 0, none⟩) (some ⟨g, o, none⟩) N N N cx (t * D) W C (Lib.hid hVb) HW (.inl rfl) hC (by omega) (by omega) wr celP celR
      have cs := fun k => subT_any g o N cx N N W (t * D) (some ⟨w.heap.size, 0, none⟩) zs hoz hwin (Lib.hid hVb) (Lib.hid hle) (by omega) (by omega) (wr.drewN k) (OR.out.drewN k) (celP.drewN k) (Far.ne HGne.out)
      rw [hq2] at cs
      have CC := Lib.hid cc
      have CS := Lib.hid cs
      have HQ := Lib.hid hq1
      clear own bel ownR celP celR celD hVb cc cs h hq1 hq2 hle
      go_wp2_with (first
        | (go_at_call 71; refine CC.out.mono ?_; rintro e w2 ⟨rfl, k2, rfl⟩)
        | (go_at_call 72; refine (CS.out _).mono ?_; rintro e w3 ⟨rfl, ho, hg⟩; have HO3 := Lib.hid ho; have HG3 := Lib.hid hg; clear ho hg))
      go_ret
      exact ⟨ret_int (by rw [HQ.out]), HO3.out, grown_trans (grown_drewN (grown_below (grown_refl w _) BL.out) _) HG3.out⟩
end Go.Proofs.Ytjblfmgiafdefaa.natE

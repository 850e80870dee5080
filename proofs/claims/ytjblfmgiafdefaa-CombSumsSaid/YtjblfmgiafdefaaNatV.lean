/-
  The reference's half, mul.
-/
import Derived.Test.YtjblfmgiafdefaaNatU
namespace Go.Proofs.Ytjblfmgiafdefaa.natV
open Go.RowKit
open Go.Proofs.Ytjblfmgiafdefaa.natM Go.Proofs.Ytjblfmgiafdefaa.natA Go.Proofs.Ytjblfmgiafdefaa.natB Go.Proofs.Ytjblfmgiafdefaa.natC Go.Proofs.Ytjblfmgiafdefaa.natD Go.Proofs.Ytjblfmgiafdefaa.natE Go.Proofs.Ytjblfmgiafdefaa.natF Go.Proofs.Ytjblfmgiafdefaa.natG Go.Proofs.Ytjblfmgiafdefaa.natR Go.Proofs.Ytjblfmgiafdefaa.natS Go.Proofs.Ytjblfmgiafdefaa.natT Go.Proofs.Ytjblfmgiafdefaa.natU
set_option linter.unusedVariables false

theorem make_i64 (n : Nat) (hn : n ≤ 1000000) (W : World) : (Instr.makeSlice 37 (.int .i64 (n : Int)) (.int .i64 (n : Int))).run Try.prog W =
    .ok (.slice (some ⟨W.heap.size, 0, none⟩) n n) (W.alloc (.cells ((dg 65536 n 0).map fun x : Nat => Value.int .i64 (x : Int)).toArray 3)) := by
  have := run_make_row' (P := Try.prog) 37 3 (.int .i64 0) 8 Try.underlying37 infoI rfl .i64 .i64 n (by omega) (by omega) W
  rw [zero_row .i64 n, ← dg_of_zero 65536 n] at this
  exact this
theorem put_downH {zs : List Nat} {o j n v lo : Nat} (hkn : j < n) (ho : o + n ≤ zs.length) (hlo : lo = v / 65536 ^ j % 65536) :
    (put zs (o + (j + 1)) (dg 65536 (n - (j + 1)) (v / 65536 ^ (j + 1)))).set (o + j) lo = put zs (o + j) (dg 65536 (n - j) (v / 65536 ^ j)) := by
  have := put_cons (zs := zs) (ys := dg 65536 (n - (j + 1)) (v / 65536 ^ (j + 1))) (o := o + j) (x := lo) (by rw [dg_len]; omega)
  rw [show o + (j + 1) = o + j + 1 by omega, this, dg_cons hkn, hlo]
/-- the end of a function that trims the row that it has made -/
theorem rp_trim {w wr : World} {g n N V : Nat} (hN : N = nlen 65536 V) (hV : V < 65536 ^ n) (own : Own .i64 wr g (dg 65536 n V)) (hg : w.heap.size ≤ g) (hb : Below w.heap.size w wr) : RP V w (.returned (.slice (some ⟨g, 0, none⟩) N n)) wr :=
  ⟨some ⟨g, 0, none⟩, N, n, rfl, ⟨hN, by rw [hN]; exact nlen_le (by omega) hV, cel_less own.all (by rw [hN]; exact nlen_le (by omega) hV)⟩, New.some_ hg, hb⟩

/-! ### half -/
theorem half_round {X j r x : Nat} (hr : r = X / 65536 ^ (j + 1) % 2) (hx : x = X / 65536 ^ j % 65536) :
    ∃ p N lo r2 : Nat, 65536 * (r : Int) = (p : Int) ∧ (p : Int) + (x : Int) = (N : Int) ∧ (N : Int) / 2 = (lo : Int) ∧ (N : Int) % 2 = (r2 : Int) ∧ p < 262144 ∧ N < 262144 ∧ lo < 65536 ∧ r2 < 2 ∧ x < 65536 ∧ r < 2 ∧
      lo = X / 2 / 65536 ^ j % 65536 ∧ r2 = X / 65536 ^ j % 2 := by
  have hx2 : x < 65536 := by rw [hx]; exact Nat.mod_lt _ (by omega)
  have hr2 : r < 2 := by rw [hr]; exact Nat.mod_lt _ (by omega)
  obtain ⟨h1, h2⟩ := chunk_step (B := 65536) (X := X) (c := 2) (i := j) (by omega) (by omega)
  rw [← hr, ← hx] at h1 h2
  exact ⟨65536 * r, r * 65536 + x, (r * 65536 + x) / 2, (r * 65536 + x) % 2, by omega, by omega, by omega, by omega, by omega, by omega, by omega, by omega, hx2, hr2, h1, h2⟩

/-! ### mul -/
theorem mul_round {Xw Y f k cc x y : Nat} (hx : x = Xw / 65536 ^ k % 65536) (hy : y = Y / 65536 ^ k % 65536) (hc : cc ≤ f) (hf : f < 65536)
    (h : (Xw + f * (Y % 65536 ^ k)) / 65536 ^ k = cc + Xw / 65536 ^ k) :
    ∃ p s N lo c2 : Nat, (f : Int) * (y : Int) = (p : Int) ∧ (x : Int) + (p : Int) = (s : Int) ∧ (s : Int) + (cc : Int) = (N : Int) ∧ (N : Int) % 65536 = (lo : Int) ∧ (N : Int) / 65536 = (c2 : Int) ∧
      p < 4294967296 ∧ s < 4294967296 ∧ N < 4294967296 ∧ lo < 65536 ∧ c2 < 65536 ∧ x < 65536 ∧ y < 65536 ∧ lo = (Xw + f * Y) / 65536 ^ k % 65536 ∧ c2 ≤ f ∧
      (Xw + f * (Y % 65536 ^ (k + 1))) / 65536 ^ (k + 1) = c2 + Xw / 65536 ^ (k + 1) := by
  have hx2 : x < 65536 := by rw [hx]; exact Nat.mod_lt _ (by omega)
  have hy2 : y < 65536 := by rw [hy]; exact Nat.mod_lt _ (by omega)
  have hb := step_bd (f := f) hx2 hc hf hy2
  obtain ⟨h1, h2⟩ := carry_step (B := 65536) (n := x + cc + f * y) (by omega) h (by rw [hx, hy])
  have h3 := carry_le (Nat.mod_lt Y (Nat.pow_pos (n := k + 1) (show 0 < 65536 by omega))) h2
  have e : x + cc + f * y = x + f * y + cc := by omega
  rw [e] at h1 h2 h3 hb
  have hyi : (f : Int) * (y : Int) = ((f * y : Nat) : Int) := by rw [← Int.natCast_mul]
  exact ⟨f * y, x + f * y, x + f * y + cc, (x + f * y + cc) % 65536, (x + f * y + cc) / 65536, hyi, by omega, by omega, by omega, by omega, by omega, by omega, by omega, Nat.mod_lt _ (by omega), by omega, hx2, hy2, h1.symm, h3, h2⟩
theorem carry_out {Xw Y f m c : Nat} (hY : Y < 65536 ^ m) (hV : Xw + f * Y < 65536 ^ (m + 1)) (h : (Xw + f * (Y % 65536 ^ (m + 1))) / 65536 ^ (m + 1) = c + Xw / 65536 ^ (m + 1)) : c = 0 := by
  have h1 : Y < 65536 ^ (m + 1) := by rw [Nat.pow_succ]; omega
  rw [Nat.mod_eq_of_lt h1, Nat.div_eq_of_lt hV] at h
  exact (Nat.add_eq_zero_iff.1 h.symm).1
theorem put_more {zs : List Nat} {o k n V : Nat} (hkn : k ≤ n) (ho : o + n ≤ zs.length) (h : ∀ j, k ≤ j → j < n → at0 zs (o + j) = V / 65536 ^ j % 65536) : put zs o (dg 65536 k V) = put zs o (dg 65536 n V) := by
  apply ext0
  · rw [put_len (by rw [dg_len]; omega), put_len (by rw [dg_len]; omega)]
  · intro i _
    rw [put_at (by rw [dg_len]; omega), put_at (by rw [dg_len]; omega), dg_len, dg_len]
    by_cases h1 : o ≤ i ∧ i < o + k
    · rw [if_pos h1, if_pos (by omega), dg_at (by omega), dg_at (by omega)]
    · rw [if_neg h1]
      by_cases h2 : o ≤ i ∧ i < o + n
      · rw [if_pos h2, dg_at (by omega), ← h (i - o) (by omega) (by omega)]
        congr 1; omega
      · rw [if_neg h2]
/-- the row behind the inner loop -/
theorem row_done {N0 o k m P f Y : Nat} (hk : k ≤ m + 1) (hmk : m ≤ k) (hN : o + (m + 1) ≤ N0) (hY : Y < 65536 ^ m) (h : (P / 65536 ^ o + f * (Y % 65536 ^ k)) / 65536 ^ k = 0 + P / 65536 ^ o / 65536 ^ k) :
    put (dg 65536 N0 P) o (dg 65536 k (P / 65536 ^ o + f * Y)) = put (dg 65536 N0 P) o (dg 65536 (m + 1) (P / 65536 ^ o + f * Y)) := by
  apply put_more hk (by rw [dg_len]; exact hN)
  intro j hj1 hj2
  have h1 : Y < 65536 ^ k := Nat.lt_of_lt_of_le hY (Nat.pow_le_pow_right (by omega) hmk)
  rw [Nat.mod_eq_of_lt h1, Nat.zero_add] at h
  obtain ⟨d, rfl⟩ : ∃ d, j = k + d := ⟨j - k, by omega⟩
  rw [dg_at (by omega), Nat.pow_add 65536 k d, ← Nat.div_div_eq_div_mul, h, Nat.div_div_eq_div_mul, Nat.div_div_eq_div_mul, ← Nat.pow_add, ← Nat.pow_add]

set_option maxRecDepth 4000 in
set_option maxHeartbeats 8000000 in
theorem rmul_any (A D : Option Addr) (n c m d X Y : Nat) (hX : Hid (X < 65536 ^ n)) (hY : Hid (Y < 65536 ^ m)) (hn : n ≤ 1000) (hm : m ≤ 1000) (w : World) (hI : Cel .i64 w A (dg 65536 n X)) (hJ : Cel .i64 w D (dg 65536 m Y)) :
    Calls Try.prog 50 #[.slice A n c, .slice D m d] w (RP (X * Y) w) := by
  obtain ⟨S, hS⟩ : ∃ S, S = n + m := ⟨_, rfl⟩
  obtain ⟨N0, hN0⟩ : ∃ N0, N0 = S + 1 := ⟨_, rfl⟩
  have eS : (n : Int) + (m : Int) = (S : Int) := by omega
  have eN : (S : Int) + 1 = (N0 : Int) := by omega
  have hmk := make_i64 N0 (by omega)
  have HS := Lib.hid hS
  have HN0 := Lib.hid hN0
  have hN2 : N0 ≤ 2001 := by omega
  obtain ⟨w1, hw1⟩ : ∃ w1, w.alloc (Obj.cells (List.map (fun x : Nat => Value.int IntKind.i64 (x : Int)) (dg 65536 N0 0)).toArray 3) = w1 := ⟨_, rfl⟩
  have own : Own .i64 w1 w.heap.size (dg 65536 N0 0) := by rw [← hw1]; exact Own.new_ .i64 w 3 _ rfl
  have bel : Below w.heap.size w w1 := by rw [← hw1]; exact below_new _ _
  have HI := Lib.hid hI
  have HJ := Lib.hid hJ
  have HW := Lib.hid hw1
  have HXY : Hid (X * Y < 65536 ^ N0) := Lib.hid (by
    have h1 : X * Y < 65536 ^ n * 65536 ^ m := by
      rcases Nat.eq_zero_or_pos Y with h | h
      · rw [h, Nat.mul_zero]; exact Nat.mul_pos (Nat.pow_pos (by omega)) (Nat.pow_pos (by omega))
      · exact Nat.mul_lt_mul_of_lt_of_le hX.out (Nat.le_of_lt hY.out) (Nat.pow_pos (by omega))
    rw [← Nat.pow_add, ← hS] at h1
    rw [hN0, Nat.pow_succ]; omega)
  clear hI hJ hw1 hS hN0
  go_enter Try.func50, Try.ntmps50
  go_wp2_with fail
  rw [HW.out]
  clear hmk eS eN
  go_loopw [6] (fun i wr => ∃ k : Nat, k ≤ n ∧ i = .int .i64 (k : Int) ∧ Own .i64 wr w.heap.size (dg 65536 N0 (X % 65536 ^ k * Y)) ∧ Below w.heap.size w wr) (fun i _ => n - (intOf i).toNat)
  case atStart => exact ⟨0, by omega, rfl, by rw [Nat.pow_zero, Nat.mod_one, Nat.zero_mul]; exact own, bel⟩
  case round =>
    clear own bel
    obtain ⟨i, hi, rfl, own, bel⟩ := hrel
    by_cases hlt : i < n
    · obtain ⟨r1, r2, r3⟩ := row_step (B := 65536) (a := X) (b := Y) (o := i) (m := m) (by omega) hY.out
      obtain ⟨f, hf⟩ : ∃ f, f = X / 65536 ^ i % 65536 := ⟨_, rfl⟩
      have hf4 : f < 65536 := by rw [hf]; exact Nat.mod_lt _ (by omega)
      have HF := Lib.hid hf
      rw [← hf] at r1 r3
      obtain ⟨P, hP⟩ : ∃ P, P = X % 65536 ^ i * Y := ⟨_, rfl⟩
      rw [← hP] at own r1 r2 r3
      have hiN : i + (m + 1) ≤ N0 := by have := HS.out; have := HN0.out; omega
      have HDone : Hid (put (dg 65536 N0 P) i (dg 65536 (m + 1) (P / 65536 ^ i + f * Y)) = dg 65536 N0 (X % 65536 ^ (i + 1) * Y)) := Lib.hid (by
        rw [put_dg (by omega) hiN r1 (Nat.lt_of_lt_of_le r2 (Nat.pow_le_pow_right (by omega) (by omega))), r3])
      have R1 := Lib.hid r1
      have HIN := Lib.hid hiN
      have HO := Lib.hid own
      have HB := Lib.hid bel
      clear own bel r1 r2 r3 hf hP hiN
      go_wp2_with fail
      obtain ⟨wo, hwo⟩ : ∃ wo : World, wo = wr := ⟨_, rfl⟩
      rw [← hwo]
      rw [← hwo] at HO HB
      clear hwo
      go_loopw [7, 8] (fun cr kk wr => ∃ k cc : Nat, k ≤ m + 1 ∧ kk = .int .i64 (k : Int) ∧ cr = .int .i64 (cc : Int) ∧ cc ≤ f ∧ Hid ((P / 65536 ^ i + f * (Y % 65536 ^ k)) / 65536 ^ k = cc + P / 65536 ^ i / 65536 ^ k) ∧
          Hid (Own .i64 wr w.heap.size (put (dg 65536 N0 P) i (dg 65536 k (P / 65536 ^ i + f * Y)))) ∧ Hid (Below w.heap.size w wr)) (fun _ kk _ => m + 2 - (intOf kk).toNat)
      case atStart => exact ⟨0, 0, by omega, rfl, rfl, by omega, Lib.hid (carry_zero _ _ _ _), Lib.hid (by rw [dg_zero, put_nil]; exact HO.out), HB⟩
      case round =>
        clear HO HB
        obtain ⟨k, cc, hk, rfl, rfl, hcc, hq, hown, hbel⟩ := hrel
        by_cases hgo : k < m ∨ 0 < cc
        · have hkm : k ≤ m := by
            rcases hgo with h | h
            · omega
            · apply Decidable.byContradiction; intro hn0
              have e : k = m + 1 := by omega
              subst e
              have := carry_out hY.out R1.out hq.out
              omega
          obtain ⟨b, off, rfl, hc⟩ := (HI.out.below hbel.out).at_ (k := i) (by rw [dg_len]; exact hlt)
          rw [dg_at hlt, ← HF.out] at hc
          have hlen : (put (dg 65536 N0 P) i (dg 65536 k (P / 65536 ^ i + f * Y))).length = N0 := by rw [put_len (by rw [dg_len, dg_len]; have := HIN.out; omega), dg_len]
          have hiN := HIN.out
          have hl := hown.out.cell (j := i + k) (by rw [hlen]; omega)
          have hfz := hown.out.frozen (i + k)
          rw [win_put (n := m + 1) (dg_len _ _ _) (by omega) (by rw [dg_len]; omega), dg_at (by omega), Nat.pow_add, ← Nat.div_div_eq_div_mul] at hl
          obtain ⟨x, hx⟩ : ∃ x, x = P / 65536 ^ i / 65536 ^ k % 65536 := ⟨_, rfl⟩
          obtain ⟨y, hy⟩ : ∃ y, Hid (y = Y / 65536 ^ k % 65536) := ⟨_, rfl⟩
          rw [← hx] at hl
          have cy := fun q => digit_any D m d Y k y hY hy (by omega) (by omega) (wr.drewN q) ((HJ.out.below hbel.out).drewN q)
          have CY := Lib.hid cy
          obtain ⟨p, s, N, lo, c2, e1, e2, e3, e4, e5, b1, b2, b3, b4, b5, b6, b7, l1, l2, l3⟩ := mul_round hx hy.out hcc hf4 hq.out
          have HO2 := Lib.hid (hown.out.set_ (j := i + k) (x := lo) (by rw [hlen]; omega))
          have hps := put_snoc (zs := dg 65536 N0 P) (ys := dg 65536 k (P / 65536 ^ i + f * Y)) (o := i) (x := lo) (by rw [dg_len, dg_len]; omega)
          rw [dg_len] at hps
          rw [hps, l1, ← dg_snoc, ← l1] at HO2
          have HQ := Lib.hid l3
          obtain ⟨q, hqe⟩ : ∃ q, q = i + k := ⟨_, rfl⟩
          rw [← hqe] at hl hfz HO2
          have eq1 : (i : Int) + (k : Int) = (q : Int) := by omega
          have q0 : (0 : Int) ≤ (q : Int) := by omega
          have q1 : (q : Int) < (N0 : Int) := by omega
          have i0 : (0 : Int) ≤ (i : Int) := by omega
          have i1 : (i : Int) < (n : Int) := by omega
          have w1 : IntKind.i64.wrap (q : Int) = (q : Int) := IntWalk.i64_in _ (by omega)
          have w2 : IntKind.i64.wrap (p : Int) = (p : Int) := IntWalk.i64_in _ (by omega)
          have w3 : IntKind.i64.wrap (s : Int) = (s : Int) := IntWalk.i64_in _ (by omega)
          have w4 : IntKind.i64.wrap (N : Int) = (N : Int) := IntWalk.i64_in _ (by omega)
          have HGO := Lib.hid hgo
          clear hx cy l1 l3 hlen hps hqe hgo hiN
          by_cases h1 : k < m
          · go_wp2_with fail
            go_quiet ((go_at_call 61; exact quiet_one (CY.out _)))
            go_wp2_with fail
            go_roundw
            case rel => exact ⟨k + 1, c2, by omega, by go_num, rfl, l2, HQ, HO2, Lib.hid ((bel_drewN hbel.out _).setCell (Nat.le_refl _) _)⟩
            case measure => simp [intOf]; omega
          · have h2 : 0 < cc := HGO.out.resolve_left h1
            go_wp2_with fail
            go_quiet ((go_at_call 61; exact quiet_one (CY.out _)))
            go_wp2_with fail
            go_roundw
            case rel => exact ⟨k + 1, c2, by omega, by go_num, rfl, l2, HQ, HO2, Lib.hid ((bel_drewN hbel.out _).setCell (Nat.le_refl _) _)⟩
            case measure => simp [intOf]; omega
        · have hm1 : ¬ k < m := fun h => hgo (.inl h)
          have hc0 : cc = 0 := by
            apply Decidable.byContradiction; intro h; exact hgo (.inr (by omega))
          subst hc0
          have HO2 : Hid (Own .i64 wr w.heap.size (dg 65536 N0 (X % 65536 ^ (i + 1) * Y))) := Lib.hid (by
            have := hown.out
            rw [row_done hk (by omega) HIN.out hY.out hq.out, HDone.out] at this
            exact this)
          clear hgo
          go_wp2_with fail
          go_roundw
          case rel => exact ⟨i + 1, by omega, by go_num, HO2.out, hbel.out⟩
          case measure => simp [intOf]; omega
    · have e : i = n := by omega
      subst e
      rw [Nat.mod_eq_of_lt hX.out] at own
      obtain ⟨N, hN⟩ : ∃ N, Hid (N = nlen 65536 (X * Y)) := ⟨_, rfl⟩
      have ct := rtrim_any (some ⟨w.heap.size, 0, none⟩) N0 N0 (X * Y) N HXY hN (Nat.le_refl _) (by omega) wr own.all
      have HO := Lib.hid own
      have HB := Lib.hid bel
      clear own bel
      go_wp2_with (go_at_call 60; refine ct.mono ?_; rintro e w' ⟨rfl, rfl⟩)
      go_ret
      exact rp_trim hN.out HXY.out HO.out (Nat.le_refl _) HB.out
end Go.Proofs.Ytjblfmgiafdefaa.natV

/-
  Contracts of product, limb, Cmp of the reference.
-/
import Derived.Test.YtinceponggpioaaDoorFrR
namespace Go.Proofs.YtinceponggpioaaDoor.frS
open Go.RowKit
open Go.Proofs.YtinceponggpioaaDoor.natM Go.Proofs.YtinceponggpioaaDoor.natA Go.Proofs.YtinceponggpioaaDoor.natB Go.Proofs.YtinceponggpioaaDoor.natC Go.Proofs.YtinceponggpioaaDoor.natD Go.Proofs.YtinceponggpioaaDoor.natE Go.Proofs.YtinceponggpioaaDoor.natF Go.Proofs.YtinceponggpioaaDoor.natG Go.Proofs.YtinceponggpioaaDoor.natH Go.Proofs.YtinceponggpioaaDoor.natI Go.Proofs.YtinceponggpioaaDoor.natJ Go.Proofs.YtinceponggpioaaDoor.natX Go.Proofs.YtinceponggpioaaDoor.natUi Go.Proofs.YtinceponggpioaaDoor.frM Go.Proofs.YtinceponggpioaaDoor.frA Go.Proofs.YtinceponggpioaaDoor.frB Go.Proofs.YtinceponggpioaaDoor.frC Go.Proofs.YtinceponggpioaaDoor.frD Go.Proofs.YtinceponggpioaaDoor.frR
set_option linter.unusedVariables false

theorem prod_round {Xw Y f k cc x y : Nat} (hx : x = Xw / 4294967296 ^ k % 4294967296) (hy : y = Y / 4294967296 ^ k % 4294967296) (hc : cc ≤ f) (hf : f < 4294967296)
    (h : (Xw + f * (Y % 4294967296 ^ k)) / 4294967296 ^ k = cc + Xw / 4294967296 ^ k) :
    ∃ p s N lo c2 : Nat, (f : Int) * (y : Int) = (p : Int) ∧ (x : Int) + (p : Int) = (s : Int) ∧ (s : Int) + (cc : Int) = (N : Int) ∧ (N : Int) % 4294967296 = (lo : Int) ∧ (N : Int) / 4294967296 = (c2 : Int) ∧
      p < 18446744073709551616 ∧ s < 18446744073709551616 ∧ N < 18446744073709551616 ∧ lo < 4294967296 ∧ c2 < 4294967296 ∧ x < 4294967296 ∧ y < 4294967296 ∧ lo = (Xw + f * Y) / 4294967296 ^ k % 4294967296 ∧ c2 ≤ f ∧
      (Xw + f * (Y % 4294967296 ^ (k + 1))) / 4294967296 ^ (k + 1) = c2 + Xw / 4294967296 ^ (k + 1) := by
  have hx2 : x < 4294967296 := by rw [hx]; exact Nat.mod_lt _ (by omega)
  have hy2 : y < 4294967296 := by rw [hy]; exact Nat.mod_lt _ (by omega)
  have hb := step_bd (f := f) hx2 hc hf hy2
  obtain ⟨h1, h2⟩ := carry_step (B := 4294967296) (n := x + cc + f * y) (by omega) h (by rw [hx, hy])
  have h3 := carry_le (Nat.mod_lt Y (Nat.pow_pos (n := k + 1) (show 0 < 4294967296 by omega))) h2
  have hyi : (f : Int) * (y : Int) = ((f * y : Nat) : Int) := by rw [← Int.natCast_mul]
  refine ⟨f * y, x + f * y, x + cc + f * y, (x + cc + f * y) % 4294967296, (x + cc + f * y) / 4294967296, hyi, by omega, by omega, by omega, by omega, by omega, by omega, by omega, Nat.mod_lt _ (by omega), by omega, hx2, hy2, h1.symm, h3, h2⟩

/-- what product answers -/
def PrP (N V : Nat) (w : World) (e : Ending) (w' : World) : Prop := ∃ g, e = .returned (.slice (some ⟨g, 0, none⟩) N N) ∧ Own .u32 w' g (dg 4294967296 N V) ∧ Below w.heap.size w w'
set_option maxRecDepth 4000 in
set_option maxHeartbeats 4000000 in
theorem product_any (A D : Option Addr) (n c m d X Y N0 : Nat) (hN0 : N0 = n + m) (hX : Hid (X < 4294967296 ^ n)) (hY : Hid (Y < 4294967296 ^ m)) (hn : n ≤ 64) (hm : m ≤ 64) (w : World) (hI : Cel .u32 w A (dg 4294967296 n X)) (hJ : Cel .u32 w D (dg 4294967296 m Y)) :
    Calls Tryd.prog 45 #[.slice A n c, .slice D m d] w (PrP N0 (X * Y) w) := by
  have eN : (n : Int) + (m : Int) = (N0 : Int) := by omega
  have hmk := make_u32 N0 (by omega)
  have HN0 := Lib.hid hN0
  have hN2 : N0 ≤ 128 := by omega
  obtain ⟨w1, hw1⟩ : ∃ w1, w.alloc (Obj.cells (List.map (fun x : Nat => Value.int IntKind.u32 (x : Int)) (dg 4294967296 N0 0)).toArray 43) = w1 := ⟨_, rfl⟩
  have own : Own .u32 w1 w.heap.size (dg 4294967296 N0 0) := by rw [← hw1]; exact Own.new_ .u32 w 43 _ rfl
  have bel : Below w.heap.size w w1 := by rw [← hw1]; exact below_new _ _
  have HI := Lib.hid hI
  have HJ := Lib.hid hJ
  have HW := Lib.hid hw1
  clear hI hJ hw1 hN0
  go_enter Tryd.func45, Tryd.ntmps45
  go_wp2_with fail
  rw [HW.out]
  clear hmk eN
  go_loopw [6] (fun i wr => ∃ k : Nat, k ≤ n ∧ i = .int .i64 (k : Int) ∧ Own .u32 wr w.heap.size (dg 4294967296 N0 (X % 4294967296 ^ k * Y)) ∧ Below w.heap.size w wr) (fun i _ => n - (intOf i).toNat)
  case atStart => exact ⟨0, by omega, rfl, by rw [Nat.pow_zero, Nat.mod_one, Nat.zero_mul]; exact own, bel⟩
  case round =>
    clear own bel
    obtain ⟨i, hi, rfl, own, bel⟩ := hrel
    by_cases hlt : i < n
    · obtain ⟨r1, r2, r3⟩ := row_step (B := 4294967296) (a := X) (b := Y) (o := i) (m := m) (by omega) hY.out
      obtain ⟨f, hf⟩ : ∃ f, f = X / 4294967296 ^ i % 4294967296 := ⟨_, rfl⟩
      have hf4 : f < 4294967296 := by rw [hf]; exact Nat.mod_lt _ (by omega)
      have HF := Lib.hid hf
      rw [← hf] at r1 r3
      obtain ⟨P, hP⟩ : ∃ P, P = X % 4294967296 ^ i * Y := ⟨_, rfl⟩
      rw [← hP] at own r1 r2 r3
      have hiN : i + (m + 1) ≤ N0 := by have := HN0.out; omega
      have HDone : Hid (put (dg 4294967296 N0 P) i (dg 4294967296 (m + 1) (P / 4294967296 ^ i + f * Y)) = dg 4294967296 N0 (X % 4294967296 ^ (i + 1) * Y)) := Lib.hid (by
        rw [put_dg (by omega) hiN r1 (Nat.lt_of_lt_of_le r2 (Nat.pow_le_pow_right (by omega) (by omega))), r3])
      have R2 := Lib.hid r2
      have HIN := Lib.hid hiN
      have HO := Lib.hid own
      have HB := Lib.hid bel
      clear own bel r1 r2 r3 hf hP hiN
      go_wp2_with fail
      obtain ⟨wo, hwo⟩ : ∃ wo : World, wo = wr := ⟨_, rfl⟩
      rw [← hwo]
      rw [← hwo] at HO HB
      clear hwo
      go_loopw [7, 8] (fun cr kk wr => ∃ k cc : Nat, k ≤ m ∧ kk = .int .i64 (k : Int) ∧ cr = .int .u64 (cc : Int) ∧ cc ≤ f ∧ Hid ((P / 4294967296 ^ i + f * (Y % 4294967296 ^ k)) / 4294967296 ^ k = cc + P / 4294967296 ^ i / 4294967296 ^ k) ∧
          Hid (Own .u32 wr w.heap.size (put (dg 4294967296 N0 P) i (dg 4294967296 k (P / 4294967296 ^ i + f * Y)))) ∧ Hid (Below w.heap.size w wr)) (fun _ kk _ => m - (intOf kk).toNat)
      case atStart => exact ⟨0, 0, by omega, rfl, rfl, by omega, Lib.hid (carry_zero _ _ _ _), Lib.hid (by rw [dg_zero, put_nil]; exact HO.out), HB⟩
      case round =>
        clear HO HB
        obtain ⟨k, cc, hk, rfl, rfl, hcc, hq, hown, hbel⟩ := hrel
        have hiN := HIN.out
        have hlen : (put (dg 4294967296 N0 P) i (dg 4294967296 k (P / 4294967296 ^ i + f * Y))).length = N0 := by rw [put_len (by rw [dg_len, dg_len]; omega), dg_len]
        obtain ⟨q, hqe⟩ : ∃ q, q = i + k := ⟨_, rfl⟩
        have eq1 : (i : Int) + (k : Int) = (q : Int) := by omega
        have q0 : (0 : Int) ≤ (q : Int) := by omega
        have q1 : (q : Int) < (N0 : Int) := by omega
        by_cases hgo : k < m
        · obtain ⟨b, off, rfl, hc⟩ := (HI.out.below hbel.out).at_ (k := i) (by rw [dg_len]; exact hlt)
          obtain ⟨b2, off2, rfl, hc2⟩ := (HJ.out.below hbel.out).at_ (k := k) (by rw [dg_len]; exact hgo)
          rw [dg_at hlt, ← HF.out] at hc
          have hl := hown.out.cell (j := i + k) (by rw [hlen]; omega)
          have hfz := hown.out.frozen (i + k)
          rw [win_put (n := m + 1) (dg_len _ _ _) (by omega) (by rw [dg_len]; omega), dg_at (by omega), Nat.pow_add, ← Nat.div_div_eq_div_mul] at hl
          obtain ⟨x, hx⟩ : ∃ x, x = P / 4294967296 ^ i / 4294967296 ^ k % 4294967296 := ⟨_, rfl⟩
          obtain ⟨y, hy⟩ : ∃ y, y = Y / 4294967296 ^ k % 4294967296 := ⟨_, rfl⟩
          rw [← hx] at hl
          rw [dg_at hgo, ← hy] at hc2
          obtain ⟨p, s, N, lo, c2, e1, e2, e3, e4, e5, b1, b2', b3, b4, b5, b6, b7, l1, l2, l3⟩ := prod_round hx hy hcc hf4 hq.out
          have HO2 := Lib.hid (hown.out.set_ (j := i + k) (x := lo) (by rw [hlen]; omega))
          have hps := put_snoc (zs := dg 4294967296 N0 P) (ys := dg 4294967296 k (P / 4294967296 ^ i + f * Y)) (o := i) (x := lo) (by rw [dg_len, dg_len]; omega)
          rw [dg_len] at hps
          rw [hps, l1, ← dg_snoc, ← l1] at HO2
          have HQ := Lib.hid l3
          rw [← hqe] at hl hfz HO2
          have i0 : (0 : Int) ≤ (i : Int) := by omega
          have i1 : (i : Int) < (n : Int) := by omega
          have k0 : (0 : Int) ≤ (k : Int) := by omega
          have k1 : (k : Int) < (m : Int) := by omega
          have w1 : IntKind.i64.wrap (q : Int) = (q : Int) := IntWalk.i64_in _ (by omega)
          have w2 : IntKind.u64.wrap (p : Int) = (p : Int) := IntWalk.u64_in _ (by omega)
          have w3 : IntKind.u64.wrap (s : Int) = (s : Int) := IntWalk.u64_in _ (by omega)
          have w4 : IntKind.u64.wrap (N : Int) = (N : Int) := IntWalk.u64_in _ (by omega)
          have w5 : IntKind.u64.wrap (x : Int) = (x : Int) := IntWalk.u64_in _ (by omega)
          have w6 : IntKind.u64.wrap (f : Int) = (f : Int) := IntWalk.u64_in _ (by omega)
          have w7 : IntKind.u64.wrap (y : Int) = (y : Int) := IntWalk.u64_in _ (by omega)
          clear hx hy l1 l3 hlen hps hqe hiN
          go_wp2_with fail
          go_quiet (fail)
          go_wp2_with fail
          go_roundw
          case rel => exact ⟨k + 1, c2, by omega, by go_num, rfl, l2, HQ, HO2, Lib.hid ((bel_drewN hbel.out _).setCell (Nat.le_refl _) _)⟩
          case measure => simp [intOf]; omega
        · have e : k = m := by omega
          subst e
          have hYm : Y % 4294967296 ^ k = Y := Nat.mod_eq_of_lt hY.out
          have hP0 : P / 4294967296 ^ i / 4294967296 ^ k = 0 := by
            rw [Nat.div_div_eq_div_mul, ← Nat.pow_add]
            exact Nat.div_eq_of_lt R2.out
          have hcd : cc = (P / 4294967296 ^ i + f * Y) / 4294967296 ^ k % 4294967296 := by
            have h1 := hq.out
            rw [hYm, hP0, Nat.add_zero] at h1
            rw [h1, Nat.mod_eq_of_lt (by omega)]
          have hl := hown.out.cell (j := i + k) (by rw [hlen]; omega)
          have hfz := hown.out.frozen (i + k)
          have HO2 := Lib.hid (hown.out.set_ (j := i + k) (x := cc) (by rw [hlen]; omega))
          rw [put_next (n := k + 1) (by omega) (by rw [dg_len]; omega) hcd, HDone.out] at HO2
          rw [← hqe] at hl hfz HO2
          generalize at0 (put (dg 4294967296 N0 P) i (dg 4294967296 k (P / 4294967296 ^ i + f * Y))) q = x at *
          have w1 : IntKind.i64.wrap (q : Int) = (q : Int) := IntWalk.i64_in _ (by omega)
          have w2 : IntKind.u32.wrap (cc : Int) = (cc : Int) := IntWalk.u32_in _ (by omega)
          clear hYm hP0 hcd hq hown hlen hqe hiN hgo
          go_wp2_with fail
          go_roundw
          case rel => exact ⟨i + 1, by omega, by go_num, HO2.out, hbel.out.setCell (Nat.le_refl _) _⟩
          case measure => simp [intOf]; omega
    · have e : i = n := by omega
      subst e
      rw [Nat.mod_eq_of_lt hX.out] at own
      have HO := Lib.hid own
      have HB := Lib.hid bel
      clear own bel
      go_wp2_with fail
      go_ret
      exact ⟨w.heap.size, rfl, HO.out, HB.out⟩

set_option maxRecDepth 4000 in
set_option maxHeartbeats 1000000 in
theorem limb_any (A : Option Addr) (n c v i x : Nat) (hv : Hid (v < 4294967296 ^ n)) (hx : Hid (x = v / 4294967296 ^ i % 4294967296)) (hi : i ≤ 9223372036854775807) (hn : n ≤ 9223372036854775807) (w : World) (hI : Cel .u32 w A (dg 4294967296 n v)) :
    Calls Tryd.prog 46 #[.slice A n c, .int .i64 (i : Int)] w fun e w' => e = .returned (.int .u32 (x : Int)) ∧ w = w' := by
  by_cases h : i < n
  · obtain ⟨b, off, rfl, hc⟩ := hI.at_ (k := i) (by rw [dg_len]; omega)
    rw [dg_at h, ← hx.out] at hc
    go_enter Tryd.func46, Tryd.ntmps46
    go_wp2
    go_ret
    exact ⟨rfl, rfl⟩
  · have e : x = 0 := hx.out.trans (dig_out hv.out (by omega))
    subst e
    go_enter Tryd.func46, Tryd.ntmps46
    go_wp2
    go_ret
    exact ⟨rfl, rfl⟩

/-! ### Cmp -/
set_option maxRecDepth 4000 in
set_option maxHeartbeats 4000000 in
theorem rfcmp_any (A B A2 B2 : Option Addr) (n c m d n2 c2 m2 d2 X Y Z W : Nat) (C : Int) (hX : Hid (X < 4294967296 ^ n)) (hY : Hid (Y < 4294967296 ^ m)) (hZ : Hid (Z < 4294967296 ^ n2)) (hW : Hid (W < 4294967296 ^ m2))
    (j1 : n ≤ 9223372036854775807) (j2 : m ≤ 9223372036854775807) (j3 : n2 ≤ 9223372036854775807) (j4 : m2 ≤ 9223372036854775807)
    (hC : Hid (C = fcV (frB n X m Y) (frB n2 Z m2 W) X Y Z W)) (w : World)
    (h1 : Cel .u32 w A (dg 4294967296 n X)) (h2 : Cel .u32 w B (dg 4294967296 m Y)) (h3 : Cel .u32 w A2 (dg 4294967296 n2 Z)) (h4 : Cel .u32 w B2 (dg 4294967296 m2 W)) :
    Calls Tryd.prog 22 #[.agg #[.slice A n c, .slice B m d], .agg #[.slice A2 n2 c2, .slice B2 m2 d2]] w fun e w' => e = .returned (.int .i64 C) ∧ Below w.heap.size w w' := by
  have S0 := Lib.hid ((((Kp.start w).addc h4).addc h3).addc h2 |>.addc h1)
  clear h1 h2 h3 h4
  have hc := hC.out
  clear hC
  obtain ⟨a, ha⟩ : ∃ a, Hid (a = frB n X m Y) := ⟨_, Lib.hid rfl⟩
  obtain ⟨b, hb⟩ : ∃ b, Hid (b = frB n2 Z m2 W) := ⟨_, Lib.hid rfl⟩
  rw [← ha.out, ← hb.out] at hc
  have c1 := fun w h1 h2 => rvd_any A B n c m d X Y hX hY a j1 j2 ha w h1 h2
  have c2' := fun w h1 h2 => rvd_any A2 B2 n2 c2 m2 d2 Z W hZ hW b j3 j4 hb w h1 h2
  cases a with
  | false =>
    obtain rfl : C = 0 := hc
    clear hX hY hZ hW ha hb c2'
    go_enter Tryd.func22, Tryd.ntmps22
    go_wp2_with (first
      | (go_at_call 20; (with_reducible refine (c1 _ (S0.out.al2 _ _ _ _).c0 (S0.out.al2 _ _ _ _).c1).mono ?_); rintro e w1 ⟨rfl, hb⟩; have S1 := Lib.hid ((S0.out.al2 _ _ _ _).below hb); clear hb))
    go_ret
    exact ⟨rfl, S1.out.bel⟩
  | true =>
    cases b with
    | false =>
      obtain rfl : C = 0 := hc
      clear hX hY hZ hW ha hb
      go_enter Tryd.func22, Tryd.ntmps22
      go_wp2_with (first
        | (go_at_call 20; first
          | ((with_reducible refine (c1 _ (S0.out.al2 _ _ _ _).c0 (S0.out.al2 _ _ _ _).c1).mono ?_); rintro e w1 ⟨rfl, hb⟩; have S1 := Lib.hid ((S0.out.al2 _ _ _ _).below hb); have x1 := S1.out.b0.fst; have x2 := S1.out.b0.snd; clear hb)
          | ((with_reducible refine (c2' _ S1.out.c2 S1.out.c3).mono ?_); rintro e w2 ⟨rfl, hb⟩; have S2 := Lib.hid (S1.out.below hb); clear hb)))
      go_ret
      exact ⟨rfl, S2.out.bel⟩
    | true =>
      obtain ⟨v1, v2, l1⟩ := fr_low ha.out.symm
      obtain ⟨v3, v4, l2⟩ := fr_low hb.out.symm
      have n1 := (valB_iff.1 v1).1
      have n2' := (valB_iff.1 v2).1
      have n3 := (valB_iff.1 v3).1
      have n4 := (valB_iff.1 v4).1
      obtain ⟨M1, hM1⟩ : ∃ k, k = n + m2 := ⟨_, rfl⟩
      obtain ⟨M2, hM2⟩ : ∃ k, k = n2 + m := ⟨_, rfl⟩
      have p1 := fun w h1 h2 => product_any A B2 n c m2 d2 X W M1 hM1 hX hW n1 n4 w h1 h2
      have p2 := fun w h1 h2 => product_any A2 B n2 c2 m d Z Y M2 hM2 hZ hY n3 n2' w h1 h2
      have hp1 : X * W < 4294967296 ^ M1 := by rw [hM1]; exact pow_lt hX.out hW.out
      have hp2 : Z * Y < 4294967296 ^ M2 := by rw [hM2]; exact pow_lt hZ.out hY.out
      have hc : C = cmpI (X * W) (Z * Y) := hc
      obtain ⟨P, hP⟩ : ∃ P, P = X * W := ⟨_, rfl⟩
      obtain ⟨Q, hQ⟩ : ∃ P, P = Z * Y := ⟨_, rfl⟩
      rw [← hP] at p1 hp1 hc
      rw [← hQ] at p2 hp2 hc
      have HC := Lib.hid hc
      have H1 := Lib.hid hp1
      have H2 := Lib.hid hp2
      have m1 : M1 ≤ 128 := by omega
      have m2' : M2 ≤ 128 := by omega
      have q1 := (valB_iff.1 v1).2
      obtain ⟨M, hM⟩ : ∃ M, M = max M1 M2 := ⟨_, rfl⟩
      clear hX hY hZ hW ha hb v1 v2 v3 v4 l1 l2 hc hp1 hp2 hP hQ hM1 hM2 q1
      go_enter Tryd.func22, Tryd.ntmps22
      go_wp2_with (first
        | (go_at_call 20; first
          | ((with_reducible refine (c1 _ (S0.out.al2 _ _ _ _).c0 (S0.out.al2 _ _ _ _).c1).mono ?_); rintro e w1 ⟨rfl, hb⟩; have S1 := Lib.hid ((S0.out.al2 _ _ _ _).below hb); have x1 := S1.out.b0.fst; have x2 := S1.out.b0.snd; clear hb)
          | ((with_reducible refine (c2' _ S1.out.c2 S1.out.c3).mono ?_); rintro e w2 ⟨rfl, hb⟩; have S2 := Lib.hid (S1.out.below hb); have y1 := S2.out.b0.snd; have y3 := S2.out.b1.fst; clear hb x1 x2))
        | (go_at_call 45; first
          | ((with_reducible refine (p1 _ S2.out.c0 S2.out.c3).mono ?_); rintro e w3 ⟨g1, rfl, ho, hb⟩; have S3 := Lib.hid (S2.out.below hb); have O1 := Lib.hid ho; have z1 := S3.out.b0.fst; have z3 := S3.out.b1.snd; clear hb ho y1 y3)
          | ((with_reducible refine (p2 _ S3.out.c2 S3.out.c1).mono ?_); rintro e w4 ⟨g2, rfl, ho, hb⟩; have S4 := Lib.hid (S3.out.below hb); have O2 := Lib.hid ho; have O12 := Lib.hid (O1.out.below hb); clear hb ho z1 z3)))
      have eM : max (M1 : Int) (M2 : Int) = (M : Int) := by omega
      have hM1 : M1 ≤ M := by omega
      have hM2 : M2 ≤ M := by omega
      have hM3 : M ≤ 128 := by omega
      have K4 := Lib.hid S4.out.bel
      have cl1 : Hid (Cel .u32 w4 (some ⟨g1, 0, none⟩) (dg 4294967296 M1 P)) := Lib.hid O12.out.all
      have cl2 : Hid (Cel .u32 w4 (some ⟨g2, 0, none⟩) (dg 4294967296 M2 Q)) := Lib.hid O2.out.all
      clear S1 S2 S3 S4 O1 O2 O12 S0 c1 c2' p1 p2 hM
      go_loopw [7] (fun s wr => ∃ k : Nat, k ≤ M ∧ s = .int .i64 ((k : Int) - 1) ∧ Hid (P / 4294967296 ^ k = Q / 4294967296 ^ k) ∧ wr = w4) (fun s _ => (intOf s + 1).toNat)
      case atStart => exact ⟨M, Nat.le_refl _, by rw [eM], Lib.hid (by rw [Nat.div_eq_of_lt (pow_up H1.out hM1), Nat.div_eq_of_lt (pow_up H2.out hM2)]), rfl⟩
      case round =>
        obtain ⟨k, hk, rfl, hq, rfl⟩ := hrel
        clear eM
        by_cases h0 : k = 0
        · subst h0
          have eC : C = 0 := by rw [HC.out]; apply cmpI_eq; have := hq.out; simpa using this
          subst eC
          go_wp2
          go_ret
          exact ⟨rfl, K4.out⟩
        · obtain ⟨j, rfl⟩ : ∃ j, k = j + 1 := ⟨k - 1, by omega⟩
          have hs := cmp_step hq.out
          obtain ⟨x, hx⟩ : ∃ x, x = P / 4294967296 ^ j % 4294967296 := ⟨_, rfl⟩
          obtain ⟨y, hy⟩ : ∃ x, x = Q / 4294967296 ^ j % 4294967296 := ⟨_, rfl⟩
          rw [← hx, ← hy] at hs
          have HS := Lib.hid hs
          have cx := limb_any (some ⟨g1, 0, none⟩) M1 M1 P j x H1 (Lib.hid hx) (by omega) (by omega) wr cl1.out
          have cy := limb_any (some ⟨g2, 0, none⟩) M2 M2 Q j y H2 (Lib.hid hy) (by omega) (by omega) wr cl2.out
          clear hs h0 hx hy
          have ej : (((j + 1 : Nat) : Int) - 1) = (j : Int) := by omega
          have i0 : (0 : Int) ≤ (j : Int) := by omega
          rcases Nat.lt_trichotomy x y with hxy | hxy | hxy
          · obtain rfl : C = -1 := by rw [HC.out]; exact cmpI_lt (HS.out.1 hxy)
            go_wp2_with (go_at_call 46; first
              | ((with_reducible refine cx.mono ?_); rintro e w' ⟨rfl, rfl⟩)
              | ((with_reducible refine cy.mono ?_); rintro e w' ⟨rfl, rfl⟩))
            go_ret
            exact ⟨rfl, K4.out⟩
          · subst hxy
            have H3 := Lib.hid (HS.out.2.1 rfl)
            go_wp2_with (go_at_call 46; first
              | ((with_reducible refine cx.mono ?_); rintro e w' ⟨rfl, rfl⟩)
              | ((with_reducible refine cy.mono ?_); rintro e w' ⟨rfl, rfl⟩))
            go_roundw
            case rel => exact ⟨j, by omega, by go_num, H3, by first | trivial | rfl⟩
            case measure => simp [intOf]
          · obtain rfl : C = 1 := by rw [HC.out]; exact cmpI_gt (HS.out.2.2 hxy)
            go_wp2_with (go_at_call 46; first
              | ((with_reducible refine cx.mono ?_); rintro e w' ⟨rfl, rfl⟩)
              | ((with_reducible refine cy.mono ?_); rintro e w' ⟨rfl, rfl⟩))
            go_ret
            exact ⟨rfl, K4.out⟩
end Go.Proofs.YtinceponggpioaaDoor.frS

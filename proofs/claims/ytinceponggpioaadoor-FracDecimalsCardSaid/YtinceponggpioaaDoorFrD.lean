/-
  Contracts of Cmp, multiply, Mul, Div of frac.
-/
import Derived.Test.YtinceponggpioaaDoorFrC
namespace Go.Proofs.YtinceponggpioaaDoor.frD
open Go.RowKit
open Go.Proofs.YtinceponggpioaaDoor.natM Go.Proofs.YtinceponggpioaaDoor.natA Go.Proofs.YtinceponggpioaaDoor.natB Go.Proofs.YtinceponggpioaaDoor.natC Go.Proofs.YtinceponggpioaaDoor.natD Go.Proofs.YtinceponggpioaaDoor.natE Go.Proofs.YtinceponggpioaaDoor.natF Go.Proofs.YtinceponggpioaaDoor.natG Go.Proofs.YtinceponggpioaaDoor.natH Go.Proofs.YtinceponggpioaaDoor.natI Go.Proofs.YtinceponggpioaaDoor.natJ Go.Proofs.YtinceponggpioaaDoor.natX Go.Proofs.YtinceponggpioaaDoor.natUi Go.Proofs.YtinceponggpioaaDoor.frM Go.Proofs.YtinceponggpioaaDoor.frA Go.Proofs.YtinceponggpioaaDoor.frB Go.Proofs.YtinceponggpioaaDoor.frC
set_option linter.unusedVariables false

/-! ### Cmp -/
def fcV (a b : Bool) (X Y Z W : Nat) : Int := if a && b then cmpI (X * W) (Z * Y) else 0
set_option maxRecDepth 4000 in
set_option maxHeartbeats 2000000 in
theorem fcmp_any (A B A2 B2 : Option Addr) (n c m d n2 c2 m2 d2 X Y Z W : Nat) (C : Int) (hX : Hid (X < 4294967296 ^ n)) (hY : Hid (Y < 4294967296 ^ m)) (hZ : Hid (Z < 4294967296 ^ n2)) (hW : Hid (W < 4294967296 ^ m2))
    (i1 : n ≤ c) (i2 : m ≤ d) (i3 : n2 ≤ c2) (i4 : m2 ≤ d2) (j1 : n ≤ 9223372036854775807) (j2 : m ≤ 9223372036854775807) (j3 : n2 ≤ 9223372036854775807) (j4 : m2 ≤ 9223372036854775807)
    (hC : Hid (C = fcV (frB n X m Y) (frB n2 Z m2 W) X Y Z W)) (w : World)
    (h1 : Cel .u32 w A (dg 4294967296 n X)) (h2 : Cel .u32 w B (dg 4294967296 m Y)) (h3 : Cel .u32 w A2 (dg 4294967296 n2 Z)) (h4 : Cel .u32 w B2 (dg 4294967296 m2 W)) :
    Calls Tryd.prog 21 #[.agg #[.slice A n c, .slice B m d], .agg #[.slice A2 n2 c2, .slice B2 m2 d2]] w fun e w' => e = .returned (.int .i64 C) ∧ Below w.heap.size w w' := by
  have S0 := Lib.hid ((((Kp.start w).addc h4).addc h3).addc h2 |>.addc h1)
  clear h1 h2 h3 h4
  have hc := hC.out
  clear hC
  obtain ⟨a, ha⟩ : ∃ a, Hid (a = frB n X m Y) := ⟨_, Lib.hid rfl⟩
  obtain ⟨b, hb⟩ : ∃ b, Hid (b = frB n2 Z m2 W) := ⟨_, Lib.hid rfl⟩
  rw [← ha.out, ← hb.out] at hc
  have c1 := fun w h1 h2 => vd_any A B n c m d X Y a hX hY i1 i2 j1 j2 ha w h1 h2
  have c2' := fun w h1 h2 => vd_any A2 B2 n2 c2 m2 d2 Z W b hZ hW i3 i4 j3 j4 hb w h1 h2
  cases a with
  | false =>
    obtain rfl : C = 0 := hc
    clear hX hY hZ hW i1 i2 i3 i4 ha hb c2'
    go_enter Tryd.func21, Tryd.ntmps21
    go_wp2_with (first
      | (go_at_call 18; (with_reducible refine (c1 _ (S0.out.al2 _ _ _ _).c0 (S0.out.al2 _ _ _ _).c1).mono ?_); rintro e w1 ⟨rfl, hb⟩; have S1 := Lib.hid ((S0.out.al2 _ _ _ _).below hb); clear hb))
    go_ret
    exact ⟨rfl, S1.out.bel⟩
  | true =>
    cases b with
    | false =>
      obtain rfl : C = 0 := hc
      clear hX hY hZ hW i1 i2 i3 i4 ha hb
      go_enter Tryd.func21, Tryd.ntmps21
      go_wp2_with (first
        | (go_at_call 18; first
          | ((with_reducible refine (c1 _ (S0.out.al2 _ _ _ _).c0 (S0.out.al2 _ _ _ _).c1).mono ?_); rintro e w1 ⟨rfl, hb⟩; have S1 := Lib.hid ((S0.out.al2 _ _ _ _).below hb); have x1 := S1.out.b0.fst; have x2 := S1.out.b0.snd; clear hb)
          | ((with_reducible refine (c2' _ S1.out.c2 S1.out.c3).mono ?_); rintro e w2 ⟨rfl, hb⟩; have S2 := Lib.hid (S1.out.below hb); clear hb)))
      go_ret
      exact ⟨rfl, S2.out.bel⟩
    | true =>
      obtain ⟨v1, v2, l1⟩ := fr_low ha.out.symm
      obtain ⟨v3, v4, l2⟩ := fr_low hb.out.symm
      have c3 := fun w h1 h2 h3 h4 => comp_any A B A2 B2 n c m d n2 c2 m2 d2 X Y Z W C hX hY hZ hW (Lib.hid v1) (Lib.hid v2) (Lib.hid v3) (Lib.hid v4) l1.1 l2.1 (Lib.hid hc) w h1 h2 h3 h4
      clear hX hY hZ hW i1 i2 i3 i4 ha hb v1 v2 v3 v4 l1 l2 hc
      go_enter Tryd.func21, Tryd.ntmps21
      go_wp2_with (first
        | (go_at_call 18; first
          | ((with_reducible refine (c1 _ (S0.out.al2 _ _ _ _).c0 (S0.out.al2 _ _ _ _).c1).mono ?_); rintro e w1 ⟨rfl, hb⟩; have S1 := Lib.hid ((S0.out.al2 _ _ _ _).below hb); have x1 := S1.out.b0.fst; have x2 := S1.out.b0.snd; clear hb)
          | ((with_reducible refine (c2' _ S1.out.c2 S1.out.c3).mono ?_); rintro e w2 ⟨rfl, hb⟩; have S2 := Lib.hid (S1.out.below hb); have y1 := S2.out.b0.fst; have y2 := S2.out.b0.snd; have y3 := S2.out.b1.fst; have y4 := S2.out.b1.snd; clear hb x1 x2))
        | (go_at_call 44; (with_reducible refine (c3 _ S2.out.c0 S2.out.c1 S2.out.c2 S2.out.c3).mono ?_); rintro e w3 ⟨rfl, hb⟩; have S3 := Lib.hid (S2.out.below hb); clear hb))
      go_ret
      exact ⟨rfl, S3.out.bel⟩
/-! ### multiply -/
theorem mul_ok {n m X Y V : Nat} (h1 : valB n X = true) (h2 : valB m Y = true) (hV : V = X * Y) (hb : nlen 4294967296 V ≤ 64) (A : Option Addr) (c : Nat) (D : Option Addr) (d : Nat) (w : World) (hI : Cel .u32 w A (dg 4294967296 n X)) (hJ : Cel .u32 w D (dg 4294967296 m Y)) :
    Calls Tryd.prog 49 #[.agg #[.slice A n c], .agg #[.slice D m d]] w (ResP V 0 w) := by
  have l1 := (valB_iff.1 h1).1
  have l2 := (valB_iff.1 h2).1
  subst hV
  have := mul_any A D n c m d X Y (Lib.hid (val_lt h1)) (Lib.hid (val_lt h2)) (by omega) (by omega) w hI hJ
  unfold mulV mulE at this
  rwa [h1, h2, (r_ok hb).1, (r_ok hb).2] at this
theorem mul_big {n m X Y : Nat} (h1 : valB n X = true) (h2 : valB m Y = true) (hb : 64 < nlen 4294967296 (X * Y)) (A : Option Addr) (c : Nat) (D : Option Addr) (d : Nat) (w : World) (hI : Cel .u32 w A (dg 4294967296 n X)) (hJ : Cel .u32 w D (dg 4294967296 m Y)) :
    Calls Tryd.prog 49 #[.agg #[.slice A n c], .agg #[.slice D m d]] w (ResP 0 9 w) := by
  have l1 := (valB_iff.1 h1).1
  have l2 := (valB_iff.1 h2).1
  have := mul_any A D n c m d X Y (Lib.hid (val_lt h1)) (Lib.hid (val_lt h2)) (by omega) (by omega) w hI hJ
  unfold mulV mulE at this
  rwa [h1, h2, (r_big hb).1, (r_big hb).2] at this
theorem big_yes {v : Nat} (h : 64 < nlen 4294967296 v) : big v = true := by unfold big; rw [decide_eq_true h]
theorem make_red {k j N D : Nat} (hk : k = nlen 4294967296 N) (hj : j = nlen 4294967296 D) (h1 : k ≤ 64) (h2 : j ≤ 64) (h0 : 0 < D) (A : Option Addr) (c : Nat) (B : Option Addr) (d : Nat) (hc : k ≤ c) (hd : j ≤ d) (w : World) (hI : Cel .u32 w A (dg 4294967296 k N)) (hJ : Cel .u32 w B (dg 4294967296 j D)) :
    Calls Tryd.prog 13 #[.agg #[.slice A k c], .agg #[.slice B j d]] w (FrP (rd N D) w) := by
  have v1 : valB k N = true := valB_iff.2 ⟨h1, hk.symm⟩
  have v2 : valB j D = true := valB_iff.2 ⟨h2, hj.symm⟩
  exact make_ok A B k c j d N D (Lib.hid (val_lt v1)) (Lib.hid (val_lt v2)) hc hd (Lib.hid v1) (Lib.hid v2) h0 w hI hJ

def muA (X Y Z W : Nat) : Ans := if big (X * Z) || big (Y * W) then no 9 else rd (X * Z) (Y * W)
set_option maxRecDepth 4000 in
set_option maxHeartbeats 2000000 in
theorem mult_any (A B A2 B2 : Option Addr) (n c m d n2 c2 m2 d2 X Y Z W : Nat) (v1 : Hid (valB n X = true)) (v2 : Hid (valB m Y = true)) (v3 : Hid (valB n2 Z = true)) (v4 : Hid (valB m2 W = true)) (hy : 0 < Y) (hw : 0 < W) (w : World)
    (h1 : Cel .u32 w A (dg 4294967296 n X)) (h2 : Cel .u32 w B (dg 4294967296 m Y)) (h3 : Cel .u32 w A2 (dg 4294967296 n2 Z)) (h4 : Cel .u32 w B2 (dg 4294967296 m2 W)) :
    Calls Tryd.prog 47 #[.agg #[.slice A n c, .slice B m d], .agg #[.slice A2 n2 c2, .slice B2 m2 d2]] w (FrP (muA X Y Z W) w) := by
  have S0 := Lib.hid ((((Kp.start w).addc h4).addc h3).addc h2 |>.addc h1)
  clear h1 h2 h3 h4
  obtain ⟨N, hN⟩ : ∃ N, N = X * Z := ⟨_, rfl⟩
  obtain ⟨D, hD⟩ : ∃ N, N = Y * W := ⟨_, rfl⟩
  have h0 : 0 < D := by rw [hD]; exact Nat.mul_pos hy hw
  by_cases b1 : nlen 4294967296 N ≤ 64
  · have k1 := mul_ok v1.out v3.out hN b1
    obtain ⟨j1, hj1⟩ : ∃ n, n = nlen 4294967296 N := ⟨_, rfl⟩
    by_cases b2 : nlen 4294967296 D ≤ 64
    · have k2 := mul_ok v2.out v4.out hD b2
      obtain ⟨j2, hj2⟩ : ∃ n, n = nlen 4294967296 D := ⟨_, rfl⟩
      have k3 := make_red hj1 hj2 (by omega) (by omega) h0
      obtain ⟨r, hr⟩ : ∃ r, Hid (r = rd N D) := ⟨_, Lib.hid rfl⟩
      rw [← hr.out] at k3
      rw [show muA X Y Z W = r by unfold muA; rw [← hN, ← hD, big_no b1, big_no b2, hr.out]; rfl]
      have HJ1 := Lib.hid hj1
      have HJ2 := Lib.hid hj2
      clear hN hD b1 b2 h0 hj1 hj2 hr v1 v2 v3 v4 hy hw
      go_enter Tryd.func47, Tryd.ntmps47
      go_wp2_with (first
        | (go_at_call 49; first
          | ((with_reducible refine (k1 _ _ _ _ _ (S0.out.al3 _ _ _ _ _ _).c0 (S0.out.al3 _ _ _ _ _ _).c2).mono ?_); rintro e w1 ⟨A5, n5, c5, rfl, qq, hb⟩; have hc5 := qq.2.1; obtain ⟨z, g1⟩ := num_at HJ1.out qq; subst z; have S1 := Lib.hid (((S0.out.al3 _ _ _ _ _ _).below hb).addc g1); have x1 := fun o => (S1.out.alloc o).b1.snd; have x2 := fun o => (S1.out.alloc o).b2.snd; clear hb g1 qq)
          | ((with_reducible refine (k2 _ _ _ _ _ (S1.out.al1 _ _).c2 (S1.out.al1 _ _).c4).mono ?_); rintro e w2 ⟨A6, n6, c6, rfl, qq, hb⟩; have hc6 := qq.2.1; obtain ⟨z, g1⟩ := num_at HJ2.out qq; subst z; have S2 := Lib.hid (((S1.out.al1 _ _).below hb).addc g1); have y1 := fun o => (S2.out.alloc o).b0.one; clear hb g1 qq x1 x2))
        | (go_at_call 13; (with_reducible refine (k3 _ _ _ _ hc5 hc6 _ (S2.out.al1 _ _).c1 (S2.out.al1 _ _).c0).mono ?_); rintro e w3 ⟨A7, n7, c7, B7, m7, d7, rfl, q1, q2, hb⟩; have S3 := Lib.hid ((S2.out.al1 _ _).below hb); have Q1 := Lib.hid q1; have Q2 := Lib.hid q2; have z1 := S3.out.b2.fst; have z2 := S3.out.b2.snd; have f1 := S3.out.b2.free 0; have f2 := S3.out.b2.free 1; clear hb q1 q2 y1))
      have xs := two_set S3.out.b2 (.slice A7 n7 c7) (.slice B7 m7 d7)
      refine bodyPost_ret (v := .tuple #[.agg #[.slice A7 n7 c7, .slice B7 m7 d7], .int .i64 r.1]) (by simp [results, Tryd.results47, go_sem, xs.1, xs.2]) rfl ?_
      exact frp_set S3.out.b2 Q1.out Q2.out S3.out.bel (by simp; omega) _ _
    · have k2 := mul_big v2.out v4.out (by rw [← hD]; omega)
      rw [show muA X Y Z W = no 9 by unfold muA; rw [← hN, ← hD, big_no b1, big_yes (show 64 < nlen 4294967296 D by omega)]; rfl]
      have HJ1 := Lib.hid hj1
      clear hN hD b1 b2 h0 hj1 v1 v2 v3 v4 hy hw
      go_enter Tryd.func47, Tryd.ntmps47
      go_wp2_with (first
        | (go_at_call 49; first
          | ((with_reducible refine (k1 _ _ _ _ _ (S0.out.al3 _ _ _ _ _ _).c0 (S0.out.al3 _ _ _ _ _ _).c2).mono ?_); rintro e w1 ⟨A5, n5, c5, rfl, qq, hb⟩; obtain ⟨z, g1⟩ := num_at HJ1.out qq; subst z; have S1 := Lib.hid (((S0.out.al3 _ _ _ _ _ _).below hb).addc g1); have x1 := fun o => (S1.out.alloc o).b1.snd; have x2 := fun o => (S1.out.alloc o).b2.snd; clear hb g1 qq)
          | ((with_reducible refine (k2 _ _ _ _ _ (S1.out.al1 _ _).c2 (S1.out.al1 _ _).c4).mono ?_); rintro e w2 ⟨A6, n6, c6, rfl, qq, hb⟩; have S2 := Lib.hid (((S1.out.al1 _ _).below hb).al1 #[.slice A6 n6 c6] 24); have z1 := S2.out.b2.fst; have z2 := S2.out.b2.snd; have f1 := S2.out.b2.free 0; have f2 := S2.out.b2.free 1; clear hb qq x1 x2)))
      have xs := two_set S2.out.b2 (.slice none 0 0) (.slice none 0 0)
      refine bodyPost_ret (v := .tuple #[.agg #[.slice none 0 0, .slice none 0 0], .int .i64 9]) (by simp [results, Tryd.results47, go_sem, xs.1, xs.2]) rfl ?_
      exact frp_set S2.out.b2 (Num.nil _) (Num.nil _) S2.out.bel (by simp; omega) _ _
  · have k1 := mul_big v1.out v3.out (by rw [← hN]; omega)
    rw [show muA X Y Z W = no 9 by unfold muA; rw [← hN, ← hD, big_yes (show 64 < nlen 4294967296 N by omega)]; rfl]
    clear hN hD b1 h0 v1 v2 v3 v4 hy hw
    go_enter Tryd.func47, Tryd.ntmps47
    go_wp2_with (first
      | (go_at_call 49; (with_reducible refine (k1 _ _ _ _ _ (S0.out.al3 _ _ _ _ _ _).c0 (S0.out.al3 _ _ _ _ _ _).c2).mono ?_); rintro e w1 ⟨A5, n5, c5, rfl, qq, hb⟩; have S1 := Lib.hid (((S0.out.al3 _ _ _ _ _ _).below hb).al1 #[.slice A5 n5 c5] 24); have z1 := S1.out.b1.fst; have z2 := S1.out.b1.snd; have f1 := S1.out.b1.free 0; have f2 := S1.out.b1.free 1; clear hb qq))
    have xs := two_set S1.out.b1 (.slice none 0 0) (.slice none 0 0)
    refine bodyPost_ret (v := .tuple #[.agg #[.slice none 0 0, .slice none 0 0], .int .i64 9]) (by simp [results, Tryd.results47, go_sem, xs.1, xs.2]) rfl ?_
    exact frp_set S1.out.b1 (Num.nil _) (Num.nil _) S1.out.bel (by simp; omega) _ _
end Go.Proofs.YtinceponggpioaaDoor.frD

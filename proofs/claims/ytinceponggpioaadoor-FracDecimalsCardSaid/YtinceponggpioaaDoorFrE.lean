/-
  Contracts of Mul, Div of frac.
-/
import Derived.Test.YtinceponggpioaaDoorFrD
namespace Go.Proofs.YtinceponggpioaaDoor.frE
open Go.RowKit
open Go.Proofs.YtinceponggpioaaDoor.natM Go.Proofs.YtinceponggpioaaDoor.natA Go.Proofs.YtinceponggpioaaDoor.natB Go.Proofs.YtinceponggpioaaDoor.natC Go.Proofs.YtinceponggpioaaDoor.natD Go.Proofs.YtinceponggpioaaDoor.natE Go.Proofs.YtinceponggpioaaDoor.natF Go.Proofs.YtinceponggpioaaDoor.natG Go.Proofs.YtinceponggpioaaDoor.natH Go.Proofs.YtinceponggpioaaDoor.natI Go.Proofs.YtinceponggpioaaDoor.natJ Go.Proofs.YtinceponggpioaaDoor.natX Go.Proofs.YtinceponggpioaaDoor.natUi Go.Proofs.YtinceponggpioaaDoor.frM Go.Proofs.YtinceponggpioaaDoor.frA Go.Proofs.YtinceponggpioaaDoor.frB Go.Proofs.YtinceponggpioaaDoor.frC Go.Proofs.YtinceponggpioaaDoor.frD
set_option linter.unusedVariables false

set_option maxRecDepth 4000 in
set_option maxHeartbeats 2000000 in
theorem fmul_any (A B A2 B2 : Option Addr) (n c m d n2 c2 m2 d2 X Y Z W : Nat) (hX : Hid (X < 4294967296 ^ n)) (hY : Hid (Y < 4294967296 ^ m)) (hZ : Hid (Z < 4294967296 ^ n2)) (hW : Hid (W < 4294967296 ^ m2))
    (i1 : n ≤ c) (i2 : m ≤ d) (i3 : n2 ≤ c2) (i4 : m2 ≤ d2) (j1 : n ≤ 9223372036854775807) (j2 : m ≤ 9223372036854775807) (j3 : n2 ≤ 9223372036854775807) (j4 : m2 ≤ 9223372036854775807) (w : World)
    (h1 : Cel .u32 w A (dg 4294967296 n X)) (h2 : Cel .u32 w B (dg 4294967296 m Y)) (h3 : Cel .u32 w A2 (dg 4294967296 n2 Z)) (h4 : Cel .u32 w B2 (dg 4294967296 m2 W)) :
    Calls Tryd.prog 23 #[.agg #[.slice A n c, .slice B m d], .agg #[.slice A2 n2 c2, .slice B2 m2 d2]] w (FrP (mulA (frB n X m Y) (frB n2 Z m2 W) X Y Z W) w) := by
  have S0 := Lib.hid ((((Kp.start w).addc h4).addc h3).addc h2 |>.addc h1)
  clear h1 h2 h3 h4
  obtain ⟨a, ha⟩ : ∃ a, Hid (a = frB n X m Y) := ⟨_, Lib.hid rfl⟩
  obtain ⟨b, hb⟩ : ∃ b, Hid (b = frB n2 Z m2 W) := ⟨_, Lib.hid rfl⟩
  rw [← ha.out, ← hb.out]
  have c1 := fun w h1 h2 => vd_any A B n c m d X Y a hX hY i1 i2 j1 j2 ha w h1 h2
  have c2v := fun w h1 h2 => vd_any A2 B2 n2 c2 m2 d2 Z W b hZ hW i3 i4 j3 j4 hb w h1 h2
  cases a with
  | false =>
    rw [show mulA false b X Y Z W = no 2 from rfl]
    clear hX hY hZ hW i1 i2 i3 i4 ha hb c2v
    go_enter Tryd.func23, Tryd.ntmps23
    go_wp2_with (first
      | (go_at_call 18; ((with_reducible refine (c1 _ (S0.out.al3 _ _ _ _ _ _).c0 (S0.out.al3 _ _ _ _ _ _).c1).mono ?_); rintro e w1 ⟨rfl, hb⟩; have S1 := Lib.hid ((S0.out.al3 _ _ _ _ _ _).below hb); have z1 := S1.out.b0.fst; have z2 := S1.out.b0.snd; have f1 := S1.out.b0.free 0; have f2 := S1.out.b0.free 1; clear hb)))
    have xs := two_set S1.out.b0 (.slice none 0 0) (.slice none 0 0)
    refine bodyPost_ret (v := .tuple #[.agg #[.slice none 0 0, .slice none 0 0], .int .i64 2]) (by simp [results, Tryd.results23, go_sem, xs.1, xs.2]) rfl ?_
    exact frp_set S1.out.b0 (Num.nil _) (Num.nil _) S1.out.bel (by simp; omega) _ _
  | true =>
    cases b with
    | false =>
      rw [show mulA true false X Y Z W = no 2 from rfl]
      clear hX hY hZ hW i1 i2 i3 i4 ha hb
      go_enter Tryd.func23, Tryd.ntmps23
      go_wp2_with (first
        | (go_at_call 18; first
          | ((with_reducible refine (c1 _ (S0.out.al3 _ _ _ _ _ _).c0 (S0.out.al3 _ _ _ _ _ _).c1).mono ?_); rintro e w1 ⟨rfl, hb⟩; have S1 := Lib.hid ((S0.out.al3 _ _ _ _ _ _).below hb); have u1 := S1.out.b1.fst; have u2 := S1.out.b1.snd; clear hb)
          | ((with_reducible refine (c2v _ S1.out.c2 S1.out.c3).mono ?_); rintro e w2 ⟨rfl, hb⟩; have S2 := Lib.hid (S1.out.below hb); have z1 := S2.out.b0.fst; have z2 := S2.out.b0.snd; have f1 := S2.out.b0.free 0; have f2 := S2.out.b0.free 1; clear hb u1 u2)))
      have xs := two_set S2.out.b0 (.slice none 0 0) (.slice none 0 0)
      refine bodyPost_ret (v := .tuple #[.agg #[.slice none 0 0, .slice none 0 0], .int .i64 2]) (by simp [results, Tryd.results23, go_sem, xs.1, xs.2]) rfl ?_
      exact frp_set S2.out.b0 (Num.nil _) (Num.nil _) S2.out.bel (by simp; omega) _ _
    | true =>
      obtain ⟨v1, v2, l1⟩ := fr_low ha.out.symm
      obtain ⟨v3, v4, l2⟩ := fr_low hb.out.symm
      have k := fun w h1 h2 h3 h4 => mult_any A B A2 B2 n c m d n2 c2 m2 d2 X Y Z W (Lib.hid v1) (Lib.hid v2) (Lib.hid v3) (Lib.hid v4) l1.1 l2.1 w h1 h2 h3 h4
      obtain ⟨r, hr⟩ : ∃ r, Hid (r = muA X Y Z W) := ⟨_, Lib.hid rfl⟩
      rw [← hr.out] at k
      rw [show mulA true true X Y Z W = r from hr.out.symm]
      clear hX hY hZ hW i1 i2 i3 i4 ha hb v1 v2 v3 v4 l1 l2 hr
      go_enter Tryd.func23, Tryd.ntmps23
      go_wp2_with (first
        | (go_at_call 18; first
          | ((with_reducible refine (c1 _ (S0.out.al3 _ _ _ _ _ _).c0 (S0.out.al3 _ _ _ _ _ _).c1).mono ?_); rintro e w1 ⟨rfl, hb⟩; have S1 := Lib.hid ((S0.out.al3 _ _ _ _ _ _).below hb); have u1 := S1.out.b1.fst; have u2 := S1.out.b1.snd; clear hb)
          | ((with_reducible refine (c2v _ S1.out.c2 S1.out.c3).mono ?_); rintro e w2 ⟨rfl, hb⟩; have S2 := Lib.hid (S1.out.below hb); have t1 := S2.out.b1.fst; have t2 := S2.out.b1.snd; have t3 := S2.out.b2.fst; have t4 := S2.out.b2.snd; clear hb u1 u2))
        | (go_at_call 47; (with_reducible refine (k _ S2.out.c0 S2.out.c1 S2.out.c2 S2.out.c3).mono ?_); rintro e w3 ⟨A7, n7, c7, B7, m7, d7, rfl, q1, q2, hb⟩; have S3 := Lib.hid (S2.out.below hb); have Q1 := Lib.hid q1; have Q2 := Lib.hid q2; have z1 := S3.out.b0.fst; have z2 := S3.out.b0.snd; have f1 := S3.out.b0.free 0; have f2 := S3.out.b0.free 1; clear hb q1 q2))
      have xs := two_set S3.out.b0 (.slice A7 n7 c7) (.slice B7 m7 d7)
      refine bodyPost_ret (v := .tuple #[.agg #[.slice A7 n7 c7, .slice B7 m7 d7], .int .i64 r.1]) (by simp [results, Tryd.results23, go_sem, xs.1, xs.2]) rfl ?_
      exact frp_set S3.out.b0 Q1.out Q2.out S3.out.bel (by simp; omega) _ _
set_option maxRecDepth 4000 in
set_option maxHeartbeats 2000000 in
theorem fdiv_any (A B A2 B2 : Option Addr) (n c m d n2 c2 m2 d2 X Y Z W : Nat) (hX : Hid (X < 4294967296 ^ n)) (hY : Hid (Y < 4294967296 ^ m)) (hZ : Hid (Z < 4294967296 ^ n2)) (hW : Hid (W < 4294967296 ^ m2))
    (i1 : n ≤ c) (i2 : m ≤ d) (i3 : n2 ≤ c2) (i4 : m2 ≤ d2) (j1 : n ≤ 9223372036854775807) (j2 : m ≤ 9223372036854775807) (j3 : n2 ≤ 9223372036854775807) (j4 : m2 ≤ 9223372036854775807) (w : World)
    (h1 : Cel .u32 w A (dg 4294967296 n X)) (h2 : Cel .u32 w B (dg 4294967296 m Y)) (h3 : Cel .u32 w A2 (dg 4294967296 n2 Z)) (h4 : Cel .u32 w B2 (dg 4294967296 m2 W)) :
    Calls Tryd.prog 25 #[.agg #[.slice A n c, .slice B m d], .agg #[.slice A2 n2 c2, .slice B2 m2 d2]] w (FrP (divA (frB n X m Y) (frB n2 Z m2 W) X Y Z W) w) := by
  have S0 := Lib.hid ((((Kp.start w).addc h4).addc h3).addc h2 |>.addc h1)
  clear h1 h2 h3 h4
  obtain ⟨a, ha⟩ : ∃ a, Hid (a = frB n X m Y) := ⟨_, Lib.hid rfl⟩
  obtain ⟨b, hb⟩ : ∃ b, Hid (b = frB n2 Z m2 W) := ⟨_, Lib.hid rfl⟩
  rw [← ha.out, ← hb.out]
  have c1 := fun w h1 h2 => vd_any A B n c m d X Y a hX hY i1 i2 j1 j2 ha w h1 h2
  have c2v := fun w h1 h2 => vd_any A2 B2 n2 c2 m2 d2 Z W b hZ hW i3 i4 j3 j4 hb w h1 h2
  cases a with
  | false =>
    rw [show divA false b X Y Z W = no 2 from rfl]
    clear hX hY hZ hW i1 i2 i3 i4 ha hb c2v
    go_enter Tryd.func25, Tryd.ntmps25
    go_wp2_with (first
      | (go_at_call 18; ((with_reducible refine (c1 _ (S0.out.al3 _ _ _ _ _ _).c0 (S0.out.al3 _ _ _ _ _ _).c1).mono ?_); rintro e w1 ⟨rfl, hb⟩; have S1 := Lib.hid ((S0.out.al3 _ _ _ _ _ _).below hb); have z1 := S1.out.b0.fst; have z2 := S1.out.b0.snd; have f1 := S1.out.b0.free 0; have f2 := S1.out.b0.free 1; clear hb)))
    have xs := two_set S1.out.b0 (.slice none 0 0) (.slice none 0 0)
    refine bodyPost_ret (v := .tuple #[.agg #[.slice none 0 0, .slice none 0 0], .int .i64 2]) (by simp [results, Tryd.results25, go_sem, xs.1, xs.2]) rfl ?_
    exact frp_set S1.out.b0 (Num.nil _) (Num.nil _) S1.out.bel (by simp; omega) _ _
  | true =>
    cases b with
    | false =>
      rw [show divA true false X Y Z W = no 2 from rfl]
      clear hX hY hZ hW i1 i2 i3 i4 ha hb
      go_enter Tryd.func25, Tryd.ntmps25
      go_wp2_with (first
        | (go_at_call 18; first
          | ((with_reducible refine (c1 _ (S0.out.al3 _ _ _ _ _ _).c0 (S0.out.al3 _ _ _ _ _ _).c1).mono ?_); rintro e w1 ⟨rfl, hb⟩; have S1 := Lib.hid ((S0.out.al3 _ _ _ _ _ _).below hb); have u1 := S1.out.b1.fst; have u2 := S1.out.b1.snd; clear hb)
          | ((with_reducible refine (c2v _ S1.out.c2 S1.out.c3).mono ?_); rintro e w2 ⟨rfl, hb⟩; have S2 := Lib.hid (S1.out.below hb); have z1 := S2.out.b0.fst; have z2 := S2.out.b0.snd; have f1 := S2.out.b0.free 0; have f2 := S2.out.b0.free 1; clear hb u1 u2)))
      have xs := two_set S2.out.b0 (.slice none 0 0) (.slice none 0 0)
      refine bodyPost_ret (v := .tuple #[.agg #[.slice none 0 0, .slice none 0 0], .int .i64 2]) (by simp [results, Tryd.results25, go_sem, xs.1, xs.2]) rfl ?_
      exact frp_set S2.out.b0 (Num.nil _) (Num.nil _) S2.out.bel (by simp; omega) _ _
    | true =>
      obtain ⟨v1, v2, l1⟩ := fr_low ha.out.symm
      obtain ⟨v3, v4, l2⟩ := fr_low hb.out.symm
      by_cases h0 : Z = 0
      · subst h0
        obtain rfl := val_zero v3
        rw [show divA true true X Y 0 W = no 10 from rfl]
        clear hX hY hZ hW i1 i2 i3 i4 ha hb v1 v2 v3 v4 l1 l2
        go_enter Tryd.func25, Tryd.ntmps25
        go_wp2_with (first
          | (go_at_call 18; first
            | ((with_reducible refine (c1 _ (S0.out.al3 _ _ _ _ _ _).c0 (S0.out.al3 _ _ _ _ _ _).c1).mono ?_); rintro e w1 ⟨rfl, hb⟩; have S1 := Lib.hid ((S0.out.al3 _ _ _ _ _ _).below hb); have u1 := S1.out.b1.fst; have u2 := S1.out.b1.snd; clear hb)
            | ((with_reducible refine (c2v _ S1.out.c2 S1.out.c3).mono ?_); rintro e w2 ⟨rfl, hb⟩; have S2 := Lib.hid (S1.out.below hb); have t1 := S2.out.b1.fst; have t2 := S2.out.b1.snd; have t3 := S2.out.b2.fst; have t4 := S2.out.b2.snd; clear hb u1 u2))
          | (go_at_call 34; (with_reducible refine (isz_yes _ _ _).mono ?_); rintro e w3 ⟨rfl, hb⟩; have S3 := Lib.hid (S2.out.below hb); have z1 := S3.out.b0.fst; have z2 := S3.out.b0.snd; have f1 := S3.out.b0.free 0; have f2 := S3.out.b0.free 1; clear hb))
        have xs := two_set S3.out.b0 (.slice none 0 0) (.slice none 0 0)
        refine bodyPost_ret (v := .tuple #[.agg #[.slice none 0 0, .slice none 0 0], .int .i64 10]) (by simp [results, Tryd.results25, go_sem, xs.1, xs.2]) rfl ?_
        exact frp_set S3.out.b0 (Num.nil _) (Num.nil _) S3.out.bel (by simp; omega) _ _
      · have hz : 0 < Z := by omega
        have hn2 : 0 < n2 := by
          have h1 := (valB_iff.1 v3).2
          have := nlen_pos (B := 4294967296) (by omega) hz; omega
        have ci := isz_no A2 n2 c2 hn2 j3
        have k := fun w h1 h2 h3 h4 => mult_any A B B2 A2 n c m d m2 d2 n2 c2 X Y W Z (Lib.hid v1) (Lib.hid v2) (Lib.hid v4) (Lib.hid v3) l1.1 hz w h1 h2 h3 h4
        obtain ⟨r, hr⟩ : ∃ r, Hid (r = muA X Y W Z) := ⟨_, Lib.hid rfl⟩
        rw [← hr.out] at k
        rw [show divA true true X Y Z W = r by rw [hr.out]; unfold divA muA; simp [h0]]
        clear hX hY hZ hW i1 i2 i3 i4 ha hb v1 v2 v3 v4 l1 l2 hr h0 hz
        go_enter Tryd.func25, Tryd.ntmps25
        go_wp2_with (first
          | (go_at_call 18; first
            | ((with_reducible refine (c1 _ (S0.out.al3 _ _ _ _ _ _).c0 (S0.out.al3 _ _ _ _ _ _).c1).mono ?_); rintro e w1 ⟨rfl, hb⟩; have S1 := Lib.hid ((S0.out.al3 _ _ _ _ _ _).below hb); have u1 := S1.out.b1.fst; have u2 := S1.out.b1.snd; clear hb)
            | ((with_reducible refine (c2v _ S1.out.c2 S1.out.c3).mono ?_); rintro e w2 ⟨rfl, hb⟩; have S2 := Lib.hid (S1.out.below hb); have t1 := S2.out.b1.fst; have t2 := S2.out.b1.snd; have t3 := S2.out.b2.fst; have t4 := S2.out.b2.snd; clear hb u1 u2))
          | (go_at_call 34; (with_reducible refine (ci _).mono ?_); rintro e w3 ⟨rfl, hb⟩; have S3 := Lib.hid (S2.out.below hb); have s1 := S3.out.b1.fst; have s2 := S3.out.b1.snd; have s3 := S3.out.b2.fst; have s4 := S3.out.b2.snd; clear hb t1 t2 t3 t4)
          | (go_at_call 47; (with_reducible refine (k _ S3.out.c0 S3.out.c1 S3.out.c3 S3.out.c2).mono ?_); rintro e w4 ⟨A7, n7, c7, B7, m7, d7, rfl, q1, q2, hb⟩; have S4 := Lib.hid (S3.out.below hb); have Q1 := Lib.hid q1; have Q2 := Lib.hid q2; have z1 := S4.out.b0.fst; have z2 := S4.out.b0.snd; have f1 := S4.out.b0.free 0; have f2 := S4.out.b0.free 1; clear hb q1 q2))
        have xs := two_set S4.out.b0 (.slice A7 n7 c7) (.slice B7 m7 d7)
        refine bodyPost_ret (v := .tuple #[.agg #[.slice A7 n7 c7, .slice B7 m7 d7], .int .i64 r.1]) (by simp [results, Tryd.results25, go_sem, xs.1, xs.2]) rfl ?_
        exact frp_set S4.out.b0 Q1.out Q2.out S4.out.bel (by simp; omega) _ _
end Go.Proofs.YtinceponggpioaaDoor.frE

/-
  Contracts of Mul, Div of the reference.
-/
import Derived.Test.YtinceponggpioaaDoorFrS
import Derived.Test.YtinceponggpioaaDoorNatZ
namespace Go.Proofs.YtinceponggpioaaDoor.frV
open Go.RowKit
open Go.Proofs.YtinceponggpioaaDoor.natM Go.Proofs.YtinceponggpioaaDoor.natA Go.Proofs.YtinceponggpioaaDoor.natB Go.Proofs.YtinceponggpioaaDoor.natC Go.Proofs.YtinceponggpioaaDoor.natD Go.Proofs.YtinceponggpioaaDoor.natE Go.Proofs.YtinceponggpioaaDoor.natF Go.Proofs.YtinceponggpioaaDoor.natG Go.Proofs.YtinceponggpioaaDoor.natH Go.Proofs.YtinceponggpioaaDoor.natI Go.Proofs.YtinceponggpioaaDoor.natJ Go.Proofs.YtinceponggpioaaDoor.natX Go.Proofs.YtinceponggpioaaDoor.natUi Go.Proofs.YtinceponggpioaaDoor.frM Go.Proofs.YtinceponggpioaaDoor.frA Go.Proofs.YtinceponggpioaaDoor.frB Go.Proofs.YtinceponggpioaaDoor.frC Go.Proofs.YtinceponggpioaaDoor.frD Go.Proofs.YtinceponggpioaaDoor.natR Go.Proofs.YtinceponggpioaaDoor.natS Go.Proofs.YtinceponggpioaaDoor.natT Go.Proofs.YtinceponggpioaaDoor.natY Go.Proofs.YtinceponggpioaaDoor.natZ Go.Proofs.YtinceponggpioaaDoor.natDm Go.Proofs.YtinceponggpioaaDoor.natGc Go.Proofs.YtinceponggpioaaDoor.frR Go.Proofs.YtinceponggpioaaDoor.frS
set_option linter.unusedVariables false

theorem rmul_ok {n m X Y V : Nat} (h1 : valB n X = true) (h2 : valB m Y = true) (hV : V = X * Y) (hb : nlen 4294967296 V ≤ 64) (A : Option Addr) (c : Nat) (D : Option Addr) (d : Nat) (w : World) (hI : Cel .u32 w A (dg 4294967296 n X)) (hJ : Cel .u32 w D (dg 4294967296 m Y)) :
    Calls Tryd.prog 48 #[.agg #[.slice A n c], .agg #[.slice D m d]] w (ResP V 0 w) := by
  have l1 := (valB_iff.1 h1).1
  have l2 := (valB_iff.1 h2).1
  subst hV
  have := rxmul_any A D n c m d X Y (Lib.hid (val_lt h1)) (Lib.hid (val_lt h2)) (by omega) (by omega) w hI hJ
  unfold mulV mulE at this
  rwa [h1, h2, (r_ok hb).1, (r_ok hb).2] at this
theorem rmul_big {n m X Y V : Nat} (h1 : valB n X = true) (h2 : valB m Y = true) (hV : V = X * Y) (hb : 64 < nlen 4294967296 V) (A : Option Addr) (c : Nat) (D : Option Addr) (d : Nat) (w : World) (hI : Cel .u32 w A (dg 4294967296 n X)) (hJ : Cel .u32 w D (dg 4294967296 m Y)) :
    Calls Tryd.prog 48 #[.agg #[.slice A n c], .agg #[.slice D m d]] w (ResP 0 9 w) := by
  have l1 := (valB_iff.1 h1).1
  have l2 := (valB_iff.1 h2).1
  subst hV
  have := rxmul_any A D n c m d X Y (Lib.hid (val_lt h1)) (Lib.hid (val_lt h2)) (by omega) (by omega) w hI hJ
  unfold mulV mulE at this
  rwa [h1, h2, (r_big hb).1, (r_big hb).2] at this
theorem rmul_all {n m X Y V : Nat} (h1 : valB n X = true) (h2 : valB m Y = true) (hV : V = X * Y) : ∃ (V' : Nat) (E : Int), (E = 0 ∧ V' = V ∧ nlen 4294967296 V ≤ 64 ∨ E = 9 ∧ V' = 0 ∧ 64 < nlen 4294967296 V) ∧ ∀ A c D d w, Cel .u32 w A (dg 4294967296 n X) → Cel .u32 w D (dg 4294967296 m Y) →
    Calls Tryd.prog 48 #[.agg #[.slice A n c], .agg #[.slice D m d]] w (ResP V' E w) := by
  by_cases hb : nlen 4294967296 V ≤ 64
  · exact ⟨V, 0, .inl ⟨rfl, rfl, hb⟩, rmul_ok h1 h2 hV hb⟩
  · exact ⟨0, 9, .inr ⟨rfl, rfl, by omega⟩, rmul_big h1 h2 hV (by omega)⟩
theorem rred_red {k j N D : Nat} (hk : k = nlen 4294967296 N) (hj : j = nlen 4294967296 D) (h1 : k ≤ 64) (h2 : j ≤ 64) (h0 : 0 < D) (A : Option Addr) (c : Nat) (B : Option Addr) (d : Nat) (w : World) (hI : Cel .u32 w A (dg 4294967296 k N)) (hJ : Cel .u32 w B (dg 4294967296 j D)) :
    Calls Tryd.prog 37 #[.agg #[.slice A k c], .agg #[.slice B j d]] w (FrP (rd N D) w) := by
  have v1 : valB k N = true := valB_iff.2 ⟨h1, hk.symm⟩
  have v2 : valB j D = true := valB_iff.2 ⟨h2, hj.symm⟩
  exact rred_ok A B k c j d N D (Lib.hid (val_lt v1)) (Lib.hid (val_lt v2)) (Lib.hid v1) (Lib.hid v2) h0 w hI hJ

set_option maxRecDepth 4000 in
set_option maxHeartbeats 2000000 in
theorem rfmul_any (A B A2 B2 : Option Addr) (n c m d n2 c2 m2 d2 X Y Z W : Nat) (hX : Hid (X < 4294967296 ^ n)) (hY : Hid (Y < 4294967296 ^ m)) (hZ : Hid (Z < 4294967296 ^ n2)) (hW : Hid (W < 4294967296 ^ m2))
    (j1 : n ≤ 9223372036854775807) (j2 : m ≤ 9223372036854775807) (j3 : n2 ≤ 9223372036854775807) (j4 : m2 ≤ 9223372036854775807) (w : World)
    (h1 : Cel .u32 w A (dg 4294967296 n X)) (h2 : Cel .u32 w B (dg 4294967296 m Y)) (h3 : Cel .u32 w A2 (dg 4294967296 n2 Z)) (h4 : Cel .u32 w B2 (dg 4294967296 m2 W)) :
    Calls Tryd.prog 24 #[.agg #[.slice A n c, .slice B m d], .agg #[.slice A2 n2 c2, .slice B2 m2 d2]] w (FrP (mulA (frB n X m Y) (frB n2 Z m2 W) X Y Z W) w) := by
  have S0 := Lib.hid ((((Kp.start w).addc h4).addc h3).addc h2 |>.addc h1)
  clear h1 h2 h3 h4
  obtain ⟨a, ha⟩ : ∃ a, Hid (a = frB n X m Y) := ⟨_, Lib.hid rfl⟩
  obtain ⟨b, hb⟩ : ∃ b, Hid (b = frB n2 Z m2 W) := ⟨_, Lib.hid rfl⟩
  rw [← ha.out, ← hb.out]
  have c1 := fun w h1 h2 => rvd_any A B n c m d X Y hX hY a j1 j2 ha w h1 h2
  have c2v := fun w h1 h2 => rvd_any A2 B2 n2 c2 m2 d2 Z W hZ hW b j3 j4 hb w h1 h2
  cases a with
  | false =>
    rw [show mulA false b X Y Z W = no 2 from rfl]
    clear hX hY hZ hW ha hb c2v
    go_enter Tryd.func24, Tryd.ntmps24
    go_wp2_with (first
      | (go_at_call 20; ((with_reducible refine (c1 _ (S0.out.al3 _ _ _ _ _ _).c0 (S0.out.al3 _ _ _ _ _ _).c1).mono ?_); rintro e w1 ⟨rfl, hb⟩; have S1 := Lib.hid ((S0.out.al3 _ _ _ _ _ _).below hb); have z1 := S1.out.b0.fst; have z2 := S1.out.b0.snd; have f1 := S1.out.b0.free 0; have f2 := S1.out.b0.free 1; clear hb)))
    have xs := two_set S1.out.b0 (.slice none 0 0) (.slice none 0 0)
    refine bodyPost_ret (v := .tuple #[.agg #[.slice none 0 0, .slice none 0 0], .int .i64 2]) (by simp [results, Tryd.results24, go_sem, xs.1, xs.2]) rfl ?_
    exact frp_set S1.out.b0 (Num.nil _) (Num.nil _) S1.out.bel (by simp; omega) _ _
  | true =>
    cases b with
    | false =>
      rw [show mulA true false X Y Z W = no 2 from rfl]
      clear hX hY hZ hW ha hb
      go_enter Tryd.func24, Tryd.ntmps24
      go_wp2_with (first
        | (go_at_call 20; first
          | ((with_reducible refine (c1 _ (S0.out.al3 _ _ _ _ _ _).c0 (S0.out.al3 _ _ _ _ _ _).c1).mono ?_); rintro e w1 ⟨rfl, hb⟩; have S1 := Lib.hid ((S0.out.al3 _ _ _ _ _ _).below hb); have u1 := S1.out.b1.fst; have u2 := S1.out.b1.snd; clear hb)
          | ((with_reducible refine (c2v _ S1.out.c2 S1.out.c3).mono ?_); rintro e w2 ⟨rfl, hb⟩; have S2 := Lib.hid (S1.out.below hb); have z1 := S2.out.b0.fst; have z2 := S2.out.b0.snd; have f1 := S2.out.b0.free 0; have f2 := S2.out.b0.free 1; clear hb u1 u2)))
      have xs := two_set S2.out.b0 (.slice none 0 0) (.slice none 0 0)
      refine bodyPost_ret (v := .tuple #[.agg #[.slice none 0 0, .slice none 0 0], .int .i64 2]) (by simp [results, Tryd.results24, go_sem, xs.1, xs.2]) rfl ?_
      exact frp_set S2.out.b0 (Num.nil _) (Num.nil _) S2.out.bel (by simp; omega) _ _
    | true =>
      obtain ⟨v1, v2, l1⟩ := fr_low ha.out.symm
      obtain ⟨v3, v4, l2⟩ := fr_low hb.out.symm
      obtain ⟨N, hN⟩ : ∃ N, N = X * Z := ⟨_, rfl⟩
      obtain ⟨D, hD⟩ : ∃ N, N = Y * W := ⟨_, rfl⟩
      have h0 : 0 < D := by rw [hD]; exact Nat.mul_pos l1.1 l2.1
      obtain ⟨V1, E1, o1, k1⟩ := rmul_all v1 v3 hN
      obtain ⟨V2, E2, o2, k2⟩ := rmul_all v2 v4 hD
      obtain ⟨j1, hj1⟩ : ∃ n, n = nlen 4294967296 V1 := ⟨_, rfl⟩
      obtain ⟨j2, hj2⟩ : ∃ n, n = nlen 4294967296 V2 := ⟨_, rfl⟩
      have HJ1 := Lib.hid hj1
      have HJ2 := Lib.hid hj2
      rcases o1 with ⟨rfl, rfl, b1⟩ | ⟨rfl, rfl, b1⟩
      · rcases o2 with ⟨rfl, rfl, b2⟩ | ⟨rfl, rfl, b2⟩
        · have k3 := rred_red hj1 hj2 (by omega) (by omega) h0
          obtain ⟨r, hr⟩ : ∃ r, Hid (r = rd V1 V2) := ⟨_, Lib.hid rfl⟩
          rw [← hr.out] at k3
          rw [show mulA true true X Y Z W = r by rw [hr.out]; unfold mulA; rw [← hN, ← hD, big_no b1, big_no b2]; rfl]
          clear hX hY hZ hW ha hb v1 v2 v3 v4 l1 l2 hr hN hD h0 b1 b2 hj1 hj2
          go_enter Tryd.func24, Tryd.ntmps24
          go_wp2_with (first
            | (go_at_call 20; first
          | ((with_reducible refine (c1 _ (S0.out.al3 _ _ _ _ _ _).c0 (S0.out.al3 _ _ _ _ _ _).c1).mono ?_); rintro e w1 ⟨rfl, hb⟩; have S1 := Lib.hid ((S0.out.al3 _ _ _ _ _ _).below hb); have u1 := S1.out.b1.fst; have u2 := S1.out.b1.snd; clear hb)
          | ((with_reducible refine (c2v _ S1.out.c2 S1.out.c3).mono ?_); rintro e w2 ⟨rfl, hb⟩; have S2 := Lib.hid (S1.out.below hb); have t1 := S2.out.b1.fst; have t2 := S2.out.b1.snd; have t3 := S2.out.b2.fst; have t4 := S2.out.b2.snd; clear hb u1 u2))
            | (go_at_call 48; first
              | ((with_reducible refine (k1 _ _ _ _ _ S2.out.c0 S2.out.c2).mono ?_); rintro e w3 ⟨A5, n5, c5, rfl, qq, hb⟩; obtain ⟨z, g1⟩ := num_at HJ1.out qq; subst z; have S3 := Lib.hid ((S2.out.below hb).addc g1); have y1 := fun o => (S3.out.alloc o).b1.fst; have y2 := fun o => (S3.out.alloc o).b1.snd; have y3 := fun o => (S3.out.alloc o).b2.fst; have y4 := fun o => (S3.out.alloc o).b2.snd; clear hb g1 qq t1 t2 t3 t4)
              | ((with_reducible refine (k2 _ _ _ _ _ (S3.out.al1 _ _).c2 (S3.out.al1 _ _).c4).mono ?_); rintro e w4 ⟨A6, n6, c6, rfl, qq, hb⟩; obtain ⟨z, g1⟩ := num_at HJ2.out qq; subst z; have S4 := Lib.hid (((S3.out.al1 _ _).below hb).addc g1); have y9 := fun o => (S4.out.alloc o).b0.one; clear hb g1 qq y1 y2 y3 y4))
            | (go_at_call 37; (with_reducible refine (k3 _ _ _ _ _ (S4.out.al1 _ _).c1 (S4.out.al1 _ _).c0).mono ?_); rintro e w5 ⟨A7, n7, c7, B7, m7, d7, rfl, q1, q2, hb⟩; have S5 := Lib.hid ((S4.out.al1 _ _).below hb); have Q1 := Lib.hid q1; have Q2 := Lib.hid q2; have z1 := S5.out.b2.fst; have z2 := S5.out.b2.snd; have f1 := S5.out.b2.free 0; have f2 := S5.out.b2.free 1; clear hb q1 q2 y9))
          have xs := two_set S5.out.b2 (.slice A7 n7 c7) (.slice B7 m7 d7)
          refine bodyPost_ret (v := .tuple #[.agg #[.slice A7 n7 c7, .slice B7 m7 d7], .int .i64 r.1]) (by simp [results, Tryd.results24, go_sem, xs.1, xs.2]) rfl ?_
          exact frp_set S5.out.b2 Q1.out Q2.out S5.out.bel (by simp; omega) _ _
        · rw [show mulA true true X Y Z W = no 9 by unfold mulA; rw [← hN, ← hD]; first | (rw [big_yes b1]; rfl) | (rw [big_yes b2, Bool.or_true]; rfl)]
          clear hX hY hZ hW ha hb v1 v2 v3 v4 l1 l2 hN hD h0 b1 b2 hj1 hj2
          go_enter Tryd.func24, Tryd.ntmps24
          go_wp2_with (first
            | (go_at_call 20; first
          | ((with_reducible refine (c1 _ (S0.out.al3 _ _ _ _ _ _).c0 (S0.out.al3 _ _ _ _ _ _).c1).mono ?_); rintro e w1 ⟨rfl, hb⟩; have S1 := Lib.hid ((S0.out.al3 _ _ _ _ _ _).below hb); have u1 := S1.out.b1.fst; have u2 := S1.out.b1.snd; clear hb)
          | ((with_reducible refine (c2v _ S1.out.c2 S1.out.c3).mono ?_); rintro e w2 ⟨rfl, hb⟩; have S2 := Lib.hid (S1.out.below hb); have t1 := S2.out.b1.fst; have t2 := S2.out.b1.snd; have t3 := S2.out.b2.fst; have t4 := S2.out.b2.snd; clear hb u1 u2))
            | (go_at_call 48; first
              | ((with_reducible refine (k1 _ _ _ _ _ S2.out.c0 S2.out.c2).mono ?_); rintro e w3 ⟨A5, n5, c5, rfl, qq, hb⟩; obtain ⟨z, g1⟩ := num_at HJ1.out qq; subst z; have S3 := Lib.hid ((S2.out.below hb).addc g1); have y1 := fun o => (S3.out.alloc o).b1.fst; have y2 := fun o => (S3.out.alloc o).b1.snd; have y3 := fun o => (S3.out.alloc o).b2.fst; have y4 := fun o => (S3.out.alloc o).b2.snd; clear hb g1 qq t1 t2 t3 t4)
              | ((with_reducible refine (k2 _ _ _ _ _ (S3.out.al1 _ _).c2 (S3.out.al1 _ _).c4).mono ?_); rintro e w4 ⟨A6, n6, c6, rfl, qq, hb⟩; obtain ⟨z, g1⟩ := num_at HJ2.out qq; subst z; have S4 := Lib.hid (((S3.out.al1 _ _).below hb).addc g1); have z1 := fun o => (S4.out.alloc o).b1.fst; have z2 := fun o => (S4.out.alloc o).b1.snd; have f1 := fun o => (S4.out.alloc o).b1.free 0; have f2 := fun o => (S4.out.alloc o).b1.free 1; clear hb g1 qq y1 y2 y3 y4)))
          have S5 := Lib.hid (S4.out.al1 #[.slice A6 j2 c6] 24)
          have xs := two_set S5.out.b2 (.slice none 0 0) (.slice none 0 0)
          refine bodyPost_ret (v := .tuple #[.agg #[.slice none 0 0, .slice none 0 0], .int .i64 9]) (by simp [results, Tryd.results24, go_sem, xs.1, xs.2]) rfl ?_
          exact frp_set S5.out.b2 (Num.nil _) (Num.nil _) S5.out.bel (by simp; omega) _ _
      · rw [show mulA true true X Y Z W = no 9 by unfold mulA; rw [← hN, ← hD]; first | (rw [big_yes b1]; rfl) | (rw [big_yes b2, Bool.or_true]; rfl)]
        clear hX hY hZ hW ha hb v1 v2 v3 v4 l1 l2 hN hD h0 b1 o2 hj1 hj2
        go_enter Tryd.func24, Tryd.ntmps24
        go_wp2_with (first
          | (go_at_call 20; first
          | ((with_reducible refine (c1 _ (S0.out.al3 _ _ _ _ _ _).c0 (S0.out.al3 _ _ _ _ _ _).c1).mono ?_); rintro e w1 ⟨rfl, hb⟩; have S1 := Lib.hid ((S0.out.al3 _ _ _ _ _ _).below hb); have u1 := S1.out.b1.fst; have u2 := S1.out.b1.snd; clear hb)
          | ((with_reducible refine (c2v _ S1.out.c2 S1.out.c3).mono ?_); rintro e w2 ⟨rfl, hb⟩; have S2 := Lib.hid (S1.out.below hb); have t1 := S2.out.b1.fst; have t2 := S2.out.b1.snd; have t3 := S2.out.b2.fst; have t4 := S2.out.b2.snd; clear hb u1 u2))
          | (go_at_call 48; first
              | ((with_reducible refine (k1 _ _ _ _ _ S2.out.c0 S2.out.c2).mono ?_); rintro e w3 ⟨A5, n5, c5, rfl, qq, hb⟩; obtain ⟨z, g1⟩ := num_at HJ1.out qq; subst z; have S3 := Lib.hid ((S2.out.below hb).addc g1); have y1 := fun o => (S3.out.alloc o).b1.fst; have y2 := fun o => (S3.out.alloc o).b1.snd; have y3 := fun o => (S3.out.alloc o).b2.fst; have y4 := fun o => (S3.out.alloc o).b2.snd; clear hb g1 qq t1 t2 t3 t4)
              | ((with_reducible refine (k2 _ _ _ _ _ (S3.out.al1 _ _).c2 (S3.out.al1 _ _).c4).mono ?_); rintro e w4 ⟨A6, n6, c6, rfl, qq, hb⟩; obtain ⟨z, g1⟩ := num_at HJ2.out qq; subst z; have S4 := Lib.hid (((S3.out.al1 _ _).below hb).addc g1); have z1 := fun o => (S4.out.alloc o).b1.fst; have z2 := fun o => (S4.out.alloc o).b1.snd; have f1 := fun o => (S4.out.alloc o).b1.free 0; have f2 := fun o => (S4.out.alloc o).b1.free 1; clear hb g1 qq y1 y2 y3 y4)))
        have S5 := Lib.hid (S4.out.al1 #[.slice A6 j2 c6] 24)
        have xs := two_set S5.out.b2 (.slice none 0 0) (.slice none 0 0)
        refine bodyPost_ret (v := .tuple #[.agg #[.slice none 0 0, .slice none 0 0], .int .i64 9]) (by simp [results, Tryd.results24, go_sem, xs.1, xs.2]) rfl ?_
        exact frp_set S5.out.b2 (Num.nil _) (Num.nil _) S5.out.bel (by simp; omega) _ _
set_option maxRecDepth 4000 in
set_option maxHeartbeats 2000000 in
theorem rfdiv_any (A B A2 B2 : Option Addr) (n c m d n2 c2 m2 d2 X Y Z W : Nat) (hX : Hid (X < 4294967296 ^ n)) (hY : Hid (Y < 4294967296 ^ m)) (hZ : Hid (Z < 4294967296 ^ n2)) (hW : Hid (W < 4294967296 ^ m2))
    (j1 : n ≤ 9223372036854775807) (j2 : m ≤ 9223372036854775807) (j3 : n2 ≤ 9223372036854775807) (j4 : m2 ≤ 9223372036854775807) (w : World)
    (h1 : Cel .u32 w A (dg 4294967296 n X)) (h2 : Cel .u32 w B (dg 4294967296 m Y)) (h3 : Cel .u32 w A2 (dg 4294967296 n2 Z)) (h4 : Cel .u32 w B2 (dg 4294967296 m2 W)) :
    Calls Tryd.prog 26 #[.agg #[.slice A n c, .slice B m d], .agg #[.slice A2 n2 c2, .slice B2 m2 d2]] w (FrP (divA (frB n X m Y) (frB n2 Z m2 W) X Y Z W) w) := by
  have S0 := Lib.hid ((((Kp.start w).addc h4).addc h3).addc h2 |>.addc h1)
  clear h1 h2 h3 h4
  obtain ⟨a, ha⟩ : ∃ a, Hid (a = frB n X m Y) := ⟨_, Lib.hid rfl⟩
  obtain ⟨b, hb⟩ : ∃ b, Hid (b = frB n2 Z m2 W) := ⟨_, Lib.hid rfl⟩
  rw [← ha.out, ← hb.out]
  have c1 := fun w h1 h2 => rvd_any A B n c m d X Y hX hY a j1 j2 ha w h1 h2
  have c2v := fun w h1 h2 => rvd_any A2 B2 n2 c2 m2 d2 Z W hZ hW b j3 j4 hb w h1 h2
  cases a with
  | false =>
    rw [show divA false b X Y Z W = no 2 from rfl]
    clear hX hY hZ hW ha hb c2v
    go_enter Tryd.func26, Tryd.ntmps26
    go_wp2_with (first
      | (go_at_call 20; ((with_reducible refine (c1 _ (S0.out.al3 _ _ _ _ _ _).c0 (S0.out.al3 _ _ _ _ _ _).c1).mono ?_); rintro e w1 ⟨rfl, hb⟩; have S1 := Lib.hid ((S0.out.al3 _ _ _ _ _ _).below hb); have z1 := S1.out.b0.fst; have z2 := S1.out.b0.snd; have f1 := S1.out.b0.free 0; have f2 := S1.out.b0.free 1; clear hb)))
    have xs := two_set S1.out.b0 (.slice none 0 0) (.slice none 0 0)
    refine bodyPost_ret (v := .tuple #[.agg #[.slice none 0 0, .slice none 0 0], .int .i64 2]) (by simp [results, Tryd.results26, go_sem, xs.1, xs.2]) rfl ?_
    exact frp_set S1.out.b0 (Num.nil _) (Num.nil _) S1.out.bel (by simp; omega) _ _
  | true =>
    cases b with
    | false =>
      rw [show divA true false X Y Z W = no 2 from rfl]
      clear hX hY hZ hW ha hb
      go_enter Tryd.func26, Tryd.ntmps26
      go_wp2_with (first
        | (go_at_call 20; first
          | ((with_reducible refine (c1 _ (S0.out.al3 _ _ _ _ _ _).c0 (S0.out.al3 _ _ _ _ _ _).c1).mono ?_); rintro e w1 ⟨rfl, hb⟩; have S1 := Lib.hid ((S0.out.al3 _ _ _ _ _ _).below hb); have u1 := S1.out.b1.fst; have u2 := S1.out.b1.snd; clear hb)
          | ((with_reducible refine (c2v _ S1.out.c2 S1.out.c3).mono ?_); rintro e w2 ⟨rfl, hb⟩; have S2 := Lib.hid (S1.out.below hb); have z1 := S2.out.b0.fst; have z2 := S2.out.b0.snd; have f1 := S2.out.b0.free 0; have f2 := S2.out.b0.free 1; clear hb u1 u2)))
      have xs := two_set S2.out.b0 (.slice none 0 0) (.slice none 0 0)
      refine bodyPost_ret (v := .tuple #[.agg #[.slice none 0 0, .slice none 0 0], .int .i64 2]) (by simp [results, Tryd.results26, go_sem, xs.1, xs.2]) rfl ?_
      exact frp_set S2.out.b0 (Num.nil _) (Num.nil _) S2.out.bel (by simp; omega) _ _
    | true =>
      obtain ⟨v1, v2, l1⟩ := fr_low ha.out.symm
      obtain ⟨v3, v4, l2⟩ := fr_low hb.out.symm
      by_cases hz0 : Z = 0
      · subst hz0
        obtain rfl := val_zero v3
        rw [show divA true true X Y 0 W = no 10 from rfl]
        clear hX hY hZ hW ha hb v1 v2 v3 v4 l1 l2
        go_enter Tryd.func26, Tryd.ntmps26
        go_wp2_with (first
          | (go_at_call 20; first
          | ((with_reducible refine (c1 _ (S0.out.al3 _ _ _ _ _ _).c0 (S0.out.al3 _ _ _ _ _ _).c1).mono ?_); rintro e w1 ⟨rfl, hb⟩; have S1 := Lib.hid ((S0.out.al3 _ _ _ _ _ _).below hb); have u1 := S1.out.b1.fst; have u2 := S1.out.b1.snd; clear hb)
          | ((with_reducible refine (c2v _ S1.out.c2 S1.out.c3).mono ?_); rintro e w2 ⟨rfl, hb⟩; have S2 := Lib.hid (S1.out.below hb); have t1 := S2.out.b1.fst; have t2 := S2.out.b1.snd; have t3 := S2.out.b2.fst; have t4 := S2.out.b2.snd; have z1 := S2.out.b0.fst; have z2 := S2.out.b0.snd; have f1 := S2.out.b0.free 0; have f2 := S2.out.b0.free 1; clear hb u1 u2)))
        have xs := two_set S2.out.b0 (.slice none 0 0) (.slice none 0 0)
        refine bodyPost_ret (v := .tuple #[.agg #[.slice none 0 0, .slice none 0 0], .int .i64 10]) (by simp [results, Tryd.results26, go_sem, xs.1, xs.2]) rfl ?_
        exact frp_set S2.out.b0 (Num.nil _) (Num.nil _) S2.out.bel (by simp; omega) _ _
      · have hz : 0 < Z := by omega
        have hn2 : 0 < n2 := by
          have h1 := (valB_iff.1 v3).2
          have := nlen_pos (B := 4294967296) (by omega) hz; omega
        have hn3 : ((n2 : Int) == 0) = false := by simp; omega
        obtain ⟨N, hN⟩ : ∃ N, N = X * W := ⟨_, rfl⟩
        obtain ⟨D, hD⟩ : ∃ N, N = Y * Z := ⟨_, rfl⟩
        have h0 : 0 < D := by rw [hD]; exact Nat.mul_pos l1.1 hz
        obtain ⟨V1, E1, o1, k1⟩ := rmul_all v1 v4 hN
        obtain ⟨V2, E2, o2, k2⟩ := rmul_all v2 v3 hD
        obtain ⟨j1, hj1⟩ : ∃ n, n = nlen 4294967296 V1 := ⟨_, rfl⟩
        obtain ⟨j2, hj2⟩ : ∃ n, n = nlen 4294967296 V2 := ⟨_, rfl⟩
        have HJ1 := Lib.hid hj1
        have HJ2 := Lib.hid hj2
        rcases o1 with ⟨rfl, rfl, b1⟩ | ⟨rfl, rfl, b1⟩
        · rcases o2 with ⟨rfl, rfl, b2⟩ | ⟨rfl, rfl, b2⟩
          · have k3 := rred_red hj1 hj2 (by omega) (by omega) h0
            obtain ⟨r, hr⟩ : ∃ r, Hid (r = rd V1 V2) := ⟨_, Lib.hid rfl⟩
            rw [← hr.out] at k3
            rw [show divA true true X Y Z W = r by rw [hr.out]; unfold divA; rw [← hN, ← hD, big_no b1, big_no b2]; simp [hz0]]
            clear hX hY hZ hW ha hb v1 v2 v3 v4 l1 l2 hr hN hD h0 b1 b2 hj1 hj2 hz hz0 hn2
            go_enter Tryd.func26, Tryd.ntmps26
            go_wp2_with (first
              | (go_at_call 20; first
          | ((with_reducible refine (c1 _ (S0.out.al3 _ _ _ _ _ _).c0 (S0.out.al3 _ _ _ _ _ _).c1).mono ?_); rintro e w1 ⟨rfl, hb⟩; have S1 := Lib.hid ((S0.out.al3 _ _ _ _ _ _).below hb); have u1 := S1.out.b1.fst; have u2 := S1.out.b1.snd; clear hb)
          | ((with_reducible refine (c2v _ S1.out.c2 S1.out.c3).mono ?_); rintro e w2 ⟨rfl, hb⟩; have S2 := Lib.hid (S1.out.below hb); have t1 := S2.out.b1.fst; have t2 := S2.out.b1.snd; have t3 := S2.out.b2.fst; have t4 := S2.out.b2.snd; clear hb u1 u2))
              | (go_at_call 48; first
                | ((with_reducible refine (k1 _ _ _ _ _ S2.out.c0 S2.out.c3).mono ?_); rintro e w3 ⟨A5, n5, c5, rfl, qq, hb⟩; obtain ⟨z, g1⟩ := num_at HJ1.out qq; subst z; have S3 := Lib.hid ((S2.out.below hb).addc g1); have y1 := fun o => (S3.out.alloc o).b1.fst; have y2 := fun o => (S3.out.alloc o).b1.snd; have y3 := fun o => (S3.out.alloc o).b2.fst; have y4 := fun o => (S3.out.alloc o).b2.snd; clear hb g1 qq t1 t2 t3 t4)
                | ((with_reducible refine (k2 _ _ _ _ _ (S3.out.al1 _ _).c2 (S3.out.al1 _ _).c3).mono ?_); rintro e w4 ⟨A6, n6, c6, rfl, qq, hb⟩; obtain ⟨z, g1⟩ := num_at HJ2.out qq; subst z; have S4 := Lib.hid (((S3.out.al1 _ _).below hb).addc g1); have y9 := fun o => (S4.out.alloc o).b0.one; clear hb g1 qq y1 y2 y3 y4))
              | (go_at_call 37; (with_reducible refine (k3 _ _ _ _ _ (S4.out.al1 _ _).c1 (S4.out.al1 _ _).c0).mono ?_); rintro e w5 ⟨A7, n7, c7, B7, m7, d7, rfl, q1, q2, hb⟩; have S5 := Lib.hid ((S4.out.al1 _ _).below hb); have Q1 := Lib.hid q1; have Q2 := Lib.hid q2; have z1 := S5.out.b2.fst; have z2 := S5.out.b2.snd; have f1 := S5.out.b2.free 0; have f2 := S5.out.b2.free 1; clear hb q1 q2 y9))
            have xs := two_set S5.out.b2 (.slice A7 n7 c7) (.slice B7 m7 d7)
            refine bodyPost_ret (v := .tuple #[.agg #[.slice A7 n7 c7, .slice B7 m7 d7], .int .i64 r.1]) (by simp [results, Tryd.results26, go_sem, xs.1, xs.2]) rfl ?_
            exact frp_set S5.out.b2 Q1.out Q2.out S5.out.bel (by simp; omega) _ _
          · rw [show divA true true X Y Z W = no 9 by unfold divA; rw [← hN, ← hD]; first | (rw [big_yes b1]; simp [hz0]) | (rw [big_yes b2, Bool.or_true]; simp [hz0])]
            clear hX hY hZ hW ha hb v1 v2 v3 v4 l1 l2 hN hD h0 b1 b2 hj1 hj2 hz hz0 hn2
            go_enter Tryd.func26, Tryd.ntmps26
            go_wp2_with (first
              | (go_at_call 20; first
          | ((with_reducible refine (c1 _ (S0.out.al3 _ _ _ _ _ _).c0 (S0.out.al3 _ _ _ _ _ _).c1).mono ?_); rintro e w1 ⟨rfl, hb⟩; have S1 := Lib.hid ((S0.out.al3 _ _ _ _ _ _).below hb); have u1 := S1.out.b1.fst; have u2 := S1.out.b1.snd; clear hb)
          | ((with_reducible refine (c2v _ S1.out.c2 S1.out.c3).mono ?_); rintro e w2 ⟨rfl, hb⟩; have S2 := Lib.hid (S1.out.below hb); have t1 := S2.out.b1.fst; have t2 := S2.out.b1.snd; have t3 := S2.out.b2.fst; have t4 := S2.out.b2.snd; clear hb u1 u2))
              | (go_at_call 48; first
                | ((with_reducible refine (k1 _ _ _ _ _ S2.out.c0 S2.out.c3).mono ?_); rintro e w3 ⟨A5, n5, c5, rfl, qq, hb⟩; obtain ⟨z, g1⟩ := num_at HJ1.out qq; subst z; have S3 := Lib.hid ((S2.out.below hb).addc g1); have y1 := fun o => (S3.out.alloc o).b1.fst; have y2 := fun o => (S3.out.alloc o).b1.snd; have y3 := fun o => (S3.out.alloc o).b2.fst; have y4 := fun o => (S3.out.alloc o).b2.snd; clear hb g1 qq t1 t2 t3 t4)
                | ((with_reducible refine (k2 _ _ _ _ _ (S3.out.al1 _ _).c2 (S3.out.al1 _ _).c3).mono ?_); rintro e w4 ⟨A6, n6, c6, rfl, qq, hb⟩; obtain ⟨z, g1⟩ := num_at HJ2.out qq; subst z; have S4 := Lib.hid (((S3.out.al1 _ _).below hb).addc g1); have z1 := fun o => (S4.out.alloc o).b1.fst; have z2 := fun o => (S4.out.alloc o).b1.snd; have f1 := fun o => (S4.out.alloc o).b1.free 0; have f2 := fun o => (S4.out.alloc o).b1.free 1; clear hb g1 qq y1 y2 y3 y4)))
            have S5 := Lib.hid (S4.out.al1 #[.slice A6 j2 c6] 24)
            have xs := two_set S5.out.b2 (.slice none 0 0) (.slice none 0 0)
            refine bodyPost_ret (v := .tuple #[.agg #[.slice none 0 0, .slice none 0 0], .int .i64 9]) (by simp [results, Tryd.results26, go_sem, xs.1, xs.2]) rfl ?_
            exact frp_set S5.out.b2 (Num.nil _) (Num.nil _) S5.out.bel (by simp; omega) _ _
        · rw [show divA true true X Y Z W = no 9 by unfold divA; rw [← hN, ← hD]; first | (rw [big_yes b1]; simp [hz0]) | (rw [big_yes b2, Bool.or_true]; simp [hz0])]
          clear hX hY hZ hW ha hb v1 v2 v3 v4 l1 l2 hN hD h0 b1 o2 hj1 hj2 hz hz0 hn2
          go_enter Tryd.func26, Tryd.ntmps26
          go_wp2_with (first
            | (go_at_call 20; first
          | ((with_reducible refine (c1 _ (S0.out.al3 _ _ _ _ _ _).c0 (S0.out.al3 _ _ _ _ _ _).c1).mono ?_); rintro e w1 ⟨rfl, hb⟩; have S1 := Lib.hid ((S0.out.al3 _ _ _ _ _ _).below hb); have u1 := S1.out.b1.fst; have u2 := S1.out.b1.snd; clear hb)
          | ((with_reducible refine (c2v _ S1.out.c2 S1.out.c3).mono ?_); rintro e w2 ⟨rfl, hb⟩; have S2 := Lib.hid (S1.out.below hb); have t1 := S2.out.b1.fst; have t2 := S2.out.b1.snd; have t3 := S2.out.b2.fst; have t4 := S2.out.b2.snd; clear hb u1 u2))
            | (go_at_call 48; first
                | ((with_reducible refine (k1 _ _ _ _ _ S2.out.c0 S2.out.c3).mono ?_); rintro e w3 ⟨A5, n5, c5, rfl, qq, hb⟩; obtain ⟨z, g1⟩ := num_at HJ1.out qq; subst z; have S3 := Lib.hid ((S2.out.below hb).addc g1); have y1 := fun o => (S3.out.alloc o).b1.fst; have y2 := fun o => (S3.out.alloc o).b1.snd; have y3 := fun o => (S3.out.alloc o).b2.fst; have y4 := fun o => (S3.out.alloc o).b2.snd; clear hb g1 qq t1 t2 t3 t4)
                | ((with_reducible refine (k2 _ _ _ _ _ (S3.out.al1 _ _).c2 (S3.out.al1 _ _).c3).mono ?_); rintro e w4 ⟨A6, n6, c6, rfl, qq, hb⟩; obtain ⟨z, g1⟩ := num_at HJ2.out qq; subst z; have S4 := Lib.hid (((S3.out.al1 _ _).below hb).addc g1); have z1 := fun o => (S4.out.alloc o).b1.fst; have z2 := fun o => (S4.out.alloc o).b1.snd; have f1 := fun o => (S4.out.alloc o).b1.free 0; have f2 := fun o => (S4.out.alloc o).b1.free 1; clear hb g1 qq y1 y2 y3 y4)))
          have S5 := Lib.hid (S4.out.al1 #[.slice A6 j2 c6] 24)
          have xs := two_set S5.out.b2 (.slice none 0 0) (.slice none 0 0)
          refine bodyPost_ret (v := .tuple #[.agg #[.slice none 0 0, .slice none 0 0], .int .i64 9]) (by simp [results, Tryd.results26, go_sem, xs.1, xs.2]) rfl ?_
          exact frp_set S5.out.b2 (Num.nil _) (Num.nil _) S5.out.bel (by simp; omega) _ _
end Go.Proofs.YtinceponggpioaaDoor.frV

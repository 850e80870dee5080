/-
  Contracts of reduce, Make, Of, Valid of the reference.
-/
import Derived.Test.YtinceponggpioaaDoorFrD
import Derived.Test.YtinceponggpioaaDoorNatGc
namespace Go.Proofs.YtinceponggpioaaDoor.frR
open Go.RowKit
open Go.Proofs.YtinceponggpioaaDoor.natM Go.Proofs.YtinceponggpioaaDoor.natA Go.Proofs.YtinceponggpioaaDoor.natB Go.Proofs.YtinceponggpioaaDoor.natC Go.Proofs.YtinceponggpioaaDoor.natD Go.Proofs.YtinceponggpioaaDoor.natE Go.Proofs.YtinceponggpioaaDoor.natF Go.Proofs.YtinceponggpioaaDoor.natG Go.Proofs.YtinceponggpioaaDoor.natH Go.Proofs.YtinceponggpioaaDoor.natI Go.Proofs.YtinceponggpioaaDoor.natJ Go.Proofs.YtinceponggpioaaDoor.natX Go.Proofs.YtinceponggpioaaDoor.natUi Go.Proofs.YtinceponggpioaaDoor.frM Go.Proofs.YtinceponggpioaaDoor.frA Go.Proofs.YtinceponggpioaaDoor.frB Go.Proofs.YtinceponggpioaaDoor.frC Go.Proofs.YtinceponggpioaaDoor.frD Go.Proofs.YtinceponggpioaaDoor.natR Go.Proofs.YtinceponggpioaaDoor.natS Go.Proofs.YtinceponggpioaaDoor.natT Go.Proofs.YtinceponggpioaaDoor.natY Go.Proofs.YtinceponggpioaaDoor.natZ Go.Proofs.YtinceponggpioaaDoor.natDm Go.Proofs.YtinceponggpioaaDoor.natGc
set_option linter.unusedVariables false

theorem rdiv_kit {n m X Y Q R : Nat} (h1 : valB n X = true) (h2 : valB m Y = true) (hy : 0 < Y) (hQ : Q = X / Y) (hR : R = X % Y) (A : Option Addr) (c : Nat) (D : Option Addr) (d : Nat) (w : World) (hI : Cel .u32 w A (dg 4294967296 n X)) (hJ : Cel .u32 w D (dg 4294967296 m Y)) :
    Calls Tryd.prog 52 #[.agg #[.slice A n c], .agg #[.slice D m d]] w (DivR Q R 0 w) := by
  have l1 := (valB_iff.1 h1).1
  have l2 := (valB_iff.1 h2).1
  have := rxdiv_any A D n c m d X Y (Lib.hid (val_lt h1)) (Lib.hid (val_lt h2)) (by omega) (by omega) w hI hJ
  have e : divQ n X m Y = Q ∧ divR n X m Y = R ∧ divE n X m Y = 0 := by
    unfold divQ divR divE; rw [h1, h2, hQ, hR]; have := d_ok (X := X) hy; exact ⟨this.2.1, this.2.2, this.1⟩
  rwa [e.1, e.2.1, e.2.2] at this
set_option maxRecDepth 4000 in
set_option maxHeartbeats 2000000 in
theorem rred_ok (A D : Option Addr) (n c m d X Y : Nat) (hX : Hid (X < 4294967296 ^ n)) (hY : Hid (Y < 4294967296 ^ m)) (ha : Hid (valB n X = true)) (hb : Hid (valB m Y = true)) (h0 : 0 < Y) (w : World) (hI : Cel .u32 w A (dg 4294967296 n X)) (hJ : Cel .u32 w D (dg 4294967296 m Y)) :
    Calls Tryd.prog 37 #[.agg #[.slice A n c], .agg #[.slice D m d]] w (FrP (rd X Y) w) := by
  have hn := (valB_iff.1 ha.out).1
  have hm := (valB_iff.1 hb.out).1
  have S0 := Lib.hid (((Kp.start w).addc hJ).addc hI)
  clear hI hJ
  obtain ⟨G, hG⟩ : ∃ G, G = Nat.gcd X Y := ⟨_, rfl⟩
  have hg0 : 0 < G := by rw [hG]; exact gcd_pos h0
  have hgl : nlen 4294967296 G ≤ 64 := by
    have h1 : nlen 4294967296 Y ≤ 64 := by have := (valB_iff.1 hb.out).2; omega
    exact Nat.le_trans (nlen_mono (by omega) (by rw [hG]; exact Nat.gcd_le_right _ h0)) h1
  have eG : gcdV n X m Y = G ∧ gcdE n X m Y = 0 := by unfold gcdV gcdE gV gE; simp [ha.out, hb.out, hG]
  have cg := fun w hI hJ => rxgcd_any A D n c m d X Y hX hY (by omega) (by omega) w hI hJ
  rw [eG.1, eG.2] at cg
  obtain ⟨k, hk⟩ : ∃ k, k = nlen 4294967296 G := ⟨_, rfl⟩
  have hkv : valB k G = true := valB_iff.2 ⟨by omega, hk.symm⟩
  obtain ⟨N, hN⟩ : ∃ N, N = X / G := ⟨_, rfl⟩
  obtain ⟨M, hM⟩ : ∃ M, M = Y / G := ⟨_, rfl⟩
  obtain ⟨R1, hR1⟩ : ∃ R, R = X % G := ⟨_, rfl⟩
  obtain ⟨R2, hR2⟩ : ∃ R, R = Y % G := ⟨_, rfl⟩
  have er : rd X Y = (0, N, M) := by unfold rd; rw [hN, hM, hG]
  rw [er]
  have c1 := rdiv_kit ha.out hkv hg0 hN hR1
  have c2 := rdiv_kit hb.out hkv hg0 hM hR2
  have HK := Lib.hid hk
  clear er hN hM hR1 hR2 hkv hgl hg0 eG hG hX hY ha hb h0 hk
  go_enter Tryd.func37, Tryd.ntmps37
  go_wp2_with (first
    | (go_at_call 42; (with_reducible refine (cg _ (S0.out.al3 _ _ _ _ _ _).c0 (S0.out.al3 _ _ _ _ _ _).c1).mono ?_); rintro e w1 ⟨B, k', g, rfl, q, hb⟩; obtain ⟨z, q2⟩ := num_at HK.out q; subst z; have S1 := Lib.hid (((S0.out.al3 _ _ _ _ _ _).below hb).addc q2); have x1 := fun o => (S1.out.alloc o).b2.one; clear hb q q2)
    | (go_at_call 52; first
      | ((with_reducible refine (c1 _ _ _ _ _ (S1.out.al1 _ _).c1 (S1.out.al1 _ _).c0).mono ?_); rintro e w2 ⟨A3, n3, d3, B3, m3, g3, rfl, q, q', hb⟩; have S2 := Lib.hid ((S1.out.al1 _ _).below hb); have Q3 := Lib.hid q; have y1 := fun o1 o2 => ((S2.out.alloc o1).alloc o2).b2.one; have y2 := fun o1 o2 => ((S2.out.alloc o1).alloc o2).b0.one; clear hb q q' x1)
      | ((with_reducible refine (c2 _ _ _ _ _ (S2.out.al2 _ _ _ _).c2 (S2.out.al2 _ _ _ _).c0).mono ?_); rintro e w3 ⟨A4, n4, d4, B4, m4, g4, rfl, q, q', hb⟩; have S3 := Lib.hid ((S2.out.al2 _ _ _ _).below hb); have Q4 := Lib.hid (num_below (num_al2 Q3.out _ _) hb); have QQ := Lib.hid q; have z0 := fun o1 o2 => ((S3.out.alloc o1).alloc o2).b1.one; have z1 := fun o1 o2 => ((S3.out.alloc o1).alloc o2).b3.fst; have z2 := fun o1 o2 => ((S3.out.alloc o1).alloc o2).b3.snd; have f1 := fun o1 o2 => ((S3.out.alloc o1).alloc o2).b3.free 0; have f2 := fun o1 o2 => ((S3.out.alloc o1).alloc o2).b3.free 1; clear hb q q' y1 y2)))
  have S4 := Lib.hid (S3.out.al2 #[.slice A4 n4 d4] #[.slice B4 m4 g4] 24 24)
  have xs := two_set S4.out.b5 (.slice A3 n3 d3) (.slice A4 n4 d4)
  refine bodyPost_ret (v := .tuple #[.agg #[.slice A3 n3 d3, .slice A4 n4 d4], .int .i64 0]) (by simp [results, Tryd.results37, go_sem, xs.1, xs.2]) rfl ?_
  exact frp_set S4.out.b5 (num_al2 Q4.out _ _) (num_al2 QQ.out _ _) S4.out.bel (by simp; omega) _ _
set_option maxRecDepth 4000 in
set_option maxHeartbeats 2000000 in
theorem rmake_any (A D : Option Addr) (n c m d X Y : Nat) (hX : Hid (X < 4294967296 ^ n)) (hY : Hid (Y < 4294967296 ^ m)) (hn : n ≤ 9223372036854775807) (hm : m ≤ 9223372036854775807) (w : World) (hI : Cel .u32 w A (dg 4294967296 n X)) (hJ : Cel .u32 w D (dg 4294967296 m Y)) :
    Calls Tryd.prog 14 #[.agg #[.slice A n c], .agg #[.slice D m d]] w (FrP (mkA (valB n X) (valB m Y) X Y) w) := by
  have S0 := Lib.hid (((Kp.start w).addc hJ).addc hI)
  clear hI hJ
  obtain ⟨a, ha⟩ : ∃ a, Hid (a = valB n X) := ⟨_, Lib.hid rfl⟩
  obtain ⟨b, hb⟩ : ∃ b, Hid (b = valB m Y) := ⟨_, Lib.hid rfl⟩
  rw [← ha.out, ← hb.out]
  have c1 := fun w hI => rvalid_any A n c X a hX ha hn w hI
  have c2 := fun w hI => rvalid_any D m d Y b hY hb hm w hI
  cases a with
  | false =>
    rw [show mkA false b X Y = no 2 from rfl]
    clear hX hY ha hb c2
    go_enter Tryd.func14, Tryd.ntmps14
    go_wp2_with (first
      | (go_at_call 36; (with_reducible refine (c1 _ (S0.out.al3 _ _ _ _ _ _).c0).mono ?_); rintro e w1 ⟨rfl, hb⟩; have S1 := Lib.hid ((S0.out.al3 _ _ _ _ _ _).below hb); have z1 := S1.out.b0.fst; have z2 := S1.out.b0.snd; have f1 := S1.out.b0.free 0; have f2 := S1.out.b0.free 1; clear hb))
    have xs := two_set S1.out.b0 (.slice none 0 0) (.slice none 0 0)
    refine bodyPost_ret (v := .tuple #[.agg #[.slice none 0 0, .slice none 0 0], .int .i64 2]) (by simp [results, Tryd.results14, go_sem, xs.1, xs.2]) rfl ?_
    exact frp_set S1.out.b0 (Num.nil _) (Num.nil _) S1.out.bel (by simp; omega) _ _
  | true =>
    cases b with
    | false =>
      rw [show mkA true false X Y = no 2 from rfl]
      clear hX hY ha hb
      go_enter Tryd.func14, Tryd.ntmps14
      go_wp2_with (first
        | (go_at_call 36; first
      | ((with_reducible refine (c1 _ (S0.out.al3 _ _ _ _ _ _).c0).mono ?_); rintro e w1 ⟨rfl, hb⟩; have S1 := Lib.hid ((S0.out.al3 _ _ _ _ _ _).below hb); have u1 := S1.out.b1.one; clear hb)
      | ((with_reducible refine (c2 _ S1.out.c1).mono ?_); rintro e w2 ⟨rfl, hb⟩; have S2 := Lib.hid (S1.out.below hb); have z1 := S2.out.b0.fst; have z2 := S2.out.b0.snd; have f1 := S2.out.b0.free 0; have f2 := S2.out.b0.free 1; clear hb u1)))
      have xs := two_set S2.out.b0 (.slice none 0 0) (.slice none 0 0)
      refine bodyPost_ret (v := .tuple #[.agg #[.slice none 0 0, .slice none 0 0], .int .i64 2]) (by simp [results, Tryd.results14, go_sem, xs.1, xs.2]) rfl ?_
      exact frp_set S2.out.b0 (Num.nil _) (Num.nil _) S2.out.bel (by simp; omega) _ _
    | true =>
      by_cases h0 : Y = 0
      · subst h0
        obtain rfl := val_zero hb.out.symm
        rw [show mkA true true X 0 = no 10 from rfl]
        clear hX hY ha hb
        go_enter Tryd.func14, Tryd.ntmps14
        go_wp2_with (first
          | (go_at_call 36; first
      | ((with_reducible refine (c1 _ (S0.out.al3 _ _ _ _ _ _).c0).mono ?_); rintro e w1 ⟨rfl, hb⟩; have S1 := Lib.hid ((S0.out.al3 _ _ _ _ _ _).below hb); have u1 := S1.out.b1.one; clear hb)
      | ((with_reducible refine (c2 _ S1.out.c1).mono ?_); rintro e w2 ⟨rfl, hb⟩; have S2 := Lib.hid (S1.out.below hb); have t1 := S2.out.b1.one; have z1 := S2.out.b0.fst; have z2 := S2.out.b0.snd; have f1 := S2.out.b0.free 0; have f2 := S2.out.b0.free 1; clear hb u1)))
        have xs := two_set S2.out.b0 (.slice none 0 0) (.slice none 0 0)
        refine bodyPost_ret (v := .tuple #[.agg #[.slice none 0 0, .slice none 0 0], .int .i64 10]) (by simp [results, Tryd.results14, go_sem, xs.1, xs.2]) rfl ?_
        exact frp_set S2.out.b0 (Num.nil _) (Num.nil _) S2.out.bel (by simp; omega) _ _
      · have hy : 0 < Y := by omega
        have hm0 : 0 < m := by
          have h1 := (valB_iff.1 hb.out.symm).2
          have := nlen_pos (B := 4294967296) (by omega) hy; omega
        have hm1 : ((m : Int) == 0) = false := by simp; omega
        have k := fun w hI hJ => rred_ok A D n c m d X Y hX hY (Lib.hid ha.out.symm) (Lib.hid hb.out.symm) hy w hI hJ
        obtain ⟨r, hr⟩ : ∃ r, Hid (r = rd X Y) := ⟨_, Lib.hid rfl⟩
        rw [← hr.out] at k
        rw [show mkA true true X Y = r by rw [hr.out]; unfold mkA; simp [h0]]
        clear hX hY ha hb hr h0 hy hm0
        go_enter Tryd.func14, Tryd.ntmps14
        go_wp2_with (first
          | (go_at_call 36; first
      | ((with_reducible refine (c1 _ (S0.out.al3 _ _ _ _ _ _).c0).mono ?_); rintro e w1 ⟨rfl, hb⟩; have S1 := Lib.hid ((S0.out.al3 _ _ _ _ _ _).below hb); have u1 := S1.out.b1.one; clear hb)
      | ((with_reducible refine (c2 _ S1.out.c1).mono ?_); rintro e w2 ⟨rfl, hb⟩; have S2 := Lib.hid (S1.out.below hb); have t1 := S2.out.b1.one; have t2 := S2.out.b2.one; clear hb u1))
          | (go_at_call 37; (with_reducible refine (k _ S2.out.c0 S2.out.c1).mono ?_); rintro e w3 ⟨A7, n7, c7, B7, m7, d7, rfl, q1, q2, hb⟩; have S3 := Lib.hid (S2.out.below hb); have Q1 := Lib.hid q1; have Q2 := Lib.hid q2; have z1 := S3.out.b0.fst; have z2 := S3.out.b0.snd; have f1 := S3.out.b0.free 0; have f2 := S3.out.b0.free 1; clear hb q1 q2))
        have xs := two_set S3.out.b0 (.slice A7 n7 c7) (.slice B7 m7 d7)
        refine bodyPost_ret (v := .tuple #[.agg #[.slice A7 n7 c7, .slice B7 m7 d7], .int .i64 r.1]) (by simp [results, Tryd.results14, go_sem, xs.1, xs.2]) rfl ?_
        exact frp_set S3.out.b0 Q1.out Q2.out S3.out.bel (by simp; omega) _ _
/-! ### Of -/
set_option maxRecDepth 4000 in
set_option maxHeartbeats 1000000 in
theorem rfof_neg (x y : Int) (h : x < 0 ∨ y < 0) (w : World) : Calls Tryd.prog 17 #[.int .i64 x, .int .i64 y] w (FrP (no 2) w) := by
  have S := Lib.hid ((Kp.start w).al1 #[.slice none 0 0, .slice none 0 0] 28)
  by_cases hx : x < 0
  · go_enter Tryd.func17, Tryd.ntmps17
    go_wp2_with fail
    refine bodyPost_ret (v := .tuple #[.agg #[.slice none 0 0, .slice none 0 0], .int .i64 2]) (by simp [results, Tryd.results17, go_sem, S.out.b0.fst, S.out.b0.snd]) rfl ?_
    exact ⟨none, 0, 0, none, 0, 0, rfl, Num.nil _, Num.nil _, S.out.bel⟩
  · have hy : y < 0 := by omega
    go_enter Tryd.func17, Tryd.ntmps17
    go_wp2_with fail
    refine bodyPost_ret (v := .tuple #[.agg #[.slice none 0 0, .slice none 0 0], .int .i64 2]) (by simp [results, Tryd.results17, go_sem, S.out.b0.fst, S.out.b0.snd]) rfl ?_
    exact ⟨none, 0, 0, none, 0, 0, rfl, Num.nil _, Num.nil _, S.out.bel⟩
set_option maxRecDepth 4000 in
set_option maxHeartbeats 1000000 in
theorem rfof_ok (x y : Nat) (hx : x ≤ 9223372036854775807) (hy : y ≤ 9223372036854775807) (w : World) : Calls Tryd.prog 17 #[.int .i64 (x : Int), .int .i64 (y : Int)] w (FrP (mkA true true x y) w) := by
  have S := Lib.hid ((Kp.start w).al1 #[.slice none 0 0, .slice none 0 0] 28)
  have wx : IntKind.u64.wrap (x : Int) = (x : Int) := IntWalk.u64_in _ (by omega)
  have wy : IntKind.u64.wrap (y : Int) = (y : Int) := IntWalk.u64_in _ (by omega)
  have c1 := fun w => rof_any x (by omega) w
  have c2 := fun w => rof_any y (by omega) w
  obtain ⟨n, hn⟩ : ∃ n, n = nlen 4294967296 x := ⟨_, rfl⟩
  obtain ⟨m, hm⟩ : ∃ n, n = nlen 4294967296 y := ⟨_, rfl⟩
  have ln := len_word (v := x) (by omega)
  have lm := len_word (v := y) (by omega)
  rw [← hn] at ln
  rw [← hm] at lm
  have c3 : ∀ A c D d w, n ≤ c → m ≤ d → Cel .u32 w A (dg 4294967296 n x) → Cel .u32 w D (dg 4294967296 m y) → Calls Tryd.prog 14 #[.agg #[.slice A n c], .agg #[.slice D m d]] w (FrP (mkA true true x y) w) := fun A c D d w hc hd hI hJ => by
    have := rmake_any A D n c m d x y (Lib.hid (by rw [hn]; exact nlen_lt (by omega) x)) (Lib.hid (by rw [hm]; exact nlen_lt (by omega) y)) (by omega) (by omega) w hI hJ
    rwa [show valB n x = true from valB_iff.2 ⟨by omega, hn.symm⟩, show valB m y = true from valB_iff.2 ⟨by omega, hm.symm⟩] at this
  have HN := Lib.hid hn
  have HM := Lib.hid hm
  clear hn hm ln lm
  have x0 : ¬ (x : Int) < 0 := by omega
  have y0 : ¬ (y : Int) < 0 := by omega
  go_enter Tryd.func17, Tryd.ntmps17
  go_wp2_with (first
    | (go_at_call 40; first
      | ((with_reducible refine (c1 _).mono ?_); rintro e w1 ⟨A, n', c, rfl, q, hb⟩; obtain ⟨z, q2⟩ := num_at HN.out q; subst z; have hc := q.2.1; have S1 := Lib.hid ((S.out.below hb).addc q2); clear hb q q2)
      | ((with_reducible refine (c2 _).mono ?_); rintro e w2 ⟨D, m', d, rfl, q, hb⟩; obtain ⟨z, q2⟩ := num_at HM.out q; subst z; have hd := q.2.1; have S2 := Lib.hid ((S1.out.below hb).addc q2); clear hb q q2))
    | (go_at_call 14; (with_reducible refine (c3 _ _ _ _ _ hc hd S2.out.c1 S2.out.c0).mono ?_); rintro e w3 ⟨A3, n3, d3, B3, m3, g3, rfl, q1, q2, hb⟩; have S3 := Lib.hid (S2.out.below hb); have Q1 := Lib.hid q1; have Q2 := Lib.hid q2; have x1 := S3.out.b0.fst; have x2 := S3.out.b0.snd; have f1 := S3.out.b0.free 0; have f2 := S3.out.b0.free 1; clear hb q1 q2))
  have xs := two_set S3.out.b0 (.slice A3 n3 d3) (.slice B3 m3 g3)
  refine bodyPost_ret (v := .tuple #[.agg #[.slice A3 n3 d3, .slice B3 m3 g3], .int .i64 (mkA true true x y).1]) (by simp [results, Tryd.results17, go_sem, xs.1, xs.2]) rfl ?_
  exact frp_set S3.out.b0 Q1.out Q2.out S3.out.bel (Nat.le_refl _) _ _
theorem rfof_any (x y : Int) (hx : x ≤ 9223372036854775807) (hy : y ≤ 9223372036854775807) (w : World) : Calls Tryd.prog 17 #[.int .i64 x, .int .i64 y] w (FrP (ofA x y) w) := by
  by_cases h : x < 0 ∨ y < 0
  · rw [show ofA x y = no 2 by unfold ofA; rw [if_pos h]]
    exact rfof_neg x y h w
  · obtain ⟨X, rfl⟩ := Int.eq_ofNat_of_zero_le (show 0 ≤ x by omega)
    obtain ⟨Y, rfl⟩ := Int.eq_ofNat_of_zero_le (show 0 ≤ y by omega)
    rw [show ofA (X : Int) (Y : Int) = mkA true true X Y by unfold ofA; rw [if_neg h]; rfl]
    exact rfof_ok X Y (by omega) (by omega) w
/-! ### Valid -/
set_option maxRecDepth 4000 in
set_option maxHeartbeats 2000000 in
theorem rvd_any (A D : Option Addr) (n c m d X Y : Nat) (hX : Hid (X < 4294967296 ^ n)) (hY : Hid (Y < 4294967296 ^ m)) (R : Bool) (hn : n ≤ 9223372036854775807) (hm : m ≤ 9223372036854775807) (hR : Hid (R = frB n X m Y)) (w : World) (hI : Cel .u32 w A (dg 4294967296 n X)) (hJ : Cel .u32 w D (dg 4294967296 m Y)) :
    Calls Tryd.prog 20 #[.agg #[.slice A n c, .slice D m d]] w fun e w' => e = .returned (.bool R) ∧ Below w.heap.size w w' := by
  have S0 := Lib.hid (((Kp.start w).addc hJ).addc hI)
  clear hI hJ
  have hr := hR.out
  clear hR
  unfold frB at hr
  obtain ⟨a, ha⟩ : ∃ a, Hid (a = valB n X) := ⟨_, Lib.hid rfl⟩
  obtain ⟨b, hb⟩ : ∃ b, Hid (b = valB m Y) := ⟨_, Lib.hid rfl⟩
  rw [← ha.out, ← hb.out] at hr
  have c1 := fun w hI => rvalid_any A n c X a hX ha hn w hI
  have c2 := fun w hI => rvalid_any D m d Y b hY hb hm w hI
  cases a with
  | false =>
    obtain rfl : R = false := hr
    clear hX hY ha hb c2
    go_enter Tryd.func20, Tryd.ntmps20
    go_wp2_with (first
      | (go_at_call 36; (with_reducible refine (c1 _ (S0.out.al1 _ _).c0).mono ?_); rintro e w1 ⟨rfl, hb⟩; have S1 := Lib.hid ((S0.out.al1 _ _).below hb); clear hb))
    go_ret
    exact ⟨rfl, S1.out.bel⟩
  | true =>
    cases b with
    | false =>
      obtain rfl : R = false := hr
      clear hX hY ha hb
      go_enter Tryd.func20, Tryd.ntmps20
      go_wp2_with (first
        | (go_at_call 36; first
      | ((with_reducible refine (c1 _ (S0.out.al1 _ _).c0).mono ?_); rintro e w1 ⟨rfl, hb⟩; have S1 := Lib.hid ((S0.out.al1 _ _).below hb); have u1 := S1.out.b0.snd; clear hb)
      | ((with_reducible refine (c2 _ S1.out.c1).mono ?_); rintro e w2 ⟨rfl, hb⟩; have S2 := Lib.hid (S1.out.below hb); clear hb u1)))
      go_ret
      exact ⟨rfl, S2.out.bel⟩
    | true =>
      by_cases h0 : Y = 0
      · subst h0
        obtain rfl := val_zero hb.out.symm
        obtain rfl : R = false := hr
        clear hX hY ha hb
        go_enter Tryd.func20, Tryd.ntmps20
        go_wp2_with (first
          | (go_at_call 36; first
      | ((with_reducible refine (c1 _ (S0.out.al1 _ _).c0).mono ?_); rintro e w1 ⟨rfl, hb⟩; have S1 := Lib.hid ((S0.out.al1 _ _).below hb); have u1 := S1.out.b0.snd; clear hb)
      | ((with_reducible refine (c2 _ S1.out.c1).mono ?_); rintro e w2 ⟨rfl, hb⟩; have S2 := Lib.hid (S1.out.below hb); have t1 := S2.out.b0.snd; clear hb u1)))
        go_ret
        exact ⟨rfl, S2.out.bel⟩
      · have h0' : 0 < Y := by omega
        have hm0 : 0 < m := by
          have h1 := (valB_iff.1 hb.out.symm).2
          have := nlen_pos (B := 4294967296) (by omega) h0'; omega
        have hm1 : ((m : Int) == 0) = false := by simp; omega
        have hn64 := (valB_iff.1 ha.out.symm).1
        have hm64 := (valB_iff.1 hb.out.symm).1
        obtain ⟨G, hG⟩ : ∃ G, G = Nat.gcd X Y := ⟨_, rfl⟩
        have hgl : nlen 4294967296 G ≤ 64 := by
          have h1 : nlen 4294967296 Y ≤ 64 := by have := (valB_iff.1 hb.out.symm).2; omega
          exact Nat.le_trans (nlen_mono (by omega) (by rw [hG]; exact Nat.gcd_le_right _ h0')) h1
        have eG : gcdV n X m Y = G ∧ gcdE n X m Y = 0 := by unfold gcdV gcdE gV gE; simp [← ha.out, ← hb.out, hG]
        have cg := fun w hI hJ => rxgcd_any A D n c m d X Y hX hY hn hm w hI hJ
        rw [eG.1, eG.2] at cg
        obtain ⟨k, hk⟩ : ∃ k, k = nlen 4294967296 G := ⟨_, rfl⟩
        have hkv : valB k G = true := valB_iff.2 ⟨by omega, hk.symm⟩
        have hGl : Hid (G < 4294967296 ^ k) := Lib.hid (by rw [hk]; exact nlen_lt (by omega) G)
        obtain ⟨j, hj⟩ : ∃ j, j = nlen 4294967296 1 := ⟨_, rfl⟩
        have hj1 : j = 1 := by rw [hj]; exact nlen_eq (n := 0) (by omega) (by omega) (by omega)
        have hjv : valB j 1 = true := valB_iff.2 ⟨by omega, hj.symm⟩
        have h1l : Hid (1 < 4294967296 ^ j) := Lib.hid (by rw [hj1]; omega)
        obtain ⟨C, hC⟩ : ∃ C, Hid (C = cmpV k G j 1) := ⟨_, Lib.hid rfl⟩
        have hCR : (C == 0) = R := by
          rw [hC.out, cmpV_ok hkv hjv, hr, ← hG, decide_eq_true h0']
          by_cases h : G = 1
          · subst h; rw [cmpI_eq rfl]; rfl
          · rw [beq_eq_false_iff_ne.2 (mt cmpI_zero.1 h), beq_eq_false_iff_ne.2 h]; rfl
        have co : ∀ w, Calls Tryd.prog 40 #[.int .u64 1] w (OfP 1 w) := fun w => rof_any 1 (by omega) w
        have cc : ∀ B g B2 g2 w, Cel .u32 w B (dg 4294967296 k G) → Cel .u32 w B2 (dg 4294967296 j 1) → Calls Tryd.prog 43 #[.agg #[.slice B k g], .agg #[.slice B2 j g2]] w fun e w' => e = .returned (.int .i64 C) ∧ Below w.heap.size w w' := fun B g B2 g2 w hI hJ => rcmpx_any B B2 k g j g2 G 1 C hGl h1l (by omega) (by omega) hC w hI hJ
        have HK := Lib.hid hk
        have HJ := Lib.hid hj
        clear hr hX hY ha hb h0 h0' hG hgl hm0 eG hk hkv hGl hj hj1 hjv h1l hC
        go_enter Tryd.func20, Tryd.ntmps20
        go_wp2_with (first
          | (go_at_call 36; first
      | ((with_reducible refine (c1 _ (S0.out.al1 _ _).c0).mono ?_); rintro e w1 ⟨rfl, hb⟩; have S1 := Lib.hid ((S0.out.al1 _ _).below hb); have u1 := S1.out.b0.snd; clear hb)
      | ((with_reducible refine (c2 _ S1.out.c1).mono ?_); rintro e w2 ⟨rfl, hb⟩; have S2 := Lib.hid (S1.out.below hb); have t1 := S2.out.b0.snd; have t2 := S2.out.b0.fst; clear hb u1))
          | (go_at_call 42; (with_reducible refine (cg _ S2.out.c0 S2.out.c1).mono ?_); rintro e w3 ⟨B, k', g, rfl, q, hb⟩; obtain ⟨z, q2⟩ := num_at HK.out q; subst z; have S3 := Lib.hid ((S2.out.below hb).addc q2); clear hb q q2 t1 t2))
        have S4 := Lib.hid (S3.out.al1 #[.slice B k g] 24)
        have x1 := S4.out.b0.one
        go_region_held3 (fun w' => w'.cell? ⟨w3.heap.size, 0, none⟩ = some (.slice B k g)) (go_keep)
          (first
            | (go_at_call 40; (with_reducible refine (co _).mono ?_); rintro e w4 ⟨B4, k4, g4, rfl, q, hb⟩; obtain ⟨z, q2⟩ := num_at HJ.out q; subst z; have S5 := Lib.hid ((S4.out.drew.below hb).addc q2); have z1 := S5.out.b0.one; clear hb q q2)
            | (go_at_call 43; (with_reducible refine (cc _ _ _ _ _ S5.out.c1 S5.out.c0).mono ?_); rintro e w5 ⟨rfl, hb⟩; have S6 := Lib.hid (S5.out.below hb); have u1 := S6.out.b0.one; clear hb))
        go_wp2_with fail
        all_goals go_ret
        all_goals exact ⟨rfl, S6.out.bel⟩
end Go.Proofs.YtinceponggpioaaDoor.frR

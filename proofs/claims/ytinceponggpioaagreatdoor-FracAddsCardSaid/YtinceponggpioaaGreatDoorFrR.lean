/-
  Contracts of reduce, Make, Of, Valid of the reference.
-/
import Derived.Test.YtinceponggpioaaGreatDoorFrD
import Derived.Test.YtinceponggpioaaGreatDoorNatGc
namespace Go.Proofs.YtinceponggpioaaGreatDoor.frR
open Go.RowKit
open Go.Proofs.YtinceponggpioaaGreatDoor.natM Go.Proofs.YtinceponggpioaaGreatDoor.natA Go.Proofs.YtinceponggpioaaGreatDoor.natB Go.Proofs.YtinceponggpioaaGreatDoor.natC Go.Proofs.YtinceponggpioaaGreatDoor.natD Go.Proofs.YtinceponggpioaaGreatDoor.natE Go.Proofs.YtinceponggpioaaGreatDoor.natF Go.Proofs.YtinceponggpioaaGreatDoor.natG Go.Proofs.YtinceponggpioaaGreatDoor.natH Go.Proofs.YtinceponggpioaaGreatDoor.natI Go.Proofs.YtinceponggpioaaGreatDoor.natJ Go.Proofs.YtinceponggpioaaGreatDoor.natX Go.Proofs.YtinceponggpioaaGreatDoor.natUi Go.Proofs.YtinceponggpioaaGreatDoor.frM Go.Proofs.YtinceponggpioaaGreatDoor.frA Go.Proofs.YtinceponggpioaaGreatDoor.frB Go.Proofs.YtinceponggpioaaGreatDoor.frC Go.Proofs.YtinceponggpioaaGreatDoor.frD Go.Proofs.YtinceponggpioaaGreatDoor.natR Go.Proofs.YtinceponggpioaaGreatDoor.natS Go.Proofs.YtinceponggpioaaGreatDoor.natT Go.Proofs.YtinceponggpioaaGreatDoor.natY Go.Proofs.YtinceponggpioaaGreatDoor.natZ Go.Proofs.YtinceponggpioaaGreatDoor.natDm Go.Proofs.YtinceponggpioaaGreatDoor.natGc
set_option linter.unusedVariables false

theorem rdiv_kit {n m X Y Q R : Nat} (h1 : valB n X = true) (h2 : valB m Y = true) (hy : 0 < Y) (hQ : Q = X / Y) (hR : R = X % Y) (A : Option Addr) (c : Nat) (D : Option Addr) (d : Nat) (w : World) (hI : Cel .u32 w A (dg 4294967296 n X)) (hJ : Cel .u32 w D (dg 4294967296 m Y)) :
    Calls Tryz.prog 52 #[.agg #[.slice A n c], .agg #[.slice D m d]] w (DivR Q R 0 w) := by
  have l1 := (valB_iff.1 h1).1
  have l2 := (valB_iff.1 h2).1
  have := rxdiv_any A D n c m d X Y (Lib.hid (val_lt h1)) (Lib.hid (val_lt h2)) (by omega) (by omega) w hI hJ
  have e : divQ n X m Y = Q ∧ divR n X m Y = R ∧ divE n X m Y = 0 := by
    unfold divQ divR divE; rw [h1, h2, hQ, hR]; have := d_ok (X := X) hy; exact ⟨this.2.1, this.2.2, this.1⟩
  rwa [e.1, e.2.1, e.2.2] at this
set_option maxRecDepth 4000 in
set_option maxHeartbeats 2000000 in
theorem rred_ok (A D : Option Addr) (n c m d X Y : Nat) (hX : Hid (X < 4294967296 ^ n)) (hY : Hid (Y < 4294967296 ^ m)) (ha : Hid (valB n X = true)) (hb : Hid (valB m Y = true)) (h0 : 0 < Y) (w : World) (hI : Cel .u32 w A (dg 4294967296 n X)) (hJ : Cel .u32 w D (dg 4294967296 m Y)) :
    Calls Tryz.prog 24 #[.agg #[.slice A n c], .agg #[.slice D m d]] w (FrP (rd X Y) w) := by
  have hn := (valB_iff.1 ha.out).1
  have hm := (valB_iff.1 hb.out).1
  have S0 := Lib.hid (((Kp.start w).addc hJ).addc hI)
  clear hI hJ
  obtain ⟨G, hG⟩ : ∃ G, G = Nat.gcd X Y := ⟨_, rfl⟩
  have hg0 : 0 < G := by rw [hG]; exact gcd_pos h0
  have hgl : nlen 4294967296 G ≤ 64 := by
    have h1 : nlen 4294967296 Y ≤ 64 := by have := (valB_iff.1 hb.out).2; omega
    exact Nat.le_trans (nlen_mono (by omega) (by rw [hG]; exact Nat.gcd_le_right _ h0)) h1
  have eG : gcdV n X m Y = G ∧ gcdE n X m Y = 0 := by unfold gcdV gcdE gV gE; simp [ha.out, hb.out, hG]
  have cg := fun w hI hJ => rxgcd_any A D n c m d X Y hX hY (by omega) (by omega) w hI hJ
  rw [eG.1, eG.2] at cg
  obtain ⟨k, hk⟩ : ∃ k, k = nlen 4294967296 G := ⟨_, rfl⟩
  have hkv : valB k G = true := valB_iff.2 ⟨by omega, hk.symm⟩
  obtain ⟨N, hN⟩ : ∃ N, N = X / G := ⟨_, rfl⟩
  obtain ⟨M, hM⟩ : ∃ M, M = Y / G := ⟨_, rfl⟩
  obtain ⟨R1, hR1⟩ : ∃ R, R = X % G := ⟨_, rfl⟩
  obtain ⟨R2, hR2⟩ : ∃ R, R = Y % G := ⟨_, rfl⟩
  have er : rd X Y = (0, N, M) := by unfold rd; rw [hN, hM, hG]
  rw [er]
  have c1 := rdiv_kit ha.out hkv hg0 hN hR1
  have c2 := rdiv_kit hb.out hkv hg0 hM hR2
  have HK := Lib.hid hk
  clear er hN hM hR1 hR2 hkv hgl hg0 eG hG hX hY ha hb h0 hk
  go_enter Tryz.func24, Tryz.ntmps24
  go_wp2_with (first
    | (go_at_call 45; (with_reducible refine (cg _ (S0.out.al3 _ _ _ _ _ _).c0 (S0.out.al3 _ _ _ _ _ _).c1).mono ?_); rintro e w1 ⟨B, k', g, rfl, q, hb⟩; obtain ⟨z, q2⟩ := num_at HK.out q; subst z; have S1 := Lib.hid (((S0.out.al3 _ _ _ _ _ _).below hb).addc q2); have x1 := fun o => (S1.out.alloc o).b2.one; clear hb q q2)
    | (go_at_call 52; first
      | ((with_reducible refine (c1 _ _ _ _ _ (S1.out.al1 _ _).c1 (S1.out.al1 _ _).c0).mono ?_); rintro e w2 ⟨A3, n3, d3, B3, m3, g3, rfl, q, q', hb⟩; have S2 := Lib.hid ((S1.out.al1 _ _).below hb); have Q3 := Lib.hid q; have y1 := fun o1 o2 => ((S2.out.alloc o1).alloc o2).b2.one; have y2 := fun o1 o2 => ((S2.out.alloc o1).alloc o2).b0.one; clear hb q q' x1)
      | ((with_reducible refine (c2 _ _ _ _ _ (S2.out.al2 _ _ _ _).c2 (S2.out.al2 _ _ _ _).c0).mono ?_); rintro e w3 ⟨A4, n4, d4, B4, m4, g4, rfl, q, q', hb⟩; have S3 := Lib.hid ((S2.out.al2 _ _ _ _).below hb); have Q4 := Lib.hid (num_below (num_al2 Q3.out _ _) hb); have QQ := Lib.hid q; have z0 := fun o1 o2 => ((S3.out.alloc o1).alloc o2).b1.one; have z1 := fun o1 o2 => ((S3.out.alloc o1).alloc o2).b3.fst; have z2 := fun o1 o2 => ((S3.out.alloc o1).alloc o2).b3.snd; have f1 := fun o1 o2 => ((S3.out.alloc o1).alloc o2).b3.free 0; have f2 := fun o1 o2 => ((S3.out.alloc o1).alloc o2).b3.free 1; clear hb q q' y1 y2)))
  have S4 := Lib.hid (S3.out.al2 #[.slice A4 n4 d4] #[.slice B4 m4 g4] 24 24)
  have xs := two_set S4.out.b5 (.slice A3 n3 d3) (.slice A4 n4 d4)
  refine bodyPost_ret (v := .tuple #[.agg #[.slice A3 n3 d3, .slice A4 n4 d4], .int .i64 0]) (by simp [results, Tryz.results24, go_sem, xs.1, xs.2]) rfl ?_
  exact frp_set S4.out.b5 (num_al2 Q4.out _ _) (num_al2 QQ.out _ _) S4.out.bel (by simp; omega) _ _
/-! ### Of -/
/-! ### Valid -/
set_option maxRecDepth 4000 in
set_option maxHeartbeats 2000000 in
theorem rvd_any (A D : Option Addr) (n c m d X Y : Nat) (hX : Hid (X < 4294967296 ^ n)) (hY : Hid (Y < 4294967296 ^ m)) (R : Bool) (hn : n ≤ 9223372036854775807) (hm : m ≤ 9223372036854775807) (hR : Hid (R = frB n X m Y)) (w : World) (hI : Cel .u32 w A (dg 4294967296 n X)) (hJ : Cel .u32 w D (dg 4294967296 m Y)) :
    Calls Tryz.prog 21 #[.agg #[.slice A n c, .slice D m d]] w fun e w' => e = .returned (.bool R) ∧ Below w.heap.size w w' := by
  have S0 := Lib.hid (((Kp.start w).addc hJ).addc hI)
  clear hI hJ
  have hr := hR.out
  clear hR
  unfold frB at hr
  obtain ⟨a, ha⟩ : ∃ a, Hid (a = valB n X) := ⟨_, Lib.hid rfl⟩
  obtain ⟨b, hb⟩ : ∃ b, Hid (b = valB m Y) := ⟨_, Lib.hid rfl⟩
  rw [← ha.out, ← hb.out] at hr
  have c1 := fun w hI => rvalid_any A n c X a hX ha hn w hI
  have c2 := fun w hI => rvalid_any D m d Y b hY hb hm w hI
  cases a with
  | false =>
    obtain rfl : R = false := hr
    clear hX hY ha hb c2
    go_enter Tryz.func21, Tryz.ntmps21
    go_wp2_with (first
      | (go_at_call 44; (with_reducible refine (c1 _ (S0.out.al1 _ _).c0).mono ?_); rintro e w1 ⟨rfl, hb⟩; have S1 := Lib.hid ((S0.out.al1 _ _).below hb); clear hb))
    go_ret
    exact ⟨rfl, S1.out.bel⟩
  | true =>
    cases b with
    | false =>
      obtain rfl : R = false := hr
      clear hX hY ha hb
      go_enter Tryz.func21, Tryz.ntmps21
      go_wp2_with (first
        | (go_at_call 44; first
      | ((with_reducible refine (c1 _ (S0.out.al1 _ _).c0).mono ?_); rintro e w1 ⟨rfl, hb⟩; have S1 := Lib.hid ((S0.out.al1 _ _).below hb); have u1 := S1.out.b0.snd; clear hb)
      | ((with_reducible refine (c2 _ S1.out.c1).mono ?_); rintro e w2 ⟨rfl, hb⟩; have S2 := Lib.hid (S1.out.below hb); clear hb u1)))
      go_ret
      exact ⟨rfl, S2.out.bel⟩
    | true =>
      by_cases h0 : Y = 0
      · subst h0
        obtain rfl := val_zero hb.out.symm
        obtain rfl : R = false := hr
        clear hX hY ha hb
        go_enter Tryz.func21, Tryz.ntmps21
        go_wp2_with (first
          | (go_at_call 44; first
      | ((with_reducible refine (c1 _ (S0.out.al1 _ _).c0).mono ?_); rintro e w1 ⟨rfl, hb⟩; have S1 := Lib.hid ((S0.out.al1 _ _).below hb); have u1 := S1.out.b0.snd; clear hb)
      | ((with_reducible refine (c2 _ S1.out.c1).mono ?_); rintro e w2 ⟨rfl, hb⟩; have S2 := Lib.hid (S1.out.below hb); have t1 := S2.out.b0.snd; clear hb u1)))
        go_ret
        exact ⟨rfl, S2.out.bel⟩
      · have h0' : 0 < Y := by omega
        have hm0 : 0 < m := by
          have h1 := (valB_iff.1 hb.out.symm).2
          have := nlen_pos (B := 4294967296) (by omega) h0'; omega
        have hm1 : ((m : Int) == 0) = false := by simp; omega
        have hn64 := (valB_iff.1 ha.out.symm).1
        have hm64 := (valB_iff.1 hb.out.symm).1
        obtain ⟨G, hG⟩ : ∃ G, G = Nat.gcd X Y := ⟨_, rfl⟩
        have hgl : nlen 4294967296 G ≤ 64 := by
          have h1 : nlen 4294967296 Y ≤ 64 := by have := (valB_iff.1 hb.out.symm).2; omega
          exact Nat.le_trans (nlen_mono (by omega) (by rw [hG]; exact Nat.gcd_le_right _ h0')) h1
        have eG : gcdV n X m Y = G ∧ gcdE n X m Y = 0 := by unfold gcdV gcdE gV gE; simp [← ha.out, ← hb.out, hG]
        have cg := fun w hI hJ => rxgcd_any A D n c m d X Y hX hY hn hm w hI hJ
        rw [eG.1, eG.2] at cg
        obtain ⟨k, hk⟩ : ∃ k, k = nlen 4294967296 G := ⟨_, rfl⟩
        have hkv : valB k G = true := valB_iff.2 ⟨by omega, hk.symm⟩
        have hGl : Hid (G < 4294967296 ^ k) := Lib.hid (by rw [hk]; exact nlen_lt (by omega) G)
        obtain ⟨j, hj⟩ : ∃ j, j = nlen 4294967296 1 := ⟨_, rfl⟩
        have hj1 : j = 1 := by rw [hj]; exact nlen_eq (n := 0) (by omega) (by omega) (by omega)
        have hjv : valB j 1 = true := valB_iff.2 ⟨by omega, hj.symm⟩
        have h1l : Hid (1 < 4294967296 ^ j) := Lib.hid (by rw [hj1]; omega)
        obtain ⟨C, hC⟩ : ∃ C, Hid (C = cmpV k G j 1) := ⟨_, Lib.hid rfl⟩
        have hCR : (C == 0) = R := by
          rw [hC.out, cmpV_ok hkv hjv, hr, ← hG, decide_eq_true h0']
          by_cases h : G = 1
          · subst h; rw [cmpI_eq rfl]; rfl
          · rw [beq_eq_false_iff_ne.2 (mt cmpI_zero.1 h), beq_eq_false_iff_ne.2 h]; rfl
        have co : ∀ w, Calls Tryz.prog 47 #[.int .u64 1] w (OfP 1 w) := fun w => rof_any 1 (by omega) w
        have cc : ∀ B g B2 g2 w, Cel .u32 w B (dg 4294967296 k G) → Cel .u32 w B2 (dg 4294967296 j 1) → Calls Tryz.prog 46 #[.agg #[.slice B k g], .agg #[.slice B2 j g2]] w fun e w' => e = .returned (.int .i64 C) ∧ Below w.heap.size w w' := fun B g B2 g2 w hI hJ => rcmpx_any B B2 k g j g2 G 1 C hGl h1l (by omega) (by omega) hC w hI hJ
        have HK := Lib.hid hk
        have HJ := Lib.hid hj
        clear hr hX hY ha hb h0 h0' hG hgl hm0 eG hk hkv hGl hj hj1 hjv h1l hC
        go_enter Tryz.func21, Tryz.ntmps21
        go_wp2_with (first
          | (go_at_call 44; first
      | ((with_reducible refine (c1 _ (S0.out.al1 _ _).c0).mono ?_); rintro e w1 ⟨rfl, hb⟩; have S1 := Lib.hid ((S0.out.al1 _ _).below hb); have u1 := S1.out.b0.snd; clear hb)
      | ((with_reducible refine (c2 _ S1.out.c1).mono ?_); rintro e w2 ⟨rfl, hb⟩; have S2 := Lib.hid (S1.out.below hb); have t1 := S2.out.b0.snd; have t2 := S2.out.b0.fst; clear hb u1))
          | (go_at_call 45; (with_reducible refine (cg _ S2.out.c0 S2.out.c1).mono ?_); rintro e w3 ⟨B, k', g, rfl, q, hb⟩; obtain ⟨z, q2⟩ := num_at HK.out q; subst z; have S3 := Lib.hid ((S2.out.below hb).addc q2); clear hb q q2 t1 t2))
        have S4 := Lib.hid (S3.out.al1 #[.slice B k g] 24)
        have x1 := S4.out.b0.one
        go_region_held3 (fun w' => w'.cell? ⟨w3.heap.size, 0, none⟩ = some (.slice B k g)) (go_keep)
          (first
            | (go_at_call 47; (with_reducible refine (co _).mono ?_); rintro e w4 ⟨B4, k4, g4, rfl, q, hb⟩; obtain ⟨z, q2⟩ := num_at HJ.out q; subst z; have S5 := Lib.hid ((S4.out.drew.below hb).addc q2); have z1 := S5.out.b0.one; clear hb q q2)
            | (go_at_call 46; (with_reducible refine (cc _ _ _ _ _ S5.out.c1 S5.out.c0).mono ?_); rintro e w5 ⟨rfl, hb⟩; have S6 := Lib.hid (S5.out.below hb); have u1 := S6.out.b0.one; clear hb))
        go_wp2_with fail
        all_goals go_ret
        all_goals exact ⟨rfl, S6.out.bel⟩
end Go.Proofs.YtinceponggpioaaGreatDoor.frR

/-
  The laws of divisors, of what a quotient divides, of the ring.
-/
import Derived.Test.YtjbckijeobmoeaaNatLc
namespace Go.Proofs.Ytjbckijeobmoeaa.natLd
open Go.RowKit
open Go.Proofs.Ytjbckijeobmoeaa.natM Go.Proofs.Ytjbckijeobmoeaa.natA Go.Proofs.Ytjbckijeobmoeaa.natB Go.Proofs.Ytjbckijeobmoeaa.natC Go.Proofs.Ytjbckijeobmoeaa.natD Go.Proofs.Ytjbckijeobmoeaa.natE Go.Proofs.Ytjbckijeobmoeaa.natF Go.Proofs.Ytjbckijeobmoeaa.natG Go.Proofs.Ytjbckijeobmoeaa.natH Go.Proofs.Ytjbckijeobmoeaa.natI Go.Proofs.Ytjbckijeobmoeaa.natJ Go.Proofs.Ytjbckijeobmoeaa.natR Go.Proofs.Ytjbckijeobmoeaa.natS Go.Proofs.Ytjbckijeobmoeaa.natT Go.Proofs.Ytjbckijeobmoeaa.natX Go.Proofs.Ytjbckijeobmoeaa.natUi Go.Proofs.Ytjbckijeobmoeaa.natY Go.Proofs.Ytjbckijeobmoeaa.natZ Go.Proofs.Ytjbckijeobmoeaa.natDm Go.Proofs.Ytjbckijeobmoeaa.natGc Go.Proofs.Ytjbckijeobmoeaa.natLa Go.Proofs.Ytjbckijeobmoeaa.natLb Go.Proofs.Ytjbckijeobmoeaa.natLc
set_option linter.unusedVariables false

theorem val_of {M V : Nat} (hM : M = nlen 4294967296 V) (h : nlen 4294967296 V ≤ 64) : valB M V = true := valB_iff.2 ⟨by omega, hM.symm⟩
theorem lt_of {M V : Nat} (hM : M = nlen 4294967296 V) : V < 4294967296 ^ M := by rw [hM]; exact nlen_lt (by omega) V
theorem add_is {n X m Y : Nat} (hx : valB n X = true) (hy : valB m Y = true) (h : nlen 4294967296 (X + Y) ≤ 64) : addE n X m Y = 0 ∧ addV n X m Y = X + Y := by
  unfold addE addV; rw [hx, hy]; exact r_ok h
theorem mul_is {n X m Y : Nat} (hx : valB n X = true) (hy : valB m Y = true) (h : nlen 4294967296 (X * Y) ≤ 64) : mulE n X m Y = 0 ∧ mulV n X m Y = X * Y := by
  unfold mulE mulV; rw [hx, hy]; exact r_ok h
theorem sub_is {n X m Y : Nat} (hx : valB n X = true) (hy : valB m Y = true) (h : Y ≤ X) : subE n X m Y = 0 ∧ subV n X m Y = X - Y := by
  unfold subE subV; rw [hx, hy]; exact s_ok h
theorem div_is {n X m Y : Nat} (hx : valB n X = true) (hy : valB m Y = true) (h : 0 < Y) : divE n X m Y = 0 ∧ divQ n X m Y = X / Y ∧ divR n X m Y = X % Y := by
  unfold divE divQ divR; rw [hx, hy]; exact d_ok h
theorem rE_zero {a b : Bool} {V : Nat} (h : rE a b V = 0) : a = true ∧ b = true ∧ nlen 4294967296 V ≤ 64 := by
  unfold rE at h; split at h
  · rename_i hab; split at h
    · rename_i hl; exact ⟨hab.1, hab.2, hl⟩
    · cases h
  · cases h
theorem gcd_zero_e {n X m Y : Nat} (h : gcdE n X m Y = 0) : valB n X = true ∧ valB m Y = true ∧ gcdV n X m Y = Nat.gcd X Y := by
  unfold gcdE gE at h
  split at h
  · rename_i hab
    refine ⟨hab.1, hab.2, ?_⟩
    unfold gcdV; rw [hab.1, hab.2]; exact g_ok.2
  · cases h
theorem len_zero : 0 = nlen 4294967296 0 := (nlen_zero _).symm

set_option maxHeartbeats 4000000 in
theorem divisors_some (A D : Option Addr) (n c m d X Y : Nat) (hX : Hid (X < 4294967296 ^ n)) (hY : Hid (Y < 4294967296 ^ m)) (hnc : n ≤ c) (hmd : m ≤ d) (hn : n ≤ 9223372036854775807) (hm : m ≤ 9223372036854775807) (h70 : n ≤ 70) (g70 : m ≤ 70) (hok : Hid (gcdE n X m Y = 0)) (hsome : Hid (gcdV n X m Y ≠ 0)) (w : World) (hIp0 : Cel .u32 w A (dg 4294967296 n X)) (hIp1 : Cel .u32 w D (dg 4294967296 m Y)) :
    Calls Try.prog 8 #[.agg #[.slice A n c], .agg #[.slice D m d]] w fun e w' => e = .returned (.bool true) ∧ Below w.heap.size w w' := by
  obtain ⟨ha, hb, hg⟩ := gcd_zero_e hok.out
  obtain ⟨Vc, hVc⟩ : ∃ V, Hid (V = gcdV n X m Y) := ⟨_, Lib.hid rfl⟩
  obtain ⟨Mc, Nc⟩ : ∃ N, Hid (N = nlen 4294967296 Vc) := ⟨_, Lib.hid rfl⟩
  have Sc : nlen 4294967296 Vc ≤ 64 := by rw [hVc.out]; exact gcdV_len _ _ _ _
  have Tc : valB Mc Vc = true := val_of Nc.out Sc
  have Lc : Hid (Vc < 4294967296 ^ Mc) := Lib.hid (lt_of Nc.out)
  have Gc : Mc ≤ 9223372036854775807 := by rw [Nc.out]; omega
  have hpos : 0 < Vc := by rw [hVc.out]; have := hsome.out; omega
  have hgc : Vc = Nat.gcd X Y := by rw [hVc.out, hg]
  have hdx : X % Vc = 0 := by rw [hgc]; exact Nat.mod_eq_zero_of_dvd (Nat.gcd_dvd_left X Y)
  have hdy : Y % Vc = 0 := by rw [hgc]; exact Nat.mod_eq_zero_of_dvd (Nat.gcd_dvd_right X Y)
  have tL : (Mc == 0) = false := by
    have h0 := nlen_pos (B := 4294967296) (by omega) hpos
    have h1 : Mc ≠ 0 := by rw [Nc.out]; omega
    simpa using h1
  have tL2 : decide ((Mc : Int) = 0) = false := by
    have h0 := nlen_pos (B := 4294967296) (by omega) hpos
    have h1 : Mc ≠ 0 := by rw [Nc.out]; omega
    simp; omega
  have tL3 : ((Mc : Int) == 0) = false := by simpa using tL2
  obtain ⟨Vq, hVq⟩ : ∃ V, Hid (V = X / Vc) := ⟨_, Lib.hid rfl⟩
  obtain ⟨Mq, Nq⟩ : ∃ N, Hid (N = nlen 4294967296 Vq) := ⟨_, Lib.hid rfl⟩
  obtain ⟨Vs, hVs⟩ : ∃ V, Hid (V = Y / Vc) := ⟨_, Lib.hid rfl⟩
  obtain ⟨Ms, Ns⟩ : ∃ N, Hid (N = nlen 4294967296 Vs) := ⟨_, Lib.hid rfl⟩
  have Nz : Hid (0 = nlen 4294967296 0) := Lib.hid len_zero
  have e1 := div_is ha Tc hpos
  have e2 := div_is hb Tc hpos
  rw [hdx, ← hVq.out] at e1
  rw [hdy, ← hVs.out] at e2
  have k1 : ∀ A c D d w, Calls Try.prog 28 #[.agg #[.slice A n c], .agg #[.slice D m d]] w fun e w' => e = .returned (.bool true) ∧ Below w.heap.size w w' := fun A c D d w => few_yes A D n c m d h70 g70 w
  have k2 : ∀ (_A : Option Addr) (_c : Nat) (_D : Option Addr) (_d : Nat) w, Cel .u32 w A (dg 4294967296 n X) → Cel .u32 w D (dg 4294967296 m Y) → Calls Try.prog 33 #[.agg #[.slice A n c], .agg #[.slice D m d]] w (ResP Vc 0 w) := fun _ _ _ _ w hI hJ => by
    rw [hVc.out, ← hok.out]; exact gcd_any A D n c m d X Y hX hY hnc hmd hn hm w hI hJ
  have k3 : ∀ (_A : Option Addr) (_c : Nat) (_D : Option Addr) (_d : Nat) w, Cel .u32 w A (dg 4294967296 n X) → Cel .u32 w D (dg 4294967296 m Y) → Calls Try.prog 34 #[.agg #[.slice A n c], .agg #[.slice D m d]] w (ResP Vc 0 w) := fun _ _ _ _ w hI hJ => by
    rw [hVc.out, ← hok.out]; exact rxgcd_any A D n c m d X Y hX hY hn hm w hI hJ
  have k4 : ∀ A c D d w, Cel .u32 w A (dg 4294967296 Mc Vc) → Cel .u32 w D (dg 4294967296 Mc Vc) → Calls Try.prog 13 #[.agg #[.slice A Mc c], .agg #[.slice D Mc d]] w fun e w' => e = .returned (.bool true) ∧ Below w.heap.size w w' := fun A c D d w hI hJ =>
    same_any A D Mc c d Vc Gc w hI hJ
  have k5 : ∀ A c D d w, Cel .u32 w A (dg 4294967296 n X) → Cel .u32 w D (dg 4294967296 Mc Vc) → Calls Try.prog 30 #[.agg #[.slice A n c], .agg #[.slice D Mc d]] w (DivR Vq 0 0 w) := fun A c D d w hI hJ => by
    have cc := divmod_any A D n c Mc d X Vc (hX) (Lc) (hn) (Gc) w hI hJ
    rw [e1.1, e1.2.1, e1.2.2] at cc
    exact cc
  have k6 : ∀ A c D d w, Cel .u32 w A (dg 4294967296 m Y) → Cel .u32 w D (dg 4294967296 Mc Vc) → Calls Try.prog 30 #[.agg #[.slice A m c], .agg #[.slice D Mc d]] w (DivR Vs 0 0 w) := fun A c D d w hI hJ => by
    have cc := divmod_any A D m c Mc d Y Vc (hY) (Lc) (hm) (Gc) w hI hJ
    rw [e2.1, e2.2.1, e2.2.2] at cc
    exact cc
  have k7 := common_any
  clear hX hY hVc hok hsome hg hgc hdx hdy hVq hVs e1 e2 Sc Tc Lc hpos ha hb
  have Cp0_0 := Lib.hid hIp0
  clear hIp0
  have Cp1_0 := Lib.hid hIp1
  clear hIp1
  go_enter Try.func8, Try.ntmps8
  go_wp2_with (first
    | (go_at_call 28; (with_reducible refine (k1 A c D d _ ).mono ?_); rintro e w1 ⟨rfl, hb⟩; have Cp0_1 := Lib.hid ((cel_al (cel_al Cp0_0.out _) _).below hb); have Cp1_1 := Lib.hid ((cel_al (cel_al Cp1_0.out _) _).below hb); have Xp0_1 := Lib.hid ((bx2 _ _ _ _ _).1.below hb); have Xp1_1 := Lib.hid ((bx2 _ _ _ _ _).2.below hb); have B1 := Lib.hid (below_on (below_two _ _ _) hb); have xp0 := Xp0_1.out.cell; have xp1 := Xp1_1.out.cell; clear hb)
    | (go_at_call 33; (with_reducible refine (k2 A c D d _ (Cp0_1.out) (Cp1_1.out)).mono ?_); rintro e w2 ⟨Ac, nc, cc, rfl, qc, hb⟩; have Cp0_2 := Lib.hid ((Cp0_1.out).below hb); have Cp1_2 := Lib.hid ((Cp1_1.out).below hb); have Xp0_2 := Lib.hid ((Xp0_1.out).below hb); have Xp1_2 := Lib.hid ((Xp1_1.out).below hb); have B2 := Lib.hid (below_on (B1.out) hb); obtain ⟨z, g⟩ := num_at Nc.out qc; subst z; have Cc_2 := Lib.hid g; clear g qc; clear xp0 xp1; have xp0 := fun o0 => (bx_al Xp0_2.out o0).cell; have xp1 := fun o0 => (bx_al Xp1_2.out o0).cell; clear hb)
    | (go_at_call 34; (with_reducible refine (k3 A c D d _ (cel_al Cp0_2.out _) (cel_al Cp1_2.out _)).mono ?_); rintro e w3 ⟨Ad, nd, cd, rfl, qd, hb⟩; have Cp0_3 := Lib.hid ((cel_al Cp0_2.out _).below hb); have Cp1_3 := Lib.hid ((cel_al Cp1_2.out _).below hb); have Cc_3 := Lib.hid ((cel_al Cc_2.out _).below hb); have Xp0_3 := Lib.hid ((bx_al (Xp0_2.out) _).below hb); have Xp1_3 := Lib.hid ((bx_al (Xp1_2.out) _).below hb); have Xc_3 := Lib.hid ((Bx.new_ _ _ _).below hb); have B3 := Lib.hid (below_on (bel_alloc (B2.out) _) hb); obtain ⟨z, g⟩ := num_at Nc.out qd; subst z; have Cd_3 := Lib.hid g; clear g qd; clear xp0 xp1; have xc := fun o0 => (bx_al Xc_3.out o0).cell; clear hb)
    | (go_at_call 13; (with_reducible refine (k4 Ac cc Ad cd _ (cel_al Cc_3.out _) (cel_al Cd_3.out _)).mono ?_); rintro e w4 ⟨rfl, hb⟩; have Cp0_4 := Lib.hid ((cel_al Cp0_3.out _).below hb); have Cp1_4 := Lib.hid ((cel_al Cp1_3.out _).below hb); have Cc_4 := Lib.hid ((cel_al Cc_3.out _).below hb); have Xp0_4 := Lib.hid ((bx_al (Xp0_3.out) _).below hb); have Xp1_4 := Lib.hid ((bx_al (Xp1_3.out) _).below hb); have Xc_4 := Lib.hid ((bx_al (Xc_3.out) _).below hb); have B4 := Lib.hid (below_on (bel_alloc (B3.out) _) hb); clear xc; have xp0 := Xp0_4.out.cell; have xc := Xc_4.out.cell; clear hb)
    | (go_at_call 30; (with_reducible refine (k5 A c Ac cc _ (Cp0_4.out) (Cc_4.out)).mono ?_); rintro e w5 ⟨Aq, nq, cq, Ax, nx, cx, rfl, qq, qx, hb⟩; have Cp1_5 := Lib.hid ((Cp1_4.out).below hb); have Cc_5 := Lib.hid ((Cc_4.out).below hb); have Xp1_5 := Lib.hid ((Xp1_4.out).below hb); have Xc_5 := Lib.hid ((Xc_4.out).below hb); have B5 := Lib.hid (below_on (B4.out) hb); obtain ⟨z, g⟩ := num_at Nq.out qq; subst z; have Cq_5 := Lib.hid g; clear g qq; obtain ⟨z, g⟩ := num_at Nz.out qx; subst z; have Cx_5 := Lib.hid g; clear g qx; clear xp0 xc; have xp1 := fun o0 o1 => (bx_al (bx_al Xp1_5.out o0) o1).cell; have xc := fun o0 o1 => (bx_al (bx_al Xc_5.out o0) o1).cell; clear hb)
    | (go_at_call 30; (with_reducible refine (k6 D d Ac cc _ (cel_al (cel_al Cp1_5.out _) _) (cel_al (cel_al Cc_5.out _) _)).mono ?_); rintro e w6 ⟨As, ns, cs, Ay, ny, cy, rfl, qs, qy, hb⟩; have Xx_6 := Lib.hid ((bx2 _ _ _ _ _).2.below hb); have B6 := Lib.hid (below_on (bel_alloc (bel_alloc (B5.out) _) _) hb); obtain ⟨z, g⟩ := num_at Ns.out qs; subst z; have Cs_6 := Lib.hid g; clear g qs; obtain ⟨z, g⟩ := num_at Nz.out qy; subst z; have Cy_6 := Lib.hid g; clear g qy; clear xp1 xc; have xx := fun o0 o1 => (bx_al (bx_al Xx_6.out o0) o1).cell; clear hb)
    | (go_at_call 32; (with_reducible refine (k7 _).mono ?_); rintro e w7 ⟨rfl, hb⟩; have B7 := Lib.hid (below_on (bel_alloc (bel_alloc (B6.out) _) _) hb); clear xx; clear hb))
  go_ret
  exact ⟨rfl, B7.out⟩
set_option maxHeartbeats 4000000 in
theorem divisors_many (A D : Option Addr) (n c m d X Y : Nat) (hX : Hid (X < 4294967296 ^ n)) (hY : Hid (Y < 4294967296 ^ m)) (hnc : n ≤ c) (hmd : m ≤ d) (hn : n ≤ 9223372036854775807) (hm : m ≤ 9223372036854775807) (hmany : 70 < n ∨ 70 < m) (w : World) (hIp0 : Cel .u32 w A (dg 4294967296 n X)) (hIp1 : Cel .u32 w D (dg 4294967296 m Y)) :
    Calls Try.prog 8 #[.agg #[.slice A n c], .agg #[.slice D m d]] w fun e w' => e = .returned (.bool true) ∧ Below w.heap.size w w' := by
  have k1 : ∀ A c D d w, Calls Try.prog 28 #[.agg #[.slice A n c], .agg #[.slice D m d]] w fun e w' => e = .returned (.bool false) ∧ Below w.heap.size w w' := fun A c D d w => few_no A D n c m d hmany w
  have k2 := common_any
  clear hX hY
  have Cp0_0 := Lib.hid hIp0
  clear hIp0
  have Cp1_0 := Lib.hid hIp1
  clear hIp1
  go_enter Try.func8, Try.ntmps8
  go_wp2_with (first
    | (go_at_call 28; (with_reducible refine (k1 A c D d _ ).mono ?_); rintro e w1 ⟨rfl, hb⟩; have B1 := Lib.hid (below_on (below_two _ _ _) hb); clear hb)
    | (go_at_call 32; (with_reducible refine (k2 _).mono ?_); rintro e w2 ⟨rfl, hb⟩; have B2 := Lib.hid (below_on (B1.out) hb); clear hb))
  go_ret
  exact ⟨rfl, B2.out⟩
theorem divisors_any (A D : Option Addr) (n c m d X Y : Nat) (hX : Hid (X < 4294967296 ^ n)) (hY : Hid (Y < 4294967296 ^ m)) (hnc : n ≤ c) (hmd : m ≤ d) (hn : n ≤ 9223372036854775807) (hm : m ≤ 9223372036854775807) (w : World) (hI : Cel .u32 w A (dg 4294967296 n X)) (hJ : Cel .u32 w D (dg 4294967296 m Y)) :
    Calls Try.prog 8 #[.agg #[.slice A n c], .agg #[.slice D m d]] w fun e w' => e = .returned (.bool true) ∧ Below w.heap.size w w' := by
  by_cases h : n ≤ 70 ∧ m ≤ 70
  · by_cases he : gcdE n X m Y = 0
    · by_cases hv : gcdV n X m Y = 0
      · exact divisors_zero A D n c m d X Y hX hY hnc hmd hn hm h.1 h.2 (Lib.hid he) (Lib.hid hv) w hI hJ
      · exact divisors_some A D n c m d X Y hX hY hnc hmd hn hm h.1 h.2 (Lib.hid he) (Lib.hid hv) w hI hJ
    · exact divisors_bad A D n c m d X Y hX hY hnc hmd hn hm h.1 h.2 (Lib.hid he) w hI hJ
  · exact divisors_many A D n c m d X Y hX hY hnc hmd hn hm (by omega) w hI hJ
end Go.Proofs.Ytjbckijeobmoeaa.natLd

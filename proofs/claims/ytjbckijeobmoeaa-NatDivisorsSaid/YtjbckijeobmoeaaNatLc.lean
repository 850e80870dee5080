/-
  The laws of quotients.
-/
import Derived.Test.YtjbckijeobmoeaaNatLb
namespace Go.Proofs.Ytjbckijeobmoeaa.natLc
open Go.RowKit
open Go.Proofs.Ytjbckijeobmoeaa.natM Go.Proofs.Ytjbckijeobmoeaa.natA Go.Proofs.Ytjbckijeobmoeaa.natB Go.Proofs.Ytjbckijeobmoeaa.natC Go.Proofs.Ytjbckijeobmoeaa.natD Go.Proofs.Ytjbckijeobmoeaa.natE Go.Proofs.Ytjbckijeobmoeaa.natF Go.Proofs.Ytjbckijeobmoeaa.natG Go.Proofs.Ytjbckijeobmoeaa.natH Go.Proofs.Ytjbckijeobmoeaa.natI Go.Proofs.Ytjbckijeobmoeaa.natJ Go.Proofs.Ytjbckijeobmoeaa.natR Go.Proofs.Ytjbckijeobmoeaa.natS Go.Proofs.Ytjbckijeobmoeaa.natT Go.Proofs.Ytjbckijeobmoeaa.natX Go.Proofs.Ytjbckijeobmoeaa.natUi Go.Proofs.Ytjbckijeobmoeaa.natY Go.Proofs.Ytjbckijeobmoeaa.natZ Go.Proofs.Ytjbckijeobmoeaa.natDm Go.Proofs.Ytjbckijeobmoeaa.natGc Go.Proofs.Ytjbckijeobmoeaa.natLa Go.Proofs.Ytjbckijeobmoeaa.natLb
set_option linter.unusedVariables false

set_option maxHeartbeats 4000000 in
theorem quotients_few (A D : Option Addr) (n c m d X Y : Nat) (hX : Hid (X < 4294967296 ^ n)) (hY : Hid (Y < 4294967296 ^ m)) (hnc : n ≤ c) (hmd : m ≤ d) (hn : n ≤ 9223372036854775807) (hm : m ≤ 9223372036854775807) (h70 : n ≤ 70) (g70 : m ≤ 70) (w : World) (hIp0 : Cel .u32 w A (dg 4294967296 n X)) (hIp1 : Cel .u32 w D (dg 4294967296 m Y)) :
    Calls Try.prog 6 #[.agg #[.slice A n c], .agg #[.slice D m d]] w fun e w' => e = .returned (.bool true) ∧ Below w.heap.size w w' := by
  obtain ⟨Vq, hVq⟩ : ∃ V, Hid (V = divQ n X m Y) := ⟨_, Lib.hid rfl⟩
  obtain ⟨Mq, Nq⟩ : ∃ N, Hid (N = nlen 4294967296 Vq) := ⟨_, Lib.hid rfl⟩
  obtain ⟨Vr, hVr⟩ : ∃ V, Hid (V = divR n X m Y) := ⟨_, Lib.hid rfl⟩
  obtain ⟨Mr, Nr⟩ : ∃ N, Hid (N = nlen 4294967296 Vr) := ⟨_, Lib.hid rfl⟩
  obtain ⟨Eq, hEq⟩ : ∃ V, Hid (V = divE n X m Y) := ⟨_, Lib.hid rfl⟩
  have Lq : Mq ≤ 9223372036854775807 := by rw [Nq.out, hVq.out]; exact Nat.le_trans (divQ_len _ _ _ _) (by omega)
  have Lr : Mr ≤ 9223372036854775807 := by rw [Nr.out, hVr.out]; exact Nat.le_trans (divR_len _ _ _ _) (by omega)
  have k1 : ∀ A c D d w, Calls Try.prog 28 #[.agg #[.slice A n c], .agg #[.slice D m d]] w fun e w' => e = .returned (.bool true) ∧ Below w.heap.size w w' := fun A c D d w => few_yes A D n c m d h70 g70 w
  have k2 : ∀ A c D d w, Cel .u32 w A (dg 4294967296 n X) → Cel .u32 w D (dg 4294967296 m Y) → Calls Try.prog 30 #[.agg #[.slice A n c], .agg #[.slice D m d]] w (DivR Vq Vr Eq w) := fun A c D d w hI hJ => by
    rw [hVq.out, hVr.out, hEq.out]; exact divmod_any A D n c m d X Y hX hY hn hm w hI hJ
  have k3 : ∀ A c D d w, Cel .u32 w A (dg 4294967296 n X) → Cel .u32 w D (dg 4294967296 m Y) → Calls Try.prog 31 #[.agg #[.slice A n c], .agg #[.slice D m d]] w (DivR Vq Vr Eq w) := fun A c D d w hI hJ => by
    rw [hVq.out, hVr.out, hEq.out]; exact rxdiv_any A D n c m d X Y hX hY hn hm w hI hJ
  have k4 : ∀ A c D d w, Cel .u32 w A (dg 4294967296 Mq Vq) → Cel .u32 w D (dg 4294967296 Mq Vq) → Calls Try.prog 13 #[.agg #[.slice A Mq c], .agg #[.slice D Mq d]] w fun e w' => e = .returned (.bool true) ∧ Below w.heap.size w w' := fun A c D d w hI hJ =>
    same_any A D Mq c d Vq Lq w hI hJ
  have k5 : ∀ A c D d w, Cel .u32 w A (dg 4294967296 Mr Vr) → Cel .u32 w D (dg 4294967296 Mr Vr) → Calls Try.prog 13 #[.agg #[.slice A Mr c], .agg #[.slice D Mr d]] w fun e w' => e = .returned (.bool true) ∧ Below w.heap.size w w' := fun A c D d w hI hJ =>
    same_any A D Mr c d Vr Lr w hI hJ
  have k6 := divided_any
  clear hX hY Lq Lr hVq hVr hEq
  have Cp0_0 := Lib.hid hIp0
  clear hIp0
  have Cp1_0 := Lib.hid hIp1
  clear hIp1
  go_enter Try.func6, Try.ntmps6
  go_wp2_with (first
    | (go_at_call 28; (with_reducible refine (k1 A c D d _ ).mono ?_); rintro e w1 ⟨rfl, hb⟩; have Cp0_1 := Lib.hid ((cel_al (cel_al Cp0_0.out _) _).below hb); have Cp1_1 := Lib.hid ((cel_al (cel_al Cp1_0.out _) _).below hb); have Xp0_1 := Lib.hid ((bx2 _ _ _ _ _).1.below hb); have Xp1_1 := Lib.hid ((bx2 _ _ _ _ _).2.below hb); have B1 := Lib.hid (below_on (below_two _ _ _) hb); have xp0 := Xp0_1.out.cell; have xp1 := Xp1_1.out.cell; clear hb)
    | (go_at_call 30; (with_reducible refine (k2 A c D d _ (Cp0_1.out) (Cp1_1.out)).mono ?_); rintro e w2 ⟨Aq, nq, cq, Ar, nr, cr, rfl, qq, qr, hb⟩; have Cp0_2 := Lib.hid ((Cp0_1.out).below hb); have Cp1_2 := Lib.hid ((Cp1_1.out).below hb); have Xp0_2 := Lib.hid ((Xp0_1.out).below hb); have Xp1_2 := Lib.hid ((Xp1_1.out).below hb); have B2 := Lib.hid (below_on (B1.out) hb); obtain ⟨z, g⟩ := num_at Nq.out qq; subst z; have Cq_2 := Lib.hid g; clear g qq; obtain ⟨z, g⟩ := num_at Nr.out qr; subst z; have Cr_2 := Lib.hid g; clear g qr; clear xp0 xp1; have xp0 := fun o0 o1 => (bx_al (bx_al Xp0_2.out o0) o1).cell; have xp1 := fun o0 o1 => (bx_al (bx_al Xp1_2.out o0) o1).cell; clear hb)
    | (go_at_call 31; (with_reducible refine (k3 A c D d _ (cel_al (cel_al Cp0_2.out _) _) (cel_al (cel_al Cp1_2.out _) _)).mono ?_); rintro e w3 ⟨Ax, nx, cx, Ay, ny, cy, rfl, qx, qy, hb⟩; have Cq_3 := Lib.hid ((cel_al (cel_al Cq_2.out _) _).below hb); have Cr_3 := Lib.hid ((cel_al (cel_al Cr_2.out _) _).below hb); have Xq_3 := Lib.hid ((bx2 _ _ _ _ _).1.below hb); have Xr_3 := Lib.hid ((bx2 _ _ _ _ _).2.below hb); have B3 := Lib.hid (below_on (bel_alloc (bel_alloc (B2.out) _) _) hb); obtain ⟨z, g⟩ := num_at Nq.out qx; subst z; have Cx_3 := Lib.hid g; clear g qx; obtain ⟨z, g⟩ := num_at Nr.out qy; subst z; have Cy_3 := Lib.hid g; clear g qy; clear xp0 xp1; have xq := fun o0 o1 => (bx_al (bx_al Xq_3.out o0) o1).cell; clear hb)
    | (go_at_call 13; (with_reducible refine (k4 Aq cq Ax cx _ (cel_al (cel_al Cq_3.out _) _) (cel_al (cel_al Cx_3.out _) _)).mono ?_); rintro e w4 ⟨rfl, hb⟩; have Cr_4 := Lib.hid ((cel_al (cel_al Cr_3.out _) _).below hb); have Cy_4 := Lib.hid ((cel_al (cel_al Cy_3.out _) _).below hb); have Xr_4 := Lib.hid ((bx_al (bx_al (Xr_3.out) _) _).below hb); have Xy_4 := Lib.hid ((bx2 _ _ _ _ _).2.below hb); have B4 := Lib.hid (below_on (bel_alloc (bel_alloc (B3.out) _) _) hb); clear xq; have xr := Xr_4.out.cell; have xy := Xy_4.out.cell; clear hb)
    | (go_at_call 13; (with_reducible refine (k5 Ar cr Ay cy _ (Cr_4.out) (Cy_4.out)).mono ?_); rintro e w5 ⟨rfl, hb⟩; have B5 := Lib.hid (below_on (B4.out) hb); clear xr xy; clear hb)
    | (go_at_call 29; (with_reducible refine (k6 _).mono ?_); rintro e w6 ⟨rfl, hb⟩; have B6 := Lib.hid (below_on (B5.out) hb); clear hb))
  go_ret
  exact ⟨rfl, B6.out⟩
set_option maxHeartbeats 4000000 in
theorem quotients_many (A D : Option Addr) (n c m d X Y : Nat) (hX : Hid (X < 4294967296 ^ n)) (hY : Hid (Y < 4294967296 ^ m)) (hnc : n ≤ c) (hmd : m ≤ d) (hn : n ≤ 9223372036854775807) (hm : m ≤ 9223372036854775807) (hmany : 70 < n ∨ 70 < m) (w : World) (hIp0 : Cel .u32 w A (dg 4294967296 n X)) (hIp1 : Cel .u32 w D (dg 4294967296 m Y)) :
    Calls Try.prog 6 #[.agg #[.slice A n c], .agg #[.slice D m d]] w fun e w' => e = .returned (.bool true) ∧ Below w.heap.size w w' := by
  have k1 : ∀ A c D d w, Calls Try.prog 28 #[.agg #[.slice A n c], .agg #[.slice D m d]] w fun e w' => e = .returned (.bool false) ∧ Below w.heap.size w w' := fun A c D d w => few_no A D n c m d hmany w
  have k2 := divided_any
  clear hX hY
  have Cp0_0 := Lib.hid hIp0
  clear hIp0
  have Cp1_0 := Lib.hid hIp1
  clear hIp1
  go_enter Try.func6, Try.ntmps6
  go_wp2_with (first
    | (go_at_call 28; (with_reducible refine (k1 A c D d _ ).mono ?_); rintro e w1 ⟨rfl, hb⟩; have B1 := Lib.hid (below_on (below_two _ _ _) hb); clear hb)
    | (go_at_call 29; (with_reducible refine (k2 _).mono ?_); rintro e w2 ⟨rfl, hb⟩; have B2 := Lib.hid (below_on (B1.out) hb); clear hb))
  go_ret
  exact ⟨rfl, B2.out⟩
theorem quotients_any (A D : Option Addr) (n c m d X Y : Nat) (hX : Hid (X < 4294967296 ^ n)) (hY : Hid (Y < 4294967296 ^ m)) (hnc : n ≤ c) (hmd : m ≤ d) (hn : n ≤ 9223372036854775807) (hm : m ≤ 9223372036854775807) (w : World) (hI : Cel .u32 w A (dg 4294967296 n X)) (hJ : Cel .u32 w D (dg 4294967296 m Y)) :
    Calls Try.prog 6 #[.agg #[.slice A n c], .agg #[.slice D m d]] w fun e w' => e = .returned (.bool true) ∧ Below w.heap.size w w' := by
  by_cases h : n ≤ 70 ∧ m ≤ 70
  · exact quotients_few A D n c m d X Y hX hY hnc hmd hn hm h.1 h.2 w hI hJ
  · exact quotients_many A D n c m d X Y hX hY hnc hmd hn hm (by omega) w hI hJ
set_option maxHeartbeats 4000000 in
theorem divisors_bad (A D : Option Addr) (n c m d X Y : Nat) (hX : Hid (X < 4294967296 ^ n)) (hY : Hid (Y < 4294967296 ^ m)) (hnc : n ≤ c) (hmd : m ≤ d) (hn : n ≤ 9223372036854775807) (hm : m ≤ 9223372036854775807) (h70 : n ≤ 70) (g70 : m ≤ 70) (hbad : Hid (gcdE n X m Y ≠ 0)) (w : World) (hIp0 : Cel .u32 w A (dg 4294967296 n X)) (hIp1 : Cel .u32 w D (dg 4294967296 m Y)) :
    Calls Try.prog 8 #[.agg #[.slice A n c], .agg #[.slice D m d]] w fun e w' => e = .returned (.bool true) ∧ Below w.heap.size w w' := by
  obtain ⟨Vc, hVc⟩ : ∃ V, Hid (V = gcdV n X m Y) := ⟨_, Lib.hid rfl⟩
  obtain ⟨Mc, Nc⟩ : ∃ N, Hid (N = nlen 4294967296 Vc) := ⟨_, Lib.hid rfl⟩
  obtain ⟨Ec, hEc⟩ : ∃ V, Hid (V = gcdE n X m Y) := ⟨_, Lib.hid rfl⟩
  have Lc : Mc ≤ 9223372036854775807 := by rw [Nc.out, hVc.out]; exact Nat.le_trans (gcdV_len _ _ _ _) (by omega)
  have tE : (Ec != 0) = true := by have := hbad.out; rw [hEc.out]; simpa using this
  have k1 : ∀ A c D d w, Calls Try.prog 28 #[.agg #[.slice A n c], .agg #[.slice D m d]] w fun e w' => e = .returned (.bool true) ∧ Below w.heap.size w w' := fun A c D d w => few_yes A D n c m d h70 g70 w
  have k2 : ∀ (_A : Option Addr) (_c : Nat) (_D : Option Addr) (_d : Nat) w, Cel .u32 w A (dg 4294967296 n X) → Cel .u32 w D (dg 4294967296 m Y) → Calls Try.prog 33 #[.agg #[.slice A n c], .agg #[.slice D m d]] w (ResP Vc Ec w) := fun _ _ _ _ w hI hJ => by
    rw [hVc.out, hEc.out]; exact gcd_any A D n c m d X Y hX hY hnc hmd hn hm w hI hJ
  have k3 : ∀ (_A : Option Addr) (_c : Nat) (_D : Option Addr) (_d : Nat) w, Cel .u32 w A (dg 4294967296 n X) → Cel .u32 w D (dg 4294967296 m Y) → Calls Try.prog 34 #[.agg #[.slice A n c], .agg #[.slice D m d]] w (ResP Vc Ec w) := fun _ _ _ _ w hI hJ => by
    rw [hVc.out, hEc.out]; exact rxgcd_any A D n c m d X Y hX hY hn hm w hI hJ
  have k4 : ∀ A c D d w, Cel .u32 w A (dg 4294967296 Mc Vc) → Cel .u32 w D (dg 4294967296 Mc Vc) → Calls Try.prog 13 #[.agg #[.slice A Mc c], .agg #[.slice D Mc d]] w fun e w' => e = .returned (.bool true) ∧ Below w.heap.size w w' := fun A c D d w hI hJ =>
    same_any A D Mc c d Vc Lc w hI hJ
  have k5 := common_any
  clear hX hY Lc hVc hEc hbad
  have Cp0_0 := Lib.hid hIp0
  clear hIp0
  have Cp1_0 := Lib.hid hIp1
  clear hIp1
  go_enter Try.func8, Try.ntmps8
  go_wp2_with (first
    | (go_at_call 28; (with_reducible refine (k1 A c D d _ ).mono ?_); rintro e w1 ⟨rfl, hb⟩; have Cp0_1 := Lib.hid ((cel_al (cel_al Cp0_0.out _) _).below hb); have Cp1_1 := Lib.hid ((cel_al (cel_al Cp1_0.out _) _).below hb); have Xp0_1 := Lib.hid ((bx2 _ _ _ _ _).1.below hb); have Xp1_1 := Lib.hid ((bx2 _ _ _ _ _).2.below hb); have B1 := Lib.hid (below_on (below_two _ _ _) hb); have xp0 := Xp0_1.out.cell; have xp1 := Xp1_1.out.cell; clear hb)
    | (go_at_call 33; (with_reducible refine (k2 A c D d _ (Cp0_1.out) (Cp1_1.out)).mono ?_); rintro e w2 ⟨Ac, nc, cc, rfl, qc, hb⟩; have Cp0_2 := Lib.hid ((Cp0_1.out).below hb); have Cp1_2 := Lib.hid ((Cp1_1.out).below hb); have Xp0_2 := Lib.hid ((Xp0_1.out).below hb); have Xp1_2 := Lib.hid ((Xp1_1.out).below hb); have B2 := Lib.hid (below_on (B1.out) hb); obtain ⟨z, g⟩ := num_at Nc.out qc; subst z; have Cc_2 := Lib.hid g; clear g qc; clear xp0 xp1; have xp0 := fun o0 => (bx_al Xp0_2.out o0).cell; have xp1 := fun o0 => (bx_al Xp1_2.out o0).cell; clear hb)
    | (go_at_call 34; (with_reducible refine (k3 A c D d _ (cel_al Cp0_2.out _) (cel_al Cp1_2.out _)).mono ?_); rintro e w3 ⟨Ad, nd, cd, rfl, qd, hb⟩; have Cc_3 := Lib.hid ((cel_al Cc_2.out _).below hb); have Xc_3 := Lib.hid ((Bx.new_ _ _ _).below hb); have B3 := Lib.hid (below_on (bel_alloc (B2.out) _) hb); obtain ⟨z, g⟩ := num_at Nc.out qd; subst z; have Cd_3 := Lib.hid g; clear g qd; clear xp0 xp1; have xc := fun o0 => (bx_al Xc_3.out o0).cell; clear hb)
    | (go_at_call 13; (with_reducible refine (k4 Ac cc Ad cd _ (cel_al Cc_3.out _) (cel_al Cd_3.out _)).mono ?_); rintro e w4 ⟨rfl, hb⟩; have B4 := Lib.hid (below_on (bel_alloc (B3.out) _) hb); clear xc; clear hb)
    | (go_at_call 32; (with_reducible refine (k5 _).mono ?_); rintro e w5 ⟨rfl, hb⟩; have B5 := Lib.hid (below_on (B4.out) hb); clear hb))
  go_ret
  exact ⟨rfl, B5.out⟩
set_option maxHeartbeats 4000000 in
theorem divisors_zero (A D : Option Addr) (n c m d X Y : Nat) (hX : Hid (X < 4294967296 ^ n)) (hY : Hid (Y < 4294967296 ^ m)) (hnc : n ≤ c) (hmd : m ≤ d) (hn : n ≤ 9223372036854775807) (hm : m ≤ 9223372036854775807) (h70 : n ≤ 70) (g70 : m ≤ 70) (hok : Hid (gcdE n X m Y = 0)) (hzero : Hid (gcdV n X m Y = 0)) (w : World) (hIp0 : Cel .u32 w A (dg 4294967296 n X)) (hIp1 : Cel .u32 w D (dg 4294967296 m Y)) :
    Calls Try.prog 8 #[.agg #[.slice A n c], .agg #[.slice D m d]] w fun e w' => e = .returned (.bool true) ∧ Below w.heap.size w w' := by
  obtain ⟨Vc, hVc⟩ : ∃ V, Hid (V = gcdV n X m Y) := ⟨_, Lib.hid rfl⟩
  obtain ⟨Mc, Nc⟩ : ∃ N, Hid (N = nlen 4294967296 Vc) := ⟨_, Lib.hid rfl⟩
  have Lc : Mc ≤ 9223372036854775807 := by rw [Nc.out, hVc.out]; exact Nat.le_trans (gcdV_len _ _ _ _) (by omega)
  obtain rfl : Mc = 0 := by rw [Nc.out, hVc.out, hzero.out, nlen_zero]
  have k1 : ∀ A c D d w, Calls Try.prog 28 #[.agg #[.slice A n c], .agg #[.slice D m d]] w fun e w' => e = .returned (.bool true) ∧ Below w.heap.size w w' := fun A c D d w => few_yes A D n c m d h70 g70 w
  have k2 : ∀ (_A : Option Addr) (_c : Nat) (_D : Option Addr) (_d : Nat) w, Cel .u32 w A (dg 4294967296 n X) → Cel .u32 w D (dg 4294967296 m Y) → Calls Try.prog 33 #[.agg #[.slice A n c], .agg #[.slice D m d]] w (ResP Vc 0 w) := fun _ _ _ _ w hI hJ => by
    rw [hVc.out, ← hok.out]; exact gcd_any A D n c m d X Y hX hY hnc hmd hn hm w hI hJ
  have k3 : ∀ (_A : Option Addr) (_c : Nat) (_D : Option Addr) (_d : Nat) w, Cel .u32 w A (dg 4294967296 n X) → Cel .u32 w D (dg 4294967296 m Y) → Calls Try.prog 34 #[.agg #[.slice A n c], .agg #[.slice D m d]] w (ResP Vc 0 w) := fun _ _ _ _ w hI hJ => by
    rw [hVc.out, ← hok.out]; exact rxgcd_any A D n c m d X Y hX hY hn hm w hI hJ
  have k4 : ∀ A c D d w, Cel .u32 w A (dg 4294967296 0 Vc) → Cel .u32 w D (dg 4294967296 0 Vc) → Calls Try.prog 13 #[.agg #[.slice A 0 c], .agg #[.slice D 0 d]] w fun e w' => e = .returned (.bool true) ∧ Below w.heap.size w w' := fun A c D d w hI hJ =>
    same_any A D 0 c d Vc Lc w hI hJ
  have k5 := common_any
  clear hX hY Lc hVc hok hzero
  have Cp0_0 := Lib.hid hIp0
  clear hIp0
  have Cp1_0 := Lib.hid hIp1
  clear hIp1
  go_enter Try.func8, Try.ntmps8
  go_wp2_with (first
    | (go_at_call 28; (with_reducible refine (k1 A c D d _ ).mono ?_); rintro e w1 ⟨rfl, hb⟩; have Cp0_1 := Lib.hid ((cel_al (cel_al Cp0_0.out _) _).below hb); have Cp1_1 := Lib.hid ((cel_al (cel_al Cp1_0.out _) _).below hb); have Xp0_1 := Lib.hid ((bx2 _ _ _ _ _).1.below hb); have Xp1_1 := Lib.hid ((bx2 _ _ _ _ _).2.below hb); have B1 := Lib.hid (below_on (below_two _ _ _) hb); have xp0 := Xp0_1.out.cell; have xp1 := Xp1_1.out.cell; clear hb)
    | (go_at_call 33; (with_reducible refine (k2 A c D d _ (Cp0_1.out) (Cp1_1.out)).mono ?_); rintro e w2 ⟨Ac, nc, cc, rfl, qc, hb⟩; have Cp0_2 := Lib.hid ((Cp0_1.out).below hb); have Cp1_2 := Lib.hid ((Cp1_1.out).below hb); have Xp0_2 := Lib.hid ((Xp0_1.out).below hb); have Xp1_2 := Lib.hid ((Xp1_1.out).below hb); have B2 := Lib.hid (below_on (B1.out) hb); obtain ⟨z, g⟩ := num_at Nc.out qc; subst z; have Cc_2 := Lib.hid g; clear g qc; clear xp0 xp1; have xp0 := fun o0 => (bx_al Xp0_2.out o0).cell; have xp1 := fun o0 => (bx_al Xp1_2.out o0).cell; clear hb)
    | (go_at_call 34; (with_reducible refine (k3 A c D d _ (cel_al Cp0_2.out _) (cel_al Cp1_2.out _)).mono ?_); rintro e w3 ⟨Ad, nd, cd, rfl, qd, hb⟩; have Cc_3 := Lib.hid ((cel_al Cc_2.out _).below hb); have Xc_3 := Lib.hid ((Bx.new_ _ _ _).below hb); have B3 := Lib.hid (below_on (bel_alloc (B2.out) _) hb); obtain ⟨z, g⟩ := num_at Nc.out qd; subst z; have Cd_3 := Lib.hid g; clear g qd; clear xp0 xp1; have xc := fun o0 => (bx_al Xc_3.out o0).cell; clear hb)
    | (go_at_call 13; (with_reducible refine (k4 Ac cc Ad cd _ (cel_al Cc_3.out _) (cel_al Cd_3.out _)).mono ?_); rintro e w4 ⟨rfl, hb⟩; have Xc_4 := Lib.hid ((bx_al (Xc_3.out) _).below hb); have B4 := Lib.hid (below_on (bel_alloc (B3.out) _) hb); clear xc; have xc := Xc_4.out.cell; clear hb)
    | (go_at_call 32; (with_reducible refine (k5 _).mono ?_); rintro e w5 ⟨rfl, hb⟩; have Xc_5 := Lib.hid ((Xc_4.out).below hb); have B5 := Lib.hid (below_on (B4.out) hb); clear xc; clear hb))
  go_ret
  exact ⟨rfl, B5.out⟩
end Go.Proofs.Ytjbckijeobmoeaa.natLc

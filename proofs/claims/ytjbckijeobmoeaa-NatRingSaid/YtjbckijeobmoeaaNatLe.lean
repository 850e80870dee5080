/-
  The laws of what a quotient divides, of the ring.
-/
import Derived.Test.YtjbckijeobmoeaaNatLd
namespace Go.Proofs.Ytjbckijeobmoeaa.natLe
open Go.RowKit
open Go.Proofs.Ytjbckijeobmoeaa.natM Go.Proofs.Ytjbckijeobmoeaa.natA Go.Proofs.Ytjbckijeobmoeaa.natB Go.Proofs.Ytjbckijeobmoeaa.natC Go.Proofs.Ytjbckijeobmoeaa.natD Go.Proofs.Ytjbckijeobmoeaa.natE Go.Proofs.Ytjbckijeobmoeaa.natF Go.Proofs.Ytjbckijeobmoeaa.natG Go.Proofs.Ytjbckijeobmoeaa.natH Go.Proofs.Ytjbckijeobmoeaa.natI Go.Proofs.Ytjbckijeobmoeaa.natJ Go.Proofs.Ytjbckijeobmoeaa.natR Go.Proofs.Ytjbckijeobmoeaa.natS Go.Proofs.Ytjbckijeobmoeaa.natT Go.Proofs.Ytjbckijeobmoeaa.natX Go.Proofs.Ytjbckijeobmoeaa.natUi Go.Proofs.Ytjbckijeobmoeaa.natY Go.Proofs.Ytjbckijeobmoeaa.natZ Go.Proofs.Ytjbckijeobmoeaa.natDm Go.Proofs.Ytjbckijeobmoeaa.natGc Go.Proofs.Ytjbckijeobmoeaa.natLa Go.Proofs.Ytjbckijeobmoeaa.natLb Go.Proofs.Ytjbckijeobmoeaa.natLc Go.Proofs.Ytjbckijeobmoeaa.natLd
set_option linter.unusedVariables false

set_option maxHeartbeats 4000000 in
theorem divides_a (A D : Option Addr) (n c m d X Y : Nat) (hX : Hid (X < 4294967296 ^ n)) (hY : Hid (Y < 4294967296 ^ m)) (hnc : n ≤ c) (hmd : m ≤ d) (hn : n ≤ 9223372036854775807) (hm : m ≤ 9223372036854775807) (ha : Hid (valB n X = false)) (w : World) (hIp0 : Cel .u32 w A (dg 4294967296 n X)) (hIp1 : Cel .u32 w D (dg 4294967296 m Y)) :
    Calls Try.prog 7 #[.agg #[.slice A n c], .agg #[.slice D m d]] w fun e w' => e = .returned (.bool true) ∧ Below w.heap.size w w' := by
  have e1 : divE n X m Y = 2 ∧ divQ n X m Y = 0 ∧ divR n X m Y = 0 := by unfold divE divQ divR; rw [ha.out]; exact d_no1
  have Nz : Hid (0 = nlen 4294967296 0) := Lib.hid len_zero
  have k1 : ∀ A c w, Cel .u32 w A (dg 4294967296 n X) → Calls Try.prog 15 #[.agg #[.slice A n c]] w fun e w' => e = .returned (.bool false) ∧ Below w.heap.size w w' := fun A c w hI =>
    valid_any A n c X false (hX) (Lib.hid (by rw [ha.out])) (hn) w hI
  have k2 : ∀ A c D d w, Cel .u32 w A (dg 4294967296 n X) → Cel .u32 w D (dg 4294967296 m Y) → Calls Try.prog 30 #[.agg #[.slice A n c], .agg #[.slice D m d]] w (DivR 0 0 2 w) := fun A c D d w hI hJ => by
    have cc := divmod_any A D n c m d X Y (hX) (hY) (hn) (hm) w hI hJ
    rw [e1.1, e1.2.1, e1.2.2] at cc
    exact cc
  have k3 := divided_any
  clear hX hY e1
  have Cp0_0 := Lib.hid hIp0
  clear hIp0
  have Cp1_0 := Lib.hid hIp1
  clear hIp1
  go_enter Try.func7, Try.ntmps7
  go_wp2_with (first
    | (go_at_call 15; (with_reducible refine (k1 A c _ (cel_al (cel_al Cp0_0.out _) _)).mono ?_); rintro e w1 ⟨rfl, hb⟩; have Cp0_1 := Lib.hid ((cel_al (cel_al Cp0_0.out _) _).below hb); have Cp1_1 := Lib.hid ((cel_al (cel_al Cp1_0.out _) _).below hb); have Xp0_1 := Lib.hid ((bx2 _ _ _ _ _).1.below hb); have Xp1_1 := Lib.hid ((bx2 _ _ _ _ _).2.below hb); have B1 := Lib.hid (below_on (below_two _ _ _) hb); have xp0 := Xp0_1.out.cell; have xp1 := Xp1_1.out.cell; clear hb)
    | (go_at_call 30; (with_reducible refine (k2 A c D d _ (Cp0_1.out) (Cp1_1.out)).mono ?_); rintro e w2 ⟨Aq, nq, cq, Ar, nr, cr, rfl, qq, qr, hb⟩; have B2 := Lib.hid (below_on (B1.out) hb); obtain ⟨z, g⟩ := num_at Nz.out qq; subst z; have Cq_2 := Lib.hid g; clear g qq; obtain ⟨z, g⟩ := num_at Nz.out qr; subst z; have Cr_2 := Lib.hid g; clear g qr; clear xp0 xp1; clear hb)
    | (go_at_call 29; (with_reducible refine (k3 _).mono ?_); rintro e w3 ⟨rfl, hb⟩; have B3 := Lib.hid (below_on (bel_alloc (bel_alloc (B2.out) _) _) hb); clear hb))
  go_ret
  exact ⟨rfl, B3.out⟩
set_option maxHeartbeats 4000000 in
theorem divides_b (A D : Option Addr) (n c m d X Y : Nat) (hX : Hid (X < 4294967296 ^ n)) (hY : Hid (Y < 4294967296 ^ m)) (hnc : n ≤ c) (hmd : m ≤ d) (hn : n ≤ 9223372036854775807) (hm : m ≤ 9223372036854775807) (ha : Hid (valB n X = true)) (hb : Hid (valB m Y = false)) (w : World) (hIp0 : Cel .u32 w A (dg 4294967296 n X)) (hIp1 : Cel .u32 w D (dg 4294967296 m Y)) :
    Calls Try.prog 7 #[.agg #[.slice A n c], .agg #[.slice D m d]] w fun e w' => e = .returned (.bool true) ∧ Below w.heap.size w w' := by
  have e1 : divE n X m Y = 2 ∧ divQ n X m Y = 0 ∧ divR n X m Y = 0 := by unfold divE divQ divR; rw [ha.out, hb.out]; exact d_no2
  have Nz : Hid (0 = nlen 4294967296 0) := Lib.hid len_zero
  have k1 : ∀ A c w, Cel .u32 w A (dg 4294967296 n X) → Calls Try.prog 15 #[.agg #[.slice A n c]] w fun e w' => e = .returned (.bool true) ∧ Below w.heap.size w w' := fun A c w hI =>
    valid_any A n c X true (hX) (Lib.hid (by rw [ha.out])) (hn) w hI
  have k2 : ∀ A c w, Cel .u32 w A (dg 4294967296 m Y) → Calls Try.prog 15 #[.agg #[.slice A m c]] w fun e w' => e = .returned (.bool false) ∧ Below w.heap.size w w' := fun A c w hI =>
    valid_any A m c Y false (hY) (Lib.hid (by rw [hb.out])) (hm) w hI
  have k3 : ∀ A c D d w, Cel .u32 w A (dg 4294967296 n X) → Cel .u32 w D (dg 4294967296 m Y) → Calls Try.prog 30 #[.agg #[.slice A n c], .agg #[.slice D m d]] w (DivR 0 0 2 w) := fun A c D d w hI hJ => by
    have cc := divmod_any A D n c m d X Y (hX) (hY) (hn) (hm) w hI hJ
    rw [e1.1, e1.2.1, e1.2.2] at cc
    exact cc
  have k4 := divided_any
  clear hX hY e1
  have Cp0_0 := Lib.hid hIp0
  clear hIp0
  have Cp1_0 := Lib.hid hIp1
  clear hIp1
  go_enter Try.func7, Try.ntmps7
  go_wp2_with (first
    | (go_at_call 15; (with_reducible refine (k1 A c _ (cel_al (cel_al Cp0_0.out _) _)).mono ?_); rintro e w1 ⟨rfl, hb⟩; have Cp0_1 := Lib.hid ((cel_al (cel_al Cp0_0.out _) _).below hb); have Cp1_1 := Lib.hid ((cel_al (cel_al Cp1_0.out _) _).below hb); have Xp0_1 := Lib.hid ((bx2 _ _ _ _ _).1.below hb); have Xp1_1 := Lib.hid ((bx2 _ _ _ _ _).2.below hb); have B1 := Lib.hid (below_on (below_two _ _ _) hb); have xp1 := Xp1_1.out.cell; clear hb)
    | (go_at_call 15; (with_reducible refine (k2 D d _ (Cp1_1.out)).mono ?_); rintro e w2 ⟨rfl, hb⟩; have Cp0_2 := Lib.hid ((Cp0_1.out).below hb); have Cp1_2 := Lib.hid ((Cp1_1.out).below hb); have Xp0_2 := Lib.hid ((Xp0_1.out).below hb); have Xp1_2 := Lib.hid ((Xp1_1.out).below hb); have B2 := Lib.hid (below_on (B1.out) hb); clear xp1; have xp0 := Xp0_2.out.cell; have xp1 := Xp1_2.out.cell; clear hb)
    | (go_at_call 30; (with_reducible refine (k3 A c D d _ (Cp0_2.out) (Cp1_2.out)).mono ?_); rintro e w3 ⟨Aq, nq, cq, Ar, nr, cr, rfl, qq, qr, hb⟩; have B3 := Lib.hid (below_on (B2.out) hb); obtain ⟨z, g⟩ := num_at Nz.out qq; subst z; have Cq_3 := Lib.hid g; clear g qq; obtain ⟨z, g⟩ := num_at Nz.out qr; subst z; have Cr_3 := Lib.hid g; clear g qr; clear xp0 xp1; clear hb)
    | (go_at_call 29; (with_reducible refine (k4 _).mono ?_); rintro e w4 ⟨rfl, hb⟩; have B4 := Lib.hid (below_on (bel_alloc (bel_alloc (B3.out) _) _) hb); clear hb))
  go_ret
  exact ⟨rfl, B4.out⟩
set_option maxHeartbeats 4000000 in
theorem divides_z (A D : Option Addr) (n c d X : Nat) (hX : Hid (X < 4294967296 ^ n))  (hnc : n ≤ c)  (hn : n ≤ 9223372036854775807)  (ha : Hid (valB n X = true)) (w : World) (hIp0 : Cel .u32 w A (dg 4294967296 n X)) (hIp1 : Cel .u32 w D (dg 4294967296 0 0)) :
    Calls Try.prog 7 #[.agg #[.slice A n c], .agg #[.slice D 0 d]] w fun e w' => e = .returned (.bool true) ∧ Below w.heap.size w w' := by
  have hY : Hid (0 < 4294967296 ^ 0) := Lib.hid (by rw [Nat.pow_zero]; omega)
  have hb : valB 0 0 = true := valB_nil hY.out
  have e1 : divE n X 0 0 = 10 ∧ divQ n X 0 0 = 0 ∧ divR n X 0 0 = 0 := by unfold divE divQ divR; rw [ha.out, hb]; exact d_zero
  have Nz : Hid (0 = nlen 4294967296 0) := Lib.hid len_zero
  have k1 : ∀ A c w, Cel .u32 w A (dg 4294967296 n X) → Calls Try.prog 15 #[.agg #[.slice A n c]] w fun e w' => e = .returned (.bool true) ∧ Below w.heap.size w w' := fun A c w hI =>
    valid_any A n c X true (hX) (Lib.hid (by rw [ha.out])) (hn) w hI
  have k2 : ∀ A c w, Cel .u32 w A (dg 4294967296 0 0) → Calls Try.prog 15 #[.agg #[.slice A 0 c]] w fun e w' => e = .returned (.bool true) ∧ Below w.heap.size w w' := fun A c w hI =>
    valid_any A 0 c 0 true (hY) (Lib.hid (by rw [hb])) (by omega) w hI
  have k3 : ∀ A c D d w, Cel .u32 w A (dg 4294967296 n X) → Cel .u32 w D (dg 4294967296 0 0) → Calls Try.prog 30 #[.agg #[.slice A n c], .agg #[.slice D 0 d]] w (DivR 0 0 10 w) := fun A c D d w hI hJ => by
    have cc := divmod_any A D n c 0 d X 0 (hX) (hY) (hn) (by omega) w hI hJ
    rw [e1.1, e1.2.1, e1.2.2] at cc
    exact cc
  have k4 := divided_any
  clear hX hY e1
  have Cp0_0 := Lib.hid hIp0
  clear hIp0
  have Cp1_0 := Lib.hid hIp1
  clear hIp1
  go_enter Try.func7, Try.ntmps7
  go_wp2_with (first
    | (go_at_call 15; (with_reducible refine (k1 A c _ (cel_al (cel_al Cp0_0.out _) _)).mono ?_); rintro e w1 ⟨rfl, hb⟩; have Cp0_1 := Lib.hid ((cel_al (cel_al Cp0_0.out _) _).below hb); have Cp1_1 := Lib.hid ((cel_al (cel_al Cp1_0.out _) _).below hb); have Xp0_1 := Lib.hid ((bx2 _ _ _ _ _).1.below hb); have Xp1_1 := Lib.hid ((bx2 _ _ _ _ _).2.below hb); have B1 := Lib.hid (below_on (below_two _ _ _) hb); have xp1 := Xp1_1.out.cell; clear hb)
    | (go_at_call 15; (with_reducible refine (k2 D d _ (Cp1_1.out)).mono ?_); rintro e w2 ⟨rfl, hb⟩; have Cp0_2 := Lib.hid ((Cp0_1.out).below hb); have Cp1_2 := Lib.hid ((Cp1_1.out).below hb); have Xp0_2 := Lib.hid ((Xp0_1.out).below hb); have Xp1_2 := Lib.hid ((Xp1_1.out).below hb); have B2 := Lib.hid (below_on (B1.out) hb); clear xp1; have xp0 := Xp0_2.out.cell; have xp1 := Xp1_2.out.cell; clear hb)
    | (go_at_call 30; (with_reducible refine (k3 A c D d _ (Cp0_2.out) (Cp1_2.out)).mono ?_); rintro e w3 ⟨Aq, nq, cq, Ar, nr, cr, rfl, qq, qr, hb⟩; have B3 := Lib.hid (below_on (B2.out) hb); obtain ⟨z, g⟩ := num_at Nz.out qq; subst z; have Cq_3 := Lib.hid g; clear g qq; obtain ⟨z, g⟩ := num_at Nz.out qr; subst z; have Cr_3 := Lib.hid g; clear g qr; clear xp0 xp1; clear hb)
    | (go_at_call 29; (with_reducible refine (k4 _).mono ?_); rintro e w4 ⟨rfl, hb⟩; have B4 := Lib.hid (below_on (bel_alloc (bel_alloc (B3.out) _) _) hb); clear hb))
  go_ret
  exact ⟨rfl, B4.out⟩
set_option maxHeartbeats 4000000 in
theorem divides_ok (A D : Option Addr) (n c m d X Y : Nat) (hX : Hid (X < 4294967296 ^ n)) (hY : Hid (Y < 4294967296 ^ m)) (hnc : n ≤ c) (hmd : m ≤ d) (hn : n ≤ 9223372036854775807) (hm : m ≤ 9223372036854775807) (ha : Hid (valB n X = true)) (hb : Hid (valB m Y = true)) (hp : Hid (0 < Y)) (w : World) (hIp0 : Cel .u32 w A (dg 4294967296 n X)) (hIp1 : Cel .u32 w D (dg 4294967296 m Y)) :
    Calls Try.prog 7 #[.agg #[.slice A n c], .agg #[.slice D m d]] w fun e w' => e = .returned (.bool true) ∧ Below w.heap.size w w' := by
  have hn64 := (valB_iff.1 ha.out).1
  have hNx := (valB_iff.1 ha.out).2
  have hpos := hp.out
  have hmp : 0 < m := by have h := (valB_iff.1 hb.out).2; have h2 := nlen_pos (B := 4294967296) (by omega) hpos; omega
  obtain ⟨Vq, hVq⟩ : ∃ V, Hid (V = X / Y) := ⟨_, Lib.hid rfl⟩
  obtain ⟨Mq, Nq⟩ : ∃ N, Hid (N = nlen 4294967296 Vq) := ⟨_, Lib.hid rfl⟩
  obtain ⟨Vr, hVr⟩ : ∃ V, Hid (V = X % Y) := ⟨_, Lib.hid rfl⟩
  obtain ⟨Mr, Nr⟩ : ∃ N, Hid (N = nlen 4294967296 Vr) := ⟨_, Lib.hid rfl⟩
  obtain ⟨Vp, hVp⟩ : ∃ V, Hid (V = Vq * Y) := ⟨_, Lib.hid rfl⟩
  obtain ⟨Mp, Np⟩ : ∃ N, Hid (N = nlen 4294967296 Vp) := ⟨_, Lib.hid rfl⟩
  have hqy : Vq * Y ≤ X := by rw [hVq.out]; exact Nat.div_mul_le_self X Y
  have hall : Vp + Vr = X := by rw [hVp.out, hVq.out, hVr.out, Nat.mul_comm]; exact Nat.div_add_mod X Y
  have hless : Vr < Y := by rw [hVr.out]; exact Nat.mod_lt X hpos
  have Sq : nlen 4294967296 Vq ≤ 64 := by rw [hVq.out]; exact Nat.le_trans (nlen_mono (by omega) (Nat.div_le_self X Y)) (by omega)
  have Tq : valB Mq Vq = true := val_of Nq.out Sq
  have Lq : Hid (Vq < 4294967296 ^ Mq) := Lib.hid (lt_of Nq.out)
  have Gq : Mq ≤ 9223372036854775807 := by rw [Nq.out]; omega
  have Sr : nlen 4294967296 Vr ≤ 64 := by rw [hVr.out]; exact Nat.le_trans (nlen_mono (by omega) (Nat.mod_le X Y)) (by omega)
  have Tr : valB Mr Vr = true := val_of Nr.out Sr
  have Lr : Hid (Vr < 4294967296 ^ Mr) := Lib.hid (lt_of Nr.out)
  have Gr : Mr ≤ 9223372036854775807 := by rw [Nr.out]; omega
  have Sp : nlen 4294967296 Vp ≤ 64 := by rw [hVp.out]; exact Nat.le_trans (nlen_mono (by omega) hqy) (by omega)
  have Tp : valB Mp Vp = true := val_of Np.out Sp
  have Lp : Hid (Vp < 4294967296 ^ Mp) := Lib.hid (lt_of Np.out)
  have Gp : Mp ≤ 9223372036854775807 := by rw [Np.out]; omega
  have Ns : Hid (n = nlen 4294967296 X) := Lib.hid hNx.symm
  have e1 := div_is ha.out hb.out hpos
  rw [← hVq.out, ← hVr.out] at e1
  have e2 := mul_is Tq hb.out (Nat.le_trans (nlen_mono (by omega) hqy) (by omega))
  rw [← hVp.out] at e2
  have e3 := add_is Tp Tr (by rw [hall]; omega)
  rw [hall] at e3
  have k1 : ∀ A c w, Cel .u32 w A (dg 4294967296 n X) → Calls Try.prog 15 #[.agg #[.slice A n c]] w fun e w' => e = .returned (.bool true) ∧ Below w.heap.size w w' := fun A c w hI =>
    valid_any A n c X true (hX) (Lib.hid (by rw [ha.out])) (hn) w hI
  have k2 : ∀ A c w, Cel .u32 w A (dg 4294967296 m Y) → Calls Try.prog 15 #[.agg #[.slice A m c]] w fun e w' => e = .returned (.bool true) ∧ Below w.heap.size w w' := fun A c w hI =>
    valid_any A m c Y true (hY) (Lib.hid (by rw [hb.out])) (hm) w hI
  have k3 : ∀ A c D d w, Cel .u32 w A (dg 4294967296 n X) → Cel .u32 w D (dg 4294967296 m Y) → Calls Try.prog 30 #[.agg #[.slice A n c], .agg #[.slice D m d]] w (DivR Vq Vr 0 w) := fun A c D d w hI hJ => by
    have cc := divmod_any A D n c m d X Y (hX) (hY) (hn) (hm) w hI hJ
    rw [e1.1, e1.2.1, e1.2.2] at cc
    exact cc
  have k4 : ∀ A c D d w, Cel .u32 w A (dg 4294967296 Mq Vq) → Cel .u32 w D (dg 4294967296 m Y) → Calls Try.prog 25 #[.agg #[.slice A Mq c], .agg #[.slice D m d]] w (ResP Vp 0 w) := fun A c D d w hI hJ => by
    have cc := mul_any A D Mq c m d Vq Y (Lq) (hY) (Gq) (hm) w hI hJ
    rw [e2.1, e2.2] at cc
    exact cc
  have k5 : ∀ A c D d w, Cel .u32 w A (dg 4294967296 Mp Vp) → Cel .u32 w D (dg 4294967296 Mr Vr) → Calls Try.prog 20 #[.agg #[.slice A Mp c], .agg #[.slice D Mr d]] w (ResP X 0 w) := fun A c D d w hI hJ => by
    have cc := add_any A D Mp c Mr d Vp Vr (Lp) (Lr) (Gp) (Gr) w hI hJ
    rw [e3.1, e3.2] at cc
    exact cc
  have k6 : ∀ A c w, Cel .u32 w A (dg 4294967296 Mq Vq) → Calls Try.prog 15 #[.agg #[.slice A Mq c]] w fun e w' => e = .returned (.bool true) ∧ Below w.heap.size w w' := fun A c w hI =>
    valid_any A Mq c Vq true (Lq) (Lib.hid (by rw [Tq])) (Gq) w hI
  have k7 : ∀ A c w, Cel .u32 w A (dg 4294967296 Mr Vr) → Calls Try.prog 15 #[.agg #[.slice A Mr c]] w fun e w' => e = .returned (.bool true) ∧ Below w.heap.size w w' := fun A c w hI =>
    valid_any A Mr c Vr true (Lr) (Lib.hid (by rw [Tr])) (Gr) w hI
  have k8 : ∀ A c D d w, Cel .u32 w A (dg 4294967296 Mr Vr) → Cel .u32 w D (dg 4294967296 m Y) → Calls Try.prog 17 #[.agg #[.slice A Mr c], .agg #[.slice D m d]] w fun e w' => e = .returned (.int .i64 (-1)) ∧ Below w.heap.size w w' := fun A c D d w hI hJ =>
    cmp_any A D Mr c m d Vr Y (-1) (Lr) (hY) (Gr) (hm) (Lib.hid (by rw [cmpV_ok Tr hb.out, cmpI_lt hless])) w hI hJ
  have k9 : ∀ A c D d w, Cel .u32 w A (dg 4294967296 n X) → Cel .u32 w D (dg 4294967296 n X) → Calls Try.prog 17 #[.agg #[.slice A n c], .agg #[.slice D n d]] w fun e w' => e = .returned (.int .i64 (0)) ∧ Below w.heap.size w w' := fun A c D d w hI hJ =>
    cmp_any A D n c n d X X (0) (hX) (hX) (hn) (hn) (Lib.hid (by rw [cmpV_ok ha.out ha.out, cmpI_eq rfl])) w hI hJ
  have k10 := divided_any
  have tm : decide ((m : Int) = 0) = false := by simp; omega
  have tm2 : (m == 0) = false := by simp; omega
  have tm3 : ((m : Int) == 0) = false := by simp; omega
  clear hX hY e1 e2 e3 hVq hVr hVp hqy hall hless Sq Sr Sp Tq Tr Tp Lq Lr Lp ha hb hp hpos hNx
  have Cp0_0 := Lib.hid hIp0
  clear hIp0
  have Cp1_0 := Lib.hid hIp1
  clear hIp1
  go_enter Try.func7, Try.ntmps7
  go_wp2_with (first
    | (go_at_call 15; (with_reducible refine (k1 A c _ (cel_al (cel_al Cp0_0.out _) _)).mono ?_); rintro e w1 ⟨rfl, hb⟩; have Cp0_1 := Lib.hid ((cel_al (cel_al Cp0_0.out _) _).below hb); have Cp1_1 := Lib.hid ((cel_al (cel_al Cp1_0.out _) _).below hb); have Xp0_1 := Lib.hid ((bx2 _ _ _ _ _).1.below hb); have Xp1_1 := Lib.hid ((bx2 _ _ _ _ _).2.below hb); have B1 := Lib.hid (below_on (below_two _ _ _) hb); have xp1 := Xp1_1.out.cell; clear hb)
    | (go_at_call 15; (with_reducible refine (k2 D d _ (Cp1_1.out)).mono ?_); rintro e w2 ⟨rfl, hb⟩; have Cp0_2 := Lib.hid ((Cp0_1.out).below hb); have Cp1_2 := Lib.hid ((Cp1_1.out).below hb); have Xp0_2 := Lib.hid ((Xp0_1.out).below hb); have Xp1_2 := Lib.hid ((Xp1_1.out).below hb); have B2 := Lib.hid (below_on (B1.out) hb); clear xp1; have xp0 := Xp0_2.out.cell; have xp1 := Xp1_2.out.cell; clear hb)
    | (go_at_call 30; (with_reducible refine (k3 A c D d _ (Cp0_2.out) (Cp1_2.out)).mono ?_); rintro e w3 ⟨Aq, nq, cq, Ar, nr, cr, rfl, qq, qr, hb⟩; have Cp0_3 := Lib.hid ((Cp0_2.out).below hb); have Cp1_3 := Lib.hid ((Cp1_2.out).below hb); have Xp0_3 := Lib.hid ((Xp0_2.out).below hb); have Xp1_3 := Lib.hid ((Xp1_2.out).below hb); have B3 := Lib.hid (below_on (B2.out) hb); obtain ⟨z, g⟩ := num_at Nq.out qq; subst z; have Cq_3 := Lib.hid g; clear g qq; obtain ⟨z, g⟩ := num_at Nr.out qr; subst z; have Cr_3 := Lib.hid g; clear g qr; clear xp0 xp1; have xp1 := fun o0 o1 => (bx_al (bx_al Xp1_3.out o0) o1).cell; clear hb)
    | (go_at_call 25; (with_reducible refine (k4 Aq cq D d _ (cel_al (cel_al Cq_3.out _) _) (cel_al (cel_al Cp1_3.out _) _)).mono ?_); rintro e w4 ⟨Ap, np, cp, rfl, qp, hb⟩; have Cp0_4 := Lib.hid ((cel_al (cel_al Cp0_3.out _) _).below hb); have Cp1_4 := Lib.hid ((cel_al (cel_al Cp1_3.out _) _).below hb); have Cq_4 := Lib.hid ((cel_al (cel_al Cq_3.out _) _).below hb); have Cr_4 := Lib.hid ((cel_al (cel_al Cr_3.out _) _).below hb); have Xp0_4 := Lib.hid ((bx_al (bx_al (Xp0_3.out) _) _).below hb); have Xp1_4 := Lib.hid ((bx_al (bx_al (Xp1_3.out) _) _).below hb); have Xq_4 := Lib.hid ((bx2 _ _ _ _ _).1.below hb); have Xr_4 := Lib.hid ((bx2 _ _ _ _ _).2.below hb); have B4 := Lib.hid (below_on (bel_alloc (bel_alloc (B3.out) _) _) hb); obtain ⟨z, g⟩ := num_at Np.out qp; subst z; have Cp_4 := Lib.hid g; clear g qp; clear xp1; have xr := fun o0 => (bx_al Xr_4.out o0).cell; clear hb)
    | (go_at_call 20; (with_reducible refine (k5 Ap cp Ar cr _ (cel_al Cp_4.out _) (cel_al Cr_4.out _)).mono ?_); rintro e w5 ⟨As, ns, cs, rfl, qs, hb⟩; have Cp0_5 := Lib.hid ((cel_al Cp0_4.out _).below hb); have Cp1_5 := Lib.hid ((cel_al Cp1_4.out _).below hb); have Cq_5 := Lib.hid ((cel_al Cq_4.out _).below hb); have Cr_5 := Lib.hid ((cel_al Cr_4.out _).below hb); have Xp0_5 := Lib.hid ((bx_al (Xp0_4.out) _).below hb); have Xp1_5 := Lib.hid ((bx_al (Xp1_4.out) _).below hb); have Xq_5 := Lib.hid ((bx_al (Xq_4.out) _).below hb); have Xr_5 := Lib.hid ((bx_al (Xr_4.out) _).below hb); have B5 := Lib.hid (below_on (bel_alloc (B4.out) _) hb); obtain ⟨z, g⟩ := num_at Ns.out qs; subst z; have Cs_5 := Lib.hid g; clear g qs; clear xr; have xq := fun o0 => (bx_al Xq_5.out o0).cell; clear hb)
    | (go_at_call 15; (with_reducible refine (k6 Aq cq _ (cel_al Cq_5.out _)).mono ?_); rintro e w6 ⟨rfl, hb⟩; have Cp0_6 := Lib.hid ((cel_al Cp0_5.out _).below hb); have Cp1_6 := Lib.hid ((cel_al Cp1_5.out _).below hb); have Cr_6 := Lib.hid ((cel_al Cr_5.out _).below hb); have Cs_6 := Lib.hid ((cel_al Cs_5.out _).below hb); have Xp0_6 := Lib.hid ((bx_al (Xp0_5.out) _).below hb); have Xp1_6 := Lib.hid ((bx_al (Xp1_5.out) _).below hb); have Xr_6 := Lib.hid ((bx_al (Xr_5.out) _).below hb); have Xs_6 := Lib.hid ((Bx.new_ _ _ _).below hb); have B6 := Lib.hid (below_on (bel_alloc (B5.out) _) hb); clear xq; have xr := Xr_6.out.cell; clear hb)
    | (go_at_call 15; (with_reducible refine (k7 Ar cr _ (Cr_6.out)).mono ?_); rintro e w7 ⟨rfl, hb⟩; have Cp0_7 := Lib.hid ((Cp0_6.out).below hb); have Cp1_7 := Lib.hid ((Cp1_6.out).below hb); have Cr_7 := Lib.hid ((Cr_6.out).below hb); have Cs_7 := Lib.hid ((Cs_6.out).below hb); have Xp0_7 := Lib.hid ((Xp0_6.out).below hb); have Xp1_7 := Lib.hid ((Xp1_6.out).below hb); have Xr_7 := Lib.hid ((Xr_6.out).below hb); have Xs_7 := Lib.hid ((Xs_6.out).below hb); have B7 := Lib.hid (below_on (B6.out) hb); clear xr; have xp1 := Xp1_7.out.cell; have xr := Xr_7.out.cell; clear hb)
    | (go_at_call 17; (with_reducible refine (k8 Ar cr D d _ (Cr_7.out) (Cp1_7.out)).mono ?_); rintro e w8 ⟨rfl, hb⟩; have Cp0_8 := Lib.hid ((Cp0_7.out).below hb); have Cs_8 := Lib.hid ((Cs_7.out).below hb); have Xp0_8 := Lib.hid ((Xp0_7.out).below hb); have Xs_8 := Lib.hid ((Xs_7.out).below hb); have B8 := Lib.hid (below_on (B7.out) hb); clear xp1 xr; have xp0 := Xp0_8.out.cell; have xs := Xs_8.out.cell; clear hb)
    | (go_at_call 17; (with_reducible refine (k9 As cs A c _ (Cs_8.out) (Cp0_8.out)).mono ?_); rintro e w9 ⟨rfl, hb⟩; have Xp0_9 := Lib.hid ((Xp0_8.out).below hb); have Xs_9 := Lib.hid ((Xs_8.out).below hb); have B9 := Lib.hid (below_on (B8.out) hb); clear xp0 xs; have xp0 := Xp0_9.out.cell; have xs := Xs_9.out.cell; clear hb)
    | (go_at_call 29; (with_reducible refine (k10 _).mono ?_); rintro e w10 ⟨rfl, hb⟩; have B10 := Lib.hid (below_on (B9.out) hb); clear xp0 xs; clear hb))
  go_ret
  exact ⟨rfl, B10.out⟩
theorem divides_any (A D : Option Addr) (n c m d X Y : Nat) (hX : Hid (X < 4294967296 ^ n)) (hY : Hid (Y < 4294967296 ^ m)) (hnc : n ≤ c) (hmd : m ≤ d) (hn : n ≤ 9223372036854775807) (hm : m ≤ 9223372036854775807) (w : World) (hI : Cel .u32 w A (dg 4294967296 n X)) (hJ : Cel .u32 w D (dg 4294967296 m Y)) :
    Calls Try.prog 7 #[.agg #[.slice A n c], .agg #[.slice D m d]] w fun e w' => e = .returned (.bool true) ∧ Below w.heap.size w w' := by
  by_cases ha : valB n X = true
  · by_cases hb : valB m Y = true
    · by_cases hp : 0 < Y
      · exact divides_ok A D n c m d X Y hX hY hnc hmd hn hm (Lib.hid ha) (Lib.hid hb) (Lib.hid hp) w hI hJ
      · obtain rfl : Y = 0 := by omega
        obtain rfl : m = 0 := by have h := (valB_iff.1 hb).2; rw [nlen_zero] at h; exact h.symm
        exact divides_z A D n c d X hX hnc hn (Lib.hid ha) w hI hJ
    · exact divides_b A D n c m d X Y hX hY hnc hmd hn hm (Lib.hid ha) (Lib.hid (by simpa using hb)) w hI hJ
  · exact divides_a A D n c m d X Y hX hY hnc hmd hn hm (Lib.hid (by simpa using ha)) w hI hJ
set_option maxHeartbeats 4000000 in
theorem ring_a (A D F : Option Addr) (n c m d k f X Y Z : Nat) (hX : Hid (X < 4294967296 ^ n)) (hY : Hid (Y < 4294967296 ^ m)) (hZ : Hid (Z < 4294967296 ^ k)) (hn : n ≤ 9223372036854775807) (hm : m ≤ 9223372036854775807) (hk : k ≤ 9223372036854775807) (hs : Hid (addE m Y k Z ≠ 0)) (w : World) (hIp0 : Cel .u32 w A (dg 4294967296 n X)) (hIp1 : Cel .u32 w D (dg 4294967296 m Y)) (hIp2 : Cel .u32 w F (dg 4294967296 k Z)) :
    Calls Try.prog 9 #[.agg #[.slice A n c], .agg #[.slice D m d], .agg #[.slice F k f]] w fun e w' => e = .returned (.bool true) ∧ Below w.heap.size w w' := by
  obtain ⟨Vs, hVs⟩ : ∃ V, Hid (V = addV m Y k Z) := ⟨_, Lib.hid rfl⟩
  obtain ⟨Ms, Ns⟩ : ∃ N, Hid (N = nlen 4294967296 Vs) := ⟨_, Lib.hid rfl⟩
  have Ss : nlen 4294967296 Vs ≤ 64 := by rw [hVs.out]; exact addV_len _ _ _ _
  have Ts : valB Ms Vs = true := val_of Ns.out Ss
  have Ls : Hid (Vs < 4294967296 ^ Ms) := Lib.hid (lt_of Ns.out)
  have Gs : Ms ≤ 9223372036854775807 := by rw [Ns.out]; omega
  obtain ⟨Vp, hVp⟩ : ∃ V, Hid (V = mulV n X Ms Vs) := ⟨_, Lib.hid rfl⟩
  obtain ⟨Mp, Np⟩ : ∃ N, Hid (N = nlen 4294967296 Vp) := ⟨_, Lib.hid rfl⟩
  have Sp : nlen 4294967296 Vp ≤ 64 := by rw [hVp.out]; exact mulV_len _ _ _ _
  have Tp : valB Mp Vp = true := val_of Np.out Sp
  have Lp : Hid (Vp < 4294967296 ^ Mp) := Lib.hid (lt_of Np.out)
  have Gp : Mp ≤ 9223372036854775807 := by rw [Np.out]; omega
  obtain ⟨Es, hEs⟩ : ∃ V, Hid (V = addE m Y k Z) := ⟨_, Lib.hid rfl⟩
  obtain ⟨Ep, hEp⟩ : ∃ V, Hid (V = mulE n X Ms Vs) := ⟨_, Lib.hid rfl⟩
  have tE : (Es != 0) = true := by have := hs.out; rw [hEs.out]; simpa using this
  have k1 : ∀ A c D d w, Cel .u32 w A (dg 4294967296 m Y) → Cel .u32 w D (dg 4294967296 k Z) → Calls Try.prog 20 #[.agg #[.slice A m c], .agg #[.slice D k d]] w (ResP Vs Es w) := fun A c D d w hI hJ => by
    have cc := add_any A D m c k d Y Z (hY) (hZ) (hm) (hk) w hI hJ
    rw [← hVs.out, ← hEs.out] at cc
    exact cc
  have k2 : ∀ A c D d w, Cel .u32 w A (dg 4294967296 n X) → Cel .u32 w D (dg 4294967296 Ms Vs) → Calls Try.prog 25 #[.agg #[.slice A n c], .agg #[.slice D Ms d]] w (ResP Vp Ep w) := fun A c D d w hI hJ => by
    have cc := mul_any A D n c Ms d X Vs (hX) (Ls) (hn) (Gs) w hI hJ
    rw [← hVp.out, ← hEp.out] at cc
    exact cc
  have k3 := multiplied_any
  clear hX hY hZ hVs hVp hEs hEp Ss Ts Ls Sp Tp Lp
  have Cp0_0 := Lib.hid hIp0
  clear hIp0
  have Cp1_0 := Lib.hid hIp1
  clear hIp1
  have Cp2_0 := Lib.hid hIp2
  clear hIp2
  go_enter Try.func9, Try.ntmps9
  go_wp2_with (first
    | (go_at_call 20; (with_reducible refine (k1 D d F f _ (cel_al (cel_al (cel_al Cp1_0.out _) _) _) (cel_al (cel_al (cel_al Cp2_0.out _) _) _)).mono ?_); rintro e w1 ⟨As, ns, cs, rfl, qs, hb⟩; have Cp0_1 := Lib.hid ((cel_al (cel_al (cel_al Cp0_0.out _) _) _).below hb); have Xp0_1 := Lib.hid ((bx3 _ _ _ _ _ _ _).1.below hb); have B1 := Lib.hid (below_on (below_three _ _ _ _) hb); obtain ⟨z, g⟩ := num_at Ns.out qs; subst z; have Cs_1 := Lib.hid g; clear g qs; have xp0 := fun o0 => (bx_al Xp0_1.out o0).cell; clear hb)
    | (go_at_call 25; (with_reducible refine (k2 A c As cs _ (cel_al Cp0_1.out _) (cel_al Cs_1.out _)).mono ?_); rintro e w2 ⟨Ap, np, cp, rfl, qp, hb⟩; have B2 := Lib.hid (below_on (bel_alloc (B1.out) _) hb); obtain ⟨z, g⟩ := num_at Np.out qp; subst z; have Cp_2 := Lib.hid g; clear g qp; clear xp0; clear hb)
    | (go_at_call 27; (with_reducible refine (k3 _).mono ?_); rintro e w3 ⟨rfl, hb⟩; have B3 := Lib.hid (below_on (bel_alloc (B2.out) _) hb); clear hb))
  go_ret
  exact ⟨rfl, B3.out⟩
set_option maxHeartbeats 4000000 in
theorem ring_b (A D F : Option Addr) (n c m d k f X Y Z : Nat) (hX : Hid (X < 4294967296 ^ n)) (hY : Hid (Y < 4294967296 ^ m)) (hZ : Hid (Z < 4294967296 ^ k)) (hn : n ≤ 9223372036854775807) (hm : m ≤ 9223372036854775807) (hk : k ≤ 9223372036854775807) (hs : Hid (addE m Y k Z = 0)) (hp : Hid (∀ M, M = nlen 4294967296 (addV m Y k Z) → mulE n X M (addV m Y k Z) ≠ 0)) (w : World) (hIp0 : Cel .u32 w A (dg 4294967296 n X)) (hIp1 : Cel .u32 w D (dg 4294967296 m Y)) (hIp2 : Cel .u32 w F (dg 4294967296 k Z)) :
    Calls Try.prog 9 #[.agg #[.slice A n c], .agg #[.slice D m d], .agg #[.slice F k f]] w fun e w' => e = .returned (.bool true) ∧ Below w.heap.size w w' := by
  obtain ⟨Vs, hVs⟩ : ∃ V, Hid (V = addV m Y k Z) := ⟨_, Lib.hid rfl⟩
  obtain ⟨Ms, Ns⟩ : ∃ N, Hid (N = nlen 4294967296 Vs) := ⟨_, Lib.hid rfl⟩
  have Ss : nlen 4294967296 Vs ≤ 64 := by rw [hVs.out]; exact addV_len _ _ _ _
  have Ts : valB Ms Vs = true := val_of Ns.out Ss
  have Ls : Hid (Vs < 4294967296 ^ Ms) := Lib.hid (lt_of Ns.out)
  have Gs : Ms ≤ 9223372036854775807 := by rw [Ns.out]; omega
  obtain ⟨Vp, hVp⟩ : ∃ V, Hid (V = mulV n X Ms Vs) := ⟨_, Lib.hid rfl⟩
  obtain ⟨Mp, Np⟩ : ∃ N, Hid (N = nlen 4294967296 Vp) := ⟨_, Lib.hid rfl⟩
  have Sp : nlen 4294967296 Vp ≤ 64 := by rw [hVp.out]; exact mulV_len _ _ _ _
  have Tp : valB Mp Vp = true := val_of Np.out Sp
  have Lp : Hid (Vp < 4294967296 ^ Mp) := Lib.hid (lt_of Np.out)
  have Gp : Mp ≤ 9223372036854775807 := by rw [Np.out]; omega
  obtain ⟨Es, hEs⟩ : ∃ V, Hid (V = addE m Y k Z) := ⟨_, Lib.hid rfl⟩
  obtain ⟨Ep, hEp⟩ : ∃ V, Hid (V = mulE n X Ms Vs) := ⟨_, Lib.hid rfl⟩
  have hs0 : Es = 0 := by rw [hEs.out]; exact hs.out
  have tE : (Ep != 0) = true := by have := hp.out Ms (by rw [Ns.out, hVs.out]); rw [hEp.out, hVs.out]; simpa using this
  have k1 : ∀ A c D d w, Cel .u32 w A (dg 4294967296 m Y) → Cel .u32 w D (dg 4294967296 k Z) → Calls Try.prog 20 #[.agg #[.slice A m c], .agg #[.slice D k d]] w (ResP Vs 0 w) := fun A c D d w hI hJ => by
    have cc := add_any A D m c k d Y Z (hY) (hZ) (hm) (hk) w hI hJ
    rw [← hVs.out, ← hEs.out, hs0] at cc
    exact cc
  have k2 : ∀ A c D d w, Cel .u32 w A (dg 4294967296 n X) → Cel .u32 w D (dg 4294967296 Ms Vs) → Calls Try.prog 25 #[.agg #[.slice A n c], .agg #[.slice D Ms d]] w (ResP Vp Ep w) := fun A c D d w hI hJ => by
    have cc := mul_any A D n c Ms d X Vs (hX) (Ls) (hn) (Gs) w hI hJ
    rw [← hVp.out, ← hEp.out] at cc
    exact cc
  have k3 := multiplied_any
  clear hX hY hZ hVs hVp hEs hEp Ss Ts Ls Sp Tp Lp
  have Cp0_0 := Lib.hid hIp0
  clear hIp0
  have Cp1_0 := Lib.hid hIp1
  clear hIp1
  have Cp2_0 := Lib.hid hIp2
  clear hIp2
  go_enter Try.func9, Try.ntmps9
  go_wp2_with (first
    | (go_at_call 20; (with_reducible refine (k1 D d F f _ (cel_al (cel_al (cel_al Cp1_0.out _) _) _) (cel_al (cel_al (cel_al Cp2_0.out _) _) _)).mono ?_); rintro e w1 ⟨As, ns, cs, rfl, qs, hb⟩; have Cp0_1 := Lib.hid ((cel_al (cel_al (cel_al Cp0_0.out _) _) _).below hb); have Xp0_1 := Lib.hid ((bx3 _ _ _ _ _ _ _).1.below hb); have B1 := Lib.hid (below_on (below_three _ _ _ _) hb); obtain ⟨z, g⟩ := num_at Ns.out qs; subst z; have Cs_1 := Lib.hid g; clear g qs; have xp0 := fun o0 => (bx_al Xp0_1.out o0).cell; clear hb)
    | (go_at_call 25; (with_reducible refine (k2 A c As cs _ (cel_al Cp0_1.out _) (cel_al Cs_1.out _)).mono ?_); rintro e w2 ⟨Ap, np, cp, rfl, qp, hb⟩; have B2 := Lib.hid (below_on (bel_alloc (B1.out) _) hb); obtain ⟨z, g⟩ := num_at Np.out qp; subst z; have Cp_2 := Lib.hid g; clear g qp; clear xp0; clear hb)
    | (go_at_call 27; (with_reducible refine (k3 _).mono ?_); rintro e w3 ⟨rfl, hb⟩; have B3 := Lib.hid (below_on (bel_alloc (B2.out) _) hb); clear hb))
  go_ret
  exact ⟨rfl, B3.out⟩
set_option maxHeartbeats 4000000 in
theorem ring_ok (A D F : Option Addr) (n c m d k f X Y Z : Nat) (hX : Hid (X < 4294967296 ^ n)) (hY : Hid (Y < 4294967296 ^ m)) (hZ : Hid (Z < 4294967296 ^ k)) (hn : n ≤ 9223372036854775807) (hm : m ≤ 9223372036854775807) (hk : k ≤ 9223372036854775807) (hs : Hid (addE m Y k Z = 0)) (hp : Hid (∀ M, M = nlen 4294967296 (Y + Z) → mulE n X M (Y + Z) = 0)) (w : World) (hIp0 : Cel .u32 w A (dg 4294967296 n X)) (hIp1 : Cel .u32 w D (dg 4294967296 m Y)) (hIp2 : Cel .u32 w F (dg 4294967296 k Z)) :
    Calls Try.prog 9 #[.agg #[.slice A n c], .agg #[.slice D m d], .agg #[.slice F k f]] w fun e w' => e = .returned (.bool true) ∧ Below w.heap.size w w' := by
  have hv := rE_zero hs.out
  have hVs0 := (add_is hv.1 hv.2.1 hv.2.2)
  obtain ⟨Vs, hVs⟩ : ∃ V, Hid (V = Y + Z) := ⟨_, Lib.hid rfl⟩
  obtain ⟨Ms, Ns⟩ : ∃ N, Hid (N = nlen 4294967296 Vs) := ⟨_, Lib.hid rfl⟩
  have Ss : nlen 4294967296 Vs ≤ 64 := by rw [hVs.out]; exact hv.2.2
  have Ts : valB Ms Vs = true := val_of Ns.out Ss
  have Ls : Hid (Vs < 4294967296 ^ Ms) := Lib.hid (lt_of Ns.out)
  have Gs : Ms ≤ 9223372036854775807 := by rw [Ns.out]; omega
  have hv2 := rE_zero (hp.out Ms (by rw [Ns.out, hVs.out]))
  obtain ⟨Vp, hVp⟩ : ∃ V, Hid (V = X * Vs) := ⟨_, Lib.hid rfl⟩
  obtain ⟨Mp, Np⟩ : ∃ N, Hid (N = nlen 4294967296 Vp) := ⟨_, Lib.hid rfl⟩
  have Sp : nlen 4294967296 Vp ≤ 64 := by rw [hVp.out, hVs.out]; exact hv2.2.2
  have Tp : valB Mp Vp = true := val_of Np.out Sp
  have Lp : Hid (Vp < 4294967296 ^ Mp) := Lib.hid (lt_of Np.out)
  have Gp : Mp ≤ 9223372036854775807 := by rw [Np.out]; omega
  obtain ⟨Vx, hVx⟩ : ∃ V, Hid (V = X * Y) := ⟨_, Lib.hid rfl⟩
  obtain ⟨Mx, Nx⟩ : ∃ N, Hid (N = nlen 4294967296 Vx) := ⟨_, Lib.hid rfl⟩
  have Sx : nlen 4294967296 Vx ≤ 64 := by rw [hVx.out]; exact Nat.le_trans (nlen_mono (by omega) (by rw [hVp.out, hVs.out]; exact Nat.mul_le_mul_left X (Nat.le_add_right Y Z))) Sp
  have Tx : valB Mx Vx = true := val_of Nx.out Sx
  have Lx : Hid (Vx < 4294967296 ^ Mx) := Lib.hid (lt_of Nx.out)
  have Gx : Mx ≤ 9223372036854775807 := by rw [Nx.out]; omega
  obtain ⟨Vy, hVy⟩ : ∃ V, Hid (V = Z * X) := ⟨_, Lib.hid rfl⟩
  obtain ⟨My, Ny⟩ : ∃ N, Hid (N = nlen 4294967296 Vy) := ⟨_, Lib.hid rfl⟩
  have Sy : nlen 4294967296 Vy ≤ 64 := by rw [hVy.out]; exact Nat.le_trans (nlen_mono (by omega) (by rw [hVp.out, hVs.out, Nat.mul_comm]; exact Nat.mul_le_mul_left X (Nat.le_add_left Z Y))) Sp
  have Ty : valB My Vy = true := val_of Ny.out Sy
  have Ly : Hid (Vy < 4294967296 ^ My) := Lib.hid (lt_of Ny.out)
  have Gy : My ≤ 9223372036854775807 := by rw [Ny.out]; omega
  have hz : Vy + Vx = Vp := by rw [hVy.out, hVx.out, hVp.out, hVs.out, Nat.mul_add, Nat.mul_comm Z X, Nat.add_comm]
  have Nb : Hid (k = nlen 4294967296 Z) := Lib.hid (valB_iff.1 hv.2.1).2.symm
  have Nzz : Hid (Mp = nlen 4294967296 Vp) := Np
  have e1 := hVs0
  rw [← hVs.out] at e1
  have e2 := mul_is hv2.1 Ts (by rw [← hVp.out]; exact Sp)
  rw [← hVp.out] at e2
  have e3 := mul_is hv2.1 hv.1 (by rw [← hVx.out]; exact Sx)
  rw [← hVx.out] at e3
  have e4 := mul_is hv.2.1 hv2.1 (by rw [← hVy.out]; exact Sy)
  rw [← hVy.out] at e4
  have e5 := add_is Ty Tx (by rw [hz]; exact Sp)
  rw [hz] at e5
  have e6 := sub_is Ts hv.1 (show Y ≤ Vs by rw [hVs.out]; exact Nat.le_add_right Y Z)
  rw [show Vs - Y = Z by rw [hVs.out]; omega] at e6
  have k1 : ∀ A c D d w, Cel .u32 w A (dg 4294967296 m Y) → Cel .u32 w D (dg 4294967296 k Z) → Calls Try.prog 20 #[.agg #[.slice A m c], .agg #[.slice D k d]] w (ResP Vs 0 w) := fun A c D d w hI hJ => by
    have cc := add_any A D m c k d Y Z (hY) (hZ) (hm) (hk) w hI hJ
    rw [e1.1, e1.2] at cc
    exact cc
  have k2 : ∀ A c D d w, Cel .u32 w A (dg 4294967296 n X) → Cel .u32 w D (dg 4294967296 Ms Vs) → Calls Try.prog 25 #[.agg #[.slice A n c], .agg #[.slice D Ms d]] w (ResP Vp 0 w) := fun A c D d w hI hJ => by
    have cc := mul_any A D n c Ms d X Vs (hX) (Ls) (hn) (Gs) w hI hJ
    rw [e2.1, e2.2] at cc
    exact cc
  have k3 : ∀ A c D d w, Cel .u32 w A (dg 4294967296 n X) → Cel .u32 w D (dg 4294967296 m Y) → Calls Try.prog 25 #[.agg #[.slice A n c], .agg #[.slice D m d]] w (ResP Vx 0 w) := fun A c D d w hI hJ => by
    have cc := mul_any A D n c m d X Y (hX) (hY) (hn) (hm) w hI hJ
    rw [e3.1, e3.2] at cc
    exact cc
  have k4 : ∀ A c D d w, Cel .u32 w A (dg 4294967296 k Z) → Cel .u32 w D (dg 4294967296 n X) → Calls Try.prog 25 #[.agg #[.slice A k c], .agg #[.slice D n d]] w (ResP Vy 0 w) := fun A c D d w hI hJ => by
    have cc := mul_any A D k c n d Z X (hZ) (hX) (hk) (hn) w hI hJ
    rw [e4.1, e4.2] at cc
    exact cc
  have k5 : ∀ A c D d w, Cel .u32 w A (dg 4294967296 My Vy) → Cel .u32 w D (dg 4294967296 Mx Vx) → Calls Try.prog 20 #[.agg #[.slice A My c], .agg #[.slice D Mx d]] w (ResP Vp 0 w) := fun A c D d w hI hJ => by
    have cc := add_any A D My c Mx d Vy Vx (Ly) (Lx) (Gy) (Gx) w hI hJ
    rw [e5.1, e5.2] at cc
    exact cc
  have k6 : ∀ A c D d w, Cel .u32 w A (dg 4294967296 Ms Vs) → Cel .u32 w D (dg 4294967296 m Y) → Calls Try.prog 22 #[.agg #[.slice A Ms c], .agg #[.slice D m d]] w (ResP Z 0 w) := fun A c D d w hI hJ => by
    have cc := sub_any A D Ms c m d Vs Y (Ls) (hY) (Gs) (hm) w hI hJ
    rw [e6.1, e6.2] at cc
    exact cc
  have k7 : ∀ A c D d w, Cel .u32 w A (dg 4294967296 Mp Vp) → Cel .u32 w D (dg 4294967296 Mp Vp) → Calls Try.prog 17 #[.agg #[.slice A Mp c], .agg #[.slice D Mp d]] w fun e w' => e = .returned (.int .i64 (0)) ∧ Below w.heap.size w w' := fun A c D d w hI hJ =>
    cmp_any A D Mp c Mp d Vp Vp (0) (Lp) (Lp) (Gp) (Gp) (Lib.hid (by rw [cmpV_ok Tp Tp, cmpI_eq rfl])) w hI hJ
  have k8 : ∀ A c D d w, Cel .u32 w A (dg 4294967296 k Z) → Cel .u32 w D (dg 4294967296 k Z) → Calls Try.prog 17 #[.agg #[.slice A k c], .agg #[.slice D k d]] w fun e w' => e = .returned (.int .i64 (0)) ∧ Below w.heap.size w w' := fun A c D d w hI hJ =>
    cmp_any A D k c k d Z Z (0) (hZ) (hZ) (hk) (hk) (Lib.hid (by rw [cmpV_ok hv.2.1 hv.2.1, cmpI_eq rfl])) w hI hJ
  have k9 := multiplied_any
  clear hX hY hZ hv hv2 hVs0 hVs hVp hVx hVy hz e1 e2 e3 e4 e5 e6 Ss Ts Ls Sp Tp Lp Sx Tx Lx Sy Ty Ly hs hp
  have Cp0_0 := Lib.hid hIp0
  clear hIp0
  have Cp1_0 := Lib.hid hIp1
  clear hIp1
  have Cp2_0 := Lib.hid hIp2
  clear hIp2
  go_enter Try.func9, Try.ntmps9
  go_wp2_with (first
    | (go_at_call 20; (with_reducible refine (k1 D d F f _ (cel_al (cel_al (cel_al Cp1_0.out _) _) _) (cel_al (cel_al (cel_al Cp2_0.out _) _) _)).mono ?_); rintro e w1 ⟨As, ns, cs, rfl, qs, hb⟩; have Cp0_1 := Lib.hid ((cel_al (cel_al (cel_al Cp0_0.out _) _) _).below hb); have Cp1_1 := Lib.hid ((cel_al (cel_al (cel_al Cp1_0.out _) _) _).below hb); have Cp2_1 := Lib.hid ((cel_al (cel_al (cel_al Cp2_0.out _) _) _).below hb); have Xp0_1 := Lib.hid ((bx3 _ _ _ _ _ _ _).1.below hb); have Xp1_1 := Lib.hid ((bx3 _ _ _ _ _ _ _).2.1.below hb); have Xp2_1 := Lib.hid ((bx3 _ _ _ _ _ _ _).2.2.below hb); have B1 := Lib.hid (below_on (below_three _ _ _ _) hb); obtain ⟨z, g⟩ := num_at Ns.out qs; subst z; have Cs_1 := Lib.hid g; clear g qs; have xp0 := fun o0 => (bx_al Xp0_1.out o0).cell; clear hb)
    | (go_at_call 25; (with_reducible refine (k2 A c As cs _ (cel_al Cp0_1.out _) (cel_al Cs_1.out _)).mono ?_); rintro e w2 ⟨Ap, np, cp, rfl, qp, hb⟩; have Cp0_2 := Lib.hid ((cel_al Cp0_1.out _).below hb); have Cp1_2 := Lib.hid ((cel_al Cp1_1.out _).below hb); have Cp2_2 := Lib.hid ((cel_al Cp2_1.out _).below hb); have Cs_2 := Lib.hid ((cel_al Cs_1.out _).below hb); have Xp0_2 := Lib.hid ((bx_al (Xp0_1.out) _).below hb); have Xp1_2 := Lib.hid ((bx_al (Xp1_1.out) _).below hb); have Xp2_2 := Lib.hid ((bx_al (Xp2_1.out) _).below hb); have Xs_2 := Lib.hid ((Bx.new_ _ _ _).below hb); have B2 := Lib.hid (below_on (bel_alloc (B1.out) _) hb); obtain ⟨z, g⟩ := num_at Np.out qp; subst z; have Cp_2 := Lib.hid g; clear g qp; clear xp0; have xp0 := fun o0 => (bx_al Xp0_2.out o0).cell; have xp1 := fun o0 => (bx_al Xp1_2.out o0).cell; clear hb)
    | (go_at_call 25; (with_reducible refine (k3 A c D d _ (cel_al Cp0_2.out _) (cel_al Cp1_2.out _)).mono ?_); rintro e w3 ⟨Ax, nx, cx, rfl, qx, hb⟩; have Cp0_3 := Lib.hid ((cel_al Cp0_2.out _).below hb); have Cp1_3 := Lib.hid ((cel_al Cp1_2.out _).below hb); have Cp2_3 := Lib.hid ((cel_al Cp2_2.out _).below hb); have Cs_3 := Lib.hid ((cel_al Cs_2.out _).below hb); have Cp_3 := Lib.hid ((cel_al Cp_2.out _).below hb); have Xp0_3 := Lib.hid ((bx_al (Xp0_2.out) _).below hb); have Xp1_3 := Lib.hid ((bx_al (Xp1_2.out) _).below hb); have Xp2_3 := Lib.hid ((bx_al (Xp2_2.out) _).below hb); have Xs_3 := Lib.hid ((bx_al (Xs_2.out) _).below hb); have Xp_3 := Lib.hid ((Bx.new_ _ _ _).below hb); have B3 := Lib.hid (below_on (bel_alloc (B2.out) _) hb); obtain ⟨z, g⟩ := num_at Nx.out qx; subst z; have Cx_3 := Lib.hid g; clear g qx; clear xp0 xp1; have xp0 := fun o0 => (bx_al Xp0_3.out o0).cell; have xp2 := fun o0 => (bx_al Xp2_3.out o0).cell; clear hb)
    | (go_at_call 25; (with_reducible refine (k4 F f A c _ (cel_al Cp2_3.out _) (cel_al Cp0_3.out _)).mono ?_); rintro e w4 ⟨Ay, ny, cy, rfl, qy, hb⟩; have Cp1_4 := Lib.hid ((cel_al Cp1_3.out _).below hb); have Cp2_4 := Lib.hid ((cel_al Cp2_3.out _).below hb); have Cs_4 := Lib.hid ((cel_al Cs_3.out _).below hb); have Cp_4 := Lib.hid ((cel_al Cp_3.out _).below hb); have Cx_4 := Lib.hid ((cel_al Cx_3.out _).below hb); have Xp1_4 := Lib.hid ((bx_al (Xp1_3.out) _).below hb); have Xp2_4 := Lib.hid ((bx_al (Xp2_3.out) _).below hb); have Xs_4 := Lib.hid ((bx_al (Xs_3.out) _).below hb); have Xp_4 := Lib.hid ((bx_al (Xp_3.out) _).below hb); have Xx_4 := Lib.hid ((Bx.new_ _ _ _).below hb); have B4 := Lib.hid (below_on (bel_alloc (B3.out) _) hb); obtain ⟨z, g⟩ := num_at Ny.out qy; subst z; have Cy_4 := Lib.hid g; clear g qy; clear xp0 xp2; have xx := fun o0 => (bx_al Xx_4.out o0).cell; clear hb)
    | (go_at_call 20; (with_reducible refine (k5 Ay cy Ax cx _ (cel_al Cy_4.out _) (cel_al Cx_4.out _)).mono ?_); rintro e w5 ⟨Az, nz, cz, rfl, qz, hb⟩; have Cp1_5 := Lib.hid ((cel_al Cp1_4.out _).below hb); have Cp2_5 := Lib.hid ((cel_al Cp2_4.out _).below hb); have Cs_5 := Lib.hid ((cel_al Cs_4.out _).below hb); have Cp_5 := Lib.hid ((cel_al Cp_4.out _).below hb); have Xp1_5 := Lib.hid ((bx_al (Xp1_4.out) _).below hb); have Xp2_5 := Lib.hid ((bx_al (Xp2_4.out) _).below hb); have Xs_5 := Lib.hid ((bx_al (Xs_4.out) _).below hb); have Xp_5 := Lib.hid ((bx_al (Xp_4.out) _).below hb); have B5 := Lib.hid (below_on (bel_alloc (B4.out) _) hb); obtain ⟨z, g⟩ := num_at Np.out qz; subst z; have Cz_5 := Lib.hid g; clear g qz; clear xx; have xp1 := fun o0 => (bx_al Xp1_5.out o0).cell; have xs := fun o0 => (bx_al Xs_5.out o0).cell; clear hb)
    | (go_at_call 22; (with_reducible refine (k6 As cs D d _ (cel_al Cs_5.out _) (cel_al Cp1_5.out _)).mono ?_); rintro e w6 ⟨Ab, nb, cb, rfl, qb, hb⟩; have Cp2_6 := Lib.hid ((cel_al Cp2_5.out _).below hb); have Cp_6 := Lib.hid ((cel_al Cp_5.out _).below hb); have Cz_6 := Lib.hid ((cel_al Cz_5.out _).below hb); have Xp2_6 := Lib.hid ((bx_al (Xp2_5.out) _).below hb); have Xp_6 := Lib.hid ((bx_al (Xp_5.out) _).below hb); have Xz_6 := Lib.hid ((Bx.new_ _ _ _).below hb); have B6 := Lib.hid (below_on (bel_alloc (B5.out) _) hb); obtain ⟨z, g⟩ := num_at Nb.out qb; subst z; have Cb_6 := Lib.hid g; clear g qb; clear xp1 xs; have xp := fun o0 => (bx_al Xp_6.out o0).cell; have xz := fun o0 => (bx_al Xz_6.out o0).cell; clear hb)
    | (go_at_call 17; (with_reducible refine (k7 Az cz Ap cp _ (cel_al Cz_6.out _) (cel_al Cp_6.out _)).mono ?_); rintro e w7 ⟨rfl, hb⟩; have Cp2_7 := Lib.hid ((cel_al Cp2_6.out _).below hb); have Cb_7 := Lib.hid ((cel_al Cb_6.out _).below hb); have Xp2_7 := Lib.hid ((bx_al (Xp2_6.out) _).below hb); have Xb_7 := Lib.hid ((Bx.new_ _ _ _).below hb); have B7 := Lib.hid (below_on (bel_alloc (B6.out) _) hb); clear xp xz; have xp2 := Xp2_7.out.cell; have xb := Xb_7.out.cell; clear hb)
    | (go_at_call 17; (with_reducible refine (k8 Ab cb F f _ (Cb_7.out) (Cp2_7.out)).mono ?_); rintro e w8 ⟨rfl, hb⟩; have B8 := Lib.hid (below_on (B7.out) hb); clear xp2 xb; clear hb)
    | (go_at_call 27; (with_reducible refine (k9 _).mono ?_); rintro e w9 ⟨rfl, hb⟩; have B9 := Lib.hid (below_on (B8.out) hb); clear hb))
  go_ret
  exact ⟨rfl, B9.out⟩
theorem ring_any (A D F : Option Addr) (n c m d k f X Y Z : Nat) (hX : Hid (X < 4294967296 ^ n)) (hY : Hid (Y < 4294967296 ^ m)) (hZ : Hid (Z < 4294967296 ^ k)) (hn : n ≤ 9223372036854775807) (hm : m ≤ 9223372036854775807) (hk : k ≤ 9223372036854775807) (w : World) (hI : Cel .u32 w A (dg 4294967296 n X)) (hJ : Cel .u32 w D (dg 4294967296 m Y)) (hK : Cel .u32 w F (dg 4294967296 k Z)) :
    Calls Try.prog 9 #[.agg #[.slice A n c], .agg #[.slice D m d], .agg #[.slice F k f]] w fun e w' => e = .returned (.bool true) ∧ Below w.heap.size w w' := by
  by_cases hs : addE m Y k Z = 0
  · have hv := rE_zero hs
    have h2 := (add_is hv.1 hv.2.1 hv.2.2).2
    by_cases hp : mulE n X (nlen 4294967296 (Y + Z)) (Y + Z) = 0
    · exact ring_ok A D F n c m d k f X Y Z hX hY hZ hn hm hk (Lib.hid hs) (Lib.hid (fun M hM => by rw [hM]; exact hp)) w hI hJ hK
    · exact ring_b A D F n c m d k f X Y Z hX hY hZ hn hm hk (Lib.hid hs) (Lib.hid (fun M hM => by rw [hM, h2]; exact hp)) w hI hJ hK
  · exact ring_a A D F n c m d k f X Y Z hX hY hZ hn hm hk (Lib.hid hs) w hI hJ hK
end Go.Proofs.Ytjbckijeobmoeaa.natLe

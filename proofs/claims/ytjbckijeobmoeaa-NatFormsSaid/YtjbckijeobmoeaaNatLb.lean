/-
  The laws of sums, products, quotients, divisors.
-/
import Derived.Test.YtjbckijeobmoeaaNatLa
import Derived.Test.YtjbckijeobmoeaaNatZ
import Derived.Test.YtjbckijeobmoeaaNatDm
namespace Go.Proofs.Ytjbckijeobmoeaa.natLb
open Go.RowKit
open Go.Proofs.Ytjbckijeobmoeaa.natM Go.Proofs.Ytjbckijeobmoeaa.natA Go.Proofs.Ytjbckijeobmoeaa.natB Go.Proofs.Ytjbckijeobmoeaa.natC Go.Proofs.Ytjbckijeobmoeaa.natD Go.Proofs.Ytjbckijeobmoeaa.natE Go.Proofs.Ytjbckijeobmoeaa.natF Go.Proofs.Ytjbckijeobmoeaa.natG Go.Proofs.Ytjbckijeobmoeaa.natH Go.Proofs.Ytjbckijeobmoeaa.natI Go.Proofs.Ytjbckijeobmoeaa.natJ Go.Proofs.Ytjbckijeobmoeaa.natR Go.Proofs.Ytjbckijeobmoeaa.natS Go.Proofs.Ytjbckijeobmoeaa.natT Go.Proofs.Ytjbckijeobmoeaa.natX Go.Proofs.Ytjbckijeobmoeaa.natUi Go.Proofs.Ytjbckijeobmoeaa.natY Go.Proofs.Ytjbckijeobmoeaa.natZ Go.Proofs.Ytjbckijeobmoeaa.natDm Go.Proofs.Ytjbckijeobmoeaa.natGc Go.Proofs.Ytjbckijeobmoeaa.natLa
set_option linter.unusedVariables false

theorem bx_al {w : World} {b : Nat} {v : Value} (h : Bx w b v) (o : Obj) : Bx (w.alloc o) b v := h.alloc o
theorem num_at {w : World} {A : Option Addr} {n c v N : Nat} (hN : N = nlen 4294967296 v) (h : Num w A n c v) : N = n ∧ Cel .u32 w A (dg 4294967296 N v) := by
  have e : N = n := hN.trans h.1.symm
  subst e; exact ⟨rfl, h.2.2⟩
theorem cel_of_num {w : World} {A : Option Addr} {n c v : Nat} (h : Num w A n c v) : Cel .u32 w A (dg 4294967296 n v) := h.2.2
theorem zero_len : nlen 4294967296 0 ≤ 64 := by rw [nlen_zero]; omega
theorem rV_len (a b : Bool) (V : Nat) : nlen 4294967296 (rV a b V) ≤ 64 := by
  unfold rV; split
  · split
    · assumption
    · exact zero_len
  · exact zero_len
theorem addV_len (n X m Y : Nat) : nlen 4294967296 (addV n X m Y) ≤ 64 := rV_len _ _ _
theorem mulV_len (n X m Y : Nat) : nlen 4294967296 (mulV n X m Y) ≤ 64 := rV_len _ _ _
theorem val_len {n X : Nat} (h : valB n X = true) : nlen 4294967296 X ≤ 64 := by have := valB_iff.1 h; omega
theorem subV_len (n X m Y : Nat) : nlen 4294967296 (subV n X m Y) ≤ 64 := by
  unfold subV sV; split
  · rename_i h; exact sub_nlen (val_len h.1)
  · exact zero_len
theorem divQ_len (n X m Y : Nat) : nlen 4294967296 (divQ n X m Y) ≤ 64 := by
  unfold divQ dQ; split
  · rename_i h; exact Nat.le_trans (nlen_mono (by omega) (Nat.div_le_self X Y)) (val_len h.1)
  · exact zero_len
theorem divR_len (n X m Y : Nat) : nlen 4294967296 (divR n X m Y) ≤ 64 := by
  unfold divR dR; split
  · rename_i h; exact Nat.le_trans (nlen_mono (by omega) (Nat.mod_le X Y)) (val_len h.1)
  · exact zero_len
theorem gcdV_len (n X m Y : Nat) : nlen 4294967296 (gcdV n X m Y) ≤ 64 := by
  unfold gcdV gV; split
  · rename_i h
    by_cases hx : X = 0
    · subst hx; rw [Nat.gcd_zero_left]; exact val_len h.2
    · exact Nat.le_trans (nlen_mono (by omega) (Nat.le_of_dvd (by omega) (Nat.gcd_dvd_left X Y))) (val_len h.1)
  · exact zero_len

set_option maxHeartbeats 4000000 in
theorem products_any (A D : Option Addr) (n c m d X Y : Nat) (hX : Hid (X < 4294967296 ^ n)) (hY : Hid (Y < 4294967296 ^ m)) (hnc : n ≤ c) (hmd : m ≤ d) (hn : n ≤ 9223372036854775807) (hm : m ≤ 9223372036854775807) (w : World) (hIp0 : Cel .u32 w A (dg 4294967296 n X)) (hIp1 : Cel .u32 w D (dg 4294967296 m Y)) :
    Calls Try.prog 5 #[.agg #[.slice A n c], .agg #[.slice D m d]] w fun e w' => e = .returned (.bool true) ∧ Below w.heap.size w w' := by
  obtain ⟨Vc, hVc⟩ : ∃ V, Hid (V = mulV n X m Y) := ⟨_, Lib.hid rfl⟩
  obtain ⟨Mc, Nc⟩ : ∃ N, Hid (N = nlen 4294967296 Vc) := ⟨_, Lib.hid rfl⟩
  obtain ⟨Ec, hEc⟩ : ∃ V, Hid (V = mulE n X m Y) := ⟨_, Lib.hid rfl⟩
  have Lc : Mc ≤ 9223372036854775807 := by rw [Nc.out, hVc.out]; exact Nat.le_trans (mulV_len _ _ _ _) (by omega)
  have k1 : ∀ A c D d w, Cel .u32 w A (dg 4294967296 n X) → Cel .u32 w D (dg 4294967296 m Y) → Calls Try.prog 25 #[.agg #[.slice A n c], .agg #[.slice D m d]] w (ResP Vc Ec w) := fun A c D d w hI hJ => by
    rw [hVc.out, hEc.out]; exact mul_any A D n c m d X Y hX hY hn hm w hI hJ
  have k2 : ∀ A c D d w, Cel .u32 w A (dg 4294967296 n X) → Cel .u32 w D (dg 4294967296 m Y) → Calls Try.prog 26 #[.agg #[.slice A n c], .agg #[.slice D m d]] w (ResP Vc Ec w) := fun A c D d w hI hJ => by
    rw [hVc.out, hEc.out]; exact rxmul_any A D n c m d X Y hX hY hn hm w hI hJ
  have k3 : ∀ A c D d w, Cel .u32 w A (dg 4294967296 Mc Vc) → Cel .u32 w D (dg 4294967296 Mc Vc) → Calls Try.prog 13 #[.agg #[.slice A Mc c], .agg #[.slice D Mc d]] w fun e w' => e = .returned (.bool true) ∧ Below w.heap.size w w' := fun A c D d w hI hJ =>
    same_any A D Mc c d Vc Lc w hI hJ
  have k4 := multiplied_any
  clear hX hY Lc hVc hEc
  have Cp0_0 := Lib.hid hIp0
  clear hIp0
  have Cp1_0 := Lib.hid hIp1
  clear hIp1
  go_enter Try.func5, Try.ntmps5
  go_wp2_with (first
    | (go_at_call 25; (with_reducible refine (k1 A c D d _ (cel_al (cel_al Cp0_0.out _) _) (cel_al (cel_al Cp1_0.out _) _)).mono ?_); rintro e w1 ⟨Ac, nc, cc, rfl, qc, hb⟩; have Cp0_1 := Lib.hid ((cel_al (cel_al Cp0_0.out _) _).below hb); have Cp1_1 := Lib.hid ((cel_al (cel_al Cp1_0.out _) _).below hb); have Xp0_1 := Lib.hid ((bx2 _ _ _ _ _).1.below hb); have Xp1_1 := Lib.hid ((bx2 _ _ _ _ _).2.below hb); have B1 := Lib.hid (below_on (below_two _ _ _) hb); obtain ⟨z, g⟩ := num_at Nc.out qc; subst z; have Cc_1 := Lib.hid g; clear g qc; have xp0 := fun o0 => (bx_al Xp0_1.out o0).cell; have xp1 := fun o0 => (bx_al Xp1_1.out o0).cell; clear hb)
    | (go_at_call 26; (with_reducible refine (k2 A c D d _ (cel_al Cp0_1.out _) (cel_al Cp1_1.out _)).mono ?_); rintro e w2 ⟨Ad, nd, cd, rfl, qd, hb⟩; have Cc_2 := Lib.hid ((cel_al Cc_1.out _).below hb); have Xc_2 := Lib.hid ((Bx.new_ _ _ _).below hb); have B2 := Lib.hid (below_on (bel_alloc (B1.out) _) hb); obtain ⟨z, g⟩ := num_at Nc.out qd; subst z; have Cd_2 := Lib.hid g; clear g qd; clear xp0 xp1; have xc := fun o0 => (bx_al Xc_2.out o0).cell; clear hb)
    | (go_at_call 13; (with_reducible refine (k3 Ac cc Ad cd _ (cel_al Cc_2.out _) (cel_al Cd_2.out _)).mono ?_); rintro e w3 ⟨rfl, hb⟩; have B3 := Lib.hid (below_on (bel_alloc (B2.out) _) hb); clear xc; clear hb)
    | (go_at_call 27; (with_reducible refine (k4 _).mono ?_); rintro e w4 ⟨rfl, hb⟩; have B4 := Lib.hid (below_on (B3.out) hb); clear hb))
  go_ret
  exact ⟨rfl, B4.out⟩
set_option maxHeartbeats 4000000 in
theorem sums_any (A D : Option Addr) (n c m d X Y : Nat) (hX : Hid (X < 4294967296 ^ n)) (hY : Hid (Y < 4294967296 ^ m)) (hnc : n ≤ c) (hmd : m ≤ d) (hn : n ≤ 9223372036854775807) (hm : m ≤ 9223372036854775807) (w : World) (hIp0 : Cel .u32 w A (dg 4294967296 n X)) (hIp1 : Cel .u32 w D (dg 4294967296 m Y)) :
    Calls Try.prog 4 #[.agg #[.slice A n c], .agg #[.slice D m d]] w fun e w' => e = .returned (.bool true) ∧ Below w.heap.size w w' := by
  obtain ⟨Vc, hVc⟩ : ∃ V, Hid (V = addV n X m Y) := ⟨_, Lib.hid rfl⟩
  obtain ⟨Mc, Nc⟩ : ∃ N, Hid (N = nlen 4294967296 Vc) := ⟨_, Lib.hid rfl⟩
  obtain ⟨Ec, hEc⟩ : ∃ V, Hid (V = addE n X m Y) := ⟨_, Lib.hid rfl⟩
  have Lc : Mc ≤ 9223372036854775807 := by rw [Nc.out, hVc.out]; exact Nat.le_trans (addV_len _ _ _ _) (by omega)
  obtain ⟨Vx, hVx⟩ : ∃ V, Hid (V = subV n X m Y) := ⟨_, Lib.hid rfl⟩
  obtain ⟨Mx, Nx⟩ : ∃ N, Hid (N = nlen 4294967296 Vx) := ⟨_, Lib.hid rfl⟩
  obtain ⟨Ex, hEx⟩ : ∃ V, Hid (V = subE n X m Y) := ⟨_, Lib.hid rfl⟩
  have Lx : Mx ≤ 9223372036854775807 := by rw [Nx.out, hVx.out]; exact Nat.le_trans (subV_len _ _ _ _) (by omega)
  have k1 : ∀ A c D d w, Cel .u32 w A (dg 4294967296 n X) → Cel .u32 w D (dg 4294967296 m Y) → Calls Try.prog 20 #[.agg #[.slice A n c], .agg #[.slice D m d]] w (ResP Vc Ec w) := fun A c D d w hI hJ => by
    rw [hVc.out, hEc.out]; exact add_any A D n c m d X Y hX hY hn hm w hI hJ
  have k2 : ∀ A c D d w, Cel .u32 w A (dg 4294967296 n X) → Cel .u32 w D (dg 4294967296 m Y) → Calls Try.prog 21 #[.agg #[.slice A n c], .agg #[.slice D m d]] w (ResP Vc Ec w) := fun A c D d w hI hJ => by
    rw [hVc.out, hEc.out]; exact rxadd_any A D n c m d X Y hX hY hn hm w hI hJ
  have k3 : ∀ A c D d w, Cel .u32 w A (dg 4294967296 n X) → Cel .u32 w D (dg 4294967296 m Y) → Calls Try.prog 22 #[.agg #[.slice A n c], .agg #[.slice D m d]] w (ResP Vx Ex w) := fun A c D d w hI hJ => by
    rw [hVx.out, hEx.out]; exact sub_any A D n c m d X Y hX hY hn hm w hI hJ
  have k4 : ∀ A c D d w, Cel .u32 w A (dg 4294967296 n X) → Cel .u32 w D (dg 4294967296 m Y) → Calls Try.prog 23 #[.agg #[.slice A n c], .agg #[.slice D m d]] w (ResP Vx Ex w) := fun A c D d w hI hJ => by
    rw [hVx.out, hEx.out]; exact rxsub_any A D n c m d X Y hX hY hn hm w hI hJ
  have k5 : ∀ A c D d w, Cel .u32 w A (dg 4294967296 Mc Vc) → Cel .u32 w D (dg 4294967296 Mc Vc) → Calls Try.prog 13 #[.agg #[.slice A Mc c], .agg #[.slice D Mc d]] w fun e w' => e = .returned (.bool true) ∧ Below w.heap.size w w' := fun A c D d w hI hJ =>
    same_any A D Mc c d Vc Lc w hI hJ
  have k6 : ∀ A c D d w, Cel .u32 w A (dg 4294967296 Mx Vx) → Cel .u32 w D (dg 4294967296 Mx Vx) → Calls Try.prog 13 #[.agg #[.slice A Mx c], .agg #[.slice D Mx d]] w fun e w' => e = .returned (.bool true) ∧ Below w.heap.size w w' := fun A c D d w hI hJ =>
    same_any A D Mx c d Vx Lx w hI hJ
  have k7 := summed_any
  clear hX hY Lc Lx hVc hEc hVx hEx
  have Cp0_0 := Lib.hid hIp0
  clear hIp0
  have Cp1_0 := Lib.hid hIp1
  clear hIp1
  go_enter Try.func4, Try.ntmps4
  go_wp2_with (first
    | (go_at_call 20; (with_reducible refine (k1 A c D d _ (cel_al (cel_al Cp0_0.out _) _) (cel_al (cel_al Cp1_0.out _) _)).mono ?_); rintro e w1 ⟨Ac, nc, cc, rfl, qc, hb⟩; have Cp0_1 := Lib.hid ((cel_al (cel_al Cp0_0.out _) _).below hb); have Cp1_1 := Lib.hid ((cel_al (cel_al Cp1_0.out _) _).below hb); have Xp0_1 := Lib.hid ((bx2 _ _ _ _ _).1.below hb); have Xp1_1 := Lib.hid ((bx2 _ _ _ _ _).2.below hb); have B1 := Lib.hid (below_on (below_two _ _ _) hb); obtain ⟨z, g⟩ := num_at Nc.out qc; subst z; have Cc_1 := Lib.hid g; clear g qc; have xp0 := fun o0 => (bx_al Xp0_1.out o0).cell; have xp1 := fun o0 => (bx_al Xp1_1.out o0).cell; clear hb)
    | (go_at_call 21; (with_reducible refine (k2 A c D d _ (cel_al Cp0_1.out _) (cel_al Cp1_1.out _)).mono ?_); rintro e w2 ⟨Ad, nd, cd, rfl, qd, hb⟩; have Cp0_2 := Lib.hid ((cel_al Cp0_1.out _).below hb); have Cp1_2 := Lib.hid ((cel_al Cp1_1.out _).below hb); have Cc_2 := Lib.hid ((cel_al Cc_1.out _).below hb); have Xp0_2 := Lib.hid ((bx_al (Xp0_1.out) _).below hb); have Xp1_2 := Lib.hid ((bx_al (Xp1_1.out) _).below hb); have Xc_2 := Lib.hid ((Bx.new_ _ _ _).below hb); have B2 := Lib.hid (below_on (bel_alloc (B1.out) _) hb); obtain ⟨z, g⟩ := num_at Nc.out qd; subst z; have Cd_2 := Lib.hid g; clear g qd; clear xp0 xp1; have xp0 := fun o0 => (bx_al Xp0_2.out o0).cell; have xp1 := fun o0 => (bx_al Xp1_2.out o0).cell; clear hb)
    | (go_at_call 22; (with_reducible refine (k3 A c D d _ (cel_al Cp0_2.out _) (cel_al Cp1_2.out _)).mono ?_); rintro e w3 ⟨Ax, nx, cx, rfl, qx, hb⟩; have Cp0_3 := Lib.hid ((cel_al Cp0_2.out _).below hb); have Cp1_3 := Lib.hid ((cel_al Cp1_2.out _).below hb); have Cc_3 := Lib.hid ((cel_al Cc_2.out _).below hb); have Cd_3 := Lib.hid ((cel_al Cd_2.out _).below hb); have Xp0_3 := Lib.hid ((bx_al (Xp0_2.out) _).below hb); have Xp1_3 := Lib.hid ((bx_al (Xp1_2.out) _).below hb); have Xc_3 := Lib.hid ((bx_al (Xc_2.out) _).below hb); have Xd_3 := Lib.hid ((Bx.new_ _ _ _).below hb); have B3 := Lib.hid (below_on (bel_alloc (B2.out) _) hb); obtain ⟨z, g⟩ := num_at Nx.out qx; subst z; have Cx_3 := Lib.hid g; clear g qx; clear xp0 xp1; have xp0 := fun o0 => (bx_al Xp0_3.out o0).cell; have xp1 := fun o0 => (bx_al Xp1_3.out o0).cell; clear hb)
    | (go_at_call 23; (with_reducible refine (k4 A c D d _ (cel_al Cp0_3.out _) (cel_al Cp1_3.out _)).mono ?_); rintro e w4 ⟨Ay, ny, cy, rfl, qy, hb⟩; have Cc_4 := Lib.hid ((cel_al Cc_3.out _).below hb); have Cd_4 := Lib.hid ((cel_al Cd_3.out _).below hb); have Cx_4 := Lib.hid ((cel_al Cx_3.out _).below hb); have Xc_4 := Lib.hid ((bx_al (Xc_3.out) _).below hb); have Xd_4 := Lib.hid ((bx_al (Xd_3.out) _).below hb); have Xx_4 := Lib.hid ((Bx.new_ _ _ _).below hb); have B4 := Lib.hid (below_on (bel_alloc (B3.out) _) hb); obtain ⟨z, g⟩ := num_at Nx.out qy; subst z; have Cy_4 := Lib.hid g; clear g qy; clear xp0 xp1; have xc := fun o0 => (bx_al Xc_4.out o0).cell; have xd := fun o0 => (bx_al Xd_4.out o0).cell; clear hb)
    | (go_at_call 13; (with_reducible refine (k5 Ac cc Ad cd _ (cel_al Cc_4.out _) (cel_al Cd_4.out _)).mono ?_); rintro e w5 ⟨rfl, hb⟩; have Cx_5 := Lib.hid ((cel_al Cx_4.out _).below hb); have Cy_5 := Lib.hid ((cel_al Cy_4.out _).below hb); have Xx_5 := Lib.hid ((bx_al (Xx_4.out) _).below hb); have Xy_5 := Lib.hid ((Bx.new_ _ _ _).below hb); have B5 := Lib.hid (below_on (bel_alloc (B4.out) _) hb); clear xc xd; have xx := Xx_5.out.cell; have xy := Xy_5.out.cell; clear hb)
    | (go_at_call 13; (with_reducible refine (k6 Ax cx Ay cy _ (Cx_5.out) (Cy_5.out)).mono ?_); rintro e w6 ⟨rfl, hb⟩; have B6 := Lib.hid (below_on (B5.out) hb); clear xx xy; clear hb)
    | (go_at_call 24; (with_reducible refine (k7 _).mono ?_); rintro e w7 ⟨rfl, hb⟩; have B7 := Lib.hid (below_on (B6.out) hb); clear hb))
  go_ret
  exact ⟨rfl, B7.out⟩
end Go.Proofs.Ytjbckijeobmoeaa.natLb

/-
  The reference: crossed, Add, Sub.
-/
import Derived.Test.YtinceponggpioaaGreatDoorFrV
import Derived.Test.YtinceponggpioaaGreatDoorNatY
import Derived.Test.YtinceponggpioaaGreatDoorNatZ
namespace Go.Proofs.YtinceponggpioaaGreatDoor.frW
open Go.RowKit
open Go.Proofs.YtinceponggpioaaGreatDoor.natM Go.Proofs.YtinceponggpioaaGreatDoor.natA Go.Proofs.YtinceponggpioaaGreatDoor.natB Go.Proofs.YtinceponggpioaaGreatDoor.natC Go.Proofs.YtinceponggpioaaGreatDoor.natD Go.Proofs.YtinceponggpioaaGreatDoor.natE Go.Proofs.YtinceponggpioaaGreatDoor.natF Go.Proofs.YtinceponggpioaaGreatDoor.natG Go.Proofs.YtinceponggpioaaGreatDoor.natH Go.Proofs.YtinceponggpioaaGreatDoor.natI Go.Proofs.YtinceponggpioaaGreatDoor.natJ Go.Proofs.YtinceponggpioaaGreatDoor.natX Go.Proofs.YtinceponggpioaaGreatDoor.natUi Go.Proofs.YtinceponggpioaaGreatDoor.frM Go.Proofs.YtinceponggpioaaGreatDoor.frA Go.Proofs.YtinceponggpioaaGreatDoor.frB Go.Proofs.YtinceponggpioaaGreatDoor.frC Go.Proofs.YtinceponggpioaaGreatDoor.frD Go.Proofs.YtinceponggpioaaGreatDoor.natR Go.Proofs.YtinceponggpioaaGreatDoor.natS Go.Proofs.YtinceponggpioaaGreatDoor.natT Go.Proofs.YtinceponggpioaaGreatDoor.natY Go.Proofs.YtinceponggpioaaGreatDoor.natZ Go.Proofs.YtinceponggpioaaGreatDoor.natDm Go.Proofs.YtinceponggpioaaGreatDoor.natGc Go.Proofs.YtinceponggpioaaGreatDoor.frR Go.Proofs.YtinceponggpioaaGreatDoor.frS Go.Proofs.YtinceponggpioaaGreatDoor.frV
set_option linter.unusedVariables false

theorem al5 {w0 w : World} {cs : List (Option Addr × Nat × Nat)} {bs : List (Nat × Array Value)} (h : Kp w0 cs bs w) (v v2 v3 v4 v5 : Array Value) (T T2 T3 T4 T5 : TypeId) : Kp w0 cs ((w.heap.size + 1 + 1 + 1 + 1, v5) :: (w.heap.size + 1 + 1 + 1, v4) :: (w.heap.size + 1 + 1, v3) :: (w.heap.size + 1, v2) :: (w.heap.size, v) :: bs) (((((w.alloc (.cells v T)).alloc (.cells v2 T2)).alloc (.cells v3 T3)).alloc (.cells v4 T4)).alloc (.cells v5 T5)) := ((h.al3 v v2 v3 T T2 T3).al (by simp) v4 T4).al (by simp) v5 T5
theorem far_one {w : World} {A : Option Addr} {zs : List Nat} {b : Nat} {a1 : Option Addr} {n1 c1 : Nat} (h : Cel .u32 w A zs) (hb : Bk w b #[.slice a1 n1 c1]) : Far A zs.length b := fun hp ad e => by
  obtain ⟨b2, off, e2, hc⟩ := h hp
  have h1 := hc 0 _ (at0_some hp)
  rw [e2] at e
  injection e with e
  subst e
  rintro rfl
  rw [hb.at_] at h1
  have hj : off + 0 < 1 := by
    have := (Array.getElem?_eq_some_iff.1 h1).1
    simpa using this
  rw [show off + 0 = 0 by omega] at h1
  simp at h1
theorem num_one {w : World} {A : Option Addr} {n c v b : Nat} {a1 : Option Addr} {n1 c1 : Nat} (h : Num w A n c v) (hb : Bk w b #[.slice a1 n1 c1]) (x : Value) : Num (w.setCell ⟨b, 0, none⟩ x) A n c v :=
  ⟨h.1, h.2.1, h.2.2.set_ (p := ⟨b, 0, none⟩) (far_one h.2.2 hb) x⟩
def CrP (V1 V2 V3 : Nat) (E : Int) (w : World) (e : Ending) (w' : World) : Prop :=
  ∃ A1 n1 c1 A2 n2 c2 A3 n3 c3, e = .returned (.tuple #[.agg #[.slice A1 n1 c1], .agg #[.slice A2 n2 c2], .agg #[.slice A3 n3 c3], .int .i64 E]) ∧ Num w' A1 n1 c1 V1 ∧ Num w' A2 n2 c2 V2 ∧ Num w' A3 n3 c3 V3 ∧ Below w.heap.size w w'
section
variable {w0 w : World} {b b2 b3 : Nat} {a1 a2 a3 : Option Addr} {n1 c1 n2 c2 n3 c3 : Nat}
theorem three_set (h1 : Bk w b #[.slice a1 n1 c1]) (h2 : Bk w b2 #[.slice a2 n2 c2]) (h3 : Bk w b3 #[.slice a3 n3 c3]) (d1 : b ≠ b2) (d2 : b ≠ b3) (d3 : b2 ≠ b3) (A1 : Option Addr) (m1 e1 : Nat) (A2 : Option Addr) (m2 e2 : Nat) (z : Value) :
    (((w.setCell ⟨b, 0, none⟩ (.slice A1 m1 e1)).setCell ⟨b2, 0, none⟩ (.slice A2 m2 e2)).setCell ⟨b3, 0, none⟩ z).cell? ⟨b, 0, none⟩ = some (.slice A1 m1 e1) ∧
    (((w.setCell ⟨b, 0, none⟩ (.slice A1 m1 e1)).setCell ⟨b2, 0, none⟩ (.slice A2 m2 e2)).setCell ⟨b3, 0, none⟩ z).cell? ⟨b2, 0, none⟩ = some (.slice A2 m2 e2) ∧
    (((w.setCell ⟨b, 0, none⟩ (.slice A1 m1 e1)).setCell ⟨b2, 0, none⟩ (.slice A2 m2 e2)).setCell ⟨b3, 0, none⟩ z).cell? ⟨b3, 0, none⟩ = some z := by
  have x1 := h1.set_ 0 (.slice A1 m1 e1)
  have y1 := x1.far (p := ⟨b2, 0, none⟩) d1 (.slice A2 m2 e2)
  have z1 := y1.far (p := ⟨b3, 0, none⟩) d2 z
  have x2 := h2.far (p := ⟨b, 0, none⟩) d1.symm (.slice A1 m1 e1)
  have y2 := x2.set_ 0 (.slice A2 m2 e2)
  have z2 := y2.far (p := ⟨b3, 0, none⟩) d3 z
  have x3 := h3.far (p := ⟨b, 0, none⟩) d2.symm (.slice A1 m1 e1)
  have y3 := x3.far (p := ⟨b2, 0, none⟩) d3.symm (.slice A2 m2 e2)
  have z3 := y3.set_ 0 z
  exact ⟨z1.at_ 0, z2.at_ 0, z3.at_ 0⟩
theorem crp_set (h1 : Bk w b #[.slice a1 n1 c1]) (h2 : Bk w b2 #[.slice a2 n2 c2]) (h3 : Bk w b3 #[.slice a3 n3 c3]) (d1 : b ≠ b2) (d2 : b ≠ b3) (d3 : b2 ≠ b3) (l1 : w0.heap.size ≤ b) (l2 : w0.heap.size ≤ b2) (l3 : w0.heap.size ≤ b3) (hb : Below w0.heap.size w0 w)
    {A1 A2 A3 : Option Addr} {m1 e1 m2 e2 m3 e3 V1 V2 V3 : Nat} {E : Int} (q1 : Num w A1 m1 e1 V1) (q2 : Num w A2 m2 e2 V2) (q3 : Num w A3 m3 e3 V3) (A4 : Option Addr) (m4 e4 : Nat) (A5 : Option Addr) (m5 e5 : Nat) (z : Value) :
    CrP V1 V2 V3 E w0 (.returned (.tuple #[.agg #[.slice A1 m1 e1], .agg #[.slice A2 m2 e2], .agg #[.slice A3 m3 e3], .int .i64 E])) (((w.setCell ⟨b, 0, none⟩ (.slice A4 m4 e4)).setCell ⟨b2, 0, none⟩ (.slice A5 m5 e5)).setCell ⟨b3, 0, none⟩ z) := by
  have x2 := h2.far (p := ⟨b, 0, none⟩) d1.symm (.slice A4 m4 e4)
  have x3 := h3.far (p := ⟨b, 0, none⟩) d2.symm (.slice A4 m4 e4)
  have y3 := x3.far (p := ⟨b2, 0, none⟩) d3.symm (.slice A5 m5 e5)
  have k : ∀ {A : Option Addr} {m e V : Nat}, Num w A m e V → Num (((w.setCell ⟨b, 0, none⟩ (.slice A4 m4 e4)).setCell ⟨b2, 0, none⟩ (.slice A5 m5 e5)).setCell ⟨b3, 0, none⟩ z) A m e V := fun q => num_one (num_one (num_one q h1 _) x2 _) y3 _
  exact ⟨_, _, _, _, _, _, _, _, _, rfl, k q1, k q2, k q3, ((hb.setCell (p := ⟨b, 0, none⟩) l1 _).setCell (p := ⟨b2, 0, none⟩) l2 _).setCell (p := ⟨b3, 0, none⟩) l3 _⟩
theorem crp_drew {V1 V2 V3 : Nat} {E : Int} {e : Ending} (h : CrP V1 V2 V3 E w0 e w) : CrP V1 V2 V3 E w0 e w.drew := by
  obtain ⟨A1, n1, c1, A2, n2, c2, A3, n3, c3, h0, h1, h2, h3, hb⟩ := h
  exact ⟨A1, n1, c1, A2, n2, c2, A3, n3, c3, h0, h1, h2, h3, bel_drew hb⟩
theorem set_one (h1 : Bk w b #[.slice a1 n1 c1]) (v : Value) : (w.setCell ⟨b, 0, none⟩ v).cell? ⟨b, 0, none⟩ = some v := (h1.set_ 0 v).at_ 0
theorem set_two (h1 : Bk w b #[.slice a1 n1 c1]) (d : b2 ≠ b) (u v : Value) : ((w.setCell ⟨b2, 0, none⟩ u).setCell ⟨b, 0, none⟩ v).cell? ⟨b, 0, none⟩ = some v := ((h1.far (p := ⟨b2, 0, none⟩) d.symm u).set_ 0 v).at_ 0
end
set_option maxRecDepth 4000 in
set_option maxHeartbeats 4000000 in
theorem crossed_all {n X m Y n2 Z m2 W P Q R : Nat} (v1 : valB n X = true) (v2 : valB m Y = true) (v3 : valB n2 Z = true) (v4 : valB m2 W = true) (hP : P = X * W) (hQ : Q = Z * Y) (hR : R = Y * W) :
    ∃ (V1 V2 V3 : Nat) (E : Int), ((E = 0 ∧ V1 = P ∧ V2 = Q ∧ V3 = R ∧ nlen 4294967296 P ≤ 64 ∧ nlen 4294967296 Q ≤ 64 ∧ nlen 4294967296 R ≤ 64) ∨ (E = 9 ∧ V1 = 0 ∧ V2 = 0 ∧ V3 = 0 ∧ (64 < nlen 4294967296 P ∨ 64 < nlen 4294967296 Q ∨ 64 < nlen 4294967296 R))) ∧ ∀ (A B A2 B2 : Option Addr) (c d c2 d2 : Nat) (w : World) (h1 : Cel .u32 w A (dg 4294967296 n X)) (h2 : Cel .u32 w B (dg 4294967296 m Y)) (h3 : Cel .u32 w A2 (dg 4294967296 n2 Z)) (h4 : Cel .u32 w B2 (dg 4294967296 m2 W)),
    Calls Tryz.prog 22 #[.agg #[.slice A n c, .slice B m d], .agg #[.slice A2 n2 c2, .slice B2 m2 d2]] w (CrP V1 V2 V3 E w) := by
  obtain ⟨U1, E1, o1, k1⟩ := rmul_all v1 v4 hP
  obtain ⟨U2, E2, o2, k2⟩ := rmul_all v3 v2 hQ
  obtain ⟨U3, E3, o3, k3⟩ := rmul_all v2 v4 hR
  obtain ⟨j1, hj1⟩ : ∃ n, n = nlen 4294967296 U1 := ⟨_, rfl⟩
  obtain ⟨j2, hj2⟩ : ∃ n, n = nlen 4294967296 U2 := ⟨_, rfl⟩
  obtain ⟨j3, hj3⟩ : ∃ n, n = nlen 4294967296 U3 := ⟨_, rfl⟩
  have HJ1 := Lib.hid hj1
  have HJ2 := Lib.hid hj2
  have HJ3 := Lib.hid hj3
  clear v1 v2 v3 v4 hP hQ hR hj1 hj2 hj3
  rcases o1 with ⟨rfl, rfl, b1⟩ | ⟨rfl, rfl, b1⟩
  · rcases o2 with ⟨rfl, rfl, b2⟩ | ⟨rfl, rfl, b2⟩
    · rcases o3 with ⟨rfl, rfl, b3⟩ | ⟨rfl, rfl, b3⟩
      · refine ⟨_, _, _, 0, .inl ⟨rfl, rfl, rfl, rfl, b1, b2, b3⟩, ?_⟩
        intro A B A2 B2 c d c2 d2 w h1 h2 h3 h4
        have S0 := Lib.hid ((((Kp.start w).addc h4).addc h3).addc h2 |>.addc h1)
        clear h1 h2 h3 h4
        go_enter Tryz.func22, Tryz.ntmps22
        go_wp2_with (first
          | (go_at_call 48; first
            | ((with_reducible refine (k1 _ _ _ _ _ (al5 S0.out _ _ _ _ _ _ _ _ _ _).c0 (al5 S0.out _ _ _ _ _ _ _ _ _ _).c3).mono ?_); rintro e w1 ⟨Ax, nx, cx, rfl, qq, hb⟩; have Qx := Lib.hid qq; obtain ⟨zz, g1⟩ := num_at HJ1.out qq; subst zz; have K1 := Lib.hid (((al5 S0.out _ _ _ _ _ _ _ _ _ _).below hb).addc g1); have yffst := fun o0 => (K1.out.alloc o0).b4.fst; have yfsnd := fun o0 => (K1.out.alloc o0).b4.snd; have ygfst := fun o0 => (K1.out.alloc o0).b3.fst; have ygsnd := fun o0 => (K1.out.alloc o0).b3.snd; clear hb qq g1)
            | ((with_reducible refine (k2 _ _ _ _ _ (K1.out.al1 _ _).c3 (K1.out.al1 _ _).c2).mono ?_); rintro e w2 ⟨Ay, ny, cy, rfl, qq, hb⟩; have Qy := Lib.hid qq; obtain ⟨zz, g1⟩ := num_at HJ2.out qq; subst zz; have K2 := Lib.hid (((K1.out.al1 _ _).below hb).addc g1); clear yffst yfsnd ygfst ygsnd; have yffst := fun o0 => (K2.out.alloc o0).b5.fst; have yfsnd := fun o0 => (K2.out.alloc o0).b5.snd; have ygfst := fun o0 => (K2.out.alloc o0).b4.fst; have ygsnd := fun o0 => (K2.out.alloc o0).b4.snd; clear hb qq g1)
            | ((with_reducible refine (k3 _ _ _ _ _ (K2.out.al1 _ _).c3 (K2.out.al1 _ _).c5).mono ?_); rintro e w3 ⟨Az, nz, cz, rfl, qq, hb⟩; have Qz := Lib.hid qq; obtain ⟨zz, g1⟩ := num_at HJ3.out qq; subst zz; have K3 := Lib.hid (((K2.out.al1 _ _).below hb).addc g1); clear yffst yfsnd ygfst ygsnd; have yxone := fun o0 => (K3.out.alloc o0).b1.one; have yyone := fun o0 => (K3.out.alloc o0).b0.one; have fr1 := fun o => (K3.out.alloc o).b4.free 0; have zr1 := fun o => (K3.out.alloc o).b4.one; have fr2 := fun o => (K3.out.alloc o).b3.free 0; have zr2 := fun o => (K3.out.alloc o).b3.one; have fr3 := fun o => (K3.out.alloc o).b2.free 0; have zr3 := fun o => (K3.out.alloc o).b2.one; clear hb qq g1)))
        have S9 := Lib.hid (K3.out.al1 #[.slice Az j3 cz] 24)
        have L1 : w.heap.size + 1 + 1 + 1 + 1 < w1.heap.size := K1.out.b0.lt
        have L2 : w1.heap.size < w2.heap.size := K2.out.b0.lt
        have L3 : w2.heap.size < w3.heap.size := K3.out.b0.lt
        have p00 : ∀ (W : World) (v : Value), (W.setCell ⟨w.heap.size + 1 + 1, 0, none⟩ v).cell? ⟨w1.heap.size, 0, none⟩ = W.cell? ⟨w1.heap.size, 0, none⟩ := fun W v => World.cell?_setCell_far W _ _ v (show w.heap.size + 1 + 1 ≠ w1.heap.size by omega)
        have p01 : ∀ (W : World) (v : Value), (W.setCell ⟨w.heap.size + 1 + 1, 0, none⟩ v).cell? ⟨w2.heap.size, 0, none⟩ = W.cell? ⟨w2.heap.size, 0, none⟩ := fun W v => World.cell?_setCell_far W _ _ v (show w.heap.size + 1 + 1 ≠ w2.heap.size by omega)
        have p02 : ∀ (W : World) (v : Value), (W.setCell ⟨w.heap.size + 1 + 1, 0, none⟩ v).cell? ⟨w3.heap.size, 0, none⟩ = W.cell? ⟨w3.heap.size, 0, none⟩ := fun W v => World.cell?_setCell_far W _ _ v (show w.heap.size + 1 + 1 ≠ w3.heap.size by omega)
        have p04 : ∀ (W : World) (v : Value), (W.setCell ⟨w.heap.size + 1 + 1, 0, none⟩ v).cell? ⟨w.heap.size + 1 + 1 + 1, 0, none⟩ = W.cell? ⟨w.heap.size + 1 + 1 + 1, 0, none⟩ := fun W v => World.cell?_setCell_far W _ _ v (show w.heap.size + 1 + 1 ≠ w.heap.size + 1 + 1 + 1 by omega)
        have p05 : ∀ (W : World) (v : Value), (W.setCell ⟨w.heap.size + 1 + 1, 0, none⟩ v).cell? ⟨w.heap.size + 1 + 1 + 1 + 1, 0, none⟩ = W.cell? ⟨w.heap.size + 1 + 1 + 1 + 1, 0, none⟩ := fun W v => World.cell?_setCell_far W _ _ v (show w.heap.size + 1 + 1 ≠ w.heap.size + 1 + 1 + 1 + 1 by omega)
        have p10 : ∀ (W : World) (v : Value), (W.setCell ⟨w.heap.size + 1 + 1 + 1, 0, none⟩ v).cell? ⟨w1.heap.size, 0, none⟩ = W.cell? ⟨w1.heap.size, 0, none⟩ := fun W v => World.cell?_setCell_far W _ _ v (show w.heap.size + 1 + 1 + 1 ≠ w1.heap.size by omega)
        have p11 : ∀ (W : World) (v : Value), (W.setCell ⟨w.heap.size + 1 + 1 + 1, 0, none⟩ v).cell? ⟨w2.heap.size, 0, none⟩ = W.cell? ⟨w2.heap.size, 0, none⟩ := fun W v => World.cell?_setCell_far W _ _ v (show w.heap.size + 1 + 1 + 1 ≠ w2.heap.size by omega)
        have p12 : ∀ (W : World) (v : Value), (W.setCell ⟨w.heap.size + 1 + 1 + 1, 0, none⟩ v).cell? ⟨w3.heap.size, 0, none⟩ = W.cell? ⟨w3.heap.size, 0, none⟩ := fun W v => World.cell?_setCell_far W _ _ v (show w.heap.size + 1 + 1 + 1 ≠ w3.heap.size by omega)
        have p13 : ∀ (W : World) (v : Value), (W.setCell ⟨w.heap.size + 1 + 1 + 1, 0, none⟩ v).cell? ⟨w.heap.size + 1 + 1, 0, none⟩ = W.cell? ⟨w.heap.size + 1 + 1, 0, none⟩ := fun W v => World.cell?_setCell_far W _ _ v (show w.heap.size + 1 + 1 + 1 ≠ w.heap.size + 1 + 1 by omega)
        have p15 : ∀ (W : World) (v : Value), (W.setCell ⟨w.heap.size + 1 + 1 + 1, 0, none⟩ v).cell? ⟨w.heap.size + 1 + 1 + 1 + 1, 0, none⟩ = W.cell? ⟨w.heap.size + 1 + 1 + 1 + 1, 0, none⟩ := fun W v => World.cell?_setCell_far W _ _ v (show w.heap.size + 1 + 1 + 1 ≠ w.heap.size + 1 + 1 + 1 + 1 by omega)
        have p20 : ∀ (W : World) (v : Value), (W.setCell ⟨w.heap.size + 1 + 1 + 1 + 1, 0, none⟩ v).cell? ⟨w1.heap.size, 0, none⟩ = W.cell? ⟨w1.heap.size, 0, none⟩ := fun W v => World.cell?_setCell_far W _ _ v (show w.heap.size + 1 + 1 + 1 + 1 ≠ w1.heap.size by omega)
        have p21 : ∀ (W : World) (v : Value), (W.setCell ⟨w.heap.size + 1 + 1 + 1 + 1, 0, none⟩ v).cell? ⟨w2.heap.size, 0, none⟩ = W.cell? ⟨w2.heap.size, 0, none⟩ := fun W v => World.cell?_setCell_far W _ _ v (show w.heap.size + 1 + 1 + 1 + 1 ≠ w2.heap.size by omega)
        have p22 : ∀ (W : World) (v : Value), (W.setCell ⟨w.heap.size + 1 + 1 + 1 + 1, 0, none⟩ v).cell? ⟨w3.heap.size, 0, none⟩ = W.cell? ⟨w3.heap.size, 0, none⟩ := fun W v => World.cell?_setCell_far W _ _ v (show w.heap.size + 1 + 1 + 1 + 1 ≠ w3.heap.size by omega)
        have p23 : ∀ (W : World) (v : Value), (W.setCell ⟨w.heap.size + 1 + 1 + 1 + 1, 0, none⟩ v).cell? ⟨w.heap.size + 1 + 1, 0, none⟩ = W.cell? ⟨w.heap.size + 1 + 1, 0, none⟩ := fun W v => World.cell?_setCell_far W _ _ v (show w.heap.size + 1 + 1 + 1 + 1 ≠ w.heap.size + 1 + 1 by omega)
        have p24 : ∀ (W : World) (v : Value), (W.setCell ⟨w.heap.size + 1 + 1 + 1 + 1, 0, none⟩ v).cell? ⟨w.heap.size + 1 + 1 + 1, 0, none⟩ = W.cell? ⟨w.heap.size + 1 + 1 + 1, 0, none⟩ := fun W v => World.cell?_setCell_far W _ _ v (show w.heap.size + 1 + 1 + 1 + 1 ≠ w.heap.size + 1 + 1 + 1 by omega)
        clear L1 L2 L3
        go_region
        all_goals go_wp2_with fail
        have xs := three_set S9.out.b5 S9.out.b4 S9.out.b3 (by simp) (by simp) (by simp) Ax j1 cx Ay j2 cy (.slice Az j3 cz)
        refine bodyPost_ret (v := .tuple #[.agg #[.slice Ax j1 cx], .agg #[.slice Ay j2 cy], .agg #[.slice Az j3 cz], .int .i64 0]) (by simp [results, Tryz.results22, go_sem, xs.1, xs.2.1, xs.2.2]) rfl ?_
        exact crp_drew (crp_set S9.out.b5 S9.out.b4 S9.out.b3 (by simp) (by simp) (by simp) (by simp; omega) (by simp; omega) (by simp; omega) S9.out.bel ⟨HJ1.out, Qx.out.2.1, S9.out.c2⟩ ⟨HJ2.out, Qy.out.2.1, S9.out.c1⟩ ⟨HJ3.out, Qz.out.2.1, S9.out.c0⟩ _ _ _ _ _ _ _)
      · refine ⟨0, 0, 0, 9, .inr ⟨rfl, rfl, rfl, rfl, .inr (.inr b3)⟩, ?_⟩
        intro A B A2 B2 c d c2 d2 w h1 h2 h3 h4
        have S0 := Lib.hid ((((Kp.start w).addc h4).addc h3).addc h2 |>.addc h1)
        clear h1 h2 h3 h4
        go_enter Tryz.func22, Tryz.ntmps22
        go_wp2_with (first
          | (go_at_call 48; first
            | ((with_reducible refine (k1 _ _ _ _ _ (al5 S0.out _ _ _ _ _ _ _ _ _ _).c0 (al5 S0.out _ _ _ _ _ _ _ _ _ _).c3).mono ?_); rintro e w1 ⟨Ax, nx, cx, rfl, qq, hb⟩; have Qx := Lib.hid qq; obtain ⟨zz, g1⟩ := num_at HJ1.out qq; subst zz; have K1 := Lib.hid (((al5 S0.out _ _ _ _ _ _ _ _ _ _).below hb).addc g1); have yffst := fun o0 => (K1.out.alloc o0).b4.fst; have yfsnd := fun o0 => (K1.out.alloc o0).b4.snd; have ygfst := fun o0 => (K1.out.alloc o0).b3.fst; have ygsnd := fun o0 => (K1.out.alloc o0).b3.snd; clear hb qq g1)
            | ((with_reducible refine (k2 _ _ _ _ _ (K1.out.al1 _ _).c3 (K1.out.al1 _ _).c2).mono ?_); rintro e w2 ⟨Ay, ny, cy, rfl, qq, hb⟩; have Qy := Lib.hid qq; obtain ⟨zz, g1⟩ := num_at HJ2.out qq; subst zz; have K2 := Lib.hid (((K1.out.al1 _ _).below hb).addc g1); clear yffst yfsnd ygfst ygsnd; have yffst := fun o0 => (K2.out.alloc o0).b5.fst; have yfsnd := fun o0 => (K2.out.alloc o0).b5.snd; have ygfst := fun o0 => (K2.out.alloc o0).b4.fst; have ygsnd := fun o0 => (K2.out.alloc o0).b4.snd; clear hb qq g1)
            | ((with_reducible refine (k3 _ _ _ _ _ (K2.out.al1 _ _).c3 (K2.out.al1 _ _).c5).mono ?_); rintro e w3 ⟨Az, nz, cz, rfl, qq, hb⟩; have Qz := Lib.hid qq; obtain ⟨zz, g1⟩ := num_at HJ3.out qq; subst zz; have K3 := Lib.hid (((K2.out.al1 _ _).below hb).addc g1); clear yffst yfsnd ygfst ygsnd; have fr1 := fun o => (K3.out.alloc o).b4.free 0; have zr1 := fun o => (K3.out.alloc o).b4.one; have fr2 := fun o => (K3.out.alloc o).b3.free 0; have zr2 := fun o => (K3.out.alloc o).b3.one; have fr3 := fun o => (K3.out.alloc o).b2.free 0; have zr3 := fun o => (K3.out.alloc o).b2.one; clear hb qq g1)))
        have S9 := Lib.hid (K3.out.al1 #[.slice Az j3 cz] 24)
        have xs := three_set S9.out.b5 S9.out.b4 S9.out.b3 (by simp) (by simp) (by simp) none 0 0 none 0 0 (.slice none 0 0)
        refine bodyPost_ret (v := .tuple #[.agg #[.slice none 0 0], .agg #[.slice none 0 0], .agg #[.slice none 0 0], .int .i64 9]) (by simp [results, Tryz.results22, go_sem, xs.1, xs.2.1, xs.2.2]) rfl ?_
        exact crp_set S9.out.b5 S9.out.b4 S9.out.b3 (by simp) (by simp) (by simp) (by simp; omega) (by simp; omega) (by simp; omega) S9.out.bel (Num.nil _) (Num.nil _) (Num.nil _) _ _ _ _ _ _ _
    · refine ⟨0, 0, 0, 9, .inr ⟨rfl, rfl, rfl, rfl, .inr (.inl b2)⟩, ?_⟩
      intro A B A2 B2 c d c2 d2 w h1 h2 h3 h4
      have S0 := Lib.hid ((((Kp.start w).addc h4).addc h3).addc h2 |>.addc h1)
      clear h1 h2 h3 h4
      go_enter Tryz.func22, Tryz.ntmps22
      go_wp2_with (first
        | (go_at_call 48; first
          | ((with_reducible refine (k1 _ _ _ _ _ (al5 S0.out _ _ _ _ _ _ _ _ _ _).c0 (al5 S0.out _ _ _ _ _ _ _ _ _ _).c3).mono ?_); rintro e w1 ⟨Ax, nx, cx, rfl, qq, hb⟩; have Qx := Lib.hid qq; obtain ⟨zz, g1⟩ := num_at HJ1.out qq; subst zz; have K1 := Lib.hid (((al5 S0.out _ _ _ _ _ _ _ _ _ _).below hb).addc g1); have yffst := fun o0 => (K1.out.alloc o0).b4.fst; have yfsnd := fun o0 => (K1.out.alloc o0).b4.snd; have ygfst := fun o0 => (K1.out.alloc o0).b3.fst; have ygsnd := fun o0 => (K1.out.alloc o0).b3.snd; clear hb qq g1)
          | ((with_reducible refine (k2 _ _ _ _ _ (K1.out.al1 _ _).c3 (K1.out.al1 _ _).c2).mono ?_); rintro e w2 ⟨Ay, ny, cy, rfl, qq, hb⟩; have Qy := Lib.hid qq; obtain ⟨zz, g1⟩ := num_at HJ2.out qq; subst zz; have K2 := Lib.hid (((K1.out.al1 _ _).below hb).addc g1); clear yffst yfsnd ygfst ygsnd; have yffst := fun o0 => (K2.out.alloc o0).b5.fst; have yfsnd := fun o0 => (K2.out.alloc o0).b5.snd; have ygfst := fun o0 => (K2.out.alloc o0).b4.fst; have ygsnd := fun o0 => (K2.out.alloc o0).b4.snd; clear hb qq g1)
          | ((with_reducible refine (k3 _ _ _ _ _ (K2.out.al1 _ _).c3 (K2.out.al1 _ _).c5).mono ?_); rintro e w3 ⟨Az, nz, cz, rfl, qq, hb⟩; have Qz := Lib.hid qq; obtain ⟨zz, g1⟩ := num_at HJ3.out qq; subst zz; have K3 := Lib.hid (((K2.out.al1 _ _).below hb).addc g1); clear yffst yfsnd ygfst ygsnd; have fr1 := fun o => (K3.out.alloc o).b4.free 0; have zr1 := fun o => (K3.out.alloc o).b4.one; have fr2 := fun o => (K3.out.alloc o).b3.free 0; have zr2 := fun o => (K3.out.alloc o).b3.one; have fr3 := fun o => (K3.out.alloc o).b2.free 0; have zr3 := fun o => (K3.out.alloc o).b2.one; clear hb qq g1)))
      have S9 := Lib.hid (K3.out.al1 #[.slice Az j3 cz] 24)
      have xs := three_set S9.out.b5 S9.out.b4 S9.out.b3 (by simp) (by simp) (by simp) none 0 0 none 0 0 (.slice none 0 0)
      refine bodyPost_ret (v := .tuple #[.agg #[.slice none 0 0], .agg #[.slice none 0 0], .agg #[.slice none 0 0], .int .i64 9]) (by simp [results, Tryz.results22, go_sem, xs.1, xs.2.1, xs.2.2]) rfl ?_
      exact crp_set S9.out.b5 S9.out.b4 S9.out.b3 (by simp) (by simp) (by simp) (by simp; omega) (by simp; omega) (by simp; omega) S9.out.bel (Num.nil _) (Num.nil _) (Num.nil _) _ _ _ _ _ _ _
  · refine ⟨0, 0, 0, 9, .inr ⟨rfl, rfl, rfl, rfl, .inl b1⟩, ?_⟩
    intro A B A2 B2 c d c2 d2 w h1 h2 h3 h4
    have S0 := Lib.hid ((((Kp.start w).addc h4).addc h3).addc h2 |>.addc h1)
    clear h1 h2 h3 h4
    go_enter Tryz.func22, Tryz.ntmps22
    go_wp2_with (first
      | (go_at_call 48; first
        | ((with_reducible refine (k1 _ _ _ _ _ (al5 S0.out _ _ _ _ _ _ _ _ _ _).c0 (al5 S0.out _ _ _ _ _ _ _ _ _ _).c3).mono ?_); rintro e w1 ⟨Ax, nx, cx, rfl, qq, hb⟩; have Qx := Lib.hid qq; obtain ⟨zz, g1⟩ := num_at HJ1.out qq; subst zz; have K1 := Lib.hid (((al5 S0.out _ _ _ _ _ _ _ _ _ _).below hb).addc g1); have yffst := fun o0 => (K1.out.alloc o0).b4.fst; have yfsnd := fun o0 => (K1.out.alloc o0).b4.snd; have ygfst := fun o0 => (K1.out.alloc o0).b3.fst; have ygsnd := fun o0 => (K1.out.alloc o0).b3.snd; clear hb qq g1)
        | ((with_reducible refine (k2 _ _ _ _ _ (K1.out.al1 _ _).c3 (K1.out.al1 _ _).c2).mono ?_); rintro e w2 ⟨Ay, ny, cy, rfl, qq, hb⟩; have Qy := Lib.hid qq; obtain ⟨zz, g1⟩ := num_at HJ2.out qq; subst zz; have K2 := Lib.hid (((K1.out.al1 _ _).below hb).addc g1); clear yffst yfsnd ygfst ygsnd; have yffst := fun o0 => (K2.out.alloc o0).b5.fst; have yfsnd := fun o0 => (K2.out.alloc o0).b5.snd; have ygfst := fun o0 => (K2.out.alloc o0).b4.fst; have ygsnd := fun o0 => (K2.out.alloc o0).b4.snd; clear hb qq g1)
        | ((with_reducible refine (k3 _ _ _ _ _ (K2.out.al1 _ _).c3 (K2.out.al1 _ _).c5).mono ?_); rintro e w3 ⟨Az, nz, cz, rfl, qq, hb⟩; have Qz := Lib.hid qq; obtain ⟨zz, g1⟩ := num_at HJ3.out qq; subst zz; have K3 := Lib.hid (((K2.out.al1 _ _).below hb).addc g1); clear yffst yfsnd ygfst ygsnd; have fr1 := fun o => (K3.out.alloc o).b4.free 0; have zr1 := fun o => (K3.out.alloc o).b4.one; have fr2 := fun o => (K3.out.alloc o).b3.free 0; have zr2 := fun o => (K3.out.alloc o).b3.one; have fr3 := fun o => (K3.out.alloc o).b2.free 0; have zr3 := fun o => (K3.out.alloc o).b2.one; clear hb qq g1)))
    have S9 := Lib.hid (K3.out.al1 #[.slice Az j3 cz] 24)
    have xs := three_set S9.out.b5 S9.out.b4 S9.out.b3 (by simp) (by simp) (by simp) none 0 0 none 0 0 (.slice none 0 0)
    refine bodyPost_ret (v := .tuple #[.agg #[.slice none 0 0], .agg #[.slice none 0 0], .agg #[.slice none 0 0], .int .i64 9]) (by simp [results, Tryz.results22, go_sem, xs.1, xs.2.1, xs.2.2]) rfl ?_
    exact crp_set S9.out.b5 S9.out.b4 S9.out.b3 (by simp) (by simp) (by simp) (by simp; omega) (by simp; omega) (by simp; omega) S9.out.bel (Num.nil _) (Num.nil _) (Num.nil _) _ _ _ _ _ _ _
theorem radd_all {n m X Y V : Nat} (h1 : valB n X = true) (h2 : valB m Y = true) (hV : V = X + Y) : ∃ (V' : Nat) (E : Int), (E = 0 ∧ V' = V ∧ nlen 4294967296 V ≤ 64 ∨ E = 9 ∧ V' = 0 ∧ 64 < nlen 4294967296 V) ∧ ∀ A c D d w, Cel .u32 w A (dg 4294967296 n X) → Cel .u32 w D (dg 4294967296 m Y) →
    Calls Tryz.prog 23 #[.agg #[.slice A n c], .agg #[.slice D m d]] w (ResP V' E w) := by
  have l1 := (valB_iff.1 h1).1
  have l2 := (valB_iff.1 h2).1
  subst hV
  have k := fun A c D d w hI hJ => rxadd_any A D n c m d X Y (Lib.hid (val_lt h1)) (Lib.hid (val_lt h2)) (by omega) (by omega) w hI hJ
  unfold addV addE at k
  rw [h1, h2] at k
  by_cases hb : nlen 4294967296 (X + Y) ≤ 64
  · rw [(r_ok hb).1, (r_ok hb).2] at k
    exact ⟨_, 0, .inl ⟨rfl, rfl, hb⟩, k⟩
  · rw [(r_big (by omega)).1, (r_big (by omega)).2] at k
    exact ⟨0, 9, .inr ⟨rfl, rfl, by omega⟩, k⟩
theorem rsub_ok {n m X Y V : Nat} (h1 : valB n X = true) (h2 : valB m Y = true) (hle : Y ≤ X) (hV : V = X - Y) (A : Option Addr) (c : Nat) (D : Option Addr) (d : Nat) (w : World) (hI : Cel .u32 w A (dg 4294967296 n X)) (hJ : Cel .u32 w D (dg 4294967296 m Y)) :
    Calls Tryz.prog 28 #[.agg #[.slice A n c], .agg #[.slice D m d]] w (ResP V 0 w) := by
  have l1 := (valB_iff.1 h1).1
  have l2 := (valB_iff.1 h2).1
  subst hV
  have := rxsub_any A D n c m d X Y (Lib.hid (val_lt h1)) (Lib.hid (val_lt h2)) (by omega) (by omega) w hI hJ
  unfold subV subE at this
  rwa [h1, h2, (s_ok hle).1, (s_ok hle).2] at this
set_option maxRecDepth 4000 in
set_option maxHeartbeats 4000000 in
theorem rfadd_any (A B A2 B2 : Option Addr) (n c m d n2 c2 m2 d2 X Y Z W : Nat) (hX : Hid (X < 4294967296 ^ n)) (hY : Hid (Y < 4294967296 ^ m)) (hZ : Hid (Z < 4294967296 ^ n2)) (hW : Hid (W < 4294967296 ^ m2))
    (j1 : n ≤ 9223372036854775807) (j2 : m ≤ 9223372036854775807) (j3 : n2 ≤ 9223372036854775807) (j4 : m2 ≤ 9223372036854775807) (w : World)
    (h1 : Cel .u32 w A (dg 4294967296 n X)) (h2 : Cel .u32 w B (dg 4294967296 m Y)) (h3 : Cel .u32 w A2 (dg 4294967296 n2 Z)) (h4 : Cel .u32 w B2 (dg 4294967296 m2 W)) :
    Calls Tryz.prog 7 #[.agg #[.slice A n c, .slice B m d], .agg #[.slice A2 n2 c2, .slice B2 m2 d2]] w (FrP (addA (frB n X m Y) (frB n2 Z m2 W) X Y Z W) w) := by
  have S0 := Lib.hid ((((Kp.start w).addc h4).addc h3).addc h2 |>.addc h1)
  clear h1 h2 h3 h4
  obtain ⟨a, ha⟩ : ∃ a, Hid (a = frB n X m Y) := ⟨_, Lib.hid rfl⟩
  obtain ⟨b, hb⟩ : ∃ b, Hid (b = frB n2 Z m2 W) := ⟨_, Lib.hid rfl⟩
  rw [← ha.out, ← hb.out]
  have c1 := fun w h1 h2 => rvd_any A B n c m d X Y hX hY a j1 j2 ha w h1 h2
  have c2v := fun w h1 h2 => rvd_any A2 B2 n2 c2 m2 d2 Z W hZ hW b j3 j4 hb w h1 h2
  cases a with
  | false =>
    rw [show addA false b X Y Z W = no 2 from rfl]
    clear hX hY hZ hW ha hb c2v
    go_enter Tryz.func7, Tryz.ntmps7
    go_wp2_with (first
      | (go_at_call 21; ((with_reducible refine (c1 _ (S0.out.al3 _ _ _ _ _ _).c0 (S0.out.al3 _ _ _ _ _ _).c1).mono ?_); rintro e w1 ⟨rfl, hb⟩; have S1 := Lib.hid ((S0.out.al3 _ _ _ _ _ _).below hb); have z1 := S1.out.b0.fst; have z2 := S1.out.b0.snd; have f1 := S1.out.b0.free 0; have f2 := S1.out.b0.free 1; clear hb)))
    have xs := two_set S1.out.b0 (.slice none 0 0) (.slice none 0 0)
    refine bodyPost_ret (v := .tuple #[.agg #[.slice none 0 0, .slice none 0 0], .int .i64 2]) (by simp [results, Tryz.results7, go_sem, xs.1, xs.2]) rfl ?_
    exact frp_set S1.out.b0 (Num.nil _) (Num.nil _) S1.out.bel (by simp; omega) _ _
  | true =>
    cases b with
    | false =>
      rw [show addA true false X Y Z W = no 2 from rfl]
      clear hX hY hZ hW ha hb
      go_enter Tryz.func7, Tryz.ntmps7
      go_wp2_with (first
        | (go_at_call 21; first
          | ((with_reducible refine (c1 _ (S0.out.al3 _ _ _ _ _ _).c0 (S0.out.al3 _ _ _ _ _ _).c1).mono ?_); rintro e w1 ⟨rfl, hb⟩; have S1 := Lib.hid ((S0.out.al3 _ _ _ _ _ _).below hb); have u1 := S1.out.b1.fst; have u2 := S1.out.b1.snd; clear hb)
          | ((with_reducible refine (c2v _ S1.out.c2 S1.out.c3).mono ?_); rintro e w2 ⟨rfl, hb⟩; have S2 := Lib.hid (S1.out.below hb); have z1 := S2.out.b0.fst; have z2 := S2.out.b0.snd; have f1 := S2.out.b0.free 0; have f2 := S2.out.b0.free 1; clear hb u1 u2)))
      have xs := two_set S2.out.b0 (.slice none 0 0) (.slice none 0 0)
      refine bodyPost_ret (v := .tuple #[.agg #[.slice none 0 0, .slice none 0 0], .int .i64 2]) (by simp [results, Tryz.results7, go_sem, xs.1, xs.2]) rfl ?_
      exact frp_set S2.out.b0 (Num.nil _) (Num.nil _) S2.out.bel (by simp; omega) _ _
    | true =>
      obtain ⟨v1, v2, l1⟩ := fr_low ha.out.symm
      obtain ⟨v3, v4, l2⟩ := fr_low hb.out.symm
      obtain ⟨P, hP⟩ : ∃ N, N = X * W := ⟨_, rfl⟩
      obtain ⟨Q, hQ⟩ : ∃ N, N = Z * Y := ⟨_, rfl⟩
      obtain ⟨R, hR⟩ : ∃ N, N = Y * W := ⟨_, rfl⟩
      have h0 : 0 < R := by rw [hR]; exact Nat.mul_pos l1.1 l2.1
      clear j1 j2 j3 j4
      obtain ⟨V1, V2, V3, E, o, kc⟩ := crossed_all v1 v2 v3 v4 hP hQ hR
      obtain ⟨j1, hj1⟩ : ∃ n, n = nlen 4294967296 V1 := ⟨_, rfl⟩
      have HJ1 := Lib.hid hj1
      obtain ⟨j2, hj2⟩ : ∃ n, n = nlen 4294967296 V2 := ⟨_, rfl⟩
      have HJ2 := Lib.hid hj2
      obtain ⟨j3, hj3⟩ : ∃ n, n = nlen 4294967296 V3 := ⟨_, rfl⟩
      have HJ3 := Lib.hid hj3
      rcases o with ⟨rfl, rfl, rfl, rfl, b1, b2, b3⟩ | ⟨rfl, rfl, rfl, rfl, b⟩
      · have w1 : valB j1 V1 = true := valB_iff.2 ⟨by omega, hj1.symm⟩
        have w2 : valB j2 V2 = true := valB_iff.2 ⟨by omega, hj2.symm⟩
        obtain ⟨V4, E4, o4, k4⟩ := radd_all w1 w2 rfl
        obtain ⟨j4, hj4⟩ : ∃ n, n = nlen 4294967296 V4 := ⟨_, rfl⟩
        have HJ4 := Lib.hid hj4
        rcases o4 with ⟨rfl, rfl, b4⟩ | ⟨rfl, rfl, b4⟩
        · have k6 := rred_red hj4 hj3 (by omega) (by omega) h0
          obtain ⟨r, hr⟩ : ∃ r, Hid (r = rd (V1 + V2) V3) := ⟨_, Lib.hid rfl⟩
          rw [← hr.out] at k6
          rw [show addA true true X Y Z W = r by rw [hr.out]; unfold addA; rw [← hP, ← hQ, ← hR]; rw [big_no b1, big_no b2, big_no b3, big_no b4]; rfl]
          clear hX hY hZ hW ha hb v1 v2 v3 v4 l1 l2 hP hQ hR h0 b1 b2 b3 hj1 hj2 hj3 w1 w2 b4 hj4 hr
          go_enter Tryz.func7, Tryz.ntmps7
          go_wp2_with (first
            | (go_at_call 21; first
              | ((with_reducible refine (c1 _ (S0.out.al3 _ _ _ _ _ _).c0 (S0.out.al3 _ _ _ _ _ _).c1).mono ?_); rintro e w1 ⟨rfl, hb⟩; have K1 := Lib.hid ((S0.out.al3 _ _ _ _ _ _).below hb); have ygfst := K1.out.b1.fst; have ygsnd := K1.out.b1.snd; clear hb)
              | ((with_reducible refine (c2v _ K1.out.c2 K1.out.c3).mono ?_); rintro e w2 ⟨rfl, hb⟩; have K2 := Lib.hid (K1.out.below hb); clear ygfst ygsnd; have yffst := K2.out.b2.fst; have yfsnd := K2.out.b2.snd; have ygfst := K2.out.b1.fst; have ygsnd := K2.out.b1.snd; clear hb))
            | (go_at_call 22; first
              | ((with_reducible refine (kc _ _ _ _ _ _ _ _ _ K2.out.c0 K2.out.c1 K2.out.c2 K2.out.c3).mono ?_); rintro e w3 ⟨Ap, np, cp, Aq, nq, cq, As, ns, cs, rfl, qp, qq, qs, hb⟩; obtain ⟨zz, gp⟩ := num_at HJ1.out qp; subst zz; obtain ⟨zz, gq⟩ := num_at HJ2.out qq; subst zz; obtain ⟨zz, gs⟩ := num_at HJ3.out qs; subst zz; have K3 := Lib.hid ((((K2.out.below hb).addc gs).addc gq).addc gp); clear yffst yfsnd ygfst ygsnd; clear hb qp qq qs gp gq gs))
            | (go_at_call 23; first
              | ((with_reducible refine (k4 _ _ _ _ _ (K3.out.al3 _ _ _ _ _ _).c0 (K3.out.al3 _ _ _ _ _ _).c1).mono ?_); rintro e w4 ⟨At, nt, ct, rfl, qt, hb⟩; obtain ⟨zz, gt⟩ := num_at HJ4.out qt; subst zz; have K4 := Lib.hid (((K3.out.al3 _ _ _ _ _ _).below hb).addc gt); have ysone := fun o0 => (K4.out.alloc o0).b0.one; clear hb qt gt))
            | (go_at_call 24; first
              | ((with_reducible refine (k6 _ _ _ _ _ (K4.out.al1 _ _).c0 (K4.out.al1 _ _).c3).mono ?_); rintro e w5 ⟨A7, n7, c7, B7, m7, d7, rfl, q1, q2, hb⟩; have K5 := Lib.hid ((K4.out.al1 _ _).below hb); clear ysone; have Q1 := Lib.hid q1; have Q2 := Lib.hid q2; have z1 := K5.out.b4.fst; have z2 := K5.out.b4.snd; have f1 := K5.out.b4.free 0; have f2 := K5.out.b4.free 1; clear hb q1 q2)))
          have S9 := Lib.hid K5.out
          have xs := two_set S9.out.b4 (.slice A7 n7 c7) (.slice B7 m7 d7)
          refine bodyPost_ret (v := .tuple #[.agg #[.slice A7 n7 c7, .slice B7 m7 d7], .int .i64 r.1]) (by simp [results, Tryz.results7, go_sem, xs.1, xs.2]) rfl ?_
          exact frp_set S9.out.b4 Q1.out Q2.out S9.out.bel (by simp; omega) _ _
        · rw [show addA true true X Y Z W = no 9 by unfold addA; rw [← hP, ← hQ, ← hR]; rw [big_yes b4]; simp]
          clear hX hY hZ hW ha hb v1 v2 v3 v4 l1 l2 hP hQ hR h0 b1 b2 b3 hj1 hj2 hj3 w1 w2 b4 hj4
          go_enter Tryz.func7, Tryz.ntmps7
          go_wp2_with (first
            | (go_at_call 21; first
              | ((with_reducible refine (c1 _ (S0.out.al3 _ _ _ _ _ _).c0 (S0.out.al3 _ _ _ _ _ _).c1).mono ?_); rintro e w1 ⟨rfl, hb⟩; have K1 := Lib.hid ((S0.out.al3 _ _ _ _ _ _).below hb); have ygfst := K1.out.b1.fst; have ygsnd := K1.out.b1.snd; clear hb)
              | ((with_reducible refine (c2v _ K1.out.c2 K1.out.c3).mono ?_); rintro e w2 ⟨rfl, hb⟩; have K2 := Lib.hid (K1.out.below hb); clear ygfst ygsnd; have yffst := K2.out.b2.fst; have yfsnd := K2.out.b2.snd; have ygfst := K2.out.b1.fst; have ygsnd := K2.out.b1.snd; clear hb))
            | (go_at_call 22; first
              | ((with_reducible refine (kc _ _ _ _ _ _ _ _ _ K2.out.c0 K2.out.c1 K2.out.c2 K2.out.c3).mono ?_); rintro e w3 ⟨Ap, np, cp, Aq, nq, cq, As, ns, cs, rfl, qp, qq, qs, hb⟩; obtain ⟨zz, gp⟩ := num_at HJ1.out qp; subst zz; obtain ⟨zz, gq⟩ := num_at HJ2.out qq; subst zz; obtain ⟨zz, gs⟩ := num_at HJ3.out qs; subst zz; have K3 := Lib.hid ((((K2.out.below hb).addc gs).addc gq).addc gp); clear yffst yfsnd ygfst ygsnd; clear hb qp qq qs gp gq gs))
            | (go_at_call 23; first
              | ((with_reducible refine (k4 _ _ _ _ _ (K3.out.al3 _ _ _ _ _ _).c0 (K3.out.al3 _ _ _ _ _ _).c1).mono ?_); rintro e w4 ⟨At, nt, ct, rfl, qt, hb⟩; obtain ⟨zz, gt⟩ := num_at HJ4.out qt; subst zz; have K4 := Lib.hid (((K3.out.al3 _ _ _ _ _ _).below hb).addc gt); have z1 := fun o0 => (K4.out.alloc o0).b3.fst; have z2 := fun o0 => (K4.out.alloc o0).b3.snd; have f1 := fun o0 => (K4.out.alloc o0).b3.free 0; have f2 := fun o0 => (K4.out.alloc o0).b3.free 1; clear hb qt gt)))
          have S9 := Lib.hid (K4.out.al1 #[.slice At j4 ct] 24)
          have xs := two_set S9.out.b4 (.slice none 0 0) (.slice none 0 0)
          refine bodyPost_ret (v := .tuple #[.agg #[.slice none 0 0, .slice none 0 0], .int .i64 9]) (by simp [results, Tryz.results7, go_sem, xs.1, xs.2]) rfl ?_
          exact frp_set S9.out.b4 (Num.nil _) (Num.nil _) S9.out.bel (by simp; omega) _ _
      · rw [show addA true true X Y Z W = no 9 by unfold addA; rw [← hP, ← hQ, ← hR]; rcases b with b | b | b <;> (rw [big_yes b]; simp)]
        clear hX hY hZ hW ha hb v1 v2 v3 v4 l1 l2 hP hQ hR h0 b hj1 hj2 hj3
        go_enter Tryz.func7, Tryz.ntmps7
        go_wp2_with (first
          | (go_at_call 21; first
            | ((with_reducible refine (c1 _ (S0.out.al3 _ _ _ _ _ _).c0 (S0.out.al3 _ _ _ _ _ _).c1).mono ?_); rintro e w1 ⟨rfl, hb⟩; have K1 := Lib.hid ((S0.out.al3 _ _ _ _ _ _).below hb); have ygfst := K1.out.b1.fst; have ygsnd := K1.out.b1.snd; clear hb)
            | ((with_reducible refine (c2v _ K1.out.c2 K1.out.c3).mono ?_); rintro e w2 ⟨rfl, hb⟩; have K2 := Lib.hid (K1.out.below hb); clear ygfst ygsnd; have yffst := K2.out.b2.fst; have yfsnd := K2.out.b2.snd; have ygfst := K2.out.b1.fst; have ygsnd := K2.out.b1.snd; clear hb))
          | (go_at_call 22; first
            | ((with_reducible refine (kc _ _ _ _ _ _ _ _ _ K2.out.c0 K2.out.c1 K2.out.c2 K2.out.c3).mono ?_); rintro e w3 ⟨Ap, np, cp, Aq, nq, cq, As, ns, cs, rfl, qp, qq, qs, hb⟩; obtain ⟨zz, gp⟩ := num_at HJ1.out qp; subst zz; obtain ⟨zz, gq⟩ := num_at HJ2.out qq; subst zz; obtain ⟨zz, gs⟩ := num_at HJ3.out qs; subst zz; have K3 := Lib.hid ((((K2.out.below hb).addc gs).addc gq).addc gp); clear yffst yfsnd ygfst ygsnd; have z1 := fun o0 o1 o2 => (((K3.out.alloc o0).alloc o1).alloc o2).b0.fst; have z2 := fun o0 o1 o2 => (((K3.out.alloc o0).alloc o1).alloc o2).b0.snd; have f1 := fun o0 o1 o2 => (((K3.out.alloc o0).alloc o1).alloc o2).b0.free 0; have f2 := fun o0 o1 o2 => (((K3.out.alloc o0).alloc o1).alloc o2).b0.free 1; clear hb qp qq qs gp gq gs)))
        have S9 := Lib.hid (K3.out.al3 #[.slice Ap j1 cp] #[.slice Aq j2 cq] #[.slice As j3 cs] 24 24 24)
        have xs := two_set S9.out.b3 (.slice none 0 0) (.slice none 0 0)
        refine bodyPost_ret (v := .tuple #[.agg #[.slice none 0 0, .slice none 0 0], .int .i64 9]) (by simp [results, Tryz.results7, go_sem, xs.1, xs.2]) rfl ?_
        exact frp_set S9.out.b3 (Num.nil _) (Num.nil _) S9.out.bel (by simp; omega) _ _
set_option maxRecDepth 4000 in
set_option maxHeartbeats 4000000 in
theorem rfsub_any (A B A2 B2 : Option Addr) (n c m d n2 c2 m2 d2 X Y Z W : Nat) (hX : Hid (X < 4294967296 ^ n)) (hY : Hid (Y < 4294967296 ^ m)) (hZ : Hid (Z < 4294967296 ^ n2)) (hW : Hid (W < 4294967296 ^ m2))
    (j1 : n ≤ 9223372036854775807) (j2 : m ≤ 9223372036854775807) (j3 : n2 ≤ 9223372036854775807) (j4 : m2 ≤ 9223372036854775807) (w : World)
    (h1 : Cel .u32 w A (dg 4294967296 n X)) (h2 : Cel .u32 w B (dg 4294967296 m Y)) (h3 : Cel .u32 w A2 (dg 4294967296 n2 Z)) (h4 : Cel .u32 w B2 (dg 4294967296 m2 W)) :
    Calls Tryz.prog 9 #[.agg #[.slice A n c, .slice B m d], .agg #[.slice A2 n2 c2, .slice B2 m2 d2]] w (FrP (subA (frB n X m Y) (frB n2 Z m2 W) X Y Z W) w) := by
  have S0 := Lib.hid ((((Kp.start w).addc h4).addc h3).addc h2 |>.addc h1)
  clear h1 h2 h3 h4
  obtain ⟨a, ha⟩ : ∃ a, Hid (a = frB n X m Y) := ⟨_, Lib.hid rfl⟩
  obtain ⟨b, hb⟩ : ∃ b, Hid (b = frB n2 Z m2 W) := ⟨_, Lib.hid rfl⟩
  rw [← ha.out, ← hb.out]
  have c1 := fun w h1 h2 => rvd_any A B n c m d X Y hX hY a j1 j2 ha w h1 h2
  have c2v := fun w h1 h2 => rvd_any A2 B2 n2 c2 m2 d2 Z W hZ hW b j3 j4 hb w h1 h2
  cases a with
  | false =>
    rw [show subA false b X Y Z W = no 2 from rfl]
    clear hX hY hZ hW ha hb c2v
    go_enter Tryz.func9, Tryz.ntmps9
    go_wp2_with (first
      | (go_at_call 21; ((with_reducible refine (c1 _ (S0.out.al3 _ _ _ _ _ _).c0 (S0.out.al3 _ _ _ _ _ _).c1).mono ?_); rintro e w1 ⟨rfl, hb⟩; have S1 := Lib.hid ((S0.out.al3 _ _ _ _ _ _).below hb); have z1 := S1.out.b0.fst; have z2 := S1.out.b0.snd; have f1 := S1.out.b0.free 0; have f2 := S1.out.b0.free 1; clear hb)))
    have xs := two_set S1.out.b0 (.slice none 0 0) (.slice none 0 0)
    refine bodyPost_ret (v := .tuple #[.agg #[.slice none 0 0, .slice none 0 0], .int .i64 2]) (by simp [results, Tryz.results9, go_sem, xs.1, xs.2]) rfl ?_
    exact frp_set S1.out.b0 (Num.nil _) (Num.nil _) S1.out.bel (by simp; omega) _ _
  | true =>
    cases b with
    | false =>
      rw [show subA true false X Y Z W = no 2 from rfl]
      clear hX hY hZ hW ha hb
      go_enter Tryz.func9, Tryz.ntmps9
      go_wp2_with (first
        | (go_at_call 21; first
          | ((with_reducible refine (c1 _ (S0.out.al3 _ _ _ _ _ _).c0 (S0.out.al3 _ _ _ _ _ _).c1).mono ?_); rintro e w1 ⟨rfl, hb⟩; have S1 := Lib.hid ((S0.out.al3 _ _ _ _ _ _).below hb); have u1 := S1.out.b1.fst; have u2 := S1.out.b1.snd; clear hb)
          | ((with_reducible refine (c2v _ S1.out.c2 S1.out.c3).mono ?_); rintro e w2 ⟨rfl, hb⟩; have S2 := Lib.hid (S1.out.below hb); have z1 := S2.out.b0.fst; have z2 := S2.out.b0.snd; have f1 := S2.out.b0.free 0; have f2 := S2.out.b0.free 1; clear hb u1 u2)))
      have xs := two_set S2.out.b0 (.slice none 0 0) (.slice none 0 0)
      refine bodyPost_ret (v := .tuple #[.agg #[.slice none 0 0, .slice none 0 0], .int .i64 2]) (by simp [results, Tryz.results9, go_sem, xs.1, xs.2]) rfl ?_
      exact frp_set S2.out.b0 (Num.nil _) (Num.nil _) S2.out.bel (by simp; omega) _ _
    | true =>
      obtain ⟨v1, v2, l1⟩ := fr_low ha.out.symm
      obtain ⟨v3, v4, l2⟩ := fr_low hb.out.symm
      obtain ⟨P, hP⟩ : ∃ N, N = X * W := ⟨_, rfl⟩
      obtain ⟨Q, hQ⟩ : ∃ N, N = Z * Y := ⟨_, rfl⟩
      obtain ⟨R, hR⟩ : ∃ N, N = Y * W := ⟨_, rfl⟩
      have h0 : 0 < R := by rw [hR]; exact Nat.mul_pos l1.1 l2.1
      obtain ⟨C, hC⟩ : ∃ C, Hid (C = fcV (frB n X m Y) (frB n2 Z m2 W) X Y Z W) := ⟨_, Lib.hid rfl⟩
      have k5 := fun w h1 h2 h3 h4 => rfcmp_any A B A2 B2 n c m d n2 c2 m2 d2 X Y Z W C hX hY hZ hW j1 j2 j3 j4 hC w h1 h2 h3 h4
      have eC : C = cmpI P Q := by rw [hC.out, ← ha.out, ← hb.out, hP, hQ]; rfl
      clear hC j1 j2 j3 j4
      by_cases hlt : P < Q
      · have hc : C < 0 := by rw [eC, cmpI_lt hlt]; omega
        rw [show subA true true X Y Z W = no 2 by unfold subA; rw [← hP, ← hQ, decide_eq_false (by omega)]; rfl]
        clear hX hY hZ hW ha hb v1 v2 v3 v4 l1 l2 hP hQ hR h0 eC hlt
        go_enter Tryz.func9, Tryz.ntmps9
        go_wp2_with (first
          | (go_at_call 21; first
            | ((with_reducible refine (c1 _ (S0.out.al3 _ _ _ _ _ _).c0 (S0.out.al3 _ _ _ _ _ _).c1).mono ?_); rintro e w1 ⟨rfl, hb⟩; have K1 := Lib.hid ((S0.out.al3 _ _ _ _ _ _).below hb); have ygfst := K1.out.b1.fst; have ygsnd := K1.out.b1.snd; clear hb)
            | ((with_reducible refine (c2v _ K1.out.c2 K1.out.c3).mono ?_); rintro e w2 ⟨rfl, hb⟩; have K2 := Lib.hid (K1.out.below hb); clear ygfst ygsnd; have yffst := K2.out.b2.fst; have yfsnd := K2.out.b2.snd; have ygfst := K2.out.b1.fst; have ygsnd := K2.out.b1.snd; clear hb))
          | (go_at_call 27; first
            | ((with_reducible refine (k5 _ K2.out.c0 K2.out.c1 K2.out.c2 K2.out.c3).mono ?_); rintro e w3 ⟨rfl, hb⟩; have K3 := Lib.hid (K2.out.below hb); clear yffst yfsnd ygfst ygsnd; have z1 := K3.out.b0.fst; have z2 := K3.out.b0.snd; have f1 := K3.out.b0.free 0; have f2 := K3.out.b0.free 1; clear hb)))
        have S9 := Lib.hid K3.out
        have xs := two_set S9.out.b0 (.slice none 0 0) (.slice none 0 0)
        refine bodyPost_ret (v := .tuple #[.agg #[.slice none 0 0, .slice none 0 0], .int .i64 2]) (by simp [results, Tryz.results9, go_sem, xs.1, xs.2]) rfl ?_
        exact frp_set S9.out.b0 (Num.nil _) (Num.nil _) S9.out.bel (by simp; omega) _ _
      have hle : Q ≤ P := by omega
      have hc : ¬ C < 0 := by rw [eC]; unfold cmpI; rw [if_neg hlt]; split <;> omega
      clear eC hlt
      obtain ⟨V1, V2, V3, E, o, kc⟩ := crossed_all v1 v2 v3 v4 hP hQ hR
      obtain ⟨j1, hj1⟩ : ∃ n, n = nlen 4294967296 V1 := ⟨_, rfl⟩
      have HJ1 := Lib.hid hj1
      obtain ⟨j2, hj2⟩ : ∃ n, n = nlen 4294967296 V2 := ⟨_, rfl⟩
      have HJ2 := Lib.hid hj2
      obtain ⟨j3, hj3⟩ : ∃ n, n = nlen 4294967296 V3 := ⟨_, rfl⟩
      have HJ3 := Lib.hid hj3
      rcases o with ⟨rfl, rfl, rfl, rfl, b1, b2, b3⟩ | ⟨rfl, rfl, rfl, rfl, b⟩
      · have w1 : valB j1 V1 = true := valB_iff.2 ⟨by omega, hj1.symm⟩
        have w2 : valB j2 V2 = true := valB_iff.2 ⟨by omega, hj2.symm⟩
        obtain ⟨V4, hV4⟩ : ∃ V, V = V1 - V2 := ⟨_, rfl⟩
        have k4 := rsub_ok w1 w2 hle hV4
        have b4 : nlen 4294967296 V4 ≤ 64 := Nat.le_trans (nlen_mono (by omega) (by omega)) b1
        obtain ⟨j4, hj4⟩ : ∃ n, n = nlen 4294967296 V4 := ⟨_, rfl⟩
        have HJ4 := Lib.hid hj4
        have k6 := rred_red hj4 hj3 (by omega) (by omega) h0
        obtain ⟨r, hr⟩ : ∃ r, Hid (r = rd V4 V3) := ⟨_, Lib.hid rfl⟩
        rw [← hr.out] at k6
        rw [show subA true true X Y Z W = r by rw [hr.out, hV4]; unfold subA; rw [← hP, ← hQ, ← hR, decide_eq_true hle]; rw [big_no b1, big_no b2, big_no b3]; rfl]
        clear hX hY hZ hW ha hb v1 v2 v3 v4 l1 l2 hP hQ hR h0 b1 b2 b3 hj1 hj2 hj3 w1 w2 b4 hj4 hr hV4 hle
        go_enter Tryz.func9, Tryz.ntmps9
        go_wp2_with (first
          | (go_at_call 21; first
            | ((with_reducible refine (c1 _ (S0.out.al3 _ _ _ _ _ _).c0 (S0.out.al3 _ _ _ _ _ _).c1).mono ?_); rintro e w1 ⟨rfl, hb⟩; have K1 := Lib.hid ((S0.out.al3 _ _ _ _ _ _).below hb); have ygfst := K1.out.b1.fst; have ygsnd := K1.out.b1.snd; clear hb)
            | ((with_reducible refine (c2v _ K1.out.c2 K1.out.c3).mono ?_); rintro e w2 ⟨rfl, hb⟩; have K2 := Lib.hid (K1.out.below hb); clear ygfst ygsnd; have yffst := K2.out.b2.fst; have yfsnd := K2.out.b2.snd; have ygfst := K2.out.b1.fst; have ygsnd := K2.out.b1.snd; clear hb))
          | (go_at_call 27; first
            | ((with_reducible refine (k5 _ K2.out.c0 K2.out.c1 K2.out.c2 K2.out.c3).mono ?_); rintro e w3 ⟨rfl, hb⟩; have K3 := Lib.hid (K2.out.below hb); clear yffst yfsnd ygfst ygsnd; have yffst := K3.out.b2.fst; have yfsnd := K3.out.b2.snd; have ygfst := K3.out.b1.fst; have ygsnd := K3.out.b1.snd; clear hb))
          | (go_at_call 22; first
            | ((with_reducible refine (kc _ _ _ _ _ _ _ _ _ K3.out.c0 K3.out.c1 K3.out.c2 K3.out.c3).mono ?_); rintro e w4 ⟨Ap, np, cp, Aq, nq, cq, As, ns, cs, rfl, qp, qq, qs, hb⟩; obtain ⟨zz, gp⟩ := num_at HJ1.out qp; subst zz; obtain ⟨zz, gq⟩ := num_at HJ2.out qq; subst zz; obtain ⟨zz, gs⟩ := num_at HJ3.out qs; subst zz; have K4 := Lib.hid ((((K3.out.below hb).addc gs).addc gq).addc gp); clear yffst yfsnd ygfst ygsnd; clear hb qp qq qs gp gq gs))
          | (go_at_call 28; first
            | ((with_reducible refine (k4 _ _ _ _ _ (K4.out.al3 _ _ _ _ _ _).c0 (K4.out.al3 _ _ _ _ _ _).c1).mono ?_); rintro e w5 ⟨At, nt, ct, rfl, qt, hb⟩; obtain ⟨zz, gt⟩ := num_at HJ4.out qt; subst zz; have K5 := Lib.hid (((K4.out.al3 _ _ _ _ _ _).below hb).addc gt); have ysone := fun o0 => (K5.out.alloc o0).b0.one; clear hb qt gt))
          | (go_at_call 24; first
            | ((with_reducible refine (k6 _ _ _ _ _ (K5.out.al1 _ _).c0 (K5.out.al1 _ _).c3).mono ?_); rintro e w6 ⟨A7, n7, c7, B7, m7, d7, rfl, q1, q2, hb⟩; have K6 := Lib.hid ((K5.out.al1 _ _).below hb); clear ysone; have Q1 := Lib.hid q1; have Q2 := Lib.hid q2; have z1 := K6.out.b4.fst; have z2 := K6.out.b4.snd; have f1 := K6.out.b4.free 0; have f2 := K6.out.b4.free 1; clear hb q1 q2)))
        have S9 := Lib.hid K6.out
        have xs := two_set S9.out.b4 (.slice A7 n7 c7) (.slice B7 m7 d7)
        refine bodyPost_ret (v := .tuple #[.agg #[.slice A7 n7 c7, .slice B7 m7 d7], .int .i64 r.1]) (by simp [results, Tryz.results9, go_sem, xs.1, xs.2]) rfl ?_
        exact frp_set S9.out.b4 Q1.out Q2.out S9.out.bel (by simp; omega) _ _
      · rw [show subA true true X Y Z W = no 9 by unfold subA; rw [← hP, ← hQ, ← hR, decide_eq_true hle]; rcases b with b | b | b <;> (rw [big_yes b]; simp)]
        clear hX hY hZ hW ha hb v1 v2 v3 v4 l1 l2 hP hQ hR h0 b hj1 hj2 hj3 hle
        go_enter Tryz.func9, Tryz.ntmps9
        go_wp2_with (first
          | (go_at_call 21; first
            | ((with_reducible refine (c1 _ (S0.out.al3 _ _ _ _ _ _).c0 (S0.out.al3 _ _ _ _ _ _).c1).mono ?_); rintro e w1 ⟨rfl, hb⟩; have K1 := Lib.hid ((S0.out.al3 _ _ _ _ _ _).below hb); have ygfst := K1.out.b1.fst; have ygsnd := K1.out.b1.snd; clear hb)
            | ((with_reducible refine (c2v _ K1.out.c2 K1.out.c3).mono ?_); rintro e w2 ⟨rfl, hb⟩; have K2 := Lib.hid (K1.out.below hb); clear ygfst ygsnd; have yffst := K2.out.b2.fst; have yfsnd := K2.out.b2.snd; have ygfst := K2.out.b1.fst; have ygsnd := K2.out.b1.snd; clear hb))
          | (go_at_call 27; first
            | ((with_reducible refine (k5 _ K2.out.c0 K2.out.c1 K2.out.c2 K2.out.c3).mono ?_); rintro e w3 ⟨rfl, hb⟩; have K3 := Lib.hid (K2.out.below hb); clear yffst yfsnd ygfst ygsnd; have yffst := K3.out.b2.fst; have yfsnd := K3.out.b2.snd; have ygfst := K3.out.b1.fst; have ygsnd := K3.out.b1.snd; clear hb))
          | (go_at_call 22; first
            | ((with_reducible refine (kc _ _ _ _ _ _ _ _ _ K3.out.c0 K3.out.c1 K3.out.c2 K3.out.c3).mono ?_); rintro e w4 ⟨Ap, np, cp, Aq, nq, cq, As, ns, cs, rfl, qp, qq, qs, hb⟩; obtain ⟨zz, gp⟩ := num_at HJ1.out qp; subst zz; obtain ⟨zz, gq⟩ := num_at HJ2.out qq; subst zz; obtain ⟨zz, gs⟩ := num_at HJ3.out qs; subst zz; have K4 := Lib.hid ((((K3.out.below hb).addc gs).addc gq).addc gp); clear yffst yfsnd ygfst ygsnd; have z1 := fun o0 o1 o2 => (((K4.out.alloc o0).alloc o1).alloc o2).b0.fst; have z2 := fun o0 o1 o2 => (((K4.out.alloc o0).alloc o1).alloc o2).b0.snd; have f1 := fun o0 o1 o2 => (((K4.out.alloc o0).alloc o1).alloc o2).b0.free 0; have f2 := fun o0 o1 o2 => (((K4.out.alloc o0).alloc o1).alloc o2).b0.free 1; clear hb qp qq qs gp gq gs)))
        have S9 := Lib.hid (K4.out.al3 #[.slice Ap j1 cp] #[.slice Aq j2 cq] #[.slice As j3 cs] 24 24 24)
        have xs := two_set S9.out.b3 (.slice none 0 0) (.slice none 0 0)
        refine bodyPost_ret (v := .tuple #[.agg #[.slice none 0 0, .slice none 0 0], .int .i64 9]) (by simp [results, Tryz.results9, go_sem, xs.1, xs.2]) rfl ?_
        exact frp_set S9.out.b3 (Num.nil _) (Num.nil _) S9.out.bel (by simp; omega) _ _
end Go.Proofs.YtinceponggpioaaGreatDoor.frW

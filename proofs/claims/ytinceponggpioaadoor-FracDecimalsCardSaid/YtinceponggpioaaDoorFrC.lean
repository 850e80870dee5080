/-
  Contracts of compare and Cmp of frac.
-/
import Derived.Test.YtinceponggpioaaDoorFrB
import Derived.Deep.Cut
import Derived.Deep.LoopGhost
namespace Go.Proofs.YtinceponggpioaaDoor.frC
open Go.RowKit
open Go.Proofs.YtinceponggpioaaDoor.natM Go.Proofs.YtinceponggpioaaDoor.natA Go.Proofs.YtinceponggpioaaDoor.natB Go.Proofs.YtinceponggpioaaDoor.natC Go.Proofs.YtinceponggpioaaDoor.natD Go.Proofs.YtinceponggpioaaDoor.natE Go.Proofs.YtinceponggpioaaDoor.natF Go.Proofs.YtinceponggpioaaDoor.natG Go.Proofs.YtinceponggpioaaDoor.natH Go.Proofs.YtinceponggpioaaDoor.natI Go.Proofs.YtinceponggpioaaDoor.natJ Go.Proofs.YtinceponggpioaaDoor.natX Go.Proofs.YtinceponggpioaaDoor.natUi Go.Proofs.YtinceponggpioaaDoor.frM Go.Proofs.YtinceponggpioaaDoor.frA Go.Proofs.YtinceponggpioaaDoor.frB
set_option linter.unusedVariables false

theorem val_lt {n X : Nat} (h : valB n X = true) : X < 4294967296 ^ n := by
  have := (valB_iff.1 h).2
  have h2 := nlen_lt (B := 4294967296) (by omega) X
  rwa [this] at h2
theorem div_kit {n m X Y Q R : Nat} (h1 : valB n X = true) (h2 : valB m Y = true) (hy : 0 < Y) (hQ : Q = X / Y) (hR : R = X % Y) (A : Option Addr) (c : Nat) (D : Option Addr) (d : Nat) (w : World) (hI : Cel .u32 w A (dg 4294967296 n X)) (hJ : Cel .u32 w D (dg 4294967296 m Y)) :
    Calls Tryd.prog 35 #[.agg #[.slice A n c], .agg #[.slice D m d]] w (DivR Q R 0 w) := by
  have l1 := (valB_iff.1 h1).1
  have l2 := (valB_iff.1 h2).1
  have := divmod_any A D n c m d X Y (Lib.hid (val_lt h1)) (Lib.hid (val_lt h2)) (by omega) (by omega) w hI hJ
  have e : divQ n X m Y = Q ∧ divR n X m Y = R ∧ divE n X m Y = 0 := by
    unfold divQ divR divE; rw [h1, h2, hQ, hR]; have := d_ok (X := X) hy; exact ⟨this.2.1, this.2.2, this.1⟩
  rwa [e.1, e.2.1, e.2.2] at this
theorem cmp_kit {n m X Y : Nat} {C : Int} (h1 : valB n X = true) (h2 : valB m Y = true) (hC : C = cmpI X Y) (A : Option Addr) (c : Nat) (D : Option Addr) (d : Nat) (w : World) (hI : Cel .u32 w A (dg 4294967296 n X)) (hJ : Cel .u32 w D (dg 4294967296 m Y)) :
    Calls Tryd.prog 41 #[.agg #[.slice A n c], .agg #[.slice D m d]] w fun e w' => e = .returned (.int .i64 C) ∧ Below w.heap.size w w' := by
  have l1 := (valB_iff.1 h1).1
  have l2 := (valB_iff.1 h2).1
  exact cmp_any A D n c m d X Y C (Lib.hid (val_lt h1)) (Lib.hid (val_lt h2)) (by omega) (by omega) (Lib.hid (by rw [cmpV_ok h1 h2, hC])) w hI hJ
theorem val_le {n X V : Nat} (h : valB n X = true) (hV : V ≤ X) : valB (nlen 4294967296 V) V = true := valB_iff.2 ⟨by have h1 := valB_iff.1 h; have := nlen_mono (B := 4294967296) (by omega) hV; omega, rfl⟩

theorem far_bk1 {w : World} {A : Option Addr} {zs : List Nat} {b : Nat} {a1 : Option Addr} {n1 c1 : Nat} (h : Cel .u32 w A zs) (hb : Bk w b #[.slice a1 n1 c1]) : Far A zs.length b := fun hp ad e => by
  obtain ⟨b2, off, e2, hc⟩ := h hp
  have h1 := hc 0 _ (at0_some hp)
  rw [e2] at e
  injection e with e
  subst e
  rintro rfl
  rw [hb.at_] at h1
  have hj : off + 0 < 1 := by
    have := (Array.getElem?_eq_some_iff.1 h1).1
    simpa using this
  rw [show off + 0 = 0 by omega] at h1
  simp at h1
theorem kp_set {w0 w : World} {cs : List (Option Addr × Nat × Nat)} {bs : List (Nat × Array Value)} {b : Nat} {a : Option Addr} {n c : Nat} (h : Kp w0 cs ((b, #[.slice a n c]) :: bs) w) (hl : w0.heap.size ≤ b) (hne : ∀ x ∈ bs, x.1 ≠ b) (u : Value) : Kp w0 cs (bs ++ [(b, #[u])]) (w.setCell ⟨b, 0, none⟩ u) :=
  ⟨h.bel.setCell (p := ⟨b, 0, none⟩) hl u, fun x hx => (h.cel x hx).set_ (p := ⟨b, 0, none⟩) (far_bk1 (h.cel x hx) h.b0) u, fun x hx => by
    rcases List.mem_append.1 hx with hx | hx
    · exact (h.blk x (.tail _ hx)).far (p := ⟨b, 0, none⟩) (hne x hx) u
    · simp at hx; subst hx; exact h.b0.set_ 0 u⟩
theorem kp_sets {w0 w : World} {cs : List (Option Addr × Nat × Nat)} {p5 p6 p7 p8 : Nat} {a5 a6 a7 a8 : Option Addr} {n5 c5 n6 c6 n7 c7 n8 c8 : Nat} (h : Kp w0 cs [(p5, #[.slice a5 n5 c5]), (p6, #[.slice a6 n6 c6]), (p7, #[.slice a7 n7 c7]), (p8, #[.slice a8 n8 c8])] w)
    (hp : (p5 ≠ p6 ∧ p5 ≠ p7 ∧ p5 ≠ p8 ∧ p6 ≠ p7 ∧ p6 ≠ p8 ∧ p7 ≠ p8) ∧ w0.heap.size ≤ p5 ∧ w0.heap.size ≤ p6 ∧ w0.heap.size ≤ p7 ∧ w0.heap.size ≤ p8) (u5 u6 u7 u8 : Value) :
    Kp w0 cs [(p5, #[u5]), (p6, #[u6]), (p7, #[u7]), (p8, #[u8])] ((((w.setCell ⟨p5, 0, none⟩ u5).setCell ⟨p6, 0, none⟩ u6).setCell ⟨p7, 0, none⟩ u7).setCell ⟨p8, 0, none⟩ u8) := by
  obtain ⟨⟨h1, h2, h3, h4, h5, h6⟩, l5, l6, l7, l8⟩ := hp
  have s1 := kp_set h l5 (by intro x hx; simp at hx; rcases hx with rfl | rfl | rfl <;> first | exact Ne.symm h1 | exact Ne.symm h2 | exact Ne.symm h3) u5
  have s2 := kp_set s1 l6 (by intro x hx; simp at hx; rcases hx with rfl | rfl | rfl <;> first | exact Ne.symm h4 | exact Ne.symm h5 | exact h1) u6
  have s3 := kp_set s2 l7 (by intro x hx; simp at hx; rcases hx with rfl | rfl | rfl <;> first | exact Ne.symm h6 | exact h2 | exact h4) u7
  exact kp_set s3 l8 (by intro x hx; simp at hx; rcases hx with rfl | rfl | rfl <;> first | exact h3 | exact h5 | exact h6) u8
theorem kp_pick {w0 w : World} {cs : List (Option Addr × Nat × Nat)} {bs : List (Nat × Array Value)} {x0 x1 x2 x3 : Option Addr × Nat × Nat} {y0 y1 y2 y3 : Nat × Array Value} (h : Kp w0 cs bs w) (h0 : x0 ∈ cs) (h1 : x1 ∈ cs) (h2 : x2 ∈ cs) (h3 : x3 ∈ cs) (g0 : y0 ∈ bs) (g1 : y1 ∈ bs) (g2 : y2 ∈ bs) (g3 : y3 ∈ bs) : Kp w0 [x0, x1, x2, x3] [y0, y1, y2, y3] w :=
  ⟨h.bel, fun x hx => by simp at hx; rcases hx with rfl | rfl | rfl | rfl <;> first | exact h.cel _ h0 | exact h.cel _ h1 | exact h.cel _ h2 | exact h.cel _ h3, fun x hx => by simp at hx; rcases hx with rfl | rfl | rfl | rfl <;> first | exact h.blk _ g0 | exact h.blk _ g1 | exact h.blk _ g2 | exact h.blk _ g3⟩

theorem bk40 (w : World) (v : Array Value) (T : TypeId) (o1 o2 o3 : Obj) : Bk ((((w.alloc (.cells v T)).alloc o1).alloc o2).alloc o3).drew w.heap.size v := (((Bk.n0 w v T).alloc o1).alloc o2).alloc o3
theorem bk41 (w : World) (v : Array Value) (T : TypeId) (o1 o2 o3 : Obj) : Bk ((((w.alloc o1).alloc (.cells v T)).alloc o2).alloc o3).drew (w.heap.size + 1) v := ((Bk.n1 w o1 v T).alloc o2).alloc o3
theorem bk42 (w : World) (v : Array Value) (T : TypeId) (o1 o2 o3 : Obj) : Bk ((((w.alloc o1).alloc o2).alloc (.cells v T)).alloc o3).drew (w.heap.size + 1 + 1) v := (Bk.n2 w o1 o2 v T).alloc o3
theorem bk43 (w : World) (v : Array Value) (T : TypeId) (o1 o2 o3 : Obj) : Bk ((((w.alloc o1).alloc o2).alloc o3).alloc (.cells v T)).drew (w.heap.size + 1 + 1 + 1) v := Bk.n3 w o1 o2 o3 v T
theorem kp_four {w0 w w1 : World} {cs : List (Option Addr × Nat × Nat)} {bs : List (Nat × Array Value)} (h : Kp w0 cs bs w) {p5 p6 p7 p8 : Nat} {v5 v6 v7 v8 : Array Value} (hb : Below w.heap.size w w1) (h5 : Bk w1 p5 v5) (h6 : Bk w1 p6 v6) (h7 : Bk w1 p7 v7) (h8 : Bk w1 p8 v8) :
    Kp w0 cs [(p5, v5), (p6, v6), (p7, v7), (p8, v8)] w1 := by
  have := h.below hb
  exact ((((⟨this.bel, this.cel, fun x hx => by simp at hx⟩ : Kp w0 cs [] w1).addb h8).addb h7).addb h6).addb h5
theorem below_al4 (w : World) (o1 o2 o3 o4 : Obj) : Below w.heap.size w ((((w.alloc o1).alloc o2).alloc o3).alloc o4).drew := bel_drew (below_four w o1 o2 o3 o4)

set_option maxRecDepth 4000 in
set_option maxHeartbeats 2000000 in
theorem comp_any (A B A2 B2 : Option Addr) (n c m d n2 c2 m2 d2 X Y Z W : Nat) (C : Int) (hX : Hid (X < 4294967296 ^ n)) (hY : Hid (Y < 4294967296 ^ m)) (hZ : Hid (Z < 4294967296 ^ n2)) (hW : Hid (W < 4294967296 ^ m2))
    (v1 : Hid (valB n X = true)) (v2 : Hid (valB m Y = true)) (v3 : Hid (valB n2 Z = true)) (v4 : Hid (valB m2 W = true)) (hy : 0 < Y) (hw : 0 < W) (hC : Hid (C = cmpI (X * W) (Z * Y))) (w : World)
    (h1 : Cel .u32 w A (dg 4294967296 n X)) (h2 : Cel .u32 w B (dg 4294967296 m Y)) (h3 : Cel .u32 w A2 (dg 4294967296 n2 Z)) (h4 : Cel .u32 w B2 (dg 4294967296 m2 W)) :
    Calls Tryd.prog 44 #[.agg #[.slice A n c, .slice B m d], .agg #[.slice A2 n2 c2, .slice B2 m2 d2]] w fun e w' => e = .returned (.int .i64 C) ∧ Below w.heap.size w w' := by
  obtain ⟨w1, hw1⟩ : ∃ w1, (w.alloc (Obj.cells #[.slice A n c, .slice B m d] 28)).alloc (Obj.cells #[.slice A2 n2 c2, .slice B2 m2 d2] 28) = w1 := ⟨_, rfl⟩
  obtain ⟨p0, hp0⟩ : ∃ p, p = w.heap.size := ⟨_, rfl⟩
  obtain ⟨p1, hp1⟩ : ∃ p, p = w.heap.size + 1 := ⟨_, rfl⟩
  have S0 : Hid (Kp w [(A, n, X), (B, m, Y), (A2, n2, Z), (B2, m2, W)] [(p1, #[.slice A2 n2 c2, .slice B2 m2 d2]), (p0, #[.slice A n c, .slice B m d])] w1) := Lib.hid (by
    rw [← hw1, hp0, hp1]
    exact (((((Kp.start w).addc h4).addc h3).addc h2).addc h1).al2 _ _ _ _)
  have HW1 := Lib.hid hw1
  have HP0 := Lib.hid hp0
  have HP1 := Lib.hid hp1
  clear h1 h2 h3 h4 hw1 hp0 hp1
  have x1 := S0.out.b0.fst
  have x2 := S0.out.b0.snd
  have x3 := S0.out.b1.fst
  have x4 := S0.out.b1.snd
  have l0 := S0.out.b0.lt
  have l1 := S0.out.b1.lt
  have e1 : w1.heap.size ≠ p0 := by omega
  have e2 : w1.heap.size ≠ p1 := by omega
  have e3 : w1.heap.size + 1 ≠ p0 := by omega
  have e4 : w1.heap.size + 1 ≠ p1 := by omega
  have e5 : w1.heap.size + 2 ≠ p0 := by omega
  have e6 : w1.heap.size + 2 ≠ p1 := by omega
  have e7 : w1.heap.size + 3 ≠ p0 := by omega
  have e8 : w1.heap.size + 3 ≠ p1 := by omega
  clear l0 l1
  go_enter Tryd.func44, Tryd.ntmps44
  go_upto_region 1 with fail
  rw [HW1.out, ← HP1.out, ← HP0.out]
  go_cut [5, 6, 7, 8] from 16 (fun s5 s6 s7 s8 wx => ∃ p5 p6 p7 p8 : Nat, s5 = .pointer (some ⟨p5, 0, none⟩) ∧ s6 = .pointer (some ⟨p6, 0, none⟩) ∧ s7 = .pointer (some ⟨p7, 0, none⟩) ∧ s8 = .pointer (some ⟨p8, 0, none⟩) ∧ Hid ((p5 ≠ p6 ∧ p5 ≠ p7 ∧ p5 ≠ p8 ∧ p6 ≠ p7 ∧ p6 ≠ p8 ∧ p7 ≠ p8) ∧ w.heap.size ≤ p5 ∧ w.heap.size ≤ p6 ∧ w.heap.size ≤ p7 ∧ w.heap.size ≤ p8) ∧
      Hid (Kp w [(A, n, X), (B, m, Y), (A2, n2, Z), (B2, m2, W)] [(p5, #[.slice A n c]), (p6, #[.slice B m d]), (p7, #[.slice A2 n2 c2]), (p8, #[.slice B2 m2 d2])] wx))
  case first =>
    go_region_held3 (fun w' => w'.cell? ⟨p0, 0, none⟩ = some (.slice A n c) ∧ w'.cell? ⟨p0, 1, none⟩ = some (.slice B m d) ∧ w'.cell? ⟨p1, 0, none⟩ = some (.slice A2 n2 c2) ∧ w'.cell? ⟨p1, 1, none⟩ = some (.slice B2 m2 d2)) (simp (maxDischargeDepth := 9) [*, World.cell?_alloc_some]) (fail)
    all_goals (go_wp2_with fail; go_meet; refine ⟨_, _, _, _, rfl, rfl, rfl, rfl, Lib.hid (by have := S0.out.bel.size; omega), Lib.hid (kp_four S0.out (below_al4 _ _ _ _ _) ?_ ?_ ?_ ?_)⟩)
    all_goals (first | exact bk40 _ _ _ _ _ _ | exact bk41 _ _ _ _ _ _ | exact bk42 _ _ _ _ _ _ | exact bk43 _ _ _ _ _ _)
  case rest =>
    obtain ⟨p5, p6, p7, p8, rfl, rfl, rfl, rfl, hp, hk⟩ := hcut
    clear x1 x2 x3 x4 e1 e2 e3 e4 e5 e6 e7 e8 S0 HW1 HP0 HP1
    go_wp2_with fail
    go_loopg [4] (Y + W) (fun k s4 wr => ∃ (A1 B1 A3 B3 : Option Addr) (n1 c1 m1 d1 n3 c3 m3 d3 X1 Y1 Z1 W1 : Nat), Y1 + W1 = k ∧ s4 = .int .i64 0 ∧ 0 < Y1 ∧ 0 < W1 ∧ Hid (valB n1 X1 = true ∧ valB m1 Y1 = true ∧ valB n3 Z1 = true ∧ valB m3 W1 = true) ∧
      Hid (C = cmpI (X1 * W1) (Z1 * Y1)) ∧ Hid (Kp w [(A1, n1, X1), (B1, m1, Y1), (A3, n3, Z1), (B3, m3, W1)] [(p5, #[.slice A1 n1 c1]), (p6, #[.slice B1 m1 d1]), (p7, #[.slice A3 n3 c3]), (p8, #[.slice B3 m3 d3])] wr))
    case atStart => exact ⟨A, B, A2, B2, n, c, m, d, n2, c2, m2, d2, X, Y, Z, W, rfl, rfl, hy, hw, Lib.hid ⟨v1.out, v2.out, v3.out, v4.out⟩, hC, hk⟩
    case round =>
      clear hk hC v1 v2 v3 v4 hX hY hZ hW hy hw
      obtain ⟨A1, B1, A3, B3, n1, c1, m1, d1, n3, c3, m3, d3, X1, Y1, Z1, W1, rfl, rfl, hy1, hw1, hv, hc, hk⟩ := hrel
      obtain ⟨v1, v2, v3, v4⟩ := hv.out
      obtain ⟨q1, hq1⟩ : ∃ q, q = X1 / Y1 := ⟨_, rfl⟩
      obtain ⟨r1, hr1⟩ : ∃ q, q = X1 % Y1 := ⟨_, rfl⟩
      obtain ⟨q2, hq2⟩ : ∃ q, q = Z1 / W1 := ⟨_, rfl⟩
      obtain ⟨r2, hr2⟩ : ∃ q, q = Z1 % W1 := ⟨_, rfl⟩
      have k1 := div_kit v1 v2 hy1 hq1 hr1
      have k2 := div_kit v3 v4 hw1 hq2 hr2
      have vq1 := val_le (V := q1) v1 (by rw [hq1]; exact Nat.div_le_self _ _)
      have vr1 := val_le (V := r1) v1 (by rw [hr1]; exact Nat.mod_le _ _)
      have vq2 := val_le (V := q2) v3 (by rw [hq2]; exact Nat.div_le_self _ _)
      have vr2 := val_le (V := r2) v3 (by rw [hr2]; exact Nat.mod_le _ _)
      have z1 : r1 = 0 ↔ nlen 4294967296 r1 = 0 := (nlen_zero_iff (by omega)).symm
      have z2 : r2 = 0 ↔ nlen 4294967296 r2 = 0 := (nlen_zero_iff (by omega)).symm
      obtain ⟨n5, hn5⟩ : ∃ n, n = nlen 4294967296 q1 := ⟨_, rfl⟩
      obtain ⟨n6, hn6⟩ : ∃ n, n = nlen 4294967296 r1 := ⟨_, rfl⟩
      obtain ⟨n7, hn7⟩ : ∃ n, n = nlen 4294967296 q2 := ⟨_, rfl⟩
      obtain ⟨n8, hn8⟩ : ∃ n, n = nlen 4294967296 r2 := ⟨_, rfl⟩
      rw [← hn5] at vq1
      rw [← hn6] at vr1 z1
      rw [← hn7] at vq2
      rw [← hn8] at vr2 z2
      have HN5 := Lib.hid hn5
      have HN6 := Lib.hid hn6
      have HN7 := Lib.hid hn7
      have HN8 := Lib.hid hn8
      have x5 := hk.out.b0.one
      have x6 := hk.out.b1.one
      have l1 := (valB_iff.1 v1).1
      have l3 := (valB_iff.1 v3).1
      have b6 : n6 ≤ 64 := (valB_iff.1 vr1).1
      have b8 : n8 ≤ 64 := (valB_iff.1 vr2).1
      by_cases hq : q1 = q2
      · have he : X1 / Y1 = Z1 / W1 := by rw [← hq1, ← hq2, hq]
        have k3 : ∀ A c D d w, Cel .u32 w A (dg 4294967296 n5 q1) → Cel .u32 w D (dg 4294967296 n7 q2) → Calls Tryd.prog 41 #[.agg #[.slice A n5 c], .agg #[.slice D n7 d]] w fun e w' => e = .returned (.int .i64 0) ∧ Below w.heap.size w w' := cmp_kit vq1 vq2 (cmpI_eq hq).symm
        by_cases h1 : r1 = 0
        · have hC : C = cmpI r1 r2 := by rw [hc.out, hr1, hr2]; exact cmp_left hy1 hw1 he (.inl (by rw [← hr1]; exact h1))
          have k4 := cmp_kit vr1 vr2 hC
          have e6 := z1.1 h1
          clear hc hq hq1 hq2 hr1 hr2 vq1 vq2 vr1 vr2 hn5 hn6 hn7 hn8 z1 z2 he hv v1 v2 v3 v4 h1 hC
          subst e6
          go_wp2_with (first
            | (go_at_call 35; first
          | ((with_reducible refine (k1 _ _ _ _ _ hk.out.c0 hk.out.c1).mono ?_); rintro e w2 ⟨A5, n5', c5, A6, n6', c6, rfl, qq, qr, hb⟩; obtain ⟨z, g1⟩ := num_at HN5.out qq; subst z; obtain ⟨z, g2⟩ := num_at HN6.out qr; subst z; have S1 := Lib.hid (((hk.out.below hb).addc g2).addc g1); have x7 := fun o1 o2 => ((S1.out.alloc o1).alloc o2).b2.one; have x8 := fun o1 o2 => ((S1.out.alloc o1).alloc o2).b3.one; clear hb g1 g2 qq qr x5 x6)
          | ((with_reducible refine (k2 _ _ _ _ _ (S1.out.al2 _ _ _ _).c4 (S1.out.al2 _ _ _ _).c5).mono ?_); rintro e w3 ⟨A7, n7', c7, A8, n8', c8, rfl, qq, qr, hb⟩; obtain ⟨z, g1⟩ := num_at HN7.out qq; subst z; obtain ⟨z, g2⟩ := num_at HN8.out qr; subst z; have S2 := Lib.hid ((((S1.out.al2 _ _ _ _).below hb).addc g2).addc g1); have x9 := fun o1 o2 => ((S2.out.alloc o1).alloc o2).b1.one; clear hb g1 g2 qq qr x7 x8))
            | (go_at_call 41; first
              | ((with_reducible refine (k3 _ _ _ _ _ (S2.out.al2 _ _ _ _).c2 (S2.out.al2 _ _ _ _).c0).mono ?_); rintro e w4 ⟨rfl, hb⟩; have S3 := Lib.hid ((S2.out.al2 _ _ _ _).below hb); have y10 := S3.out.b2.one; have y13 := S3.out.b0.one; clear hb x9)
              | ((with_reducible refine (k4 _ _ _ _ _ S4.out.c3 S4.out.c1).mono ?_); rintro e w6 ⟨rfl, hb⟩; have S5 := Lib.hid (S4.out.below hb); clear hb))
            | (go_at_call 34; (with_reducible refine (isz_yes _ _ _).mono ?_); rintro e w5 ⟨rfl, hb⟩; have S4 := Lib.hid (S3.out.below hb); have z10 := S4.out.b2.one; have z13 := S4.out.b0.one; clear hb y10 y13))
          go_ret
          exact ⟨rfl, S5.out.bel⟩
        · have h6 : 0 < n6 := by omega
          by_cases h2 : r2 = 0
          · have hC : C = cmpI r1 r2 := by rw [hc.out, hr1, hr2]; exact cmp_left hy1 hw1 he (.inr (by rw [← hr2]; exact h2))
            have k4 := cmp_kit vr1 vr2 hC
            have e8 := z2.1 h2
            clear hc hq hq1 hq2 hr1 hr2 vq1 vq2 vr1 vr2 hn5 hn6 hn7 hn8 z1 z2 he hv v1 v2 v3 v4 h1 h2 hC
            subst e8
            go_wp2_with (first
              | (go_at_call 35; first
          | ((with_reducible refine (k1 _ _ _ _ _ hk.out.c0 hk.out.c1).mono ?_); rintro e w2 ⟨A5, n5', c5, A6, n6', c6, rfl, qq, qr, hb⟩; obtain ⟨z, g1⟩ := num_at HN5.out qq; subst z; obtain ⟨z, g2⟩ := num_at HN6.out qr; subst z; have S1 := Lib.hid (((hk.out.below hb).addc g2).addc g1); have x7 := fun o1 o2 => ((S1.out.alloc o1).alloc o2).b2.one; have x8 := fun o1 o2 => ((S1.out.alloc o1).alloc o2).b3.one; clear hb g1 g2 qq qr x5 x6)
          | ((with_reducible refine (k2 _ _ _ _ _ (S1.out.al2 _ _ _ _).c4 (S1.out.al2 _ _ _ _).c5).mono ?_); rintro e w3 ⟨A7, n7', c7, A8, n8', c8, rfl, qq, qr, hb⟩; obtain ⟨z, g1⟩ := num_at HN7.out qq; subst z; obtain ⟨z, g2⟩ := num_at HN8.out qr; subst z; have S2 := Lib.hid ((((S1.out.al2 _ _ _ _).below hb).addc g2).addc g1); have x9 := fun o1 o2 => ((S2.out.alloc o1).alloc o2).b1.one; clear hb g1 g2 qq qr x7 x8))
              | (go_at_call 41; first
                | ((with_reducible refine (k3 _ _ _ _ _ (S2.out.al2 _ _ _ _).c2 (S2.out.al2 _ _ _ _).c0).mono ?_); rintro e w4 ⟨rfl, hb⟩; have S3 := Lib.hid ((S2.out.al2 _ _ _ _).below hb); have y10 := S3.out.b2.one; have y13 := S3.out.b0.one; clear hb x9)
                | ((with_reducible refine (k4 _ _ _ _ _ S4b.out.c3 S4b.out.c1).mono ?_); rintro e w6 ⟨rfl, hb⟩; have S5 := Lib.hid (S4b.out.below hb); clear hb))
              | (go_at_call 34; first
                | ((with_reducible refine (isz_no _ n6 _ h6 (by omega) _).mono ?_); rintro e w5 ⟨rfl, hb⟩; have S4 := Lib.hid (S3.out.below hb); have z10 := S4.out.b2.one; have z13 := S4.out.b0.one; clear hb y10 y13)
                | ((with_reducible refine (isz_yes _ _ _).mono ?_); rintro e w7 ⟨rfl, hb⟩; have S4b := Lib.hid (S4.out.below hb); have t10 := S4b.out.b2.one; have t13 := S4b.out.b0.one; clear hb z10 z13)))
            go_ret
            exact ⟨rfl, S5.out.bel⟩
          · have h8 : 0 < n8 := by omega
            have hC := Lib.hid (show C = cmpI (W1 * r1) (Y1 * r2) by rw [hc.out, hr1, hr2]; exact cmp_turn he)
            have hm1 : r1 < Y1 := by rw [hr1]; exact Nat.mod_lt _ hy1
            have hm2 : r2 < W1 := by rw [hr2]; exact Nat.mod_lt _ hw1
            have hv2 : Hid (valB m3 W1 = true ∧ valB n8 r2 = true ∧ valB m1 Y1 = true ∧ valB n6 r1 = true) := Lib.hid ⟨v4, vr2, v2, vr1⟩
            have hr10 : 0 < r1 := by omega
            have hr20 : 0 < r2 := by omega
            clear hc hq hq1 hq2 hr1 hr2 vq1 vq2 vr1 vr2 hn5 hn6 hn7 hn8 z1 z2 he hv v1 v2 v3 v4 h1 h2
            go_wp2_with (first
              | (go_at_call 35; first
          | ((with_reducible refine (k1 _ _ _ _ _ hk.out.c0 hk.out.c1).mono ?_); rintro e w2 ⟨A5, n5', c5, A6, n6', c6, rfl, qq, qr, hb⟩; obtain ⟨z, g1⟩ := num_at HN5.out qq; subst z; obtain ⟨z, g2⟩ := num_at HN6.out qr; subst z; have S1 := Lib.hid (((hk.out.below hb).addc g2).addc g1); have x7 := fun o1 o2 => ((S1.out.alloc o1).alloc o2).b2.one; have x8 := fun o1 o2 => ((S1.out.alloc o1).alloc o2).b3.one; clear hb g1 g2 qq qr x5 x6)
          | ((with_reducible refine (k2 _ _ _ _ _ (S1.out.al2 _ _ _ _).c4 (S1.out.al2 _ _ _ _).c5).mono ?_); rintro e w3 ⟨A7, n7', c7, A8, n8', c8, rfl, qq, qr, hb⟩; obtain ⟨z, g1⟩ := num_at HN7.out qq; subst z; obtain ⟨z, g2⟩ := num_at HN8.out qr; subst z; have S2 := Lib.hid ((((S1.out.al2 _ _ _ _).below hb).addc g2).addc g1); have x9 := fun o1 o2 => ((S2.out.alloc o1).alloc o2).b1.one; clear hb g1 g2 qq qr x7 x8))
              | (go_at_call 41; first
                | ((with_reducible refine (k3 _ _ _ _ _ (S2.out.al2 _ _ _ _).c2 (S2.out.al2 _ _ _ _).c0).mono ?_); rintro e w4 ⟨rfl, hb⟩; have S3 := Lib.hid ((S2.out.al2 _ _ _ _).below hb); have y10 := S3.out.b2.one; have y13 := S3.out.b0.one; clear hb x9))
              | (go_at_call 34; first
                | ((with_reducible refine (isz_no _ n6 _ h6 (by omega) _).mono ?_); rintro e w5 ⟨rfl, hb⟩; have S4 := Lib.hid (S3.out.below hb); have z10 := S4.out.b2.one; have z13 := S4.out.b0.one; clear hb y10 y13)
                | ((with_reducible refine (isz_no _ n8 _ h8 (by omega) _).mono ?_); rintro e w7 ⟨rfl, hb⟩; have S4b := Lib.hid (S4.out.below hb); have t10 := S4b.out.b2.one; have t13 := S4b.out.b0.one; clear hb z10 z13)))
            have t5 := S4b.out.b4.one
            have t6 := S4b.out.b5.one
            have t7 := S4b.out.b6.one
            have t8 := S4b.out.b7.one
            have f5 := S4b.out.b4.free 0
            have f6 := S4b.out.b5.free 0
            have f7 := S4b.out.b6.free 0
            have f8 := S4b.out.b7.free 0
            obtain ⟨⟨g1, g2, g3, g4, g5, g6⟩, _⟩ := hp.out
            have g1' := Ne.symm g1
            have g2' := Ne.symm g2
            have g3' := Ne.symm g3
            have g4' := Ne.symm g4
            have g5' := Ne.symm g5
            have g6' := Ne.symm g6
            have m5 := S1.out.b0.lt
            have m6 := S1.out.b1.lt
            have m7 := S1.out.b2.lt
            have m8 := S1.out.b3.lt
            have m9 := S2.out.b0.lt
            have d5 : p5 ≠ w2.heap.size + 1 := by simp at m5; omega
            have d6 : p6 ≠ w2.heap.size + 1 := by simp at m6; omega
            have d7 : p7 ≠ w2.heap.size + 1 := by simp at m7; omega
            have d8 : p8 ≠ w2.heap.size + 1 := by simp at m8; omega
            have j5 : p5 ≠ w3.heap.size + 1 := by simp at m5 m9; omega
            have j6 : p6 ≠ w3.heap.size + 1 := by simp at m6 m9; omega
            have j7 : p7 ≠ w3.heap.size + 1 := by simp at m7 m9; omega
            have j8 : p8 ≠ w3.heap.size + 1 := by simp at m8 m9; omega
            have d5' := Ne.symm d5
            have d6' := Ne.symm d6
            have d7' := Ne.symm d7
            have d8' := Ne.symm d8
            have j5' := Ne.symm j5
            have j6' := Ne.symm j6
            have j7' := Ne.symm j7
            have j8' := Ne.symm j8
            clear m5 m6 m7 m8 m9
            have HK := Lib.hid (kp_pick (x0 := (B3, m3, W1)) (x1 := (A8, n8, r2)) (x2 := (B1, m1, Y1)) (x3 := (A6, n6, r1)) (y0 := (p5, #[.slice A1 n1 c1])) (y1 := (p6, #[.slice B1 m1 d1])) (y2 := (p7, #[.slice A3 n3 c3])) (y3 := (p8, #[.slice B3 m3 d3])) S4b.out (by simp) (by simp) (by simp) (by simp) (by simp) (by simp) (by simp) (by simp))
            refine wp_region_held_drew (S := fun w' => w'.cell? ⟨w3.heap.size + 1, 0, none⟩ = some (.slice A8 n8 c8) ∧ w'.cell? ⟨w2.heap.size + 1, 0, none⟩ = some (.slice A6 n6 c6)) (by kernel_rfl) ?_ (fun hHeld => ?_)
            · simp [*]
            refine wpAnyH_take (i := 1) (oi := { dst := some 54, op := Op.load 24 (Operand.tmp 13), type := 24, pos := "frac.go:126", after := #[{ on := 4, ground := Ground.gcOnly Departure.lateStores }], guard := none }) (v := .agg #[.slice A8 n8 c8]) rfl (by kernel_rfl) (by kernel_rfl) (by kernel_rfl) (fun _ _ _ h => h) (Or.inl ⟨by rfl, ?_⟩) (by assumption) ?_
            · (intro w hSw; (try dsimp only at hSw); go_simp)
            simp only [Act.put, List.setIfInBounds_toArray, List.set_cons_zero, List.set_cons_succ]
            refine wpAnyH_take (i := 3) (oi := { dst := some 56, op := Op.load 24 (Operand.tmp 10), type := 24, pos := "frac.go:126", after := #[{ on := 6, ground := Ground.gcOnly Departure.lateStores }], guard := none }) (v := .agg #[.slice A6 n6 c6]) rfl (by kernel_rfl) (by kernel_rfl) (by kernel_rfl) (fun _ _ _ h => h) (Or.inl ⟨by rfl, ?_⟩) (by assumption) ?_
            · (intro w hSw; (try dsimp only at hSw); go_simp)
            simp only [Act.put, List.setIfInBounds_toArray, List.set_cons_zero, List.set_cons_succ]
            refine wpAnyH_ready (rs := [0, 2]) (by kernel_rfl) (by simp) ?_
            refine AllReadyH.cons (o := { dst := some 53, op := Op.load 24 (Operand.tmp 8), type := 24, pos := "frac.go:126", after := #[], guard := none }) rfl (fun K hK => ?_) ?_
            · have hjoin : True := trivial
              go_simp
              refine hK.out _ _ ?_ (fun hHeld2 => ?_)
              · ((try dsimp only); (simp (maxDischargeDepth := 9) [*]))
              clear hK K
              try simp only [Act.put, List.setIfInBounds_toArray, List.set_cons_zero, List.set_cons_succ]
              refine wpAnyH_ready (rs := [2]) (by kernel_rfl) (by simp) ?_
              refine AllReadyH.cons (o := { dst := some 55, op := Op.load 24 (Operand.tmp 6), type := 24, pos := "frac.go:126", after := #[], guard := none }) rfl (fun K hK => ?_) ?_
              rotate_left
              · exact AllReadyH.nil
              go_simp
              refine hK.out _ _ ?_ (fun hHeld2 => ?_)
              · ((try dsimp only); (simp (maxDischargeDepth := 9) [*]))
              clear hK K
              try simp only [Act.put, List.setIfInBounds_toArray, List.set_cons_zero, List.set_cons_succ]
              refine wpAnyH_ready (rs := [4]) (by kernel_rfl) (by simp) ?_
              refine AllReadyH.cons (o := { dst := none, op := Op.store 24 (Operand.tmp 5) (Operand.tmp 53), type := 0, pos := "frac.go:126", after := #[{ on := 0, ground := Ground.data }, { on := 0, ground := Ground.phase }, { on := 1, ground := Ground.textOnly Departure.lateStores }, { on := 2, ground := Ground.phase }, { on := 3, ground := Ground.textOnly Departure.lateStores }], guard := none }) rfl (fun K hK => ?_) ?_
              rotate_left
              · exact AllReadyH.nil
              go_simp
              refine hK.out _ _ ?_ (fun hHeld2 => ?_)
              · ((try dsimp only); (simp (maxDischargeDepth := 9) [*, World.cell?_setCell_far]))
              clear hK K
              try simp only [Act.put, List.setIfInBounds_toArray, List.set_cons_zero, List.set_cons_succ]
              refine wpAnyH_ready (rs := [5]) (by kernel_rfl) (by simp) ?_
              refine AllReadyH.cons (o := { dst := none, op := Op.store 24 (Operand.tmp 6) (Operand.tmp 54), type := 0, pos := "frac.go:126", after := #[{ on := 1, ground := Ground.data }, { on := 4, ground := Ground.chain }, { on := 0, ground := Ground.phase }, { on := 1, ground := Ground.phase }, { on := 2, ground := Ground.phase }, { on := 3, ground := Ground.textOnly Departure.lateStores }, { on := 4, ground := Ground.phase }], guard := none }) rfl (fun K hK => ?_) ?_
              rotate_left
              · exact AllReadyH.nil
              go_simp
              refine hK.out _ _ ?_ (fun hHeld2 => ?_)
              · ((try dsimp only); (simp (maxDischargeDepth := 9) [*, World.cell?_setCell_far]))
              clear hK K
              try simp only [Act.put, List.setIfInBounds_toArray, List.set_cons_zero, List.set_cons_succ]
              refine wpAnyH_ready (rs := [6]) (by kernel_rfl) (by simp) ?_
              refine AllReadyH.cons (o := { dst := none, op := Op.store 24 (Operand.tmp 7) (Operand.tmp 55), type := 0, pos := "frac.go:126", after := #[{ on := 2, ground := Ground.data }, { on := 5, ground := Ground.chain }, { on := 0, ground := Ground.phase }, { on := 1, ground := Ground.phase }, { on := 2, ground := Ground.phase }, { on := 3, ground := Ground.textOnly Departure.lateStores }, { on := 4, ground := Ground.phase }, { on := 5, ground := Ground.phase }], guard := none }) rfl (fun K hK => ?_) ?_
              rotate_left
              · exact AllReadyH.nil
              go_simp
              refine hK.out _ _ ?_ (fun hHeld2 => ?_)
              · ((try dsimp only); (simp (maxDischargeDepth := 9) [*, World.cell?_setCell_far]))
              clear hK K
              try simp only [Act.put, List.setIfInBounds_toArray, List.set_cons_zero, List.set_cons_succ]
              refine wpAnyH_ready (rs := [7]) (by kernel_rfl) (by simp) ?_
              refine AllReadyH.cons (o := { dst := none, op := Op.store 24 (Operand.tmp 8) (Operand.tmp 56), type := 0, pos := "frac.go:126", after := #[{ on := 3, ground := Ground.data }, { on := 6, ground := Ground.chain }, { on := 0, ground := Ground.phase }, { on := 1, ground := Ground.phase }, { on := 2, ground := Ground.phase }, { on := 3, ground := Ground.phase }, { on := 4, ground := Ground.phase }, { on := 5, ground := Ground.phase }, { on := 6, ground := Ground.phase }], guard := none }) rfl (fun K hK => ?_) ?_
              rotate_left
              · exact AllReadyH.nil
              go_simp
              refine hK.out _ _ ?_ (fun hHeld2 => ?_)
              · ((try dsimp only); (simp (maxDischargeDepth := 9) [*, World.cell?_setCell_far]))
              clear hK K
              try simp only [Act.put, List.setIfInBounds_toArray, List.set_cons_zero, List.set_cons_succ]
              refine wpAnyH_done (by kernel_rfl) ?_ _
              go_wp2_with fail
              go_roundg (r2 + r1)
              all_goals first
                | omega
                | exact ⟨B3, A8, B1, A6, m3, d3, n8, c8, m1, d1, n6, c6, W1, r2, Y1, r1, rfl, rfl, hr20, hr10, hv2, hC, Lib.hid (kp_sets HK.out hp.out _ _ _ _).drew⟩
            refine AllReadyH.cons (o := { dst := some 55, op := Op.load 24 (Operand.tmp 6), type := 24, pos := "frac.go:126", after := #[], guard := none }) rfl (fun K hK => ?_) ?_
            · have hjoin : True := trivial
              go_simp
              refine hK.out _ _ ?_ (fun hHeld2 => ?_)
              · ((try dsimp only); (simp (maxDischargeDepth := 9) [*]))
              clear hK K
              try simp only [Act.put, List.setIfInBounds_toArray, List.set_cons_zero, List.set_cons_succ]
              refine wpAnyH_ready (rs := [0]) (by kernel_rfl) (by simp) ?_
              refine AllReadyH.cons (o := { dst := some 53, op := Op.load 24 (Operand.tmp 8), type := 24, pos := "frac.go:126", after := #[], guard := none }) rfl (fun K hK => ?_) ?_
              rotate_left
              · exact AllReadyH.nil
              go_simp
              refine hK.out _ _ ?_ (fun hHeld2 => ?_)
              · ((try dsimp only); (simp (maxDischargeDepth := 9) [*]))
              clear hK K
              try simp only [Act.put, List.setIfInBounds_toArray, List.set_cons_zero, List.set_cons_succ]
              refine wpAnyH_ready (rs := [4]) (by kernel_rfl) (by simp) ?_
              refine AllReadyH.cons (o := { dst := none, op := Op.store 24 (Operand.tmp 5) (Operand.tmp 53), type := 0, pos := "frac.go:126", after := #[{ on := 0, ground := Ground.data }, { on := 0, ground := Ground.phase }, { on := 1, ground := Ground.textOnly Departure.lateStores }, { on := 2, ground := Ground.phase }, { on := 3, ground := Ground.textOnly Departure.lateStores }], guard := none }) rfl (fun K hK => ?_) ?_
              rotate_left
              · exact AllReadyH.nil
              go_simp
              refine hK.out _ _ ?_ (fun hHeld2 => ?_)
              · ((try dsimp only); (simp (maxDischargeDepth := 9) [*, World.cell?_setCell_far]))
              clear hK K
              try simp only [Act.put, List.setIfInBounds_toArray, List.set_cons_zero, List.set_cons_succ]
              refine wpAnyH_ready (rs := [5]) (by kernel_rfl) (by simp) ?_
              refine AllReadyH.cons (o := { dst := none, op := Op.store 24 (Operand.tmp 6) (Operand.tmp 54), type := 0, pos := "frac.go:126", after := #[{ on := 1, ground := Ground.data }, { on := 4, ground := Ground.chain }, { on := 0, ground := Ground.phase }, { on := 1, ground := Ground.phase }, { on := 2, ground := Ground.phase }, { on := 3, ground := Ground.textOnly Departure.lateStores }, { on := 4, ground := Ground.phase }], guard := none }) rfl (fun K hK => ?_) ?_
              rotate_left
              · exact AllReadyH.nil
              go_simp
              refine hK.out _ _ ?_ (fun hHeld2 => ?_)
              · ((try dsimp only); (simp (maxDischargeDepth := 9) [*, World.cell?_setCell_far]))
              clear hK K
              try simp only [Act.put, List.setIfInBounds_toArray, List.set_cons_zero, List.set_cons_succ]
              refine wpAnyH_ready (rs := [6]) (by kernel_rfl) (by simp) ?_
              refine AllReadyH.cons (o := { dst := none, op := Op.store 24 (Operand.tmp 7) (Operand.tmp 55), type := 0, pos := "frac.go:126", after := #[{ on := 2, ground := Ground.data }, { on := 5, ground := Ground.chain }, { on := 0, ground := Ground.phase }, { on := 1, ground := Ground.phase }, { on := 2, ground := Ground.phase }, { on := 3, ground := Ground.textOnly Departure.lateStores }, { on := 4, ground := Ground.phase }, { on := 5, ground := Ground.phase }], guard := none }) rfl (fun K hK => ?_) ?_
              rotate_left
              · exact AllReadyH.nil
              go_simp
              refine hK.out _ _ ?_ (fun hHeld2 => ?_)
              · ((try dsimp only); (simp (maxDischargeDepth := 9) [*, World.cell?_setCell_far]))
              clear hK K
              try simp only [Act.put, List.setIfInBounds_toArray, List.set_cons_zero, List.set_cons_succ]
              refine wpAnyH_ready (rs := [7]) (by kernel_rfl) (by simp) ?_
              refine AllReadyH.cons (o := { dst := none, op := Op.store 24 (Operand.tmp 8) (Operand.tmp 56), type := 0, pos := "frac.go:126", after := #[{ on := 3, ground := Ground.data }, { on := 6, ground := Ground.chain }, { on := 0, ground := Ground.phase }, { on := 1, ground := Ground.phase }, { on := 2, ground := Ground.phase }, { on := 3, ground := Ground.phase }, { on := 4, ground := Ground.phase }, { on := 5, ground := Ground.phase }, { on := 6, ground := Ground.phase }], guard := none }) rfl (fun K hK => ?_) ?_
              rotate_left
              · exact AllReadyH.nil
              go_simp
              refine hK.out _ _ ?_ (fun hHeld2 => ?_)
              · ((try dsimp only); (simp (maxDischargeDepth := 9) [*, World.cell?_setCell_far]))
              clear hK K
              try simp only [Act.put, List.setIfInBounds_toArray, List.set_cons_zero, List.set_cons_succ]
              refine wpAnyH_done (by kernel_rfl) ?_ _
              go_wp2_with fail
              go_roundg (r2 + r1)
              all_goals first
                | omega
                | exact ⟨B3, A8, B1, A6, m3, d3, n8, c8, m1, d1, n6, c6, W1, r2, Y1, r1, rfl, rfl, hr20, hr10, hv2, hC, Lib.hid (kp_sets HK.out hp.out _ _ _ _).drew⟩
            exact AllReadyH.nil
      · have hC := hc.out.trans (cmp_quot hy1 hw1 (by rw [← hq1, ← hq2]; exact hq))
        rw [← hq1, ← hq2] at hC
        have hne : (C != 0) = true := by rw [hC, bne_iff_ne]; exact mt cmpI_zero.1 hq
        have k3 := cmp_kit vq1 vq2 hC
        clear hc hq hq1 hq2 hr1 hr2 vq1 vq2 vr1 vr2 hn5 hn6 hn7 hn8 z1 z2 hv v1 v2 v3 v4 hC
        go_wp2_with (first
          | (go_at_call 35; first
          | ((with_reducible refine (k1 _ _ _ _ _ hk.out.c0 hk.out.c1).mono ?_); rintro e w2 ⟨A5, n5', c5, A6, n6', c6, rfl, qq, qr, hb⟩; obtain ⟨z, g1⟩ := num_at HN5.out qq; subst z; obtain ⟨z, g2⟩ := num_at HN6.out qr; subst z; have S1 := Lib.hid (((hk.out.below hb).addc g2).addc g1); have x7 := fun o1 o2 => ((S1.out.alloc o1).alloc o2).b2.one; have x8 := fun o1 o2 => ((S1.out.alloc o1).alloc o2).b3.one; clear hb g1 g2 qq qr x5 x6)
          | ((with_reducible refine (k2 _ _ _ _ _ (S1.out.al2 _ _ _ _).c4 (S1.out.al2 _ _ _ _).c5).mono ?_); rintro e w3 ⟨A7, n7', c7, A8, n8', c8, rfl, qq, qr, hb⟩; obtain ⟨z, g1⟩ := num_at HN7.out qq; subst z; obtain ⟨z, g2⟩ := num_at HN8.out qr; subst z; have S2 := Lib.hid ((((S1.out.al2 _ _ _ _).below hb).addc g2).addc g1); have x9 := fun o1 o2 => ((S2.out.alloc o1).alloc o2).b1.one; clear hb g1 g2 qq qr x7 x8))
          | (go_at_call 41; first
            | ((with_reducible refine (k3 _ _ _ _ _ (S2.out.al2 _ _ _ _).c2 (S2.out.al2 _ _ _ _).c0).mono ?_); rintro e w4 ⟨rfl, hb⟩; have S3 := Lib.hid ((S2.out.al2 _ _ _ _).below hb); clear hb x9)))
        go_ret
        exact ⟨rfl, S3.out.bel⟩

end Go.Proofs.YtinceponggpioaaDoor.frC

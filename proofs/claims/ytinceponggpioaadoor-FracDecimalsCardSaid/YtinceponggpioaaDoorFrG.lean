/-
  Contracts of combine of frac, by what it is given to join.
-/
import Derived.Test.YtinceponggpioaaDoorFrF
namespace Go.Proofs.YtinceponggpioaaDoor.frG
open Go.RowKit
open Go.Proofs.YtinceponggpioaaDoor.natM Go.Proofs.YtinceponggpioaaDoor.natA Go.Proofs.YtinceponggpioaaDoor.natB Go.Proofs.YtinceponggpioaaDoor.natC Go.Proofs.YtinceponggpioaaDoor.natD Go.Proofs.YtinceponggpioaaDoor.natE Go.Proofs.YtinceponggpioaaDoor.natF Go.Proofs.YtinceponggpioaaDoor.natG Go.Proofs.YtinceponggpioaaDoor.natH Go.Proofs.YtinceponggpioaaDoor.natI Go.Proofs.YtinceponggpioaaDoor.natJ Go.Proofs.YtinceponggpioaaDoor.natX Go.Proofs.YtinceponggpioaaDoor.natUi Go.Proofs.YtinceponggpioaaDoor.frM Go.Proofs.YtinceponggpioaaDoor.frA Go.Proofs.YtinceponggpioaaDoor.frB Go.Proofs.YtinceponggpioaaDoor.frC Go.Proofs.YtinceponggpioaaDoor.frD Go.Proofs.YtinceponggpioaaDoor.frF
set_option linter.unusedVariables false

/-- what is carried, the error's cell beside -/
structure Ke (w0 : World) (cs : List (Option Addr × Nat × Nat)) (bs : List (Nat × Array Value)) (pe : Nat) (E : Int) (w : World) : Prop where
  kp : Kp w0 cs bs w
  ne : ∀ x ∈ bs, x.1 ≠ pe
  e : Bk w pe #[.int .i64 E]
  low : w0.heap.size ≤ pe
section
variable {w0 w w1 : World} {cs : List (Option Addr × Nat × Nat)} {bs : List (Nat × Array Value)} {pe : Nat} {E E1 : Int}
theorem Ke.start (h : Kp w cs [] w) (v1 v2 v3 : Array Value) (T1 T2 T3 T4 : TypeId) : Ke w cs [(w.heap.size + 1 + 1, v3), (w.heap.size + 1, v2), (w.heap.size, v1)] (w.heap.size + 1 + 1 + 1) 0 ((((w.alloc (.cells v1 T1)).alloc (.cells v2 T2)).alloc (.cells v3 T3)).alloc (.cells #[.int .i64 0] T4)) :=
  ⟨(h.al3 v1 v2 v3 T1 T2 T3).alloc _, by intro x hx; simp at hx; rcases hx with rfl | rfl | rfl <;> simp <;> omega, Bk.n3 _ _ _ _ _ _, by omega⟩
theorem Ke.alloc (h : Ke w0 cs bs pe E w) (o : Obj) : Ke w0 cs bs pe E (w.alloc o) := ⟨h.kp.alloc o, h.ne, h.e.alloc o, h.low⟩
theorem Ke.al1 (h : Ke w0 cs bs pe E w) (v : Array Value) (T : TypeId) : Ke w0 cs ((w.heap.size, v) :: bs) pe E (w.alloc (.cells v T)) :=
  ⟨h.kp.al1 v T, fun x hx => by
    rcases List.mem_cons.1 hx with rfl | hx
    · exact Ne.symm (Nat.ne_of_lt h.e.lt)
    · exact h.ne x hx, h.e.alloc _, h.low⟩
theorem Ke.addc (h : Ke w0 cs bs pe E w) {A : Option Addr} {n X : Nat} (hc : Cel .u32 w A (dg 4294967296 n X)) : Ke w0 ((A, n, X) :: cs) bs pe E w := ⟨h.kp.addc hc, h.ne, h.e, h.low⟩
theorem Ke.step (h : Ke w0 cs bs pe E w) (he : Bk w1 pe #[.int .i64 E1]) (hg : w.grownBy w1 (some pe)) : Ke w0 cs bs pe E1 w1 :=
  ⟨⟨below_grown h.kp.bel hg h.low h.kp.bel.size, fun x hx => (h.kp.cel x hx).grown hg (by have := far_int (h.kp.cel x hx) h.e; exact this), fun x hx => by
    have hb := h.kp.blk x hx
    have hl := hb.lt
    obtain ⟨T, hb⟩ := hb
    exact ⟨T, (hg.block _ hl (fun ee => h.ne x hx (by injection ee))).trans hb⟩⟩, h.ne, he, h.low⟩
end
theorem smul {n m X Y : Nat} (h1 : valB n X = true) (h2 : valB m Y = true) (E0 : Int) (hE0 : E0 = 0 ∨ E0 = 9) : ∃ V E, (E = 0 ∨ E = 9) ∧ (E = 0 ↔ E0 = 0 ∧ nlen 4294967296 (X * Y) ≤ 64) ∧ (E = 0 → V = X * Y) ∧ nlen 4294967296 V ≤ 64 ∧
    ∀ pe A c D d w, Cel .u32 w A (dg 4294967296 n X) → Cel .u32 w D (dg 4294967296 m Y) → Bk w pe #[.int .i64 E0] → Calls Tryd.prog 81 #[.func (.func 49) #[] #[], .agg #[.slice A n c], .agg #[.slice D m d], .pointer (some ⟨pe, 0, none⟩)] w (StP V E pe w) := by
  rcases hE0 with rfl | rfl
  · by_cases hb : nlen 4294967296 (X * Y) ≤ 64
    · exact ⟨X * Y, 0, .inl rfl, by simp [hb], fun _ => rfl, hb, fun pe A c D d w hI hJ he => run_mul A D n c m d X Y (X * Y) 0 pe (fun A c D d w hI hJ => mul_ok h1 h2 rfl hb A c D d w hI hJ) w hI hJ he⟩
    · exact ⟨0, 9, .inr rfl, by simp [hb], fun h => (by cases h), by rw [nlen_zero]; omega, fun pe A c D d w hI hJ he => run_mul A D n c m d X Y 0 9 pe (fun A c D d w hI hJ => mul_big h1 h2 (by omega) A c D d w hI hJ) w hI hJ he⟩
  · exact ⟨0, 9, .inr rfl, by simp, fun h => (by cases h), by rw [nlen_zero]; omega, fun pe A c D d w hI hJ he => run_skip _ A D n c m d pe w he⟩
theorem sadd {n m X Y : Nat} (h1 : valB n X = true) (h2 : valB m Y = true) (E0 : Int) (hE0 : E0 = 0 ∨ E0 = 9) : ∃ V E, (E = 0 ∨ E = 9) ∧ (E = 0 ↔ E0 = 0 ∧ nlen 4294967296 (X + Y) ≤ 64) ∧ (E = 0 → V = X + Y) ∧ nlen 4294967296 V ≤ 64 ∧
    ∀ pe A c D d w, Cel .u32 w A (dg 4294967296 n X) → Cel .u32 w D (dg 4294967296 m Y) → Bk w pe #[.int .i64 E0] → Calls Tryd.prog 81 #[.func (.func 55) #[] #[], .agg #[.slice A n c], .agg #[.slice D m d], .pointer (some ⟨pe, 0, none⟩)] w (StP V E pe w) := by
  have l1 := (valB_iff.1 h1).1
  have l2 := (valB_iff.1 h2).1
  have ka := fun A c D d w hI hJ => add_any A D n c m d X Y (Lib.hid (val_lt h1)) (Lib.hid (val_lt h2)) (by omega) (by omega) w hI hJ
  unfold addV addE at ka
  rw [h1, h2] at ka
  rcases hE0 with rfl | rfl
  · by_cases hb : nlen 4294967296 (X + Y) ≤ 64
    · rw [(r_ok hb).1, (r_ok hb).2] at ka
      exact ⟨X + Y, 0, .inl rfl, by simp [hb], fun _ => rfl, hb, fun pe A c D d w hI hJ he => run_add A D n c m d X Y (X + Y) 0 pe ka w hI hJ he⟩
    · rw [(r_big (by omega)).1, (r_big (by omega)).2] at ka
      exact ⟨0, 9, .inr rfl, by simp [hb], fun h => (by cases h), by rw [nlen_zero]; omega, fun pe A c D d w hI hJ he => run_add A D n c m d X Y 0 9 pe ka w hI hJ he⟩
  · exact ⟨0, 9, .inr rfl, by simp, fun h => (by cases h), by rw [nlen_zero]; omega, fun pe A c D d w hI hJ he => run_skip _ A D n c m d pe w he⟩
theorem ssub {n m X Y : Nat} (h1 : valB n X = true) (h2 : valB m Y = true) (E0 : Int) (hE0 : E0 = 0 ∨ E0 = 9) (hle : E0 = 0 → Y ≤ X) : ∃ V E, (E = 0 ∨ E = 9) ∧ (E = 0 ↔ E0 = 0) ∧ (E = 0 → V = X - Y) ∧ nlen 4294967296 V ≤ 64 ∧
    ∀ pe A c D d w, Cel .u32 w A (dg 4294967296 n X) → Cel .u32 w D (dg 4294967296 m Y) → Bk w pe #[.int .i64 E0] → Calls Tryd.prog 81 #[.func (.func 56) #[] #[], .agg #[.slice A n c], .agg #[.slice D m d], .pointer (some ⟨pe, 0, none⟩)] w (StP V E pe w) := by
  have l1 := valB_iff.1 h1
  have l2 := (valB_iff.1 h2).1
  have ka := fun A c D d w hI hJ => sub_any A D n c m d X Y (Lib.hid (val_lt h1)) (Lib.hid (val_lt h2)) (by omega) (by omega) w hI hJ
  unfold subV subE sV sE at ka
  rw [h1, h2] at ka
  rcases hE0 with rfl | rfl
  · have hy := hle rfl
    rw [if_pos ⟨rfl, rfl, hy⟩, if_pos ⟨rfl, rfl, hy⟩] at ka
    exact ⟨X - Y, 0, .inl rfl, by simp, fun _ => rfl, sub_nlen (by omega), fun pe A c D d w hI hJ he => run_sub A D n c m d X Y (X - Y) 0 pe ka w hI hJ he⟩
  · exact ⟨0, 9, .inr rfl, by simp, fun h => (by cases h), by rw [nlen_zero]; omega, fun pe A c D d w hI hJ he => run_skip _ A D n c m d pe w he⟩
theorem two_drew {w : World} {b : Nat} {u v : Value} (h : Bk w b #[u, v]) (x y : Value) :
    ((w.setCell ⟨b, 0, none⟩ x).setCell ⟨b, 1, none⟩ y).drew.cell? ⟨b, 0, none⟩ = some x ∧ ((w.setCell ⟨b, 0, none⟩ x).setCell ⟨b, 1, none⟩ y).drew.cell? ⟨b, 1, none⟩ = some y := two_set h x y
theorem frp_drew {r : Ans} {w0 w : World} {e : Ending} (h : FrP r w0 e w) : FrP r w0 e w.drew := by
  obtain ⟨A, n, c, B, m, d, he, h1, h2, h3⟩ := h
  exact ⟨A, n, c, B, m, d, he, h1, h2, bel_drew h3⟩
theorem val_nlen {V : Nat} (h : nlen 4294967296 V ≤ 64) : valB (nlen 4294967296 V) V = true := valB_iff.2 ⟨h, rfl⟩

def adA (X Y Z W : Nat) : Ans := if big (X * W) || big (Z * Y) || big (Y * W) || big (X * W + Z * Y) then no 9 else rd (X * W + Z * Y) (Y * W)
def suA (X Y Z W : Nat) : Ans := if big (X * W) || big (Z * Y) || big (Y * W) then no 9 else rd (X * W - Z * Y) (Y * W)
set_option maxRecDepth 4000 in
set_option maxHeartbeats 4000000 in
theorem comb_add (A B A2 B2 : Option Addr) (n c m d n2 c2 m2 d2 X Y Z W : Nat) (v1 : Hid (valB n X = true)) (v2 : Hid (valB m Y = true)) (v3 : Hid (valB n2 Z = true)) (v4 : Hid (valB m2 W = true)) (hy : 0 < Y) (hw : 0 < W) (w : World)
    (h1 : Cel .u32 w A (dg 4294967296 n X)) (h2 : Cel .u32 w B (dg 4294967296 m Y)) (h3 : Cel .u32 w A2 (dg 4294967296 n2 Z)) (h4 : Cel .u32 w B2 (dg 4294967296 m2 W)) :
    Calls Tryd.prog 54 #[.agg #[.slice A n c, .slice B m d], .agg #[.slice A2 n2 c2, .slice B2 m2 d2], .func (.func 55) #[] #[]] w (FrP (adA X Y Z W) w) := by
  have S0 := Lib.hid ((((Kp.start w).addc h4).addc h3).addc h2 |>.addc h1)
  clear h1 h2 h3 h4
  obtain ⟨V1, E1, o1, p1, q1, l1, k1⟩ := smul v1.out v4.out 0 (.inl rfl)
  obtain ⟨V2, E2, o2, p2, q2, l2, k2⟩ := smul v3.out v2.out E1 o1
  obtain ⟨V3, E3, o3, p3, q3, l3, k3⟩ := smul v2.out v4.out E2 o2
  obtain ⟨V4, E4, o4, p4, q4, l4, k4⟩ := sadd (val_nlen l1) (val_nlen l2) E3 o3
  obtain ⟨N1, hN1⟩ : ∃ n, n = nlen 4294967296 V1 := ⟨_, rfl⟩
  obtain ⟨N2, hN2⟩ : ∃ n, n = nlen 4294967296 V2 := ⟨_, rfl⟩
  obtain ⟨N3, hN3⟩ : ∃ n, n = nlen 4294967296 V3 := ⟨_, rfl⟩
  obtain ⟨N4, hN4⟩ : ∃ n, n = nlen 4294967296 V4 := ⟨_, rfl⟩
  rw [← hN1, ← hN2] at k4
  have HN1 := Lib.hid hN1
  have HN2 := Lib.hid hN2
  have HN3 := Lib.hid hN3
  have HN4 := Lib.hid hN4
  have u1 := fun o1 => (Ke.start S0.out #[.slice A n c, .slice B m d] #[.slice A2 n2 c2, .slice B2 m2 d2] #[.slice none 0 0, .slice none 0 0] 28 28 28 o1).kp.b2.fst
  have u2 := fun o1 => (Ke.start S0.out #[.slice A n c, .slice B m d] #[.slice A2 n2 c2, .slice B2 m2 d2] #[.slice none 0 0, .slice none 0 0] 28 28 28 o1).kp.b1.snd
  rcases o4 with e4 | e4
  · subst e4
    have e3 := p4.1 rfl
    have e2 := p3.1 e3.1
    have e1 := p2.1 e2.1
    have e0 := p1.1 e1.1
    have r4 := q4 rfl
    have r3 := q3 e3.1
    rw [q1 e1.1, q2 e2.1] at r4
    have h34 := e3.2
    rw [q1 e1.1, q2 e2.1] at h34
    have h30 : 0 < V3 := by rw [r3]; exact Nat.mul_pos hy hw
    have km := make_red hN4 hN3 (by omega) (by omega) h30
    obtain ⟨r, hr⟩ : ∃ r, Hid (r = rd V4 V3) := ⟨_, Lib.hid rfl⟩
    rw [← hr.out] at km
    rw [show adA X Y Z W = r by unfold adA; rw [big_no e0.2, big_no e1.2, big_no e2.2, big_no h34, hr.out, r3, r4]; rfl]
    clear hr e0 e1 e2 e3 r3 r4 h30 h34
    clear o1 o2 o3 p1 p2 p3 p4 q1 q2 q3 q4 l1 l2 l3 l4 v1 v2 v3 v4 hy hw hN1 hN2 hN3 hN4
    go_enter Tryd.func54, Tryd.ntmps54
    go_wp2_with (first
      | (go_at_call 81; first
        | ((with_reducible refine (k1 _ _ _ _ _ _ (Ke.start S0.out _ _ _ _ _ _ _).kp.c0 (Ke.start S0.out _ _ _ _ _ _ _).kp.c3 (Ke.start S0.out _ _ _ _ _ _ _).e).mono ?_); rintro e w1 ⟨A5, n5', c5, rfl, qq, he, hg⟩; have hc5 := qq.2.1; obtain ⟨z, g⟩ := num_at HN1.out qq; subst z; have K1 := Lib.hid (((Ke.start S0.out _ _ _ _ _ _ _).step he hg).addc g); have x1 := fun o => (K1.out.alloc o).kp.b1.fst; have x2 := fun o => (K1.out.alloc o).kp.b2.snd; clear u1 u2; clear he hg qq g)
        | ((with_reducible refine (k2 _ _ _ _ _ _ (K1.out.al1 _ _).kp.c3 (K1.out.al1 _ _).kp.c2 (K1.out.al1 _ _).e).mono ?_); rintro e w2 ⟨A6, n6', c6, rfl, qq, he, hg⟩; have hc6 := qq.2.1; obtain ⟨z, g⟩ := num_at HN2.out qq; subst z; have K2 := Lib.hid (((K1.out.al1 _ _).step he hg).addc g); have y1 := fun o => (K2.out.alloc o).kp.b3.snd; have y2 := fun o => (K2.out.alloc o).kp.b2.snd; clear x1 x2; clear he hg qq g)
        | ((with_reducible refine (k3 _ _ _ _ _ _ (K2.out.al1 _ _).kp.c3 (K2.out.al1 _ _).kp.c5 (K2.out.al1 _ _).e).mono ?_); rintro e w3 ⟨A7, n7', c7, rfl, qq, he, hg⟩; have hc7 := qq.2.1; obtain ⟨z, g⟩ := num_at HN3.out qq; subst z; have K3 := Lib.hid (((K2.out.al1 _ _).step he hg).addc g); have z1 := fun o => (K3.out.alloc o).kp.b1.one; have z2 := fun o => (K3.out.alloc o).kp.b0.one; clear y1 y2; clear he hg qq g)
        | ((with_reducible refine (k4 _ _ _ _ _ _ (K3.out.al1 _ _).kp.c2 (K3.out.al1 _ _).kp.c1 (K3.out.al1 _ _).e).mono ?_); rintro e w4 ⟨A8, n8', c8, rfl, qq, he, hg⟩; have hc8 := qq.2.1; obtain ⟨z, g⟩ := num_at HN4.out qq; subst z; have K4 := Lib.hid (((K3.out.al1 _ _).step he hg).addc g); have t1 := fun o => (K4.out.alloc o).kp.b0.one; have t2 := fun o => (K4.out.alloc o).e.one; clear z1 z2; clear he hg qq g))
      | (go_at_call 13; (with_reducible refine (km _ _ _ _ hc8 hc7 _ (K4.out.al1 _ _).kp.c0 (K4.out.al1 _ _).kp.c1).mono ?_); rintro e w5 ⟨A9, n9, c9, B9, m9, d9, rfl, r1, r2, hb⟩; have K5 := Lib.hid ((K4.out.al1 _ _).kp.below hb); have Q1 := Lib.hid r1; have Q2 := Lib.hid r2; have z1 := K5.out.b4.fst; have z2 := K5.out.b4.snd; have f1 := K5.out.b4.free 0; have f2 := K5.out.b4.free 1; clear hb r1 r2))
    have xs := two_set K5.out.b4 (.slice A9 n9 c9) (.slice B9 m9 d9)
    refine bodyPost_ret (v := .tuple #[.agg #[.slice A9 n9 c9, .slice B9 m9 d9], .int .i64 r.1]) (by simp [results, Tryd.results54, go_sem, xs.1, xs.2]) rfl ?_
    exact frp_set K5.out.b4 Q1.out Q2.out K5.out.bel (by simp; omega) _ _
  · subst e4
    rw [show adA X Y Z W = no 9 by
      unfold adA
      rw [if_pos]
      cases b1 : big (X * W) with
      | true => rfl
      | false =>
        cases b2 : big (Z * Y) with
        | true => rfl
        | false =>
          cases b3 : big (Y * W) with
          | true => rfl
          | false =>
            cases b4 : big (X * W + Z * Y) with
            | true => rfl
            | false =>
              have e1 := p1.2 ⟨rfl, big_iff.1 b1⟩
              have e2 := p2.2 ⟨e1, big_iff.1 b2⟩
              have e3 := p3.2 ⟨e2, big_iff.1 b3⟩
              have := p4.2 ⟨e3, by rw [q1 e1, q2 e2]; exact big_iff.1 b4⟩
              cases this]
    clear o1 o2 o3 p1 p2 p3 p4 q1 q2 q3 q4 l1 l2 l3 l4 v1 v2 v3 v4 hy hw hN1 hN2 hN3 hN4
    go_enter Tryd.func54, Tryd.ntmps54
    go_wp2_with (first
      | (go_at_call 81; first
        | ((with_reducible refine (k1 _ _ _ _ _ _ (Ke.start S0.out _ _ _ _ _ _ _).kp.c0 (Ke.start S0.out _ _ _ _ _ _ _).kp.c3 (Ke.start S0.out _ _ _ _ _ _ _).e).mono ?_); rintro e w1 ⟨A5, n5', c5, rfl, qq, he, hg⟩; have hc5 := qq.2.1; obtain ⟨z, g⟩ := num_at HN1.out qq; subst z; have K1 := Lib.hid (((Ke.start S0.out _ _ _ _ _ _ _).step he hg).addc g); have x1 := fun o => (K1.out.alloc o).kp.b1.fst; have x2 := fun o => (K1.out.alloc o).kp.b2.snd; clear u1 u2; clear he hg qq g)
        | ((with_reducible refine (k2 _ _ _ _ _ _ (K1.out.al1 _ _).kp.c3 (K1.out.al1 _ _).kp.c2 (K1.out.al1 _ _).e).mono ?_); rintro e w2 ⟨A6, n6', c6, rfl, qq, he, hg⟩; have hc6 := qq.2.1; obtain ⟨z, g⟩ := num_at HN2.out qq; subst z; have K2 := Lib.hid (((K1.out.al1 _ _).step he hg).addc g); have y1 := fun o => (K2.out.alloc o).kp.b3.snd; have y2 := fun o => (K2.out.alloc o).kp.b2.snd; clear x1 x2; clear he hg qq g)
        | ((with_reducible refine (k3 _ _ _ _ _ _ (K2.out.al1 _ _).kp.c3 (K2.out.al1 _ _).kp.c5 (K2.out.al1 _ _).e).mono ?_); rintro e w3 ⟨A7, n7', c7, rfl, qq, he, hg⟩; have hc7 := qq.2.1; obtain ⟨z, g⟩ := num_at HN3.out qq; subst z; have K3 := Lib.hid (((K2.out.al1 _ _).step he hg).addc g); have z1 := fun o => (K3.out.alloc o).kp.b1.one; have z2 := fun o => (K3.out.alloc o).kp.b0.one; clear y1 y2; clear he hg qq g)
        | ((with_reducible refine (k4 _ _ _ _ _ _ (K3.out.al1 _ _).kp.c2 (K3.out.al1 _ _).kp.c1 (K3.out.al1 _ _).e).mono ?_); rintro e w4 ⟨A8, n8', c8, rfl, qq, he, hg⟩; have hc8 := qq.2.1; obtain ⟨z, g⟩ := num_at HN4.out qq; subst z; have K4 := Lib.hid (((K3.out.al1 _ _).step he hg).addc g); have t1 := fun o => (K4.out.alloc o).kp.b0.one; have t2 := fun o => (K4.out.alloc o).e.one; clear z1 z2; clear he hg qq g)))
    have K5 := Lib.hid (K4.out.al1 #[.slice A8 N4 c8] 24)
    have x9 := K5.out.e.one
    have z1 := K5.out.kp.b4.fst
    have z2 := K5.out.kp.b4.snd
    have f1 := K5.out.kp.b4.free 0
    have f2 := K5.out.kp.b4.free 1
    have g1 : w.heap.size + 1 + 1 ≠ w.heap.size + 1 + 1 + 1 := by omega
    have g2 := Ne.symm g1
    go_region_held3 (fun w' => w'.cell? ⟨w.heap.size + 1 + 1 + 1, 0, none⟩ = some (.int .i64 9)) (first | (simp (maxDischargeDepth := 9) [*]; done) | simp (maxDischargeDepth := 9) [*, World.cell?_setCell_far]) (fail)
    all_goals go_wp2_with fail
    have xs := two_drew K5.out.kp.b4 (.slice none 0 0) (.slice none 0 0)
    refine bodyPost_ret (v := .tuple #[.agg #[.slice none 0 0, .slice none 0 0], .int .i64 9]) (by simp [results, Tryd.results54, go_sem, xs.1, xs.2]) rfl ?_
    exact frp_drew (frp_set K5.out.kp.b4 (Num.nil _) (Num.nil _) K5.out.kp.bel (by simp; omega) _ _)
set_option maxRecDepth 4000 in
set_option maxHeartbeats 4000000 in
theorem comb_sub (A B A2 B2 : Option Addr) (n c m d n2 c2 m2 d2 X Y Z W : Nat) (v1 : Hid (valB n X = true)) (v2 : Hid (valB m Y = true)) (v3 : Hid (valB n2 Z = true)) (v4 : Hid (valB m2 W = true)) (hy : 0 < Y) (hw : 0 < W) (hle : Z * Y ≤ X * W) (w : World)
    (h1 : Cel .u32 w A (dg 4294967296 n X)) (h2 : Cel .u32 w B (dg 4294967296 m Y)) (h3 : Cel .u32 w A2 (dg 4294967296 n2 Z)) (h4 : Cel .u32 w B2 (dg 4294967296 m2 W)) :
    Calls Tryd.prog 54 #[.agg #[.slice A n c, .slice B m d], .agg #[.slice A2 n2 c2, .slice B2 m2 d2], .func (.func 56) #[] #[]] w (FrP (suA X Y Z W) w) := by
  have S0 := Lib.hid ((((Kp.start w).addc h4).addc h3).addc h2 |>.addc h1)
  clear h1 h2 h3 h4
  obtain ⟨V1, E1, o1, p1, q1, l1, k1⟩ := smul v1.out v4.out 0 (.inl rfl)
  obtain ⟨V2, E2, o2, p2, q2, l2, k2⟩ := smul v3.out v2.out E1 o1
  obtain ⟨V3, E3, o3, p3, q3, l3, k3⟩ := smul v2.out v4.out E2 o2
  obtain ⟨V4, E4, o4, p4, q4, l4, k4⟩ := ssub (val_nlen l1) (val_nlen l2) E3 o3 (fun e3 => by
    have e2 := (p3.1 e3).1
    have e1 := (p2.1 e2).1
    rw [q1 e1, q2 e2]; exact hle)
  obtain ⟨N1, hN1⟩ : ∃ n, n = nlen 4294967296 V1 := ⟨_, rfl⟩
  obtain ⟨N2, hN2⟩ : ∃ n, n = nlen 4294967296 V2 := ⟨_, rfl⟩
  obtain ⟨N3, hN3⟩ : ∃ n, n = nlen 4294967296 V3 := ⟨_, rfl⟩
  obtain ⟨N4, hN4⟩ : ∃ n, n = nlen 4294967296 V4 := ⟨_, rfl⟩
  rw [← hN1, ← hN2] at k4
  have HN1 := Lib.hid hN1
  have HN2 := Lib.hid hN2
  have HN3 := Lib.hid hN3
  have HN4 := Lib.hid hN4
  have u1 := fun o1 => (Ke.start S0.out #[.slice A n c, .slice B m d] #[.slice A2 n2 c2, .slice B2 m2 d2] #[.slice none 0 0, .slice none 0 0] 28 28 28 o1).kp.b2.fst
  have u2 := fun o1 => (Ke.start S0.out #[.slice A n c, .slice B m d] #[.slice A2 n2 c2, .slice B2 m2 d2] #[.slice none 0 0, .slice none 0 0] 28 28 28 o1).kp.b1.snd
  rcases o4 with e4 | e4
  · subst e4
    have e3 := p4.1 rfl
    have e2 := p3.1 e3
    have e1 := p2.1 e2.1
    have e0 := p1.1 e1.1
    have r4 := q4 rfl
    have r3 := q3 e3
    rw [q1 e1.1, q2 e2.1] at r4
    have h30 : 0 < V3 := by rw [r3]; exact Nat.mul_pos hy hw
    have km := make_red hN4 hN3 (by omega) (by omega) h30
    obtain ⟨r, hr⟩ : ∃ r, Hid (r = rd V4 V3) := ⟨_, Lib.hid rfl⟩
    rw [← hr.out] at km
    rw [show suA X Y Z W = r by unfold suA; rw [big_no e0.2, big_no e1.2, big_no e2.2, hr.out, r3, r4]; rfl]
    clear hr e0 e1 e2 e3 r3 r4 h30 hle
    clear o1 o2 o3 p1 p2 p3 p4 q1 q2 q3 q4 l1 l2 l3 l4 v1 v2 v3 v4 hy hw hN1 hN2 hN3 hN4
    go_enter Tryd.func54, Tryd.ntmps54
    go_wp2_with (first
      | (go_at_call 81; first
        | ((with_reducible refine (k1 _ _ _ _ _ _ (Ke.start S0.out _ _ _ _ _ _ _).kp.c0 (Ke.start S0.out _ _ _ _ _ _ _).kp.c3 (Ke.start S0.out _ _ _ _ _ _ _).e).mono ?_); rintro e w1 ⟨A5, n5', c5, rfl, qq, he, hg⟩; have hc5 := qq.2.1; obtain ⟨z, g⟩ := num_at HN1.out qq; subst z; have K1 := Lib.hid (((Ke.start S0.out _ _ _ _ _ _ _).step he hg).addc g); have x1 := fun o => (K1.out.alloc o).kp.b1.fst; have x2 := fun o => (K1.out.alloc o).kp.b2.snd; clear u1 u2; clear he hg qq g)
        | ((with_reducible refine (k2 _ _ _ _ _ _ (K1.out.al1 _ _).kp.c3 (K1.out.al1 _ _).kp.c2 (K1.out.al1 _ _).e).mono ?_); rintro e w2 ⟨A6, n6', c6, rfl, qq, he, hg⟩; have hc6 := qq.2.1; obtain ⟨z, g⟩ := num_at HN2.out qq; subst z; have K2 := Lib.hid (((K1.out.al1 _ _).step he hg).addc g); have y1 := fun o => (K2.out.alloc o).kp.b3.snd; have y2 := fun o => (K2.out.alloc o).kp.b2.snd; clear x1 x2; clear he hg qq g)
        | ((with_reducible refine (k3 _ _ _ _ _ _ (K2.out.al1 _ _).kp.c3 (K2.out.al1 _ _).kp.c5 (K2.out.al1 _ _).e).mono ?_); rintro e w3 ⟨A7, n7', c7, rfl, qq, he, hg⟩; have hc7 := qq.2.1; obtain ⟨z, g⟩ := num_at HN3.out qq; subst z; have K3 := Lib.hid (((K2.out.al1 _ _).step he hg).addc g); have z1 := fun o => (K3.out.alloc o).kp.b1.one; have z2 := fun o => (K3.out.alloc o).kp.b0.one; clear y1 y2; clear he hg qq g)
        | ((with_reducible refine (k4 _ _ _ _ _ _ (K3.out.al1 _ _).kp.c2 (K3.out.al1 _ _).kp.c1 (K3.out.al1 _ _).e).mono ?_); rintro e w4 ⟨A8, n8', c8, rfl, qq, he, hg⟩; have hc8 := qq.2.1; obtain ⟨z, g⟩ := num_at HN4.out qq; subst z; have K4 := Lib.hid (((K3.out.al1 _ _).step he hg).addc g); have t1 := fun o => (K4.out.alloc o).kp.b0.one; have t2 := fun o => (K4.out.alloc o).e.one; clear z1 z2; clear he hg qq g))
      | (go_at_call 13; (with_reducible refine (km _ _ _ _ hc8 hc7 _ (K4.out.al1 _ _).kp.c0 (K4.out.al1 _ _).kp.c1).mono ?_); rintro e w5 ⟨A9, n9, c9, B9, m9, d9, rfl, r1, r2, hb⟩; have K5 := Lib.hid ((K4.out.al1 _ _).kp.below hb); have Q1 := Lib.hid r1; have Q2 := Lib.hid r2; have z1 := K5.out.b4.fst; have z2 := K5.out.b4.snd; have f1 := K5.out.b4.free 0; have f2 := K5.out.b4.free 1; clear hb r1 r2))
    have xs := two_set K5.out.b4 (.slice A9 n9 c9) (.slice B9 m9 d9)
    refine bodyPost_ret (v := .tuple #[.agg #[.slice A9 n9 c9, .slice B9 m9 d9], .int .i64 r.1]) (by simp [results, Tryd.results54, go_sem, xs.1, xs.2]) rfl ?_
    exact frp_set K5.out.b4 Q1.out Q2.out K5.out.bel (by simp; omega) _ _
  · subst e4
    rw [show suA X Y Z W = no 9 by
      unfold suA
      rw [if_pos]
      cases b1 : big (X * W) with
      | true => rfl
      | false =>
        cases b2 : big (Z * Y) with
        | true => rfl
        | false =>
          cases b3 : big (Y * W) with
          | true => rfl
          | false =>
            have e1 := p1.2 ⟨rfl, big_iff.1 b1⟩
            have e2 := p2.2 ⟨e1, big_iff.1 b2⟩
            have e3 := p3.2 ⟨e2, big_iff.1 b3⟩
            have := p4.2 e3
            cases this]
    clear hle
    clear o1 o2 o3 p1 p2 p3 p4 q1 q2 q3 q4 l1 l2 l3 l4 v1 v2 v3 v4 hy hw hN1 hN2 hN3 hN4
    go_enter Tryd.func54, Tryd.ntmps54
    go_wp2_with (first
      | (go_at_call 81; first
        | ((with_reducible refine (k1 _ _ _ _ _ _ (Ke.start S0.out _ _ _ _ _ _ _).kp.c0 (Ke.start S0.out _ _ _ _ _ _ _).kp.c3 (Ke.start S0.out _ _ _ _ _ _ _).e).mono ?_); rintro e w1 ⟨A5, n5', c5, rfl, qq, he, hg⟩; have hc5 := qq.2.1; obtain ⟨z, g⟩ := num_at HN1.out qq; subst z; have K1 := Lib.hid (((Ke.start S0.out _ _ _ _ _ _ _).step he hg).addc g); have x1 := fun o => (K1.out.alloc o).kp.b1.fst; have x2 := fun o => (K1.out.alloc o).kp.b2.snd; clear u1 u2; clear he hg qq g)
        | ((with_reducible refine (k2 _ _ _ _ _ _ (K1.out.al1 _ _).kp.c3 (K1.out.al1 _ _).kp.c2 (K1.out.al1 _ _).e).mono ?_); rintro e w2 ⟨A6, n6', c6, rfl, qq, he, hg⟩; have hc6 := qq.2.1; obtain ⟨z, g⟩ := num_at HN2.out qq; subst z; have K2 := Lib.hid (((K1.out.al1 _ _).step he hg).addc g); have y1 := fun o => (K2.out.alloc o).kp.b3.snd; have y2 := fun o => (K2.out.alloc o).kp.b2.snd; clear x1 x2; clear he hg qq g)
        | ((with_reducible refine (k3 _ _ _ _ _ _ (K2.out.al1 _ _).kp.c3 (K2.out.al1 _ _).kp.c5 (K2.out.al1 _ _).e).mono ?_); rintro e w3 ⟨A7, n7', c7, rfl, qq, he, hg⟩; have hc7 := qq.2.1; obtain ⟨z, g⟩ := num_at HN3.out qq; subst z; have K3 := Lib.hid (((K2.out.al1 _ _).step he hg).addc g); have z1 := fun o => (K3.out.alloc o).kp.b1.one; have z2 := fun o => (K3.out.alloc o).kp.b0.one; clear y1 y2; clear he hg qq g)
        | ((with_reducible refine (k4 _ _ _ _ _ _ (K3.out.al1 _ _).kp.c2 (K3.out.al1 _ _).kp.c1 (K3.out.al1 _ _).e).mono ?_); rintro e w4 ⟨A8, n8', c8, rfl, qq, he, hg⟩; have hc8 := qq.2.1; obtain ⟨z, g⟩ := num_at HN4.out qq; subst z; have K4 := Lib.hid (((K3.out.al1 _ _).step he hg).addc g); have t1 := fun o => (K4.out.alloc o).kp.b0.one; have t2 := fun o => (K4.out.alloc o).e.one; clear z1 z2; clear he hg qq g)))
    have K5 := Lib.hid (K4.out.al1 #[.slice A8 N4 c8] 24)
    have x9 := K5.out.e.one
    have z1 := K5.out.kp.b4.fst
    have z2 := K5.out.kp.b4.snd
    have f1 := K5.out.kp.b4.free 0
    have f2 := K5.out.kp.b4.free 1
    have g1 : w.heap.size + 1 + 1 ≠ w.heap.size + 1 + 1 + 1 := by omega
    have g2 := Ne.symm g1
    go_region_held3 (fun w' => w'.cell? ⟨w.heap.size + 1 + 1 + 1, 0, none⟩ = some (.int .i64 9)) (first | (simp (maxDischargeDepth := 9) [*]; done) | simp (maxDischargeDepth := 9) [*, World.cell?_setCell_far]) (fail)
    all_goals go_wp2_with fail
    have xs := two_drew K5.out.kp.b4 (.slice none 0 0) (.slice none 0 0)
    refine bodyPost_ret (v := .tuple #[.agg #[.slice none 0 0, .slice none 0 0], .int .i64 9]) (by simp [results, Tryd.results54, go_sem, xs.1, xs.2]) rfl ?_
    exact frp_drew (frp_set K5.out.kp.b4 (Num.nil _) (Num.nil _) K5.out.kp.bel (by simp; omega) _ _)
end Go.Proofs.YtinceponggpioaaDoor.frG

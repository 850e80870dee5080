/-
  Fractions in memory; contracts of isZero, Make of frac.
-/
import Derived.Test.YtinceponggpioaaDoorNatJ
import Derived.Test.YtinceponggpioaaDoorFrMath
namespace Go.Proofs.YtinceponggpioaaDoor.frA
open Go.RowKit
open Go.Proofs.YtinceponggpioaaDoor.natM Go.Proofs.YtinceponggpioaaDoor.natA Go.Proofs.YtinceponggpioaaDoor.natB Go.Proofs.YtinceponggpioaaDoor.natC Go.Proofs.YtinceponggpioaaDoor.natD Go.Proofs.YtinceponggpioaaDoor.natE Go.Proofs.YtinceponggpioaaDoor.natF Go.Proofs.YtinceponggpioaaDoor.natG Go.Proofs.YtinceponggpioaaDoor.natH Go.Proofs.YtinceponggpioaaDoor.natI Go.Proofs.YtinceponggpioaaDoor.natJ Go.Proofs.YtinceponggpioaaDoor.frM
set_option linter.unusedVariables false

/-- a block with these cells -/
def Bk (w : World) (b : Nat) (cs : Array Value) : Prop := ∃ T, w.heap[b]? = some (.cells cs T (0, 0))
section
variable {w w1 : World} {b : Nat} {cs : Array Value} {u v : Value}
theorem Bk.lt (h : Bk w b cs) : b < w.heap.size := by obtain ⟨T, h⟩ := h; exact lt_of_block h
theorem Bk.free (h : Bk w b cs) (j : Nat) : w.frozen? ⟨b, j, none⟩ = false := by obtain ⟨T, h⟩ := h; simp [World.frozen?, h]
theorem Bk.alloc (h : Bk w b cs) (o : Obj) : Bk (w.alloc o) b cs := by
  have hl := h.lt
  obtain ⟨T, h⟩ := h; exact ⟨T, (Below.heap_alloc w o b hl).trans h⟩
theorem Bk.below (h : Bk w b cs) (hb : Below w.heap.size w w1) : Bk w1 b cs := by
  have hl := h.lt
  obtain ⟨T, h⟩ := h; exact ⟨T, (hb.block b hl).trans h⟩
theorem Bk.drewN (h : Bk w b cs) (k : Nat) : Bk (w.drewN k) b cs := h
theorem Bk.far (h : Bk w b cs) {p : Addr} (hp : b ≠ p.block) (x : Value) : Bk (w.setCell p x) b cs := by
  obtain ⟨T, h⟩ := h; exact ⟨T, (Below.heap_setCell w p x b hp).trans h⟩
theorem Bk.at_ (h : Bk w b cs) (j : Nat) : w.cell? ⟨b, j, none⟩ = cs[j]? := by obtain ⟨T, h⟩ := h; exact cell_of_row w b j _ _ _ h
theorem Bk.one (h : Bk w b #[v]) : w.cell? ⟨b, 0, none⟩ = some v := h.at_ 0
theorem Bk.fst (h : Bk w b #[u, v]) : w.cell? ⟨b, 0, none⟩ = some u := h.at_ 0
theorem Bk.snd (h : Bk w b #[u, v]) : w.cell? ⟨b, 1, none⟩ = some v := h.at_ 1
theorem Bk.set_ (h : Bk w b cs) (j : Nat) (x : Value) : Bk (w.setCell ⟨b, j, none⟩ x) b (cs.setIfInBounds j x) := by
  obtain ⟨T, h⟩ := h
  exact ⟨T, by simp [World.setCell, Array.getElem?_modify, h]⟩
theorem Bk.n0 (w : World) (cs : Array Value) (T : TypeId) : Bk (w.alloc (.cells cs T)) w.heap.size cs := ⟨T, heap_alloc_new w _⟩
theorem Bk.n1 (w : World) (o : Obj) (cs : Array Value) (T : TypeId) : Bk ((w.alloc o).alloc (.cells cs T)) (w.heap.size + 1) cs := by
  have := Bk.n0 (w.alloc o) cs T; simpa using this
theorem Bk.n2 (w : World) (o1 o2 : Obj) (cs : Array Value) (T : TypeId) : Bk (((w.alloc o1).alloc o2).alloc (.cells cs T)) (w.heap.size + 1 + 1) cs := by
  have := Bk.n1 (w.alloc o1) o2 cs T; simpa using this
theorem Bk.n3 (w : World) (o1 o2 o3 : Obj) (cs : Array Value) (T : TypeId) : Bk ((((w.alloc o1).alloc o2).alloc o3).alloc (.cells cs T)) (w.heap.size + 1 + 1 + 1) cs := by
  have := Bk.n2 (w.alloc o1) o2 o3 cs T; simpa using this
end

theorem bk_n1 (w : World) (o o2 : Obj) (cs : Array Value) (T : TypeId) : Bk (((w.alloc o).alloc (.cells cs T)).alloc o2) (w.heap.size + 1) cs := (Bk.n1 w o cs T).alloc o2
theorem bk_n0 (w : World) (o o2 : Obj) (cs : Array Value) (T : TypeId) : Bk (((w.alloc (.cells cs T)).alloc o).alloc o2) w.heap.size cs := ((Bk.n0 w cs T).alloc o).alloc o2
theorem bk_two {w : World} {cs ds : Array Value} {T U : TypeId} : Bk ((w.alloc (.cells cs T)).alloc (.cells ds U)) w.heap.size cs ∧ Bk ((w.alloc (.cells cs T)).alloc (.cells ds U)) (w.heap.size + 1) ds := ⟨(Bk.n0 w cs T).alloc _, Bk.n1 w _ ds U⟩
theorem below_al2 {w w1 : World} (h : Below w.heap.size w w1) {o1 o2 : Obj} : Below w.heap.size w ((w1.alloc o1).alloc o2) := (h.alloc h.size o1).alloc (by simp; have := h.size; omega) o2
theorem num_below {w w1 : World} {A : Option Addr} {n c v : Nat} (h : Num w A n c v) (hb : Below w.heap.size w w1) : Num w1 A n c v := ⟨h.1, h.2.1, h.2.2.below hb⟩
theorem num_al {w : World} {A : Option Addr} {n c v : Nat} (h : Num w A n c v) (o : Obj) : Num (w.alloc o) A n c v := ⟨h.1, h.2.1, h.2.2.alloc o⟩
theorem num_al2 {w : World} {A : Option Addr} {n c v : Nat} (h : Num w A n c v) (o1 o2 : Obj) : Num ((w.alloc o1).alloc o2) A n c v := num_al (num_al h o1) o2
theorem num_at {w : World} {A : Option Addr} {n c v N : Nat} (hN : N = nlen 4294967296 v) (h : Num w A n c v) : N = n ∧ Cel .u32 w A (dg 4294967296 N v) := by
  have e : N = n := hN.trans h.1.symm
  subst e; exact ⟨rfl, h.2.2⟩

/-- what a call answers with: a fraction and an error -/
def FrP (r : Ans) (w : World) (e : Ending) (w' : World) : Prop :=
  ∃ A n c B m d, e = .returned (.tuple #[.agg #[.slice A n c, .slice B m d], .int .i64 r.1]) ∧ Num w' A n c r.2.1 ∧ Num w' B m d r.2.2 ∧ Below w.heap.size w w'

theorem two_set {w : World} {b : Nat} {u v : Value} (h : Bk w b #[u, v]) (x y : Value) :
    ((w.setCell ⟨b, 0, none⟩ x).setCell ⟨b, 1, none⟩ y).cell? ⟨b, 0, none⟩ = some x ∧ ((w.setCell ⟨b, 0, none⟩ x).setCell ⟨b, 1, none⟩ y).cell? ⟨b, 1, none⟩ = some y := by
  have h2 := (h.set_ 0 x).set_ 1 y
  exact ⟨h2.at_ 0, h2.at_ 1⟩
theorem far_bk {w : World} {A : Option Addr} {zs : List Nat} {b : Nat} {a1 a2 : Option Addr} {n1 c1 n2 c2 : Nat} (h : Cel .u32 w A zs) (hb : Bk w b #[.slice a1 n1 c1, .slice a2 n2 c2]) : Far A zs.length b := fun hp ad e => by
  obtain ⟨b2, off, e2, hc⟩ := h hp
  have h1 := hc 0 _ (at0_some hp)
  rw [e2] at e
  injection e with e
  subst e
  rintro rfl
  rw [hb.at_] at h1
  have hj : off + 0 < 2 := by
    have := (Array.getElem?_eq_some_iff.1 h1).1
    simpa using this
  rcases (show off + 0 = 0 ∨ off + 0 = 1 by omega) with h0 | h0 <;> rw [h0] at h1 <;> simp at h1
theorem num_two {w : World} {A : Option Addr} {n c v b : Nat} (h : Num w A n c v) (hf : Far A n b) (x y : Value) : Num ((w.setCell ⟨b, 0, none⟩ x).setCell ⟨b, 1, none⟩ y) A n c v :=
  ⟨h.1, h.2.1, (h.2.2.set_ (p := ⟨b, 0, none⟩) (by rw [dg_len]; exact hf) x).set_ (p := ⟨b, 1, none⟩) (by rw [dg_len]; exact hf) y⟩
theorem num_far {w : World} {A : Option Addr} {n c v b : Nat} {a1 a2 : Option Addr} {n1 c1 n2 c2 : Nat} (h : Num w A n c v) (hb : Bk w b #[.slice a1 n1 c1, .slice a2 n2 c2]) : Far A n b := by
  have := far_bk h.2.2 hb
  rwa [dg_len] at this
/-- the answer is laid into the result's cell -/
theorem frp_set {w0 w : World} {b : Nat} {a1 a2 : Option Addr} {n1 c1 n2 c2 : Nat} {A B : Option Addr} {n c m d N D : Nat} {E : Int} (h : Bk w b #[.slice a1 n1 c1, .slice a2 n2 c2]) (hA : Num w A n c N) (hB : Num w B m d D)
    (hb : Below w0.heap.size w0 w) (hl : w0.heap.size ≤ b) (x y : Value) : FrP (E, N, D) w0 (.returned (.tuple #[.agg #[.slice A n c, .slice B m d], .int .i64 E])) ((w.setCell ⟨b, 0, none⟩ x).setCell ⟨b, 1, none⟩ y) :=
  ⟨A, n, c, B, m, d, rfl, num_two hA (num_far hA h) x y, num_two hB (num_far hB h) x y, (hb.setCell (p := ⟨b, 0, none⟩) hl x).setCell (p := ⟨b, 1, none⟩) hl y⟩

set_option maxHeartbeats 400000 in
theorem isz_yes (A : Option Addr) (c : Nat) (w : World) : Calls Tryd.prog 34 #[.agg #[.slice A 0 c]] w fun e w' => e = .returned (.bool true) ∧ Below w.heap.size w w' := by
  go_enter Tryd.func34, Tryd.ntmps34
  go_wp2
  go_ret
  exact ⟨rfl, below_new _ _⟩
set_option maxHeartbeats 400000 in
theorem isz_no (A : Option Addr) (n c : Nat) (h : 0 < n) (hn : n ≤ 9223372036854775807) (w : World) : Calls Tryd.prog 34 #[.agg #[.slice A n c]] w fun e w' => e = .returned (.bool false) ∧ Below w.heap.size w w' := by
  have h2 : ((n : Int) == 0) = false := by simp; omega
  go_enter Tryd.func34, Tryd.ntmps34
  go_wp2
  go_ret
  exact ⟨rfl, below_new _ _⟩

/-! ### Make -/
def mkA (a b : Bool) (X Y : Nat) : Ans := if a && b then (if Y = 0 then no 10 else rd X Y) else no 2
set_option maxHeartbeats 1000000 in
theorem make_no (A D : Option Addr) (n c m d X Y : Nat) (hX : Hid (X < 4294967296 ^ n)) (hY : Hid (Y < 4294967296 ^ m)) (hnc : n ≤ c) (hmd : m ≤ d) (hn : n ≤ 9223372036854775807) (hm : m ≤ 9223372036854775807) (hE : Hid (gcdE n X m Y = 2)) (w : World) (hI : Cel .u32 w A (dg 4294967296 n X)) (hJ : Cel .u32 w D (dg 4294967296 m Y)) :
    Calls Tryd.prog 13 #[.agg #[.slice A n c], .agg #[.slice D m d]] w (FrP (no 2) w) := by
  have HI := Lib.hid hI
  have HJ := Lib.hid hJ
  clear hI hJ
  have cg := fun w hI hJ => gcd_any A D n c m d X Y hX hY hnc hmd hn hm w hI hJ
  rw [hE.out] at cg
  go_enter Tryd.func13, Tryd.ntmps13
  go_wp2_with (go_at_call 33; (with_reducible refine (cg _ (cel_three HI.out _ _ _) (cel_three HJ.out _ _ _)).mono ?_); rintro e w1 ⟨B, k, g, rfl, q, hb1⟩; have HB1 := Lib.hid (below_on (below_three _ _ _ _) hb1); have XR := Lib.hid ((Bk.n2 _ _ _ _ _).below hb1); have xr0 := fun o => (XR.out.alloc o).fst; have xr1 := fun o => (XR.out.alloc o).snd; have f0 := fun o => (XR.out.alloc o).free 0; have f1 := fun o => (XR.out.alloc o).free 1; clear hb1)
  have xs := two_set (XR.out.alloc (Obj.cells #[Value.slice B k g] 24)) (.slice none 0 0) (.slice none 0 0)
  refine bodyPost_ret (v := .tuple #[.agg #[.slice none 0 0, .slice none 0 0], .int .i64 2]) (by simp [results, Tryd.results13, go_sem, xs.1, xs.2]) rfl ?_
  exact frp_set (XR.out.alloc _) (Num.nil _) (Num.nil _) (HB1.out.alloc HB1.out.size _) (by omega) _ _
theorem val_zero {m : Nat} (h : valB m 0 = true) : m = 0 := by
  have := valB_iff.1 h
  rw [nlen_zero] at this; omega
set_option maxHeartbeats 1000000 in
theorem make_zero (A D : Option Addr) (n c d X : Nat) (hX : Hid (X < 4294967296 ^ n)) (hnc : n ≤ c) (hn : n ≤ 9223372036854775807) (hE : Hid (gcdE n X 0 0 = 0)) (w : World) (hI : Cel .u32 w A (dg 4294967296 n X)) :
    Calls Tryd.prog 13 #[.agg #[.slice A n c], .agg #[.slice D 0 d]] w (FrP (no 10) w) := by
  have HI := Lib.hid hI
  clear hI
  have cg := fun w hI => gcd_any A D n c 0 d X 0 hX (Lib.hid (by omega)) hnc (by omega) hn (by omega) w hI (Cel.nil _ _ _)
  rw [hE.out] at cg
  have ci := isz_yes D d
  go_enter Tryd.func13, Tryd.ntmps13
  go_wp2_with (first
    | (go_at_call 33; (with_reducible refine (cg _ (cel_three HI.out _ _ _)).mono ?_); rintro e w1 ⟨B, k, g, rfl, q, hb1⟩; have HB1 := Lib.hid (below_on (below_three _ _ _ _) hb1); have XR := Lib.hid ((Bk.n2 _ _ _ _ _).below hb1); have XD := Lib.hid ((Bk.n1 _ _ _ _).alloc (Obj.cells #[.slice none 0 0, .slice none 0 0] 28) |>.below hb1); have xd := fun o => (XD.out.alloc o).one; clear hb1)
    | (go_at_call 34; (with_reducible refine (ci _).mono ?_); rintro e w2 ⟨rfl, hb2⟩; have HB2 := Lib.hid (below_on (HB1.out.alloc HB1.out.size _) hb2); have XR2 := Lib.hid ((XR.out.alloc _).below hb2); have xr0 := XR2.out.fst; have xr1 := XR2.out.snd; have f0 := XR2.out.free 0; have f1 := XR2.out.free 1; clear hb2))
  have xs := two_set XR2.out (.slice none 0 0) (.slice none 0 0)
  refine bodyPost_ret (v := .tuple #[.agg #[.slice none 0 0, .slice none 0 0], .int .i64 10]) (by simp [results, Tryd.results13, go_sem, xs.1, xs.2]) rfl ?_
  exact frp_set XR2.out (Num.nil _) (Num.nil _) HB2.out (by omega) _ _
set_option maxHeartbeats 2000000 in
theorem make_ok (A D : Option Addr) (n c m d X Y : Nat) (hX : Hid (X < 4294967296 ^ n)) (hY : Hid (Y < 4294967296 ^ m)) (hnc : n ≤ c) (hmd : m ≤ d) (ha : Hid (valB n X = true)) (hb : Hid (valB m Y = true)) (h0 : 0 < Y) (w : World) (hI : Cel .u32 w A (dg 4294967296 n X)) (hJ : Cel .u32 w D (dg 4294967296 m Y)) :
    Calls Tryd.prog 13 #[.agg #[.slice A n c], .agg #[.slice D m d]] w (FrP (rd X Y) w) := by
  have hn := (valB_iff.1 ha.out).1
  have hm := (valB_iff.1 hb.out).1
  have HI := Lib.hid hI
  have HJ := Lib.hid hJ
  clear hI hJ
  obtain ⟨G, hG⟩ : ∃ G, G = Nat.gcd X Y := ⟨_, rfl⟩
  have hg0 : 0 < G := by rw [hG]; exact gcd_pos h0
  have hgl : nlen 4294967296 G ≤ 64 := by
    have h1 : nlen 4294967296 Y ≤ 64 := by have := (valB_iff.1 hb.out).2; omega
    exact Nat.le_trans (nlen_mono (by omega) (by rw [hG]; exact Nat.gcd_le_right _ h0)) h1
  have hm0 : 0 < m := by
    have := (valB_iff.1 hb.out).2
    have := nlen_pos (B := 4294967296) (by omega) h0; omega
  have eG : gcdV n X m Y = G ∧ gcdE n X m Y = 0 := by unfold gcdV gcdE gV gE; simp [ha.out, hb.out, hG]
  have cg := fun w hI hJ => gcd_any A D n c m d X Y hX hY hnc hmd (by omega) (by omega) w hI hJ
  rw [eG.1, eG.2] at cg
  obtain ⟨k, hk⟩ : ∃ k, k = nlen 4294967296 G := ⟨_, rfl⟩
  have hkv : valB k G = true := valB_iff.2 ⟨by omega, hk.symm⟩
  have hGl : Hid (G < 4294967296 ^ k) := Lib.hid (by rw [hk]; exact nlen_lt (by omega) G)
  obtain ⟨N, hN⟩ : ∃ N, N = X / G := ⟨_, rfl⟩
  obtain ⟨M, hM⟩ : ∃ M, M = Y / G := ⟨_, rfl⟩
  obtain ⟨R1, hR1⟩ : ∃ R, R = X % G := ⟨_, rfl⟩
  obtain ⟨R2, hR2⟩ : ∃ R, R = Y % G := ⟨_, rfl⟩
  have e1 : divQ n X k G = N ∧ divR n X k G = R1 ∧ divE n X k G = 0 := by
    unfold divQ divR divE; rw [ha.out, hkv, hN, hR1]; have := d_ok (X := X) hg0; exact ⟨this.2.1, this.2.2, this.1⟩
  have e2 : divQ m Y k G = M ∧ divR m Y k G = R2 ∧ divE m Y k G = 0 := by
    unfold divQ divR divE; rw [hb.out, hkv, hM, hR2]; have := d_ok (X := Y) hg0; exact ⟨this.2.1, this.2.2, this.1⟩
  have er : rd X Y = (0, N, M) := by unfold rd; rw [hN, hM, hG]
  rw [er]
  have c1 : ∀ B g w, Cel .u32 w A (dg 4294967296 n X) → Cel .u32 w B (dg 4294967296 k G) → Calls Tryd.prog 35 #[.agg #[.slice A n c], .agg #[.slice B k g]] w (DivR N R1 0 w) := fun B g w hI hJ => by
    have := divmod_any A B n c k g X G hX hGl (by omega) (by omega) w hI hJ
    rwa [e1.1, e1.2.1, e1.2.2] at this
  have c2 : ∀ B g w, Cel .u32 w D (dg 4294967296 m Y) → Cel .u32 w B (dg 4294967296 k G) → Calls Tryd.prog 35 #[.agg #[.slice D m d], .agg #[.slice B k g]] w (DivR M R2 0 w) := fun B g w hI hJ => by
    have := divmod_any D B m d k g Y G hY hGl (by omega) (by omega) w hI hJ
    rwa [e2.1, e2.2.1, e2.2.2] at this
  have ci := isz_no D m d hm0 (by omega)
  have HK := Lib.hid hk
  clear er e1 e2 hN hM hR1 hR2 hkv hGl hgl hg0 eG hG hX hY ha hb h0 hk
  go_enter Tryd.func13, Tryd.ntmps13
  go_wp2_with (first
    | (go_at_call 33; (with_reducible refine (cg _ (cel_three HI.out _ _ _) (cel_three HJ.out _ _ _)).mono ?_); rintro e w1 ⟨B, k', g, rfl, q, hb1⟩; obtain ⟨z, q2⟩ := num_at HK.out q; subst z; have HB1 := Lib.hid (below_on (below_three _ _ _ _) hb1); have XR := Lib.hid ((Bk.n2 _ _ _ _ _).below hb1); have XD := Lib.hid ((bk_n1 _ _ _ _ _).below hb1); have XA := Lib.hid ((bk_n0 _ _ _ _ _).below hb1); have HI1 := Lib.hid ((cel_three HI.out _ _ _).below hb1); have HJ1 := Lib.hid ((cel_three HJ.out _ _ _).below hb1); have HG1 := Lib.hid q2; have xd := fun o => (XD.out.alloc o).one; clear hb1 q q2)
    | (go_at_call 34; (with_reducible refine (ci _).mono ?_); rintro e w2 ⟨rfl, hb2⟩; have HB2 := Lib.hid (below_on (HB1.out.alloc HB1.out.size _) hb2); have XR2 := Lib.hid ((XR.out.alloc _).below hb2); have XD2 := Lib.hid ((XD.out.alloc _).below hb2); have XG2 := Lib.hid ((Bk.n0 _ _ _).below hb2); have xa := ((XA.out.alloc _).below hb2).one; have xg := XG2.out.one; have HI2 := Lib.hid ((HI1.out.alloc _).below hb2); have HJ2 := Lib.hid ((HJ1.out.alloc _).below hb2); have HG2 := Lib.hid ((HG1.out.alloc _).below hb2); clear hb2 xd)
    | (go_at_call 35; first
      | ((with_reducible refine (c1 _ _ _ HI2.out HG2.out).mono ?_); rintro e w3 ⟨A3, n3, d3, B3, m3, g3, rfl, q, q', hb3⟩; have HB3 := Lib.hid (below_on HB2.out hb3); have XR3 := Lib.hid (XR2.out.below hb3); have xd3 := fun o1 o2 => (((XD2.out.below hb3).alloc o1).alloc o2).one; have xg3 := fun o1 o2 => (((XG2.out.below hb3).alloc o1).alloc o2).one; have HJ3 := Lib.hid (HJ2.out.below hb3); have HG3 := Lib.hid (HG2.out.below hb3); have Q3 := Lib.hid q; clear hb3 xa xg q q')
      | ((with_reducible refine (c2 _ _ _ (cel_two HJ3.out _ _) (cel_two HG3.out _ _)).mono ?_); rintro e w4 ⟨A4, n4, d4, B4, m4, g4, rfl, q, q', hb4⟩; have HB4 := Lib.hid (below_on (below_al2 HB3.out) hb4); have XR4 := Lib.hid (((XR3.out.alloc _).alloc _).below hb4); have Q4 := Lib.hid (num_below (num_al2 Q3.out _ _) hb4); have QQ := Lib.hid q; have X3 := Lib.hid (bk_two.1.below hb4); have x3 := fun o1 o2 => ((X3.out.alloc o1).alloc o2).one; have xr0 := fun o1 o2 => ((XR4.out.alloc o1).alloc o2).fst; have xr1 := fun o1 o2 => ((XR4.out.alloc o1).alloc o2).snd; have f0 := fun o1 o2 => ((XR4.out.alloc o1).alloc o2).free 0; have f1 := fun o1 o2 => ((XR4.out.alloc o1).alloc o2).free 1; clear hb4 xd3 xg3 q q')))
  have xs := two_set ((XR4.out.alloc (Obj.cells #[.slice A4 n4 d4] 24)).alloc (Obj.cells #[.slice B4 m4 g4] 24)) (.slice A3 n3 d3) (.slice A4 n4 d4)
  refine bodyPost_ret (v := .tuple #[.agg #[.slice A3 n3 d3, .slice A4 n4 d4], .int .i64 0]) (by simp [results, Tryd.results13, go_sem, xs.1, xs.2]) rfl ?_
  exact frp_set ((XR4.out.alloc _).alloc _) (num_al2 Q4.out _ _) (num_al2 QQ.out _ _) (below_al2 HB4.out) (by omega) _ _
theorem make_any (A D : Option Addr) (n c m d X Y : Nat) (hX : Hid (X < 4294967296 ^ n)) (hY : Hid (Y < 4294967296 ^ m)) (hnc : n ≤ c) (hmd : m ≤ d) (hn : n ≤ 9223372036854775807) (hm : m ≤ 9223372036854775807) (w : World) (hI : Cel .u32 w A (dg 4294967296 n X)) (hJ : Cel .u32 w D (dg 4294967296 m Y)) :
    Calls Tryd.prog 13 #[.agg #[.slice A n c], .agg #[.slice D m d]] w (FrP (mkA (valB n X) (valB m Y) X Y) w) := by
  cases ha : valB n X with
  | false => exact make_no A D n c m d X Y hX hY hnc hmd hn hm (Lib.hid (by unfold gcdE gE; rw [ha]; rfl)) w hI hJ
  | true =>
    cases hb : valB m Y with
    | false => exact make_no A D n c m d X Y hX hY hnc hmd hn hm (Lib.hid (by unfold gcdE gE; rw [ha, hb]; rfl)) w hI hJ
    | true =>
      by_cases h0 : Y = 0
      · subst h0
        obtain rfl := val_zero hb
        exact make_zero A D n c d X hX hnc hn (Lib.hid (by unfold gcdE gE; rw [ha, hb]; rfl)) w hI
      · have e : mkA true true X Y = rd X Y := by unfold mkA; simp [h0]
        rw [e]
        exact make_ok A D n c m d X Y hX hY hnc hmd (Lib.hid ha) (Lib.hid hb) (by omega) w hI hJ
end Go.Proofs.YtinceponggpioaaDoor.frA

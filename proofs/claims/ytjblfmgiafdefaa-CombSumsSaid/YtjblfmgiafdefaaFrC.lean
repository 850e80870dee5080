/-
  Contracts of compare and Cmp of frac.
-/
import Derived.Test.YtjblfmgiafdefaaFrB
import Derived.Deep.Cut
import Derived.Deep.LoopGhost
namespace Go.Proofs.Ytjblfmgiafdefaa.frC
open Go.RowKit
open Go.Proofs.Ytjblfmgiafdefaa.natM Go.Proofs.Ytjblfmgiafdefaa.natA Go.Proofs.Ytjblfmgiafdefaa.natB Go.Proofs.Ytjblfmgiafdefaa.natC Go.Proofs.Ytjblfmgiafdefaa.natD Go.Proofs.Ytjblfmgiafdefaa.natE Go.Proofs.Ytjblfmgiafdefaa.natF Go.Proofs.Ytjblfmgiafdefaa.natG Go.Proofs.Ytjblfmgiafdefaa.natH Go.Proofs.Ytjblfmgiafdefaa.natI Go.Proofs.Ytjblfmgiafdefaa.natJ Go.Proofs.Ytjblfmgiafdefaa.natX Go.Proofs.Ytjblfmgiafdefaa.natUi Go.Proofs.Ytjblfmgiafdefaa.frM Go.Proofs.Ytjblfmgiafdefaa.frA Go.Proofs.Ytjblfmgiafdefaa.frB
set_option linter.unusedVariables false

theorem val_lt {n X : Nat} (h : valB n X = true) : X < 4294967296 ^ n := by
  have := (valB_iff.1 h).2
  have h2 := nlen_lt (B := 4294967296) (by omega) X
  rwa [this] at h2
theorem div_kit {n m X Y Q R : Nat} (h1 : valB n X = true) (h2 : valB m Y = true) (hy : 0 < Y) (hQ : Q = X / Y) (hR : R = X % Y) (A : Option Addr) (c : Nat) (D : Option Addr) (d : Nat) (w : World) (hI : Cel .u32 w A (dg 4294967296 n X)) (hJ : Cel .u32 w D (dg 4294967296 m Y)) :
    Calls Try.prog 29 #[.agg #[.slice A n c], .agg #[.slice D m d]] w (DivR Q R 0 w) := by
  have l1 := (valB_iff.1 h1).1
  have l2 := (valB_iff.1 h2).1
  have := divmod_any A D n c m d X Y (Lib.hid (val_lt h1)) (Lib.hid (val_lt h2)) (by omega) (by omega) w hI hJ
  have e : divQ n X m Y = Q ∧ divR n X m Y = R ∧ divE n X m Y = 0 := by
    unfold divQ divR divE; rw [h1, h2, hQ, hR]; have := d_ok (X := X) hy; exact ⟨this.2.1, this.2.2, this.1⟩
  rwa [e.1, e.2.1, e.2.2] at this
theorem val_le {n X V : Nat} (h : valB n X = true) (hV : V ≤ X) : valB (nlen 4294967296 V) V = true := valB_iff.2 ⟨by have h1 := valB_iff.1 h; have := nlen_mono (B := 4294967296) (by omega) hV; omega, rfl⟩

theorem far_bk1 {w : World} {A : Option Addr} {zs : List Nat} {b : Nat} {a1 : Option Addr} {n1 c1 : Nat} (h : Cel .u32 w A zs) (hb : Bk w b #[.slice a1 n1 c1]) : Far A zs.length b := fun hp ad e => by
  obtain ⟨b2, off, e2, hc⟩ := h hp
  have h1 := hc 0 _ (at0_some hp)
  rw [e2] at e
  injection e with e
  subst e
  rintro rfl
  rw [hb.at_] at h1
  have hj : off + 0 < 1 := by
    have := (Array.getElem?_eq_some_iff.1 h1).1
    simpa using this
  rw [show off + 0 = 0 by omega] at h1
  simp at h1
theorem kp_set {w0 w : World} {cs : List (Option Addr × Nat × Nat)} {bs : List (Nat × Array Value)} {b : Nat} {a : Option Addr} {n c : Nat} (h : Kp w0 cs ((b, #[.slice a n c]) :: bs) w) (hl : w0.heap.size ≤ b) (hne : ∀ x ∈ bs, x.1 ≠ b) (u : Value) : Kp w0 cs (bs ++ [(b, #[u])]) (w.setCell ⟨b, 0, none⟩ u) :=
  ⟨h.bel.setCell (p := ⟨b, 0, none⟩) hl u, fun x hx => (h.cel x hx).set_ (p := ⟨b, 0, none⟩) (far_bk1 (h.cel x hx) h.b0) u, fun x hx => by
    rcases List.mem_append.1 hx with hx | hx
    · exact (h.blk x (.tail _ hx)).far (p := ⟨b, 0, none⟩) (hne x hx) u
    · simp at hx; subst hx; exact h.b0.set_ 0 u⟩
theorem kp_sets {w0 w : World} {cs : List (Option Addr × Nat × Nat)} {p5 p6 p7 p8 : Nat} {a5 a6 a7 a8 : Option Addr} {n5 c5 n6 c6 n7 c7 n8 c8 : Nat} (h : Kp w0 cs [(p5, #[.slice a5 n5 c5]), (p6, #[.slice a6 n6 c6]), (p7, #[.slice a7 n7 c7]), (p8, #[.slice a8 n8 c8])] w)
    (hp : (p5 ≠ p6 ∧ p5 ≠ p7 ∧ p5 ≠ p8 ∧ p6 ≠ p7 ∧ p6 ≠ p8 ∧ p7 ≠ p8) ∧ w0.heap.size ≤ p5 ∧ w0.heap.size ≤ p6 ∧ w0.heap.size ≤ p7 ∧ w0.heap.size ≤ p8) (u5 u6 u7 u8 : Value) :
    Kp w0 cs [(p5, #[u5]), (p6, #[u6]), (p7, #[u7]), (p8, #[u8])] ((((w.setCell ⟨p5, 0, none⟩ u5).setCell ⟨p6, 0, none⟩ u6).setCell ⟨p7, 0, none⟩ u7).setCell ⟨p8, 0, none⟩ u8) := by
  obtain ⟨⟨h1, h2, h3, h4, h5, h6⟩, l5, l6, l7, l8⟩ := hp
  have s1 := kp_set h l5 (by intro x hx; simp at hx; rcases hx with rfl | rfl | rfl <;> first | exact Ne.symm h1 | exact Ne.symm h2 | exact Ne.symm h3) u5
  have s2 := kp_set s1 l6 (by intro x hx; simp at hx; rcases hx with rfl | rfl | rfl <;> first | exact Ne.symm h4 | exact Ne.symm h5 | exact h1) u6
  have s3 := kp_set s2 l7 (by intro x hx; simp at hx; rcases hx with rfl | rfl | rfl <;> first | exact Ne.symm h6 | exact h2 | exact h4) u7
  exact kp_set s3 l8 (by intro x hx; simp at hx; rcases hx with rfl | rfl | rfl <;> first | exact h3 | exact h5 | exact h6) u8
theorem kp_pick {w0 w : World} {cs : List (Option Addr × Nat × Nat)} {bs : List (Nat × Array Value)} {x0 x1 x2 x3 : Option Addr × Nat × Nat} {y0 y1 y2 y3 : Nat × Array Value} (h : Kp w0 cs bs w) (h0 : x0 ∈ cs) (h1 : x1 ∈ cs) (h2 : x2 ∈ cs) (h3 : x3 ∈ cs) (g0 : y0 ∈ bs) (g1 : y1 ∈ bs) (g2 : y2 ∈ bs) (g3 : y3 ∈ bs) : Kp w0 [x0, x1, x2, x3] [y0, y1, y2, y3] w :=
  ⟨h.bel, fun x hx => by simp at hx; rcases hx with rfl | rfl | rfl | rfl <;> first | exact h.cel _ h0 | exact h.cel _ h1 | exact h.cel _ h2 | exact h.cel _ h3, fun x hx => by simp at hx; rcases hx with rfl | rfl | rfl | rfl <;> first | exact h.blk _ g0 | exact h.blk _ g1 | exact h.blk _ g2 | exact h.blk _ g3⟩

theorem bk40 (w : World) (v : Array Value) (T : TypeId) (o1 o2 o3 : Obj) : Bk ((((w.alloc (.cells v T)).alloc o1).alloc o2).alloc o3).drew w.heap.size v := (((Bk.n0 w v T).alloc o1).alloc o2).alloc o3
theorem bk41 (w : World) (v : Array Value) (T : TypeId) (o1 o2 o3 : Obj) : Bk ((((w.alloc o1).alloc (.cells v T)).alloc o2).alloc o3).drew (w.heap.size + 1) v := ((Bk.n1 w o1 v T).alloc o2).alloc o3
theorem bk42 (w : World) (v : Array Value) (T : TypeId) (o1 o2 o3 : Obj) : Bk ((((w.alloc o1).alloc o2).alloc (.cells v T)).alloc o3).drew (w.heap.size + 1 + 1) v := (Bk.n2 w o1 o2 v T).alloc o3
theorem bk43 (w : World) (v : Array Value) (T : TypeId) (o1 o2 o3 : Obj) : Bk ((((w.alloc o1).alloc o2).alloc o3).alloc (.cells v T)).drew (w.heap.size + 1 + 1 + 1) v := Bk.n3 w o1 o2 o3 v T
theorem kp_four {w0 w w1 : World} {cs : List (Option Addr × Nat × Nat)} {bs : List (Nat × Array Value)} (h : Kp w0 cs bs w) {p5 p6 p7 p8 : Nat} {v5 v6 v7 v8 : Array Value} (hb : Below w.heap.size w w1) (h5 : Bk w1 p5 v5) (h6 : Bk w1 p6 v6) (h7 : Bk w1 p7 v7) (h8 : Bk w1 p8 v8) :
    Kp w0 cs [(p5, v5), (p6, v6), (p7, v7), (p8, v8)] w1 := by
  have := h.below hb
  exact ((((⟨this.bel, this.cel, fun x hx => by simp at hx⟩ : Kp w0 cs [] w1).addb h8).addb h7).addb h6).addb h5
theorem below_al4 (w : World) (o1 o2 o3 o4 : Obj) : Below w.heap.size w ((((w.alloc o1).alloc o2).alloc o3).alloc o4).drew := bel_drew (below_four w o1 o2 o3 o4)

end Go.Proofs.Ytjblfmgiafdefaa.frC

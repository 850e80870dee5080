/-
  What a walk carries along; contracts of Valid, Of of frac.
-/
import Derived.Test.YtinceponggpioaaDoorFrA
import Derived.Test.YtinceponggpioaaDoorNatUi
import Derived.Deep.RegionHeld3
namespace Go.Proofs.YtinceponggpioaaDoor.frB
open Go.RowKit
open Go.Proofs.YtinceponggpioaaDoor.natM Go.Proofs.YtinceponggpioaaDoor.natA Go.Proofs.YtinceponggpioaaDoor.natB Go.Proofs.YtinceponggpioaaDoor.natC Go.Proofs.YtinceponggpioaaDoor.natD Go.Proofs.YtinceponggpioaaDoor.natE Go.Proofs.YtinceponggpioaaDoor.natF Go.Proofs.YtinceponggpioaaDoor.natG Go.Proofs.YtinceponggpioaaDoor.natH Go.Proofs.YtinceponggpioaaDoor.natI Go.Proofs.YtinceponggpioaaDoor.natJ Go.Proofs.YtinceponggpioaaDoor.natX Go.Proofs.YtinceponggpioaaDoor.natUi Go.Proofs.YtinceponggpioaaDoor.frM Go.Proofs.YtinceponggpioaaDoor.frA
set_option linter.unusedVariables false

/-- numbers and blocks that stand in a world that has grown since w0 -/
structure Kp (w0 : World) (cs : List (Option Addr × Nat × Nat)) (bs : List (Nat × Array Value)) (w : World) : Prop where
  bel : Below w0.heap.size w0 w
  cel : ∀ x ∈ cs, Cel .u32 w x.1 (dg 4294967296 x.2.1 x.2.2)
  blk : ∀ x ∈ bs, Bk w x.1 x.2
section
variable {w0 w w1 : World} {cs : List (Option Addr × Nat × Nat)} {bs : List (Nat × Array Value)} {x0 x1 x2 x3 x4 x5 x6 x7 : Option Addr × Nat × Nat} {y0 y1 y2 y3 y4 y5 : Nat × Array Value}
theorem Kp.start (w : World) : Kp w [] [] w := ⟨Below.refl _ _, fun _ h => by simp at h, fun _ h => by simp at h⟩
theorem Kp.below (h : Kp w0 cs bs w) (hb : Below w.heap.size w w1) : Kp w0 cs bs w1 := ⟨below_on h.bel hb, fun x hx => (h.cel x hx).below hb, fun x hx => (h.blk x hx).below hb⟩
theorem Kp.alloc (h : Kp w0 cs bs w) (o : Obj) : Kp w0 cs bs (w.alloc o) := h.below (below_new _ _)
theorem Kp.drewN (h : Kp w0 cs bs w) (k : Nat) : Kp w0 cs bs (w.drewN k) := ⟨bel_drewN h.bel k, h.cel, h.blk⟩
theorem Kp.drew (h : Kp w0 cs bs w) : Kp w0 cs bs w.drew := ⟨bel_drew h.bel, h.cel, h.blk⟩
theorem Kp.addc {A : Option Addr} {n X : Nat} (h : Kp w0 cs bs w) (hc : Cel .u32 w A (dg 4294967296 n X)) : Kp w0 ((A, n, X) :: cs) bs w :=
  ⟨h.bel, fun x hx => by
    rcases List.mem_cons.1 hx with rfl | hx
    · exact hc
    · exact h.cel x hx, h.blk⟩
theorem Kp.addb {b : Nat} {v : Array Value} (h : Kp w0 cs bs w) (hc : Bk w b v) : Kp w0 cs ((b, v) :: bs) w :=
  ⟨h.bel, h.cel, fun x hx => by
    rcases List.mem_cons.1 hx with rfl | hx
    · exact hc
    · exact h.blk x hx⟩
/-- a new block -/
theorem Kp.al (h : Kp w0 cs bs w) {b : Nat} (hb : b = w.heap.size) (v : Array Value) (T : TypeId) : Kp w0 cs ((b, v) :: bs) (w.alloc (.cells v T)) := by
  subst hb; exact (h.alloc _).addb (Bk.n0 _ _ _)
theorem Kp.al1 (h : Kp w0 cs bs w) (v : Array Value) (T : TypeId) : Kp w0 cs ((w.heap.size, v) :: bs) (w.alloc (.cells v T)) := h.al rfl v T
theorem Kp.al2 (h : Kp w0 cs bs w) (v v2 : Array Value) (T T2 : TypeId) : Kp w0 cs ((w.heap.size + 1, v2) :: (w.heap.size, v) :: bs) ((w.alloc (.cells v T)).alloc (.cells v2 T2)) := (h.al1 v T).al (by simp) v2 T2
theorem Kp.al3 (h : Kp w0 cs bs w) (v v2 v3 : Array Value) (T T2 T3 : TypeId) : Kp w0 cs ((w.heap.size + 1 + 1, v3) :: (w.heap.size + 1, v2) :: (w.heap.size, v) :: bs) (((w.alloc (.cells v T)).alloc (.cells v2 T2)).alloc (.cells v3 T3)) := (h.al2 v v2 T T2).al (by simp) v3 T3
theorem Kp.c0 (h : Kp w0 (x0 :: cs) bs w) : Cel .u32 w x0.1 (dg 4294967296 x0.2.1 x0.2.2) := h.cel _ (.head _)
theorem Kp.c1 (h : Kp w0 (x0 :: x1 :: cs) bs w) : Cel .u32 w x1.1 (dg 4294967296 x1.2.1 x1.2.2) := h.cel _ (.tail _ (.head _))
theorem Kp.c2 (h : Kp w0 (x0 :: x1 :: x2 :: cs) bs w) : Cel .u32 w x2.1 (dg 4294967296 x2.2.1 x2.2.2) := h.cel _ (.tail _ (.tail _ (.head _)))
theorem Kp.c3 (h : Kp w0 (x0 :: x1 :: x2 :: x3 :: cs) bs w) : Cel .u32 w x3.1 (dg 4294967296 x3.2.1 x3.2.2) := h.cel _ (.tail _ (.tail _ (.tail _ (.head _))))
theorem Kp.c4 (h : Kp w0 (x0 :: x1 :: x2 :: x3 :: x4 :: cs) bs w) : Cel .u32 w x4.1 (dg 4294967296 x4.2.1 x4.2.2) := h.cel _ (.tail _ (.tail _ (.tail _ (.tail _ (.head _)))))
theorem Kp.c5 (h : Kp w0 (x0 :: x1 :: x2 :: x3 :: x4 :: x5 :: cs) bs w) : Cel .u32 w x5.1 (dg 4294967296 x5.2.1 x5.2.2) := h.cel _ (.tail _ (.tail _ (.tail _ (.tail _ (.tail _ (.head _))))))
theorem Kp.c6 (h : Kp w0 (x0 :: x1 :: x2 :: x3 :: x4 :: x5 :: x6 :: cs) bs w) : Cel .u32 w x6.1 (dg 4294967296 x6.2.1 x6.2.2) := h.cel _ (.tail _ (.tail _ (.tail _ (.tail _ (.tail _ (.tail _ (.head _)))))))
theorem Kp.b0 (h : Kp w0 cs (y0 :: bs) w) : Bk w y0.1 y0.2 := h.blk _ (.head _)
theorem Kp.b1 (h : Kp w0 cs (y0 :: y1 :: bs) w) : Bk w y1.1 y1.2 := h.blk _ (.tail _ (.head _))
theorem Kp.b2 (h : Kp w0 cs (y0 :: y1 :: y2 :: bs) w) : Bk w y2.1 y2.2 := h.blk _ (.tail _ (.tail _ (.head _)))
theorem Kp.b3 (h : Kp w0 cs (y0 :: y1 :: y2 :: y3 :: bs) w) : Bk w y3.1 y3.2 := h.blk _ (.tail _ (.tail _ (.tail _ (.head _))))
theorem Kp.b4 (h : Kp w0 cs (y0 :: y1 :: y2 :: y3 :: y4 :: bs) w) : Bk w y4.1 y4.2 := h.blk _ (.tail _ (.tail _ (.tail _ (.tail _ (.head _)))))
theorem Kp.b5 (h : Kp w0 cs (y0 :: y1 :: y2 :: y3 :: y4 :: y5 :: bs) w) : Bk w y5.1 y5.2 := h.blk _ (.tail _ (.tail _ (.tail _ (.tail _ (.tail _ (.head _))))))
theorem Kp.b6 {y6 : Nat × Array Value} (h : Kp w0 cs (y0 :: y1 :: y2 :: y3 :: y4 :: y5 :: y6 :: bs) w) : Bk w y6.1 y6.2 := h.blk _ (.tail _ (.tail _ (.tail _ (.tail _ (.tail _ (.tail _ (.head _)))))))
theorem Kp.b7 {y6 y7 : Nat × Array Value} (h : Kp w0 cs (y0 :: y1 :: y2 :: y3 :: y4 :: y5 :: y6 :: y7 :: bs) w) : Bk w y7.1 y7.2 := h.blk _ (.tail _ (.tail _ (.tail _ (.tail _ (.tail _ (.tail _ (.tail _ (.head _))))))))
end

theorem Kp.c7 {w0 w : World} {cs : List (Option Addr × Nat × Nat)} {bs : List (Nat × Array Value)} {x0 x1 x2 x3 x4 x5 x6 x7 : Option Addr × Nat × Nat} (h : Kp w0 (x0 :: x1 :: x2 :: x3 :: x4 :: x5 :: x6 :: x7 :: cs) bs w) : Cel .u32 w x7.1 (dg 4294967296 x7.2.1 x7.2.2) := h.cel _ (.tail _ (.tail _ (.tail _ (.tail _ (.tail _ (.tail _ (.tail _ (.head _))))))))
theorem Kp.c8 {w0 w : World} {cs : List (Option Addr × Nat × Nat)} {bs : List (Nat × Array Value)} {x0 x1 x2 x3 x4 x5 x6 x7 x8 : Option Addr × Nat × Nat} (h : Kp w0 (x0 :: x1 :: x2 :: x3 :: x4 :: x5 :: x6 :: x7 :: x8 :: cs) bs w) : Cel .u32 w x8.1 (dg 4294967296 x8.2.1 x8.2.2) := h.cel _ (.tail _ (.tail _ (.tail _ (.tail _ (.tail _ (.tail _ (.tail _ (.tail _ (.head _)))))))))
theorem Kp.c9 {w0 w : World} {cs : List (Option Addr × Nat × Nat)} {bs : List (Nat × Array Value)} {x0 x1 x2 x3 x4 x5 x6 x7 x8 x9 : Option Addr × Nat × Nat} (h : Kp w0 (x0 :: x1 :: x2 :: x3 :: x4 :: x5 :: x6 :: x7 :: x8 :: x9 :: cs) bs w) : Cel .u32 w x9.1 (dg 4294967296 x9.2.1 x9.2.2) := h.cel _ (.tail _ (.tail _ (.tail _ (.tail _ (.tail _ (.tail _ (.tail _ (.tail _ (.tail _ (.head _))))))))))
theorem Kp.c10 {w0 w : World} {cs : List (Option Addr × Nat × Nat)} {bs : List (Nat × Array Value)} {x0 x1 x2 x3 x4 x5 x6 x7 x8 x9 x10 : Option Addr × Nat × Nat} (h : Kp w0 (x0 :: x1 :: x2 :: x3 :: x4 :: x5 :: x6 :: x7 :: x8 :: x9 :: x10 :: cs) bs w) : Cel .u32 w x10.1 (dg 4294967296 x10.2.1 x10.2.2) := h.cel _ (.tail _ (.tail _ (.tail _ (.tail _ (.tail _ (.tail _ (.tail _ (.tail _ (.tail _ (.tail _ (.head _)))))))))))
theorem Kp.c11 {w0 w : World} {cs : List (Option Addr × Nat × Nat)} {bs : List (Nat × Array Value)} {x0 x1 x2 x3 x4 x5 x6 x7 x8 x9 x10 x11 : Option Addr × Nat × Nat} (h : Kp w0 (x0 :: x1 :: x2 :: x3 :: x4 :: x5 :: x6 :: x7 :: x8 :: x9 :: x10 :: x11 :: cs) bs w) : Cel .u32 w x11.1 (dg 4294967296 x11.2.1 x11.2.2) := h.cel _ (.tail _ (.tail _ (.tail _ (.tail _ (.tail _ (.tail _ (.tail _ (.tail _ (.tail _ (.tail _ (.tail _ (.head _))))))))))))
theorem Kp.c12 {w0 w : World} {cs : List (Option Addr × Nat × Nat)} {bs : List (Nat × Array Value)} {x0 x1 x2 x3 x4 x5 x6 x7 x8 x9 x10 x11 x12 : Option Addr × Nat × Nat} (h : Kp w0 (x0 :: x1 :: x2 :: x3 :: x4 :: x5 :: x6 :: x7 :: x8 :: x9 :: x10 :: x11 :: x12 :: cs) bs w) : Cel .u32 w x12.1 (dg 4294967296 x12.2.1 x12.2.2) := h.cel _ (.tail _ (.tail _ (.tail _ (.tail _ (.tail _ (.tail _ (.tail _ (.tail _ (.tail _ (.tail _ (.tail _ (.tail _ (.head _)))))))))))))
theorem Kp.c13 {w0 w : World} {cs : List (Option Addr × Nat × Nat)} {bs : List (Nat × Array Value)} {x0 x1 x2 x3 x4 x5 x6 x7 x8 x9 x10 x11 x12 x13 : Option Addr × Nat × Nat} (h : Kp w0 (x0 :: x1 :: x2 :: x3 :: x4 :: x5 :: x6 :: x7 :: x8 :: x9 :: x10 :: x11 :: x12 :: x13 :: cs) bs w) : Cel .u32 w x13.1 (dg 4294967296 x13.2.1 x13.2.2) := h.cel _ (.tail _ (.tail _ (.tail _ (.tail _ (.tail _ (.tail _ (.tail _ (.tail _ (.tail _ (.tail _ (.tail _ (.tail _ (.tail _ (.head _))))))))))))))
theorem Kp.c14 {w0 w : World} {cs : List (Option Addr × Nat × Nat)} {bs : List (Nat × Array Value)} {x0 x1 x2 x3 x4 x5 x6 x7 x8 x9 x10 x11 x12 x13 x14 : Option Addr × Nat × Nat} (h : Kp w0 (x0 :: x1 :: x2 :: x3 :: x4 :: x5 :: x6 :: x7 :: x8 :: x9 :: x10 :: x11 :: x12 :: x13 :: x14 :: cs) bs w) : Cel .u32 w x14.1 (dg 4294967296 x14.2.1 x14.2.2) := h.cel _ (.tail _ (.tail _ (.tail _ (.tail _ (.tail _ (.tail _ (.tail _ (.tail _ (.tail _ (.tail _ (.tail _ (.tail _ (.tail _ (.tail _ (.head _)))))))))))))))
theorem Kp.c15 {w0 w : World} {cs : List (Option Addr × Nat × Nat)} {bs : List (Nat × Array Value)} {x0 x1 x2 x3 x4 x5 x6 x7 x8 x9 x10 x11 x12 x13 x14 x15 : Option Addr × Nat × Nat} (h : Kp w0 (x0 :: x1 :: x2 :: x3 :: x4 :: x5 :: x6 :: x7 :: x8 :: x9 :: x10 :: x11 :: x12 :: x13 :: x14 :: x15 :: cs) bs w) : Cel .u32 w x15.1 (dg 4294967296 x15.2.1 x15.2.2) := h.cel _ (.tail _ (.tail _ (.tail _ (.tail _ (.tail _ (.tail _ (.tail _ (.tail _ (.tail _ (.tail _ (.tail _ (.tail _ (.tail _ (.tail _ (.tail _ (.head _))))))))))))))))
theorem Kp.c16 {w0 w : World} {cs : List (Option Addr × Nat × Nat)} {bs : List (Nat × Array Value)} {x0 x1 x2 x3 x4 x5 x6 x7 x8 x9 x10 x11 x12 x13 x14 x15 x16 : Option Addr × Nat × Nat} (h : Kp w0 (x0 :: x1 :: x2 :: x3 :: x4 :: x5 :: x6 :: x7 :: x8 :: x9 :: x10 :: x11 :: x12 :: x13 :: x14 :: x15 :: x16 :: cs) bs w) : Cel .u32 w x16.1 (dg 4294967296 x16.2.1 x16.2.2) := h.cel _ (.tail _ (.tail _ (.tail _ (.tail _ (.tail _ (.tail _ (.tail _ (.tail _ (.tail _ (.tail _ (.tail _ (.tail _ (.tail _ (.tail _ (.tail _ (.tail _ (.head _)))))))))))))))))
theorem Kp.c17 {w0 w : World} {cs : List (Option Addr × Nat × Nat)} {bs : List (Nat × Array Value)} {x0 x1 x2 x3 x4 x5 x6 x7 x8 x9 x10 x11 x12 x13 x14 x15 x16 x17 : Option Addr × Nat × Nat} (h : Kp w0 (x0 :: x1 :: x2 :: x3 :: x4 :: x5 :: x6 :: x7 :: x8 :: x9 :: x10 :: x11 :: x12 :: x13 :: x14 :: x15 :: x16 :: x17 :: cs) bs w) : Cel .u32 w x17.1 (dg 4294967296 x17.2.1 x17.2.2) := h.cel _ (.tail _ (.tail _ (.tail _ (.tail _ (.tail _ (.tail _ (.tail _ (.tail _ (.tail _ (.tail _ (.tail _ (.tail _ (.tail _ (.tail _ (.tail _ (.tail _ (.tail _ (.head _))))))))))))))))))
theorem Kp.b8 {w0 w : World} {cs : List (Option Addr × Nat × Nat)} {bs : List (Nat × Array Value)} {y0 y1 y2 y3 y4 y5 y6 y7 y8 : Nat × Array Value} (h : Kp w0 cs (y0 :: y1 :: y2 :: y3 :: y4 :: y5 :: y6 :: y7 :: y8 :: bs) w) : Bk w y8.1 y8.2 := h.blk _ (.tail _ (.tail _ (.tail _ (.tail _ (.tail _ (.tail _ (.tail _ (.tail _ (.head _)))))))))
theorem Kp.b9 {w0 w : World} {cs : List (Option Addr × Nat × Nat)} {bs : List (Nat × Array Value)} {y0 y1 y2 y3 y4 y5 y6 y7 y8 y9 : Nat × Array Value} (h : Kp w0 cs (y0 :: y1 :: y2 :: y3 :: y4 :: y5 :: y6 :: y7 :: y8 :: y9 :: bs) w) : Bk w y9.1 y9.2 := h.blk _ (.tail _ (.tail _ (.tail _ (.tail _ (.tail _ (.tail _ (.tail _ (.tail _ (.tail _ (.head _))))))))))
theorem Kp.b10 {w0 w : World} {cs : List (Option Addr × Nat × Nat)} {bs : List (Nat × Array Value)} {y0 y1 y2 y3 y4 y5 y6 y7 y8 y9 y10 : Nat × Array Value} (h : Kp w0 cs (y0 :: y1 :: y2 :: y3 :: y4 :: y5 :: y6 :: y7 :: y8 :: y9 :: y10 :: bs) w) : Bk w y10.1 y10.2 := h.blk _ (.tail _ (.tail _ (.tail _ (.tail _ (.tail _ (.tail _ (.tail _ (.tail _ (.tail _ (.tail _ (.head _)))))))))))
theorem Kp.b11 {w0 w : World} {cs : List (Option Addr × Nat × Nat)} {bs : List (Nat × Array Value)} {y0 y1 y2 y3 y4 y5 y6 y7 y8 y9 y10 y11 : Nat × Array Value} (h : Kp w0 cs (y0 :: y1 :: y2 :: y3 :: y4 :: y5 :: y6 :: y7 :: y8 :: y9 :: y10 :: y11 :: bs) w) : Bk w y11.1 y11.2 := h.blk _ (.tail _ (.tail _ (.tail _ (.tail _ (.tail _ (.tail _ (.tail _ (.tail _ (.tail _ (.tail _ (.tail _ (.head _))))))))))))
theorem Kp.b12 {w0 w : World} {cs : List (Option Addr × Nat × Nat)} {bs : List (Nat × Array Value)} {y0 y1 y2 y3 y4 y5 y6 y7 y8 y9 y10 y11 y12 : Nat × Array Value} (h : Kp w0 cs (y0 :: y1 :: y2 :: y3 :: y4 :: y5 :: y6 :: y7 :: y8 :: y9 :: y10 :: y11 :: y12 :: bs) w) : Bk w y12.1 y12.2 := h.blk _ (.tail _ (.tail _ (.tail _ (.tail _ (.tail _ (.tail _ (.tail _ (.tail _ (.tail _ (.tail _ (.tail _ (.tail _ (.head _)))))))))))))
theorem Kp.b13 {w0 w : World} {cs : List (Option Addr × Nat × Nat)} {bs : List (Nat × Array Value)} {y0 y1 y2 y3 y4 y5 y6 y7 y8 y9 y10 y11 y12 y13 : Nat × Array Value} (h : Kp w0 cs (y0 :: y1 :: y2 :: y3 :: y4 :: y5 :: y6 :: y7 :: y8 :: y9 :: y10 :: y11 :: y12 :: y13 :: bs) w) : Bk w y13.1 y13.2 := h.blk _ (.tail _ (.tail _ (.tail _ (.tail _ (.tail _ (.tail _ (.tail _ (.tail _ (.tail _ (.tail _ (.tail _ (.tail _ (.tail _ (.head _))))))))))))))
theorem Kp.b14 {w0 w : World} {cs : List (Option Addr × Nat × Nat)} {bs : List (Nat × Array Value)} {y0 y1 y2 y3 y4 y5 y6 y7 y8 y9 y10 y11 y12 y13 y14 : Nat × Array Value} (h : Kp w0 cs (y0 :: y1 :: y2 :: y3 :: y4 :: y5 :: y6 :: y7 :: y8 :: y9 :: y10 :: y11 :: y12 :: y13 :: y14 :: bs) w) : Bk w y14.1 y14.2 := h.blk _ (.tail _ (.tail _ (.tail _ (.tail _ (.tail _ (.tail _ (.tail _ (.tail _ (.tail _ (.tail _ (.tail _ (.tail _ (.tail _ (.tail _ (.head _)))))))))))))))
theorem Kp.b15 {w0 w : World} {cs : List (Option Addr × Nat × Nat)} {bs : List (Nat × Array Value)} {y0 y1 y2 y3 y4 y5 y6 y7 y8 y9 y10 y11 y12 y13 y14 y15 : Nat × Array Value} (h : Kp w0 cs (y0 :: y1 :: y2 :: y3 :: y4 :: y5 :: y6 :: y7 :: y8 :: y9 :: y10 :: y11 :: y12 :: y13 :: y14 :: y15 :: bs) w) : Bk w y15.1 y15.2 := h.blk _ (.tail _ (.tail _ (.tail _ (.tail _ (.tail _ (.tail _ (.tail _ (.tail _ (.tail _ (.tail _ (.tail _ (.tail _ (.tail _ (.tail _ (.tail _ (.head _))))))))))))))))

/-! ### Valid -/
def frB (n X m Y : Nat) : Bool := valB n X && valB m Y && decide (0 < Y) && (Nat.gcd X Y == 1)
theorem fr_low {n X m Y : Nat} (h : frB n X m Y = true) : valB n X = true ∧ valB m Y = true ∧ Low X Y := by
  unfold frB at h
  simp at h
  exact ⟨h.1.1.1, h.1.1.2, h.1.2, h.2⟩
theorem cmpI_zero {a b : Nat} : cmpI a b = 0 ↔ a = b := by
  constructor
  · intro h
    rcases Nat.lt_trichotomy a b with h1 | h1 | h1
    · rw [cmpI_lt h1] at h; cases h
    · exact h1
    · rw [cmpI_gt h1] at h; cases h
  · intro h; exact cmpI_eq h
set_option maxRecDepth 4000 in
set_option maxHeartbeats 1000000 in
theorem vd_no (A D : Option Addr) (n c m d X Y : Nat) (hX : Hid (X < 4294967296 ^ n)) (hY : Hid (Y < 4294967296 ^ m)) (hnc : n ≤ c) (hmd : m ≤ d) (hn : n ≤ 9223372036854775807) (hm : m ≤ 9223372036854775807) (hE : Hid (gcdE n X m Y = 2)) (w : World) (hI : Cel .u32 w A (dg 4294967296 n X)) (hJ : Cel .u32 w D (dg 4294967296 m Y)) :
    Calls Tryd.prog 18 #[.agg #[.slice A n c, .slice D m d]] w fun e w' => e = .returned (.bool false) ∧ Below w.heap.size w w' := by
  have S0 := Lib.hid (((Kp.start w).addc hJ).addc hI)
  clear hI hJ
  have cg := fun w hI hJ => gcd_any A D n c m d X Y hX hY hnc hmd hn hm w hI hJ
  rw [hE.out] at cg
  go_enter Tryd.func18, Tryd.ntmps18
  go_wp2_with (go_at_call 33; (with_reducible refine (cg _ (S0.out.al1 _ _).c0 (S0.out.al1 _ _).c1).mono ?_); rintro e w1 ⟨B, k, g, rfl, q, hb⟩; have S1 := Lib.hid ((S0.out.al1 _ _).below hb); clear hb)
  have S2 := Lib.hid (S1.out.al1 #[.slice B k g] 24)
  have x1 := S2.out.b0.one
  have x2 := S2.out.b1.fst
  have x3 := S2.out.b1.snd
  go_quiet (fail)
  go_wp2_with fail
  go_ret
  exact ⟨rfl, (S2.out.drewN nq).bel⟩
set_option maxRecDepth 4000 in
set_option maxHeartbeats 1000000 in
theorem vd_zero (A D : Option Addr) (n c d X : Nat) (hX : Hid (X < 4294967296 ^ n)) (hnc : n ≤ c) (hn : n ≤ 9223372036854775807) (hE : Hid (gcdE n X 0 0 = 0)) (w : World) (hI : Cel .u32 w A (dg 4294967296 n X)) :
    Calls Tryd.prog 18 #[.agg #[.slice A n c, .slice D 0 d]] w fun e w' => e = .returned (.bool false) ∧ Below w.heap.size w w' := by
  have S0 := Lib.hid ((Kp.start w).addc hI)
  clear hI
  have cg := fun w hI => gcd_any A D n c 0 d X 0 hX (Lib.hid (by omega)) hnc (by omega) hn (by omega) w hI (Cel.nil _ _ _)
  rw [hE.out] at cg
  have ci := isz_yes D d
  go_enter Tryd.func18, Tryd.ntmps18
  go_wp2_with (go_at_call 33; (with_reducible refine (cg _ (S0.out.al1 _ _).c0).mono ?_); rintro e w1 ⟨B, k, g, rfl, q, hb⟩; have S1 := Lib.hid ((S0.out.al1 _ _).below hb); clear hb)
  have S2 := Lib.hid (S1.out.al1 #[.slice B k g] 24)
  have x1 := S2.out.b0.one
  have x2 := S2.out.b1.fst
  have x3 := S2.out.b1.snd
  go_region_with (first | (go_at_call 34; (with_reducible refine (ci _).mono ?_); rintro e w2 ⟨rfl, hb⟩; have S3 := Lib.hid (S2.out.drew.below hb); have y1 := S3.out.b0.one; have y2 := S3.out.b1.fst; have y3 := S3.out.b1.snd; clear hb))
  all_goals go_wp2_with fail
  all_goals go_ret
  all_goals exact ⟨rfl, S3.out.bel⟩
set_option maxRecDepth 4000 in
set_option maxHeartbeats 2000000 in
theorem vd_pos (A D : Option Addr) (n c m d X Y : Nat) (R : Bool) (hX : Hid (X < 4294967296 ^ n)) (hY : Hid (Y < 4294967296 ^ m)) (hnc : n ≤ c) (hmd : m ≤ d) (ha : Hid (valB n X = true)) (hb : Hid (valB m Y = true)) (h0 : 0 < Y) (hR : Hid (R = (Nat.gcd X Y == 1))) (w : World) (hI : Cel .u32 w A (dg 4294967296 n X)) (hJ : Cel .u32 w D (dg 4294967296 m Y)) :
    Calls Tryd.prog 18 #[.agg #[.slice A n c, .slice D m d]] w fun e w' => e = .returned (.bool R) ∧ Below w.heap.size w w' := by
  have S0 := Lib.hid (((Kp.start w).addc hJ).addc hI)
  clear hI hJ
  have hn := (valB_iff.1 ha.out).1
  have hm := (valB_iff.1 hb.out).1
  obtain ⟨G, hG⟩ : ∃ G, G = Nat.gcd X Y := ⟨_, rfl⟩
  have hgl : nlen 4294967296 G ≤ 64 := by
    have h1 : nlen 4294967296 Y ≤ 64 := by have := (valB_iff.1 hb.out).2; omega
    exact Nat.le_trans (nlen_mono (by omega) (by rw [hG]; exact Nat.gcd_le_right _ h0)) h1
  have hm0 : 0 < m := by
    have := (valB_iff.1 hb.out).2
    have := nlen_pos (B := 4294967296) (by omega) h0; omega
  have eG : gcdV n X m Y = G ∧ gcdE n X m Y = 0 := by unfold gcdV gcdE gV gE; simp [ha.out, hb.out, hG]
  have cg := fun w hI hJ => gcd_any A D n c m d X Y hX hY hnc hmd (by omega) (by omega) w hI hJ
  rw [eG.1, eG.2] at cg
  obtain ⟨k, hk⟩ : ∃ k, k = nlen 4294967296 G := ⟨_, rfl⟩
  have hkv : valB k G = true := valB_iff.2 ⟨by omega, hk.symm⟩
  have hGl : Hid (G < 4294967296 ^ k) := Lib.hid (by rw [hk]; exact nlen_lt (by omega) G)
  obtain ⟨j, hj⟩ : ∃ j, j = nlen 4294967296 1 := ⟨_, rfl⟩
  have hj1 : j = 1 := by rw [hj]; exact nlen_eq (n := 0) (by omega) (by omega) (by omega)
  have hjv : valB j 1 = true := valB_iff.2 ⟨by omega, hj.symm⟩
  have h1l : Hid (1 < 4294967296 ^ j) := Lib.hid (by rw [hj1]; omega)
  obtain ⟨C, hC⟩ : ∃ C, Hid (C = cmpV k G j 1) := ⟨_, Lib.hid rfl⟩
  have hCR : (C == 0) = R := by
    rw [hC.out, cmpV_ok hkv hjv, hR.out, ← hG]
    by_cases h : G = 1
    · subst h; rw [cmpI_eq rfl]; rfl
    · rw [beq_eq_false_iff_ne.2 (mt cmpI_zero.1 h), beq_eq_false_iff_ne.2 h]
  have ci := isz_no D m d hm0 (by omega)
  have co : ∀ w, Calls Tryd.prog 39 #[.int .u64 1] w (OfP 1 w) := fun w => of_any 1 (by omega) w
  have cc : ∀ B g B2 g2 w, Cel .u32 w B (dg 4294967296 k G) → Cel .u32 w B2 (dg 4294967296 j 1) → Calls Tryd.prog 41 #[.agg #[.slice B k g], .agg #[.slice B2 j g2]] w fun e w' => e = .returned (.int .i64 C) ∧ Below w.heap.size w w' := fun B g B2 g2 w hI hJ => cmp_any B B2 k g j g2 G 1 C hGl h1l (by omega) (by omega) hC w hI hJ
  have HK := Lib.hid hk
  have HJ := Lib.hid hj
  clear hX hY ha hb h0 hR hG hgl hm0 eG hk hkv hGl hj hj1 hjv h1l hC
  go_enter Tryd.func18, Tryd.ntmps18
  go_wp2_with (go_at_call 33; (with_reducible refine (cg _ (S0.out.al1 _ _).c0 (S0.out.al1 _ _).c1).mono ?_); rintro e w1 ⟨B, k', g, rfl, q, hb⟩; obtain ⟨z, q2⟩ := num_at HK.out q; subst z; have S1 := Lib.hid (((S0.out.al1 _ _).below hb).addc q2); clear hb q q2)
  have S2 := Lib.hid (S1.out.al1 #[.slice B k g] 24)
  have x1 := S2.out.b0.one
  have x2 := S2.out.b1.fst
  have x3 := S2.out.b1.snd
  go_region_held3 (fun w' => w'.cell? ⟨w.heap.size, 0, none⟩ = some (.slice A n c) ∧ w'.cell? ⟨w.heap.size, 1, none⟩ = some (.slice D m d) ∧ w'.cell? ⟨w1.heap.size, 0, none⟩ = some (.slice B k g)) (go_keep)
    (first
      | (go_at_call 34; (with_reducible refine (ci _).mono ?_); rintro e w2 ⟨rfl, hb⟩; have S3 := Lib.hid (S2.out.drew.below hb); have y1 := S3.out.b0.one; have y2 := S3.out.b1.fst; have y3 := S3.out.b1.snd; clear hb)
      | (go_at_call 39; (with_reducible refine (co _).mono ?_); rintro e w3 ⟨B3, k3, g3, rfl, q, hb⟩; obtain ⟨z, q2⟩ := num_at HJ.out q; subst z; have S4 := Lib.hid ((S3.out.below hb).addc q2); have z1 := S4.out.b0.one; have z2 := S4.out.b1.fst; have z3 := S4.out.b1.snd; clear hb q q2)
      | (go_at_call 41; (with_reducible refine (cc _ _ _ _ _ S4.out.c1 S4.out.c0).mono ?_); rintro e w4 ⟨rfl, hb⟩; have S5 := Lib.hid (S4.out.below hb); have u1 := S5.out.b0.one; have u2 := S5.out.b1.fst; have u3 := S5.out.b1.snd; clear hb))
  go_wp2_with fail
  all_goals go_ret
  all_goals exact ⟨rfl, S5.out.bel⟩
theorem vd_any (A D : Option Addr) (n c m d X Y : Nat) (R : Bool) (hX : Hid (X < 4294967296 ^ n)) (hY : Hid (Y < 4294967296 ^ m)) (hnc : n ≤ c) (hmd : m ≤ d) (hn : n ≤ 9223372036854775807) (hm : m ≤ 9223372036854775807) (hR : Hid (R = frB n X m Y)) (w : World) (hI : Cel .u32 w A (dg 4294967296 n X)) (hJ : Cel .u32 w D (dg 4294967296 m Y)) :
    Calls Tryd.prog 18 #[.agg #[.slice A n c, .slice D m d]] w fun e w' => e = .returned (.bool R) ∧ Below w.heap.size w w' := by
  have hr := hR.out
  unfold frB at hr
  cases ha : valB n X with
  | false =>
    rw [ha] at hr
    obtain rfl : R = false := by rw [hr]; rfl
    exact vd_no A D n c m d X Y hX hY hnc hmd hn hm (Lib.hid (by unfold gcdE gE; rw [ha]; rfl)) w hI hJ
  | true =>
    cases hb : valB m Y with
    | false =>
      rw [ha, hb] at hr
      obtain rfl : R = false := by rw [hr]; rfl
      exact vd_no A D n c m d X Y hX hY hnc hmd hn hm (Lib.hid (by unfold gcdE gE; rw [ha, hb]; rfl)) w hI hJ
    | true =>
      rw [ha, hb] at hr
      by_cases h0 : Y = 0
      · subst h0
        obtain rfl := val_zero hb
        obtain rfl : R = false := by rw [hr]; rfl
        exact vd_zero A D n c d X hX hnc hn (Lib.hid (by unfold gcdE gE; rw [ha, hb]; rfl)) w hI
      · exact vd_pos A D n c m d X Y R hX hY hnc hmd (Lib.hid ha) (Lib.hid hb) (by omega) (Lib.hid (by
          rw [hr, decide_eq_true (show 0 < Y by omega)]
          simp)) w hI hJ

/-! ### Of -/
def ofA (x y : Int) : Ans := if x < 0 ∨ y < 0 then no 2 else mkA true true x.toNat y.toNat
set_option maxRecDepth 4000 in
set_option maxHeartbeats 1000000 in
theorem fof_neg (x y : Int) (h : x < 0 ∨ y < 0) (w : World) : Calls Tryd.prog 16 #[.int .i64 x, .int .i64 y] w (FrP (no 2) w) := by
  have S := Lib.hid ((Kp.start w).al1 #[.slice none 0 0, .slice none 0 0] 28)
  by_cases hx : x < 0
  · go_enter Tryd.func16, Tryd.ntmps16
    go_wp2_with fail
    refine bodyPost_ret (v := .tuple #[.agg #[.slice none 0 0, .slice none 0 0], .int .i64 2]) (by simp [results, Tryd.results16, go_sem, S.out.b0.fst, S.out.b0.snd]) rfl ?_
    exact ⟨none, 0, 0, none, 0, 0, rfl, Num.nil _, Num.nil _, S.out.bel⟩
  · have hy : y < 0 := by omega
    go_enter Tryd.func16, Tryd.ntmps16
    go_wp2_with fail
    refine bodyPost_ret (v := .tuple #[.agg #[.slice none 0 0, .slice none 0 0], .int .i64 2]) (by simp [results, Tryd.results16, go_sem, S.out.b0.fst, S.out.b0.snd]) rfl ?_
    exact ⟨none, 0, 0, none, 0, 0, rfl, Num.nil _, Num.nil _, S.out.bel⟩
theorem num_lt {w : World} {A : Option Addr} {n c v : Nat} (h : Num w A n c v) : v < 4294967296 ^ n := by rw [h.1]; exact nlen_lt (by omega) v
theorem num_val {w : World} {A : Option Addr} {n c v : Nat} (h : Num w A n c v) (hv : nlen 4294967296 v ≤ 64) : valB n v = true := valB_iff.2 ⟨by rw [h.1]; exact hv, h.1.symm⟩
theorem len_word {v : Nat} (h : v < 18446744073709551616) : nlen 4294967296 v ≤ 2 := nlen_le (by omega) h
set_option maxRecDepth 4000 in
set_option maxHeartbeats 1000000 in
theorem fof_ok (x y : Nat) (hx : x ≤ 9223372036854775807) (hy : y ≤ 9223372036854775807) (w : World) : Calls Tryd.prog 16 #[.int .i64 (x : Int), .int .i64 (y : Int)] w (FrP (mkA true true x y) w) := by
  have S := Lib.hid ((Kp.start w).al1 #[.slice none 0 0, .slice none 0 0] 28)
  have wx : IntKind.u64.wrap (x : Int) = (x : Int) := IntWalk.u64_in _ (by omega)
  have wy : IntKind.u64.wrap (y : Int) = (y : Int) := IntWalk.u64_in _ (by omega)
  have c1 := fun w => of_any x (by omega) w
  have c2 := fun w => of_any y (by omega) w
  obtain ⟨n, hn⟩ : ∃ n, n = nlen 4294967296 x := ⟨_, rfl⟩
  obtain ⟨m, hm⟩ : ∃ n, n = nlen 4294967296 y := ⟨_, rfl⟩
  have ln := len_word (v := x) (by omega)
  have lm := len_word (v := y) (by omega)
  rw [← hn] at ln
  rw [← hm] at lm
  have c3 : ∀ A c D d w, n ≤ c → m ≤ d → Cel .u32 w A (dg 4294967296 n x) → Cel .u32 w D (dg 4294967296 m y) → Calls Tryd.prog 13 #[.agg #[.slice A n c], .agg #[.slice D m d]] w (FrP (mkA true true x y) w) := fun A c D d w hc hd hI hJ => by
    have := make_any A D n c m d x y (Lib.hid (by rw [hn]; exact nlen_lt (by omega) x)) (Lib.hid (by rw [hm]; exact nlen_lt (by omega) y)) hc hd (by omega) (by omega) w hI hJ
    rwa [show valB n x = true from valB_iff.2 ⟨by omega, hn.symm⟩, show valB m y = true from valB_iff.2 ⟨by omega, hm.symm⟩] at this
  have HN := Lib.hid hn
  have HM := Lib.hid hm
  clear hn hm ln lm
  have x0 : ¬ (x : Int) < 0 := by omega
  have y0 : ¬ (y : Int) < 0 := by omega
  go_enter Tryd.func16, Tryd.ntmps16
  go_wp2_with (first
    | (go_at_call 39; first
      | ((with_reducible refine (c1 _).mono ?_); rintro e w1 ⟨A, n', c, rfl, q, hb⟩; obtain ⟨z, q2⟩ := num_at HN.out q; subst z; have hc := q.2.1; have S1 := Lib.hid ((S.out.below hb).addc q2); clear hb q q2)
      | ((with_reducible refine (c2 _).mono ?_); rintro e w2 ⟨D, m', d, rfl, q, hb⟩; obtain ⟨z, q2⟩ := num_at HM.out q; subst z; have hd := q.2.1; have S2 := Lib.hid ((S1.out.below hb).addc q2); clear hb q q2))
    | (go_at_call 13; (with_reducible refine (c3 _ _ _ _ _ hc hd S2.out.c1 S2.out.c0).mono ?_); rintro e w3 ⟨A3, n3, d3, B3, m3, g3, rfl, q1, q2, hb⟩; have S3 := Lib.hid (S2.out.below hb); have Q1 := Lib.hid q1; have Q2 := Lib.hid q2; have x1 := S3.out.b0.fst; have x2 := S3.out.b0.snd; have f1 := S3.out.b0.free 0; have f2 := S3.out.b0.free 1; clear hb q1 q2))
  have xs := two_set S3.out.b0 (.slice A3 n3 d3) (.slice B3 m3 g3)
  refine bodyPost_ret (v := .tuple #[.agg #[.slice A3 n3 d3, .slice B3 m3 g3], .int .i64 (mkA true true x y).1]) (by simp [results, Tryd.results16, go_sem, xs.1, xs.2]) rfl ?_
  exact frp_set S3.out.b0 Q1.out Q2.out S3.out.bel (Nat.le_refl _) _ _
theorem fof_any (x y : Int) (hx : x ≤ 9223372036854775807) (hy : y ≤ 9223372036854775807) (w : World) : Calls Tryd.prog 16 #[.int .i64 x, .int .i64 y] w (FrP (ofA x y) w) := by
  by_cases h : x < 0 ∨ y < 0
  · rw [show ofA x y = no 2 by unfold ofA; rw [if_pos h]]
    exact fof_neg x y h w
  · obtain ⟨X, rfl⟩ := Int.eq_ofNat_of_zero_le (show 0 ≤ x by omega)
    obtain ⟨Y, rfl⟩ := Int.eq_ofNat_of_zero_le (show 0 ≤ y by omega)
    rw [show ofA (X : Int) (Y : Int) = mkA true true X Y by unfold ofA; rw [if_neg h]; rfl]
    exact fof_ok X Y (by omega) (by omega) w
end Go.Proofs.YtinceponggpioaaDoor.frB

/-
  What a walk carries along; contracts of Valid, Of of frac.
-/
import Derived.Test.YtjblfmgiafdefaaFrA
import Derived.Test.YtjblfmgiafdefaaNatUi
import Derived.Deep.RegionHeld3
namespace Go.Proofs.Ytjblfmgiafdefaa.frB
open Go.RowKit
open Go.Proofs.Ytjblfmgiafdefaa.natM Go.Proofs.Ytjblfmgiafdefaa.natA Go.Proofs.Ytjblfmgiafdefaa.natB Go.Proofs.Ytjblfmgiafdefaa.natC Go.Proofs.Ytjblfmgiafdefaa.natD Go.Proofs.Ytjblfmgiafdefaa.natE Go.Proofs.Ytjblfmgiafdefaa.natF Go.Proofs.Ytjblfmgiafdefaa.natG Go.Proofs.Ytjblfmgiafdefaa.natH Go.Proofs.Ytjblfmgiafdefaa.natI Go.Proofs.Ytjblfmgiafdefaa.natJ Go.Proofs.Ytjblfmgiafdefaa.natX Go.Proofs.Ytjblfmgiafdefaa.natUi Go.Proofs.Ytjblfmgiafdefaa.frM Go.Proofs.Ytjblfmgiafdefaa.frA
set_option linter.unusedVariables false

/-- numbers and blocks that stand in a world that has grown since w0 -/
structure Kp (w0 : World) (cs : List (Option Addr × Nat × Nat)) (bs : List (Nat × Array Value)) (w : World) : Prop where
  bel : Below w0.heap.size w0 w
  cel : ∀ x ∈ cs, Cel .u32 w x.1 (dg 4294967296 x.2.1 x.2.2)
  blk : ∀ x ∈ bs, Bk w x.1 x.2
section
variable {w0 w w1 : World} {cs : List (Option Addr × Nat × Nat)} {bs : List (Nat × Array Value)} {x0 x1 x2 x3 x4 x5 x6 x7 : Option Addr × Nat × Nat} {y0 y1 y2 y3 y4 y5 : Nat × Array Value}
theorem Kp.start (w : World) : Kp w [] [] w := ⟨Below.refl _ _, fun _ h => by simp at h, fun _ h => by simp at h⟩
theorem Kp.below (h : Kp w0 cs bs w) (hb : Below w.heap.size w w1) : Kp w0 cs bs w1 := ⟨below_on h.bel hb, fun x hx => (h.cel x hx).below hb, fun x hx => (h.blk x hx).below hb⟩
theorem Kp.alloc (h : Kp w0 cs bs w) (o : Obj) : Kp w0 cs bs (w.alloc o) := h.below (below_new _ _)
theorem Kp.drewN (h : Kp w0 cs bs w) (k : Nat) : Kp w0 cs bs (w.drewN k) := ⟨bel_drewN h.bel k, h.cel, h.blk⟩
theorem Kp.drew (h : Kp w0 cs bs w) : Kp w0 cs bs w.drew := ⟨bel_drew h.bel, h.cel, h.blk⟩
theorem Kp.addc {A : Option Addr} {n X : Nat} (h : Kp w0 cs bs w) (hc : Cel .u32 w A (dg 4294967296 n X)) : Kp w0 ((A, n, X) :: cs) bs w :=
  ⟨h.bel, fun x hx => by
    rcases List.mem_cons.1 hx with rfl | hx
    · exact hc
    · exact h.cel x hx, h.blk⟩
theorem Kp.addb {b : Nat} {v : Array Value} (h : Kp w0 cs bs w) (hc : Bk w b v) : Kp w0 cs ((b, v) :: bs) w :=
  ⟨h.bel, h.cel, fun x hx => by
    rcases List.mem_cons.1 hx with rfl | hx
    · exact hc
    · exact h.blk x hx⟩
/-- a new block -/
theorem Kp.al (h : Kp w0 cs bs w) {b : Nat} (hb : b = w.heap.size) (v : Array Value) (T : TypeId) : Kp w0 cs ((b, v) :: bs) (w.alloc (.cells v T)) := by
  subst hb; exact (h.alloc _).addb (Bk.n0 _ _ _)
theorem Kp.al1 (h : Kp w0 cs bs w) (v : Array Value) (T : TypeId) : Kp w0 cs ((w.heap.size, v) :: bs) (w.alloc (.cells v T)) := h.al rfl v T
theorem Kp.al2 (h : Kp w0 cs bs w) (v v2 : Array Value) (T T2 : TypeId) : Kp w0 cs ((w.heap.size + 1, v2) :: (w.heap.size, v) :: bs) ((w.alloc (.cells v T)).alloc (.cells v2 T2)) := (h.al1 v T).al (by simp) v2 T2
theorem Kp.al3 (h : Kp w0 cs bs w) (v v2 v3 : Array Value) (T T2 T3 : TypeId) : Kp w0 cs ((w.heap.size + 1 + 1, v3) :: (w.heap.size + 1, v2) :: (w.heap.size, v) :: bs) (((w.alloc (.cells v T)).alloc (.cells v2 T2)).alloc (.cells v3 T3)) := (h.al2 v v2 T T2).al (by simp) v3 T3
theorem Kp.c0 (h : Kp w0 (x0 :: cs) bs w) : Cel .u32 w x0.1 (dg 4294967296 x0.2.1 x0.2.2) := h.cel _ (.head _)
theorem Kp.c1 (h : Kp w0 (x0 :: x1 :: cs) bs w) : Cel .u32 w x1.1 (dg 4294967296 x1.2.1 x1.2.2) := h.cel _ (.tail _ (.head _))
theorem Kp.c2 (h : Kp w0 (x0 :: x1 :: x2 :: cs) bs w) : Cel .u32 w x2.1 (dg 4294967296 x2.2.1 x2.2.2) := h.cel _ (.tail _ (.tail _ (.head _)))
theorem Kp.c3 (h : Kp w0 (x0 :: x1 :: x2 :: x3 :: cs) bs w) : Cel .u32 w x3.1 (dg 4294967296 x3.2.1 x3.2.2) := h.cel _ (.tail _ (.tail _ (.tail _ (.head _))))
theorem Kp.c4 (h : Kp w0 (x0 :: x1 :: x2 :: x3 :: x4 :: cs) bs w) : Cel .u32 w x4.1 (dg 4294967296 x4.2.1 x4.2.2) := h.cel _ (.tail _ (.tail _ (.tail _ (.tail _ (.head _)))))
theorem Kp.c5 (h : Kp w0 (x0 :: x1 :: x2 :: x3 :: x4 :: x5 :: cs) bs w) : Cel .u32 w x5.1 (dg 4294967296 x5.2.1 x5.2.2) := h.cel _ (.tail _ (.tail _ (.tail _ (.tail _ (.tail _ (.head _))))))
theorem Kp.c6 (h : Kp w0 (x0 :: x1 :: x2 :: x3 :: x4 :: x5 :: x6 :: cs) bs w) : Cel .u32 w x6.1 (dg 4294967296 x6.2.1 x6.2.2) := h.cel _ (.tail _ (.tail _ (.tail _ (.tail _ (.tail _ (.tail _ (.head _)))))))
theorem Kp.b0 (h : Kp w0 cs (y0 :: bs) w) : Bk w y0.1 y0.2 := h.blk _ (.head _)
theorem Kp.b1 (h : Kp w0 cs (y0 :: y1 :: bs) w) : Bk w y1.1 y1.2 := h.blk _ (.tail _ (.head _))
theorem Kp.b2 (h : Kp w0 cs (y0 :: y1 :: y2 :: bs) w) : Bk w y2.1 y2.2 := h.blk _ (.tail _ (.tail _ (.head _)))
theorem Kp.b3 (h : Kp w0 cs (y0 :: y1 :: y2 :: y3 :: bs) w) : Bk w y3.1 y3.2 := h.blk _ (.tail _ (.tail _ (.tail _ (.head _))))
theorem Kp.b4 (h : Kp w0 cs (y0 :: y1 :: y2 :: y3 :: y4 :: bs) w) : Bk w y4.1 y4.2 := h.blk _ (.tail _ (.tail _ (.tail _ (.tail _ (.head _)))))
theorem Kp.b5 (h : Kp w0 cs (y0 :: y1 :: y2 :: y3 :: y4 :: y5 :: bs) w) : Bk w y5.1 y5.2 := h.blk _ (.tail _ (.tail _ (.tail _ (.tail _ (.tail _ (.head _))))))
theorem Kp.b6 {y6 : Nat × Array Value} (h : Kp w0 cs (y0 :: y1 :: y2 :: y3 :: y4 :: y5 :: y6 :: bs) w) : Bk w y6.1 y6.2 := h.blk _ (.tail _ (.tail _ (.tail _ (.tail _ (.tail _ (.tail _ (.head _)))))))
theorem Kp.b7 {y6 y7 : Nat × Array Value} (h : Kp w0 cs (y0 :: y1 :: y2 :: y3 :: y4 :: y5 :: y6 :: y7 :: bs) w) : Bk w y7.1 y7.2 := h.blk _ (.tail _ (.tail _ (.tail _ (.tail _ (.tail _ (.tail _ (.tail _ (.head _))))))))
end

theorem Kp.c7 {w0 w : World} {cs : List (Option Addr × Nat × Nat)} {bs : List (Nat × Array Value)} {x0 x1 x2 x3 x4 x5 x6 x7 : Option Addr × Nat × Nat} (h : Kp w0 (x0 :: x1 :: x2 :: x3 :: x4 :: x5 :: x6 :: x7 :: cs) bs w) : Cel .u32 w x7.1 (dg 4294967296 x7.2.1 x7.2.2) := h.cel _ (.tail _ (.tail _ (.tail _ (.tail _ (.tail _ (.tail _ (.tail _ (.head _))))))))
theorem Kp.c8 {w0 w : World} {cs : List (Option Addr × Nat × Nat)} {bs : List (Nat × Array Value)} {x0 x1 x2 x3 x4 x5 x6 x7 x8 : Option Addr × Nat × Nat} (h : Kp w0 (x0 :: x1 :: x2 :: x3 :: x4 :: x5 :: x6 :: x7 :: x8 :: cs) bs w) : Cel .u32 w x8.1 (dg 4294967296 x8.2.1 x8.2.2) := h.cel _ (.tail _ (.tail _ (.tail _ (.tail _ (.tail _ (.tail _ (.tail _ (.tail _ (.head _)))))))))
theorem Kp.c9 {w0 w : World} {cs : List (Option Addr × Nat × Nat)} {bs : List (Nat × Array Value)} {x0 x1 x2 x3 x4 x5 x6 x7 x8 x9 : Option Addr × Nat × Nat} (h : Kp w0 (x0 :: x1 :: x2 :: x3 :: x4 :: x5 :: x6 :: x7 :: x8 :: x9 :: cs) bs w) : Cel .u32 w x9.1 (dg 4294967296 x9.2.1 x9.2.2) := h.cel _ (.tail _ (.tail _ (.tail _ (.tail _ (.tail _ (.tail _ (.tail _ (.tail _ (.tail _ (.head _))))))))))
theorem Kp.c10 {w0 w : World} {cs : List (Option Addr × Nat × Nat)} {bs : List (Nat × Array Value)} {x0 x1 x2 x3 x4 x5 x6 x7 x8 x9 x10 : Option Addr × Nat × Nat} (h : Kp w0 (x0 :: x1 :: x2 :: x3 :: x4 :: x5 :: x6 :: x7 :: x8 :: x9 :: x10 :: cs) bs w) : Cel .u32 w x10.1 (dg 4294967296 x10.2.1 x10.2.2) := h.cel _ (.tail _ (.tail _ (.tail _ (.tail _ (.tail _ (.tail _ (.tail _ (.tail _ (.tail _ (.tail _ (.head _)))))))))))
theorem Kp.c11 {w0 w : World} {cs : List (Option Addr × Nat × Nat)} {bs : List (Nat × Array Value)} {x0 x1 x2 x3 x4 x5 x6 x7 x8 x9 x10 x11 : Option Addr × Nat × Nat} (h : Kp w0 (x0 :: x1 :: x2 :: x3 :: x4 :: x5 :: x6 :: x7 :: x8 :: x9 :: x10 :: x11 :: cs) bs w) : Cel .u32 w x11.1 (dg 4294967296 x11.2.1 x11.2.2) := h.cel _ (.tail _ (.tail _ (.tail _ (.tail _ (.tail _ (.tail _ (.tail _ (.tail _ (.tail _ (.tail _ (.tail _ (.head _))))))))))))
theorem Kp.c12 {w0 w : World} {cs : List (Option Addr × Nat × Nat)} {bs : List (Nat × Array Value)} {x0 x1 x2 x3 x4 x5 x6 x7 x8 x9 x10 x11 x12 : Option Addr × Nat × Nat} (h : Kp w0 (x0 :: x1 :: x2 :: x3 :: x4 :: x5 :: x6 :: x7 :: x8 :: x9 :: x10 :: x11 :: x12 :: cs) bs w) : Cel .u32 w x12.1 (dg 4294967296 x12.2.1 x12.2.2) := h.cel _ (.tail _ (.tail _ (.tail _ (.tail _ (.tail _ (.tail _ (.tail _ (.tail _ (.tail _ (.tail _ (.tail _ (.tail _ (.head _)))))))))))))
theorem Kp.c13 {w0 w : World} {cs : List (Option Addr × Nat × Nat)} {bs : List (Nat × Array Value)} {x0 x1 x2 x3 x4 x5 x6 x7 x8 x9 x10 x11 x12 x13 : Option Addr × Nat × Nat} (h : Kp w0 (x0 :: x1 :: x2 :: x3 :: x4 :: x5 :: x6 :: x7 :: x8 :: x9 :: x10 :: x11 :: x12 :: x13 :: cs) bs w) : Cel .u32 w x13.1 (dg 4294967296 x13.2.1 x13.2.2) := h.cel _ (.tail _ (.tail _ (.tail _ (.tail _ (.tail _ (.tail _ (.tail _ (.tail _ (.tail _ (.tail _ (.tail _ (.tail _ (.tail _ (.head _))))))))))))))
theorem Kp.c14 {w0 w : World} {cs : List (Option Addr × Nat × Nat)} {bs : List (Nat × Array Value)} {x0 x1 x2 x3 x4 x5 x6 x7 x8 x9 x10 x11 x12 x13 x14 : Option Addr × Nat × Nat} (h : Kp w0 (x0 :: x1 :: x2 :: x3 :: x4 :: x5 :: x6 :: x7 :: x8 :: x9 :: x10 :: x11 :: x12 :: x13 :: x14 :: cs) bs w) : Cel .u32 w x14.1 (dg 4294967296 x14.2.1 x14.2.2) := h.cel _ (.tail _ (.tail _ (.tail _ (.tail _ (.tail _ (.tail _ (.tail _ (.tail _ (.tail _ (.tail _ (.tail _ (.tail _ (.tail _ (.tail _ (.head _)))))))))))))))
theorem Kp.c15 {w0 w : World} {cs : List (Option Addr × Nat × Nat)} {bs : List (Nat × Array Value)} {x0 x1 x2 x3 x4 x5 x6 x7 x8 x9 x10 x11 x12 x13 x14 x15 : Option Addr × Nat × Nat} (h : Kp w0 (x0 :: x1 :: x2 :: x3 :: x4 :: x5 :: x6 :: x7 :: x8 :: x9 :: x10 :: x11 :: x12 :: x13 :: x14 :: x15 :: cs) bs w) : Cel .u32 w x15.1 (dg 4294967296 x15.2.1 x15.2.2) := h.cel _ (.tail _ (.tail _ (.tail _ (.tail _ (.tail _ (.tail _ (.tail _ (.tail _ (.tail _ (.tail _ (.tail _ (.tail _ (.tail _ (.tail _ (.tail _ (.head _))))))))))))))))
theorem Kp.c16 {w0 w : World} {cs : List (Option Addr × Nat × Nat)} {bs : List (Nat × Array Value)} {x0 x1 x2 x3 x4 x5 x6 x7 x8 x9 x10 x11 x12 x13 x14 x15 x16 : Option Addr × Nat × Nat} (h : Kp w0 (x0 :: x1 :: x2 :: x3 :: x4 :: x5 :: x6 :: x7 :: x8 :: x9 :: x10 :: x11 :: x12 :: x13 :: x14 :: x15 :: x16 :: cs) bs w) : Cel .u32 w x16.1 (dg 4294967296 x16.2.1 x16.2.2) := h.cel _ (.tail _ (.tail _ (.tail _ (.tail _ (.tail _ (.tail _ (.tail _ (.tail _ (.tail _ (.tail _ (.tail _ (.tail _ (.tail _ (.tail _ (.tail _ (.tail _ (.head _)))))))))))))))))
theorem Kp.c17 {w0 w : World} {cs : List (Option Addr × Nat × Nat)} {bs : List (Nat × Array Value)} {x0 x1 x2 x3 x4 x5 x6 x7 x8 x9 x10 x11 x12 x13 x14 x15 x16 x17 : Option Addr × Nat × Nat} (h : Kp w0 (x0 :: x1 :: x2 :: x3 :: x4 :: x5 :: x6 :: x7 :: x8 :: x9 :: x10 :: x11 :: x12 :: x13 :: x14 :: x15 :: x16 :: x17 :: cs) bs w) : Cel .u32 w x17.1 (dg 4294967296 x17.2.1 x17.2.2) := h.cel _ (.tail _ (.tail _ (.tail _ (.tail _ (.tail _ (.tail _ (.tail _ (.tail _ (.tail _ (.tail _ (.tail _ (.tail _ (.tail _ (.tail _ (.tail _ (.tail _ (.tail _ (.head _))))))))))))))))))
theorem Kp.b8 {w0 w : World} {cs : List (Option Addr × Nat × Nat)} {bs : List (Nat × Array Value)} {y0 y1 y2 y3 y4 y5 y6 y7 y8 : Nat × Array Value} (h : Kp w0 cs (y0 :: y1 :: y2 :: y3 :: y4 :: y5 :: y6 :: y7 :: y8 :: bs) w) : Bk w y8.1 y8.2 := h.blk _ (.tail _ (.tail _ (.tail _ (.tail _ (.tail _ (.tail _ (.tail _ (.tail _ (.head _)))))))))
theorem Kp.b9 {w0 w : World} {cs : List (Option Addr × Nat × Nat)} {bs : List (Nat × Array Value)} {y0 y1 y2 y3 y4 y5 y6 y7 y8 y9 : Nat × Array Value} (h : Kp w0 cs (y0 :: y1 :: y2 :: y3 :: y4 :: y5 :: y6 :: y7 :: y8 :: y9 :: bs) w) : Bk w y9.1 y9.2 := h.blk _ (.tail _ (.tail _ (.tail _ (.tail _ (.tail _ (.tail _ (.tail _ (.tail _ (.tail _ (.head _))))))))))
theorem Kp.b10 {w0 w : World} {cs : List (Option Addr × Nat × Nat)} {bs : List (Nat × Array Value)} {y0 y1 y2 y3 y4 y5 y6 y7 y8 y9 y10 : Nat × Array Value} (h : Kp w0 cs (y0 :: y1 :: y2 :: y3 :: y4 :: y5 :: y6 :: y7 :: y8 :: y9 :: y10 :: bs) w) : Bk w y10.1 y10.2 := h.blk _ (.tail _ (.tail _ (.tail _ (.tail _ (.tail _ (.tail _ (.tail _ (.tail _ (.tail _ (.tail _ (.head _)))))))))))
theorem Kp.b11 {w0 w : World} {cs : List (Option Addr × Nat × Nat)} {bs : List (Nat × Array Value)} {y0 y1 y2 y3 y4 y5 y6 y7 y8 y9 y10 y11 : Nat × Array Value} (h : Kp w0 cs (y0 :: y1 :: y2 :: y3 :: y4 :: y5 :: y6 :: y7 :: y8 :: y9 :: y10 :: y11 :: bs) w) : Bk w y11.1 y11.2 := h.blk _ (.tail _ (.tail _ (.tail _ (.tail _ (.tail _ (.tail _ (.tail _ (.tail _ (.tail _ (.tail _ (.tail _ (.head _))))))))))))
theorem Kp.b12 {w0 w : World} {cs : List (Option Addr × Nat × Nat)} {bs : List (Nat × Array Value)} {y0 y1 y2 y3 y4 y5 y6 y7 y8 y9 y10 y11 y12 : Nat × Array Value} (h : Kp w0 cs (y0 :: y1 :: y2 :: y3 :: y4 :: y5 :: y6 :: y7 :: y8 :: y9 :: y10 :: y11 :: y12 :: bs) w) : Bk w y12.1 y12.2 := h.blk _ (.tail _ (.tail _ (.tail _ (.tail _ (.tail _ (.tail _ (.tail _ (.tail _ (.tail _ (.tail _ (.tail _ (.tail _ (.head _)))))))))))))
theorem Kp.b13 {w0 w : World} {cs : List (Option Addr × Nat × Nat)} {bs : List (Nat × Array Value)} {y0 y1 y2 y3 y4 y5 y6 y7 y8 y9 y10 y11 y12 y13 : Nat × Array Value} (h : Kp w0 cs (y0 :: y1 :: y2 :: y3 :: y4 :: y5 :: y6 :: y7 :: y8 :: y9 :: y10 :: y11 :: y12 :: y13 :: bs) w) : Bk w y13.1 y13.2 := h.blk _ (.tail _ (.tail _ (.tail _ (.tail _ (.tail _ (.tail _ (.tail _ (.tail _ (.tail _ (.tail _ (.tail _ (.tail _ (.tail _ (.head _))))))))))))))
theorem Kp.b14 {w0 w : World} {cs : List (Option Addr × Nat × Nat)} {bs : List (Nat × Array Value)} {y0 y1 y2 y3 y4 y5 y6 y7 y8 y9 y10 y11 y12 y13 y14 : Nat × Array Value} (h : Kp w0 cs (y0 :: y1 :: y2 :: y3 :: y4 :: y5 :: y6 :: y7 :: y8 :: y9 :: y10 :: y11 :: y12 :: y13 :: y14 :: bs) w) : Bk w y14.1 y14.2 := h.blk _ (.tail _ (.tail _ (.tail _ (.tail _ (.tail _ (.tail _ (.tail _ (.tail _ (.tail _ (.tail _ (.tail _ (.tail _ (.tail _ (.tail _ (.head _)))))))))))))))
theorem Kp.b15 {w0 w : World} {cs : List (Option Addr × Nat × Nat)} {bs : List (Nat × Array Value)} {y0 y1 y2 y3 y4 y5 y6 y7 y8 y9 y10 y11 y12 y13 y14 y15 : Nat × Array Value} (h : Kp w0 cs (y0 :: y1 :: y2 :: y3 :: y4 :: y5 :: y6 :: y7 :: y8 :: y9 :: y10 :: y11 :: y12 :: y13 :: y14 :: y15 :: bs) w) : Bk w y15.1 y15.2 := h.blk _ (.tail _ (.tail _ (.tail _ (.tail _ (.tail _ (.tail _ (.tail _ (.tail _ (.tail _ (.tail _ (.tail _ (.tail _ (.tail _ (.tail _ (.tail _ (.head _))))))))))))))))

/-! ### Valid -/
def frB (n X m Y : Nat) : Bool := valB n X && valB m Y && decide (0 < Y) && (Nat.gcd X Y == 1)
theorem fr_low {n X m Y : Nat} (h : frB n X m Y = true) : valB n X = true ∧ valB m Y = true ∧ Low X Y := by
  unfold frB at h
  simp at h
  exact ⟨h.1.1.1, h.1.1.2, h.1.2, h.2⟩
theorem cmpI_zero {a b : Nat} : cmpI a b = 0 ↔ a = b := by
  constructor
  · intro h
    rcases Nat.lt_trichotomy a b with h1 | h1 | h1
    · rw [cmpI_lt h1] at h; cases h
    · exact h1
    · rw [cmpI_gt h1] at h; cases h
  · intro h; exact cmpI_eq h
/-! ### Of -/
def ofA (x y : Int) : Ans := if x < 0 ∨ y < 0 then no 2 else mkA true true x.toNat y.toNat
theorem num_lt {w : World} {A : Option Addr} {n c v : Nat} (h : Num w A n c v) : v < 4294967296 ^ n := by rw [h.1]; exact nlen_lt (by omega) v
theorem num_val {w : World} {A : Option Addr} {n c v : Nat} (h : Num w A n c v) (hv : nlen 4294967296 v ≤ 64) : valB n v = true := valB_iff.2 ⟨by rw [h.1]; exact hv, h.1.symm⟩
theorem len_word {v : Nat} (h : v < 18446744073709551616) : nlen 4294967296 v ≤ 2 := nlen_le (by omega) h
end Go.Proofs.Ytjblfmgiafdefaa.frB

/-
  The reference's Add, Sub, Mul.
-/
import Derived.Test.YtinceponggpioaaDoorNatX
namespace Go.Proofs.YtinceponggpioaaDoor.natY
open Go.RowKit
open Go.Proofs.YtinceponggpioaaDoor.natM Go.Proofs.YtinceponggpioaaDoor.natA Go.Proofs.YtinceponggpioaaDoor.natB Go.Proofs.YtinceponggpioaaDoor.natC Go.Proofs.YtinceponggpioaaDoor.natD Go.Proofs.YtinceponggpioaaDoor.natE Go.Proofs.YtinceponggpioaaDoor.natF Go.Proofs.YtinceponggpioaaDoor.natG Go.Proofs.YtinceponggpioaaDoor.natH Go.Proofs.YtinceponggpioaaDoor.natI Go.Proofs.YtinceponggpioaaDoor.natJ Go.Proofs.YtinceponggpioaaDoor.natR Go.Proofs.YtinceponggpioaaDoor.natS Go.Proofs.YtinceponggpioaaDoor.natT Go.Proofs.YtinceponggpioaaDoor.natU Go.Proofs.YtinceponggpioaaDoor.natV Go.Proofs.YtinceponggpioaaDoor.natW Go.Proofs.YtinceponggpioaaDoor.natX
set_option linter.unusedVariables false

theorem hal_cap {w : World} {A : Option Addr} {n c v : Nat} (h : Hal w A n c v) : n ≤ c := h.2.1
theorem hal_alloc {w : World} {A : Option Addr} {n c v : Nat} (h : Hal w A n c v) (o : Obj) : Hal (w.alloc o) A n c v := h.below (below_new _ _)
/-- what a call of two numbers holds: its two boxes, the box of its result, its arguments -/
structure St (w : World) (A D : Option Addr) (n c m d X Y : Nat) (W : World) : Prop where
  bel : Below w.heap.size w W
  ba : Bx W w.heap.size (.slice A n c)
  bb : Bx W (w.heap.size + 1) (.slice D m d)
  br : Bx W (w.heap.size + 1 + 1) (.slice none 0 0)
  cI : Cel .u32 W A (dg 4294967296 n X)
  cJ : Cel .u32 W D (dg 4294967296 m Y)
section
variable {w W W1 : World} {A D : Option Addr} {n c m d X Y : Nat}
theorem St.start3 (hI : Cel .u32 w A (dg 4294967296 n X)) (hJ : Cel .u32 w D (dg 4294967296 m Y)) {T : TypeId} :
    St w A D n c m d X Y (((w.alloc (.cells #[.slice A n c] T)).alloc (.cells #[.slice D m d] T)).alloc (.cells #[.slice none 0 0] T)) :=
  ⟨below_three _ _ _ _, (bx3 _ _ _ _ _ _ _).1, (bx3 _ _ _ _ _ _ _).2.1, (bx3 _ _ _ _ _ _ _).2.2, cel_three hI _ _ _, cel_three hJ _ _ _⟩
theorem St.below (h : St w A D n c m d X Y W) (hb : Below W.heap.size W W1) : St w A D n c m d X Y W1 :=
  ⟨below_on h.bel hb, h.ba.below hb, h.bb.below hb, h.br.below hb, h.cI.below hb, h.cJ.below hb⟩
theorem St.alloc (h : St w A D n c m d X Y W) (o : Obj) : St w A D n c m d X Y (W.alloc o) := h.below (below_new _ _)
theorem St.drew (h : St w A D n c m d X Y W) : St w A D n c m d X Y W.drew := ⟨bel_drew h.bel, h.ba, h.bb, h.br, h.cI, h.cJ⟩
theorem St.drewN (h : St w A D n c m d X Y W) (k : Nat) : St w A D n c m d X Y (W.drewN k) := ⟨bel_drewN h.bel k, h.ba, h.bb, h.br, h.cI, h.cJ⟩
theorem St.xa (h : St w A D n c m d X Y W) : W.cell? ⟨w.heap.size, 0, none⟩ = some (.slice A n c) := h.ba.cell
theorem St.xb (h : St w A D n c m d X Y W) : W.cell? ⟨w.heap.size + 1, 0, none⟩ = some (.slice D m d) := h.bb.cell
end
theorem new_less {w w1 : World} {A : Option Addr} {n : Nat} (h : New w1 A n) (hl : w.heap.size ≤ w1.heap.size) : New w A n := fun hp ad e => Nat.le_trans hl (h hp ad e)
end Go.Proofs.YtinceponggpioaaDoor.natY

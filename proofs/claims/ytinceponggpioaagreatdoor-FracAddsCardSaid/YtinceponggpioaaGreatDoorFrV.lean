/-
  Contracts of Mul, Div of the reference.
-/
import Derived.Test.YtinceponggpioaaGreatDoorFrS
import Derived.Test.YtinceponggpioaaGreatDoorNatZ
namespace Go.Proofs.YtinceponggpioaaGreatDoor.frV
open Go.RowKit
open Go.Proofs.YtinceponggpioaaGreatDoor.natM Go.Proofs.YtinceponggpioaaGreatDoor.natA Go.Proofs.YtinceponggpioaaGreatDoor.natB Go.Proofs.YtinceponggpioaaGreatDoor.natC Go.Proofs.YtinceponggpioaaGreatDoor.natD Go.Proofs.YtinceponggpioaaGreatDoor.natE Go.Proofs.YtinceponggpioaaGreatDoor.natF Go.Proofs.YtinceponggpioaaGreatDoor.natG Go.Proofs.YtinceponggpioaaGreatDoor.natH Go.Proofs.YtinceponggpioaaGreatDoor.natI Go.Proofs.YtinceponggpioaaGreatDoor.natJ Go.Proofs.YtinceponggpioaaGreatDoor.natX Go.Proofs.YtinceponggpioaaGreatDoor.natUi Go.Proofs.YtinceponggpioaaGreatDoor.frM Go.Proofs.YtinceponggpioaaGreatDoor.frA Go.Proofs.YtinceponggpioaaGreatDoor.frB Go.Proofs.YtinceponggpioaaGreatDoor.frC Go.Proofs.YtinceponggpioaaGreatDoor.frD Go.Proofs.YtinceponggpioaaGreatDoor.natR Go.Proofs.YtinceponggpioaaGreatDoor.natS Go.Proofs.YtinceponggpioaaGreatDoor.natT Go.Proofs.YtinceponggpioaaGreatDoor.natY Go.Proofs.YtinceponggpioaaGreatDoor.natZ Go.Proofs.YtinceponggpioaaGreatDoor.natDm Go.Proofs.YtinceponggpioaaGreatDoor.natGc Go.Proofs.YtinceponggpioaaGreatDoor.frR Go.Proofs.YtinceponggpioaaGreatDoor.frS
set_option linter.unusedVariables false

theorem rmul_ok {n m X Y V : Nat} (h1 : valB n X = true) (h2 : valB m Y = true) (hV : V = X * Y) (hb : nlen 4294967296 V ≤ 64) (A : Option Addr) (c : Nat) (D : Option Addr) (d : Nat) (w : World) (hI : Cel .u32 w A (dg 4294967296 n X)) (hJ : Cel .u32 w D (dg 4294967296 m Y)) :
    Calls Tryz.prog 48 #[.agg #[.slice A n c], .agg #[.slice D m d]] w (ResP V 0 w) := by
  have l1 := (valB_iff.1 h1).1
  have l2 := (valB_iff.1 h2).1
  subst hV
  have := rxmul_any A D n c m d X Y (Lib.hid (val_lt h1)) (Lib.hid (val_lt h2)) (by omega) (by omega) w hI hJ
  unfold mulV mulE at this
  rwa [h1, h2, (r_ok hb).1, (r_ok hb).2] at this
theorem rmul_big {n m X Y V : Nat} (h1 : valB n X = true) (h2 : valB m Y = true) (hV : V = X * Y) (hb : 64 < nlen 4294967296 V) (A : Option Addr) (c : Nat) (D : Option Addr) (d : Nat) (w : World) (hI : Cel .u32 w A (dg 4294967296 n X)) (hJ : Cel .u32 w D (dg 4294967296 m Y)) :
    Calls Tryz.prog 48 #[.agg #[.slice A n c], .agg #[.slice D m d]] w (ResP 0 9 w) := by
  have l1 := (valB_iff.1 h1).1
  have l2 := (valB_iff.1 h2).1
  subst hV
  have := rxmul_any A D n c m d X Y (Lib.hid (val_lt h1)) (Lib.hid (val_lt h2)) (by omega) (by omega) w hI hJ
  unfold mulV mulE at this
  rwa [h1, h2, (r_big hb).1, (r_big hb).2] at this
theorem rmul_all {n m X Y V : Nat} (h1 : valB n X = true) (h2 : valB m Y = true) (hV : V = X * Y) : ∃ (V' : Nat) (E : Int), (E = 0 ∧ V' = V ∧ nlen 4294967296 V ≤ 64 ∨ E = 9 ∧ V' = 0 ∧ 64 < nlen 4294967296 V) ∧ ∀ A c D d w, Cel .u32 w A (dg 4294967296 n X) → Cel .u32 w D (dg 4294967296 m Y) →
    Calls Tryz.prog 48 #[.agg #[.slice A n c], .agg #[.slice D m d]] w (ResP V' E w) := by
  by_cases hb : nlen 4294967296 V ≤ 64
  · exact ⟨V, 0, .inl ⟨rfl, rfl, hb⟩, rmul_ok h1 h2 hV hb⟩
  · exact ⟨0, 9, .inr ⟨rfl, rfl, by omega⟩, rmul_big h1 h2 hV (by omega)⟩
theorem rred_red {k j N D : Nat} (hk : k = nlen 4294967296 N) (hj : j = nlen 4294967296 D) (h1 : k ≤ 64) (h2 : j ≤ 64) (h0 : 0 < D) (A : Option Addr) (c : Nat) (B : Option Addr) (d : Nat) (w : World) (hI : Cel .u32 w A (dg 4294967296 k N)) (hJ : Cel .u32 w B (dg 4294967296 j D)) :
    Calls Tryz.prog 24 #[.agg #[.slice A k c], .agg #[.slice B j d]] w (FrP (rd N D) w) := by
  have v1 : valB k N = true := valB_iff.2 ⟨h1, hk.symm⟩
  have v2 : valB j D = true := valB_iff.2 ⟨h2, hj.symm⟩
  exact rred_ok A B k c j d N D (Lib.hid (val_lt v1)) (Lib.hid (val_lt v2)) (Lib.hid v1) (Lib.hid v2) h0 w hI hJ

end Go.Proofs.YtinceponggpioaaGreatDoor.frV

/-
  The laws of layer 1: each call answers true, for every argument; new memory and draws alone.
-/
import Derived.Test.YtfalonklnfekhaaDoorNumW
namespace Go.Proofs.YtfalonklnfekhaaDoor.numL
open Go.RowKit
open Go.Proofs.YtfalonklnfekhaaDoor.numM Go.Proofs.YtfalonklnfekhaaDoor.numA Go.Proofs.YtfalonklnfekhaaDoor.numB Go.Proofs.YtfalonklnfekhaaDoor.numD Go.Proofs.YtfalonklnfekhaaDoor.numE Go.Proofs.YtfalonklnfekhaaDoor.numF Go.Proofs.YtfalonklnfekhaaDoor.numT Go.Proofs.YtfalonklnfekhaaDoor.numS Go.Proofs.YtfalonklnfekhaaDoor.numP Go.Proofs.YtfalonklnfekhaaDoor.numG Go.Proofs.YtfalonklnfekhaaDoor.numW
set_option linter.unusedVariables false

set_option maxRecDepth 100000 in
set_option maxHeartbeats 1000000 in
theorem adds (a b : Int) (a0 : -9223372036854775808 ≤ a) (a1 : a ≤ 9223372036854775807) (b0 : -9223372036854775808 ≤ b) (b1 : b ≤ 9223372036854775807) (w : World) (h : Tab w) :
    Calls Tryd.prog 3 #[.int .i64 a, .int .i64 b] w fun e w' => e = .returned (.bool true) ∧ Below w.heap.size w w' := by
  have c1 := fun w => add_any a b a0 a1 b0 b1 w
  have c2 := fun w => sub_any a b a0 a1 b0 b1 w
  have c3 := fun w => mul_any a b a0 a1 b0 b1 w
  have d1 := fun w => radd_any a b a0 a1 b0 b1 w
  have d2 := fun w => rsub_any a b a0 a1 b0 b1 w
  have d3 := fun w => rmul_any a b a0 a1 b0 b1 w
  generalize fitV (a + b) = x1 at *
  generalize fitE (a + b) = e1 at *
  generalize fitV (a - b) = x2 at *
  generalize fitE (a - b) = e2 at *
  generalize fitV (a * b) = x3 at *
  generalize fitE (a * b) = e3 at *
  have caw := awake_any
  go_enter Tryd.func3, Tryd.ntmps3
  go_wp2_with (first | (go_at_call 12; refine (c1 _).mono ?_; rintro e w' ⟨rfl, rfl⟩) | (go_at_call 13; refine (c2 _).mono ?_; rintro e w' ⟨rfl, rfl⟩) | (go_at_call 14; refine (c3 _).mono ?_; rintro e w' ⟨rfl, rfl⟩) | (go_at_call 15; refine (d1 _).mono ?_; rintro e w' ⟨rfl, rfl⟩) | (go_at_call 16; refine (d2 _).mono ?_; rintro e w' ⟨rfl, rfl⟩) | (go_at_call 17; refine (d3 _).mono ?_; rintro e w' ⟨rfl, rfl⟩) | (go_at_call 18; refine (caw _ (by assumption)).mono ?_; rintro e w9 ⟨rfl, hb9⟩))
  go_ret
  exact ⟨rfl, hb9⟩
end Go.Proofs.YtfalonklnfekhaaDoor.numL

/-
  What the row of texts lists: the table of powers of ten; a world for the witness.
-/
import Derived.Test.YtjbckijeobmoeaaDoorCards
import Derived.Test.YtjbckijeobmoeaaDoorTie
import Derived.Test.YtjbckijeobmoeaaDoorNatK
import Derived.Test.YtjbckijeobmoeaaDoorNtF
import Derived.Deep.DeepHandedRow
import Derived.Deep.DeepWitnessRowRef
import Derived.Lib.LaidTab
import Derived.LaidMore
import Derived.Stop.LaidErr
import Derived.Stop.Joined
namespace Go.Proofs.YtjbckijeobmoeaaDoor.ntK
open Go.ChangeShapes Go.WideShapes Go.ChangeAt Go.RowKit

theorem gPow : Tryd.prog.globalNamed "internal/strconv.uint64pow10" = some 1 := by kernel_rfl
theorem gPowType : (Tryd.prog.globals[1]?).map (·.type) = some 81 := by kernel_rfl
theorem cellsTab : Tryd.prog.cellsOf 81 = 20 := by kernel_rfl
theorem cellsU64 : Tryd.prog.cellsOf 49 = 1 := by kernel_rfl
theorem plainL : (Rows.natTextsRow.laid.all fun x => x.2.handleName?.isNone) = true := by kernel_rfl
/-- the table of powers of ten -/
theorem tab {W : World} (h : laidMetH Tryd.prog Rows.natTextsRow.laid W) : Lib.TabIs Tryd.prog W "internal/strconv.uint64pow10" .u64 Lib.pow10Tab := by
  rw [MakeChecks.laidMetH_plain _ _ _ plainL] at h
  have h2 := h.tail.tail
  exact Lib.tabIs_of_head gPow gPowType Tryd.underlying81 Tryd.underlying49 cellsU64 cellsTab h2
/-- A world for the witness: the heap that the door's own run leaves. -/
theorem laid_met (os : Os) (args : Array Value) : laidMet Tryd.prog Rows.natTextsRow.laid ((World.doorLaid Tryd.prog 400 os).forCall (fun _ _ => 0) ⟨#[], args, []⟩).memory :=
  laidMet_of_run' 8 (by kernel_rfl) (by kernel_rfl)
theorem metH (os : Os) (args : Array Value) : laidMetH Tryd.prog Rows.natTextsRow.laid ((World.doorLaid Tryd.prog 400 os).forCall (fun _ _ => 0) ⟨#[], args, []⟩).memory := by
  rw [MakeChecks.laidMetH_plain _ _ _ plainL]; exact laid_met os args
end Go.Proofs.YtjbckijeobmoeaaDoor.ntK

/-
  What the rows of the calendar list: the table of the months' first days; a world for the witness.
-/
import Derived.Test.YtppklkiodbnipaaDoorCards
import Derived.Test.YtppklkiodbnipaaDoorTie
import Derived.Test.YtppklkiodbnipaaDoorClL
import Derived.ProofKit
import Derived.OpenShut
import Derived.Deep.DeepHandedRow
import Derived.Deep.DeepWitnessRowRef
import Derived.Lib.LaidTab
import Derived.LaidMore
import Derived.Stop.LaidErr
import Derived.Stop.Joined
namespace Go.Proofs.YtppklkiodbnipaaDoor.clK
open Go.ChangeShapes Go.WideShapes Go.ChangeAt Go.RowKit
open Go.Proofs.YtppklkiodbnipaaDoor.clB

theorem own : ownKnob Tryd.prog.godebug = none := by kernel_rfl
theorem gMonType : (Tryd.prog.globals[0]?).map (·.type) = some 51 := by kernel_rfl
theorem cellsMon : Tryd.prog.cellsOf 51 = 13 := by kernel_rfl
theorem cellsI : Tryd.prog.cellsOf 3 = 1 := by kernel_rfl
theorem plainL : (Rows.calendarDatesRow.laid.all fun x => x.2.handleName?.isNone) = true := by kernel_rfl
/-- the table of the months' first days -/
theorem tab {W : World} (h : laidMetH Tryd.prog Rows.calendarDatesRow.laid W) : Mon W := by
  rw [MakeChecks.laidMetH_plain _ _ _ plainL] at h
  exact Lib.tabIs_of_head gMon gMonType Tryd.underlying51 Tryd.underlying3 cellsI cellsMon h
/-- A world for the witness: the heap that the door's own run leaves. -/
theorem laid_met (os : Os) (args : Array Value) : laidMet Tryd.prog Rows.calendarDatesRow.laid ((World.doorLaid Tryd.prog 400 os).forCall (fun _ _ => 0) ⟨#[], args, []⟩).memory :=
  laidMet_of_run' 8 (by kernel_rfl) (by kernel_rfl)
theorem metH (os : Os) (args : Array Value) : laidMetH Tryd.prog Rows.calendarDatesRow.laid ((World.doorLaid Tryd.prog 400 os).forCall (fun _ _ => 0) ⟨#[], args, []⟩).memory := by
  rw [MakeChecks.laidMetH_plain _ _ _ plainL]; exact laid_met os args
end Go.Proofs.YtppklkiodbnipaaDoor.clK

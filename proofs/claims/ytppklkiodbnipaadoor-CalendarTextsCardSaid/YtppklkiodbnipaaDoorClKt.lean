/-
  What the row of texts of times lists: the tables of powers of ten and of the months' first days; a world for the witness.
-/
import Derived.Test.YtppklkiodbnipaaDoorClK
import Derived.Test.YtppklkiodbnipaaDoorClY
namespace Go.Proofs.YtppklkiodbnipaaDoor.clKt
open Go.ChangeShapes Go.WideShapes Go.ChangeAt Go.RowKit
open Go.Proofs.YtppklkiodbnipaaDoor.clB

theorem own : ownKnob Tryd.prog.godebug = none := by kernel_rfl
theorem gPow : Tryd.prog.globalNamed "internal/strconv.uint64pow10" = some 1 := by kernel_rfl
theorem gPowType : (Tryd.prog.globals[1]?).map (·.type) = some 61 := by kernel_rfl
theorem cellsTab : Tryd.prog.cellsOf 61 = 20 := by kernel_rfl
theorem cellsU64 : Tryd.prog.cellsOf 55 = 1 := by kernel_rfl
theorem plainL : (Rows.calendarTextsRow.laid.all fun x => x.2.handleName?.isNone) = true := by kernel_rfl
/-- the table of powers of ten -/
theorem tab {W : World} (h : laidMetH Tryd.prog Rows.calendarTextsRow.laid W) : Lib.TabIs Tryd.prog W "internal/strconv.uint64pow10" .u64 Lib.pow10Tab := by
  rw [MakeChecks.laidMetH_plain _ _ _ plainL] at h
  have h2 := h.tail.tail
  exact Lib.tabIs_of_head gPow gPowType Tryd.underlying61 Tryd.underlying55 cellsU64 cellsTab h2
/-- the table of the months' first days -/
theorem mon {W : World} (h : laidMetH Tryd.prog Rows.calendarTextsRow.laid W) : Mon W := by
  rw [MakeChecks.laidMetH_plain _ _ _ plainL] at h
  have h3 := h.tail.tail.tail
  exact Lib.tabIs_of_head gMon clK.gMonType Tryd.underlying51 Tryd.underlying3 clK.cellsI clK.cellsMon h3
/-- A world for the witness: the heap that the door's own run leaves. -/
theorem laid_met (os : Os) (args : Array Value) : laidMet Tryd.prog Rows.calendarTextsRow.laid ((World.doorLaid Tryd.prog 400 os).forCall (fun _ _ => 0) ⟨#[], args, []⟩).memory :=
  laidMet_of_run' 8 (by kernel_rfl) (by kernel_rfl)
theorem metH (os : Os) (args : Array Value) : laidMetH Tryd.prog Rows.calendarTextsRow.laid ((World.doorLaid Tryd.prog 400 os).forCall (fun _ _ => 0) ⟨#[], args, []⟩).memory := by
  rw [MakeChecks.laidMetH_plain _ _ _ plainL]; exact laid_met os args
end Go.Proofs.YtppklkiodbnipaaDoor.clKt

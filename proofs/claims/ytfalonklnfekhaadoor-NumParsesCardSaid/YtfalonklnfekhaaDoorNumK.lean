/-
  What the rows of this seat share: the closed facts on the listed variables; what the row's list gives a walk; a world for the witness.
-/
import Derived.Test.YtfalonklnfekhaaDoorCards
import Derived.Test.YtfalonklnfekhaaDoorTie
import Derived.Test.YtfalonklnfekhaaDoorNumL
import Derived.ProofKit
import Derived.OpenShut
import Derived.Deep.DeepHandedRow
import Derived.Deep.DeepWitnessRowRef
import Derived.Lib.LaidTab
import Derived.LaidMore
import Derived.Stop.LaidErr
import Derived.Stop.Joined
namespace Go.Proofs.YtfalonklnfekhaaDoor.numK
open Go.ChangeShapes Go.WideShapes Go.ChangeAt Go.RowKit
open Go.Proofs.YtfalonklnfekhaaDoor.numW

theorem own : ownKnob Tryd.prog.godebug = none := by kernel_rfl
theorem gPow : Tryd.prog.globalNamed "internal/strconv.uint64pow10" = some 4 := by kernel_rfl
theorem gPowType : (Tryd.prog.globals[4]?).map (·.type) = some 76 := by kernel_rfl
theorem cellsTab : Tryd.prog.cellsOf 76 = 20 := by kernel_rfl
theorem cellsU : Tryd.prog.cellsOf 30 = 1 := by kernel_rfl
theorem gER : Tryd.prog.globalNamed "strconv.ErrRange" = some 3 := by kernel_rfl
theorem gERType : (Tryd.prog.globals[3]?).map (·.type) = some 45 := by kernel_rfl
theorem cellsES : Tryd.prog.cellsOf 73 = 1 := by kernel_rfl
theorem cellsS : Tryd.prog.cellsOf 9 = 1 := by kernel_rfl
theorem star : "*" ++ "errors.errorString" = "*errors.errorString" := by decide
theorem rowES (u : TypeId) (h : Tryd.prog.typeName? 3 u = some "*errors.errorString") : u = 71 :=
  typeName_ptr_named (nm := "errors.errorString") (by rw [star]; kernel_rfl) (by kernel_rfl) (by decide) u (by rw [star]; exact h)

theorem plainL : (Rows.numAddsRow.laid.all fun x => x.2.handleName?.isNone) = true := by kernel_rfl
/-- the table of powers of ten -/
theorem tab {W : World} (h : laidMetH Tryd.prog Rows.numAddsRow.laid W) : Tab W := by
  rw [MakeChecks.laidMetH_plain _ _ _ plainL] at h
  have h2 := h.tail.tail
  exact Lib.tabIs_of_head gPow gPowType Tryd.underlying76 Tryd.underlying30 cellsU cellsTab h2
/-- the sentinel ErrRange -/
theorem errRange {W : World} (h : laidMetH Tryd.prog Rows.numAddsRow.laid W) : ∃ tp p, W.var? Tryd.prog "strconv.ErrRange" = some #[.iface tp p] := by
  rw [MakeChecks.laidMetH_plain _ _ _ plainL] at h
  have h3 := h.tail.tail.tail
  obtain ⟨a, s, hv, _⟩ := laid_sentinel h3 gER gERType Tryd.underlying45 rowES Tryd.underlying71 Tryd.underlying73 rfl rfl Tryd.underlying9 cellsES cellsS
  exact ⟨_, _, hv⟩

/-- A world for the witness: the heap that the door's own run leaves. -/
theorem laid_met (os : Os) (args : Array Value) : laidMet Tryd.prog Rows.numAddsRow.laid ((World.doorLaid Tryd.prog 400 os).forCall (fun _ _ => 0) ⟨#[], args, []⟩).memory :=
  laidMet_of_run' 8 (by kernel_rfl) (by kernel_rfl)
theorem metH (os : Os) (args : Array Value) : laidMetH Tryd.prog Rows.numAddsRow.laid ((World.doorLaid Tryd.prog 400 os).forCall (fun _ _ => 0) ⟨#[], args, []⟩).memory := by
  rw [MakeChecks.laidMetH_plain _ _ _ plainL]; exact laid_met os args
end Go.Proofs.YtfalonklnfekhaaDoor.numK

/-
  What the rows of digest list: the table of rounds and the digits; a world for the witness.
-/
import Derived.Test.YthnbddacglfldaaDoorCards
import Derived.Test.YthnbddacglfldaaDoorTie
import Derived.Test.YthnbddacglfldaaDoorDgW
import Derived.ProofKit
import Derived.OpenShut
import Derived.Deep.DeepHandedRow
import Derived.Deep.DeepWitnessRowRef
import Derived.Deep.Strs
import Derived.Lib.LaidTab
import Derived.LaidMore
import Derived.Stop.LaidErr
import Derived.Stop.Joined
namespace Go.Proofs.YthnbddacglfldaaDoor.dgK
open Go.ChangeShapes Go.WideShapes Go.ChangeAt Go.RowKit
open Go.Proofs.YthnbddacglfldaaDoor.dgB Go.Proofs.YthnbddacglfldaaDoor.dgH Go.Proofs.YthnbddacglfldaaDoor.dgW
set_option linter.unusedVariables false

theorem own : ownKnob Tryd.prog.godebug = none := by kernel_rfl
theorem gDigType : (Tryd.prog.globals[1]?).map (·.type) = some 44 := by kernel_rfl
theorem cells16 : Tryd.prog.cellsOf 44 = 16 := by kernel_rfl
theorem cellsU8 : Tryd.prog.cellsOf 5 = 1 := by kernel_rfl
theorem gRndType : (Tryd.prog.globals[0]?).map (·.type) = some 40 := by kernel_rfl
theorem cells9 : Tryd.prog.cellsOf 40 = 9 := by kernel_rfl
theorem cells3 : Tryd.prog.cellsOf 39 = 3 := by kernel_rfl
theorem cellsI : Tryd.prog.cellsOf 3 = 1 := by kernel_rfl
theorem cellsU : Tryd.prog.cellsOf 23 = 1 := by kernel_rfl
theorem plainL : (Rows.digestSumsRow.laid.all fun x => x.2.handleName?.isNone) = true := by kernel_rfl
section
variable {H : Type} {enc : TypeId × Value → H} {w : World} {base : Nat} {sp : Nat → Bool} {held : Bool} {fuel : Nat}
/-- a round, read as three numbers, is three cells -/
theorem row3 {cs : List Value} {a b c : Int} {y : DataW H × List MemPlace} (hy : y.1 = .agg [.lit (.int .i64 a), .lit (.int .u64 b), .lit (.int .u64 c)])
    (h : DataW.trod enc Tryd.prog w base sp held fuel 39 cs = some y) : cs = [.int .i64 a, .int .u64 b, .int .u64 c] := by
  obtain ⟨y0, y1, y2, n, rfl, hl, h0, h1, h2⟩ := Go.Deep.trod_struct3 Tryd.underlying39 h
  rw [cells3] at hl
  match cs, hl with
  | [v0, v1, v2], _ =>
    simp only [cellsI, cellsU, List.drop_zero, List.take_succ_cons, List.take_zero, List.drop_succ_cons] at h0 h1 h2
    obtain ⟨n0, e0, f0, _⟩ := DataW.trod_int Tryd.underlying3 h0
    obtain ⟨n1, e1, f1, _⟩ := DataW.trod_int Tryd.underlying23 h1
    obtain ⟨n2, e2, f2, _⟩ := DataW.trod_int Tryd.underlying23 h2
    subst f0; subst f1; subst f2
    simp only [DataW.agg.injEq, List.cons.injEq, DataW.lit.injEq, Lit.int.injEq, true_and, and_true] at hy e0 e1 e2
    obtain ⟨rfl, rfl, rfl⟩ := hy
    rw [e0, e1, e2]
theorem rows9 {cs : List Value} {p : List MemPlace} {a0 b0 c0 a1 b1 c1 a2 b2 c2 : Int}
    (h : DataW.trod enc Tryd.prog w base sp held fuel 40 cs = some (.agg [.agg [.lit (.int .i64 a0), .lit (.int .u64 b0), .lit (.int .u64 c0)], .agg [.lit (.int .i64 a1), .lit (.int .u64 b1), .lit (.int .u64 c1)], .agg [.lit (.int .i64 a2), .lit (.int .u64 b2), .lit (.int .u64 c2)]], p)) :
    cs = [.int .i64 a0, .int .u64 b0, .int .u64 c0, .int .i64 a1, .int .u64 b1, .int .u64 c1, .int .i64 a2, .int .u64 b2, .int .u64 c2] := by
  obtain ⟨xs, m, _, hx, hl, hn, hi⟩ := DataW.trod_array Tryd.underlying40 h
  rw [cells9] at hl
  match xs, hn with
  | [y0, y1, y2], _ =>
    simp only [List.map_cons, List.map_nil, Prod.mk.injEq, DataW.agg.injEq, List.cons.injEq, and_true] at hx
    obtain ⟨⟨g0, g1, g2⟩, _⟩ := hx
    have h0 := hi 0 (by omega)
    have h1 := hi 1 (by omega)
    have h2 := hi 2 (by omega)
    rw [cells3] at h0 h1 h2
    match cs, hl with
    | [v0, v1, v2, v3, v4, v5, v6, v7, v8], _ =>
      have k0 := row3 g0.symm h0
      have k1 := row3 g1.symm h1
      have k2 := row3 g2.symm h2
      simp at k0 k1 k2
      obtain ⟨rfl, rfl, rfl⟩ := k0
      obtain ⟨rfl, rfl, rfl⟩ := k1
      obtain ⟨rfl, rfl, rfl⟩ := k2
      rfl
end
/-- the table of rounds -/
theorem tabR {W : World} (h : laidMetH Tryd.prog Rows.digestSumsRow.laid W) : Rnd W := by
  rw [MakeChecks.laidMetH_plain _ _ _ plainL] at h
  obtain ⟨ps, ⟨g', t', cs, fuel, p, q, hg', ht', hvar, hd, _, _⟩, _⟩ := h
  obtain rfl := Option.some.inj (gRnd.symm.trans hg')
  obtain rfl := Option.some.inj (gRndType.symm.trans ht')
  have := rows9 hd
  unfold Rnd
  rw [hvar]
  congr 1
  apply Array.toList_inj.1
  rw [this]; rfl
/-- the digits -/
theorem tabD {W : World} (h : laidMetH Tryd.prog Rows.digestSumsRow.laid W) : Dig W := by
  rw [MakeChecks.laidMetH_plain _ _ _ plainL] at h
  have h2 := h.tail
  exact Lib.tabIs_of_head gDig gDigType Tryd.underlying44 Tryd.underlying5 cellsU8 cells16 h2
/-- A world for the witness: the heap that the door's own run leaves. -/
theorem laid_met (os : Os) (args : Array Value) : laidMet Tryd.prog Rows.digestSumsRow.laid ((World.doorLaid Tryd.prog 400 os).forCall (fun _ _ => 0) ⟨#[], args, []⟩).memory :=
  laidMet_of_run' 8 (by kernel_rfl) (by kernel_rfl)
theorem metH (os : Os) (args : Array Value) : laidMetH Tryd.prog Rows.digestSumsRow.laid ((World.doorLaid Tryd.prog 400 os).forCall (fun _ _ => 0) ⟨#[], args, []⟩).memory := by
  rw [MakeChecks.laidMetH_plain _ _ _ plainL]; exact laid_met os args
end Go.Proofs.YthnbddacglfldaaDoor.dgK

/-
  What the rows of stream list: the table of rounds; a row of calls among the arguments; a world for the witness.
-/
import Derived.Test.YtikhhceoonfhcaaDoorCards
import Derived.Test.YtikhhceoonfhcaaDoorTie
import Derived.Test.YtikhhceoonfhcaaDoorStN
import Derived.ProofKit
import Derived.OpenShut
import Derived.Carry
import Derived.HandedShaped
import Derived.JoinedOf
import Derived.Deep.SlicePairs
import Derived.Deep.DeepHandedRow
import Derived.Deep.DeepWitnessRowRef
import Derived.Deep.Strs
import Derived.Lib.SmallJoins
import Derived.Lib.LaidTab
import Derived.LaidMore
import Derived.Stop.LaidErr
import Derived.Stop.Joined
namespace Go.Proofs.YtikhhceoonfhcaaDoor.stK
open Go.ChangeShapes Go.WideShapes Go.ChangeAt Go.RowKit Go.Joins Go.Deep
open Go.Proofs.YtikhhceoonfhcaaDoor.dgB Go.Proofs.YtikhhceoonfhcaaDoor.stN
set_option linter.unusedVariables false

theorem own : ownKnob Tryd.prog.godebug = none := by kernel_rfl
theorem laidOut : laidOutB Tryd.prog = true := by kernel_rfl
theorem gRndType : (Tryd.prog.globals[0]?).map (·.type) = some 59 := by kernel_rfl
theorem cells9 : Tryd.prog.cellsOf 59 = 9 := by kernel_rfl
theorem cells3 : Tryd.prog.cellsOf 58 = 3 := by kernel_rfl
theorem cellsI : Tryd.prog.cellsOf 3 = 1 := by kernel_rfl
theorem cellsU : Tryd.prog.cellsOf 22 = 1 := by kernel_rfl
theorem cellsO : Tryd.prog.cellsOf 34 = 3 := by kernel_rfl
theorem plainL : (Rows.streamNextsRow.laid.all fun x => x.2.handleName?.isNone) = true := by kernel_rfl
section
variable {H : Type} {enc : TypeId × Value → H} {w : World} {base : Nat} {sp : Nat → Bool} {held : Bool} {fuel : Nat}
/-- a round, read as three numbers, is three cells -/
theorem row3 {cs : List Value} {a b c : Int} {y : DataW H × List MemPlace} (hy : y.1 = .agg [.lit (.int .i64 a), .lit (.int .u64 b), .lit (.int .u64 c)])
    (h : DataW.trod enc Tryd.prog w base sp held fuel 58 cs = some y) : cs = [.int .i64 a, .int .u64 b, .int .u64 c] := by
  obtain ⟨y0, y1, y2, n, rfl, hl, h0, h1, h2⟩ := Go.Deep.trod_struct3 Tryd.underlying58 h
  rw [cells3] at hl
  match cs, hl with
  | [v0, v1, v2], _ =>
    simp only [cellsI, cellsU, List.drop_zero, List.take_succ_cons, List.take_zero, List.drop_succ_cons] at h0 h1 h2
    obtain ⟨n0, e0, f0, _⟩ := DataW.trod_int Tryd.underlying3 h0
    obtain ⟨n1, e1, f1, _⟩ := DataW.trod_int Tryd.underlying22 h1
    obtain ⟨n2, e2, f2, _⟩ := DataW.trod_int Tryd.underlying22 h2
    subst f0; subst f1; subst f2
    simp only [DataW.agg.injEq, List.cons.injEq, DataW.lit.injEq, Lit.int.injEq, true_and, and_true] at hy e0 e1 e2
    obtain ⟨rfl, rfl, rfl⟩ := hy
    rw [e0, e1, e2]
theorem rows9 {cs : List Value} {p : List MemPlace} {a0 b0 c0 a1 b1 c1 a2 b2 c2 : Int}
    (h : DataW.trod enc Tryd.prog w base sp held fuel 59 cs = some (.agg [.agg [.lit (.int .i64 a0), .lit (.int .u64 b0), .lit (.int .u64 c0)], .agg [.lit (.int .i64 a1), .lit (.int .u64 b1), .lit (.int .u64 c1)], .agg [.lit (.int .i64 a2), .lit (.int .u64 b2), .lit (.int .u64 c2)]], p)) :
    cs = [.int .i64 a0, .int .u64 b0, .int .u64 c0, .int .i64 a1, .int .u64 b1, .int .u64 c1, .int .i64 a2, .int .u64 b2, .int .u64 c2] := by
  obtain ⟨xs, m, _, hx, hl, hn, hi⟩ := DataW.trod_array Tryd.underlying59 h
  rw [cells9] at hl
  match xs, hn with
  | [y0, y1, y2], _ =>
    simp only [List.map_cons, List.map_nil, Prod.mk.injEq, DataW.agg.injEq, List.cons.injEq, and_true] at hx
    obtain ⟨⟨g0, g1, g2⟩, _⟩ := hx
    have h0 := hi 0 (by omega)
    have h1 := hi 1 (by omega)
    have h2 := hi 2 (by omega)
    rw [cells3] at h0 h1 h2
    match cs, hl with
    | [v0, v1, v2, v3, v4, v5, v6, v7, v8], _ =>
      have k0 := row3 g0.symm h0
      have k1 := row3 g1.symm h1
      have k2 := row3 g2.symm h2
      simp at k0 k1 k2
      obtain ⟨rfl, rfl, rfl⟩ := k0
      obtain ⟨rfl, rfl, rfl⟩ := k1
      obtain ⟨rfl, rfl, rfl⟩ := k2
      rfl
end
/-- the table of rounds -/
theorem tabR {W : World} (h : laidMetH Tryd.prog Rows.streamNextsRow.laid W) : Rnd W := by
  rw [MakeChecks.laidMetH_plain _ _ _ plainL] at h
  obtain ⟨ps, ⟨g', t', cs, fuel, p, q, hg', ht', hvar, hd, _, _⟩, _⟩ := h
  obtain rfl := Option.some.inj (gRnd.symm.trans hg')
  obtain rfl := Option.some.inj (gRndType.symm.trans ht')
  have := rows9 hd
  unfold Rnd
  rw [hvar]
  congr 1
  apply Array.toList_inj.1
  rw [this]; rfl
/-! ### a row of calls -/
section
variable {H : Type} {enc : TypeId × Value → H} {W : World} {x : DataW H × List MemPlace} {fuel : Nat} {cs : List Value}
theorem plain_of2 {a : Addr} {v : Value} {W : World} {k : Nat} (h : W.cell? ((a.add (0 * k)).add 0) = some v) : ∃ b off, a = ⟨b, off, none⟩ := by
  obtain ⟨b, off, spot⟩ := a
  have : spot = none := by simpa [Addr.add] using World.cell?_spot h
  exact ⟨b, off, by rw [this]⟩
/-- three cells that read as a call -/
theorem op_of (h : DataW.trod enc Tryd.prog W 0 (fun _ => true) true fuel 34 cs = some x) :
    ∃ y : Op3, cs = [.int .i64 y.kind, .int .i64 y.n, .int .i64 y.k] := by
  obtain ⟨y0, y1, y2, n, rfl, hl, h0, h1, h2⟩ := Go.Deep.trod_struct3 Tryd.underlying34 h
  rw [cellsO] at hl
  match cs, hl with
  | [v0, v1, v2], _ =>
    simp only [cellsI, List.drop_zero, List.take_succ_cons, List.take_zero, List.drop_succ_cons] at h0 h1 h2
    obtain ⟨n0, e0, f0, _⟩ := DataW.trod_int Tryd.underlying3 h0
    obtain ⟨n1, e1, f1, _⟩ := DataW.trod_int Tryd.underlying3 h1
    obtain ⟨n2, e2, f2, _⟩ := DataW.trod_int Tryd.underlying3 h2
    simp only [List.cons.injEq, and_true] at e0 e1 e2
    exact ⟨⟨n0, n1, n2⟩, by rw [e0, e1, e2]⟩
instance : Inhabited Op3 := ⟨⟨0, 0, 0⟩⟩
theorem ops_of (h : DataW.trod enc Tryd.prog W 0 (fun _ => true) true fuel 31 cs = some x) :
    ∃ A n c xs, cs = [.slice A n c] ∧ xs.length = n ∧ n ≤ 9223372036854775807 ∧ Ops W A xs := by
  rcases open_slice Tryd.underlying31 h with ⟨hcs, hx⟩ | ⟨a, len, cap, m, n, D, Pl, hcs, hb, hl, hm, hmm, hx, hel⟩
  · exact ⟨none, 0, 0, [], hcs, rfl, Nat.zero_le _, fun h => absurd h (by simp)⟩
  · simp only [if_true] at hmm
    unfold maxLen at hm
    rw [cellsO] at hel
    have each : ∀ i, i < len → ∃ y : Op3, W.cells? 0 (a.add (i * 3)) 3 = some [.int .i64 y.kind, .int .i64 y.n, .int .i64 y.k] := fun i hi => by
      obtain ⟨cs', h1, h2⟩ := hel i (by omega)
      obtain ⟨y, rfl⟩ := op_of h2
      exact ⟨y, h1⟩
    obtain ⟨q, hq⟩ := choose_lt each
    refine ⟨some a, len, cap, (List.range len).map q, hcs, by simp, by omega, fun hp => ?_⟩
    have hlen : 0 < len := by simpa using hp
    have c0 := (World.cells?_some (hq 0 hlen)).2.2 0 (by omega)
    obtain ⟨b, off, rfl⟩ := plain_of2 c0
    refine ⟨b, off, rfl, fun j y hj => ?_⟩
    rw [List.getElem?_map] at hj
    obtain ⟨i, hi, rfl⟩ := Option.map_eq_some_iff.1 hj
    obtain ⟨hil, hie⟩ := List.getElem?_eq_some_iff.1 hi
    simp at hie hil
    subst hie
    have hc := (World.cells?_some (hq j hil)).2.2
    have d0 := hc 0 (by omega)
    have d1 := hc 1 (by omega)
    have d2 := hc 2 (by omega)
    rw [add_plain, add_plain] at d0 d1 d2
    exact ⟨d0, d1, d2⟩
end
theorem ops_view {H : Type} {enc : TypeId × Value → H} {W : World} {base : Nat} {v : Value} {d : DataW H} {p : List MemPlace} (hok : Value.okWide Tryd.prog W .any base 31 v) (h : DataW.Trod enc Tryd.prog W 0 (fun _ => true) true 31 v d p) :
    ∃ A n c xs, v = .slice A n c ∧ Hid (xs.length = n) ∧ n ≤ 9223372036854775807 ∧ Ops W A xs := by
  obtain ⟨a0, len, cap, rfl⟩ := okWide_slice Tryd.underlying31 hok
  obtain ⟨fuel, hf⟩ := h
  obtain ⟨A, n, c, B, e, r1, r2, r3⟩ := ops_of hf
  simp [Value.cells] at e
  obtain ⟨rfl, rfl, rfl⟩ := e
  exact ⟨_, _, _, B, rfl, Lib.hid r1, r2, r3⟩
/-- A world for the witness: the heap that the door's own run leaves. -/
theorem laid_met (os : Os) (args : Array Value) : laidMet Tryd.prog Rows.streamNextsRow.laid ((World.doorLaid Tryd.prog 400 os).forCall (fun _ _ => 0) ⟨#[], args, []⟩).memory :=
  laidMet_of_run' 8 (by kernel_rfl) (by kernel_rfl)
theorem metH (os : Os) (args : Array Value) : laidMetH Tryd.prog Rows.streamNextsRow.laid ((World.doorLaid Tryd.prog 400 os).forCall (fun _ _ => 0) ⟨#[], args, []⟩).memory := by
  rw [MakeChecks.laidMetH_plain _ _ _ plainL]; exact laid_met os args
end Go.Proofs.YtikhhceoonfhcaaDoor.stK

/-
  What the rows of this seat share: the closed facts; a slice of ints and a struct of four ints among the arguments.
-/
import Derived.Test.YtjblfmgiafdefaaRows
import Derived.Test.YtjblfmgiafdefaaMonB
import Derived.Carry
import Derived.ProofKit
import Derived.OpenShut
import Derived.Lib.SmallJoins
import Derived.HandedShaped
import Derived.JoinedOf
namespace Go.Proofs.Ytjblfmgiafdefaa.cbK
open Go.ChangeShapes Go.WideShapes Go.ChangeAt Go.RowKit Go.Joins Go.Deep
open Go.Proofs.Ytjblfmgiafdefaa.monB

theorem own : ownKnob Try.prog.godebug = none := by kernel_rfl
theorem laidOut : laidOutB Try.prog = true := by kernel_rfl
theorem cellsI : Try.prog.cellsOf 3 = 1 := by kernel_rfl
theorem cellsC : Try.prog.cellsOf 34 = 4 := by kernel_rfl
/-- a slice of ints among the arguments: what it reads as -/
theorem ints_view {H : Type} {enc : TypeId × Value → H} {W : World} {base : Nat} {v : Value} {d : DataW H} {p : List MemPlace} (hok : Value.okWide Try.prog W .any base 37 v)
    (h : DataW.Trod enc Try.prog W 0 (fun _ => true) true 37 v d p) :
    ∃ A n c zs, v = .slice A n c ∧ Hid (zs.length = n) ∧ n ≤ 9223372036854775807 ∧ Ints W A zs := by
  obtain ⟨a0, len, cap, rfl⟩ := okWide_slice Try.underlying37 hok
  obtain ⟨fuel, hf⟩ := h
  rcases open_ints Try.underlying37 Try.underlying3 cellsI hf with ⟨hcs, hx⟩ | ⟨a, len', cap', zs, hcs, _, hl, hm, hz, hx, hcell, hwz⟩
  · simp [Value.cells] at hcs
    obtain ⟨rfl, rfl, rfl⟩ := hcs
    exact ⟨none, 0, 0, [], rfl, rfl, by omega, fun h => by simp at h⟩
  · simp [Value.cells] at hcs
    obtain ⟨rfl, rfl, rfl⟩ := hcs
    simp only [if_true] at hz
    unfold maxLen at hm
    refine ⟨some a, len, cap, zs.take len, rfl, by show _ = _; rw [List.length_take]; omega, by omega, fun hp => ?_⟩
    have hlen : 0 < len := by rw [List.length_take] at hp; omega
    obtain ⟨b, off, spot⟩ := a
    have hspot : spot = none := by simpa [Addr.add] using World.cell?_spot (hcell 0 (by omega))
    subst hspot
    refine ⟨b, off, rfl, fun j x hj => ?_⟩
    have hjl := monM.lt_of_some hj
    rw [List.length_take] at hjl
    have := hcell j (by omega)
    rw [add_plain] at this
    rw [this]
    rw [List.getElem?_take_of_lt (by omega)] at hj
    simp [List.getD, hj]
theorem one_int {H : Type} {enc : TypeId × Value → H} {W : World} {v : Value} {y : DataW H × List MemPlace} {m : Nat} (h : DataW.trod enc Try.prog W 0 (fun _ => true) true m 3 [v] = some y) : ∃ a, v = .int .i64 a := by
  obtain ⟨a, hv, _, _⟩ := DataW.trod_int Try.underlying3 h
  exact ⟨a, by simpa using hv⟩
set_option maxRecDepth 4000 in
/-- the arguments of Hits, in one struct -/
theorem case_view {H : Type} {enc : TypeId × Value → H} {W : World} {base : Nat} {v : Value} {d : DataW H} {p : List MemPlace} (hok : Value.okWide Try.prog W .any base 34 v)
    (h : DataW.Trod enc Try.prog W 0 (fun _ => true) true 34 v d p) : ∃ a b c e : Int, v = .agg #[.int .i64 a, .int .i64 b, .int .i64 c, .int .i64 e] := by
  obtain ⟨v0, v1, v2, v3, y0, y1, y2, y3, m, rfl, _, _, h0, h1, h2, h3⟩ := open_agg4 Try.underlying34 (by kernel_rfl) cellsC hok h
  obtain ⟨a, rfl⟩ := one_int h0
  obtain ⟨b, rfl⟩ := one_int h1
  obtain ⟨c, rfl⟩ := one_int h2
  obtain ⟨e, rfl⟩ := one_int h3
  exact ⟨a, b, c, e, rfl⟩
end Go.Proofs.Ytjblfmgiafdefaa.cbK

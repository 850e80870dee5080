/-
  What the rows of fractions list: the table of powers of ten; a world for the witness; a fraction among the arguments.
-/
import Derived.Test.YtinceponggpioaaDoorCards
import Derived.Test.YtinceponggpioaaDoorTie
import Derived.Test.YtinceponggpioaaDoorNatK
import Derived.Test.YtinceponggpioaaDoorNtF
import Derived.Deep.DeepHandedRow
import Derived.Deep.DeepWitnessRowRef
import Derived.Lib.LaidTab
import Derived.LaidMore
import Derived.Stop.LaidErr
import Derived.Stop.Joined
import Derived.ChangeSame
namespace Go.Proofs.YtinceponggpioaaDoor.frK
open Go.ChangeShapes Go.WideShapes Go.ChangeAt Go.RowKit Go.Joins Go.Deep
open Go.Proofs.YtinceponggpioaaDoor.natM Go.Proofs.YtinceponggpioaaDoor.natA Go.Proofs.YtinceponggpioaaDoor.natK

theorem gPow : Tryd.prog.globalNamed "internal/strconv.uint64pow10" = some 1 := by kernel_rfl
theorem gPowType : (Tryd.prog.globals[1]?).map (·.type) = some 122 := by kernel_rfl
theorem cellsTab : Tryd.prog.cellsOf 122 = 20 := by kernel_rfl
theorem cellsU64 : Tryd.prog.cellsOf 54 = 1 := by kernel_rfl
theorem plainL : (Rows.fracMakesRow.laid.all fun x => x.2.handleName?.isNone) = true := by kernel_rfl
/-- the table of powers of ten -/
theorem tab {W : World} (h : laidMetH Tryd.prog Rows.fracMakesRow.laid W) : Lib.TabIs Tryd.prog W "internal/strconv.uint64pow10" .u64 Lib.pow10Tab := by
  rw [MakeChecks.laidMetH_plain _ _ _ plainL] at h
  have h2 := h.tail.tail
  exact Lib.tabIs_of_head gPow gPowType Tryd.underlying122 Tryd.underlying54 cellsU64 cellsTab h2
/-- A world for the witness: the heap that the door's own run leaves. -/
theorem laid_met (os : Os) (args : Array Value) : laidMet Tryd.prog Rows.fracMakesRow.laid ((World.doorLaid Tryd.prog 400 os).forCall (fun _ _ => 0) ⟨#[], args, []⟩).memory :=
  laidMet_of_run' 8 (by kernel_rfl) (by kernel_rfl)
theorem metH (os : Os) (args : Array Value) : laidMetH Tryd.prog Rows.fracMakesRow.laid ((World.doorLaid Tryd.prog 400 os).forCall (fun _ _ => 0) ⟨#[], args, []⟩).memory := by
  rw [MakeChecks.laidMetH_plain _ _ _ plainL]; exact laid_met os args

theorem cellsF : Tryd.prog.cellsOf 28 = 2 := by kernel_rfl
theorem two_cells (T : Array Value) (h : T.size = 2) : ∃ v0 v1 : Value, T = #[v0, v1] := by
  obtain ⟨l⟩ := T
  simp only [List.size_toArray] at h
  rcases l with _ | ⟨v0, l⟩
  · simp at h
  · rcases l with _ | ⟨v1, l⟩
    · simp at h
    · rcases l with _ | ⟨v2, l⟩
      · exact ⟨v0, v1, rfl⟩
      · simp at h
set_option maxRecDepth 4000 in
/-- one part of a fraction: what it reads as -/
theorem part_view {H : Type} {enc : TypeId × Value → H} {W : World} {fuel : Nat} {v0 : Value} {x : DataW H × List MemPlace}
    (hf : DataW.trod enc Tryd.prog W 0 (fun _ => true) true fuel 24 [v0] = some x) :
    ∃ A n c X, v0 = .slice A n c ∧ Hid (X < 4294967296 ^ n) ∧ n ≤ c ∧ n ≤ 9223372036854775807 ∧ Cel .u32 W A (dg 4294967296 n X) := by
  obtain ⟨y0, m, hx, _, h0⟩ := trod_struct1 Tryd.underlying24 hf
  have h1 : DataW.trod enc Tryd.prog W 0 (fun _ => true) true m 22 [v0] = some y0 := by
    have c1 : Tryd.prog.cellsOf 22 = 1 := by kernel_rfl
    simpa [Value.cells, c1] using h0
  rcases open_ints Tryd.underlying22 Tryd.underlying43 cellsU h1 with ⟨hcs, hx2⟩ | ⟨a, len, cap, zs, hcs, _, hl, hm, hz, hx2, hcell, hwz⟩
  · simp at hcs
    subst hcs
    exact ⟨none, 0, 0, 0, rfl, Lib.hid (by decide), by omega, by omega, fun h => by simp [dg] at h⟩
  · simp at hcs
    subst hcs
    simp only [if_true] at hz
    unfold maxLen at hm
    obtain ⟨xs, rfl, hsm⟩ := nats_of hwz
    rw [List.length_map] at hz
    have hsm2 : ∀ x ∈ xs.take len, x < 4294967296 := fun x hx => hsm x (List.mem_of_mem_take hx)
    have hlen : (xs.take len).length = len := by rw [List.length_take]; omega
    have e := dg_nv hsm2
    rw [hlen] at e
    refine ⟨some a, len, cap, nv 4294967296 (xs.take len), rfl, Lib.hid (by have := nv_lt hsm2; rwa [hlen] at this), hl, by omega, fun hp => ?_⟩
    rw [e] at hp ⊢
    rw [hlen] at hp
    obtain ⟨b, off, spot⟩ := a
    have hspot : spot = none := by simpa [Addr.add] using World.cell?_spot (hcell 0 (by rw [List.length_map]; omega))
    subst hspot
    refine ⟨b, off, rfl, fun j x hj => ?_⟩
    have hjl := lt_of_some hj
    rw [hlen] at hjl
    have := hcell j (by rw [List.length_map]; omega)
    rw [show (Addr.add ⟨b, off, none⟩ j) = ⟨b, off + j, none⟩ by simp [Addr.add]] at this
    rw [this]
    rw [List.getElem?_take_of_lt (by omega)] at hj
    simp [List.getD, hj]
set_option maxRecDepth 4000 in
/-- a fraction among the arguments: what it reads as -/
theorem frac_view {H : Type} {enc : TypeId × Value → H} {W : World} {base : Nat} {v : Value} {d : DataW H} {p : List MemPlace} (hok : Value.okWide Tryd.prog W .any base 28 v)
    (h : DataW.Trod enc Tryd.prog W 0 (fun _ => true) true 28 v d p) :
    ∃ A n c X B m e Y, v = .agg #[.slice A n c, .slice B m e] ∧ Hid (X < 4294967296 ^ n) ∧ n ≤ c ∧ n ≤ 9223372036854775807 ∧ Cel .u32 W A (dg 4294967296 n X) ∧ Hid (Y < 4294967296 ^ m) ∧ m ≤ e ∧ m ≤ 9223372036854775807 ∧ Cel .u32 W B (dg 4294967296 m Y) := by
  obtain ⟨cs, rfl, hsz⟩ := okWide_struct Tryd.underlying28 hok
  obtain ⟨v0, v1, rfl⟩ := two_cells cs (hsz.trans cellsF)
  obtain ⟨fuel, hf⟩ := h
  obtain ⟨y0, y1, m, hx, _, h0, h1⟩ := trod_struct2 Tryd.underlying28 hf
  have h0' : DataW.trod enc Tryd.prog W 0 (fun _ => true) true m 24 [v0] = some y0 := by
    simpa [Value.cells, cellsN] using h0
  have h1' : DataW.trod enc Tryd.prog W 0 (fun _ => true) true m 24 [v1] = some y1 := by
    simpa [Value.cells, cellsN] using h1
  obtain ⟨A, n, c, X, rfl, a1, a2, a3, a4⟩ := part_view h0'
  obtain ⟨B, k, e, Y, rfl, b1, b2, b3, b4⟩ := part_view h1'
  exact ⟨A, n, c, X, B, k, e, Y, rfl, a1, a2, a3, a4, b1, b2, b3, b4⟩
end Go.Proofs.YtinceponggpioaaDoor.frK

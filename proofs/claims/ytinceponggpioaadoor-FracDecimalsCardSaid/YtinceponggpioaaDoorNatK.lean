/-
  What the rows of this seat share: the closed facts, and a number among the arguments.
-/
import Derived.Test.YtinceponggpioaaDoorRows
import Derived.Test.YtinceponggpioaaDoorNatMath
import Derived.Test.YtinceponggpioaaDoorNatA
import Derived.Carry
import Derived.ProofKit
import Derived.OpenShut
import Derived.Lib.SmallJoins
import Derived.HandedShaped
import Derived.JoinedOf
namespace Go.Proofs.YtinceponggpioaaDoor.natK
open Go.ChangeShapes Go.WideShapes Go.ChangeAt Go.RowKit Go.Joins Go.Deep
open Go.Proofs.YtinceponggpioaaDoor.natM Go.Proofs.YtinceponggpioaaDoor.natA

theorem own : ownKnob Tryd.prog.godebug = none := by kernel_rfl
theorem laidOut : laidOutB Tryd.prog = true := by kernel_rfl
theorem cellsU : Tryd.prog.cellsOf 43 = 1 := by kernel_rfl
theorem cellsN : Tryd.prog.cellsOf 24 = 1 := by kernel_rfl
theorem one_cell (T : Array Value) (h : T.size = 1) : ∃ v0 : Value, T = #[v0] := by
  obtain ⟨l⟩ := T
  simp only [List.size_toArray] at h
  rcases l with _ | ⟨v0, l⟩
  · simp at h
  · rcases l with _ | ⟨v1, l⟩
    · exact ⟨v0, rfl⟩
    · simp at h
set_option maxRecDepth 4000 in
/-- the digits of a list of small integers -/
theorem nats_of {zs : List Int} (h : ∀ z ∈ zs, (Lit.int IntKind.u32 z).wf = true) : ∃ xs : List Nat, zs = xs.map (fun x : Nat => (x : Int)) ∧ ∀ x ∈ xs, x < 4294967296 := by
  induction zs with
  | nil => exact ⟨[], rfl, fun x hx => by cases hx⟩
  | cons z zs ih =>
    obtain ⟨xs, e, hx⟩ := ih (fun y hy => h y (List.mem_cons_of_mem _ hy))
    have hz := bounds_u32 (h z List.mem_cons_self)
    obtain ⟨k, rfl⟩ := Int.eq_ofNat_of_zero_le hz.1
    refine ⟨k :: xs, by simp [e], fun x hm => ?_⟩
    rcases List.mem_cons.1 hm with rfl | hm
    · omega
    · exact hx x hm
set_option maxRecDepth 4000 in
/-- a number among the arguments: what it reads as -/
theorem nat_view {H : Type} {enc : TypeId × Value → H} {W : World} {base : Nat} {v : Value} {d : DataW H} {p : List MemPlace} (hok : Value.okWide Tryd.prog W .any base 24 v)
    (h : DataW.Trod enc Tryd.prog W 0 (fun _ => true) true 24 v d p) :
    ∃ A n c X, v = .agg #[.slice A n c] ∧ Hid (X < 4294967296 ^ n) ∧ n ≤ c ∧ n ≤ 9223372036854775807 ∧ Cel .u32 W A (dg 4294967296 n X) := by
  obtain ⟨cs, rfl, hsz⟩ := okWide_struct Tryd.underlying24 hok
  obtain ⟨v0, rfl⟩ := one_cell cs (hsz.trans cellsN)
  obtain ⟨fuel, hf⟩ := h
  obtain ⟨y0, m, hx, _, h0⟩ := trod_struct1 Tryd.underlying24 hf
  have h1 : DataW.trod enc Tryd.prog W 0 (fun _ => true) true m 22 [v0] = some y0 := by
    have c1 : Tryd.prog.cellsOf 22 = 1 := by kernel_rfl
    simpa [Value.cells, c1] using h0
  rcases open_ints Tryd.underlying22 Tryd.underlying43 cellsU h1 with ⟨hcs, hx2⟩ | ⟨a, len, cap, zs, hcs, _, hl, hm, hz, hx2, hcell, hwz⟩
  · simp at hcs
    subst hcs
    exact ⟨none, 0, 0, 0, rfl, Lib.hid (by decide), by omega, by omega, fun h => by simp [dg] at h⟩
  · simp at hcs
    subst hcs
    simp only [if_true] at hz
    unfold maxLen at hm
    obtain ⟨xs, rfl, hsm⟩ := nats_of hwz
    rw [List.length_map] at hz
    have hsm2 : ∀ x ∈ xs.take len, x < 4294967296 := fun x hx => hsm x (List.mem_of_mem_take hx)
    have hlen : (xs.take len).length = len := by rw [List.length_take]; omega
    have e := dg_nv hsm2
    rw [hlen] at e
    refine ⟨some a, len, cap, nv 4294967296 (xs.take len), rfl, Lib.hid (by have := nv_lt hsm2; rwa [hlen] at this), hl, by omega, fun hp => ?_⟩
    rw [e] at hp ⊢
    rw [hlen] at hp
    obtain ⟨b, off, spot⟩ := a
    have hspot : spot = none := by simpa [Addr.add] using World.cell?_spot (hcell 0 (by rw [List.length_map]; omega))
    subst hspot
    refine ⟨b, off, rfl, fun j x hj => ?_⟩
    have hjl := lt_of_some hj
    rw [hlen] at hjl
    have := hcell j (by rw [List.length_map]; omega)
    rw [show (Addr.add ⟨b, off, none⟩ j) = ⟨b, off + j, none⟩ by simp [Addr.add]] at this
    rw [this]
    rw [List.getElem?_take_of_lt (by omega)] at hj
    simp [List.getD, hj]
end Go.Proofs.YtinceponggpioaaDoor.natK

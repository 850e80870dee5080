/-
  The laws' arguments opened: a row of tokens, bytes. What lies behind a slice's capacity is not asked for.
-/
import Derived.Test.YtgmnoghmkbbheaaRows
import Derived.Test.YtgmnoghmkbbheaaLxU
import Derived.Carry
import Derived.ProofKit
import Derived.OpenShut
import Derived.Lib.SmallJoins
import Derived.HandedShaped
import Derived.JoinedOf
import Derived.Deep.SlicePairs
namespace Go.Proofs.Ytgmnoghmkbbheaa.lxK
open Go.ChangeShapes Go.WideShapes Go.ChangeAt Go.RowKit Go.Joins Go.Deep
open Go.Proofs.Ytgmnoghmkbbheaa.lxM Go.Proofs.Ytgmnoghmkbbheaa.lxN Go.Proofs.Ytgmnoghmkbbheaa.lxA Go.Proofs.Ytgmnoghmkbbheaa.lxU
set_option linter.unusedVariables false

theorem own : ownKnob Try.prog.godebug = none := by kernel_rfl
theorem laidOut : laidOutB Try.prog = true := by kernel_rfl
theorem cells8 : Try.prog.cellsOf 5 = 1 := by kernel_rfl
theorem cellsI : Try.prog.cellsOf 3 = 1 := by kernel_rfl
theorem cellsS : Try.prog.cellsOf 9 = 1 := by kernel_rfl
theorem cellsX : Try.prog.cellsOf 32 = 4 := by kernel_rfl
section
variable {H : Type} {enc : TypeId × Value → H} {W : World} {x : DataW H × List MemPlace} {fuel : Nat} {cs : List Value}
theorem plain_of {a : Addr} {v : Value} {W : World} (h : W.cell? (a.add 0) = some v) : ∃ b off, a = ⟨b, off, none⟩ := by
  obtain ⟨b, off, spot⟩ := a
  have : spot = none := by simpa [Addr.add] using World.cell?_spot h
  exact ⟨b, off, by rw [this]⟩
theorem plain_of2 {a : Addr} {v : Value} {W : World} {k : Nat} (h : W.cell? ((a.add (0 * k)).add 0) = some v) : ∃ b off, a = ⟨b, off, none⟩ := by
  obtain ⟨b, off, spot⟩ := a
  have : spot = none := by simpa [Addr.add] using World.cell?_spot h
  exact ⟨b, off, by rw [this]⟩
/-- bytes -/
theorem bytes_of (h : DataW.trod enc Try.prog W 0 (fun _ => true) true fuel 36 cs = some x) :
    ∃ A n c B, cs = [.slice A n c] ∧ B.length = n ∧ n ≤ 9223372036854775807 ∧ Cb W A B := by
  rcases open_ints Try.underlying36 Try.underlying5 cells8 h with ⟨hcs, hx⟩ | ⟨a, len, cap, zs, hcs, _, hl, hm, hz, hx, hcell, hwz⟩
  · exact ⟨none, 0, 0, [], hcs, rfl, Nat.zero_le _, fun h => absurd h (by simp)⟩
  · simp only [if_true] at hz
    unfold maxLen at hm
    refine ⟨some a, len, cap, (zs.take len).map fun z => UInt8.ofNat z.toNat, hcs, by rw [List.length_map, List.length_take]; omega, by omega, fun hp => ?_⟩
    have hlen : 0 < len := by rw [List.length_map, List.length_take] at hp; omega
    obtain ⟨b, off, rfl⟩ := plain_of (hcell 0 (by omega))
    refine ⟨b, off, rfl, fun j y hj => ?_⟩
    rw [List.getElem?_map] at hj
    obtain ⟨z, hz1, rfl⟩ := Option.map_eq_some_iff.1 hj
    have hjl : j < len := by
      have := (List.getElem?_eq_some_iff.1 hz1).1
      rw [List.length_take] at this; omega
    rw [List.getElem?_take_of_lt hjl] at hz1
    have hc := hcell j (by omega)
    rw [add_plain] at hc
    rw [hc, List.getD_eq_getElem?_getD, hz1]
    have hw := bounds_u8 (hwz z (List.mem_of_getElem? hz1))
    show some (Value.int .u8 z) = some (vB (UInt8.ofNat z.toNat))
    unfold vB
    have e : ((UInt8.ofNat z.toNat).toNat : Int) = z := by
      rw [UInt8.toNat_ofNat', Nat.mod_eq_of_lt (by omega)]; omega
    rw [e]
/-- four cells that read as a token -/
theorem tok_of (h : DataW.trod enc Try.prog W 0 (fun _ => true) true fuel 32 cs = some x) :
    ∃ y : Tk, cs = [.int .i64 y.kind, .int .i64 y.line, .int .i64 y.col, .string y.text] ∧ y.text.size ≤ 9223372036854775807 := by
  obtain ⟨xs, n, _, rfl, hl, hlen, hf⟩ := DataW.trod_struct Try.underlying32 h
  rw [cellsX] at hl
  match cs, hl with
  | [v0, v1, v2, v3], _ =>
    match xs, hlen with
    | [y0, y1, y2, y3], _ =>
      have g0 := hf 0 _ rfl
      have g1 := hf 1 _ rfl
      have g2 := hf 2 _ rfl
      have g3 := hf 3 _ rfl
      simp [cellsI, cellsS] at g0 g1 g2 g3
      obtain ⟨a0, e0, _, w0⟩ := DataW.trod_int Try.underlying3 g0
      obtain ⟨a1, e1, _, w1⟩ := DataW.trod_int Try.underlying3 g1
      obtain ⟨a2, e2, _, w2⟩ := DataW.trod_int Try.underlying3 g2
      obtain ⟨a3, e3, _, w3⟩ := DataW.trod_string Try.underlying9 g3
      unfold maxLen at w3
      refine ⟨⟨a0, a1, a2, a3⟩, ?_, by show a3.size ≤ _; omega⟩
      simp at e0 e1 e2 e3
      rw [e0, e1, e2, e3]
instance : Inhabited Tk := ⟨⟨0, 0, 0, ⟨#[]⟩⟩⟩
/-- a row of tokens -/
theorem toks_of (h : DataW.trod enc Try.prog W 0 (fun _ => true) true fuel 23 cs = some x) :
    ∃ A n c xs, cs = [.slice A n c] ∧ xs.length = n ∧ n ≤ 9223372036854775807 ∧ n ≤ c ∧ Tks W A xs ∧ ∀ y ∈ xs, y.text.size ≤ 9223372036854775807 := by
  rcases open_slice Try.underlying23 h with ⟨hcs, hx⟩ | ⟨a, len, cap, m, n, D, Pl, hcs, hb, hl, hm, hmm, hx, hel⟩
  · exact ⟨none, 0, 0, [], hcs, rfl, Nat.zero_le _, Nat.le_refl _, fun h => absurd h (by simp), fun y hy => absurd hy (by simp)⟩
  · simp only [if_true] at hmm
    unfold maxLen at hm
    rw [cellsX] at hel
    have each : ∀ i, i < len → ∃ y : Tk, W.cells? 0 (a.add (i * 4)) 4 = some [.int .i64 y.kind, .int .i64 y.line, .int .i64 y.col, .string y.text] ∧ y.text.size ≤ 9223372036854775807 := fun i hi => by
      obtain ⟨cs', h1, h2⟩ := hel i (by omega)
      obtain ⟨y, rfl, h3⟩ := tok_of h2
      exact ⟨y, h1, h3⟩
    obtain ⟨q, hq⟩ := choose_lt each
    refine ⟨some a, len, cap, (List.range len).map q, hcs, by simp, by omega, hl, fun hp => ?_, fun y hy => ?_⟩
    · have hlen : 0 < len := by simpa using hp
      have c0 := (World.cells?_some (hq 0 hlen).1).2.2 0 (by omega)
      obtain ⟨b, off, rfl⟩ := plain_of2 c0
      refine ⟨b, off, rfl, fun j y hj => ?_⟩
      rw [List.getElem?_map] at hj
      obtain ⟨i, hi, rfl⟩ := Option.map_eq_some_iff.1 hj
      obtain ⟨hil, hie⟩ := List.getElem?_eq_some_iff.1 hi
      simp at hie hil
      subst hie
      have hc := (World.cells?_some (hq j hil).1).2.2
      have d0 := hc 0 (by omega)
      have d1 := hc 1 (by omega)
      have d2 := hc 2 (by omega)
      have d3 := hc 3 (by omega)
      rw [add_plain, add_plain] at d0 d1 d2 d3
      exact ⟨d0, d1, d2, d3⟩
    · obtain ⟨i, hi, rfl⟩ := List.mem_map.1 hy
      exact (hq i (List.mem_range.1 hi)).2
end
section
variable {H : Type} {enc : TypeId × Value → H} {W : World} {base : Nat} {v : Value} {d : DataW H} {p : List MemPlace}
theorem bytes_view (hok : Value.okWide Try.prog W .any base 36 v) (h : DataW.Trod enc Try.prog W 0 (fun _ => true) true 36 v d p) :
    ∃ A n c B, v = .slice A n c ∧ Hid (B.length = n) ∧ n ≤ 9223372036854775807 ∧ Cb W A B := by
  obtain ⟨a0, len, cap, rfl⟩ := okWide_slice Try.underlying36 hok
  obtain ⟨fuel, hf⟩ := h
  obtain ⟨A, n, c, B, e, r1, r⟩ := bytes_of hf
  simp [Value.cells] at e
  obtain ⟨rfl, rfl, rfl⟩ := e
  exact ⟨_, _, _, B, rfl, Lib.hid r1, r⟩
theorem toks_view (hok : Value.okWide Try.prog W .any base 23 v) (h : DataW.Trod enc Try.prog W 0 (fun _ => true) true 23 v d p) :
    ∃ A n c xs, v = .slice A n c ∧ Hid (xs.length = n) ∧ n ≤ 9223372036854775807 ∧ n ≤ c ∧ Tks W A xs ∧ ∀ y ∈ xs, y.text.size ≤ 9223372036854775807 := by
  obtain ⟨a0, len, cap, rfl⟩ := okWide_slice Try.underlying23 hok
  obtain ⟨fuel, hf⟩ := h
  obtain ⟨A, n, c, B, e, r1, r⟩ := toks_of hf
  simp [Value.cells] at e
  obtain ⟨rfl, rfl, rfl⟩ := e
  exact ⟨_, _, _, B, rfl, Lib.hid r1, r⟩
end
end Go.Proofs.Ytgmnoghmkbbheaa.lxK

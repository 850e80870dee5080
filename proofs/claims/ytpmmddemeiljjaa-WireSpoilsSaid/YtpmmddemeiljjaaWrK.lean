/-
  The laws' arguments opened: bytes, ints, an item, a row of items, of calls asked, of byte strings. What lies behind a slice's capacity is not asked for.
-/
import Derived.Test.YtpmmddemeiljjaaRows
import Derived.Test.YtpmmddemeiljjaaWrT
import Derived.Test.YtpmmddemeiljjaaWrY
import Derived.Carry
import Derived.ProofKit
import Derived.OpenShut
import Derived.Lib.SmallJoins
import Derived.HandedShaped
import Derived.JoinedOf
import Derived.Deep.SlicePairs
namespace Go.Proofs.Ytpmmddemeiljjaa.wrK
open Go.ChangeShapes Go.WideShapes Go.ChangeAt Go.RowKit Go.Joins Go.Deep
open Go.Proofs.Ytpmmddemeiljjaa.dgM Go.Proofs.Ytpmmddemeiljjaa.wrM Go.Proofs.Ytpmmddemeiljjaa.wrO Go.Proofs.Ytpmmddemeiljjaa.wrA Go.Proofs.Ytpmmddemeiljjaa.wrB Go.Proofs.Ytpmmddemeiljjaa.wrC Go.Proofs.Ytpmmddemeiljjaa.wrE Go.Proofs.Ytpmmddemeiljjaa.wrH Go.Proofs.Ytpmmddemeiljjaa.wrT Go.Proofs.Ytpmmddemeiljjaa.wrY
set_option linter.unusedVariables false

theorem own : ownKnob Try.prog.godebug = none := by kernel_rfl
theorem laidOut : laidOutB Try.prog = true := by kernel_rfl
theorem cells8 : Try.prog.cellsOf 5 = 1 := by kernel_rfl
theorem cellsI : Try.prog.cellsOf 3 = 1 := by kernel_rfl
theorem cellsU : Try.prog.cellsOf 30 = 1 := by kernel_rfl
theorem cellsS : Try.prog.cellsOf 9 = 1 := by kernel_rfl
theorem cellsIs : Try.prog.cellsOf 31 = 1 := by kernel_rfl
theorem cellsBs : Try.prog.cellsOf 38 = 1 := by kernel_rfl
theorem cellsX : Try.prog.cellsOf 33 = 5 := by kernel_rfl
theorem cellsA : Try.prog.cellsOf 46 = 2 := by kernel_rfl
section
variable {H : Type} {enc : TypeId × Value → H} {W : World} {x : DataW H × List MemPlace} {fuel : Nat} {cs : List Value}
theorem plain_of {a : Addr} {v : Value} {W : World} (h : W.cell? (a.add 0) = some v) : ∃ b off, a = ⟨b, off, none⟩ := by
  obtain ⟨b, off, spot⟩ := a
  have : spot = none := by simpa [Addr.add] using World.cell?_spot h
  exact ⟨b, off, by rw [this]⟩
theorem plain_of2 {a : Addr} {v : Value} {W : World} {k : Nat} (h : W.cell? ((a.add (0 * k)).add 0) = some v) : ∃ b off, a = ⟨b, off, none⟩ := by
  obtain ⟨b, off, spot⟩ := a
  have : spot = none := by simpa [Addr.add] using World.cell?_spot h
  exact ⟨b, off, by rw [this]⟩
/-- bytes -/
theorem bytes_of (h : DataW.trod enc Try.prog W 0 (fun _ => true) true fuel 38 cs = some x) :
    ∃ A n c B, cs = [.slice A n c] ∧ B.length = n ∧ n ≤ c ∧ n ≤ 9223372036854775807 ∧ (A = none → c = 0) ∧ Cb W A B := by
  rcases open_ints Try.underlying38 Try.underlying5 cells8 h with ⟨hcs, hx⟩ | ⟨a, len, cap, zs, hcs, _, hl, hm, hz, hx, hcell, hwz⟩
  · exact ⟨none, 0, 0, [], hcs, rfl, Nat.le_refl _, Nat.zero_le _, fun _ => rfl, fun h => absurd h (by simp)⟩
  · simp only [if_true] at hz
    unfold maxLen at hm
    refine ⟨some a, len, cap, (zs.take len).map fun z => UInt8.ofNat z.toNat, hcs, by rw [List.length_map, List.length_take]; omega, hl, by omega, fun e => (by cases e), fun hp => ?_⟩
    have hlen : 0 < len := by rw [List.length_map, List.length_take] at hp; omega
    obtain ⟨b, off, rfl⟩ := plain_of (hcell 0 (by omega))
    refine ⟨b, off, rfl, fun j y hj => ?_⟩
    rw [List.getElem?_map] at hj
    obtain ⟨z, hz1, rfl⟩ := Option.map_eq_some_iff.1 hj
    have hjl : j < len := by
      have := (List.getElem?_eq_some_iff.1 hz1).1
      rw [List.length_take] at this; omega
    rw [List.getElem?_take_of_lt hjl] at hz1
    have hc := hcell j (by omega)
    rw [add_plain] at hc
    rw [hc, List.getD_eq_getElem?_getD, hz1]
    have hw := bounds_u8 (hwz z (List.mem_of_getElem? hz1))
    show some (Value.int .u8 z) = some (vB (UInt8.ofNat z.toNat))
    unfold vB
    have e : ((UInt8.ofNat z.toNat).toNat : Int) = z := by
      rw [UInt8.toNat_ofNat', Nat.mod_eq_of_lt (by omega)]; omega
    rw [e]
/-- ints -/
theorem ints_of (h : DataW.trod enc Try.prog W 0 (fun _ => true) true fuel 31 cs = some x) :
    ∃ A zs c, cs = [.slice A zs.length c] ∧ zs.length ≤ c ∧ zs.length ≤ 9223372036854775807 ∧ (A = none → c = 0) ∧ Ci W A zs ∧ Fit zs := by
  rcases open_ints Try.underlying31 Try.underlying3 cellsI h with ⟨hcs, hx⟩ | ⟨a, len, cap, zs, hcs, _, hl, hm, hz, hx, hcell, hwz⟩
  · exact ⟨none, [], 0, hcs, Nat.le_refl _, Nat.zero_le _, fun _ => rfl, fun h => absurd h (by simp), fun _ h => absurd h (by simp)⟩
  · simp only [if_true] at hz
    unfold maxLen at hm
    have hll : (zs.take len).length = len := by rw [List.length_take]; omega
    refine ⟨some a, zs.take len, cap, by rw [hll]; exact hcs, by omega, by omega, fun e => (by cases e), fun hp => ?_, fun z hz => bounds_i64 (hwz z (List.mem_of_mem_take hz))⟩
    rw [hll] at hp
    obtain ⟨b, off, rfl⟩ := plain_of (hcell 0 (by omega))
    refine ⟨b, off, rfl, fun j y hj => ?_⟩
    have hjl : j < len := by
      have := (List.getElem?_eq_some_iff.1 hj).1
      omega
    rw [List.getElem?_take_of_lt hjl] at hj
    have hc := hcell j (by omega)
    rw [add_plain] at hc
    rw [hc, List.getD_eq_getElem?_getD, hj]; rfl
/-- five cells that read as an item -/
theorem item_of2 (h : DataW.trod enc Try.prog W 0 (fun _ => true) true fuel 33 cs = some x) :
    ∃ y : It, cs = [.int .i64 y.kind, .int .i64 y.n, .int .u64 (y.u : Int), .string y.s, .slice y.A y.l.length y.c] ∧ Ci W y.A y.l ∧ y.ok ∧ y.l.length ≤ 9223372036854775807 := by
  obtain ⟨xs, n, _, rfl, hl, hlen, hf⟩ := DataW.trod_struct Try.underlying33 h
  rw [cellsX] at hl
  match cs, hl with
  | [v0, v1, v2, v3, v4], _ =>
    match xs, hlen with
    | [y0, y1, y2, y3, y4], _ =>
      have g0 := hf 0 _ rfl
      have g1 := hf 1 _ rfl
      have g2 := hf 2 _ rfl
      have g3 := hf 3 _ rfl
      have g4 := hf 4 _ rfl
      simp [cellsI, cellsU, cellsS, cellsIs] at g0 g1 g2 g3 g4
      obtain ⟨a0, e0, _, w0⟩ := DataW.trod_int Try.underlying3 g0
      obtain ⟨a1, e1, _, w1⟩ := DataW.trod_int Try.underlying3 g1
      obtain ⟨a2, e2, _, w2⟩ := DataW.trod_int Try.underlying30 g2
      obtain ⟨a3, e3, _, w3⟩ := DataW.trod_string Try.underlying9 g3
      obtain ⟨A, zs, c, e4, hc, hm, hA, hI, hF⟩ := ints_of g4
      have b2 := bounds_u64 w2
      obtain ⟨u, rfl⟩ := Int.eq_ofNat_of_zero_le b2.1
      unfold maxLen at w3
      refine ⟨⟨a0, a1, u, a3, A, zs, c⟩, ?_, hI, ⟨bounds_i64 w0, bounds_i64 w1, by show u < 18446744073709551616; omega, hF, hc, by show a3.size ≤ _; omega, hA⟩, hm⟩
      simp at e0 e1 e2 e3 e4
      rw [e0, e1, e2, e3, e4]
theorem item_of (h : DataW.trod enc Try.prog W 0 (fun _ => true) true fuel 33 cs = some x) :
    ∃ y : It, cs = [.int .i64 y.kind, .int .i64 y.n, .int .u64 (y.u : Int), .string y.s, .slice y.A y.l.length y.c] ∧ Ci W y.A y.l ∧ y.ok := by
  obtain ⟨y, h1, h2, h3, _⟩ := item_of2 h
  exact ⟨y, h1, h2, h3⟩
/-- two cells that read as a call asked -/
theorem ask_of (h : DataW.trod enc Try.prog W 0 (fun _ => true) true fuel 46 cs = some x) :
    ∃ y : Ak, cs = [.int .i64 y.kind, .int .i64 y.most] ∧ y.ok := by
  obtain ⟨xs, n, _, rfl, hl, hlen, hf⟩ := DataW.trod_struct Try.underlying46 h
  rw [cellsA] at hl
  match cs, hl with
  | [v0, v1], _ =>
    match xs, hlen with
    | [y0, y1], _ =>
      have g0 := hf 0 _ rfl
      have g1 := hf 1 _ rfl
      simp [cellsI] at g0 g1
      obtain ⟨a0, e0, _, w0⟩ := DataW.trod_int Try.underlying3 g0
      obtain ⟨a1, e1, _, w1⟩ := DataW.trod_int Try.underlying3 g1
      simp at e0 e1
      exact ⟨⟨a0, a1⟩, by rw [e0, e1], bounds_i64 w0, bounds_i64 w1⟩
instance : Inhabited It := ⟨⟨0, 0, 0, ⟨#[]⟩, none, [], 0⟩⟩
instance : Inhabited Ak := ⟨⟨0, 0⟩⟩
instance : Inhabited Bl := ⟨⟨none, [], 0⟩⟩
/-- a row of items -/
theorem items_of (h : DataW.trod enc Try.prog W 0 (fun _ => true) true fuel 22 cs = some x) :
    ∃ A n c xs, cs = [.slice A n c] ∧ xs.length = n ∧ n ≤ 9223372036854775807 ∧ Its W A xs := by
  rcases open_slice Try.underlying22 h with ⟨hcs, hx⟩ | ⟨a, len, cap, m, n, D, Pl, hcs, hb, hl, hm, hmm, hx, hel⟩
  · exact ⟨none, 0, 0, [], hcs, rfl, Nat.zero_le _, fun h => absurd h (by simp)⟩
  · simp only [if_true] at hmm
    unfold maxLen at hm
    rw [cellsX] at hel
    have each : ∀ i, i < len → ∃ y : It, W.cells? 0 (a.add (i * 5)) 5 = some [.int .i64 y.kind, .int .i64 y.n, .int .u64 (y.u : Int), .string y.s, .slice y.A y.l.length y.c] ∧ Ci W y.A y.l ∧ y.ok := fun i hi => by
      obtain ⟨cs', h1, h2⟩ := hel i (by omega)
      obtain ⟨y, rfl, h3, h4⟩ := item_of h2
      exact ⟨y, h1, h3, h4⟩
    obtain ⟨q, hq⟩ := choose_lt each
    refine ⟨some a, len, cap, (List.range len).map q, hcs, by simp, by omega, fun hp => ?_⟩
    have hlen : 0 < len := by simpa using hp
    have c0 := (World.cells?_some (hq 0 hlen).1).2.2 0 (by omega)
    obtain ⟨b, off, rfl⟩ := plain_of2 c0
    refine ⟨b, off, rfl, fun j y hj => ?_⟩
    rw [List.getElem?_map] at hj
    obtain ⟨i, hi, rfl⟩ := Option.map_eq_some_iff.1 hj
    obtain ⟨hil, hie⟩ := List.getElem?_eq_some_iff.1 hi
    simp at hie hil
    subst hie
    obtain ⟨h1, h2, h3⟩ := hq j hil
    have hc := (World.cells?_some h1).2.2
    have d0 := hc 0 (by omega)
    have d1 := hc 1 (by omega)
    have d2 := hc 2 (by omega)
    have d3 := hc 3 (by omega)
    have d4 := hc 4 (by omega)
    rw [add_plain, add_plain] at d0 d1 d2 d3 d4
    exact ⟨d0, d1, d2, d3, d4, h2, h3⟩
/-- a row of calls asked -/
theorem asks_of (h : DataW.trod enc Try.prog W 0 (fun _ => true) true fuel 40 cs = some x) :
    ∃ A n c xs, cs = [.slice A n c] ∧ xs.length = n ∧ n ≤ 9223372036854775807 ∧ Aks W A xs := by
  rcases open_slice Try.underlying40 h with ⟨hcs, hx⟩ | ⟨a, len, cap, m, n, D, Pl, hcs, hb, hl, hm, hmm, hx, hel⟩
  · exact ⟨none, 0, 0, [], hcs, rfl, Nat.zero_le _, fun h => absurd h (by simp)⟩
  · simp only [if_true] at hmm
    unfold maxLen at hm
    rw [cellsA] at hel
    have each : ∀ i, i < len → ∃ y : Ak, W.cells? 0 (a.add (i * 2)) 2 = some [.int .i64 y.kind, .int .i64 y.most] ∧ y.ok := fun i hi => by
      obtain ⟨cs', h1, h2⟩ := hel i (by omega)
      obtain ⟨y, rfl, h3⟩ := ask_of h2
      exact ⟨y, h1, h3⟩
    obtain ⟨q, hq⟩ := choose_lt each
    refine ⟨some a, len, cap, (List.range len).map q, hcs, by simp, by omega, fun hp => ?_⟩
    have hlen : 0 < len := by simpa using hp
    have c0 := (World.cells?_some (hq 0 hlen).1).2.2 0 (by omega)
    obtain ⟨b, off, rfl⟩ := plain_of2 c0
    refine ⟨b, off, rfl, fun j y hj => ?_⟩
    rw [List.getElem?_map] at hj
    obtain ⟨i, hi, rfl⟩ := Option.map_eq_some_iff.1 hj
    obtain ⟨hil, hie⟩ := List.getElem?_eq_some_iff.1 hi
    simp at hie hil
    subst hie
    obtain ⟨h1, h3⟩ := hq j hil
    have hc := (World.cells?_some h1).2.2
    have d0 := hc 0 (by omega)
    have d1 := hc 1 (by omega)
    rw [add_plain, add_plain] at d0 d1
    exact ⟨d0, d1, h3⟩
/-- a row of byte strings -/
theorem rows_of (h : DataW.trod enc Try.prog W 0 (fun _ => true) true fuel 60 cs = some x) :
    ∃ A n c xs, cs = [.slice A n c] ∧ xs.length = n ∧ n ≤ 9223372036854775807 ∧ Bls W A xs ∧ ∀ k (h : k < xs.length), xs[k].l.length ≤ 9223372036854775807 := by
  rcases open_slice1 Try.underlying60 cellsBs h with ⟨hcs, hx⟩ | ⟨a, len, cap, m, n, V, D, Pl, hcs, hb, hl, hm, hmm, hx, hel⟩
  · exact ⟨none, 0, 0, [], hcs, rfl, Nat.zero_le _, fun h => absurd h (by simp), fun k h => absurd h (by simp)⟩
  · simp only [if_true] at hmm
    unfold maxLen at hm
    have each : ∀ i, i < len → ∃ y : Bl, W.cell? (a.add i) = some (.slice y.A y.l.length y.c) ∧ Cb W y.A y.l ∧ y.l.length ≤ y.c ∧ (y.A = none → y.c = 0) ∧ y.l.length ≤ 9223372036854775807 := fun i hi => by
      obtain ⟨h1, h2⟩ := hel i (by omega)
      obtain ⟨A, n, c, B, e, h3, h4, h5, h6, h7⟩ := bytes_of h2
      subst h3
      simp at e
      exact ⟨⟨A, B, c⟩, by rw [h1, e], h7, h4, h6, h5⟩
    obtain ⟨q, hq⟩ := choose_lt each
    refine ⟨some a, len, cap, (List.range len).map q, hcs, by simp, by omega, fun hp => ?_, fun k h => ?_⟩
    · have hlen : 0 < len := by simpa using hp
      obtain ⟨b, off, rfl⟩ := plain_of (a := a) (hq 0 hlen).1
      refine ⟨b, off, rfl, fun j y hj => ?_⟩
      rw [List.getElem?_map] at hj
      obtain ⟨i, hi, rfl⟩ := Option.map_eq_some_iff.1 hj
      obtain ⟨hil, hie⟩ := List.getElem?_eq_some_iff.1 hi
      simp at hie hil
      subst hie
      obtain ⟨h1, h2, h3, h4, h5⟩ := hq j hil
      rw [add_plain] at h1
      exact ⟨h1, h2, h3, h4⟩
    · simp at h ⊢
      exact (hq k h).2.2.2.2
end
/-! ### the arguments themselves -/
section
variable {H : Type} {enc : TypeId × Value → H} {W : World} {base : Nat} {v : Value} {d : DataW H} {p : List MemPlace}
theorem bytes_view (hok : Value.okWide Try.prog W .any base 38 v) (h : DataW.Trod enc Try.prog W 0 (fun _ => true) true 38 v d p) :
    ∃ A n c B, v = .slice A n c ∧ B.length = n ∧ n ≤ c ∧ n ≤ 9223372036854775807 ∧ (A = none → c = 0) ∧ Cb W A B := by
  obtain ⟨a0, len, cap, rfl⟩ := okWide_slice Try.underlying38 hok
  obtain ⟨fuel, hf⟩ := h
  obtain ⟨A, n, c, B, e, r⟩ := bytes_of hf
  simp [Value.cells] at e
  obtain ⟨rfl, rfl, rfl⟩ := e
  exact ⟨_, _, _, B, rfl, r⟩
theorem items_view (hok : Value.okWide Try.prog W .any base 22 v) (h : DataW.Trod enc Try.prog W 0 (fun _ => true) true 22 v d p) :
    ∃ A n c xs, v = .slice A n c ∧ Hid (xs.length = n) ∧ n ≤ 9223372036854775807 ∧ Its W A xs := by
  obtain ⟨a0, len, cap, rfl⟩ := okWide_slice Try.underlying22 hok
  obtain ⟨fuel, hf⟩ := h
  obtain ⟨A, n, c, B, e, r1, r2, r3⟩ := items_of hf
  simp [Value.cells] at e
  obtain ⟨rfl, rfl, rfl⟩ := e
  exact ⟨_, _, _, B, rfl, Lib.hid r1, r2, r3⟩
theorem asks_view (hok : Value.okWide Try.prog W .any base 40 v) (h : DataW.Trod enc Try.prog W 0 (fun _ => true) true 40 v d p) :
    ∃ A n c xs, v = .slice A n c ∧ Hid (xs.length = n) ∧ n ≤ 9223372036854775807 ∧ Aks W A xs := by
  obtain ⟨a0, len, cap, rfl⟩ := okWide_slice Try.underlying40 hok
  obtain ⟨fuel, hf⟩ := h
  obtain ⟨A, n, c, B, e, r1, r2, r3⟩ := asks_of hf
  simp [Value.cells] at e
  obtain ⟨rfl, rfl, rfl⟩ := e
  exact ⟨_, _, _, B, rfl, Lib.hid r1, r2, r3⟩
theorem rows_view (hok : Value.okWide Try.prog W .any base 60 v) (h : DataW.Trod enc Try.prog W 0 (fun _ => true) true 60 v d p) :
    ∃ A n c xs, v = .slice A n c ∧ Hid (xs.length = n) ∧ n ≤ 9223372036854775807 ∧ Bls W A xs ∧ Hid (∀ k (h : k < xs.length), xs[k].l.length ≤ 9223372036854775807) := by
  obtain ⟨a0, len, cap, rfl⟩ := okWide_slice Try.underlying60 hok
  obtain ⟨fuel, hf⟩ := h
  obtain ⟨A, n, c, B, e, r1, r2, r3, r4⟩ := rows_of hf
  simp [Value.cells] at e
  obtain ⟨rfl, rfl, rfl⟩ := e
  exact ⟨_, _, _, B, rfl, Lib.hid r1, r2, r3, Lib.hid r4⟩
theorem item_view (hok : Value.okWide Try.prog W .any base 33 v) (h : DataW.Trod enc Try.prog W 0 (fun _ => true) true 33 v d p) :
    ∃ y : It, v = .agg #[.int .i64 y.kind, .int .i64 y.n, .int .u64 (y.u : Int), .string y.s, .slice y.A y.l.length y.c] ∧ Ci W y.A y.l ∧ y.ok ∧ y.l.length ≤ 9223372036854775807 := by
  obtain ⟨cs, rfl, hsz⟩ := okWide_struct Try.underlying33 hok
  obtain ⟨fuel, hf⟩ := h
  obtain ⟨y, e, h1, h2, h3⟩ := item_of2 hf
  simp [Value.cells] at e
  refine ⟨y, ?_, h1, h2, h3⟩
  cases cs
  simp_all
end
end Go.Proofs.Ytpmmddemeiljjaa.wrK

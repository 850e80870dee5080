/-
  Two streams side by side; the laws' lives; the laws StreamNexts, StreamBelow, StreamNil.
-/
import Derived.Test.YtikhhceoonfhcaaDoorStE
namespace Go.Proofs.YtikhhceoonfhcaaDoor.stL
open Go.RowKit
open Go.Proofs.YtikhhceoonfhcaaDoor.dgM Go.Proofs.YtikhhceoonfhcaaDoor.dgA Go.Proofs.YtikhhceoonfhcaaDoor.dgB Go.Proofs.YtikhhceoonfhcaaDoor.stM Go.Proofs.YtikhhceoonfhcaaDoor.stA Go.Proofs.YtikhhceoonfhcaaDoor.stB Go.Proofs.YtikhhceoonfhcaaDoor.stC Go.Proofs.YtikhhceoonfhcaaDoor.stD Go.Proofs.YtikhhceoonfhcaaDoor.stE
set_option linter.unusedVariables false

/-! ### two streams -/
structure Two (w0 w : World) (p q a b k j : Nat) : Prop where
  s : Lv w p a k
  t : Lv w q b j
  ne : p ≠ q
  g1 : w0.heap.size ≤ p
  g2 : w0.heap.size ≤ q
  b : Below w0.heap.size w0 w
section
variable {w0 w w' : World} {p q a b k j k' : Nat}
theorem Two.s1 (h : Two w0 w p q a b k j) (l : Lv w' p a k') (m : Mv w [p] w') : Two w0 w' p q a b k' j :=
  ⟨l, h.t.beside l m (Ne.symm h.ne), h.ne, h.g1, h.g2, m.below h.b (by simpa using h.g1)⟩
theorem Two.s2 (h : Two w0 w p q a b k j) (l : Lv w' q b k') (m : Mv w [q] w') : Two w0 w' p q a b k k' :=
  ⟨h.s.beside l m h.ne, l, h.ne, h.g1, h.g2, m.below h.b (by simpa using h.g2)⟩
theorem Two.on (h : Two w0 w p q a b k j) (m : Mv w [] w') : Two w0 w' p q a b k j :=
  ⟨h.s.on m, h.t.on m, h.ne, h.g1, h.g2, m.below h.b (by simp)⟩
end
theorem mv_below {w w' : World} (h : Mv w [] w') : Below w.heap.size w w' := h.below (Below.refl _ _) (by simp)
theorem two_start {w0 w1 w2 : World} {p q a b : Nat} (l1 : Lv w1 p a 0) (g1 : w0.heap.size ≤ p) (m1 : Mv w0 [] w1) (l2 : Lv w2 q b 0) (g2 : w1.heap.size ≤ q) (m2 : Mv w1 [] w2) : Two w0 w2 p q a b 0 0 :=
  ⟨l1.on m2, l2, by have := l1.lt; omega, g1, by have := m1.size; omega, m2.below (mv_below m1) (by simp)⟩

/-! ### lives -/
theorem cnt_one : cnt 1 = 1 := by decide
set_option maxRecDepth 10000 in
set_option maxHeartbeats 400000 in
theorem lives_any (w : World) (hR : Rnd w) :
    Calls Tryd.prog 10 #[] w fun e w' => e = .returned (.bool true) ∧ Mv w [] w' := by
  have cn : ∀ w, Rnd w → Calls Tryd.prog 11 #[.int .u64 1] w (NewP w 1) := fun w h => new_any 1 w h
  have cb : ∀ p w, Lv w p 1 0 → Calls Tryd.prog 18 #[.pointer (some ⟨p, 0, none⟩), .int .i64 1] w (Nst w p 1 1 (.tuple #[.int .i64 0, .int .i64 0])) :=
    fun p w h => below_any 1 (by omega) (by omega) p 1 0 0 0 1 (by decide) (Lib.hid (bl_one (by decide) 0)) w h
  have cu : ∀ p w, Lv w p 1 1 → Calls Tryd.prog 15 #[.pointer (some ⟨p, 0, none⟩)] w fun e w' => e = .returned (.int .i64 1) ∧ w = w' := fun p w h => by
    have := used_any p 1 1 w h
    rw [cnt_one] at this
    exact this
  go_enter Tryd.func10, Tryd.ntmps10
  go_wp2_with (first
    | (go_at_call 11; (refine (cn _ hR).mono ?_); rintro e w1 ⟨p, rfl, L1, g1, M1⟩)
    | (go_at_call 18; (refine (cb p _ L1).mono ?_); rintro e w2 ⟨rfl, L2, M2⟩)
    | (go_at_call 15; (refine (cu p _ L2).mono ?_); rintro e w' ⟨rfl, rfl⟩))
  go_ret
  exact ⟨rfl, M1.on M2 (fun k hk => by simp at hk; omega)⟩

/-! ### StreamNexts -/
set_option maxRecDepth 10000 in
set_option maxHeartbeats 1000000 in
theorem nexts (a : Nat) (n : Int) (ha : a < A64) (w : World) (hR : Rnd w) :
    Calls Tryd.prog 3 #[.int .u64 (a : Int), .int .i64 n] w fun e w' => e = .returned (.bool true) ∧ Below w.heap.size w w' := by
  by_cases h : 40 < n
  · go_enter Tryd.func3, Tryd.ntmps3
    go_wp2_with (go_at_call 10; (refine (lives_any _ hR).mono ?_); rintro e w1 ⟨rfl, M1⟩)
    go_ret
    exact ⟨rfl, mv_below M1⟩
  · have hn : n ≤ 40 := by omega
    go_enter Tryd.func3, Tryd.ntmps3
    go_wp2_with (first
      | (go_at_call 11; (refine (new_any a _ hR).mono ?_); rintro e w1 ⟨p, rfl, L1, g1, M1⟩)
      | (go_at_call 12; (refine (rnew_any a _ L1.rnd).mono ?_); rintro e w2 ⟨q, rfl, L2, g2, M2⟩))
    have D := Lib.hid (two_start L1 g1 M1 L2 g2 M2)
    clear L1 L2 M1 M2
    go_loopw [7] (fun s7 wr => ∃ i : Nat, i ≤ 40 ∧ s7 = .int .i64 (i : Int) ∧ Hid (Two w wr p q a a i i)) (fun s7 _ => 40 - (intOf s7).toNat)
    case atStart => exact ⟨0, by omega, rfl, D⟩
    case round =>
      obtain ⟨i, hi, rfl, D⟩ := hrel
      by_cases hlt : (i : Int) < n
      · obtain ⟨V, hV⟩ : ∃ V, V = vl a (i + 1) := ⟨_, rfl⟩
        have c1 := fun w h => next_any p a i V ha (Lib.hid hV) w h
        have c2 := fun w h => rnext_any q a i V ha (Lib.hid hV) w h
        have t : ((V : Int) != (V : Int)) = false := by simp
        have hi1 : i + 1 ≤ 40 := by omega
        clear hV
        go_wp2_with (first
          | (go_at_call 13; (refine (c1 _ D.out.s).mono ?_); rintro e w3 ⟨rfl, l3, m3⟩; have D3 := Lib.hid (D.out.s1 l3 m3); clear l3 m3)
          | (go_at_call 14; (refine (c2 _ D3.out.t).mono ?_); rintro e w4 ⟨rfl, l4, m4⟩; have D4 := Lib.hid (D3.out.s2 l4 m4); clear l4 m4))
        go_roundw
        case rel => exact ⟨i + 1, hi1, by go_num, D4⟩
        case measure => simp [intOf]; omega
      · have c1 := fun w h => used_any p a i w h
        have c2 := fun w h => rused_any q a i w h
        have t : (cnt i == cnt i) = true := by simp
        generalize cnt i = U at *
        go_wp2_with (first
          | (go_at_call 15; (refine (c1 _ D.out.s).mono ?_); rintro e w' ⟨rfl, rfl⟩)
          | (go_at_call 16; (refine (c2 _ D.out.t).mono ?_); rintro e w' ⟨rfl, rfl⟩)
          | (go_at_call 10; (refine (lives_any _ D.out.s.rnd).mono ?_); rintro e w9 ⟨rfl, M9⟩))
        go_ret
        exact ⟨rfl, M9.below D.out.b (by simp)⟩

/-! ### StreamBelow -/
set_option maxRecDepth 10000 in
set_option maxHeartbeats 1000000 in
theorem belows (a : Nat) (n : Int) (ha : a < A64) (w : World) (hR : Rnd w) :
    Calls Tryd.prog 5 #[.int .u64 (a : Int), .int .i64 n] w fun e w' => e = .returned (.bool true) ∧ Below w.heap.size w w' := by
  by_cases ho : n < 1 ∨ 2147483648 < n
  · have c1 := fun p w => below_out n ho p w
    have c2 := fun p w => rbelow_out n ho p w
    have c3 := fun p w h => used_any p a 0 w h
    have c4 := fun p w h => rused_any p a 0 w h
    have t : (cnt 0 == cnt 0) = true := by simp
    generalize cnt 0 = U at *
    clear ho
    go_enter Tryd.func5, Tryd.ntmps5
    go_wp2_with (first
      | (go_at_call 11; (refine (new_any a _ hR).mono ?_); rintro e w1 ⟨p, rfl, L1, g1, M1⟩)
      | (go_at_call 12; (refine (rnew_any a _ L1.rnd).mono ?_); rintro e w2 ⟨q, rfl, L2, g2, M2⟩; have D := Lib.hid (two_start L1 g1 M1 L2 g2 M2); clear L1 L2 M1 M2)
      | (go_at_call 18; (refine (c1 _ _).mono ?_); rintro e w' ⟨rfl, rfl⟩)
      | (go_at_call 19; (refine (c2 _ _).mono ?_); rintro e w' ⟨rfl, rfl⟩)
      | (go_at_call 15; (refine (c3 _ _ D.out.s).mono ?_); rintro e w' ⟨rfl, rfl⟩)
      | (go_at_call 16; (refine (c4 _ _ D.out.t).mono ?_); rintro e w' ⟨rfl, rfl⟩)
      | (go_at_call 10; (refine (lives_any _ D.out.s.rnd).mono ?_); rintro e w9 ⟨rfl, M9⟩))
    go_ret
    exact ⟨rfl, M9.below D.out.b (by simp)⟩
  · obtain ⟨m, rfl⟩ := Int.eq_ofNat_of_zero_le (show 0 ≤ n by omega)
    have h0 : 0 < m := by omega
    have h1 : m ≤ 2147483648 := by omega
    obtain ⟨B, hB⟩ : ∃ B, B = bl a := ⟨_, rfl⟩
    have hbl := bl_bl a
    rw [← hB] at hbl
    have hlt := hbl.lt m 0 h0
    have her := hbl.err m 0
    cases hb : B m 0 with
    | mk V r =>
    obtain ⟨E, k1⟩ := r
    rw [hb] at hlt her
    rw [hB] at hb
    have c1 := fun p w h => below_any m h0 h1 p a 0 V E k1 ha (Lib.hid hb) w h
    have c2 := fun p w h => rbelow_any m h0 h1 p a 0 V E k1 ha (Lib.hid hb) w h
    have c3 := fun p w h => used_any p a k1 w h
    have c4 := fun p w h => rused_any p a k1 w h
    have t : (cnt k1 == cnt k1) = true := by simp
    have t1 : ((E : Int) == (E : Int)) = true := by simp
    have t2 : ((V : Int) == (V : Int)) = true := by simp
    have t3 : (0 : Int) ≤ (V : Int) := by omega
    have t4 : (V : Int) < (m : Int) := by simp only at hlt; omega
    generalize cnt k1 = U at *
    clear hb hB hbl hlt ho
    rcases her with e | e
    · obtain rfl : E = 0 := e
      have c1' : ∀ p w, Lv w p a 0 → Calls Tryd.prog 18 #[.pointer (some ⟨p, 0, none⟩), .int .i64 (m : Int)] w (Nst w p a k1 (.tuple #[.int .i64 (V : Int), .int .i64 0])) := c1
      have c2' : ∀ p w, Lv w p a 0 → Calls Tryd.prog 19 #[.pointer (some ⟨p, 0, none⟩), .int .i64 (m : Int)] w (Nst w p a k1 (.tuple #[.int .i64 (V : Int), .int .i64 0])) := c2
      go_enter Tryd.func5, Tryd.ntmps5
      go_wp2_with (first
        | (go_at_call 11; (refine (new_any a _ hR).mono ?_); rintro e w1 ⟨p, rfl, L1, g1, M1⟩)
        | (go_at_call 12; (refine (rnew_any a _ L1.rnd).mono ?_); rintro e w2 ⟨q, rfl, L2, g2, M2⟩; have D := Lib.hid (two_start L1 g1 M1 L2 g2 M2); clear L1 L2 M1 M2)
        | (go_at_call 18; (refine (c1' _ _ D.out.s).mono ?_); rintro e w3 ⟨rfl, l3, m3⟩; have D3 := Lib.hid (D.out.s1 l3 m3); clear l3 m3)
        | (go_at_call 19; (refine (c2' _ _ D3.out.t).mono ?_); rintro e w4 ⟨rfl, l4, m4⟩; have D4 := Lib.hid (D3.out.s2 l4 m4); clear l4 m4)
        | (go_at_call 15; (refine (c3 _ _ D4.out.s).mono ?_); rintro e w' ⟨rfl, rfl⟩)
        | (go_at_call 16; (refine (c4 _ _ D4.out.t).mono ?_); rintro e w' ⟨rfl, rfl⟩)
        | (go_at_call 10; (refine (lives_any _ D4.out.s.rnd).mono ?_); rintro e w9 ⟨rfl, M9⟩))
      go_ret
      exact ⟨rfl, M9.below D4.out.b (by simp)⟩
    · obtain rfl : E = 11 := e
      have c1' : ∀ p w, Lv w p a 0 → Calls Tryd.prog 18 #[.pointer (some ⟨p, 0, none⟩), .int .i64 (m : Int)] w (Nst w p a k1 (.tuple #[.int .i64 (V : Int), .int .i64 11])) := c1
      have c2' : ∀ p w, Lv w p a 0 → Calls Tryd.prog 19 #[.pointer (some ⟨p, 0, none⟩), .int .i64 (m : Int)] w (Nst w p a k1 (.tuple #[.int .i64 (V : Int), .int .i64 11])) := c2
      go_enter Tryd.func5, Tryd.ntmps5
      go_wp2_with (first
        | (go_at_call 11; (refine (new_any a _ hR).mono ?_); rintro e w1 ⟨p, rfl, L1, g1, M1⟩)
        | (go_at_call 12; (refine (rnew_any a _ L1.rnd).mono ?_); rintro e w2 ⟨q, rfl, L2, g2, M2⟩; have D := Lib.hid (two_start L1 g1 M1 L2 g2 M2); clear L1 L2 M1 M2)
        | (go_at_call 18; (refine (c1' _ _ D.out.s).mono ?_); rintro e w3 ⟨rfl, l3, m3⟩; have D3 := Lib.hid (D.out.s1 l3 m3); clear l3 m3)
        | (go_at_call 19; (refine (c2' _ _ D3.out.t).mono ?_); rintro e w4 ⟨rfl, l4, m4⟩; have D4 := Lib.hid (D3.out.s2 l4 m4); clear l4 m4)
        | (go_at_call 15; (refine (c3 _ _ D4.out.s).mono ?_); rintro e w' ⟨rfl, rfl⟩)
        | (go_at_call 16; (refine (c4 _ _ D4.out.t).mono ?_); rintro e w' ⟨rfl, rfl⟩)
        | (go_at_call 10; (refine (lives_any _ D4.out.s.rnd).mono ?_); rintro e w9 ⟨rfl, M9⟩))
      go_ret
      exact ⟨rfl, M9.below D4.out.b (by simp)⟩

/-! ### StreamNil -/
set_option maxRecDepth 10000 in
set_option maxHeartbeats 1000000 in
theorem nils (n k : Int) (w : World) (hR : Rnd w) :
    Calls Tryd.prog 9 #[.int .i64 n, .int .i64 k] w fun e w' => e = .returned (.bool true) ∧ Below w.heap.size w w' := by
  go_enter Tryd.func9, Tryd.ntmps9
  go_wp2_with (first
    | (go_at_call 18; (refine (below_nil n _).mono ?_); rintro e w' ⟨rfl, rfl⟩)
    | (go_at_call 20; (refine (shuf_nil n _).mono ?_); rintro e w' ⟨rfl, rfl⟩)
    | (go_at_call 22; (refine (samp_nil n k _).mono ?_); rintro e w' ⟨rfl, rfl⟩)
    | (go_at_call 13; (refine (next_nil _).mono ?_); rintro e w' ⟨rfl, rfl⟩)
    | (go_at_call 15; (refine (used_nil _).mono ?_); rintro e w' ⟨rfl, rfl⟩)
    | (go_at_call 10; (refine (lives_any _ hR).mono ?_); rintro e w9 ⟨rfl, M9⟩))
  go_ret
  exact ⟨rfl, mv_below M9⟩
end Go.Proofs.YtikhhceoonfhcaaDoor.stL

/-
  Contracts of the law's own helpers: same (where both lists are one), total (where it adds up), awake: it answers true; new memory and draws alone.
-/
import Derived.Test.YtkblcnomjgocmaaDoorMonV
namespace Go.Proofs.YtkblcnomjgocmaaDoor.monW
open Go.RowKit
open Go.Proofs.YtkblcnomjgocmaaDoor.numM Go.Proofs.YtkblcnomjgocmaaDoor.numA Go.Proofs.YtkblcnomjgocmaaDoor.numB Go.Proofs.YtkblcnomjgocmaaDoor.numT Go.Proofs.YtkblcnomjgocmaaDoor.numG Go.Proofs.YtkblcnomjgocmaaDoor.monA Go.Proofs.YtkblcnomjgocmaaDoor.monM Go.Proofs.YtkblcnomjgocmaaDoor.monB Go.Proofs.YtkblcnomjgocmaaDoor.monC Go.Proofs.YtkblcnomjgocmaaDoor.monD Go.Proofs.YtkblcnomjgocmaaDoor.monX Go.Proofs.YtkblcnomjgocmaaDoor.monT Go.Proofs.YtkblcnomjgocmaaDoor.monU Go.Proofs.YtkblcnomjgocmaaDoor.monV
set_option linter.unusedVariables false

set_option maxHeartbeats 1000000 in
theorem same_yes (A B : Option Addr) (n c d : Nat) (zs : List Int) (hn : Hid (zs.length = n)) (hN : n ≤ 9223372036854775807) (w : World) (hA : Ints w A zs) (hB : Ints w B zs) :
    Calls Tryd.prog 24 #[.slice A n c, .slice B n d] w fun e w' => e = .returned (.bool true) ∧ ∃ k, w' = w.drewN k := by
  go_enter Tryd.func24, Tryd.ntmps24
  go_wp2
  go_loopw [13] (fun i wr => ∃ k j : Nat, k ≤ n ∧ i = .int .i64 k ∧ wr = w.drewN j) (fun i _ => n - (intOf i).toNat)
  case atStart => exact ⟨0, 0, by omega, rfl, rfl⟩
  case round =>
    obtain ⟨k, j, hk, rfl, rfl⟩ := hrel
    by_cases hlt : k < n
    · obtain ⟨b1, o1, rfl, hx⟩ := hA.at_ (k := k) (by rw [hn.out]; exact hlt)
      obtain ⟨b2, o2, rfl, hy⟩ := hB.at_ (k := k) (by rw [hn.out]; exact hlt)
      generalize at0 zs k = x at *
      have i0 : (0 : Int) ≤ (k : Int) := by omega
      have i1 : (k : Int) < (n : Int) := by omega
      go_wp2
      go_quiet (fail)
      go_wp2
      go_roundw
      case rel => exact ⟨k + 1, _, by omega, by go_num, rfl⟩
      case measure => simp [intOf]; omega
    · have e : k = n := by omega
      subst e
      go_wp2
      go_ret
      exact ⟨rfl, j, rfl⟩

set_option maxHeartbeats 1000000 in
theorem total_yes (q n r m : Int) (hm : Hid (q * n + r = m)) (q0 : -9223372036854775808 ≤ q) (q1 : q ≤ 9223372036854775807) (n0 : -9223372036854775808 ≤ n) (n1 : n ≤ 9223372036854775807) (r0 : -9223372036854775808 ≤ r) (r1 : r ≤ 9223372036854775807)
    (p0 : -9223372036854775808 ≤ q * n) (p1 : q * n ≤ 9223372036854775807) (m0 : -9223372036854775808 ≤ m) (m1 : m ≤ 9223372036854775807) (w : World) :
    Calls Tryd.prog 26 #[.int .i64 q, .int .i64 n, .int .i64 r, .int .i64 m] w fun e w' => e = .returned (.bool true) ∧ w = w' := by
  have c1 := fun w => rmul_any q n q0 q1 n0 n1 w
  rw [fitV_in p0 p1, fitE_in p0 p1] at c1
  have c2 := fun w => radd_any (q * n) r p0 p1 r0 r1 w
  rw [hm.out, fitV_in m0 m1, fitE_in m0 m1] at c2
  generalize q * n = p at *
  clear hm
  go_enter Tryd.func26, Tryd.ntmps26
  go_wp2_with (first
    | (go_at_call 40; refine (c1 _).mono ?_; rintro e w' ⟨rfl, rfl⟩)
    | (go_at_call 41; refine (c2 _).mono ?_; rintro e w' ⟨rfl, rfl⟩))
  go_ret
  exact ⟨rfl, rfl⟩

theorem RowI.below {w w1 : World} {g : Nat} {zs : List Int} (h : RowI w g zs) (hb : Below w.heap.size w w1) : RowI w1 g zs := (hb.block g h.lt).trans h
theorem c_split (w : World) : Calls Tryd.prog 22 #[.int .i64 10, .slice (some ⟨w.heap.size, 0, none⟩) 3 3] (w.alloc (.cells #[.int .i64 1, .int .i64 2, .int .i64 4] 3)) (SplitPost [1, 3, 6] 3 (w.alloc (.cells #[.int .i64 1, .int .i64 2, .int .i64 4] 3))) := by
  have h := split_ok 10 (some ⟨w.heap.size, 0, none⟩) 3 3 [1, 2, 4] rfl (by show _ = _; decide) (w.alloc (.cells (rowA [1, 2, 4]) 3)) (RowI.new_ w [1, 2, 4] rfl).ints
  rw [show parts 10 [1, 2, 4] = [1, 3, 6] by decide] at h
  exact h
theorem c_same (w : World) (g : Nat) (h : RowI w g [1, 3, 6]) : Calls Tryd.prog 24 #[.slice (some ⟨g, 0, none⟩) 3 3, .slice (some ⟨w.heap.size, 0, none⟩) 3 3] (w.alloc (.cells #[.int .i64 1, .int .i64 3, .int .i64 6] 3)) fun e w' => e = .returned (.bool true) ∧ ∃ k, w' = (w.alloc (.cells #[.int .i64 1, .int .i64 3, .int .i64 6] 3)).drewN k :=
  same_yes (some ⟨g, 0, none⟩) (some ⟨w.heap.size, 0, none⟩) 3 3 3 [1, 3, 6] rfl (by omega) (w.alloc (.cells (rowA [1, 3, 6]) 3)) (h.alloc _).ints (RowI.new_ w [1, 3, 6] rfl).ints
theorem c_parse (w : World) : Calls Tryd.prog 27 #[.string ⟨#[49, 50, 46, 51, 52]⟩] w fun e w' => e = .returned (.tuple #[.int .i64 1234, .int .i64 0]) ∧ Below w.heap.size w w' :=
  mparse_any ⟨#[49, 50, 46, 51, 52]⟩ 1234 0 (by show _ = _; decide) (by show _ = _; decide) (by decide) w (fun n hn _ _ => by
    have : n = 2 := by have h5 : (⟨#[49, 50, 46, 51, 52]⟩ : ByteArray).size = 5 := rfl
                       omega
    subst this; left; decide)
theorem c_round (w : World) : Calls Tryd.prog 18 #[.int .i64 1234, .int .i64 100] w fun e w' => e = .returned (.tuple #[.int .i64 1200, .int .i64 34, .int .i64 0]) ∧ w = w' :=
  round_in 1234 100 ⟨⟨by omega, by omega⟩, by omega, by omega⟩ (by omega) w
theorem fmt1234 : fmtL 1234 = [49, 50, 46, 51, 52] := by
  unfold fmtL
  rw [show 1234 / 100 = 12 by rfl, Lib.decDigits, dif_neg (by omega), Lib.decDigits, dif_pos (by omega)]; rfl
theorem c_fmt (w : World) (h : Tab w) : Calls Tryd.prog 29 #[.int .i64 1234] w fun e w' => e = .returned (.string ⟨#[49, 50, 46, 51, 52]⟩) ∧ Below w.heap.size w w' :=
  monV.format_in 1234 (by omega) ⟨#[49, 50, 46, 51, 52]⟩ (by show _ = _; rw [fmt1234]) w h
theorem c_valid (w : World) : Calls Tryd.prog 14 #[.int .i64 5] w fun e w' => e = .returned (.bool true) ∧ w = w' :=
  valid_any 5 true (by show _ = _; decide) w

set_option maxRecDepth 100000 in
set_option maxHeartbeats 1600000 in
theorem awake_any (w : World) (h : Tab w) : Calls Tryd.prog 11 #[] w fun e w' => e = .returned (.bool true) ∧ Below w.heap.size w w' := by
  go_enter Tryd.func11, Tryd.ntmps11
  go_upto_region 4 with (first
    | (go_at_call 22; refine (c_split w).mono ?_; rintro e w2 ⟨g, rfl, hrow, hg, hb⟩)
    | (go_at_call 27; refine (c_parse _).mono ?_; rintro e w3 ⟨rfl, hb3⟩)
    | (go_at_call 18; refine (c_round _).mono ?_; rintro e w' ⟨rfl, rfl⟩))
  have hb2 : Below w.heap.size w w3 := below_on (below_on ((Below.refl _ _).alloc (Nat.le_refl _) _) hb) hb3
  have ht := tab_on h hb2
  have cs := c_same w3 g (monW.RowI.below hrow hb3)
  have bel := fun k => below_on (below_on hb2 ((Below.refl _ w3).alloc (Nat.le_refl _) (.cells #[.int .i64 1, .int .i64 3, .int .i64 6] 3))) (below_draw _ k)
  have cf := fun k => c_fmt ((w3.alloc (.cells #[.int .i64 1, .int .i64 3, .int .i64 6] 3)).drewN k) (tab_on h (bel k))
  clear hrow hg hb hb3 h ht
  go_wp2_with (first
    | (go_at_call 24; refine cs.mono ?_; rintro e w' ⟨rfl, k, rfl⟩)
    | (go_at_call 29; refine (cf k).mono ?_; rintro e w6 ⟨rfl, hb6⟩)
    | (go_at_call 14; refine (c_valid _).mono ?_; rintro e w' ⟨rfl, rfl⟩))
  go_ret
  exact ⟨rfl, below_on (bel k) hb6⟩
end Go.Proofs.YtkblcnomjgocmaaDoor.monW

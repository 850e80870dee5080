/-
  Contracts of the program's token, behind.
-/
import Derived.Test.YtgmnoghmkbbheaaLxG
import Derived.Test.YtgmnoghmkbbheaaShelf
import Derived.Deep.RegionHeld3
import Derived.Laws.Rows
namespace Go.Proofs.Ytgmnoghmkbbheaa.lxH
open Go.RowKit Go.Shelf
open Go.Proofs.Ytgmnoghmkbbheaa.lxM Go.Proofs.Ytgmnoghmkbbheaa.lxN Go.Proofs.Ytgmnoghmkbbheaa.lxA Go.Proofs.Ytgmnoghmkbbheaa.lxE Go.Proofs.Ytgmnoghmkbbheaa.lxY Go.Proofs.Ytgmnoghmkbbheaa.lxF Go.Proofs.Ytgmnoghmkbbheaa.lxG
set_option linter.unusedVariables false

theorem below_new2 (w : World) (a b : Obj) : Below w.heap.size w ((w.alloc a).alloc b) := ((Below.refl _ w).alloc (Nat.le_refl _) a).alloc (by simp) b
theorem res_token : Try.f20.results = #[.cell 6 32] := by kernel_rfl
theorem res_behind : Try.f21.results = #[.cell 4 39] := by kernel_rfl
theorem token_any (x y k : Int) (t : ByteArray) (w : World) :
    Calls Try.prog 20 #[.agg #[.int .i64 x, .int .i64 y], .int .i64 k, .string t] w fun e w' => e = .returned (.agg #[.int .i64 k, .int .i64 x, .int .i64 y, .string t]) ∧ Below w.heap.size w w' := by
  go_enter Try.func20, Try.ntmps20
  go_wp2_with fail
  exact bodyPost_ret (results_cell_row res_token _ _ (w.heap.size + 1) 32 _ (0, 0) _ rfl (heap_alloc2_new w _ _) Try.underlying32 rfl (by kernel_rfl)) rfl ⟨rfl, below_new2 _ _ _⟩
set_option maxHeartbeats 1000000 in
theorem behind_any (x y X Y q : Nat) (t : ByteArray) (hq : Hid (q = ls t.data.toList t.size)) (hr : Hid ((q = 0 ∧ X = x ∧ Y = y + t.size) ∨ (0 < q ∧ X = x + Lib.countByte t.data.toList 10 ∧ Y + q = t.size + 1))) (hx : x ≤ 1000000) (hy : y ≤ 1000000) (ht : t.size ≤ 1000000) (w : World) :
    Calls Try.prog 21 #[.agg #[.int .i64 (x : Int), .int .i64 (y : Int)], .string t] w fun e w' => e = .returned (.agg #[.int .i64 (X : Int), .int .i64 (Y : Int)]) ∧ Below w.heap.size w w' := by
  have cl := fun w => Try.strings_LastIndexByte t 10 (by omega) w
  have cc := fun w => Try.strings_Count_one t 10 w
  have hl : Lib.lastIndexByte t 10 + 1 = (q : Int) := by rw [hq.out]; exact last_all t
  obtain ⟨v, hv⟩ : ∃ v, v = Lib.lastIndexByte t 10 := ⟨_, rfl⟩
  obtain ⟨u, hu⟩ : ∃ u, u = Lib.countByte t.data.toList 10 := ⟨_, rfl⟩
  have hul : u ≤ t.size := by rw [hu, size_len]; exact List.count_le_length
  rw [← hv] at cl hl
  rw [← hu] at cc hr
  clear hv hu
  have hql : q ≤ t.size := by rw [hq.out]; exact ls_le _ _
  rcases hr.out with ⟨rfl, rfl, rfl⟩ | ⟨h0, h1, h2⟩
  · have tq : (((0 : Nat) : Int) == 0) = true := rfl
    clear hr hq
    go_enter Try.func21, Try.ntmps21
    go_wp2_with (go_at_call 38; (refine (cl _).mono ?_); rintro e w' ⟨rfl, rfl⟩)
    exact bodyPost_ret (results_cell_row res_behind _ _ (w.heap.size + 1) 39 _ (0, 0) _ rfl (heap_alloc2_new w _ _) Try.underlying39 rfl (by kernel_rfl)) rfl ⟨rfl, below_new2 _ _ _⟩
  · have tq : ((q : Int) == 0) = false := by rw [beq_eq_false_iff_ne]; omega
    have f1 : IntKind.i64.wrap ((x : Int) + (u : Int)) = (X : Int) := by simp [IntKind.wrap, IntKind.bits, IntKind.signed]; omega
    have f2 : IntKind.i64.wrap (1 + (t.size : Int)) = 1 + (t.size : Int) := by simp [IntKind.wrap, IntKind.bits, IntKind.signed]; omega
    have f3 : IntKind.i64.wrap (1 + (t.size : Int) - (q : Int)) = (Y : Int) := by simp [IntKind.wrap, IntKind.bits, IntKind.signed]; omega
    clear hr hq h1 h2
    go_enter Try.func21, Try.ntmps21
    go_wp2_with (go_at_call 38; (refine (cl _).mono ?_); rintro e w' ⟨rfl, rfl⟩)
    go_region_with (go_at_call 39; (refine (cc _).mono ?_); rintro e w' ⟨rfl, rfl⟩)
    all_goals
      go_wp2_with fail
      exact bodyPost_ret (results_cell_row res_behind _ _ (w.heap.size + 1) 39 _ (0, 0) _ rfl (heap_alloc2_new w _ _) Try.underlying39 rfl (by kernel_rfl)) rfl ⟨rfl, Below.drew (below_new2 _ _ _)⟩
end Go.Proofs.Ytgmnoghmkbbheaa.lxH

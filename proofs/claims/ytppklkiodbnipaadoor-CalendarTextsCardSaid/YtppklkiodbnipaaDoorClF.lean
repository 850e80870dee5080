/-
  The program and the reference side by side: what both answer, call by call; what a walk carries; the law's dated.
-/
import Derived.Test.YtppklkiodbnipaaDoorClE
import Derived.Lib.SmallJoins
namespace Go.Proofs.YtppklkiodbnipaaDoor.clF
open Go.RowKit
open Go.Proofs.YtppklkiodbnipaaDoor.clM Go.Proofs.YtppklkiodbnipaaDoor.clA Go.Proofs.YtppklkiodbnipaaDoor.clB Go.Proofs.YtppklkiodbnipaaDoor.clC Go.Proofs.YtppklkiodbnipaaDoor.clD Go.Proofs.YtppklkiodbnipaaDoor.clE
set_option linter.unusedVariables false

/-- what a walk carries: the table of months, and that nothing old has changed -/
def Kc (w v : World) : Prop := Mon v ∧ Below w.heap.size w v
theorem Kc.start {w : World} (h : Mon w) : Kc w w := ⟨h, Below.refl _ _⟩
theorem Kc.drew {w v : World} (h : Kc w v) (k : Nat) : Kc w (v.drewN k) := ⟨h.1, below_on h.2 (below_draw _ _)⟩
theorem Kc.on {w v u : World} (h : Kc w v) (hb : Below v.heap.size v u) : Kc w u := ⟨Joins.tab_stays gMon h.1 hb (Nat.le_refl _), below_on h.2 hb⟩
theorem Kc.mon {w v : World} (h : Kc w v) : Mon v := h.1
theorem Kc.bel {w v : World} (h : Kc w v) : Below w.heap.size w v := h.2

theorem day_pair (y m d : Int) : ∃ V E : Int,
    (∀ w, Mon w → Calls Tryd.prog 9 #[.int .i64 y, .int .i64 m, .int .i64 d] w fun e w' => e = .returned (.tuple #[.int .i64 V, .int .i64 E]) ∧ ∃ d, w' = w.drewN d) ∧
    (∀ w, Calls Tryd.prog 10 #[.int .i64 y, .int .i64 m, .int .i64 d] w fun e w' => e = .returned (.tuple #[.int .i64 V, .int .i64 E]) ∧ Below w.heap.size w w') := by
  by_cases h : ∃ n, Dt y m d n ∧ n < 745654
  · obtain ⟨n, ⟨Y, M, D, rfl, rfl, rfl, hI⟩, hn⟩ := h
    exact ⟨n, 0, fun w hM => day_ok n Y M D hI hn w hM, fun w => rday_ok n Y M D hI hn w⟩
  · have h' : ∀ n, Dt y m d n → 745654 ≤ n := fun n hD => Nat.not_lt.1 fun hn => h ⟨n, hD, hn⟩
    exact ⟨0, 2, fun w hM => day_no y m d h' w hM, fun w => rday_no y m d h' w⟩
theorem date_pair (n : Int) : ∃ Y M D E : Int,
    (∀ w, Mon w → Calls Tryd.prog 11 #[.int .i64 n] w fun e w' => e = .returned (.tuple #[.int .i64 Y, .int .i64 M, .int .i64 D, .int .i64 E]) ∧ ∃ d, w' = w.drewN d) ∧
    (∀ w, Calls Tryd.prog 12 #[.int .i64 n] w fun e w' => e = .returned (.tuple #[.int .i64 Y, .int .i64 M, .int .i64 D, .int .i64 E]) ∧ Below w.heap.size w w') := by
  by_cases h : 0 ≤ n ∧ n < 745654
  · obtain ⟨N, rfl⟩ := Int.eq_ofNat_of_zero_le h.1
    obtain ⟨Y, M, D, hI⟩ := Is.ex N
    exact ⟨Y, M, D, 0, fun w hM => date_ok N Y M D hI (by omega) w hM, fun w => rdate_ok N Y M D hI (by omega) w⟩
  · exact ⟨0, 0, 0, 2, fun w hM => (date_no n h w).mono fun _ _ ⟨a, b⟩ => ⟨a, 0, b.symm⟩, fun w => (rdate_no n h w).mono fun _ _ ⟨a, b⟩ => ⟨a, by rw [b]; exact Below.refl _ _⟩⟩
theorem wk_pair (n : Int) : ∃ V E : Int,
    (∀ w, Calls Tryd.prog 13 #[.int .i64 n] w fun e w' => e = .returned (.tuple #[.int .i64 V, .int .i64 E]) ∧ w = w') ∧
    (∀ w, Calls Tryd.prog 14 #[.int .i64 n] w fun e w' => e = .returned (.tuple #[.int .i64 V, .int .i64 E]) ∧ w = w') := by
  by_cases h : 0 ≤ n ∧ n < 745654
  · obtain ⟨N, rfl⟩ := Int.eq_ofNat_of_zero_le h.1
    exact ⟨_, 0, fun w => wk_ok N (by omega) w, fun w => rwk_ok N (by omega) w⟩
  · exact ⟨0, 2, fun w => wk_no n h w, fun w => rwk_no n h w⟩

theorem age_no (b n : Int) (h : ¬ (0 ≤ b ∧ b < 745654 ∧ 0 ≤ n ∧ n < 745654 ∧ b ≤ n)) (w : World) :
    Calls Tryd.prog 16 #[.int .i64 b, .int .i64 n] w fun e w' => e = .returned (.tuple #[.int .i64 0, .int .i64 2]) ∧ w = w' := by
  by_cases h1 : 0 ≤ b ∧ b < 745654
  · have c1 := fun w => isday_any b true (Lib.hid (decide_eq_true h1).symm) w
    by_cases h2 : 0 ≤ n ∧ n < 745654
    · have c2 := fun w => isday_any n true (Lib.hid (decide_eq_true h2).symm) w
      have h3 : n < b := by omega
      clear h h1 h2
      go_enter Tryd.func16, Tryd.ntmps16
      go_wp2_with (go_at_call 25; first | ((with_reducible refine (c1 _).mono ?_); rintro e w' ⟨rfl, rfl⟩) | ((with_reducible refine (c2 _).mono ?_); rintro e w' ⟨rfl, rfl⟩))
      go_ret2
      exact ⟨rfl, rfl⟩
    · have c2 := fun w => isday_any n false (Lib.hid (decide_eq_false h2).symm) w
      clear h h1 h2
      go_enter Tryd.func16, Tryd.ntmps16
      go_wp2_with (go_at_call 25; first | ((with_reducible refine (c1 _).mono ?_); rintro e w' ⟨rfl, rfl⟩) | ((with_reducible refine (c2 _).mono ?_); rintro e w' ⟨rfl, rfl⟩))
      go_ret2
      exact ⟨rfl, rfl⟩
  · have c1 := fun w => isday_any b false (Lib.hid (decide_eq_false h1).symm) w
    clear h h1
    go_enter Tryd.func16, Tryd.ntmps16
    go_wp2_with (go_at_call 25; ((with_reducible refine (c1 _).mono ?_); rintro e w' ⟨rfl, rfl⟩))
    go_ret2
    exact ⟨rfl, rfl⟩
theorem rage_no (b n : Int) (h : ¬ (0 ≤ b ∧ b < 745654 ∧ 0 ≤ n ∧ n < 745654 ∧ b ≤ n)) (w : World) :
    Calls Tryd.prog 17 #[.int .i64 b, .int .i64 n] w fun e w' => e = .returned (.tuple #[.int .i64 0, .int .i64 2]) ∧ w = w' := by
  by_cases h1 : 0 ≤ b ∧ b < 745654
  · have c1 := fun w => risday_any b true (Lib.hid (decide_eq_true h1).symm) w
    by_cases h2 : 0 ≤ n ∧ n < 745654
    · have c2 := fun w => risday_any n true (Lib.hid (decide_eq_true h2).symm) w
      have h3 : n < b := by omega
      clear h h1 h2
      go_enter Tryd.func17, Tryd.ntmps17
      go_wp2_with (go_at_call 29; first | ((with_reducible refine (c1 _).mono ?_); rintro e w' ⟨rfl, rfl⟩) | ((with_reducible refine (c2 _).mono ?_); rintro e w' ⟨rfl, rfl⟩))
      go_ret2
      exact ⟨rfl, rfl⟩
    · have c2 := fun w => risday_any n false (Lib.hid (decide_eq_false h2).symm) w
      clear h h1 h2
      go_enter Tryd.func17, Tryd.ntmps17
      go_wp2_with (go_at_call 29; first | ((with_reducible refine (c1 _).mono ?_); rintro e w' ⟨rfl, rfl⟩) | ((with_reducible refine (c2 _).mono ?_); rintro e w' ⟨rfl, rfl⟩))
      go_ret2
      exact ⟨rfl, rfl⟩
  · have c1 := fun w => risday_any b false (Lib.hid (decide_eq_false h1).symm) w
    clear h h1
    go_enter Tryd.func17, Tryd.ntmps17
    go_wp2_with (go_at_call 29; ((with_reducible refine (c1 _).mono ?_); rintro e w' ⟨rfl, rfl⟩))
    go_ret2
    exact ⟨rfl, rfl⟩

theorem per_pair (t k : Int) : ∃ V1 V2 E : Int,
    (∀ w, Mon w → Calls Tryd.prog 18 #[.int .i64 t, .int .i64 k] w fun e w' => e = .returned (.tuple #[.int .i64 V1, .int .i64 V2, .int .i64 E]) ∧ ∃ d, w' = w.drewN d) ∧
    (∀ w, Calls Tryd.prog 19 #[.int .i64 t, .int .i64 k] w fun e w' => e = .returned (.tuple #[.int .i64 V1, .int .i64 V2, .int .i64 E]) ∧ Below w.heap.size w w') ∧
    (E = 0 ∧ (∃ (n : Nat) (F N : Int), t = n ∧ n ≤ 1073741824 ∧ Pk (n / 1440) k F N ∧ V1 = max (F * 1440) 0 ∧ V2 = min (N * 1440 - 1) 1073741824) ∨ E = 2 ∨ E = 7) := by
  have same : ∀ {f : FuncId} {a : Array Value} {v : Value} {w : World}, (Calls Tryd.prog f a w fun e w' => e = .returned v ∧ w = w') → (Calls Tryd.prog f a w fun e w' => e = .returned v ∧ ∃ d, w' = w.drewN d) := fun h => h.mono fun _ _ ⟨a, b⟩ => ⟨a, 0, b.symm⟩
  have same' : ∀ {f : FuncId} {a : Array Value} {v : Value} {w : World}, (Calls Tryd.prog f a w fun e w' => e = .returned v ∧ w = w') → (Calls Tryd.prog f a w fun e w' => e = .returned v ∧ Below w.heap.size w w') := fun h => h.mono fun _ _ ⟨a, b⟩ => ⟨a, by rw [b]; exact Below.refl _ _⟩
  by_cases h : 0 ≤ t ∧ t ≤ 1073741824
  · obtain ⟨n, rfl⟩ := Int.eq_ofNat_of_zero_le h.1
    have hn : n ≤ 1073741824 := by omega
    by_cases h1 : k = 1
    · subst h1
      exact ⟨_, _, 0, fun w _ => same (per_ok1 n _ _ hn (Lib.hid rfl) (Lib.hid rfl) w), fun w => same' (rper_ok1 n _ _ hn (Lib.hid rfl) (Lib.hid rfl) w), .inl ⟨rfl, n, ((n / 1440 : Nat) : Int), ((n / 1440 : Nat) : Int) + 1, rfl, hn, .inl ⟨rfl, rfl, rfl⟩, rfl, rfl⟩⟩
    by_cases h2 : k = 2
    · subst h2
      exact ⟨_, _, 0, fun w _ => same (per_ok2 n _ _ _ _ hn (Lib.hid rfl) (Lib.hid rfl) (Lib.hid rfl) (Lib.hid rfl) w), fun w => same' (rper_ok2 n _ _ _ _ hn (Lib.hid rfl) (Lib.hid rfl) (Lib.hid rfl) (Lib.hid rfl) w), .inl ⟨rfl, n, _, _, rfl, hn, .inr (.inl ⟨rfl, rfl, rfl⟩), rfl, rfl⟩⟩
    by_cases h3 : k = 3
    · subst h3
      obtain ⟨Y, M, D, hI⟩ := Is.ex (n / 1440)
      exact ⟨_, _, 0, fun w hM => per_ok3 n Y M D _ _ _ _ hn hI (Lib.hid rfl) (Lib.hid rfl) (Lib.hid rfl) (Lib.hid rfl) w hM, fun w => rper_ok3 n Y M D _ _ _ _ hn hI (Lib.hid rfl) (Lib.hid rfl) (Lib.hid rfl) (Lib.hid rfl) w, .inl ⟨rfl, n, _, _, rfl, hn, .inr (.inr ⟨rfl, Y, M, D, hI, rfl, rfl⟩), rfl, rfl⟩⟩
    exact ⟨0, 0, 7, fun w _ => same (per_kind n k hn h1 h2 h3 w), fun w => same' (rper_kind n k hn h1 h2 h3 w), .inr (.inr rfl)⟩
  · exact ⟨0, 0, 2, fun w _ => same (per_no t k h w), fun w => same' (rper_no t k h w), .inr (.inl rfl)⟩

theorem is60 : Is 60 2000 3 1 := ⟨by decide, by decide, by decide, by decide, by decide, by decide⟩
theorem dated_any (w : World) (hM : Mon w) :
    Calls Tryd.prog 15 #[] w fun e w' => e = .returned (.bool true) ∧ ∃ d, w' = w.drewN d := by
  have c1 := fun w h' => day_ok 60 2000 3 1 is60 (by omega) w h'
  have c2 : ∀ w, Mon w → Calls Tryd.prog 9 #[.int .i64 2000, .int .i64 3, .int .i64 1] w fun e w' => e = .returned (.tuple #[.int .i64 60, .int .i64 0]) ∧ ∃ d, w' = w.drewN d := c1
  clear c1
  go_enter Tryd.func15, Tryd.ntmps15
  go_wp2_with (go_at_call 9; (with_reducible refine (c2 _ hM).mono ?_); rintro e w' ⟨rfl, k, rfl⟩)
  go_ret
  exact ⟨rfl, _, rfl⟩
/-- the example's period -/
theorem per_eg (w : World) :
    Calls Tryd.prog 18 #[.int .i64 1500, .int .i64 1] w fun e w' => e = .returned (.tuple #[.int .i64 1440, .int .i64 2879, .int .i64 0]) ∧ w = w' :=
  per_ok1 1500 1440 2879 (by omega) (Lib.hid (by decide)) (Lib.hid (by decide)) w
end Go.Proofs.YtppklkiodbnipaaDoor.clF

/-
  The contract of awake: the examples of the chapter: it answers true; new memory and draws alone.
-/
import Derived.Test.YtfalonklnfekhaaDoorNumG
import Derived.Lib.AppendIntMem
namespace Go.Proofs.YtfalonklnfekhaaDoor.numW
open Go.RowKit
open Go.Proofs.YtfalonklnfekhaaDoor.numM Go.Proofs.YtfalonklnfekhaaDoor.numA Go.Proofs.YtfalonklnfekhaaDoor.numB Go.Proofs.YtfalonklnfekhaaDoor.numD Go.Proofs.YtfalonklnfekhaaDoor.numE Go.Proofs.YtfalonklnfekhaaDoor.numF Go.Proofs.YtfalonklnfekhaaDoor.numT Go.Proofs.YtfalonklnfekhaaDoor.numS Go.Proofs.YtfalonklnfekhaaDoor.numP Go.Proofs.YtfalonklnfekhaaDoor.numG
set_option linter.unusedVariables false

abbrev Tab (w : World) : Prop := Lib.TabIs Tryd.prog w "internal/strconv.uint64pow10" .u64 Lib.pow10Tab
theorem tab_on {w w1 : World} (h : Tab w) (hb : Below w.heap.size w w1) : Tab w1 := Lib.tabBelow_of_tabIs h w1 hb
theorem below_on {w w1 w2 : World} (h : Below w.heap.size w w1) (h2 : Below w1.heap.size w1 w2) : Below w.heap.size w w2 := h.trans (h2.mono h.size)
theorem below_draw (w : World) (k : Nat) : Below w.heap.size w (w.drewN k) := below_drewN (Below.refl _ _) k

theorem c_add (w : World) : Calls Tryd.prog 12 #[.int .i64 9223372036854775807, .int .i64 1] w fun e w' => e = .returned (.tuple #[.int .i64 0, .int .i64 9]) ∧ w = w' :=
  add_any 9223372036854775807 1 (by omega) (by omega) (by omega) (by omega) w
theorem c_sub (w : World) : Calls Tryd.prog 13 #[.int .i64 (-9223372036854775808), .int .i64 (-1)] w fun e w' => e = .returned (.tuple #[.int .i64 (-9223372036854775807), .int .i64 0]) ∧ w = w' :=
  sub_any (-9223372036854775808) (-1) (by omega) (by omega) (by omega) (by omega) w
theorem c_mul (w : World) : Calls Tryd.prog 14 #[.int .i64 (-9223372036854775808), .int .i64 (-1)] w fun e w' => e = .returned (.tuple #[.int .i64 0, .int .i64 9]) ∧ w = w' :=
  mul_any (-9223372036854775808) (-1) (by omega) (by omega) (by omega) (by omega) w
theorem c_md (w : World) : Calls Tryd.prog 19 #[.int .i64 7, .int .i64 3, .int .i64 2] w fun e w' => e = .returned (.tuple #[.int .i64 10, .int .i64 1, .int .i64 0]) ∧ ∃ k, w' = w.drewN k :=
  (md_any 7 3 2 (by omega) (by omega) (by omega) (by omega) (by omega) (by omega) w).1
theorem c_pow (w : World) : Calls Tryd.prog 22 #[.int .i64 (-2097152), .int .i64 3] w fun e w' => e = .returned (.tuple #[.int .i64 (-9223372036854775808), .int .i64 0]) ∧ w = w' :=
  pow_any (-2097152) 3 (by omega) (by omega) (by omega) (by omega) w
theorem c_gcd (w : World) : Calls Tryd.prog 24 #[.int .i64 12, .int .i64 (-18)] w fun e w' => e = .returned (.int .i64 6) ∧ ∃ k, w' = w.drewN k :=
  gcd_any 12 (-18) 6 (by show _ = _; decide) (by omega) (by omega) (by omega) (by omega) w
theorem c_p1 (w : World) : Calls Tryd.prog 26 #[.string ⟨#[45, 49, 50]⟩] w fun e w' => e = .returned (.tuple #[.int .i64 (-12), .int .i64 0]) ∧ Below w.heap.size w w' :=
  parse_in ⟨#[45, 49, 50]⟩ (-12) (by show _ = _; decide) (by show _ = _; decide) (by omega) (by omega) (by decide) w
theorem c_p2 (w : World) : Calls Tryd.prog 26 #[.string ⟨#[48, 48, 55]⟩] w fun e w' => e = .returned (.tuple #[.int .i64 0, .int .i64 1]) ∧ w = w' :=
  parse_no ⟨#[48, 48, 55]⟩ (by show _ = _; decide) (by decide) w
theorem itoa12 : Lib.itoa (-12) = [45, 49, 50] := by
  rw [itoa_abs, if_pos (by omega), show (-12 : Int).natAbs = 12 by rfl, Lib.decDigits, dif_neg (by omega), Lib.decDigits, dif_pos (by omega)]; rfl
theorem c_fmt (w : World) (h : Tab w) : Calls Tryd.prog 28 #[.int .i64 (-12)] w fun e w' => e = .returned (.string ⟨#[45, 49, 50]⟩) ∧ Below w.heap.size w w' :=
  format_any (-12) ⟨#[45, 49, 50]⟩ (by show _ = _; rw [itoa12]) (by omega) (by omega) w h

set_option maxRecDepth 100000 in
set_option maxHeartbeats 1600000 in
theorem awake_any (w : World) (h : Tab w) : Calls Tryd.prog 18 #[] w fun e w' => e = .returned (.bool true) ∧ Below w.heap.size w w' := by
  go_enter Tryd.func18, Tryd.ntmps18
  go_upto_region 8 with (first
    | (go_at_call 12; refine (c_add _).mono ?_; rintro e w' ⟨rfl, rfl⟩)
    | (go_at_call 13; refine (c_sub _).mono ?_; rintro e w' ⟨rfl, rfl⟩)
    | (go_at_call 14; refine (c_mul _).mono ?_; rintro e w' ⟨rfl, rfl⟩)
    | (go_at_call 19; refine (c_md _).mono ?_; rintro e w1 ⟨rfl, k1, rfl⟩)
    | (go_at_call 22; refine (c_pow _).mono ?_; rintro e w' ⟨rfl, rfl⟩)
    | (go_at_call 26; first | ((with_reducible refine (c_p1 _).mono ?_); rintro e w2 ⟨rfl, hb⟩) | ((with_reducible refine (c_p2 _).mono ?_); rintro e w' ⟨rfl, rfl⟩)))
  have hb2 : Below w.heap.size w w2 := below_on (below_draw w k1) hb
  have ht := tab_on h hb2
  clear hb h
  have cf := fun k => c_fmt (w2.drewN k) (tab_on ht (below_draw w2 k))
  clear ht
  go_wp2_with (first
    | (go_at_call 24; refine (c_gcd _).mono ?_; rintro e w1 ⟨rfl, k2, rfl⟩)
    | (go_at_call 28; refine (cf _).mono ?_; rintro e w3 ⟨rfl, hb3⟩))
  go_ret
  exact ⟨rfl, below_on (below_on hb2 (below_draw w2 k2)) hb3⟩
end Go.Proofs.YtfalonklnfekhaaDoor.numW

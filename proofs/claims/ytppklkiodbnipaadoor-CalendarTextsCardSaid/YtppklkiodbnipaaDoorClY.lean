/-
  The law CalendarTexts: both Formats and both Parses answer the same, and Parse inverts Format.
-/
import Derived.Test.YtppklkiodbnipaaDoorClW
import Derived.Test.YtppklkiodbnipaaDoorClV
namespace Go.Proofs.YtppklkiodbnipaaDoor.clY
open Go.RowKit
open Go.Proofs.YtppklkiodbnipaaDoor.numT Go.Proofs.YtppklkiodbnipaaDoor.clM Go.Proofs.YtppklkiodbnipaaDoor.clA Go.Proofs.YtppklkiodbnipaaDoor.clB Go.Proofs.YtppklkiodbnipaaDoor.clC Go.Proofs.YtppklkiodbnipaaDoor.clD Go.Proofs.YtppklkiodbnipaaDoor.clE Go.Proofs.YtppklkiodbnipaaDoor.clX Go.Proofs.YtppklkiodbnipaaDoor.clT Go.Proofs.YtppklkiodbnipaaDoor.clU Go.Proofs.YtppklkiodbnipaaDoor.clV Go.Proofs.YtppklkiodbnipaaDoor.clW
set_option linter.unusedVariables false

/-- a text that is written is read -/
theorem back (n Y M D : Nat) (t : Nat) (hn : n = t / 1440) (ht : t ≤ 1073741824) (hI : Is n Y M D) (X : ByteArray) (hX : X.data.toList = tx Y M D (t % 1440 / 60) (t % 60)) (w : World) (hM : Mon w) :
    Calls Tryd.prog 22 #[.string X] w fun e w' => e = .returned (.tuple #[.int .i64 (t : Int), .int .i64 0]) ∧ ∃ d, w' = w.drewN d := by
  have s := hI.small (by omega)
  have m1 := hI.m1
  have hf : frm X.data.toList = true := by rw [hX]; exact tx_form (by omega) (by omega) (by omega) (by omega) (by omega)
  have hp := pts X hf
  obtain ⟨n1, n2, n3, n4, n5⟩ := tx_nu (y := Y) (m := M) (d := D) (h := t % 1440 / 60) (i := t % 60) (by omega) (by omega) (by omega) (by omega) (by omega)
  rw [hX, n1, n2, n3, n4, n5] at hp
  have e : 1440 * n + 60 * (t % 1440 / 60) + t % 60 = t := by omega
  have c := cparse_ok X n Y M D (t % 1440 / 60) (t % 60) hp hI (by omega) (by omega) (by omega) w hM
  rw [e] at c
  exact c
theorem fmt_pair (t : Int) : ∃ (X : ByteArray) (E : Int),
    (∀ w, Kt w w → Calls Tryd.prog 20 #[.int .i64 t] w fun e w' => e = .returned (.tuple #[.string X, .int .i64 E]) ∧ Below w.heap.size w w') ∧
    (∀ w, Calls Tryd.prog 21 #[.int .i64 t] w fun e w' => e = .returned (.tuple #[.string X, .int .i64 E]) ∧ Below w.heap.size w w') ∧
    (E = 2 ∨ E = 0 ∧ ∀ w, Mon w → Calls Tryd.prog 22 #[.string X] w fun e w' => e = .returned (.tuple #[.int .i64 t, .int .i64 0]) ∧ ∃ d, w' = w.drewN d) := by
  by_cases h : 0 ≤ t ∧ t ≤ 1073741824
  · obtain ⟨n, rfl⟩ := Int.eq_ofNat_of_zero_le h.1
    have hn : n ≤ 1073741824 := by omega
    obtain ⟨Y, M, D, hI⟩ := Is.ex (n / 1440)
    obtain ⟨X, hX⟩ : ∃ X : ByteArray, X.data.toList = tx Y M D (n % 1440 / 60) (n % 60) := ⟨⟨(tx Y M D (n % 1440 / 60) (n % 60)).toArray⟩, rfl⟩
    exact ⟨X, 0, fun w K => cfmt_ok n Y M D _ _ hn hI rfl rfl X (Lib.hid hX) w K, fun w => rfmt_ok n Y M D _ _ hn hI rfl rfl X (Lib.hid hX) w, .inr ⟨rfl, fun w hM => back _ Y M D n rfl hn hI X hX w hM⟩⟩
  · exact ⟨⟨#[]⟩, 2, fun w _ => (cfmt_no t h w).mono fun _ _ ⟨a, b⟩ => ⟨a, by rw [b]; exact Below.refl _ _⟩, fun w => (rfmt_no t h w).mono fun _ _ ⟨a, b⟩ => ⟨a, by rw [b]; exact Below.refl _ _⟩, .inl rfl⟩
theorem parse_pair (s : ByteArray) (hs : s.size ≤ 281474976710656) : ∃ V E : Int,
    (∀ w, Mon w → Calls Tryd.prog 22 #[.string s] w fun e w' => e = .returned (.tuple #[.int .i64 V, .int .i64 E]) ∧ ∃ d, w' = w.drewN d) ∧
    (∀ w, Calls Tryd.prog 23 #[.string s] w fun e w' => e = .returned (.tuple #[.int .i64 V, .int .i64 E]) ∧ Below w.heap.size w w') := by
  cases hf : frm s.data.toList with
  | false => exact ⟨0, 1, fun w _ => cparse_form s hf hs w, fun w => (rp_form s hf hs w).mono fun _ _ ⟨a, d, b⟩ => ⟨a, by rw [b]; exact below_draw _ _⟩⟩
  | true =>
    have hp := pts s hf
    have dg : ∀ i, i ≠ 4 → i ≠ 7 → i ≠ 10 → i ≠ 13 → dgAt i := fun i a b c d => ⟨a, b, c, d⟩
    have d0 := nu_le hf (k := 0) (by omega) (dg 0 (by omega) (by omega) (by omega) (by omega)) (dg 1 (by omega) (by omega) (by omega) (by omega))
    have d2 := nu_le hf (k := 2) (by omega) (dg 2 (by omega) (by omega) (by omega) (by omega)) (dg 3 (by omega) (by omega) (by omega) (by omega))
    have hN : nums s.data.toList = [(nu s.data.toList 0 : Int), (nu s.data.toList 2 : Int), (nu s.data.toList 5 : Int), (nu s.data.toList 8 : Int), (nu s.data.toList 11 : Int), (nu s.data.toList 14 : Int)] := rfl
    have hY : yr s.data.toList = 100 * nu s.data.toList 0 + nu s.data.toList 2 := rfl
    generalize nu s.data.toList 0 = A at *
    generalize nu s.data.toList 2 = B at *
    generalize nu s.data.toList 5 = M at *
    generalize nu s.data.toList 8 = D at *
    generalize nu s.data.toList 11 = H at *
    generalize nu s.data.toList 14 = I at *
    generalize yr s.data.toList = Y at *
    have rp := fun V E hO w => rp_yes s (Lib.hid hf) hp.size A B Y M D H I (Lib.hid hN) hY d0 d2 hp.m hp.d hp.h hp.i V E (Lib.hid hO) w
    by_cases hd : ∃ n, Is n Y M D
    · obtain ⟨n, hI⟩ := hd
      by_cases hy : Y ≤ 4100
      · have bn : n ≤ 100000000 := by
          have a := hI.year.2
          have b : yS (Y + 1) ≤ 90000000 := by unfold yS lq; omega
          omega
        by_cases h1 : 23 < H
        · exact ⟨0, 2, fun w hM => cparse_h s n Y M D H I hp hI hp.y h1 w hM, fun w => rp 0 2 (.inr ⟨n, hI, hy, .inl ⟨h1, rfl, rfl⟩⟩) w⟩
        by_cases h2 : 59 < I
        · exact ⟨0, 2, fun w hM => cparse_i s n Y M D H I hp hI hp.y (by omega) h2 w hM, fun w => rp 0 2 (.inr ⟨n, hI, hy, .inr (.inl ⟨by omega, h2, rfl, rfl⟩)⟩) w⟩
        by_cases h3 : 1073741824 < 1440 * n + 60 * H + I
        · exact ⟨0, 2, fun w hM => cparse_t s n Y M D H I hp hI hp.y bn (by omega) (by omega) h3 w hM, fun w => rp 0 2 (.inr ⟨n, hI, hy, .inr (.inr (.inl ⟨by omega, by omega, h3, rfl, rfl⟩))⟩) w⟩
        · exact ⟨((1440 * n + 60 * H + I : Nat) : Int), 0, fun w hM => cparse_ok s n Y M D H I hp hI (by omega) (by omega) (by omega) w hM, fun w => rp _ 0 (.inr ⟨n, hI, hy, .inr (.inr (.inr ⟨by omega, by omega, by omega, rfl, rfl⟩))⟩) w⟩
      · -- too late a year: both refuse
        have big : 745826 ≤ n := by
          have a := hI.year.1
          have b := yS_big (y := Y) (by omega)
          omega
        have bn : n ≤ 100000000 := by
          have a := hI.year.2
          have b : yS (Y + 1) ≤ 90000000 := by have := hp.y; unfold yS lq; omega
          omega
        have ro : Out Y M D H I 0 2 := .inl ⟨fun m _ => by omega, rfl, rfl⟩
        by_cases h1 : 23 < H
        · exact ⟨0, 2, fun w hM => cparse_h s n Y M D H I hp hI hp.y h1 w hM, fun w => rp 0 2 ro w⟩
        by_cases h2 : 59 < I
        · exact ⟨0, 2, fun w hM => cparse_i s n Y M D H I hp hI hp.y (by omega) h2 w hM, fun w => rp 0 2 ro w⟩
        exact ⟨0, 2, fun w hM => cparse_t s n Y M D H I hp hI hp.y bn (by omega) (by omega) (by omega) w hM, fun w => rp 0 2 ro w⟩
    · have nd : ∀ n, ¬ Is n Y M D := fun n h => hd ⟨n, h⟩
      exact ⟨0, 2, fun w hM => cparse_nd s Y M D H I hp nd w hM, fun w => rp 0 2 (.inl ⟨fun m ⟨Y', M', D', e1, e2, e3, h⟩ => by
        obtain rfl : Y' = Y := by omega
        obtain rfl : M' = M := by omega
        obtain rfl : D' = D := by omega
        exact absurd h (nd m), rfl, rfl⟩) w⟩

theorem is1 : Is (1501 / 1440) 2000 1 2 := ⟨by decide, by decide, by decide, by decide, by decide, by decide⟩
theorem fmt_eg (w : World) (K : Kt w w) :
    Calls Tryd.prog 20 #[.int .i64 1501] w fun e w' => e = .returned (.tuple #[.string ⟨#[50, 48, 48, 48, 45, 48, 49, 45, 48, 50, 32, 48, 49, 58, 48, 49]⟩, .int .i64 0]) ∧ Below w.heap.size w w' :=
  cfmt_ok 1501 2000 1 2 1 1 (by omega) is1 (by decide) (by decide) _ (Lib.hid (by rfl)) w K

theorem kself {w v : World} (h : Kt w v) : Kt v v := ⟨h.1, h.2.1, Below.refl _ _⟩
set_option maxRecDepth 10000 in
set_option maxHeartbeats 1000000 in
theorem texts (t : Int) (s : ByteArray) (hs : s.size ≤ 281474976710656) (w : World) (hM : Mon w) (hT : Tab w) :
    Calls Tryd.prog 8 #[.int .i64 t, .string s] w fun e w' => e = .returned (.bool true) ∧ Below w.heap.size w w' := by
  obtain ⟨X, E, c1, c2, hE⟩ := fmt_pair t
  obtain ⟨V, G, c3, c4⟩ := parse_pair s hs
  have K0 := Kt.start hM hT
  clear hM hT
  rcases hE with rfl | ⟨rfl, c5⟩
  · go_enter Tryd.func8, Tryd.ntmps8
    go_wp2_with (first
      | (go_at_call 20; first
        | ((with_reducible refine (c1 _ K0).mono ?_); rintro e w1 ⟨rfl, b1⟩; have K1 := K0.on b1; clear b1)
        | ((with_reducible refine (fmt_eg _ (kself K4)).mono ?_); rintro e w6 ⟨rfl, b6⟩; have K6 := K4.on b6; clear b6))
      | (go_at_call 21; (with_reducible refine (c2 _).mono ?_); rintro e w2 ⟨rfl, b2⟩; have K2 := K1.on b2; clear b2)
      | (go_at_call 22; (with_reducible refine (c3 _ K2.mon).mono ?_); rintro e w3 ⟨rfl, d3, rfl⟩; have K3 := K2.drew d3)
      | (go_at_call 23; (with_reducible refine (c4 _).mono ?_); rintro e w4 ⟨rfl, b4⟩; have K4 := K3.on b4; clear b4))
    go_ret
    exact ⟨rfl, K6.bel⟩
  · go_enter Tryd.func8, Tryd.ntmps8
    go_wp2_with (first
      | (go_at_call 20; first
        | ((with_reducible refine (c1 _ K0).mono ?_); rintro e w1 ⟨rfl, b1⟩; have K1 := K0.on b1; clear b1)
        | ((with_reducible refine (fmt_eg _ (kself K5)).mono ?_); rintro e w6 ⟨rfl, b6⟩; have K6 := K5.on b6; clear b6))
      | (go_at_call 21; (with_reducible refine (c2 _).mono ?_); rintro e w2 ⟨rfl, b2⟩; have K2 := K1.on b2; clear b2)
      | (go_at_call 22; first
        | ((with_reducible refine (c3 _ K2.mon).mono ?_); rintro e w3 ⟨rfl, d3, rfl⟩; have K3 := K2.drew d3)
        | ((with_reducible refine (c5 _ K4.mon).mono ?_); rintro e w5 ⟨rfl, d5, rfl⟩; have K5 := K4.drew d5))
      | (go_at_call 23; (with_reducible refine (c4 _).mono ?_); rintro e w4 ⟨rfl, b4⟩; have K4 := K3.on b4; clear b4))
    go_ret
    exact ⟨rfl, K6.bel⟩
end Go.Proofs.YtppklkiodbnipaaDoor.clY

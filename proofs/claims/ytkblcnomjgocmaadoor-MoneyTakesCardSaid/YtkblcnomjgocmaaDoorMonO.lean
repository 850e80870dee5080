/-
  The walks of MoneyWrites and MoneyReads: whatever the int and the text, the answer is true; new memory and draws alone.
-/
import Derived.Test.YtkblcnomjgocmaaDoorMonL
import Derived.Lib.SmallJoins
namespace Go.Proofs.YtkblcnomjgocmaaDoor.monO
open Go.RowKit
open Go.Proofs.YtkblcnomjgocmaaDoor.numM Go.Proofs.YtkblcnomjgocmaaDoor.numA Go.Proofs.YtkblcnomjgocmaaDoor.numB Go.Proofs.YtkblcnomjgocmaaDoor.numT Go.Proofs.YtkblcnomjgocmaaDoor.numG Go.Proofs.YtkblcnomjgocmaaDoor.monA Go.Proofs.YtkblcnomjgocmaaDoor.monM Go.Proofs.YtkblcnomjgocmaaDoor.monB Go.Proofs.YtkblcnomjgocmaaDoor.monC Go.Proofs.YtkblcnomjgocmaaDoor.monD Go.Proofs.YtkblcnomjgocmaaDoor.monX Go.Proofs.YtkblcnomjgocmaaDoor.monT Go.Proofs.YtkblcnomjgocmaaDoor.monU Go.Proofs.YtkblcnomjgocmaaDoor.monV Go.Proofs.YtkblcnomjgocmaaDoor.monW Go.Proofs.YtkblcnomjgocmaaDoor.monL
set_option linter.unusedVariables false

theorem gER : Tryd.prog.globalNamed "strconv.ErrRange" = some 3 := by kernel_rfl
def ErrV (w : World) : Prop := ∃ tp p, w.var? Tryd.prog "strconv.ErrRange" = some #[.iface tp p]
theorem err_on {w w1 : World} (h : ErrV w) (hb : Below w.heap.size w w1) : ErrV w1 := by
  obtain ⟨tp, p, hv⟩ := h
  exact ⟨tp, p, Joins.var_stays gER hv hb (Nat.le_refl _)⟩
theorem parse_e (s : ByteArray) (V E : Int) (hV : Hid (V = mV s.data.toList)) (hE : Hid (E = mE s.data.toList)) (hs : s.size ≤ 281474976710656) (w : World) (hv : ErrV w) :
    Calls Tryd.prog 27 #[.string s] w fun e w' => e = .returned (.tuple #[.int .i64 V, .int .i64 E]) ∧ Below w.heap.size w w' :=
  mparse_any s V E hV hE hs w fun _ _ _ _ => .inr hv
/-- what both Formats return -/
theorem fmt_both (m : Int) : ∃ X : ByteArray, (∀ w, Tab w → Calls Tryd.prog 29 #[.int .i64 m] w fun e w' => e = .returned (.string X) ∧ Below w.heap.size w w') ∧
    (∀ w, Calls Tryd.prog 30 #[.int .i64 m] w fun e w' => e = .returned (.string X) ∧ Below w.heap.size w w') := by
  cases h : vB m with
  | false =>
    refine ⟨⟨#[]⟩, fun w _ => (format_out m h w).mono ?_, fun w => (rformat_out m h w).mono ?_⟩
    · rintro e w' ⟨rfl, rfl⟩; exact ⟨rfl, Below.refl _ _⟩
    · rintro e w' ⟨rfl, rfl⟩; exact ⟨rfl, Below.refl _ _⟩
  | true =>
    have hm := vB_iff.1 h
    obtain ⟨k, rfl⟩ := Int.eq_ofNat_of_zero_le hm.1
    exact ⟨⟨(fmtL k).toArray⟩, fun w ht => monV.format_in k (by omega) _ rfl w ht, fun w => rformat_in k (by omega) _ rfl w⟩

set_option maxRecDepth 100000 in
set_option maxHeartbeats 1600000 in
theorem writes (m : Int) (s : ByteArray) (hs : s.size ≤ 281474976710656) (w : World) (h : Tab w) (hv : ErrV w) :
    Calls Tryd.prog 9 #[.int .i64 m, .string s] w fun e w' => e = .returned (.bool true) ∧ Below w.heap.size w w' := by
  obtain ⟨X, f1, f2⟩ := fmt_both m
  obtain ⟨V, hV⟩ : ∃ V, V = mV s.data.toList := ⟨_, rfl⟩
  obtain ⟨E, hE⟩ : ∃ E, E = mE s.data.toList := ⟨_, rfl⟩
  have c1 := fun w hv => parse_e s V E hV hE hs w hv
  have c2 := fun w => rmparse_any s V E hV hE hs w
  have HV := Lib.hid hv
  clear hV hE hv
  by_cases h5 : (5000 : Int) < (s.size : Int)
  · go_enter Tryd.func9, Tryd.ntmps9
    go_wp2_with (go_at_call 11; refine (awake_any _ h).mono ?_; rintro e w9 ⟨rfl, hb9⟩)
    go_ret
    exact ⟨rfl, hb9⟩
  · have h5' : decide ((5000 : Int) < (s.size : Int)) = false := decide_eq_false h5
    go_enter Tryd.func9, Tryd.ntmps9
    go_wp2_with (first
      | (go_at_call 27; refine (c1 _ HV.out).mono ?_; rintro e w1 ⟨rfl, hb1⟩; have t1 := tab_on h hb1)
      | (go_at_call 28; refine (c2 _).mono ?_; rintro e w' ⟨rfl, rfl⟩)
      | (go_at_call 29; refine (f1 _ t1).mono ?_; rintro e w2 ⟨rfl, hb2⟩; have t2 := tab_on t1 hb2)
      | (go_at_call 30; refine (f2 _).mono ?_; rintro e w3 ⟨rfl, hb3⟩; have t3 := tab_on t2 hb3)
      | (go_at_call 11; refine (awake_any _ t3).mono ?_; rintro e w9 ⟨rfl, hb9⟩))
    go_ret
    exact ⟨rfl, below_on (below_on (below_on hb1 hb2) hb3) hb9⟩

set_option maxRecDepth 100000 in
set_option maxHeartbeats 1600000 in
theorem reads_v_long (m : Int) (s X : ByteArray) (V E : Int) (w : World) (h : Tab w) (hv0 : ErrV w)
    (k1 : ∀ w, Calls Tryd.prog 14 #[.int .i64 m] w fun e w' => e = .returned (.bool true) ∧ w = w')
    (k2 : ∀ w, Tab w → Calls Tryd.prog 29 #[.int .i64 m] w fun e w' => e = .returned (.string X) ∧ Below w.heap.size w w')
    (k3 : ∀ w, ErrV w → Calls Tryd.prog 27 #[.string X] w fun e w' => e = .returned (.tuple #[.int .i64 m, .int .i64 0]) ∧ Below w.heap.size w w')
    (h5 : (5000 : Int) < (s.size : Int))
    : Calls Tryd.prog 10 #[.int .i64 m, .string s] w fun e w' => e = .returned (.bool true) ∧ Below w.heap.size w w' := by
  have HV := Lib.hid hv0
  clear hv0
  go_enter Tryd.func10, Tryd.ntmps10
  go_wp2_with (first
    | (go_at_call 14; first | ((with_reducible refine (k1 _).mono ?_); rintro e w' ⟨rfl, rfl⟩))
    | (go_at_call 29; first | ((with_reducible refine (k2 _ h).mono ?_); rintro e w1 ⟨rfl, hb1⟩; have t1 := tab_on h hb1; have v1 := Lib.hid (err_on HV.out hb1)))
    | (go_at_call 27; first | ((with_reducible refine (k3 _ v1.out).mono ?_); rintro e w2 ⟨rfl, hb2⟩; have t2 := tab_on t1 hb2; have v2 := Lib.hid (err_on v1.out hb2)))
    | (go_at_call 11; refine (awake_any _ t2).mono ?_; rintro e w9 ⟨rfl, hb9⟩))
  go_ret
  exact ⟨rfl, below_on (below_on hb1 hb2) hb9⟩

set_option maxRecDepth 100000 in
set_option maxHeartbeats 1600000 in
theorem reads_v_ok (m : Int) (s X : ByteArray) (V E : Int) (w : World) (h : Tab w) (hv0 : ErrV w)
    (k1 : ∀ w, Calls Tryd.prog 14 #[.int .i64 m] w fun e w' => e = .returned (.bool true) ∧ w = w')
    (k2 : ∀ w, Tab w → Calls Tryd.prog 29 #[.int .i64 m] w fun e w' => e = .returned (.string X) ∧ Below w.heap.size w w')
    (k3 : ∀ w, ErrV w → Calls Tryd.prog 27 #[.string X] w fun e w' => e = .returned (.tuple #[.int .i64 m, .int .i64 0]) ∧ Below w.heap.size w w')
    (h5 : decide ((5000 : Int) < (s.size : Int)) = false)
    (c1 : ∀ w, ErrV w → Calls Tryd.prog 27 #[.string s] w fun e w' => e = .returned (.tuple #[.int .i64 V, .int .i64 0]) ∧ Below w.heap.size w w')
    (c2 : ∀ w, Tab w → Calls Tryd.prog 29 #[.int .i64 V] w fun e w' => e = .returned (.string s) ∧ Below w.heap.size w w')
    (c3 : ∀ w, Calls Tryd.prog 14 #[.int .i64 V] w fun e w' => e = .returned (.bool true) ∧ w = w')
    : Calls Tryd.prog 10 #[.int .i64 m, .string s] w fun e w' => e = .returned (.bool true) ∧ Below w.heap.size w w' := by
  have HV := Lib.hid hv0
  clear hv0
  go_enter Tryd.func10, Tryd.ntmps10
  go_wp2_with (first
    | (go_at_call 14; first | ((with_reducible refine (k1 _).mono ?_); rintro e w' ⟨rfl, rfl⟩) | ((with_reducible refine (c3 _).mono ?_); rintro e w' ⟨rfl, rfl⟩))
    | (go_at_call 29; first | ((with_reducible refine (k2 _ h).mono ?_); rintro e w1 ⟨rfl, hb1⟩; have t1 := tab_on h hb1; have v1 := Lib.hid (err_on HV.out hb1)) | ((with_reducible refine (c2 _ t3).mono ?_); rintro e w4 ⟨rfl, hb4⟩; have t4 := tab_on t3 hb4))
    | (go_at_call 27; first | ((with_reducible refine (k3 _ v1.out).mono ?_); rintro e w2 ⟨rfl, hb2⟩; have t2 := tab_on t1 hb2; have v2 := Lib.hid (err_on v1.out hb2)) | ((with_reducible refine (c1 _ v2.out).mono ?_); rintro e w3 ⟨rfl, hb3⟩; have t3 := tab_on t2 hb3))
    | (go_at_call 11; refine (awake_any _ t4).mono ?_; rintro e w9 ⟨rfl, hb9⟩))
  go_ret
  exact ⟨rfl, below_on (below_on (below_on (below_on hb1 hb2) hb3) hb4) hb9⟩

set_option maxRecDepth 100000 in
set_option maxHeartbeats 1600000 in
theorem reads_v_err (m : Int) (s X : ByteArray) (V E : Int) (w : World) (h : Tab w) (hv0 : ErrV w)
    (k1 : ∀ w, Calls Tryd.prog 14 #[.int .i64 m] w fun e w' => e = .returned (.bool true) ∧ w = w')
    (k2 : ∀ w, Tab w → Calls Tryd.prog 29 #[.int .i64 m] w fun e w' => e = .returned (.string X) ∧ Below w.heap.size w w')
    (k3 : ∀ w, ErrV w → Calls Tryd.prog 27 #[.string X] w fun e w' => e = .returned (.tuple #[.int .i64 m, .int .i64 0]) ∧ Below w.heap.size w w')
    (h5 : decide ((5000 : Int) < (s.size : Int)) = false) (hE : (E == 0) = false)
    (c1 : ∀ w, ErrV w → Calls Tryd.prog 27 #[.string s] w fun e w' => e = .returned (.tuple #[.int .i64 V, .int .i64 E]) ∧ Below w.heap.size w w')
    : Calls Tryd.prog 10 #[.int .i64 m, .string s] w fun e w' => e = .returned (.bool true) ∧ Below w.heap.size w w' := by
  have HV := Lib.hid hv0
  clear hv0
  go_enter Tryd.func10, Tryd.ntmps10
  go_wp2_with (first
    | (go_at_call 14; first | ((with_reducible refine (k1 _).mono ?_); rintro e w' ⟨rfl, rfl⟩))
    | (go_at_call 29; first | ((with_reducible refine (k2 _ h).mono ?_); rintro e w1 ⟨rfl, hb1⟩; have t1 := tab_on h hb1; have v1 := Lib.hid (err_on HV.out hb1)))
    | (go_at_call 27; first | ((with_reducible refine (k3 _ v1.out).mono ?_); rintro e w2 ⟨rfl, hb2⟩; have t2 := tab_on t1 hb2; have v2 := Lib.hid (err_on v1.out hb2)) | ((with_reducible refine (c1 _ v2.out).mono ?_); rintro e w3 ⟨rfl, hb3⟩; have t3 := tab_on t2 hb3))
    | (go_at_call 11; refine (awake_any _ t3).mono ?_; rintro e w9 ⟨rfl, hb9⟩))
  go_ret
  exact ⟨rfl, below_on (below_on (below_on hb1 hb2) hb3) hb9⟩

set_option maxRecDepth 100000 in
set_option maxHeartbeats 1600000 in
theorem reads_n_long (m : Int) (s X : ByteArray) (V E : Int) (w : World) (h : Tab w) (hv0 : ErrV w)
    (k1 : ∀ w, Calls Tryd.prog 14 #[.int .i64 m] w fun e w' => e = .returned (.bool false) ∧ w = w')
    (h5 : (5000 : Int) < (s.size : Int))
    : Calls Tryd.prog 10 #[.int .i64 m, .string s] w fun e w' => e = .returned (.bool true) ∧ Below w.heap.size w w' := by
  have HV := Lib.hid hv0
  clear hv0
  go_enter Tryd.func10, Tryd.ntmps10
  go_wp2_with (first
    | (go_at_call 14; first | ((with_reducible refine (k1 _).mono ?_); rintro e w' ⟨rfl, rfl⟩))
    | (go_at_call 11; refine (awake_any _ h).mono ?_; rintro e w9 ⟨rfl, hb9⟩))
  go_ret
  exact ⟨rfl, hb9⟩

set_option maxRecDepth 100000 in
set_option maxHeartbeats 1600000 in
theorem reads_n_ok (m : Int) (s X : ByteArray) (V E : Int) (w : World) (h : Tab w) (hv0 : ErrV w)
    (k1 : ∀ w, Calls Tryd.prog 14 #[.int .i64 m] w fun e w' => e = .returned (.bool false) ∧ w = w')
    (h5 : decide ((5000 : Int) < (s.size : Int)) = false)
    (c1 : ∀ w, ErrV w → Calls Tryd.prog 27 #[.string s] w fun e w' => e = .returned (.tuple #[.int .i64 V, .int .i64 0]) ∧ Below w.heap.size w w')
    (c2 : ∀ w, Tab w → Calls Tryd.prog 29 #[.int .i64 V] w fun e w' => e = .returned (.string s) ∧ Below w.heap.size w w')
    (c3 : ∀ w, Calls Tryd.prog 14 #[.int .i64 V] w fun e w' => e = .returned (.bool true) ∧ w = w')
    : Calls Tryd.prog 10 #[.int .i64 m, .string s] w fun e w' => e = .returned (.bool true) ∧ Below w.heap.size w w' := by
  have HV := Lib.hid hv0
  clear hv0
  go_enter Tryd.func10, Tryd.ntmps10
  go_wp2_with (first
    | (go_at_call 14; first | ((with_reducible refine (k1 _).mono ?_); rintro e w' ⟨rfl, rfl⟩) | ((with_reducible refine (c3 _).mono ?_); rintro e w' ⟨rfl, rfl⟩))
    | (go_at_call 29; first | ((with_reducible refine (c2 _ t3).mono ?_); rintro e w4 ⟨rfl, hb4⟩; have t4 := tab_on t3 hb4))
    | (go_at_call 27; first | ((with_reducible refine (c1 _ HV.out).mono ?_); rintro e w3 ⟨rfl, hb3⟩; have t3 := tab_on h hb3))
    | (go_at_call 11; refine (awake_any _ t4).mono ?_; rintro e w9 ⟨rfl, hb9⟩))
  go_ret
  exact ⟨rfl, below_on (below_on (hb3) hb4) hb9⟩

set_option maxRecDepth 100000 in
set_option maxHeartbeats 1600000 in
theorem reads_n_err (m : Int) (s X : ByteArray) (V E : Int) (w : World) (h : Tab w) (hv0 : ErrV w)
    (k1 : ∀ w, Calls Tryd.prog 14 #[.int .i64 m] w fun e w' => e = .returned (.bool false) ∧ w = w')
    (h5 : decide ((5000 : Int) < (s.size : Int)) = false) (hE : (E == 0) = false)
    (c1 : ∀ w, ErrV w → Calls Tryd.prog 27 #[.string s] w fun e w' => e = .returned (.tuple #[.int .i64 V, .int .i64 E]) ∧ Below w.heap.size w w')
    : Calls Tryd.prog 10 #[.int .i64 m, .string s] w fun e w' => e = .returned (.bool true) ∧ Below w.heap.size w w' := by
  have HV := Lib.hid hv0
  clear hv0
  go_enter Tryd.func10, Tryd.ntmps10
  go_wp2_with (first
    | (go_at_call 14; first | ((with_reducible refine (k1 _).mono ?_); rintro e w' ⟨rfl, rfl⟩))
    | (go_at_call 27; first | ((with_reducible refine (c1 _ HV.out).mono ?_); rintro e w3 ⟨rfl, hb3⟩; have t3 := tab_on h hb3))
    | (go_at_call 11; refine (awake_any _ t3).mono ?_; rintro e w9 ⟨rfl, hb9⟩))
  go_ret
  exact ⟨rfl, below_on (hb3) hb9⟩

theorem reads (m : Int) (s : ByteArray) (hs : s.size ≤ 281474976710656) (w : World) (h : Tab w) (hv : ErrV w) :
    Calls Tryd.prog 10 #[.int .i64 m, .string s] w fun e w' => e = .returned (.bool true) ∧ Below w.heap.size w w' := by
  have rest : ∀ (P : Prop), ((5000 : Int) < (s.size : Int) → P) →
      (∀ V, decide ((5000 : Int) < (s.size : Int)) = false → (∀ w, ErrV w → Calls Tryd.prog 27 #[.string s] w fun e w' => e = .returned (.tuple #[.int .i64 V, .int .i64 0]) ∧ Below w.heap.size w w') →
        (∀ w, Tab w → Calls Tryd.prog 29 #[.int .i64 V] w fun e w' => e = .returned (.string s) ∧ Below w.heap.size w w') → (∀ w, Calls Tryd.prog 14 #[.int .i64 V] w fun e w' => e = .returned (.bool true) ∧ w = w') → P) →
      (∀ V E, decide ((5000 : Int) < (s.size : Int)) = false → (E == 0) = false → (∀ w, ErrV w → Calls Tryd.prog 27 #[.string s] w fun e w' => e = .returned (.tuple #[.int .i64 V, .int .i64 E]) ∧ Below w.heap.size w w') → P) → P := fun P p1 p2 p3 => by
    by_cases h5 : (5000 : Int) < (s.size : Int)
    · exact p1 h5
    · have h5' : decide ((5000 : Int) < (s.size : Int)) = false := decide_eq_false h5
      have c1 := fun w hv => parse_e s _ _ rfl rfl hs w hv
      by_cases hf : frm s.data.toList = true ∧ amt s.data.toList ≤ 1000000000000
      · obtain ⟨e1, e2⟩ := m_ok hf.1 hf.2
        rw [e1, e2] at c1
        exact p2 _ h5' c1 (fun w ht => monV.format_in _ hf.2 s (Lib.hid (str_eq (by rw [fmt_amt hf.1]))) w ht) (fun w => valid_any _ true (Lib.hid (vB_yes (by omega) (by omega)).symm) w)
      · refine p3 _ _ h5' ?_ c1
        by_cases h1 : frm s.data.toList = true
        · obtain ⟨e1, e2⟩ := m_big h1 (Nat.lt_of_not_le fun h2 => hf ⟨h1, h2⟩)
          rw [e2]; rfl
        · obtain ⟨e1, e2⟩ := m_no (show frm s.data.toList = false by simpa using h1)
          rw [e2]; rfl
  cases hm : vB m with
  | true =>
    have hmb := vB_iff.1 hm
    have k1 := fun w => valid_any m true (Lib.hid hm.symm) w
    obtain ⟨k, rfl⟩ := Int.eq_ofNat_of_zero_le hmb.1
    have hk : k ≤ 1000000000000 := by omega
    have k2 := fun w ht => monV.format_in k hk ⟨(fmtL k).toArray⟩ rfl w ht
    obtain ⟨g1, g2⟩ := frm_fmt k
    obtain ⟨e1, e2⟩ := m_ok g1 (by rw [g2]; exact hk)
    have k3 := fun w hv => parse_e ⟨(fmtL k).toArray⟩ (k : Int) 0 (Lib.hid (by show (k : Int) = mV (fmtL k); rw [e1, g2])) (Lib.hid (by show 0 = mE (fmtL k); rw [e2])) (by rw [size_len]; have := fmt_len hk; show (fmtL k).length ≤ _; omega) w hv
    exact rest _ (fun h5 => reads_v_long _ s _ 0 0 w h hv k1 k2 k3 h5) (fun V h5 c1 c2 c3 => reads_v_ok _ s _ V 0 w h hv k1 k2 k3 h5 c1 c2 c3) (fun V E h5 hE c1 => reads_v_err _ s _ V E w h hv k1 k2 k3 h5 hE c1)
  | false =>
    have k1 := fun w => valid_any m false (Lib.hid hm.symm) w
    exact rest _ (fun h5 => reads_n_long _ s s 0 0 w h hv k1 h5) (fun V h5 c1 c2 c3 => reads_n_ok _ s s V 0 w h hv k1 h5 c1 c2 c3) (fun V E h5 hE c1 => reads_n_err _ s s V E w h hv k1 h5 hE c1)
end Go.Proofs.YtkblcnomjgocmaaDoor.monO

/-
  The law of texts.
-/
import Derived.Test.YtjbckijeobmoeaaDoorNtR
import Derived.Test.YtjbckijeobmoeaaDoorNtG
import Derived.Deep.RegionHeld3
namespace Go.Proofs.YtjbckijeobmoeaaDoor.ntL
open Go.RowKit
open Go.Proofs.YtjbckijeobmoeaaDoor.natM Go.Proofs.YtjbckijeobmoeaaDoor.natA Go.Proofs.YtjbckijeobmoeaaDoor.natB Go.Proofs.YtjbckijeobmoeaaDoor.natC Go.Proofs.YtjbckijeobmoeaaDoor.natD Go.Proofs.YtjbckijeobmoeaaDoor.natF Go.Proofs.YtjbckijeobmoeaaDoor.natG Go.Proofs.YtjbckijeobmoeaaDoor.natR Go.Proofs.YtjbckijeobmoeaaDoor.natS Go.Proofs.YtjbckijeobmoeaaDoor.natX Go.Proofs.YtjbckijeobmoeaaDoor.numT Go.Proofs.YtjbckijeobmoeaaDoor.ntP Go.Proofs.YtjbckijeobmoeaaDoor.ntM Go.Proofs.YtjbckijeobmoeaaDoor.ntF Go.Proofs.YtjbckijeobmoeaaDoor.ntG Go.Proofs.YtjbckijeobmoeaaDoor.ntR
set_option linter.unusedVariables false

theorem num_at {w : World} {A : Option Addr} {n c v N : Nat} (hN : N = nlen 4294967296 v) (h : Num w A n c v) : N = n ∧ Cel .u32 w A (dg 4294967296 N v) := by
  have e : N = n := hN.trans h.1.symm
  subst e; exact ⟨rfl, h.2.2⟩
theorem len_npV (l : List UInt8) : nlen 4294967296 (npV l) ≤ 64 := by
  have h0 : nlen 4294967296 0 ≤ 64 := by rw [nlen_zero]; omega
  unfold npV; split
  · exact h0
  · split
    · unfold rV; split
      · split
        · assumption
        · exact h0
      · exact h0
    · exact h0
/-- a text that is accepted is the text of its number -/
theorem text_back {s : ByteArray} (h : npE s.data.toList = 0) : ∀ M, M = nlen 4294967296 (npV s.data.toList) → (⟨(fmtL M (npV s.data.toList)).toArray⟩ : ByteArray) = s := by
  intro M hM
  have hl : ¬ 620 < s.data.toList.length := fun h2 => by rw [(np_long h2).1] at h; cases h
  cases hb : refB s.data.toList with
  | false => rw [(np_no hl hb).1] at h; cases h
  | true =>
    obtain ⟨h1, h2⟩ := np_yes hl hb
    rw [h1] at h
    have hk : nlen 4294967296 (valN s.data.toList) ≤ 64 := by
      unfold rE at h
      split at h
      · split at h
        · assumption
        · cases h
      · cases h
    have hv : npV s.data.toList = valN s.data.toList := h2.trans (r_ok hk).2
    rw [hv] at hM ⊢
    have hval : valB M (valN s.data.toList) = true := valB_iff.2 ⟨by omega, hM.symm⟩
    rw [fmt_yes hval]
    apply str_eq
    show Lib.decDigits (valN s.data.toList) = s.data.toList
    unfold refB at hb
    by_cases h48 : s.data.toList = [48]
    · rw [h48]; exact dec_small (by decide)
    · have : numB s.data.toList = true := by
        have h5 : (s.data.toList == [48]) = false := by simpa using h48
        rw [h5, Bool.false_or] at hb; exact hb
      exact decDigits_valN _ this
/-- the text of a valid number is accepted, as that number -/
theorem back_text {n X : Nat} (h : valB n X = true) : npE (fmtL n X) = 0 ∧ npV (fmtL n X) = X := by
  rw [fmt_yes h]
  have hl := dec_620 h
  have hb := refB_dec X
  have hv := (decDigits_facts X).2.1
  have h64 : nlen 4294967296 X ≤ 64 := by have := valB_iff.1 h; omega
  obtain ⟨h1, h2⟩ := np_yes (by omega) hb
  rw [h1, h2, hv]
  exact r_ok h64
def OneP (v : Nat) (w : World) (e : Ending) (w' : World) : Prop := ∃ A, e = .returned (.agg #[.slice A 1 1]) ∧ Cel .u32 w' A (dg 4294967296 1 v) ∧ Below w.heap.size w w'
set_option maxHeartbeats 1000000 in
theorem one_any (v : Nat) (h1 : v < 4294967296) (w : World) : Calls Tryd.prog 10 #[.int .u32 (v : Int)] w (OneP v w) := by
  go_enter Tryd.func10, Tryd.ntmps10
  go_wp2_with fail
  refine bodyPost_ret (v := .agg #[.slice (some ⟨w.heap.size + 1, 0, none⟩) 1 1]) (by simp [results, Tryd.results10, go_sem]) rfl ?_
  refine ⟨_, rfl, ?_, below_two _ _ _⟩
  have := Own.new_ .u32 (w.alloc (.cells #[.slice (some ⟨w.heap.size + 1, 0, none⟩) 1 1] 24)) 32 [v] rfl
  rw [show (w.alloc (.cells #[.slice (some ⟨w.heap.size + 1, 0, none⟩) 1 1] 24)).heap.size = w.heap.size + 1 by simp] at this
  have e : dg 4294967296 1 v = [v] := by simp only [dg]; rw [Nat.mod_eq_of_lt h1]
  rw [e]
  exact this.all
theorem seven : fmtL 1 7 = [55] := by
  rw [fmt_yes (valB_iff.2 ⟨by omega, nlen_eq (by omega) (by rw [Nat.pow_zero]; omega) (by simp)⟩), dec_small (by omega)]; rfl
/-- what the law holds -/
structure Ts (w : World) (A : Option Addr) (n c X b1 : Nat) (A1 : Option Addr) (M c1 b2 : Nat) (A2 : Option Addr) (c2 V : Nat) (W : World) : Prop where
  bel : Below w.heap.size w W
  ba : Bx W w.heap.size (.slice A n c)
  bx : Bx W b1 (.slice A1 M c1)
  by_ : Bx W b2 (.slice A2 M c2)
  ca : Cel .u32 W A (dg 4294967296 n X)
  cx : Cel .u32 W A1 (dg 4294967296 M V)
  cy : Cel .u32 W A2 (dg 4294967296 M V)
  tab : Tab W
section
variable {w W W1 : World} {A A1 A2 : Option Addr} {n c X b1 M c1 b2 c2 V : Nat}
theorem Ts.below (h : Ts w A n c X b1 A1 M c1 b2 A2 c2 V W) (hb : Below W.heap.size W W1) : Ts w A n c X b1 A1 M c1 b2 A2 c2 V W1 :=
  ⟨below_on h.bel hb, h.ba.below hb, h.bx.below hb, h.by_.below hb, h.ca.below hb, h.cx.below hb, h.cy.below hb, tab_on h.tab hb⟩
theorem Ts.alloc (h : Ts w A n c X b1 A1 M c1 b2 A2 c2 V W) (o : Obj) : Ts w A n c X b1 A1 M c1 b2 A2 c2 V (W.alloc o) := h.below (below_new _ _)
theorem Ts.drew (h : Ts w A n c X b1 A1 M c1 b2 A2 c2 V W) : Ts w A n c X b1 A1 M c1 b2 A2 c2 V W.drew :=
  ⟨bel_drew h.bel, h.ba, h.bx, h.by_, h.ca, h.cx, h.cy, h.tab⟩
end
set_option maxHeartbeats 16000000 in
theorem texts_bb (s : ByteArray) (hs : s.size ≤ 9223372036854775807) (A : Option Addr) (n c X : Nat) (hX : Hid (X < 4294967296 ^ n)) (hn : n ≤ 9223372036854775807) (hE : Hid (npE s.data.toList ≠ 0)) (ha : Hid (false = valB n X)) (w : World) (htab : Tab w) (hI : Cel .u32 w A (dg 4294967296 n X)) :
    Calls Tryd.prog 3 #[.agg #[.slice A n c], .string s] w fun e w' => e = .returned (.bool true) ∧ Below w.heap.size w w' := by
  obtain ⟨V, hV⟩ : ∃ V, Hid (V = npV s.data.toList) := ⟨_, Lib.hid rfl⟩
  obtain ⟨M, hM⟩ : ∃ M, Hid (M = nlen 4294967296 V) := ⟨_, Lib.hid rfl⟩
  obtain ⟨Fa, hF⟩ : ∃ Fa : ByteArray, Hid (Fa = ⟨(fmtL n X).toArray⟩) := ⟨_, Lib.hid rfl⟩
  have hM64 : M ≤ 64 := by rw [hM.out, hV.out]; exact len_npV _
  obtain ⟨E, hEE⟩ : ∃ E, Hid (E = npE s.data.toList) := ⟨_, Lib.hid rfl⟩
  have tE : (E == 0) = false := by have := hE.out; rw [hEE.out]; simpa using this
  have kP : ∀ w, Calls Tryd.prog 4 #[.string s] w (ResP V E w) := fun w => by rw [hV.out, hEE.out]; exact nparse_any s hs w
  have kR : ∀ w, Calls Tryd.prog 5 #[.string s] w (ResP V E w) := fun w => by rw [hV.out, hEE.out]; exact rparse_any s hs w
  have kS : ∀ A c D d w, Cel .u32 w A (dg 4294967296 M V) → Cel .u32 w D (dg 4294967296 M V) → Calls Tryd.prog 6 #[.agg #[.slice A M c], .agg #[.slice D M d]] w fun e w' => e = .returned (.bool true) ∧ Below w.heap.size w w' := fun A c D d w hI hJ => same_any A D M c d V (by omega) w hI hJ
  have kF : ∀ w, Tab w → Cel .u32 w A (dg 4294967296 n X) → Calls Tryd.prog 7 #[.agg #[.slice A n c]] w fun e w' => e = .returned (.string Fa) ∧ Below w.heap.size w w' := fun w ht hI => by rw [hF.out]; exact nformat_any A n c X hX hn w ht hI
  have kG : ∀ w, Cel .u32 w A (dg 4294967296 n X) → Calls Tryd.prog 8 #[.agg #[.slice A n c]] w fun e w' => e = .returned (.string Fa) ∧ Below w.heap.size w w' := fun w hI => by rw [hF.out]; exact rformat_any A n c X hX hn w hI
  have kV : ∀ w, Cel .u32 w A (dg 4294967296 n X) → Calls Tryd.prog 9 #[.agg #[.slice A n c]] w fun e w' => e = .returned (.bool false) ∧ Below w.heap.size w w' := fun w hI => valid_any A n c X false hX ha hn w hI
  have kO : ∀ w, Calls Tryd.prog 10 #[.int .u32 7] w (OneP 7 w) := fun w => one_any 7 (by omega) w
  have k7 : ∀ A w, Tab w → Cel .u32 w A (dg 4294967296 1 7) → Calls Tryd.prog 7 #[.agg #[.slice A 1 1]] w fun e w' => e = .returned (.string ⟨#[55]⟩) ∧ Below w.heap.size w w' := fun A w ht hI => by
    have cc := nformat_any A 1 1 7 (Lib.hid (by decide)) (by omega) w ht hI
    rw [seven] at cc
    exact cc
  have HI := Lib.hid hI
  clear hI hX hV hF hE
  go_enter Tryd.func3, Tryd.ntmps3
  go_wp2_with (first
    | (go_at_call 4; (with_reducible refine (kP _).mono ?_); rintro e w1 ⟨A1, n1, c1, rfl, q, hb⟩; obtain ⟨z, g⟩ := num_at hM.out q; subst z; have B1 := Lib.hid (below_on (below_new _ _) hb); have C1 := Lib.hid g; have CA1 := Lib.hid ((HI.out.alloc _).below hb); have XA1 := Lib.hid ((Bx.new_ _ _ _).below hb); clear hb g q)
    | (go_at_call 5; (with_reducible refine (kR _).mono ?_); rintro e w2 ⟨A2, n2, c2, rfl, q, hb⟩; obtain ⟨z, g⟩ := num_at hM.out q; subst z; have B2 := Lib.hid (below_on (B1.out.alloc B1.out.size _) hb); have C2 := Lib.hid g; have C12 := Lib.hid ((C1.out.alloc _).below hb); have CA2 := Lib.hid ((CA1.out.alloc _).below hb); have XA2 := Lib.hid ((XA1.out.alloc _).below hb); have X12 := Lib.hid ((Bx.new_ _ _ _).below hb); clear hb g q))
  obtain ⟨w3, hw3⟩ : ∃ w3, w2.alloc (.cells #[.slice A2 M c2] 24) = w3 := ⟨_, rfl⟩
  have S3 : Hid (Ts w A n c X w1.heap.size A1 M c1 w2.heap.size A2 c2 V w3) := Lib.hid (by
    rw [← hw3]
    exact ⟨B2.out.alloc B2.out.size _, XA2.out.alloc _, X12.out.alloc _, Bx.new_ _ _ _, CA2.out.alloc _, C12.out.alloc _, C2.out.alloc _, tab_on htab (B2.out.alloc B2.out.size _)⟩)
  rw [hw3]
  clear hw3 B1 B2 C1 C2 C12 CA1 CA2 XA1 XA2 X12 HI kP kR
  have xa3 := S3.out.ba.cell; have xx3 := S3.out.bx.cell; have xy3 := S3.out.by_.cell
  go_region_held3 (fun w' => w'.cell? ⟨w.heap.size, 0, none⟩ = some (.slice A n c) ∧ w'.cell? ⟨w1.heap.size, 0, none⟩ = some (.slice A1 M c1) ∧ w'.cell? ⟨w2.heap.size, 0, none⟩ = some (.slice A2 M c2)) (go_keep)
    (first
      | (go_at_call 6; (with_reducible refine (kS A1 c1 A2 c2 w3.drew (S3.out.drew.cx) (S3.out.drew.cy)).mono ?_); rintro e w4 ⟨rfl, hb⟩; have S4 := Lib.hid (S3.out.drew.below hb); have xa4 := S4.out.ba.cell; have xx4 := S4.out.bx.cell; have xy4 := S4.out.by_.cell; clear hb)
      | (go_at_call 7; (with_reducible refine (kF w4 S4.out.tab S4.out.ca).mono ?_); rintro e w5 ⟨rfl, hb⟩; have S5 := Lib.hid (S4.out.below hb); have xa5 := S5.out.ba.cell; have xx5 := S5.out.bx.cell; have xy5 := S5.out.by_.cell; clear hb)
      | (go_at_call 8; (with_reducible refine (kG w5 S5.out.ca).mono ?_); rintro e w6 ⟨rfl, hb⟩; have S6 := Lib.hid (S5.out.below hb); have xa6 := S6.out.ba.cell; have xx6 := S6.out.bx.cell; have xy6 := S6.out.by_.cell; clear hb))
  clear xa3 xx3 xy3 xa4 xx4 xy4 xa5 xx5 xy5 S3 S4 S5
  go_wp2_with (first
    | (go_at_call 9; (with_reducible refine (kV w6 S6.out.ca).mono ?_); rintro e w7 ⟨rfl, hb⟩; have S7 := Lib.hid (S6.out.below hb); have xa7 := S7.out.ba.cell; have xx7 := S7.out.bx.cell; clear hb)
    | (go_at_call 10; (with_reducible refine (kO w7).mono ?_); rintro e w8 ⟨A7, rfl, hc, hb⟩; have S8 := Lib.hid (S7.out.below hb); have xa8 := S8.out.ba.cell; have xx8 := S8.out.bx.cell; have C7 := Lib.hid hc; clear hc; clear hb)
    | (go_at_call 7; (with_reducible refine (k7 A7 w8 S8.out.tab C7.out).mono ?_); rintro e w9 ⟨rfl, hb⟩; have S9 := Lib.hid (S8.out.below hb); have xa9 := S9.out.ba.cell; have xx9 := S9.out.bx.cell; clear hb))
  go_ret
  exact ⟨rfl, S9.out.bel⟩
set_option maxHeartbeats 16000000 in
theorem texts_bv (s : ByteArray) (hs : s.size ≤ 9223372036854775807) (A : Option Addr) (n c X : Nat) (hX : Hid (X < 4294967296 ^ n)) (hn : n ≤ 9223372036854775807) (hE : Hid (npE s.data.toList ≠ 0)) (ha : Hid (true = valB n X)) (w : World) (htab : Tab w) (hI : Cel .u32 w A (dg 4294967296 n X)) :
    Calls Tryd.prog 3 #[.agg #[.slice A n c], .string s] w fun e w' => e = .returned (.bool true) ∧ Below w.heap.size w w' := by
  obtain ⟨V, hV⟩ : ∃ V, Hid (V = npV s.data.toList) := ⟨_, Lib.hid rfl⟩
  obtain ⟨M, hM⟩ : ∃ M, Hid (M = nlen 4294967296 V) := ⟨_, Lib.hid rfl⟩
  obtain ⟨Fa, hF⟩ : ∃ Fa : ByteArray, Hid (Fa = ⟨(fmtL n X).toArray⟩) := ⟨_, Lib.hid rfl⟩
  have hM64 : M ≤ 64 := by rw [hM.out, hV.out]; exact len_npV _
  obtain ⟨E, hEE⟩ : ∃ E, Hid (E = npE s.data.toList) := ⟨_, Lib.hid rfl⟩
  have tE : (E == 0) = false := by have := hE.out; rw [hEE.out]; simpa using this
  have kP : ∀ w, Calls Tryd.prog 4 #[.string s] w (ResP V E w) := fun w => by rw [hV.out, hEE.out]; exact nparse_any s hs w
  have kR : ∀ w, Calls Tryd.prog 5 #[.string s] w (ResP V E w) := fun w => by rw [hV.out, hEE.out]; exact rparse_any s hs w
  have kS : ∀ A c D d w, Cel .u32 w A (dg 4294967296 M V) → Cel .u32 w D (dg 4294967296 M V) → Calls Tryd.prog 6 #[.agg #[.slice A M c], .agg #[.slice D M d]] w fun e w' => e = .returned (.bool true) ∧ Below w.heap.size w w' := fun A c D d w hI hJ => same_any A D M c d V (by omega) w hI hJ
  have kF : ∀ w, Tab w → Cel .u32 w A (dg 4294967296 n X) → Calls Tryd.prog 7 #[.agg #[.slice A n c]] w fun e w' => e = .returned (.string Fa) ∧ Below w.heap.size w w' := fun w ht hI => by rw [hF.out]; exact nformat_any A n c X hX hn w ht hI
  have kG : ∀ w, Cel .u32 w A (dg 4294967296 n X) → Calls Tryd.prog 8 #[.agg #[.slice A n c]] w fun e w' => e = .returned (.string Fa) ∧ Below w.heap.size w w' := fun w hI => by rw [hF.out]; exact rformat_any A n c X hX hn w hI
  have kV : ∀ w, Cel .u32 w A (dg 4294967296 n X) → Calls Tryd.prog 9 #[.agg #[.slice A n c]] w fun e w' => e = .returned (.bool true) ∧ Below w.heap.size w w' := fun w hI => valid_any A n c X true hX ha hn w hI
  have kO : ∀ w, Calls Tryd.prog 10 #[.int .u32 7] w (OneP 7 w) := fun w => one_any 7 (by omega) w
  have k7 : ∀ A w, Tab w → Cel .u32 w A (dg 4294967296 1 7) → Calls Tryd.prog 7 #[.agg #[.slice A 1 1]] w fun e w' => e = .returned (.string ⟨#[55]⟩) ∧ Below w.heap.size w w' := fun A w ht hI => by
    have cc := nformat_any A 1 1 7 (Lib.hid (by decide)) (by omega) w ht hI
    rw [seven] at cc
    exact cc
  have hn64 := (valB_iff.1 ha.out.symm).1
  have hNn : Hid (n = nlen 4294967296 X) := Lib.hid (valB_iff.1 ha.out.symm).2.symm
  have kQ : ∀ w, Calls Tryd.prog 4 #[.string Fa] w (ResP X 0 w) := fun w => by
    have hb := back_text ha.out.symm
    have cc := nparse_any Fa (by rw [hF.out, size_len, fmt_yes ha.out.symm]; have := dec_620 ha.out.symm; simp; omega) w
    rw [hF.out] at cc ⊢
    rw [show (⟨(fmtL n X).toArray⟩ : ByteArray).data.toList = fmtL n X by simp, hb.1, hb.2] at cc
    exact cc
  have kT : ∀ A c D d w, Cel .u32 w A (dg 4294967296 n X) → Cel .u32 w D (dg 4294967296 n X) → Calls Tryd.prog 6 #[.agg #[.slice A n c], .agg #[.slice D n d]] w fun e w' => e = .returned (.bool true) ∧ Below w.heap.size w w' := fun A c D d w hI hJ => same_any A D n c d X (by omega) w hI hJ
  have HI := Lib.hid hI
  clear hI hX hV hF hE
  go_enter Tryd.func3, Tryd.ntmps3
  go_wp2_with (first
    | (go_at_call 4; (with_reducible refine (kP _).mono ?_); rintro e w1 ⟨A1, n1, c1, rfl, q, hb⟩; obtain ⟨z, g⟩ := num_at hM.out q; subst z; have B1 := Lib.hid (below_on (below_new _ _) hb); have C1 := Lib.hid g; have CA1 := Lib.hid ((HI.out.alloc _).below hb); have XA1 := Lib.hid ((Bx.new_ _ _ _).below hb); clear hb g q)
    | (go_at_call 5; (with_reducible refine (kR _).mono ?_); rintro e w2 ⟨A2, n2, c2, rfl, q, hb⟩; obtain ⟨z, g⟩ := num_at hM.out q; subst z; have B2 := Lib.hid (below_on (B1.out.alloc B1.out.size _) hb); have C2 := Lib.hid g; have C12 := Lib.hid ((C1.out.alloc _).below hb); have CA2 := Lib.hid ((CA1.out.alloc _).below hb); have XA2 := Lib.hid ((XA1.out.alloc _).below hb); have X12 := Lib.hid ((Bx.new_ _ _ _).below hb); clear hb g q))
  obtain ⟨w3, hw3⟩ : ∃ w3, w2.alloc (.cells #[.slice A2 M c2] 24) = w3 := ⟨_, rfl⟩
  have S3 : Hid (Ts w A n c X w1.heap.size A1 M c1 w2.heap.size A2 c2 V w3) := Lib.hid (by
    rw [← hw3]
    exact ⟨B2.out.alloc B2.out.size _, XA2.out.alloc _, X12.out.alloc _, Bx.new_ _ _ _, CA2.out.alloc _, C12.out.alloc _, C2.out.alloc _, tab_on htab (B2.out.alloc B2.out.size _)⟩)
  rw [hw3]
  clear hw3 B1 B2 C1 C2 C12 CA1 CA2 XA1 XA2 X12 HI kP kR
  have xa3 := S3.out.ba.cell; have xx3 := S3.out.bx.cell; have xy3 := S3.out.by_.cell
  go_region_held3 (fun w' => w'.cell? ⟨w.heap.size, 0, none⟩ = some (.slice A n c) ∧ w'.cell? ⟨w1.heap.size, 0, none⟩ = some (.slice A1 M c1) ∧ w'.cell? ⟨w2.heap.size, 0, none⟩ = some (.slice A2 M c2)) (go_keep)
    (first
      | (go_at_call 6; (with_reducible refine (kS A1 c1 A2 c2 w3.drew (S3.out.drew.cx) (S3.out.drew.cy)).mono ?_); rintro e w4 ⟨rfl, hb⟩; have S4 := Lib.hid (S3.out.drew.below hb); have xa4 := S4.out.ba.cell; have xx4 := S4.out.bx.cell; have xy4 := S4.out.by_.cell; clear hb)
      | (go_at_call 7; (with_reducible refine (kF w4 S4.out.tab S4.out.ca).mono ?_); rintro e w5 ⟨rfl, hb⟩; have S5 := Lib.hid (S4.out.below hb); have xa5 := S5.out.ba.cell; have xx5 := S5.out.bx.cell; have xy5 := S5.out.by_.cell; clear hb)
      | (go_at_call 8; (with_reducible refine (kG w5 S5.out.ca).mono ?_); rintro e w6 ⟨rfl, hb⟩; have S6 := Lib.hid (S5.out.below hb); have xa6 := S6.out.ba.cell; have xx6 := S6.out.bx.cell; have xy6 := S6.out.by_.cell; clear hb))
  clear xa3 xx3 xy3 xa4 xx4 xy4 xa5 xx5 xy5 S3 S4 S5
  go_wp2_with (first
    | (go_at_call 9; (with_reducible refine (kV w6 S6.out.ca).mono ?_); rintro e w7 ⟨rfl, hb⟩; have S7 := Lib.hid (S6.out.below hb); have xa7 := S7.out.ba.cell; have xx7 := S7.out.bx.cell; clear hb)
    | (go_at_call 7; (with_reducible refine (kF w7 S7.out.tab S7.out.ca).mono ?_); rintro e w8 ⟨rfl, hb⟩; have S8 := Lib.hid (S7.out.below hb); have xa8 := S8.out.ba.cell; have xx8 := S8.out.bx.cell; clear hb)
    | (go_at_call 4; (with_reducible refine (kQ w8).mono ?_); rintro e w9 ⟨A9, n9, c9, rfl, q, hb⟩; have S9 := Lib.hid (S8.out.below hb); have xa9 := S9.out.ba.cell; have xx9 := S9.out.bx.cell; obtain ⟨z, g⟩ := num_at hNn.out q; subst z; have C9 := Lib.hid g; have xp := fun o => (S9.out.alloc o).ba.cell; clear g q; clear hb)
    | (go_at_call 6; (with_reducible refine (kT A9 c9 A c _ (C9.out.alloc _) (S9.out.alloc _).ca).mono ?_); rintro e w10 ⟨rfl, hb⟩; have S10 := Lib.hid ((S9.out.alloc _).below hb); clear hb)
    | (go_at_call 10; (with_reducible refine (kO w10).mono ?_); rintro e w11 ⟨A7, rfl, hc, hb⟩; have S11 := Lib.hid (S10.out.below hb); have xa11 := S11.out.ba.cell; have xx11 := S11.out.bx.cell; have C7 := Lib.hid hc; clear hc; clear hb)
    | (go_at_call 7; (with_reducible refine (k7 A7 w11 S11.out.tab C7.out).mono ?_); rintro e w12 ⟨rfl, hb⟩; have S12 := Lib.hid (S11.out.below hb); have xa12 := S12.out.ba.cell; have xx12 := S12.out.bx.cell; clear hb))
  go_ret
  exact ⟨rfl, S12.out.bel⟩
set_option maxHeartbeats 16000000 in
theorem texts_gb (s : ByteArray) (hs : s.size ≤ 9223372036854775807) (A : Option Addr) (n c X : Nat) (hX : Hid (X < 4294967296 ^ n)) (hn : n ≤ 9223372036854775807) (hE : Hid (npE s.data.toList = 0)) (ha : Hid (false = valB n X)) (w : World) (htab : Tab w) (hI : Cel .u32 w A (dg 4294967296 n X)) :
    Calls Tryd.prog 3 #[.agg #[.slice A n c], .string s] w fun e w' => e = .returned (.bool true) ∧ Below w.heap.size w w' := by
  obtain ⟨V, hV⟩ : ∃ V, Hid (V = npV s.data.toList) := ⟨_, Lib.hid rfl⟩
  obtain ⟨M, hM⟩ : ∃ M, Hid (M = nlen 4294967296 V) := ⟨_, Lib.hid rfl⟩
  obtain ⟨Fa, hF⟩ : ∃ Fa : ByteArray, Hid (Fa = ⟨(fmtL n X).toArray⟩) := ⟨_, Lib.hid rfl⟩
  have hM64 : M ≤ 64 := by rw [hM.out, hV.out]; exact len_npV _
  have kP : ∀ w, Calls Tryd.prog 4 #[.string s] w (ResP V 0 w) := fun w => by rw [hV.out, ← hE.out]; exact nparse_any s hs w
  have kR : ∀ w, Calls Tryd.prog 5 #[.string s] w (ResP V 0 w) := fun w => by rw [hV.out, ← hE.out]; exact rparse_any s hs w
  have kX : ∀ A c w, Tab w → Cel .u32 w A (dg 4294967296 M V) → Calls Tryd.prog 7 #[.agg #[.slice A M c]] w fun e w' => e = .returned (.string s) ∧ Below w.heap.size w w' := fun A c w ht hI => by
    have cc := nformat_any A M c V (Lib.hid (by rw [hM.out]; exact nlen_lt (by omega) V)) (by omega) w ht hI
    rw [hV.out, text_back hE.out M (by rw [hM.out, hV.out])] at cc
    exact cc
  have kS : ∀ A c D d w, Cel .u32 w A (dg 4294967296 M V) → Cel .u32 w D (dg 4294967296 M V) → Calls Tryd.prog 6 #[.agg #[.slice A M c], .agg #[.slice D M d]] w fun e w' => e = .returned (.bool true) ∧ Below w.heap.size w w' := fun A c D d w hI hJ => same_any A D M c d V (by omega) w hI hJ
  have kF : ∀ w, Tab w → Cel .u32 w A (dg 4294967296 n X) → Calls Tryd.prog 7 #[.agg #[.slice A n c]] w fun e w' => e = .returned (.string Fa) ∧ Below w.heap.size w w' := fun w ht hI => by rw [hF.out]; exact nformat_any A n c X hX hn w ht hI
  have kG : ∀ w, Cel .u32 w A (dg 4294967296 n X) → Calls Tryd.prog 8 #[.agg #[.slice A n c]] w fun e w' => e = .returned (.string Fa) ∧ Below w.heap.size w w' := fun w hI => by rw [hF.out]; exact rformat_any A n c X hX hn w hI
  have kV : ∀ w, Cel .u32 w A (dg 4294967296 n X) → Calls Tryd.prog 9 #[.agg #[.slice A n c]] w fun e w' => e = .returned (.bool false) ∧ Below w.heap.size w w' := fun w hI => valid_any A n c X false hX ha hn w hI
  have kO : ∀ w, Calls Tryd.prog 10 #[.int .u32 7] w (OneP 7 w) := fun w => one_any 7 (by omega) w
  have k7 : ∀ A w, Tab w → Cel .u32 w A (dg 4294967296 1 7) → Calls Tryd.prog 7 #[.agg #[.slice A 1 1]] w fun e w' => e = .returned (.string ⟨#[55]⟩) ∧ Below w.heap.size w w' := fun A w ht hI => by
    have cc := nformat_any A 1 1 7 (Lib.hid (by decide)) (by omega) w ht hI
    rw [seven] at cc
    exact cc
  have HI := Lib.hid hI
  clear hI hX hV hF hE
  go_enter Tryd.func3, Tryd.ntmps3
  go_wp2_with (first
    | (go_at_call 4; (with_reducible refine (kP _).mono ?_); rintro e w1 ⟨A1, n1, c1, rfl, q, hb⟩; obtain ⟨z, g⟩ := num_at hM.out q; subst z; have B1 := Lib.hid (below_on (below_new _ _) hb); have C1 := Lib.hid g; have CA1 := Lib.hid ((HI.out.alloc _).below hb); have XA1 := Lib.hid ((Bx.new_ _ _ _).below hb); clear hb g q)
    | (go_at_call 5; (with_reducible refine (kR _).mono ?_); rintro e w2 ⟨A2, n2, c2, rfl, q, hb⟩; obtain ⟨z, g⟩ := num_at hM.out q; subst z; have B2 := Lib.hid (below_on (B1.out.alloc B1.out.size _) hb); have C2 := Lib.hid g; have C12 := Lib.hid ((C1.out.alloc _).below hb); have CA2 := Lib.hid ((CA1.out.alloc _).below hb); have XA2 := Lib.hid ((XA1.out.alloc _).below hb); have X12 := Lib.hid ((Bx.new_ _ _ _).below hb); clear hb g q))
  obtain ⟨w3, hw3⟩ : ∃ w3, w2.alloc (.cells #[.slice A2 M c2] 24) = w3 := ⟨_, rfl⟩
  have S3 : Hid (Ts w A n c X w1.heap.size A1 M c1 w2.heap.size A2 c2 V w3) := Lib.hid (by
    rw [← hw3]
    exact ⟨B2.out.alloc B2.out.size _, XA2.out.alloc _, X12.out.alloc _, Bx.new_ _ _ _, CA2.out.alloc _, C12.out.alloc _, C2.out.alloc _, tab_on htab (B2.out.alloc B2.out.size _)⟩)
  rw [hw3]
  clear hw3 B1 B2 C1 C2 C12 CA1 CA2 XA1 XA2 X12 HI kP kR
  have xa3 := S3.out.ba.cell; have xx3 := S3.out.bx.cell; have xy3 := S3.out.by_.cell
  go_region_held3 (fun w' => w'.cell? ⟨w.heap.size, 0, none⟩ = some (.slice A n c) ∧ w'.cell? ⟨w1.heap.size, 0, none⟩ = some (.slice A1 M c1) ∧ w'.cell? ⟨w2.heap.size, 0, none⟩ = some (.slice A2 M c2)) (go_keep)
    (first
      | (go_at_call 6; (with_reducible refine (kS A1 c1 A2 c2 w3.drew (S3.out.drew.cx) (S3.out.drew.cy)).mono ?_); rintro e w4 ⟨rfl, hb⟩; have S4 := Lib.hid (S3.out.drew.below hb); have xa4 := S4.out.ba.cell; have xx4 := S4.out.bx.cell; have xy4 := S4.out.by_.cell; clear hb)
      | (go_at_call 7; (with_reducible refine (kF w4 S4.out.tab S4.out.ca).mono ?_); rintro e w5 ⟨rfl, hb⟩; have S5 := Lib.hid (S4.out.below hb); have xa5 := S5.out.ba.cell; have xx5 := S5.out.bx.cell; have xy5 := S5.out.by_.cell; clear hb)
      | (go_at_call 8; (with_reducible refine (kG w5 S5.out.ca).mono ?_); rintro e w6 ⟨rfl, hb⟩; have S6 := Lib.hid (S5.out.below hb); have xa6 := S6.out.ba.cell; have xx6 := S6.out.bx.cell; have xy6 := S6.out.by_.cell; clear hb))
  clear xa3 xx3 xy3 xa4 xx4 xy4 xa5 xx5 xy5 S3 S4 S5
  go_wp2_with (first
    | (go_at_call 7; (with_reducible refine (kX A1 c1 w6 S6.out.tab S6.out.cx).mono ?_); rintro e w7 ⟨rfl, hb⟩; have S7 := Lib.hid (S6.out.below hb); have xa7 := S7.out.ba.cell; have xx7 := S7.out.bx.cell; clear hb)
    | (go_at_call 9; (with_reducible refine (kV w7 S7.out.ca).mono ?_); rintro e w8 ⟨rfl, hb⟩; have S8 := Lib.hid (S7.out.below hb); have xa8 := S8.out.ba.cell; have xx8 := S8.out.bx.cell; clear hb)
    | (go_at_call 10; (with_reducible refine (kO w8).mono ?_); rintro e w9 ⟨A7, rfl, hc, hb⟩; have S9 := Lib.hid (S8.out.below hb); have xa9 := S9.out.ba.cell; have xx9 := S9.out.bx.cell; have C7 := Lib.hid hc; clear hc; clear hb)
    | (go_at_call 7; (with_reducible refine (k7 A7 w9 S9.out.tab C7.out).mono ?_); rintro e w10 ⟨rfl, hb⟩; have S10 := Lib.hid (S9.out.below hb); have xa10 := S10.out.ba.cell; have xx10 := S10.out.bx.cell; clear hb))
  go_ret
  exact ⟨rfl, S10.out.bel⟩
set_option maxHeartbeats 16000000 in
theorem texts_gv (s : ByteArray) (hs : s.size ≤ 9223372036854775807) (A : Option Addr) (n c X : Nat) (hX : Hid (X < 4294967296 ^ n)) (hn : n ≤ 9223372036854775807) (hE : Hid (npE s.data.toList = 0)) (ha : Hid (true = valB n X)) (w : World) (htab : Tab w) (hI : Cel .u32 w A (dg 4294967296 n X)) :
    Calls Tryd.prog 3 #[.agg #[.slice A n c], .string s] w fun e w' => e = .returned (.bool true) ∧ Below w.heap.size w w' := by
  obtain ⟨V, hV⟩ : ∃ V, Hid (V = npV s.data.toList) := ⟨_, Lib.hid rfl⟩
  obtain ⟨M, hM⟩ : ∃ M, Hid (M = nlen 4294967296 V) := ⟨_, Lib.hid rfl⟩
  obtain ⟨Fa, hF⟩ : ∃ Fa : ByteArray, Hid (Fa = ⟨(fmtL n X).toArray⟩) := ⟨_, Lib.hid rfl⟩
  have hM64 : M ≤ 64 := by rw [hM.out, hV.out]; exact len_npV _
  have kP : ∀ w, Calls Tryd.prog 4 #[.string s] w (ResP V 0 w) := fun w => by rw [hV.out, ← hE.out]; exact nparse_any s hs w
  have kR : ∀ w, Calls Tryd.prog 5 #[.string s] w (ResP V 0 w) := fun w => by rw [hV.out, ← hE.out]; exact rparse_any s hs w
  have kX : ∀ A c w, Tab w → Cel .u32 w A (dg 4294967296 M V) → Calls Tryd.prog 7 #[.agg #[.slice A M c]] w fun e w' => e = .returned (.string s) ∧ Below w.heap.size w w' := fun A c w ht hI => by
    have cc := nformat_any A M c V (Lib.hid (by rw [hM.out]; exact nlen_lt (by omega) V)) (by omega) w ht hI
    rw [hV.out, text_back hE.out M (by rw [hM.out, hV.out])] at cc
    exact cc
  have kS : ∀ A c D d w, Cel .u32 w A (dg 4294967296 M V) → Cel .u32 w D (dg 4294967296 M V) → Calls Tryd.prog 6 #[.agg #[.slice A M c], .agg #[.slice D M d]] w fun e w' => e = .returned (.bool true) ∧ Below w.heap.size w w' := fun A c D d w hI hJ => same_any A D M c d V (by omega) w hI hJ
  have kF : ∀ w, Tab w → Cel .u32 w A (dg 4294967296 n X) → Calls Tryd.prog 7 #[.agg #[.slice A n c]] w fun e w' => e = .returned (.string Fa) ∧ Below w.heap.size w w' := fun w ht hI => by rw [hF.out]; exact nformat_any A n c X hX hn w ht hI
  have kG : ∀ w, Cel .u32 w A (dg 4294967296 n X) → Calls Tryd.prog 8 #[.agg #[.slice A n c]] w fun e w' => e = .returned (.string Fa) ∧ Below w.heap.size w w' := fun w hI => by rw [hF.out]; exact rformat_any A n c X hX hn w hI
  have kV : ∀ w, Cel .u32 w A (dg 4294967296 n X) → Calls Tryd.prog 9 #[.agg #[.slice A n c]] w fun e w' => e = .returned (.bool true) ∧ Below w.heap.size w w' := fun w hI => valid_any A n c X true hX ha hn w hI
  have kO : ∀ w, Calls Tryd.prog 10 #[.int .u32 7] w (OneP 7 w) := fun w => one_any 7 (by omega) w
  have k7 : ∀ A w, Tab w → Cel .u32 w A (dg 4294967296 1 7) → Calls Tryd.prog 7 #[.agg #[.slice A 1 1]] w fun e w' => e = .returned (.string ⟨#[55]⟩) ∧ Below w.heap.size w w' := fun A w ht hI => by
    have cc := nformat_any A 1 1 7 (Lib.hid (by decide)) (by omega) w ht hI
    rw [seven] at cc
    exact cc
  have hn64 := (valB_iff.1 ha.out.symm).1
  have hNn : Hid (n = nlen 4294967296 X) := Lib.hid (valB_iff.1 ha.out.symm).2.symm
  have kQ : ∀ w, Calls Tryd.prog 4 #[.string Fa] w (ResP X 0 w) := fun w => by
    have hb := back_text ha.out.symm
    have cc := nparse_any Fa (by rw [hF.out, size_len, fmt_yes ha.out.symm]; have := dec_620 ha.out.symm; simp; omega) w
    rw [hF.out] at cc ⊢
    rw [show (⟨(fmtL n X).toArray⟩ : ByteArray).data.toList = fmtL n X by simp, hb.1, hb.2] at cc
    exact cc
  have kT : ∀ A c D d w, Cel .u32 w A (dg 4294967296 n X) → Cel .u32 w D (dg 4294967296 n X) → Calls Tryd.prog 6 #[.agg #[.slice A n c], .agg #[.slice D n d]] w fun e w' => e = .returned (.bool true) ∧ Below w.heap.size w w' := fun A c D d w hI hJ => same_any A D n c d X (by omega) w hI hJ
  have HI := Lib.hid hI
  clear hI hX hV hF hE
  go_enter Tryd.func3, Tryd.ntmps3
  go_wp2_with (first
    | (go_at_call 4; (with_reducible refine (kP _).mono ?_); rintro e w1 ⟨A1, n1, c1, rfl, q, hb⟩; obtain ⟨z, g⟩ := num_at hM.out q; subst z; have B1 := Lib.hid (below_on (below_new _ _) hb); have C1 := Lib.hid g; have CA1 := Lib.hid ((HI.out.alloc _).below hb); have XA1 := Lib.hid ((Bx.new_ _ _ _).below hb); clear hb g q)
    | (go_at_call 5; (with_reducible refine (kR _).mono ?_); rintro e w2 ⟨A2, n2, c2, rfl, q, hb⟩; obtain ⟨z, g⟩ := num_at hM.out q; subst z; have B2 := Lib.hid (below_on (B1.out.alloc B1.out.size _) hb); have C2 := Lib.hid g; have C12 := Lib.hid ((C1.out.alloc _).below hb); have CA2 := Lib.hid ((CA1.out.alloc _).below hb); have XA2 := Lib.hid ((XA1.out.alloc _).below hb); have X12 := Lib.hid ((Bx.new_ _ _ _).below hb); clear hb g q))
  obtain ⟨w3, hw3⟩ : ∃ w3, w2.alloc (.cells #[.slice A2 M c2] 24) = w3 := ⟨_, rfl⟩
  have S3 : Hid (Ts w A n c X w1.heap.size A1 M c1 w2.heap.size A2 c2 V w3) := Lib.hid (by
    rw [← hw3]
    exact ⟨B2.out.alloc B2.out.size _, XA2.out.alloc _, X12.out.alloc _, Bx.new_ _ _ _, CA2.out.alloc _, C12.out.alloc _, C2.out.alloc _, tab_on htab (B2.out.alloc B2.out.size _)⟩)
  rw [hw3]
  clear hw3 B1 B2 C1 C2 C12 CA1 CA2 XA1 XA2 X12 HI kP kR
  have xa3 := S3.out.ba.cell; have xx3 := S3.out.bx.cell; have xy3 := S3.out.by_.cell
  go_region_held3 (fun w' => w'.cell? ⟨w.heap.size, 0, none⟩ = some (.slice A n c) ∧ w'.cell? ⟨w1.heap.size, 0, none⟩ = some (.slice A1 M c1) ∧ w'.cell? ⟨w2.heap.size, 0, none⟩ = some (.slice A2 M c2)) (go_keep)
    (first
      | (go_at_call 6; (with_reducible refine (kS A1 c1 A2 c2 w3.drew (S3.out.drew.cx) (S3.out.drew.cy)).mono ?_); rintro e w4 ⟨rfl, hb⟩; have S4 := Lib.hid (S3.out.drew.below hb); have xa4 := S4.out.ba.cell; have xx4 := S4.out.bx.cell; have xy4 := S4.out.by_.cell; clear hb)
      | (go_at_call 7; (with_reducible refine (kF w4 S4.out.tab S4.out.ca).mono ?_); rintro e w5 ⟨rfl, hb⟩; have S5 := Lib.hid (S4.out.below hb); have xa5 := S5.out.ba.cell; have xx5 := S5.out.bx.cell; have xy5 := S5.out.by_.cell; clear hb)
      | (go_at_call 8; (with_reducible refine (kG w5 S5.out.ca).mono ?_); rintro e w6 ⟨rfl, hb⟩; have S6 := Lib.hid (S5.out.below hb); have xa6 := S6.out.ba.cell; have xx6 := S6.out.bx.cell; have xy6 := S6.out.by_.cell; clear hb))
  clear xa3 xx3 xy3 xa4 xx4 xy4 xa5 xx5 xy5 S3 S4 S5
  go_wp2_with (first
    | (go_at_call 7; (with_reducible refine (kX A1 c1 w6 S6.out.tab S6.out.cx).mono ?_); rintro e w7 ⟨rfl, hb⟩; have S7 := Lib.hid (S6.out.below hb); have xa7 := S7.out.ba.cell; have xx7 := S7.out.bx.cell; clear hb)
    | (go_at_call 9; (with_reducible refine (kV w7 S7.out.ca).mono ?_); rintro e w8 ⟨rfl, hb⟩; have S8 := Lib.hid (S7.out.below hb); have xa8 := S8.out.ba.cell; have xx8 := S8.out.bx.cell; clear hb)
    | (go_at_call 7; (with_reducible refine (kF w8 S8.out.tab S8.out.ca).mono ?_); rintro e w9 ⟨rfl, hb⟩; have S9 := Lib.hid (S8.out.below hb); have xa9 := S9.out.ba.cell; have xx9 := S9.out.bx.cell; clear hb)
    | (go_at_call 4; (with_reducible refine (kQ w9).mono ?_); rintro e w10 ⟨A9, n9, c9, rfl, q, hb⟩; have S10 := Lib.hid (S9.out.below hb); have xa10 := S10.out.ba.cell; have xx10 := S10.out.bx.cell; obtain ⟨z, g⟩ := num_at hNn.out q; subst z; have C9 := Lib.hid g; have xp := fun o => (S10.out.alloc o).ba.cell; clear g q; clear hb)
    | (go_at_call 6; (with_reducible refine (kT A9 c9 A c _ (C9.out.alloc _) (S10.out.alloc _).ca).mono ?_); rintro e w11 ⟨rfl, hb⟩; have S11 := Lib.hid ((S10.out.alloc _).below hb); clear hb)
    | (go_at_call 10; (with_reducible refine (kO w11).mono ?_); rintro e w12 ⟨A7, rfl, hc, hb⟩; have S12 := Lib.hid (S11.out.below hb); have xa12 := S12.out.ba.cell; have xx12 := S12.out.bx.cell; have C7 := Lib.hid hc; clear hc; clear hb)
    | (go_at_call 7; (with_reducible refine (k7 A7 w12 S12.out.tab C7.out).mono ?_); rintro e w13 ⟨rfl, hb⟩; have S13 := Lib.hid (S12.out.below hb); have xa13 := S13.out.ba.cell; have xx13 := S13.out.bx.cell; clear hb))
  go_ret
  exact ⟨rfl, S13.out.bel⟩
theorem texts_any (s : ByteArray) (hs : s.size ≤ 9223372036854775807) (A : Option Addr) (n c X : Nat) (hX : Hid (X < 4294967296 ^ n)) (hn : n ≤ 9223372036854775807) (w : World) (htab : Tab w) (hI : Cel .u32 w A (dg 4294967296 n X)) :
    Calls Tryd.prog 3 #[.agg #[.slice A n c], .string s] w fun e w' => e = .returned (.bool true) ∧ Below w.heap.size w w' := by
  by_cases hE : npE s.data.toList = 0
  · cases ha : valB n X with
    | false => exact texts_gb s hs A n c X hX hn (Lib.hid hE) (Lib.hid ha.symm) w htab hI
    | true => exact texts_gv s hs A n c X hX hn (Lib.hid hE) (Lib.hid ha.symm) w htab hI
  · cases ha : valB n X with
    | false => exact texts_bb s hs A n c X hX hn (Lib.hid hE) (Lib.hid ha.symm) w htab hI
    | true => exact texts_bv s hs A n c X hX hn (Lib.hid hE) (Lib.hid ha.symm) w htab hI
end Go.Proofs.YtjbckijeobmoeaaDoor.ntL

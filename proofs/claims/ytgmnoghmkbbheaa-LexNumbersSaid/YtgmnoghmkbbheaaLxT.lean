/-
  Contracts of the program's endsLine, beforeEnd, Join.
-/
import Derived.Test.YtgmnoghmkbbheaaLxD
import Derived.Test.YtgmnoghmkbbheaaLxJ
namespace Go.Proofs.Ytgmnoghmkbbheaa.lxT
open Go.RowKit Go.Shelf
open Go.Proofs.Ytgmnoghmkbbheaa.lxM Go.Proofs.Ytgmnoghmkbbheaa.lxN Go.Proofs.Ytgmnoghmkbbheaa.lxA Go.Proofs.Ytgmnoghmkbbheaa.lxD Go.Proofs.Ytgmnoghmkbbheaa.lxJ
set_option linter.unusedVariables false

theorem below_new (w : World) (a : Obj) : Below w.heap.size w (w.alloc a) := (Below.refl _ w).alloc (Nat.le_refl _) a
set_option maxHeartbeats 1000000 in
theorem ends_any (k0 l0 c0 : Int) (t0 : ByteArray) (b : Bool) (hb : Hid (b = lf (k0, t0.data.toList))) (w : World) :
    Calls Try.prog 27 #[.agg #[.int .i64 k0, .int .i64 l0, .int .i64 c0, .string t0]] w fun e w' => e = .returned (.bool b) ∧ Below w.heap.size w w' := by
  have h := hb.out
  rw [lf_of] at h
  clear hb
  cases d0 : (k0 == 3) with
  | false =>
    rw [d0, Bool.false_and] at h
    subst h
    go_enter Try.func27, Try.ntmps27
    go_wp2_with fail
    go_ret
    exact ⟨rfl, below_new _ _⟩
  | true =>
  rw [d0, Bool.true_and] at h
  cases d1 : (t0.toList == [123]) with
  | true =>
    rw [d1, Bool.true_or, Bool.true_or] at h
    subst h
    go_enter Try.func27, Try.ntmps27
    go_wp2_with fail
    go_ret
    exact ⟨rfl, below_new _ _⟩
  | false =>
  rw [d1, Bool.false_or] at h
  cases d2 : (t0.toList == [125]) with
  | true =>
    rw [d2, Bool.true_or] at h
    subst h
    go_enter Try.func27, Try.ntmps27
    go_wp2_with fail
    go_ret
    exact ⟨rfl, below_new _ _⟩
  | false =>
    rw [d2, Bool.false_or] at h
    have d3 : (t0.toList == [59]) = b := h.symm
    clear h
    go_enter Try.func27, Try.ntmps27
    go_wp2_with fail
    go_ret
    exact ⟨rfl, below_new _ _⟩

/-! ### beforeEnd -/
theorem tok_at {w wr : World} {A : Option Addr} {X : List Tk} {k : Nat} (hI : Tks w A X) (hb : Below w.heap.size w wr) (hk : k < X.length) : ∃ ad off, A = some ⟨ad, off, none⟩ ∧ TkAt wr ad (off + k * 4) (tat X k) := by
  obtain ⟨ad, off, e, h⟩ := hI.at_ hk
  exact ⟨ad, off, e, h.below hb⟩
set_option maxRecDepth 10000 in
set_option maxHeartbeats 1000000 in
theorem before_any (A : Option Addr) (n c : Nat) (X : List Tk) (f : Nat) (hn : Hid (X.length = n)) (hN : n ≤ 1000000) (hc : n ≤ c) (hf : Hid (f = (fore (X.map pr)).length)) (w : World) (hI : Tks w A X) :
    Calls Try.prog 25 #[.slice A n c] w fun e w' => e = .returned (.slice A f c) ∧ Below w.heap.size w w' := by
  have hfl := fore_le (X.map pr)
  have hget := fun {i} => @fore_get (X.map pr) i
  have hstop := @fore_stop (X.map pr)
  rw [List.length_map] at hstop hfl
  rw [← hf.out] at hfl hstop
  simp only [← hf.out] at hget
  rw [hn.out] at hfl hstop
  have HG := Lib.hid (fun i => @hget i)
  have HST := Lib.hid hstop
  clear hget hstop hf
  go_enter Try.func25, Try.ntmps25
  go_wp2_with fail
  go_loopw [7] (fun s7 wr => ∃ i : Nat, i ≤ f ∧ s7 = .int .i64 (i : Int) ∧ Hid (Below w.heap.size w wr)) (fun s7 _ => f + 1 - (intOf s7).toNat)
  case atStart => exact ⟨0, Nat.zero_le _, rfl, Lib.hid (Below.refl _ _)⟩
  case round =>
    obtain ⟨i, hi, rfl, HB⟩ := hrel
    by_cases hlt : i < f
    · obtain ⟨y, g1, g2, g3⟩ := HG.out i hlt
      obtain ⟨ad, off, rfl, hx⟩ := tok_at hI HB.out (k := i) (by rw [hn.out]; omega)
      have e : y = pr (tat X i) := by
        rw [List.getElem?_map, tat_some (by rw [hn.out]; omega)] at g1
        exact (Option.some.inj g1).symm
      subst e
      generalize tat X i = x at *
      obtain ⟨k0, l0, c0, t0⟩ := x
      obtain ⟨x0, x1, x2, x3⟩ := hx
      have g3' : (k0 == 0) = false := by rw [beq_eq_false_iff_ne]; exact g3
      simp only at x0 x1 x2 x3
      have i0 : (0 : Int) ≤ (i : Int) := by omega
      have i1 : (i : Int) < (n : Int) := by omega
      clear g1 g2 g3
      go_wp2_with fail
      go_roundw
      case rel => exact ⟨i + 1, by omega, by go_num, Lib.hid (HB.out.alloc HB.out.size _)⟩
      case measure => simp [intOf]; omega
    · obtain rfl : i = f := by omega
      rcases Nat.lt_or_ge i n with hin | hin
      · obtain ⟨ad, off, rfl, hx⟩ := tok_at hI HB.out (k := i) (by rw [hn.out]; exact hin)
        have hk0 : (tat X i).kind = 0 := by
          obtain ⟨y, g1, g2⟩ := HST.out hin
          rw [List.getElem?_map, tat_some (by rw [hn.out]; exact hin)] at g1
          have e := (Option.some.inj g1).symm
          rw [e] at g2
          exact g2
        generalize tat X i = x at *
        obtain ⟨k0, l0, c0, t0⟩ := x
        obtain ⟨x0, x1, x2, x3⟩ := hx
        simp only at x0 x1 x2 x3 hk0
        subst hk0
        have i0 : (0 : Int) ≤ (i : Int) := by omega
        have i1 : (i : Int) < (n : Int) := by omega
        have i2 : (i : Int) ≤ (c : Int) := by omega
        go_wp2_with fail
        go_ret
        exact ⟨rfl, HB.out.alloc HB.out.size _⟩
      · obtain rfl : i = n := by omega
        go_wp2_with fail
        go_ret
        exact ⟨rfl, HB.out⟩

/-! ### Join -/
set_option maxRecDepth 10000 in
set_option maxHeartbeats 4000000 in
theorem join_any (A : Option Addr) (n c : Nat) (X : List Tk) (T : By) (hn : Hid (X.length = n)) (hN : n ≤ 1000000) (hc : n ≤ c) (hT : Hid (T = jn (fore (X.map pr)))) (hl : T.length ≤ 1000000000) (w : World) (hI : Tks w A X) :
    Calls Try.prog 15 #[.slice A n c] w (JnP w T) := by
  obtain ⟨F, hF⟩ : ∃ F, F = fore (X.map pr) := ⟨_, rfl⟩
  have hfl := fore_le (X.map pr)
  have hget := fun {i} => @fore_get (X.map pr) i
  rw [List.length_map] at hfl
  rw [← hF] at hT hfl
  simp only [← hF] at hget
  obtain ⟨f, hf⟩ : ∃ f, f = F.length := ⟨_, rfl⟩
  have cbe := fun w hI => before_any A n c X f hn hN hc (Lib.hid (by rw [← hF]; exact hf)) w hI
  rw [← hf] at hfl hget
  rw [hn.out] at hfl
  have HG := Lib.hid (fun i => @hget i)
  have HF := Lib.hid hf
  clear hF hf hget
  go_enter Try.func15, Try.ntmps15
  go_wp2_with (go_at_call 25; (refine (cbe _ hI).mono ?_); rintro e w1 ⟨rfl, b1⟩; have bn := bw_new w1; have bb := b1.alloc b1.size (.cells #[.pointer none, .slice none 0 0] 49); have hs1 := b1.size)
  obtain ⟨b, hb⟩ : ∃ b, b = w1.heap.size := ⟨_, rfl⟩
  obtain ⟨w2, hw2⟩ : ∃ w2, w1.alloc (.cells #[.pointer none, .slice none 0 0] 49) = w2 := ⟨_, rfl⟩
  have hs2 : b < w2.heap.size := by rw [hb, ← hw2]; simp
  rw [hw2, ← hb] at bn
  rw [hw2] at bb
  rw [hw2, ← hb]
  rw [← hb] at hs1
  clear hw2 hb
  have BN := Lib.hid bn
  have BB := Lib.hid bb
  clear bn bb
  go_loopw [10] (fun s10 wr => ∃ (i : Nat) (O : By), i ≤ f ∧ s10 = .int .i64 (i : Int) ∧ b < wr.heap.size ∧ Hid (Bw wr b b O) ∧ Hid (O ++ jn (F.drop i) = T) ∧ Hid (Below w.heap.size w wr)) (fun s10 _ => f - (intOf s10).toNat)
  case atStart => exact ⟨0, [], Nat.zero_le _, rfl, hs2, BN, Lib.hid (by rw [List.drop_zero, hT.out]; rfl), BB⟩
  case round =>
    obtain ⟨i, O, hi, rfl, hbw, HW, HO, HB⟩ := hrel
    by_cases hlt : i < f
    · obtain ⟨y, g1, g2, g3⟩ := HG.out i hlt
      obtain ⟨ad, off, rfl, hx⟩ := tok_at hI HB.out (k := i) (by rw [hn.out]; omega)
      have e : y = pr (tat X i) := by
        rw [List.getElem?_map, tat_some (by rw [hn.out]; omega)] at g1
        exact (Option.some.inj g1).symm
      subst e
      have hst := jn_step g2
      rw [← HF.out] at hst
      have ho := HO.out
      rw [hst] at ho
      generalize tat X i = x at *
      obtain ⟨k0, l0, c0, t0⟩ := x
      obtain ⟨x0, x1, x2, x3⟩ := hx
      simp only at x0 x1 x2 x3
      have hsz : (pr ⟨k0, l0, c0, t0⟩).2.length = t0.size := (size_len t0).symm
      have hlens : O.length + t0.size + 1 ≤ 2000000000 := by
        have h1 := congrArg List.length ho
        rw [List.length_append, List.length_append, hsz] at h1
        omega
      obtain ⟨w3, hw3⟩ : ∃ w3, wr.alloc (.cells #[.int .i64 k0, .int .i64 l0, .int .i64 c0, .string t0] 32) = w3 := ⟨_, rfl⟩
      have hq3 : w3.heap[wr.heap.size]? = some (.cells #[.int .i64 k0, .int .i64 l0, .int .i64 c0, .string t0] 32 (0, 0)) := by rw [← hw3]; exact heap_alloc_new wr _
      have hs3 : b < w3.heap.size := by rw [← hw3]; simp; omega
      have B3 : Below w.heap.size w w3 := by rw [← hw3]; exact HB.out.alloc HB.out.size _
      have W3 : Bw w3 b b O := by rw [← hw3]; exact bw_keep HW.out (below_new _ _)
      have cw := wstr_any b b O t0 w3 W3 (by omega) (by omega)
      obtain ⟨lb, hlb⟩ : ∃ lb, lb = lf (k0, t0.data.toList) := ⟨_, rfl⟩
      have ce := fun w => ends_any k0 l0 c0 t0 lb (Lib.hid hlb) w
      have hsp : ∀ q, sp (pr ⟨k0, l0, c0, t0⟩) q = if lb then [10] else if q then [] else [32] := fun q => by rw [hlb]; rfl
      have ho2 : O ++ (t0.data.toList ++ ((if lb then [10] else if decide (i + 1 = f) then [] else [32]) ++ jn (F.drop (i + 1)))) = T := by rw [← hsp]; exact ho
      have hle : (O ++ t0.data.toList).length + 1 ≤ 2000000000 := by rw [List.length_append, ← size_len]; omega
      obtain ⟨g, hg⟩ : ∃ g, g + 1 = f := ⟨f - 1, by omega⟩
      have hgi : (f : Int) - 1 = (g : Int) := by omega
      have i0 : (0 : Int) ≤ (i : Int) := by omega
      have i1 : (i : Int) < (f : Int) := by omega
      have hi1 : i + 1 ≤ f := hlt
      have hqb : wr.heap.size ≠ b := by omega
      have HO2 := Lib.hid ho2
      have HQ := Lib.hid hq3
      have HB3 := Lib.hid B3
      have HQB := Lib.hid hqb
      clear hsp ho g1 g2 g3 hst HO HW hsz hlb W3 ho2 hq3 B3 hqb
      have tq : ∀ w4, Kept w3 b b w4 → w4.heap[wr.heap.size]? = some (.cells #[.int .i64 k0, .int .i64 l0, .int .i64 c0, .string t0] 32 (0, 0)) := fun w4 h => h.oth _ _ HQ.out (fun e => HQB.out (Option.some.inj e)) (fun c fz e => by injection e with _ e _; exact absurd e (by decide))
      have HTQ := Lib.hid tq
      have qt : w3.cell? ⟨wr.heap.size, 3, none⟩ = some (.string t0) := by rw [cell_of_row _ _ _ _ _ _ HQ.out]; rfl
      clear tq HQ HQB
      have four : ∀ w4, Kept w3 b b w4 → w4.cell? ⟨wr.heap.size, 0, none⟩ = some (.int .i64 k0) ∧ w4.cell? ⟨wr.heap.size, 1, none⟩ = some (.int .i64 l0) ∧ w4.cell? ⟨wr.heap.size, 2, none⟩ = some (.int .i64 c0) ∧ w4.cell? ⟨wr.heap.size, 3, none⟩ = some (.string t0) := fun w4 h => by
        have e := HTQ.out w4 h
        exact ⟨by rw [cell_of_row _ _ _ _ _ _ e]; rfl, by rw [cell_of_row _ _ _ _ _ _ e]; rfl, by rw [cell_of_row _ _ _ _ _ _ e]; rfl, by rw [cell_of_row _ _ _ _ _ _ e]; rfl⟩
      have H4 := Lib.hid four
      clear four HTQ
      have HSZ := Lib.hid (fun (u v : World) (h : Kept u b b v) => h.bel.size)
      cases lb with
      | true =>
        rw [if_pos rfl] at HO2
        go_wp2_with (first
          | (go_at_call 26; (refine cw.mono ?_); rintro e w4 ⟨rfl, W4, K4⟩; obtain ⟨y0, y1, y2, y3⟩ := H4.out w4 K4; have hs4 := HSZ.out _ _ K4)
          | (go_at_call 27; (refine (ce _).mono ?_); rintro e w5 ⟨rfl, b5⟩; have W5 := bw_keep W4 b5; have hs5 := b5.size; have B5 := (HB3.out.trans (K4.bel.mono hs1)).trans (b5.mono (by omega)))
          | (go_at_call 28; (refine (wbyte_any b b (O ++ t0.data.toList) 10 10 rfl _ W5 hle (by omega)).mono ?_); rintro e w6 ⟨rfl, W6, K6⟩; have hs6 := HSZ.out _ _ K6))
        go_roundw
        case rel => exact ⟨i + 1, _, hi1, by go_num, by omega, Lib.hid W6, Lib.hid (by rw [← HO2.out]; simp), Lib.hid (B5.trans (K6.bel.mono hs1))⟩
        case measure => simp [intOf]; omega
      | false =>
        rw [if_neg (by simp)] at HO2
        by_cases hlast : i + 1 = f
        · rw [decide_eq_true hlast, if_pos rfl] at HO2
          have jl : ¬ ((i : Int) < (g : Int)) := by omega
          clear hlast
          go_wp2_with (first
            | (go_at_call 26; (refine cw.mono ?_); rintro e w4 ⟨rfl, W4, K4⟩; obtain ⟨y0, y1, y2, y3⟩ := H4.out w4 K4; have hs4 := HSZ.out _ _ K4)
            | (go_at_call 27; (refine (ce _).mono ?_); rintro e w5 ⟨rfl, b5⟩; have W5 := bw_keep W4 b5; have hs5 := b5.size; have B5 := (HB3.out.trans (K4.bel.mono hs1)).trans (b5.mono (by omega))))
          go_roundw
          case rel => exact ⟨i + 1, _, hi1, by go_num, by omega, Lib.hid W5, Lib.hid (by rw [← HO2.out]; simp), Lib.hid B5⟩
          case measure => simp [intOf]; omega
        · rw [decide_eq_false hlast, if_neg (by simp)] at HO2
          have jl : (i : Int) < (g : Int) := by omega
          clear hlast
          go_wp2_with (first
            | (go_at_call 26; (refine cw.mono ?_); rintro e w4 ⟨rfl, W4, K4⟩; obtain ⟨y0, y1, y2, y3⟩ := H4.out w4 K4; have hs4 := HSZ.out _ _ K4)
            | (go_at_call 27; (refine (ce _).mono ?_); rintro e w5 ⟨rfl, b5⟩; have W5 := bw_keep W4 b5; have hs5 := b5.size; have B5 := (HB3.out.trans (K4.bel.mono hs1)).trans (b5.mono (by omega)))
            | (go_at_call 28; (refine (wbyte_any b b (O ++ t0.data.toList) 32 32 rfl _ W5 hle (by omega)).mono ?_); rintro e w6 ⟨rfl, W6, K6⟩; have hs6 := HSZ.out _ _ K6))
          go_roundw
          case rel => exact ⟨i + 1, _, hi1, by go_num, by omega, Lib.hid W6, Lib.hid (by rw [← HO2.out]; simp), Lib.hid (B5.trans (K6.bel.mono hs1))⟩
          case measure => simp [intOf]; omega
    · obtain rfl : i = f := by omega
      have hdr : jn (F.drop i) = [] := by rw [List.drop_eq_nil_of_le (by rw [← HF.out]; exact Nat.le_refl _)]; rfl
      have ho := HO.out
      rw [hdr, List.append_nil] at ho
      subst ho
      have cs := bstr_any b b O wr HW.out (by omega)
      clear hdr HO HW
      go_wp2_with (go_at_call 29; (refine cs.mono ?_); rintro e w4 ⟨rfl, b4⟩)
      go_ret
      exact ⟨⟨O.toArray⟩, rfl, rfl, HB.out.trans (b4.mono hs1)⟩
end Go.Proofs.Ytgmnoghmkbbheaa.lxT

/-
  The law LexPositions, over any Scan and Join that keep the record of contracts.
-/
import Derived.Test.YtgmnoghmkbbheaaLxL
namespace Go.Proofs.Ytgmnoghmkbbheaa.lxP
open Go.RowKit
open Go.Proofs.Ytgmnoghmkbbheaa.lxM Go.Proofs.Ytgmnoghmkbbheaa.lxN Go.Proofs.Ytgmnoghmkbbheaa.lxA Go.Proofs.Ytgmnoghmkbbheaa.lxB Go.Proofs.Ytgmnoghmkbbheaa.lxC Go.Proofs.Ytgmnoghmkbbheaa.lxD Go.Proofs.Ytgmnoghmkbbheaa.lxQ Go.Proofs.Ytgmnoghmkbbheaa.lxL
set_option linter.unusedVariables false

/-! ### where the walk over the tokens stands -/
def Ps (L : By) (X : List Tk) (i a : Nat) : Prop := (∃ ts, In L a ts ∧ X.drop i = tks L ts) ∨ (X.drop i = [] ∧ a = L.length)
theorem drop_tat {X : List Tk} {i : Nat} {x : Tk} {r : List Tk} (h : X.drop i = x :: r) : tat X i = x ∧ X.drop (i + 1) = r ∧ i < X.length := by
  have hlt : i < X.length := by
    rcases Nat.lt_or_ge i X.length with h' | h'
    · exact h'
    · rw [List.drop_eq_nil_of_le h'] at h; cases h
  rw [List.drop_eq_getElem_cons hlt] at h
  obtain ⟨h1, h2⟩ := List.cons.inj h
  exact ⟨by rw [← h1]; simp [tat, List.getD, hlt], h2, hlt⟩
theorem ps_step {L : By} {X : List Tk} {i a : Nat} (h : Ps L X i a) (hi : i < X.length) (ha : a ≤ L.length) :
    ∃ o n k : Nat, tat X i = ⟨(k : Int), (ln L o : Int), ((o - ls L o + 1 : Nat) : Int), cut L o n⟩ ∧ a ≤ o ∧ o + n ≤ L.length ∧ (k = 0 ↔ i + 1 = X.length) ∧ (n = 0 ↔ k = 0) ∧ Ps L X (i + 1) (o + n) ∧ ln L (o + n) = ln L o ∧ ls L (o + n) = ls L o := by
  rcases h with ⟨ts, h1, h2⟩ | ⟨h2, _⟩
  · cases ts with
    | nil =>
      obtain ⟨e1, e2, _⟩ := drop_tat (x := tkE L) (r := []) h2
      have hl : X.length = i + 1 := by
        have := congrArg List.length e2
        rw [List.length_drop, List.length_nil] at this; omega
      refine ⟨L.length, 0, 0, e1, ha, Nat.le_refl _, ⟨fun _ => hl.symm, fun _ => rfl⟩, Iff.rfl, .inr ⟨e2, rfl⟩, rfl, rfl⟩
    | cons t r =>
      obtain ⟨o, n, k⟩ := t
      obtain ⟨g1, g2, g3, g4, g5, g6⟩ := h1
      obtain ⟨e1, e2, e3⟩ := drop_tat (x := tk L (o, n, k)) (r := tks L r) h2
      have hl : i + 1 < X.length := by
        have := congrArg List.length e2
        rw [List.length_drop, tks_len] at this; omega
      have hf := tok_flat g4
      refine ⟨o, n, k, e1, g1, g3, ⟨fun h => absurd h g5, fun h => by omega⟩, ⟨fun h => by omega, fun h => absurd h g5⟩, .inl ⟨r, g6, e2⟩, hf.1, hf.2⟩
  · have := congrArg List.length h2
    rw [List.length_drop, List.length_nil] at this; omega
theorem ps_end {L : By} {X : List Tk} {a : Nat} (h : Ps L X X.length a) : a = L.length := by
  rcases h with ⟨ts, _, h2⟩ | ⟨_, h⟩
  · have := congrArg List.length h2
    rw [List.length_drop, tks_len] at this; omega
  · exact h
set_option maxRecDepth 10000 in
set_option maxHeartbeats 4000000 in
theorem positions (P : PLx) (s : ByteArray) (hs : s.size ≤ 9223372036854775807) (w : World) (hi : P.inv w) :
    Calls Try.prog 6 #[.string s] w fun e w' => e = .returned (.bool true) ∧ Below w.heap.size w w' := by
  have K0 := Kx.start hi
  clear hi
  by_cases h : 5000 < s.size
  · have t : (5000 : Int) < (s.size : Int) := by omega
    clear h
    go_enter Try.func6, Try.ntmps6
    go_wp2_with (go_at_call 10; (refine (awake_any P _ _ K0).mono ?_); rintro e w9 ⟨rfl, K9⟩)
    go_ret
    exact ⟨rfl, K9.bel⟩
  have t : ¬ (5000 : Int) < (s.size : Int) := by omega
  have hs5 : s.size ≤ 5000 := by omega
  clear h hs
  rcases sx_any s.data.toList with ⟨ts, hx⟩ | ⟨o, hx⟩
  · have c1 : ∀ w, P.inv w → Calls Try.prog 11 #[.string s] w (ScP w (tks s.data.toList ts) 0 0) := fun w h' => P.scan s _ 0 0 (by omega) (Lib.hid (.inl ⟨ts, hx, rfl, rfl, rfl⟩)) w h'
    have hlen := sx_len hx
    rw [← size_len] at hlen
    obtain ⟨N, hN⟩ : ∃ N, Hid ((tks s.data.toList ts).length = N) := ⟨_, Lib.hid rfl⟩
    have hN5 : N ≤ 5001 := by rw [← hN.out, tks_len]; omega
    have hN0 : 0 < N := by rw [← hN.out, tks_len]; omega
    obtain ⟨L, hL⟩ : ∃ L, L = s.data.toList := ⟨_, rfl⟩
    have hsz : s.size = L.length := by rw [hL]; exact size_len s
    have hbat : ∀ k, (h : k < s.size) → s[k] = bat L k := fun k h => by rw [hL]; exact bat_s s k h
    have hcut : ∀ b d, s.extract b (b + d) = cut L b d := fun b d => by
      rw [cut_s, hL]; congr 1; omega
    rw [← hL] at c1 hN
    have hP0 : Ps L (tks L ts) 0 0 := .inl ⟨ts, in_up (Nat.zero_le _) (sx_in (by rw [hL]; exact hx)), rfl⟩
    have HP0 := Lib.hid hP0
    have HB := Lib.hid hbat
    have HC := Lib.hid hcut
    have HS := Lib.hid hsz
    clear hx hlen hL hsz hbat hcut hP0
    generalize tks L ts = X at *
    go_enter Try.func6, Try.ntmps6
    go_wp2_with (go_at_call 11; (with_reducible refine (c1 _ K0.inv).mono ?_); rintro e w1 r1; (obtain ⟨A, q1, rfl, hc, hT, hb⟩ := scn_of hN r1); have K1 := Lib.hid (K0.on hb); clear r1 hb K0)
    go_loopw [6, 7, 8, 9] (fun s6 s7 s8 s9 wr => ∃ i a x y : Nat, i ≤ N ∧ a ≤ s.size ∧ s9 = .int .i64 (i : Int) ∧ s8 = .int .i64 (a : Int) ∧ s6 = .int .i64 (x : Int) ∧ s7 = .int .i64 (y : Int) ∧ Hid (x = ln L a) ∧ Hid (y = ls L a) ∧ Hid (Ps L X i a) ∧ Hid (Below w1.heap.size w1 wr)) (fun _ _ _ s9 _ => N - (intOf s9).toNat)
    case atStart => exact ⟨0, 0, 1, 0, Nat.zero_le _, Nat.zero_le _, rfl, rfl, rfl, rfl, Lib.hid rfl, Lib.hid rfl, HP0, Lib.hid (Below.refl _ _)⟩
    case round =>
      obtain ⟨i, a, x, y, hi, ha, rfl, rfl, rfl, rfl, HX, HY, HPs, HBw⟩ := hrel
      by_cases hlt : i < N
      · have hiX : i < X.length := by rw [hN.out]; exact hlt
        obtain ⟨ad, off, rfl, hx⟩ := (hT.below HBw.out).at_ (k := i) hiX
        obtain ⟨o, n, k, ht, ho1, ho2, hk, hnk, hps, hl1, hl2⟩ := ps_step HPs.out hiX (by rw [← HS.out]; exact ha)
        rw [ht] at hx
        rw [← HS.out] at ho2
        rw [hN.out] at hk
        obtain ⟨z, hz⟩ : ∃ z, z = o + n := ⟨_, rfl⟩
        obtain ⟨T, hTe⟩ : ∃ T, T = cut L o n := ⟨_, rfl⟩
        have hTx : s.extract o z = T := by rw [hz, HC.out, hTe]
        have hTs : T.size = n := by
          rw [hTe, size_len]
          simp only [cut]
          rw [List.length_take, List.length_drop, ← HS.out]; omega
        obtain ⟨l0, hl0⟩ : ∃ l0, l0 = ln L o := ⟨_, rfl⟩
        obtain ⟨y0, hy0⟩ : ∃ y0, y0 = ls L o := ⟨_, rfl⟩
        have hyo := ls_le L o
        obtain ⟨c0, hc0⟩ : ∃ c0, c0 = o - ls L o + 1 := ⟨_, rfl⟩
        rw [← hTe, ← hl0, ← hc0] at hx
        obtain ⟨x0, x1, x2, x3⟩ := hx
        simp only at x0 x1 x2 x3
        have e3 : (y0 : Int) + (c0 : Int) - 1 = (o : Int) := by omega
        have g1 : ¬ ((c0 : Int) < 1) := by omega
        have g2 : ¬ ((s.size : Int) - (y0 : Int) < (c0 : Int) - 1) := by omega
        have e4 : (o : Int) + (T.size : Int) = (z : Int) := by omega
        have g4 : decide ((s.size : Int) - (o : Int) < (T.size : Int)) = false := decide_eq_false (by omega)
        have z0 : (0 : Int) ≤ (o : Int) := by omega
        have z1 : (o : Int) ≤ (z : Int) := by omega
        have z2 : (z : Int) ≤ (s.size : Int) := by omega
        have zz : z ≤ s.size := by omega
        have os : o ≤ s.size := by omega
        have ls0 : l0 ≤ 5002 := by have := ln_le L o; omega
        have ys0 : y0 ≤ 5001 := by omega
        have cs0 : c0 ≤ 5002 := by omega
        have gt : (T.toList == T.toList) = true := by simp
        have i0 : (0 : Int) ≤ (i : Int) := by omega
        have i1 : (i : Int) < (N : Int) := by omega
        have hi1 : i + 1 ≤ N := hlt
        obtain ⟨p, hp0, hp1, hp2⟩ : ∃ p : Bool, ((k : Int) == 0) = p ∧ ((i : Int) == (N : Int) - 1) = p ∧ (T.toList == []) = p := by
          by_cases hk0 : k = 0
          · have hn0 := hnk.2 hk0
            have := hk.1 hk0
            refine ⟨true, by rw [beq_iff_eq]; omega, by rw [beq_iff_eq]; omega, ?_⟩
            rw [Go.ByteArray.toList_eq, beq_iff_eq]
            apply List.eq_nil_of_length_eq_zero
            rw [← size_len]; omega
          · refine ⟨false, by rw [beq_eq_false_iff_ne]; omega, by rw [beq_eq_false_iff_ne]; intro h; exact hk0 (hk.2 (by omega)), ?_⟩
            rw [Go.ByteArray.toList_eq, beq_eq_false_iff_ne]
            intro h
            have h' := congrArg List.length h
            rw [← size_len, List.length_nil] at h'
            exact hk0 (hnk.1 (by omega))
        have HPs2 : Hid (l0 = ln L z ∧ y0 = ls L z ∧ Ps L X (i + 1) z) := Lib.hid ⟨by rw [hz, hl1, hl0], by rw [hz, hl2, hy0], by rw [hz]; exact hps⟩
        have HLo : Hid (l0 = ln L o ∧ y0 = ls L o) := Lib.hid ⟨hl0, hy0⟩
        have HA := Lib.hid ho1
        clear ht hk hnk hps hl1 hl2 hz hTe hl0 hy0 hyo hc0 ho2 HPs ho1 hTs hiX
        go_wp2_with fail
        go_loop [6, 7, 8] (fun s6 s7 s8 => ∃ b u v : Nat, b ≤ o ∧ s8 = .int .i64 (b : Int) ∧ s6 = .int .i64 (u : Int) ∧ s7 = .int .i64 (v : Int) ∧ u ≤ b + 1 ∧ Hid (u = ln L b) ∧ Hid (v = ls L b)) (fun _ _ s8 => s.size - (intOf s8).toNat)
        case atStart => exact ⟨a, x, y, HA.out, rfl, rfl, rfl, by rw [HX.out]; exact ln_le L a, HX, HY⟩
        case round =>
          obtain ⟨b, u, v, hb, rfl, rfl, rfl, hub, HU, HV⟩ := hrel
          by_cases more : b < s.size ∧ u < l0
          · obtain ⟨m1, m2⟩ := more
            have hbo : b < o := by
              rcases Nat.lt_or_ge b o with h' | h'
              · exact h'
              · have e : b = o := by omega
                have h1 := HU.out
                have h2 := HLo.out.1
                rw [e] at h1
                omega
            have j0 : (0 : Int) ≤ (b : Int) := by omega
            have j1 : (b : Int) < (s.size : Int) := by omega
            have j2 : (u : Int) < (l0 : Int) := by omega
            have n1 : ln L (b + 1) = if (bat L b).toNat = 10 then ln L b + 1 else ln L b := rfl
            have n2 : ls L (b + 1) = if (bat L b).toNat = 10 then b + 1 else ls L b := rfl
            rw [← HB.out b m1] at n1 n2
            have hb1 : b + 1 ≤ o := hbo
            by_cases h10 : (s[b]'m1).toNat = 10
            · have f10 : (((s[b]'m1).toNat : Int) == 10) = true := by rw [beq_iff_eq]; omega
              rw [if_pos h10] at n1 n2
              have HU2 : Hid (u + 1 = ln L (b + 1)) := Lib.hid (by rw [n1, HU.out])
              have HV2 : Hid (b + 1 = ls L (b + 1)) := Lib.hid n2.symm
              have hub2 : u + 1 ≤ b + 1 + 1 := by omega
              clear n1 n2 h10
              go_wp2_with fail
              go_round
              case rel => exact ⟨b + 1, u + 1, b + 1, hb1, by go_num, by go_num, by go_num, hub2, HU2, HV2⟩
              case measure => simp [intOf]; omega
            · have f10 : (((s[b]'m1).toNat : Int) == 10) = false := by rw [beq_eq_false_iff_ne]; omega
              rw [if_neg h10] at n1 n2
              have HU2 : Hid (u = ln L (b + 1)) := Lib.hid (by rw [n1, HU.out])
              have HV2 : Hid (v = ls L (b + 1)) := Lib.hid (by rw [n2, HV.out])
              have hub2 : u ≤ b + 1 + 1 := by omega
              clear n1 n2 h10
              go_wp2_with fail
              go_round
              case rel => exact ⟨b + 1, u, v, hb1, by go_num, rfl, rfl, hub2, HU2, HV2⟩
              case measure => simp [intOf]; omega
          · have hln : ln L b = ln L o := by
              have h1 := HU.out
              have h2 := HLo.out.1
              obtain ⟨d, hd⟩ : ∃ d, o = b + d := ⟨o - b, by omega⟩
              have h3 := ln_up L b d
              rw [← hd] at h3
              rcases Nat.lt_or_ge b s.size with h' | h'
              · have : ¬ u < l0 := fun h'' => more ⟨h', h''⟩
                omega
              · have e : b = o := by omega
                rw [e]
            have hls : ls L b = ls L o := by
              obtain ⟨d, hd⟩ : ∃ d, o = b + d := ⟨o - b, by omega⟩
              rw [hd] at hln ⊢
              exact ln_same L b d hln
            obtain rfl : u = l0 := by rw [HU.out, HLo.out.1, hln]
            obtain rfl : v = y0 := by rw [HV.out, HLo.out.2, hls]
            have g3 : ¬ ((o : Int) < (b : Int)) := by omega
            have q1 : ((u : Int) != (u : Int)) = false := by simp
            have q2 : ¬ ((u : Int) < (u : Int)) := by omega
            have ends : (b < s.size) ∨ ¬ (b < s.size) := by omega
            have HBo := Lib.hid hb
            clear more hln hls hb hub
            rcases ends with be | be
            · have be' : (b : Int) < (s.size : Int) := by omega
              clear be
              go_upto_region 21 with fail
              go_quiet (fail)
              cases p
              all_goals
                go_wp2_with fail
                go_roundw
                case rel => exact ⟨i + 1, z, u, v, hi1, zz, by go_num, rfl, rfl, rfl, Lib.hid HPs2.out.1, Lib.hid HPs2.out.2.1, Lib.hid HPs2.out.2.2, Lib.hid (below_on (HBw.out.alloc HBw.out.size _) (below_draw _ _))⟩
                case measure => simp [intOf]; omega
            · have be' : ¬ (b : Int) < (s.size : Int) := by omega
              clear be
              go_upto_region 21 with fail
              go_quiet (fail)
              cases p
              all_goals
                go_wp2_with fail
                go_roundw
                case rel => exact ⟨i + 1, z, u, v, hi1, zz, by go_num, rfl, rfl, rfl, Lib.hid HPs2.out.1, Lib.hid HPs2.out.2.1, Lib.hid HPs2.out.2.2, Lib.hid (below_on (HBw.out.alloc HBw.out.size _) (below_draw _ _))⟩
                case measure => simp [intOf]; omega
      · obtain rfl : i = N := by omega
        have hps := HPs.out
        have e : a = s.size := by
          rw [HS.out]
          rw [← hN.out] at hps
          exact ps_end hps
        have fe : ((a : Int) == (s.size : Int)) = true := by rw [beq_iff_eq]; omega
        have fN : (0 : Int) < (i : Int) := by omega
        clear hps e
        go_wp2_with (go_at_call 10; (refine (awake_any P _ _ (K1.out.on HBw.out)).mono ?_); rintro e w9 ⟨rfl, K9⟩)
        go_ret
        exact ⟨rfl, K9.bel⟩
  · have c1 : ∀ w, P.inv w → Calls Try.prog 11 #[.string s] w (ScP w [] 1 o) := fun w h' => P.scan s [] 1 o (by omega) (Lib.hid (.inr ⟨hx, rfl, rfl⟩)) w h'
    have h0 : Hid (([] : List Tk).length = 0) := Lib.hid rfl
    clear hx
    go_enter Try.func6, Try.ntmps6
    go_wp2_with (first
      | (go_at_call 11; (with_reducible refine (c1 _ K0.inv).mono ?_); rintro e w1 r1; (obtain ⟨A, q1, rfl, hc, hT, hb⟩ := scn_of h0 r1); have K1 := K0.on hb; clear r1 hb)
      | (go_at_call 10; (refine (awake_any P _ _ K1).mono ?_); rintro e w9 ⟨rfl, K9⟩))
    go_ret
    exact ⟨rfl, K9.bel⟩
end Go.Proofs.Ytgmnoghmkbbheaa.lxP

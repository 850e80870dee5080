/-
  Contracts of the reference's Place and Scan.
-/
import Derived.Test.YtgmnoghmkbbheaaLxB
namespace Go.Proofs.Ytgmnoghmkbbheaa.lxC
open Go.RowKit
open Go.Proofs.Ytgmnoghmkbbheaa.lxM Go.Proofs.Ytgmnoghmkbbheaa.lxN Go.Proofs.Ytgmnoghmkbbheaa.lxA Go.Proofs.Ytgmnoghmkbbheaa.lxB
set_option linter.unusedVariables false

/-! ### Place -/
set_option maxRecDepth 10000 in
set_option maxHeartbeats 1000000 in
theorem rplace_any (s : ByteArray) (d x y : Nat) (hd : Hid (s.size = d)) (hs : d ≤ 1000000) (hx : Hid (x = ln s.data.toList d)) (hy : Hid (y + ls s.data.toList d = d + 1)) (w : World) :
    Calls Try.prog 23 #[.string s, .int .i64 (d : Int)] w fun e w' => e = .returned (.tuple #[.int .i64 (x : Int), .int .i64 (y : Int)]) ∧ w = w' := by
  obtain ⟨L, hL⟩ : ∃ L, L = s.data.toList := ⟨_, rfl⟩
  have hbat : ∀ k, (h : k < s.size) → s[k] = bat L k := fun k h => by rw [hL]; exact bat_s s k h
  have HB := Lib.hid hbat
  rw [← hL] at hx hy
  clear hL hbat
  go_enter Try.func23, Try.ntmps23
  go_wp2_with fail
  go_loop [6, 7, 8] (fun s6 s7 s8 => ∃ i u v : Nat, i ≤ d ∧ s8 = .int .i64 (i : Int) ∧ s6 = .int .i64 (u : Int) ∧ s7 = .int .i64 (v : Int) ∧ u ≤ i + 1 ∧ v ≤ i + 1 ∧ Hid (u = ln L i) ∧ Hid (v + ls L i = i + 1)) (fun _ _ s8 => d - (intOf s8).toNat)
  case atStart => exact ⟨0, 1, 1, Nat.zero_le _, rfl, rfl, rfl, by omega, by omega, Lib.hid rfl, Lib.hid rfl⟩
  case round =>
    obtain ⟨i, u, v, hi, rfl, rfl, rfl, hu, hv, HU, HV⟩ := hrel
    by_cases hlt : i < d
    · have his : i < s.size := by rw [hd.out]; exact hlt
      have e1 : ln L (i + 1) = if (bat L i).toNat = 10 then ln L i + 1 else ln L i := rfl
      have e2 : ls L (i + 1) = if (bat L i).toNat = 10 then i + 1 else ls L i := rfl
      rw [← HB.out i his] at e1 e2
      have i0 : (0 : Int) ≤ (i : Int) := by omega
      have i1 : (i : Int) < (s.size : Int) := by omega
      have i2 : (i : Int) < (d : Int) := by omega
      have hi1 : i + 1 ≤ d := hlt
      have hvv := HV.out
      by_cases h10 : (s[i]'his).toNat = 10
      · have f10 : (((s[i]'his).toNat : Int) == 10) = true := by rw [beq_iff_eq]; omega
        rw [if_pos h10] at e1 e2
        have HU2 : Hid (u + 1 = ln L (i + 1)) := Lib.hid (by rw [e1, HU.out])
        have HV2 : Hid (1 + ls L (i + 1) = i + 1 + 1) := Lib.hid (by rw [e2]; omega)
        have hu1 : u + 1 ≤ i + 1 + 1 := by omega
        clear e1 e2 h10 hvv
        go_wp2_with fail
        go_round
        case rel => exact ⟨i + 1, u + 1, 1, hi1, by go_num, by go_num, rfl, hu1, by omega, HU2, HV2⟩
        case measure => simp [intOf]; omega
      · have f10 : (((s[i]'his).toNat : Int) == 10) = false := by rw [beq_eq_false_iff_ne]; omega
        rw [if_neg h10] at e1 e2
        have HU2 : Hid (u = ln L (i + 1)) := Lib.hid (by rw [e1, HU.out])
        have HV2 : Hid (v + 1 + ls L (i + 1) = i + 1 + 1) := Lib.hid (by rw [e2]; omega)
        have hv1 : v + 1 ≤ i + 1 + 1 := by omega
        clear e1 e2 h10 hvv
        go_wp2_with fail
        go_round
        case rel => exact ⟨i + 1, u, v + 1, hi1, by go_num, rfl, by go_num, by omega, hv1, HU2, HV2⟩
        case measure => simp [intOf]; omega
    · obtain rfl : i = d := by omega
      obtain rfl : u = x := by rw [HU.out, hx.out]
      obtain rfl : v = y := by have := HV.out; have := hy.out; omega
      go_wp2_with fail
      go_ret2
      exact ⟨rfl, rfl⟩

/-! ### lines and columns of parts -/
theorem bat_part {L : By} {b d j : Nat} (h : j < d) : bat ((L.drop b).take d) j = bat L (b + j) := by
  simp [bat, List.getD, List.getElem?_take_of_lt h]
theorem ln_part {L : By} {b d : Nat} : ∀ j, j ≤ d → ln L (b + j) + 1 = ln L b + ln ((L.drop b).take d) j ∧ (ln ((L.drop b).take d) j = 1 → ls L (b + j) = ls L b ∧ ls ((L.drop b).take d) j = 0) ∧ (1 < ln ((L.drop b).take d) j → ls L (b + j) = b + ls ((L.drop b).take d) j)
  | 0, _ => ⟨rfl, fun _ => ⟨rfl, rfl⟩, fun h => absurd h (by simp [ln])⟩
  | j + 1, h => by
    obtain ⟨h1, h2, h3⟩ := ln_part (L := L) (b := b) (d := d) j (by omega)
    have hp := ln_pos ((L.drop b).take d) j
    rw [← Nat.add_assoc, ln, ls, ln, ls, bat_part (show j < d by omega)]
    by_cases hc : (bat L (b + j)).toNat = 10
    · rw [if_pos hc, if_pos hc, if_pos hc, if_pos hc]
      exact ⟨by omega, fun h => by omega, fun _ => by omega⟩
    · rw [if_neg hc, if_neg hc, if_neg hc, if_neg hc]
      exact ⟨h1, h2, h3⟩

/-! ### Scan -/
/-- what comes out from the place a on, behind these tokens -/
def Out (L : By) (a : Nat) (pre X : List Tk) (E o : Nat) : Prop :=
  (∃ ts, Sx L a ts ∧ X = pre ++ tks L ts ∧ E = 0 ∧ o = 0) ∨ (Ex L a o ∧ X = [] ∧ E = 1)
theorem out_end {L : By} {pre X : List Tk} {E o : Nat} (h : Out L L.length pre X E o) : X = pre ++ [tkE L] ∧ E = 0 ∧ o = 0 := by
  rcases h with ⟨ts, h, rfl, rfl, rfl⟩ | ⟨h, _⟩
  · obtain rfl := sx_end h
    exact ⟨rfl, rfl, rfl⟩
  · have := ex_lt h; omega
theorem out_step {L : By} {a : Nat} {pre X : List Tk} {E o n k : Nat} (h : Out L a pre X E o) (ha : a < L.length) (ht : tl (L.drop a) = (n, k)) :
    (k = 0 ∧ X = [] ∧ E = 1 ∧ o = a) ∨ (k ≠ 0 ∧ Out L (a + n + sk false (L.drop (a + n))) (pre ++ [tk L (a, n, k)]) X E o) := by
  rcases h with ⟨ts, h, rfl, rfl, rfl⟩ | ⟨h, rfl, rfl⟩
  · obtain ⟨n', k', ts', rfl, ht', hk, hs⟩ := sx_inv h ha
    rw [ht] at ht'
    obtain ⟨rfl, rfl⟩ := Prod.mk.inj ht'
    exact .inr ⟨hk, .inl ⟨ts', hs, by simp [tks], rfl, rfl⟩⟩
  · cases h with
    | here _ h0 =>
      rw [ht] at h0
      exact .inl ⟨h0, rfl, rfl, rfl⟩
    | there _ ht' hk hs =>
      rw [ht] at ht'
      obtain ⟨rfl, rfl⟩ := Prod.mk.inj ht'
      exact .inr ⟨hk, .inr ⟨hs, rfl, rfl⟩⟩
/-- a step that answers tokens, an error, an offset -/
def ScP (w : World) (X : List Tk) (E o : Nat) (e : Ending) (w' : World) : Prop :=
  ∃ A n c, e = .returned (.tuple #[.slice A n c, .int .i64 (E : Int), .int .i64 (o : Int)]) ∧ X.length = n ∧ n ≤ c ∧ Tks w' A X ∧ Below w.heap.size w w'
theorem scp_nil (w w' : World) (E o : Nat) (hb : Below w.heap.size w w') : ScP w [] E o (.returned (.tuple #[.slice none 0 0, .int .i64 (E : Int), .int .i64 (o : Int)])) w' :=
  ⟨none, 0, 0, rfl, rfl, Nat.le_refl _, Tks.nil _ _, hb⟩
theorem scp_row {w w' : World} {v : Value} {X : List Tk} {E o : Nat} (h : OwT w' w.heap.size v X) (hb : Below w.heap.size w w') : ScP w X E o (.returned (.tuple #[v, .int .i64 (E : Int), .int .i64 (o : Int)])) w' := by
  obtain ⟨A, c, rfl, hc, hT, _, _⟩ := owt_form h
  exact ⟨A, X.length, c, rfl, rfl, hc, hT, hb⟩
theorem scan_long (s : ByteArray) (h : 32768 < s.size) (hs : s.size ≤ 1000000) (w : World) :
    Calls Try.prog 12 #[.string s] w (ScP w [] 3 0) := by
  have t : (32768 : Int) < (s.size : Int) := by omega
  go_enter Try.func12, Try.ntmps12
  go_wp2_with fail
  go_ret3
  exact scp_nil w w 3 0 (Below.refl _ _)
set_option maxRecDepth 10000 in
set_option maxHeartbeats 4000000 in
theorem rscan_any (s : ByteArray) (hs : s.size ≤ 32768) (X : List Tk) (E o : Nat) (hX : Hid (Out s.data.toList (sk false s.data.toList) [] X E o)) (w : World) :
    Calls Try.prog 12 #[.string s] w (ScP w X E o) := by
  have c0 := fun w => rskip_any s 0 (sk false s.data.toList) (Nat.zero_le _) (by omega) (Lib.hid (by rw [List.drop_zero, Nat.zero_add])) w
  have c0' : ∀ w, Calls Try.prog 22 #[.string s, .int .i64 0] w fun e w' => e = .returned (.int .i64 ((sk false s.data.toList : Nat) : Int)) ∧ w = w' := c0
  have c1 := fun a Z ha hZ w => rskip_any s a Z ha (by omega) hZ w
  have c2 := fun a n k ha hT w => rend_any s a n k ha (by omega) hT w
  obtain ⟨a0, ha0⟩ : ∃ a0, a0 = sk false s.data.toList := ⟨_, rfl⟩
  have hle0 : a0 ≤ s.size := by rw [ha0, size_len]; exact sk_le _ _
  rw [← ha0] at hX c0'
  obtain ⟨L, hL⟩ : ∃ L, L = s.data.toList := ⟨_, rfl⟩
  have hsz : s.size = L.length := by rw [hL]; exact size_len s
  have hext : ∀ b d, b + d ≤ s.size → (s.extract b (b + d)).size = d ∧ (s.extract b (b + d)).data.toList = (L.drop b).take d := fun b d h => by
    have e : (s.extract b (b + d)).data.toList = (L.drop b).take d := by
      rw [hL, Lib.extract_data]; congr 1; omega
    exact ⟨by rw [size_len, e, List.length_take, List.length_drop]; omega, e⟩
  have hcut : ∀ b d, s.extract b (b + d) = cut L b d := fun b d => by
    rw [cut_s, hL]; congr 1; omega
  have HX := Lib.hid hext
  have HCt := Lib.hid hcut
  have HS := Lib.hid hsz
  rw [← hL] at hX c1 c2
  have t : ¬ (32768 : Int) < (s.size : Int) := by omega
  clear hL hsz ha0 c0 hext hcut
  go_enter Try.func12, Try.ntmps12
  go_wp2_with (go_at_call 22; (refine (c0' _).mono ?_); rintro e w' ⟨rfl, rfl⟩)
  go_loopw [5, 6, 7, 8, 9] (fun s5 s6 s7 s8 s9 wr => ∃ (a b x y : Nat) (pre : List Tk), b ≤ a ∧ a ≤ s.size ∧ s9 = .int .i64 (a : Int) ∧ s8 = .int .i64 (b : Int) ∧ s6 = .int .i64 (x : Int) ∧ s7 = .int .i64 (y : Int) ∧ x ≤ b + 1 ∧ y ≤ b + 1 ∧ Hid (x = ln L b) ∧ Hid (y + ls L b = b + 1) ∧ pre.length ≤ a ∧ Hid (OwT wr w.heap.size s5 pre) ∧ Hid (Below w.heap.size w wr) ∧ Hid (Out L a pre X E o)) (fun _ _ _ _ s9 _ => s.size + 1 - (intOf s9).toNat)
  case atStart => exact ⟨a0, 0, 1, 1, [], Nat.zero_le _, hle0, rfl, rfl, rfl, rfl, by omega, by omega, Lib.hid rfl, Lib.hid rfl, Nat.zero_le _, Lib.hid (owt_nil _ _), Lib.hid (Below.refl _ _), hX⟩
  case round =>
    obtain ⟨a, b, x, y, pre, hba, ha, rfl, rfl, rfl, rfl, hx1, hy1, HXl, HY, hpl, HO, HB, HOut⟩ := hrel
    obtain ⟨d, hd⟩ : ∃ d, a = b + d := ⟨a - b, by omega⟩
    obtain ⟨P, hP⟩ : ∃ P, P = s.extract b a := ⟨_, rfl⟩
    obtain ⟨hp1, hp2⟩ := HX.out b d (by omega)
    rw [← hd, ← hP] at hp1 hp2
    obtain ⟨u, hu⟩ : ∃ u, u = ln P.data.toList d := ⟨_, rfl⟩
    obtain ⟨v, hv⟩ : ∃ v, v + ls P.data.toList d = d + 1 := ⟨d + 1 - ls P.data.toList d, by have := ls_le P.data.toList d; omega⟩
    have cp := fun w => rplace_any P d u v (Lib.hid hp1) (by omega) (Lib.hid hu) (Lib.hid hv) w
    rw [hP] at cp
    obtain ⟨q1, q2, q3⟩ := ln_part (L := L) (b := b) (d := d) d (Nat.le_refl _)
    rw [← hp2, ← hd] at q1 q2 q3
    have hup := ln_pos P.data.toList d
    rw [← hu] at q1 q2 q3 hup
    have hul := ln_le P.data.toList d
    rw [← hu] at hul
    obtain ⟨X2, hX2⟩ : ∃ X2, X2 = ln L a := ⟨_, rfl⟩
    obtain ⟨Y2, hY2⟩ : ∃ Y2, Y2 + ls L a = a + 1 := ⟨a + 1 - ls L a, by have := ls_le L a; omega⟩
    rw [← hX2] at q1
    have hX2l := ln_le L a
    rw [← hX2] at hX2l
    have hxx := HXl.out
    have hyy := HY.out
    rw [← hxx] at q1
    have hY2l : Y2 ≤ a + 1 := by omega
    have e1 : (a : Int) - (b : Int) = (d : Int) := by omega
    have b0 : (0 : Int) ≤ (b : Int) := by omega
    have b1 : (b : Int) ≤ (a : Int) := by omega
    have b2 : (a : Int) ≤ (s.size : Int) := by omega
    have HX2 := Lib.hid hX2
    have HY2 := Lib.hid hY2
    -- the new line and column
    have pos : (1 < u ∧ x + u = X2 + 1 ∧ v = Y2) ∨ (u = 1 ∧ x = X2 ∧ y + v = Y2 + 1) := by
      by_cases h1 : 1 < u
      · have := q3 h1
        exact .inl ⟨h1, by omega, by omega⟩
      · have := q2 (by omega)
        exact .inr ⟨by omega, by omega, by omega⟩
    have hvl : v ≤ d + 1 := by omega
    clear hP hp1 hp2 hu hv q1 q2 q3 hxx hyy hX2 hY2 hX2l hd HXl HY
    have hO : OwT wr w.heap.size u5 pre := HO.out
    have hpl2 : pre.length ≤ 1000000000 := by omega
    by_cases hend : a = s.size
    · have he2 : a = L.length := by rw [hend]; exact HS.out
      have hout := HOut.out
      rw [he2] at hout
      obtain ⟨rfl, rfl, rfl⟩ := out_end hout
      have hT : (⟨0, (X2 : Int), (Y2 : Int), ⟨#[]⟩⟩ : Tk) = tkE L := by
        have h1 := HX2.out
        have h2 := HY2.out
        rw [he2] at h1 h2
        have h3 := ls_le L L.length
        unfold tkE
        rw [← h1, show L.length - ls L L.length + 1 = Y2 by omega]
      have HT := Lib.hid hT
      have te : ((a : Int) == (s.size : Int)) = true := by rw [beq_iff_eq]; omega
      clear hout hend he2 hT HOut HO HX2 HY2
      rcases pos with ⟨t1, t2, rfl⟩ | ⟨t1, rfl, t2⟩
      · have t1' : (1 : Int) < (u : Int) := by omega
        have t2' : (x : Int) + (u : Int) - 1 = (X2 : Int) := by omega
        clear t1 t2
        go_wp2_with (first
          | (go_at_call 23; (refine (cp _).mono ?_); rintro e w' ⟨rfl, rfl⟩)
          | (refine push_tok rfl (.tmp 73) (.tmp 77) rfl wr w.heap.size u5 pre ⟨0, (X2 : Int), (v : Int), ⟨#[]⟩⟩ (by rfl) hO (by rfl) hpl2 HB.out.size ?_; intro v' w1 O1 B1))
        go_ret3
        exact scp_row (by rw [← HT.out]; exact O1) (HB.out.trans B1)
      · have t1' : ¬ (1 : Int) < (u : Int) := by omega
        have t2' : (y : Int) + (v : Int) - 1 = (Y2 : Int) := by omega
        clear t1 t2
        go_wp2_with (first
          | (go_at_call 23; (refine (cp _).mono ?_); rintro e w' ⟨rfl, rfl⟩)
          | (refine push_tok rfl (.tmp 73) (.tmp 77) rfl wr w.heap.size u5 pre ⟨0, (x : Int), (Y2 : Int), ⟨#[]⟩⟩ (by rfl) hO (by rfl) hpl2 HB.out.size ?_; intro v' w1 O1 B1))
        go_ret3
        exact scp_row (by rw [← HT.out]; exact O1) (HB.out.trans B1)
    · have hlt : a < s.size := by omega
      have hlt2 : a < L.length := by rw [← HS.out]; exact hlt
      have te : ((a : Int) == (s.size : Int)) = false := by rw [beq_eq_false_iff_ne]; omega
      cases ht : tl (L.drop a) with
      | mk n k =>
      have ce := fun w => c2 a n k hlt (Lib.hid ht) w
      obtain ⟨z, hz⟩ : ∃ z, z = a + n := ⟨_, rfl⟩
      rw [← hz] at ce
      rcases out_step HOut.out hlt2 ht with ⟨rfl, rfl, rfl, rfl⟩ | ⟨hk, hnew⟩
      · clear ht hz HX2 HY2 HOut HO hend
        rcases pos with ⟨t1, t2, rfl⟩ | ⟨t1, rfl, t2⟩
        · have t1' : (1 : Int) < (u : Int) := by omega
          have t2' : (x : Int) + (u : Int) - 1 = (X2 : Int) := by omega
          clear t1 t2
          go_wp2_with (first
            | (go_at_call 23; (refine (cp _).mono ?_); rintro e w' ⟨rfl, rfl⟩)
            | (go_at_call 24; (refine (ce _).mono ?_); rintro e w' ⟨rfl, rfl⟩))
          go_ret3
          exact scp_nil _ _ _ _ HB.out
        · have t1' : ¬ (1 : Int) < (u : Int) := by omega
          have t2' : (y : Int) + (v : Int) - 1 = (Y2 : Int) := by omega
          clear t1 t2
          go_wp2_with (first
            | (go_at_call 23; (refine (cp _).mono ?_); rintro e w' ⟨rfl, rfl⟩)
            | (go_at_call 24; (refine (ce _).mono ?_); rintro e w' ⟨rfl, rfl⟩))
          go_ret3
          exact scp_nil _ _ _ _ HB.out
      · have hn := next_le hlt2 ht hk
        rw [← hz] at hn hnew
        rw [← HS.out] at hn
        obtain ⟨q, hq⟩ : ∃ q, q = z + sk false (L.drop z) := ⟨_, rfl⟩
        rw [← hq] at hn hnew
        have csk := fun w => c1 z q (by omega) (Lib.hid hq) w
        have hT : (⟨(k : Int), (X2 : Int), (Y2 : Int), s.extract a z⟩ : Tk) = tk L (a, n, k) := by
          have h1 := HX2.out
          have h2 := HY2.out
          have h3 := ls_le L a
          show _ = (⟨(k : Int), (ln L a : Int), ((a - ls L a + 1 : Nat) : Int), cut L a n⟩ : Tk)
          rw [← h1, show a - ls L a + 1 = Y2 by omega, hz, HCt.out]
        rw [← hT] at hnew
        have HN := Lib.hid hnew
        have tk0 : ((k : Int) == 0) = false := by rw [beq_eq_false_iff_ne]; omega
        have z0 : (0 : Int) ≤ (a : Int) := by omega
        have z1 : (a : Int) ≤ (z : Int) := by omega
        have z2 : (z : Int) ≤ (s.size : Int) := by omega
        have aq : a < q := by omega
        have qs : q ≤ s.size := by omega
        have zs : z ≤ s.size := by omega
        have hX2b : X2 ≤ q + 1 := by omega
        have hX3 : X2 ≤ a + 1 := by omega
        clear ht hz HOut HO hend hT hnew hq hn
        rcases pos with ⟨t1, t2, rfl⟩ | ⟨t1, rfl, t2⟩
        · have t1' : (1 : Int) < (u : Int) := by omega
          have t2' : (x : Int) + (u : Int) - 1 = (X2 : Int) := by omega
          clear t1 t2
          go_wp2_with (first
            | (go_at_call 23; (refine (cp _).mono ?_); rintro e w' ⟨rfl, rfl⟩)
            | (go_at_call 24; (refine (ce _).mono ?_); rintro e w' ⟨rfl, rfl⟩)
            | (go_at_call 22; (refine (csk _).mono ?_); rintro e w' ⟨rfl, rfl⟩)
            | (refine push_tok rfl (.tmp 59) (.tmp 68) rfl wr w.heap.size u5 pre ⟨(k : Int), (X2 : Int), (v : Int), s.extract a z⟩ (by rfl) hO (by rfl) hpl2 HB.out.size ?_; intro v' w1 O1 B1))
          go_roundw
          case rel => exact ⟨q, a, X2, v, _, by omega, qs, rfl, rfl, rfl, rfl, hX3, hY2l, HX2, HY2, by rw [List.length_append]; simp; omega, Lib.hid O1, Lib.hid (HB.out.trans B1), HN⟩
          case measure => simp [intOf]; omega
        · have t1' : ¬ (1 : Int) < (u : Int) := by omega
          have t2' : (y : Int) + (v : Int) - 1 = (Y2 : Int) := by omega
          clear t1 t2
          go_wp2_with (first
            | (go_at_call 23; (refine (cp _).mono ?_); rintro e w' ⟨rfl, rfl⟩)
            | (go_at_call 24; (refine (ce _).mono ?_); rintro e w' ⟨rfl, rfl⟩)
            | (go_at_call 22; (refine (csk _).mono ?_); rintro e w' ⟨rfl, rfl⟩)
            | (refine push_tok rfl (.tmp 59) (.tmp 68) rfl wr w.heap.size u5 pre ⟨(k : Int), (x : Int), (Y2 : Int), s.extract a z⟩ (by rfl) hO (by rfl) hpl2 HB.out.size ?_; intro v' w1 O1 B1))
          go_roundw
          case rel => exact ⟨q, a, x, Y2, _, by omega, qs, rfl, rfl, rfl, rfl, hX3, hY2l, HX2, HY2, by rw [List.length_append]; simp; omega, Lib.hid O1, Lib.hid (HB.out.trans B1), HN⟩
          case measure => simp [intOf]; omega
end Go.Proofs.Ytgmnoghmkbbheaa.lxC

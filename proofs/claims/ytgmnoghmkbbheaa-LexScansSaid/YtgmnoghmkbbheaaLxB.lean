/-
  Contracts of the reference's skip, end, Place.
-/
import Derived.Test.YtgmnoghmkbbheaaLxA
namespace Go.Proofs.Ytgmnoghmkbbheaa.lxB
open Go.RowKit
open Go.Proofs.Ytgmnoghmkbbheaa.lxM Go.Proofs.Ytgmnoghmkbbheaa.lxN Go.Proofs.Ytgmnoghmkbbheaa.lxA
set_option linter.unusedVariables false

/-! ### one step of what is skipped -/
theorem sk_step {L : By} {a : Nat} (r : Bool) (h : a < L.length) : sk r (L.drop a) = if (r || blk (bat L a) || (bat L a).toNat == 35) = true then sk ((bat L a).toNat != 10 && (r || (bat L a).toNat == 35)) (L.drop (a + 1)) + 1 else 0 := by
  rw [drop_bat h, sk]
set_option maxRecDepth 10000 in
set_option maxHeartbeats 1000000 in
theorem rskip_any (s : ByteArray) (a Z : Nat) (ha : a ≤ s.size) (hs : s.size ≤ 1000000) (hZ : Hid (Z = a + sk false (s.data.toList.drop a))) (w : World) :
    Calls Try.prog 22 #[.string s, .int .i64 (a : Int)] w fun e w' => e = .returned (.int .i64 (Z : Int)) ∧ w = w' := by
  obtain ⟨L, hL⟩ : ∃ L, L = s.data.toList := ⟨_, rfl⟩
  have hsz : s.size = L.length := by rw [hL]; exact size_len s
  have hbat : ∀ k, (h : k < s.size) → s[k] = bat L k := fun k h => by rw [hL]; exact bat_s s k h
  have HB := Lib.hid hbat
  have HS := Lib.hid hsz
  rw [← hL] at hZ
  clear hL hbat hsz
  go_enter Try.func22, Try.ntmps22
  go_wp2_with fail
  go_loop [1, 5] (fun s1 s5 => ∃ (i : Nat) (r : Bool), i ≤ s.size ∧ s1 = .int .i64 (i : Int) ∧ s5 = .bool r ∧ Hid (Z = i + sk r (L.drop i))) (fun s1 _ => s.size - (intOf s1).toNat)
  case atStart => exact ⟨a, false, ha, rfl, rfl, hZ⟩
  case round =>
    obtain ⟨i, r, hi, rfl, rfl, HZ⟩ := hrel
    by_cases hlt : i < s.size
    · have hst := sk_step (L := L) (a := i) r (by rw [← HS.out]; exact hlt)
      have hz := HZ.out
      rw [hst] at hz
      have i0 : (0 : Int) ≤ (i : Int) := by omega
      have i1 : (i : Int) < (s.size : Int) := by omega
      have hi1 : i + 1 ≤ s.size := hlt
      have hbk := HB.out i hlt
      obtain ⟨c, hc⟩ : ∃ c, c = s[i] := ⟨_, rfl⟩
      rw [← hbk, ← hc] at hz
      obtain ⟨b, hb⟩ : ∃ b, b = blk c := ⟨_, rfl⟩
      have cb := fun w => rblank_any c b (Lib.hid hb) w
      rw [← hb] at hz
      have b10 : blk c = true ↔ c.toNat = 32 ∨ c.toNat = 9 ∨ c.toNat = 13 ∨ c.toNat = 10 := blk_iff
      rw [← hb] at b10
      have HZ2 := Lib.hid hz
      have f35 : ((c.toNat : Int) == 35) = (c.toNat == 35) := beq_u8
      have f10 : ((c.toNat : Int) == 10) = (c.toNat == 10) := beq_u8
      have hcx : c.toNat = 10 → c.toNat ≠ 35 := by omega
      clear hst hz HZ hbk hb
      by_cases hr : r = true
      · subst hr
        have fin : Hid (Z = i + (sk (c.toNat != 10) (L.drop (i + 1)) + 1)) := Lib.hid (by have := HZ2.out; simpa using this)
        clear HZ2
        by_cases h35 : c.toNat = 35
        · have p35 : (c.toNat == 35) = true := by simpa using h35
          have p10 : (c.toNat == 10) = false := by rw [beq_eq_false_iff_ne]; omega
          rw [p35] at f35
          rw [p10] at f10
          rw [show (c.toNat != 10) = true by rw [bne_iff_ne]; omega] at fin
          rw [hc] at cb f35 f10
          clear p35 p10 h35 hcx b10 hc
          go_wp2_with (go_at_call 40; (refine (cb _).mono ?_); rintro e w' ⟨rfl, rfl⟩)
          go_round
          case rel => exact ⟨i + 1, true, hi1, by go_num, rfl, Lib.hid (by have := fin.out; omega)⟩
          case measure => simp [intOf]; omega
        · have p35 : (c.toNat == 35) = false := by simpa using h35
          rw [p35] at f35
          by_cases h10 : c.toNat = 10
          · have p10 : (c.toNat == 10) = true := by simpa using h10
            rw [p10] at f10
            rw [show (c.toNat != 10) = false by simpa using h10] at fin
            rw [hc] at cb f35 f10
            clear p35 p10 h35 h10 hcx b10 hc
            go_wp2_with (go_at_call 40; (refine (cb _).mono ?_); rintro e w' ⟨rfl, rfl⟩)
            go_round
            case rel => exact ⟨i + 1, false, hi1, by go_num, rfl, Lib.hid (by have := fin.out; omega)⟩
            case measure => simp [intOf]; omega
          · have p10 : (c.toNat == 10) = false := by simpa using h10
            rw [p10] at f10
            rw [show (c.toNat != 10) = true by simpa using h10] at fin
            rw [hc] at cb f35 f10
            clear p35 p10 h35 h10 hcx b10 hc
            go_wp2_with (go_at_call 40; (refine (cb _).mono ?_); rintro e w' ⟨rfl, rfl⟩)
            go_round
            case rel => exact ⟨i + 1, true, hi1, by go_num, rfl, Lib.hid (by have := fin.out; omega)⟩
            case measure => simp [intOf]; omega
      · obtain rfl : r = false := by simpa using hr
        clear hr
        by_cases h35 : c.toNat = 35
        · have p35 : (c.toNat == 35) = true := by simpa using h35
          have p10 : (c.toNat == 10) = false := by rw [beq_eq_false_iff_ne]; omega
          have fin : Hid (Z = i + (sk true (L.drop (i + 1)) + 1)) := Lib.hid (by
            have := HZ2.out
            rw [p35, show (c.toNat != 10) = true by rw [bne_iff_ne]; omega] at this
            simpa using this)
          have bf : b = false := by
            cases b with
            | false => rfl
            | true => have := b10.1 rfl; omega
          subst bf
          rw [p35] at f35
          rw [p10] at f10
          rw [hc] at cb f35 f10
          clear p35 p10 h35 hcx b10 hc HZ2
          go_wp2_with (go_at_call 40; (refine (cb _).mono ?_); rintro e w' ⟨rfl, rfl⟩)
          go_round
          case rel => exact ⟨i + 1, true, hi1, by go_num, rfl, Lib.hid (by have := fin.out; omega)⟩
          case measure => simp [intOf]; omega
        · have p35 : (c.toNat == 35) = false := by simpa using h35
          rw [p35] at f35
          cases b with
          | false =>
            have fin : Z = i := by
              have := HZ2.out
              rw [p35] at this
              simpa using this
            rw [hc] at cb f35
            clear p35 h35 hcx b10 hc HZ2 f10
            subst fin
            go_wp2_with (go_at_call 40; (refine (cb _).mono ?_); rintro e w' ⟨rfl, rfl⟩)
            go_ret
            exact ⟨rfl, rfl⟩
          | true =>
            have fin : Hid (Z = i + (sk false (L.drop (i + 1)) + 1)) := Lib.hid (by
              have := HZ2.out
              rw [p35] at this
              simpa using this)
            by_cases h10 : c.toNat = 10
            · have p10 : (c.toNat == 10) = true := by simpa using h10
              rw [p10] at f10
              rw [hc] at cb f35 f10
              clear p35 p10 h35 h10 hcx b10 hc HZ2
              go_wp2_with (go_at_call 40; (refine (cb _).mono ?_); rintro e w' ⟨rfl, rfl⟩)
              go_round
              case rel => exact ⟨i + 1, false, hi1, by go_num, rfl, Lib.hid (by have := fin.out; omega)⟩
              case measure => simp [intOf]; omega
            · have p10 : (c.toNat == 10) = false := by simpa using h10
              rw [p10] at f10
              rw [hc] at cb f35 f10
              clear p35 p10 h35 h10 hcx b10 hc HZ2
              go_wp2_with (go_at_call 40; (refine (cb _).mono ?_); rintro e w' ⟨rfl, rfl⟩)
              go_round
              case rel => exact ⟨i + 1, false, hi1, by go_num, rfl, Lib.hid (by have := fin.out; omega)⟩
              case measure => simp [intOf]; omega
    · have hz := HZ.out
      rw [List.drop_eq_nil_of_le (by rw [← HS.out]; omega), sk, Nat.add_zero] at hz
      subst hz
      have i1 : ¬ (Z : Int) < (s.size : Int) := by omega
      go_wp2_with fail
      go_ret
      exact ⟨rfl, rfl⟩

/-! ### end -/
theorem rn_step {p : UInt8 → Bool} {L : By} {i : Nat} (h : i < L.length) : rn p (L.drop i) = if p (bat L i) = true then rn p (L.drop (i + 1)) + 1 else 0 := by
  rw [drop_bat h, rn]
set_option maxRecDepth 10000 in
set_option maxHeartbeats 1000000 in
theorem rend_any (s : ByteArray) (a n k : Nat) (ha : a < s.size) (hs : s.size ≤ 1000000) (hT : Hid (tl (s.data.toList.drop a) = (n, k))) (w : World) :
    Calls Try.prog 24 #[.string s, .int .i64 (a : Int)] w fun e w' => e = .returned (.tuple #[.int .i64 ((a + n : Nat) : Int), .int .i64 (k : Int)]) ∧ w = w' := by
  obtain ⟨L, hL⟩ : ∃ L, L = s.data.toList := ⟨_, rfl⟩
  have hsz : s.size = L.length := by rw [hL]; exact size_len s
  have hbat : ∀ k, (h : k < s.size) → s[k] = bat L k := fun k h => by rw [hL]; exact bat_s s k h
  have HB := Lib.hid hbat
  have HS := Lib.hid hsz
  have ht := hT.out
  rw [← hL, drop_bat (by rw [← hsz]; exact ha), ← hbat a ha] at ht
  clear hT hL hbat hsz
  have i0 : (0 : Int) ≤ (a : Int) := by omega
  have i1 : (a : Int) < (s.size : Int) := by omega
  obtain ⟨t, ht2⟩ : ∃ t, t = a + 1 := ⟨_, rfl⟩
  have e1 : (a : Int) + 1 = (t : Int) := by omega
  have hts : t ≤ s.size := by omega
  obtain ⟨c, hc⟩ : ∃ c, c = s[a] := ⟨_, rfl⟩
  rw [← hc] at ht
  cases h1 : mrk c with
  | true =>
    rw [tl_mark h1] at ht
    obtain ⟨rfl, rfl⟩ := Prod.mk.inj ht
    have c1 := fun w => rmark_any c true (Lib.hid h1.symm) w
    rw [hc] at c1
    have hres : ((a + 1 : Nat) : Int) = (t : Int) := by omega
    rw [hres]
    clear ht h1 hc hres ht2
    go_enter Try.func24, Try.ntmps24
    go_wp2_with (go_at_call 41; (refine (c1 _).mono ?_); rintro e w' ⟨rfl, rfl⟩)
    go_ret2
    exact ⟨rfl, rfl⟩
  | false =>
    have c1 := fun w => rmark_any c false (Lib.hid h1.symm) w
    rw [hc] at c1
    cases h2 : ltr c with
    | true =>
      rw [tl_word h2] at ht
      obtain ⟨hn, rfl⟩ := Prod.mk.inj ht
      have c2 := fun w => rletter_any c true (Lib.hid h2.symm) w
      rw [hc] at c2
      have hn2 : a + 1 + rn wch (L.drop (a + 1)) = a + n := by omega
      obtain ⟨Z, hZ⟩ : ∃ Z, Z = a + n := ⟨_, rfl⟩
      rw [← hZ] at hn2 ⊢
      have HN := Lib.hid hn2
      have HZ := Lib.hid hZ
      rw [← ht2] at HN
      clear ht h1 h2 hc hn hn2 hZ ht2
      go_enter Try.func24, Try.ntmps24
      go_wp2_with (first
        | (go_at_call 41; (refine (c1 _).mono ?_); rintro e w' ⟨rfl, rfl⟩)
        | (go_at_call 42; (refine (c2 _).mono ?_); rintro e w' ⟨rfl, rfl⟩))
      clear c1 c2
      go_loop [7] (fun s7 => ∃ i : Nat, i ≤ s.size ∧ s7 = .int .i64 (i : Int) ∧ Hid (i + rn wch (L.drop i) = Z)) (fun s7 => s.size - (intOf s7).toNat)
      case atStart => exact ⟨t, hts, rfl, HN⟩
      case round =>
        obtain ⟨i, hi, rfl, HI⟩ := hrel
        by_cases hlt : i < s.size
        · have hst := rn_step (p := wch) (L := L) (i := i) (by rw [← HS.out]; exact hlt)
          have hz := HI.out
          rw [hst, ← HB.out i hlt] at hz
          have j0 : (0 : Int) ≤ (i : Int) := by omega
          have j1 : (i : Int) < (s.size : Int) := by omega
          have hi1 : i + 1 ≤ s.size := hlt
          obtain ⟨x, hx⟩ : ∃ x, x = s[i] := ⟨_, rfl⟩
          rw [← hx] at hz
          have hw : wch x = (ltr x || dgt x || x.toNat == 45) := rfl
          have f45 : ((x.toNat : Int) == 45) = (x.toNat == 45) := beq_u8
          cases l1 : ltr x with
          | true =>
            have cl := fun w => rletter_any x true (Lib.hid l1.symm) w
            rw [hw, l1, Bool.true_or, Bool.true_or, if_pos rfl] at hz
            have HZ2 : Hid (i + 1 + rn wch (L.drop (i + 1)) = Z) := Lib.hid (by omega)
            rw [hx] at cl
            clear hst hz hw f45 l1 hx HI
            go_wp2_with (go_at_call 42; (refine (cl _).mono ?_); rintro e w' ⟨rfl, rfl⟩)
            go_round
            case rel => exact ⟨i + 1, hi1, by go_num, HZ2⟩
            case measure => simp [intOf]; omega
          | false =>
            have cl := fun w => rletter_any x false (Lib.hid l1.symm) w
            cases l2 : dgt x with
            | true =>
              have cd := fun w => rdigit_any x true (Lib.hid l2.symm) w
              rw [hw, l1, l2, Bool.or_true, Bool.true_or, if_pos rfl] at hz
              have HZ2 : Hid (i + 1 + rn wch (L.drop (i + 1)) = Z) := Lib.hid (by omega)
              rw [hx] at cl cd
              clear hst hz hw f45 l1 l2 hx HI
              go_wp2_with (first
                | (go_at_call 42; (refine (cl _).mono ?_); rintro e w' ⟨rfl, rfl⟩)
                | (go_at_call 43; (refine (cd _).mono ?_); rintro e w' ⟨rfl, rfl⟩))
              go_round
              case rel => exact ⟨i + 1, hi1, by go_num, HZ2⟩
              case measure => simp [intOf]; omega
            | false =>
              have cd := fun w => rdigit_any x false (Lib.hid l2.symm) w
              rw [hw, l1, l2, Bool.or_false, Bool.false_or] at hz
              cases l3 : (x.toNat == 45) with
              | true =>
                rw [l3] at f45
                rw [l3, if_pos rfl] at hz
                have HZ2 : Hid (i + 1 + rn wch (L.drop (i + 1)) = Z) := Lib.hid (by omega)
                rw [hx] at cl cd f45
                clear hst hz hw l1 l2 l3 hx HI
                go_wp2_with (first
                  | (go_at_call 42; (refine (cl _).mono ?_); rintro e w' ⟨rfl, rfl⟩)
                  | (go_at_call 43; (refine (cd _).mono ?_); rintro e w' ⟨rfl, rfl⟩))
                go_round
                case rel => exact ⟨i + 1, hi1, by go_num, HZ2⟩
                case measure => simp [intOf]; omega
              | false =>
                rw [l3] at f45
                rw [l3, if_neg (by simp), Nat.add_zero] at hz
                rw [hx] at cl cd f45
                clear hst hw l1 l2 l3 hx HI
                subst hz
                go_wp2_with (first
                  | (go_at_call 42; (refine (cl _).mono ?_); rintro e w' ⟨rfl, rfl⟩)
                  | (go_at_call 43; (refine (cd _).mono ?_); rintro e w' ⟨rfl, rfl⟩))
                go_ret2
                exact ⟨rfl, rfl⟩
        · have hz := HI.out
          rw [List.drop_eq_nil_of_le (by rw [← HS.out]; omega), rn, Nat.add_zero] at hz
          subst hz
          have j1 : ¬ (i : Int) < (s.size : Int) := by omega
          go_wp2_with fail
          go_ret2
          exact ⟨rfl, rfl⟩
    | false =>
      have c2 := fun w => rletter_any c false (Lib.hid h2.symm) w
      rw [hc] at c2
      cases h3 : dgt c with
      | false =>
        rw [tl_none h1 h2 h3] at ht
        obtain ⟨rfl, rfl⟩ := Prod.mk.inj ht
        have c3 := fun w => rdigit_any c false (Lib.hid h3.symm) w
        rw [hc] at c3
        rw [show ((a + 0 : Nat) : Int) = (a : Int) by rfl]
        clear ht h1 h2 h3 hc ht2
        go_enter Try.func24, Try.ntmps24
        go_wp2_with (first
          | (go_at_call 41; (refine (c1 _).mono ?_); rintro e w' ⟨rfl, rfl⟩)
          | (go_at_call 42; (refine (c2 _).mono ?_); rintro e w' ⟨rfl, rfl⟩)
          | (go_at_call 43; (refine (c3 _).mono ?_); rintro e w' ⟨rfl, rfl⟩))
        go_ret2
        exact ⟨rfl, rfl⟩
      | true =>
        have c3 := fun w => rdigit_any c true (Lib.hid h3.symm) w
        have f48 : ((c.toNat : Int) != 48) = (c.toNat != 48) := by
          show (!((c.toNat : Int) == 48)) = !(c.toNat == 48)
          rw [show ((c.toNat : Int) == 48) = (c.toNat == 48) from beq_u8]
        obtain ⟨m, hm⟩ : ∃ m, m = rn dgt (L.drop (a + 1)) := ⟨_, rfl⟩
        have HR : Hid ((m + 1 ≤ 18 ∧ (c.toNat ≠ 48 ∨ m = 0)) ∧ n = m + 1 ∧ k = 2 ∨ ¬ (m + 1 ≤ 18 ∧ (c.toNat ≠ 48 ∨ m = 0)) ∧ n = 0 ∧ k = 0) := Lib.hid (by
          by_cases hq : rn dgt (L.drop (a + 1)) + 1 ≤ 18 ∧ (c.toNat ≠ 48 ∨ rn dgt (L.drop (a + 1)) = 0)
          · rw [tl_num h3 hq] at ht
            obtain ⟨rfl, rfl⟩ := Prod.mk.inj ht
            exact .inl ⟨by rw [hm]; exact hq, by rw [hm], rfl⟩
          · rw [tl_long h3 hq] at ht
            obtain ⟨rfl, rfl⟩ := Prod.mk.inj ht
            exact .inr ⟨by rw [hm]; exact hq, rfl, rfl⟩)
        obtain ⟨Z, hZ⟩ : ∃ Z, Z = a + 1 + m := ⟨_, rfl⟩
        have HN : Hid (a + 1 + rn dgt (L.drop (a + 1)) = Z) := Lib.hid (by rw [hZ, hm])
        have HZ := Lib.hid hZ
        rw [← ht2] at HN
        have HC := Lib.hid hc
        obtain ⟨R, hRn⟩ : ∃ R, R = a + n := ⟨_, rfl⟩
        rw [← hRn]
        have HRn := Lib.hid hRn
        clear hRn
        rw [hc] at c3 f48
        clear ht h1 h2 h3 hc hm hZ ht2
        go_enter Try.func24, Try.ntmps24
        go_wp2_with (first
          | (go_at_call 41; (refine (c1 _).mono ?_); rintro e w' ⟨rfl, rfl⟩)
          | (go_at_call 42; (refine (c2 _).mono ?_); rintro e w' ⟨rfl, rfl⟩)
          | (go_at_call 43; (refine (c3 _).mono ?_); rintro e w' ⟨rfl, rfl⟩))
        clear c1 c2 c3
        go_loop [7] (fun s7 => ∃ i : Nat, i ≤ s.size ∧ s7 = .int .i64 (i : Int) ∧ Hid (i + rn dgt (L.drop i) = Z)) (fun s7 => s.size - (intOf s7).toNat)
        case atStart => exact ⟨t, hts, rfl, HN⟩
        case round =>
          obtain ⟨i, hi, rfl, HI⟩ := hrel
          have over : Hid (∀ q : i = Z, (i : Int) - (a : Int) = ((m + 1 : Nat) : Int)) := Lib.hid fun q => by have := HZ.out; omega
          by_cases hlt : i < s.size
          · have hst := rn_step (p := dgt) (L := L) (i := i) (by rw [← HS.out]; exact hlt)
            have hz := HI.out
            rw [hst, ← HB.out i hlt] at hz
            have j0 : (0 : Int) ≤ (i : Int) := by omega
            have j1 : (i : Int) < (s.size : Int) := by omega
            have hi1 : i + 1 ≤ s.size := hlt
            obtain ⟨x, hx⟩ : ∃ x, x = s[i] := ⟨_, rfl⟩
            rw [← hx] at hz
            cases l2 : dgt x with
            | true =>
              have cd := fun w => rdigit_any x true (Lib.hid l2.symm) w
              rw [l2, if_pos rfl] at hz
              have HZ2 : Hid (i + 1 + rn dgt (L.drop (i + 1)) = Z) := Lib.hid (by omega)
              rw [hx] at cd
              clear hst hz l2 hx HI f48
              go_wp2_with (go_at_call 43; (refine (cd _).mono ?_); rintro e w' ⟨rfl, rfl⟩)
              go_round
              case rel => exact ⟨i + 1, hi1, by go_num, HZ2⟩
              case measure => simp [intOf]; omega
            | false =>
              have cd := fun w => rdigit_any x false (Lib.hid l2.symm) w
              rw [l2, if_neg (by simp), Nat.add_zero] at hz
              rw [hx] at cd
              have ov := over.out hz
              have h2 := HZ.out
              clear hst l2 hx HI over
              rcases HR.out with ⟨⟨q1, q2⟩, q3, q4⟩ | ⟨q1, q3, q4⟩
              · subst q4
                have hres : i = R := by have := HRn.out; omega
                subst hres
                have w1 : ((m + 1 : Nat) : Int) ≤ 18 := by omega
                by_cases hc48 : c.toNat = 48
                · have p48 : (c.toNat != 48) = false := by simpa using hc48
                  have hc := HC.out
                  rw [← hc, p48] at f48
                  rw [hc] at f48
                  have w2 : (((m + 1 : Nat) : Int) == 1) = true := by rw [beq_iff_eq]; omega
                  clear HR q1 q2 q3 p48 hc48 hc hz h2
                  generalize m + 1 = M at *
                  go_wp2_with (go_at_call 43; (refine (cd _).mono ?_); rintro e w' ⟨rfl, rfl⟩)
                  go_ret2
                  exact ⟨rfl, rfl⟩
                · have p48 : (c.toNat != 48) = true := by simpa using hc48
                  have hc := HC.out
                  rw [← hc, p48] at f48
                  rw [hc] at f48
                  clear HR q1 q2 q3 p48 hc48 hc hz h2
                  generalize m + 1 = M at *
                  go_wp2_with (go_at_call 43; (refine (cd _).mono ?_); rintro e w' ⟨rfl, rfl⟩)
                  go_ret2
                  exact ⟨rfl, rfl⟩
              · subst q4
                have hres : R = a := by have := HRn.out; omega
                subst hres
                by_cases w1 : ((m + 1 : Nat) : Int) ≤ 18
                · have p48 : (c.toNat != 48) = false := by
                    have : c.toNat = 48 := by omega
                    simpa using this
                  have hc := HC.out
                  rw [← hc, p48] at f48
                  rw [hc] at f48
                  have w2 : (((m + 1 : Nat) : Int) == 1) = false := by rw [beq_eq_false_iff_ne]; omega
                  clear HR q1 p48 hc hz h2
                  generalize m + 1 = M at *
                  go_wp2_with (go_at_call 43; (refine (cd _).mono ?_); rintro e w' ⟨rfl, rfl⟩)
                  go_ret2
                  exact ⟨rfl, rfl⟩
                · clear HR q1 hz h2
                  generalize m + 1 = M at *
                  go_wp2_with (go_at_call 43; (refine (cd _).mono ?_); rintro e w' ⟨rfl, rfl⟩)
                  go_ret2
                  exact ⟨rfl, rfl⟩
          · have hz := HI.out
            rw [List.drop_eq_nil_of_le (by rw [← HS.out]; omega), rn, Nat.add_zero] at hz
            have j1 : ¬ (i : Int) < (s.size : Int) := by omega
            have ov := over.out hz
            have h2 := HZ.out
            clear HI over
            rcases HR.out with ⟨⟨q1, q2⟩, q3, q4⟩ | ⟨q1, q3, q4⟩
            · subst q4
              have hres : i = R := by have := HRn.out; omega
              subst hres
              have w1 : ((m + 1 : Nat) : Int) ≤ 18 := by omega
              by_cases hc48 : c.toNat = 48
              · have p48 : (c.toNat != 48) = false := by simpa using hc48
                have hc := HC.out
                rw [← hc, p48] at f48
                rw [hc] at f48
                have w2 : (((m + 1 : Nat) : Int) == 1) = true := by rw [beq_iff_eq]; omega
                clear HR q1 q2 q3 p48 hc48 hc hz h2
                generalize m + 1 = M at *
                go_wp2_with fail
                go_ret2
                exact ⟨rfl, rfl⟩
              · have p48 : (c.toNat != 48) = true := by simpa using hc48
                have hc := HC.out
                rw [← hc, p48] at f48
                rw [hc] at f48
                clear HR q1 q2 q3 p48 hc48 hc hz h2
                generalize m + 1 = M at *
                go_wp2_with fail
                go_ret2
                exact ⟨rfl, rfl⟩
            · subst q4
              have hres : R = a := by have := HRn.out; omega
              subst hres
              by_cases w1 : ((m + 1 : Nat) : Int) ≤ 18
              · have p48 : (c.toNat != 48) = false := by
                  have : c.toNat = 48 := by omega
                  simpa using this
                have hc := HC.out
                rw [← hc, p48] at f48
                rw [hc] at f48
                have w2 : (((m + 1 : Nat) : Int) == 1) = false := by rw [beq_eq_false_iff_ne]; omega
                clear HR q1 p48 hc hz h2
                generalize m + 1 = M at *
                go_wp2_with fail
                go_ret2
                exact ⟨rfl, rfl⟩
              · clear HR q1 hz h2
                generalize m + 1 = M at *
                go_wp2_with fail
                go_ret2
                exact ⟨rfl, rfl⟩
end Go.Proofs.Ytgmnoghmkbbheaa.lxB

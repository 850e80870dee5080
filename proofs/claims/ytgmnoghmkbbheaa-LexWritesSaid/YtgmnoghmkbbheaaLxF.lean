/-
  Contracts of the program's kinds of characters (isBlank, isRemark, isLetter, isDigit, isWord, isMark), of span, number, read.
-/
import Derived.Test.YtgmnoghmkbbheaaLxE
import Derived.Test.YtgmnoghmkbbheaaLxY
import Derived.Shelf.Abstract
namespace Go.Proofs.Ytgmnoghmkbbheaa.lxF
open Go.RowKit Go.Shelf
open Go.Proofs.Ytgmnoghmkbbheaa.lxM Go.Proofs.Ytgmnoghmkbbheaa.lxN Go.Proofs.Ytgmnoghmkbbheaa.lxA Go.Proofs.Ytgmnoghmkbbheaa.lxE Go.Proofs.Ytgmnoghmkbbheaa.lxY
set_option linter.unusedVariables false

/-! ### kinds of characters -/
/-- function f tells whether a character is of the kind P -/
def Tells (f : Nat) (P : Nat → Bool) : Prop := ∀ (r : Nat) (b : Bool), r ≤ 2147483647 → Hid (b = P r) → ∀ w, Calls Try.prog f #[.int .i32 (r : Int)] w fun e w' => e = .returned (.bool b) ∧ w = w'
theorem four_any (a b c d : Nat) (A B C D : Int) (hA : A = (a : Int)) (hB : B = (b : Int)) (hC : C = (c : Int)) (hD : D = (d : Int)) (r : Nat) (q : Bool) (hq : q = (r == a || r == b || r == c || r == d)) :
    (q = true ∧ ((r : Int) == A) = true) ∨ (q = true ∧ ((r : Int) == A) = false ∧ ((r : Int) == B) = true) ∨ (q = true ∧ ((r : Int) == A) = false ∧ ((r : Int) == B) = false ∧ ((r : Int) == C) = true) ∨
    (((r : Int) == A) = false ∧ ((r : Int) == B) = false ∧ ((r : Int) == C) = false ∧ ((r : Int) == D) = q) := by
  have t : ∀ n : Nat, ((r : Int) == (n : Int)) = (r == n) := fun n => by
    cases h : r == n with
    | true => rw [beq_iff_eq] at h ⊢; omega
    | false => rw [beq_eq_false_iff_ne] at h ⊢; omega
  rw [hA, hB, hC, hD, t, t, t, t, hq]
  cases r == a <;> cases r == b <;> cases r == c <;> simp
theorem two_any (a b : Nat) (A B : Int) (hA : A = (a : Int)) (hB : B = (b : Int)) (r : Nat) (q : Bool) (hq : q = (decide (a ≤ r) && decide (r ≤ b))) :
    (A ≤ (r : Int) ∧ decide ((r : Int) ≤ B) = q) ∨ (¬ A ≤ (r : Int) ∧ q = false) := by
  rw [hA, hB]
  by_cases h : a ≤ r
  · refine .inl ⟨by omega, ?_⟩
    rw [hq, decide_eq_true h, Bool.true_and]
    exact decide_eq_decide.2 (by omega)
  · exact .inr ⟨by omega, by rw [hq, decide_eq_false h, Bool.false_and]⟩
theorem isBlank_any : Tells 30 pB := by
  intro r q hr hq w
  have h := four_any 32 9 13 10 32 9 13 10 rfl rfl rfl rfl r q hq.out
  clear hq
  rcases h with ⟨rfl, t1⟩ | ⟨rfl, t1, t2⟩ | ⟨rfl, t1, t2, t3⟩ | ⟨t1, t2, t3, t4⟩
  all_goals
    go_enter Try.func30, Try.ntmps30
    go_wp2_with fail
    go_ret
    exact ⟨rfl, rfl⟩
theorem isMark_any : Tells 37 pM := by
  intro r q hr hq w
  have h := four_any 123 125 59 58 123 125 59 58 rfl rfl rfl rfl r q hq.out
  clear hq
  rcases h with ⟨rfl, t1⟩ | ⟨rfl, t1, t2⟩ | ⟨rfl, t1, t2, t3⟩ | ⟨t1, t2, t3, t4⟩
  all_goals
    go_enter Try.func37, Try.ntmps37
    go_wp2_with fail
    go_ret
    exact ⟨rfl, rfl⟩
theorem isLetter_any : Tells 33 pL := by
  intro r q hr hq w
  have h := two_any 97 122 97 122 rfl rfl r q hq.out
  clear hq
  rcases h with ⟨t1, t2⟩ | ⟨t1, rfl⟩
  all_goals
    go_enter Try.func33, Try.ntmps33
    go_wp2_with fail
    go_ret
    exact ⟨rfl, rfl⟩
theorem isDigit_any : Tells 35 pD := by
  intro r q hr hq w
  have h := two_any 48 57 48 57 rfl rfl r q hq.out
  clear hq
  rcases h with ⟨t1, t2⟩ | ⟨t1, rfl⟩
  all_goals
    go_enter Try.func35, Try.ntmps35
    go_wp2_with fail
    go_ret
    exact ⟨rfl, rfl⟩
theorem isRemark_any : Tells 32 pR := by
  intro r q hr hq w
  have t : ((r : Int) != 10) = q := by
    rw [hq.out]
    unfold pR
    cases h : r != 10 with
    | true => rw [bne_iff_ne] at h ⊢; omega
    | false => rw [bne_eq_false_iff_eq] at h ⊢; omega
  clear hq
  go_enter Try.func32, Try.ntmps32
  go_wp2_with fail
  go_ret
  exact ⟨rfl, rfl⟩
theorem isWord_any : Tells 34 pW := by
  intro r q hr hq w
  obtain ⟨x, hx⟩ : ∃ x, x = pL r := ⟨_, rfl⟩
  obtain ⟨y, hy⟩ : ∃ y, y = pD r := ⟨_, rfl⟩
  have cl := fun w => isLetter_any r x hr (Lib.hid hx) w
  have cd := fun w => isDigit_any r y hr (Lib.hid hy) w
  have hq' := hq.out
  unfold pW at hq'
  rw [← hx, ← hy] at hq'
  clear hq hx hy
  have t : ((r : Int) == 45) = (r == 45) := by
    cases h : r == 45 with
    | true => rw [beq_iff_eq] at h ⊢; omega
    | false => rw [beq_eq_false_iff_ne] at h ⊢; omega
  have h : (x = true ∧ q = true) ∨ (x = false ∧ y = true ∧ q = true) ∨ (x = false ∧ y = false ∧ ((r : Int) == 45) = q) := by
    rw [t, hq']
    cases x <;> cases y <;> simp
  clear t hq'
  rcases h with ⟨rfl, rfl⟩ | ⟨rfl, rfl, rfl⟩ | ⟨rfl, rfl, t⟩
  all_goals
    go_enter Try.func34, Try.ntmps34
    go_wp2_with (first
      | (go_at_call 33; (refine (cl _).mono ?_); rintro e w' ⟨rfl, rfl⟩)
      | (go_at_call 35; (refine (cd _).mono ?_); rintro e w' ⟨rfl, rfl⟩))
    go_ret
    exact ⟨rfl, rfl⟩

/-! ### span -/
theorem rn_drop_top {P : Nat → Bool} {L : By} {p : Nat} : ∀ d, p + d ≤ L.length → (∀ j, j < d → by_ P (bat L (p + j)) = true) → rn (by_ P) (L.drop p) = d + rn (by_ P) (L.drop (p + d))
  | 0, _, _ => by rw [Nat.add_zero, Nat.zero_add]
  | d + 1, h, hc => by
    rw [rn_drop_top d (by omega) (fun j hj => hc j (by omega)), drop_bat (show p + d < L.length by omega), rn_cons (hc d (by omega)), show p + (d + 1) = p + d + 1 by omega]
    omega
set_option maxRecDepth 10000 in
set_option maxHeartbeats 1000000 in
theorem span_any (f : Nat) (he : Enters Try.prog f) (P : Nat → Bool) (q : Bool) (hf : Tells f P) (hP : Top P q) (s : ByteArray) (z : Nat) (hs : s.size ≤ 1000000) (hz : Hid (z = rn (by_ P) s.data.toList)) (w : World) :
    Calls Try.prog 31 #[.string s, .func (.func f) #[] #[]] w fun e w' => e = .returned (.int .i64 (z : Int)) ∧ Below w.heap.size w w' := by
  obtain ⟨L, hL⟩ : ∃ L, L = s.data.toList := ⟨_, rfl⟩
  have hsz : s.size = L.length := by rw [hL]; exact size_len s
  have HLow := Lib.hid (fun p ty h hc => @next_low Try.prog w s p ty h hc)
  have HTop := Lib.hid (fun p ty h hc => @next_top Try.prog w s p ty h hc)
  rw [← hL] at hz HLow HTop
  have HS := Lib.hid hsz
  clear hL hsz
  have HT := Lib.hid hf
  have HP := Lib.hid hP
  have HBel : ∀ p, Below w.heap.size w (w.iter s p) := fun p => (Below.refl _ w).alloc (Nat.le_refl _) _
  have HB := Lib.hid HBel
  clear hf hP HBel
  have fin : ∀ p, p < s.size → Hid (z = p + rn (by_ P) (L.drop p)) → by_ P (bat L p) = false → z = p := fun p hp HZ h => by
    rw [HZ.out, drop_bat (by rw [← HS.out]; exact hp), rn_stop h, Nat.add_zero]
  have HF := Lib.hid fin
  clear fin
  have e0 : ∀ args w, (callFunc f args).run Try.prog w = .ok (.enter f args) w := he
  clear he
  go_enter Try.func31, Try.ntmps31
  go_wp2_with fail
  go_loopw [] (fun wr => ∃ p, p ≤ s.size ∧ wr = w.iter s p ∧ Hid (z = p + rn (by_ P) (L.drop p))) (fun wr => s.size - wr.iterPos w.heap.size)
  case atStart => exact ⟨0, Nat.zero_le _, rfl, Lib.hid (by rw [hz.out, List.drop_zero, Nat.zero_add])⟩
  case round =>
    obtain ⟨p, hp, rfl, HZ⟩ := hrel
    by_cases hlt : p < s.size
    · have hlt2 : p < L.length := by rw [← HS.out]; exact hlt
      have im := World.iterPos_iter w s
      by_cases hc : (bat L p).toNat < 128
      · have hn := HLow.out p 0 hlt hc
        obtain ⟨r, hr⟩ : ∃ r, r = (bat L p).toNat := ⟨_, rfl⟩
        rw [← hr] at hn hc
        obtain ⟨b, hb⟩ : ∃ b, b = P r := ⟨_, rfl⟩
        have hbl : by_ P (bat L p) = b := by rw [hb, hr]; rfl
        have ct := HT.out r b (by omega) (Lib.hid hb)
        cases b with
        | true =>
          have HZ2 : Hid (z = p + 1 + rn (by_ P) (L.drop (p + 1))) := Lib.hid (by
            rw [HZ.out, drop_bat hlt2, rn_cons hbl]; omega)
          clear hb hr hbl HZ
          go_wp2_with (go_at_fn f; (refine (ct _).mono ?_); rintro e w' ⟨rfl, rfl⟩)
          go_roundw
          case rel => exact ⟨p + 1, by omega, rfl, HZ2⟩
          case measure => rw [im, im]; omega
        | false =>
          obtain rfl := HF.out p hlt HZ hbl
          clear hb hr hbl HZ
          go_wp2_with (go_at_fn f; (refine (ct _).mono ?_); rintro e w' ⟨rfl, rfl⟩)
          go_ret
          exact ⟨rfl, HB.out _⟩
      · obtain ⟨r, t, h1, h2, h3, h4, h5, hn⟩ := HTop.out p 0 hlt (by omega)
        have ct := HT.out r q h2 (Lib.hid (HP.out r h1).symm)
        have hall : ∀ j, j < t - p → by_ P (bat L (p + j)) = q := fun j hj => HP.out _ (h5 j hj)
        have hz0 := hall 0 (by omega)
        rw [Nat.add_zero] at hz0
        cases q with
        | true =>
          have HZ2 : Hid (z = t + rn (by_ P) (L.drop t)) := Lib.hid (by
            rw [HZ.out, rn_drop_top (t - p) (by rw [← HS.out]; omega) hall, show p + (t - p) = t by omega]; omega)
          clear hall hz0 h5 HZ hc
          go_wp2_with (go_at_fn f; (refine (ct _).mono ?_); rintro e w' ⟨rfl, rfl⟩)
          go_roundw
          case rel => exact ⟨t, h4, rfl, HZ2⟩
          case measure => rw [im, im]; omega
        | false =>
          obtain rfl := HF.out p hlt HZ hz0
          clear hall hz0 h5 HZ hc
          go_wp2_with (go_at_fn f; (refine (ct _).mono ?_); rintro e w' ⟨rfl, rfl⟩)
          go_ret
          exact ⟨rfl, HB.out _⟩
    · obtain rfl : p = s.size := by omega
      have hn := run_next_end (P := Try.prog) w s s.size 0 hlt
      have e : z = s.size := by
        rw [HZ.out, List.drop_eq_nil_of_le (by rw [← HS.out]; exact Nat.le_refl _)]; rfl
      subst e
      clear HZ
      go_wp2_with fail
      go_ret
      exact ⟨rfl, HB.out _⟩
end Go.Proofs.Ytgmnoghmkbbheaa.lxF

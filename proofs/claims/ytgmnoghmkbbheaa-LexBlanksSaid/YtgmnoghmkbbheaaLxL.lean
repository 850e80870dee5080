/-
  The laws LexScans, LexWrites, LexJoins, over any Scan and Join that keep the record of contracts.
-/
import Derived.Test.YtgmnoghmkbbheaaLxQ
namespace Go.Proofs.Ytgmnoghmkbbheaa.lxL
open Go.RowKit
open Go.Proofs.Ytgmnoghmkbbheaa.lxM Go.Proofs.Ytgmnoghmkbbheaa.lxN Go.Proofs.Ytgmnoghmkbbheaa.lxA Go.Proofs.Ytgmnoghmkbbheaa.lxB Go.Proofs.Ytgmnoghmkbbheaa.lxC Go.Proofs.Ytgmnoghmkbbheaa.lxD Go.Proofs.Ytgmnoghmkbbheaa.lxQ
set_option linter.unusedVariables false

theorem out_any (L : By) : ∃ X E o, Out L (sk false L) [] X E o ∧ X.length ≤ L.length + 1 := by
  rcases sx_any L with ⟨ts, h⟩ | ⟨o, h⟩
  · have := sx_len h
    exact ⟨tks L ts, 0, 0, .inl ⟨ts, h, rfl, rfl, rfl⟩, by rw [tks_len]; omega⟩
  · exact ⟨[], 1, o, .inr ⟨h, rfl, rfl⟩, Nat.zero_le _⟩
/-- tokens that have been answered, their number named ahead -/
def Scn (w : World) (X : List Tk) (N E o : Nat) (e : Ending) (w' : World) : Prop :=
  ∃ A c, e = .returned (.tuple #[.slice A N c, .int .i64 (E : Int), .int .i64 (o : Int)]) ∧ N ≤ c ∧ Tks w' A X ∧ Below w.heap.size w w'
theorem scn_of {w : World} {X : List Tk} {N E o : Nat} (hN : Hid (X.length = N)) {e : Ending} {w' : World} (h : ScP w X E o e w') : Scn w X N E o e w' := by
  obtain ⟨A, n, c, he, hn, r⟩ := h
  obtain rfl : n = N := by rw [← hn, hN.out]
  exact ⟨A, c, he, r⟩

/-! ### LexScans -/
set_option maxRecDepth 10000 in
set_option maxHeartbeats 1000000 in
theorem scans (P : PLx) (s : ByteArray) (hs : s.size ≤ 9223372036854775807) (w : World) (hi : P.inv w) :
    Calls Try.prog 3 #[.string s] w fun e w' => e = .returned (.bool true) ∧ Below w.heap.size w w' := by
  have K0 := Kx.start hi
  clear hi
  by_cases h : 40000 < s.size
  · have t : (40000 : Int) < (s.size : Int) := by omega
    clear h
    go_enter Try.func3, Try.ntmps3
    go_wp2_with (go_at_call 10; (refine (awake_any P _ _ K0).mono ?_); rintro e w9 ⟨rfl, K9⟩)
    go_ret
    exact ⟨rfl, K9.bel⟩
  have t : ¬ (40000 : Int) < (s.size : Int) := by omega
  obtain ⟨X, E, o, c1, c2, hX⟩ : ∃ X E o, (∀ w, P.inv w → Calls Try.prog 11 #[.string s] w (ScP w X E o)) ∧ (∀ w, Calls Try.prog 12 #[.string s] w (ScP w X E o)) ∧ X.length ≤ 40001 := by
    by_cases hl : s.size ≤ 32768
    · obtain ⟨X, E, o, ho, hx⟩ := out_any s.data.toList
      rw [← size_len] at hx
      exact ⟨X, E, o, fun w h => P.scan s X E o hl (Lib.hid ho) w h, fun w => rscan_any s hl X E o (Lib.hid ho) w, by omega⟩
    · exact ⟨[], 3, 0, fun w h => P.long s (by omega) (by omega) w h, fun w => scan_long s (by omega) (by omega) w, by simp⟩
  obtain ⟨N, hN⟩ : ∃ N, Hid (X.length = N) := ⟨_, Lib.hid rfl⟩
  have hN4 : N ≤ 9223372036854775807 := by rw [← hN.out]; omega
  have cs := fun A B c d w hI hJ => same_ok A B N c d X hN hN4 w hI hJ
  have t1 : ((E : Int) == (E : Int)) = true := by simp
  have t2 : ((o : Int) == (o : Int)) = true := by simp
  clear h hX hN4
  go_enter Try.func3, Try.ntmps3
  go_wp2_with (first
    | (go_at_call 11; (with_reducible refine (c1 _ K0.inv).mono ?_); rintro e w1 r1; (obtain ⟨A, c, rfl, hc, hT, hb⟩ := scn_of hN r1); have K1 := K0.on hb; clear r1 hb)
    | (go_at_call 12; (with_reducible refine (c2 _).mono ?_); rintro e w2 r2; (obtain ⟨A2, q2, rfl, hc2, hT2, hb⟩ := scn_of hN r2); have K2 := K1.on hb; have hT := hT.below hb; clear r2 hb)
    | (go_at_call 13; (refine (cs _ _ _ _ _ hT hT2).mono ?_); rintro e w3 ⟨rfl, b3⟩; have K3 := K2.drawn b3)
    | (go_at_call 10; (refine (awake_any P _ _ K3).mono ?_); rintro e w9 ⟨rfl, K9⟩))
  go_ret
  exact ⟨rfl, K9.bel⟩

/-! ### LexWrites -/
structure Few (X : List Tk) : Prop where
  n : X.length ≤ 300
  t : ∀ x ∈ X, x.text.size ≤ 100
set_option maxRecDepth 10000 in
set_option maxHeartbeats 1000000 in
theorem few_any (A : Option Addr) (n c : Nat) (X : List Tk) (hn : Hid (X.length = n)) (hN : n ≤ 9223372036854775807) (b : Bool) (hb : Hid (b = true ↔ Few X)) (hs : ∀ x ∈ X, x.text.size ≤ 9223372036854775807) (w : World) (hI : Tks w A X) :
    Calls Try.prog 14 #[.slice A n c] w fun e w' => e = .returned (.bool b) ∧ w = w' := by
  by_cases h : 300 < n
  · obtain rfl : b = false := by
      cases b with
      | false => rfl
      | true =>
        have := (hb.out.1 rfl).n
        rw [hn.out] at this; omega
    have t : (300 : Int) < (n : Int) := by omega
    clear h
    go_enter Try.func14, Try.ntmps14
    go_wp2_with fail
    go_ret
    exact ⟨rfl, rfl⟩
  have t : ¬ (300 : Int) < (n : Int) := by omega
  have HSz := Lib.hid hs
  have hn3 : n ≤ 300 := by omega
  clear h hs
  go_enter Try.func14, Try.ntmps14
  go_wp2_with fail
  go_loop [3] (fun s3 => ∃ i : Nat, i ≤ n ∧ s3 = .int .i64 (i : Int) ∧ Hid (∀ j, j < i → (tat X j).text.size ≤ 100)) (fun s3 => n - (intOf s3).toNat)
  case atStart => exact ⟨0, Nat.zero_le _, rfl, Lib.hid (fun j h => absurd h (by omega))⟩
  case round =>
    obtain ⟨i, hi, rfl, HJ⟩ := hrel
    by_cases hlt : i < n
    · have hiX : i < X.length := by rw [hn.out]; exact hlt
      obtain ⟨ad, off, rfl, hx⟩ := hI.at_ (k := i) hiX
      have hm : tat X i ∈ X := List.mem_of_getElem? (tat_some hiX)
      have hsz := HSz.out _ hm
      have hfew : b = true → (tat X i).text.size ≤ 100 := fun e => (hb.out.1 e).t _ hm
      have hj : (tat X i).text.size ≤ 100 → ∀ j, j < i + 1 → (tat X j).text.size ≤ 100 := fun e j h => by
        rcases Nat.lt_or_ge j i with h' | h'
        · exact HJ.out j h'
        · obtain rfl : j = i := by omega
          exact e
      have HJ2 := Lib.hid hj
      clear hj
      generalize tat X i = x at *
      obtain ⟨x0, x1, x2, x3⟩ := hx
      obtain ⟨k0, l0, c0, t0⟩ := x
      simp only at x0 x1 x2 x3 hsz hfew HJ2
      have i0 : (0 : Int) ≤ (i : Int) := by omega
      have i1 : (i : Int) < (n : Int) := by omega
      by_cases hl : 100 < t0.size
      · obtain rfl : b = false := by
          cases b with
          | false => rfl
          | true => have := hfew rfl; omega
        have t1 : (100 : Int) < (t0.size : Int) := by omega
        clear hfew hl
        go_wp2_with fail
        go_ret
        exact ⟨rfl, rfl⟩
      · have t1 : ¬ (100 : Int) < (t0.size : Int) := by omega
        have HJ3 := Lib.hid (HJ2.out (by omega))
        clear hfew hl HJ2
        go_wp2_with fail
        go_round
        case rel => exact ⟨i + 1, by omega, by go_num, HJ3⟩
        case measure => simp [intOf]; omega
    · obtain rfl : i = n := by omega
      obtain rfl : b = true := hb.out.2 ⟨by rw [hn.out]; exact hn3, fun x hx => by
        obtain ⟨j, hj, rfl⟩ := List.mem_iff_getElem.1 hx
        have := HJ.out j (by rw [← hn.out]; exact hj)
        have e : tat X j = X[j] := by simp [tat, List.getD, hj]
        rw [← e]; exact this⟩
      go_wp2_with fail
      go_ret
      exact ⟨rfl, rfl⟩
theorem sum_le {c : Nat} : ∀ {xs : List Nat}, (∀ x ∈ xs, x ≤ c) → xs.sum ≤ xs.length * c
  | [], _ => Nat.zero_le _
  | x :: r, h => by
    have h1 := h x List.mem_cons_self
    have h2 := sum_le fun y hy => h y (List.mem_cons_of_mem x hy)
    rw [List.sum_cons, List.length_cons, Nat.succ_mul]; omega
theorem fore_mem : ∀ {xs : List (Int × By)} {x : Int × By}, x ∈ fore xs → x ∈ xs
  | [], x, h => h
  | y :: r, x, h => by
    rw [fore] at h
    split at h
    · simp at h
    · rcases List.mem_cons.1 h with rfl | h
      · exact List.mem_cons_self
      · exact List.mem_cons_of_mem _ (fore_mem h)
theorem few_len {X : List Tk} (h : Few X) : (jn (fore (X.map pr))).length ≤ 30300 := by
  have h1 := jn_len (fore (X.map pr))
  have h2 := sum_le (c := 101) (xs := (fore (X.map pr)).map fun x => x.2.length + 1) fun y hy => by
    obtain ⟨x, hx, rfl⟩ := List.mem_map.1 hy
    obtain ⟨z, hz, rfl⟩ := List.mem_map.1 (fore_mem hx)
    have := h.t z hz
    rw [size_len] at this
    show z.text.data.toList.length + 1 ≤ 101
    omega
  have h3 := fore_le (X.map pr)
  rw [List.length_map] at h2 h3
  have := h.n
  omega
set_option maxRecDepth 10000 in
set_option maxHeartbeats 1000000 in
theorem writes (P : PLx) (A : Option Addr) (n c : Nat) (X : List Tk) (hn : Hid (X.length = n)) (hN : n ≤ 9223372036854775807) (hc : n ≤ c) (hs : ∀ x ∈ X, x.text.size ≤ 9223372036854775807) (w : World) (hI : Tks w A X) (hi : P.inv w) :
    Calls Try.prog 4 #[.slice A n c] w fun e w' => e = .returned (.bool true) ∧ Below w.heap.size w w' := by
  have K0 := Kx.start hi
  clear hi
  by_cases hf : Few X
  · have cf := few_any A n c X hn hN true (Lib.hid ⟨fun _ => hf, fun _ => rfl⟩) hs w hI
    have hT := few_len hf
    have hn3 : n ≤ 1000000 := by have := hf.n; rw [hn.out] at this; omega
    obtain ⟨T, hTe⟩ : ∃ T, T = jn (fore (X.map pr)) := ⟨_, rfl⟩
    rw [← hTe] at hT
    have c1 := fun w h hI => P.join A n c X T hn hn3 hc (Lib.hid hTe) (by omega) w h hI
    have c2 := fun w hI => rjoin_any A n c X T hn hn3 (Lib.hid hTe) (by omega) w hI
    clear hf hT hTe hs
    go_enter Try.func4, Try.ntmps4
    go_wp2_with (first
      | (go_at_call 14; (with_reducible refine cf.mono ?_); rintro e w' ⟨rfl, rfl⟩)
      | (go_at_call 15; (with_reducible refine (c1 _ K0.inv hI).mono ?_); rintro e w1 ⟨t1, rfl, h1, hb⟩; have K1 := K0.on hb; have hI1 := hI.below hb; clear hb)
      | (go_at_call 16; (with_reducible refine (c2 _ hI1).mono ?_); rintro e w2 ⟨t2, rfl, h2, hb⟩; have K2 := K1.on hb; have tt : (t1.toList == t2.toList) = true := (by rw [Go.ByteArray.toList_eq, Go.ByteArray.toList_eq, h1, h2]; simp); clear hb)
      | (go_at_call 10; (refine (awake_any P _ _ K2).mono ?_); rintro e w9 ⟨rfl, K9⟩))
    go_ret
    exact ⟨rfl, K9.bel⟩
  · have cf := few_any A n c X hn hN false (Lib.hid ⟨fun h => Bool.noConfusion h, fun h => absurd h hf⟩) hs w hI
    clear hf hs
    go_enter Try.func4, Try.ntmps4
    go_wp2_with (first
      | (go_at_call 14; (with_reducible refine cf.mono ?_); rintro e w' ⟨rfl, rfl⟩)
      | (go_at_call 10; (refine (awake_any P _ _ K0).mono ?_); rintro e w9 ⟨rfl, K9⟩))
    go_ret
    exact ⟨rfl, K9.bel⟩

/-! ### LexJoins -/
theorem in_sum {L : By} : ∀ {ts : List T3} {a : Nat}, In L a ts → a ≤ L.length → ((al L ts).map fun x => x.2.length + 1).sum ≤ 2 * (L.length - a)
  | [], _, _, _ => Nat.zero_le _
  | (o, n, k) :: ts, a, h, ha => by
    obtain ⟨h1, h2, h3, _, _, h6⟩ := h
    have ih := in_sum h6 h3
    have e : ((L.drop o).take n).length = n := by rw [List.length_take, List.length_drop]; omega
    show (((L.drop o).take n).length + 1) + ((al L ts).map fun x => x.2.length + 1).sum ≤ _
    rw [e]; omega
set_option maxRecDepth 10000 in
set_option maxHeartbeats 2000000 in
theorem joins (P : PLx) (s : ByteArray) (hs : s.size ≤ 9223372036854775807) (w : World) (hi : P.inv w) :
    Calls Try.prog 5 #[.string s] w fun e w' => e = .returned (.bool true) ∧ Below w.heap.size w w' := by
  have K0 := Kx.start hi
  clear hi
  by_cases h : 5000 < s.size
  · have t : (5000 : Int) < (s.size : Int) := by omega
    clear h
    go_enter Try.func5, Try.ntmps5
    go_wp2_with (go_at_call 10; (refine (awake_any P _ _ K0).mono ?_); rintro e w9 ⟨rfl, K9⟩)
    go_ret
    exact ⟨rfl, K9.bel⟩
  have t : ¬ (5000 : Int) < (s.size : Int) := by omega
  obtain ⟨L, hL⟩ : ∃ L, L = s.data.toList := ⟨_, rfl⟩
  have hsz : s.size = L.length := by rw [hL]; exact size_len s
  rcases sx_any L with ⟨ts, hx⟩ | ⟨o, hx⟩
  · have c1 : ∀ w, P.inv w → Calls Try.prog 11 #[.string s] w (ScP w (tks L ts) 0 0) := fun w h' => P.scan s (tks L ts) 0 0 (by omega) (Lib.hid (by rw [← hL]; exact .inl ⟨ts, hx, rfl, rfl, rfl⟩)) w h'
    have hlen := sx_len hx
    obtain ⟨T, hT⟩ : ∃ T, T = jn (al L ts) := ⟨_, rfl⟩
    have hTl : T.length ≤ 10000 := by
      have h1 := jn_len (al L ts)
      have h2 := in_sum (sx_in hx) (sx_le hx)
      rw [← hT] at h1
      omega
    obtain ⟨N, hN⟩ : ∃ N, Hid ((tks L ts).length = N) := ⟨_, Lib.hid rfl⟩
    have hN4 : N ≤ 5001 := by have := hN.out; rw [tks_len] at this; omega
    have c2 := fun A c hc w h hI => P.join A N c (tks L ts) T hN (by omega) hc (Lib.hid (by rw [fore_tks hx]; exact hT)) (by omega) w h hI
    obtain ⟨us, hu, ha⟩ := sx_join hx
    rw [← hT] at hu ha
    have hul := sx_len hu
    have c3 : ∀ (t : ByteArray), t.data.toList = T → ∀ w, P.inv w → Calls Try.prog 11 #[.string t] w (ScP w (tks T us) 0 0) := fun t ht w h' => P.scan t (tks T us) 0 0 (by rw [size_len, ht]; omega) (Lib.hid (by rw [ht]; exact .inl ⟨us, hu, rfl, rfl, rfl⟩)) w h'
    have hp : (tks L ts).map pr = (tks T us).map pr := by rw [pr_tks, pr_tks, ha]
    have hM : Hid ((tks T us).length = N) := Lib.hid (by
      have := congrArg List.length hp
      rw [List.length_map, List.length_map] at this
      rw [← this]; exact hN.out)
    have ca := fun A B c d w hI hJ => alike_ok A B N c d (tks L ts) (tks T us) hN hM (Lib.hid hp) (by omega) w hI hJ
    have c4 := fun A c hc w h hI => P.join A N c (tks T us) T hM (by omega) hc (Lib.hid (by rw [fore_tks hu, ha]; exact hT)) (by omega) w h hI
    have HT := Lib.hid hTl
    clear hx hu ha hT hsz hL hp hul hlen h hTl
    generalize tks L ts = X at *
    generalize tks T us = Y at *
    go_enter Try.func5, Try.ntmps5
    go_upto_region 7 with (first
      | (go_at_call 11; (with_reducible refine (c1 _ K0.inv).mono ?_); rintro e w1 r1; (obtain ⟨A, c, rfl, hc, hX1, hb⟩ := scn_of hN r1); have K1 := K0.on hb; clear r1 hb)
      | (go_at_call 15; (with_reducible refine (c2 _ _ hc _ K1.inv hX1).mono ?_); rintro e w2 ⟨t, rfl, ht, hb⟩; have K2 := K1.on hb; have hX2 := hX1.below hb; have htl : t.size ≤ 10000 := (by rw [size_len, ht]; exact HT.out); have c3' := c3 t ht; have HTt := Lib.hid ht; clear hb c3 ht))
    go_wp2_with (first
      | (go_at_call 11; (with_reducible refine (c3' _ K2.inv).mono ?_); rintro e w3 r3; (obtain ⟨A3, q3, rfl, hc3, hY3, hb⟩ := scn_of hM r3); have K3 := K2.on hb; have hX3 := hX2.below hb; clear r3 hb)
      | (go_at_call 17; (refine (ca _ _ _ _ _ hX3 hY3).mono ?_); rintro e w4 ⟨rfl, b4⟩; have K4 := K3.drawn b4; (obtain ⟨d4, rfl⟩ := b4); have hY4 := hY3.below (below_draw _ d4))
      | (go_at_call 15; (refine (c4 _ _ hc3 _ K4.inv hY4).mono ?_); rintro e w5 ⟨t5, rfl, ht5, hb⟩; have K5 := K4.on hb; have tt : (t5.toList == t.toList) = true := (by rw [Go.ByteArray.toList_eq, Go.ByteArray.toList_eq, ht5, HTt.out]; simp); clear hb)
      | (go_at_call 10; (refine (awake_any P _ _ K5).mono ?_); rintro e w9 ⟨rfl, K9⟩))
    go_ret
    exact ⟨rfl, K9.bel⟩
  · have c1 : ∀ w, P.inv w → Calls Try.prog 11 #[.string s] w (ScP w [] 1 o) := fun w h' => P.scan s [] 1 o (by omega) (Lib.hid (by rw [← hL]; exact .inr ⟨hx, rfl, rfl⟩)) w h'
    have h0 : Hid (([] : List Tk).length = 0) := Lib.hid rfl
    clear hx hL hsz h
    go_enter Try.func5, Try.ntmps5
    go_wp2_with (first
      | (go_at_call 11; (with_reducible refine (c1 _ K0.inv).mono ?_); rintro e w1 r1; (obtain ⟨A, c, rfl, hc, hX1, hb⟩ := scn_of h0 r1); have K1 := K0.on hb; clear r1 hb)
      | (go_at_call 10; (refine (awake_any P _ _ K1).mono ?_); rintro e w9 ⟨rfl, K9⟩))
    go_ret
    exact ⟨rfl, K9.bel⟩
end Go.Proofs.Ytgmnoghmkbbheaa.lxL

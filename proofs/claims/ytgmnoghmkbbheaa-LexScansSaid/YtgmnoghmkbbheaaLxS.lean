/-
  The law LexRefuses, over any Scan and Join that keep the record of contracts.
-/
import Derived.Test.YtgmnoghmkbbheaaLxR
namespace Go.Proofs.Ytgmnoghmkbbheaa.lxS
open Go.RowKit
open Go.Proofs.Ytgmnoghmkbbheaa.lxM Go.Proofs.Ytgmnoghmkbbheaa.lxN Go.Proofs.Ytgmnoghmkbbheaa.lxA Go.Proofs.Ytgmnoghmkbbheaa.lxB Go.Proofs.Ytgmnoghmkbbheaa.lxC Go.Proofs.Ytgmnoghmkbbheaa.lxD Go.Proofs.Ytgmnoghmkbbheaa.lxQ Go.Proofs.Ytgmnoghmkbbheaa.lxL Go.Proofs.Ytgmnoghmkbbheaa.lxR
set_option linter.unusedVariables false

/-- something can begin with this byte -/
def St (c : Nat) : Prop := (97 ≤ c ∧ c ≤ 122) ∨ (48 ≤ c ∧ c ≤ 57) ∨ (c = 123 ∨ c = 125 ∨ c = 59) ∨ (c = 58 ∨ c = 35 ∨ c = 32) ∨ (c = 9 ∨ c = 13 ∨ c = 10)
theorem starts_yes (c : Nat) (h : St c) (w : World) :
    Calls Try.prog 18 #[.int .u8 (c : Int)] w fun e w' => e = .returned (.bool true) ∧ w = w' := by
  rcases h with ⟨h1, h2⟩ | ⟨h1, h2⟩ | (rfl | rfl | rfl) | (rfl | rfl | rfl) | (rfl | rfl | rfl)
  · have t1 : (97 : Int) ≤ (c : Int) := by omega
    have t2 : (c : Int) ≤ 122 := by omega
    clear h1 h2
    go_enter Try.func18, Try.ntmps18
    go_wp2_with fail
    go_ret
    exact ⟨rfl, rfl⟩
  · have t0 : ¬ (97 : Int) ≤ (c : Int) := by omega
    have t1 : (48 : Int) ≤ (c : Int) := by omega
    have t2 : (c : Int) ≤ 57 := by omega
    clear h1 h2
    go_enter Try.func18, Try.ntmps18
    go_wp2_with fail
    go_ret
    exact ⟨rfl, rfl⟩
  all_goals
    go_enter Try.func18, Try.ntmps18
    go_wp2_with fail
    go_ret
    exact ⟨rfl, rfl⟩
theorem starts_no (c : Nat) (h : ¬ St c) (w : World) :
    Calls Try.prog 18 #[.int .u8 (c : Int)] w fun e w' => e = .returned (.bool false) ∧ w = w' := by
  unfold St at h
  have n1 : ((c : Int) == 123) = false := by rw [beq_eq_false_iff_ne]; omega
  have n2 : ((c : Int) == 125) = false := by rw [beq_eq_false_iff_ne]; omega
  have n3 : ((c : Int) == 59) = false := by rw [beq_eq_false_iff_ne]; omega
  have n4 : ((c : Int) == 58) = false := by rw [beq_eq_false_iff_ne]; omega
  have n5 : ((c : Int) == 35) = false := by rw [beq_eq_false_iff_ne]; omega
  have n6 : ((c : Int) == 32) = false := by rw [beq_eq_false_iff_ne]; omega
  have n7 : ((c : Int) == 9) = false := by rw [beq_eq_false_iff_ne]; omega
  have n8 : ((c : Int) == 13) = false := by rw [beq_eq_false_iff_ne]; omega
  have n9 : ((c : Int) == 10) = false := by rw [beq_eq_false_iff_ne]; omega
  have three : (c < 48 ∧ ¬ 48 ≤ c) ∨ (57 < c ∧ c < 97) ∨ 122 < c := by omega
  rcases three with h1 | h1 | h1
  · have t0 : ¬ (97 : Int) ≤ (c : Int) := by omega
    have t1 : ¬ (48 : Int) ≤ (c : Int) := by omega
    clear h h1
    go_enter Try.func18, Try.ntmps18
    go_wp2_with fail
    go_ret
    exact ⟨rfl, rfl⟩
  · have t0 : ¬ (97 : Int) ≤ (c : Int) := by omega
    have t1 : (48 : Int) ≤ (c : Int) := by omega
    have t2 : ¬ (c : Int) ≤ 57 := by omega
    clear h h1
    go_enter Try.func18, Try.ntmps18
    go_wp2_with fail
    go_ret
    exact ⟨rfl, rfl⟩
  · have t0 : (97 : Int) ≤ (c : Int) := by omega
    have t0' : ¬ (c : Int) ≤ 122 := by omega
    have t1 : (48 : Int) ≤ (c : Int) := by omega
    have t2 : ¬ (c : Int) ≤ 57 := by omega
    clear h h1
    go_enter Try.func18, Try.ntmps18
    go_wp2_with fail
    go_ret
    exact ⟨rfl, rfl⟩
theorem not_st {c : UInt8} (h : ¬ St c.toNat) : blk c = false ∧ c.toNat ≠ 35 ∧ c.toNat ≠ 10 ∧ tl [c] = (0, 0) := by
  unfold St at h
  refine ⟨?_, by omega, by omega, tl_none ?_ ?_ ?_⟩
  · rw [← Bool.not_eq_true, blk_iff]; omega
  · rw [← Bool.not_eq_true, mrk_iff]; omega
  · rw [← Bool.not_eq_true, ltr_iff]; omega
  · rw [← Bool.not_eq_true, dgt_iff]; omega
theorem conv1 (W : World) (c : UInt8) :
    (convert 36 9 (.slice (some ⟨W.heap.size, 0, none⟩) 1 1)).run Try.prog (W.alloc (.cells #[.int .u8 (c.toNat : Int)] 5)) =
      .ok (.string ⟨#[c]⟩) (W.alloc (.cells #[.int .u8 (c.toNat : Int)] 5)) := by
  have := run_convert_bytes_back (P := Try.prog) (W.alloc (.cells #[.int .u8 (c.toNat : Int)] 5)) 36 9 5 ⟨W.heap.size, 0, none⟩ 1 [c] Try.underlying36 Try.underlying5 Try.underlying9 (fun j hj => by
    match j, hj with
    | 0, _ => simp [Addr.add, World.cell?_alloc_new])
  exact this
/-- behind a text that is accepted -/
theorem refuse_pack {L : By} {ts : List T3} (h : Sx L (sk false L) ts) {c : UInt8} (hc : ¬ St c.toNat) :
    Out (L ++ [10] ++ [c]) (sk false (L ++ [10] ++ [c])) [] [] 1 (L.length + 1) ∧ ∃ Y, Out (L ++ [10, 35] ++ [c]) (sk false (L ++ [10, 35] ++ [c])) [] Y 0 0 ∧ (tks L ts).map pr = Y.map pr := by
  obtain ⟨h1, h2, h3, h4⟩ := not_st hc
  rw [show L ++ [10] ++ [c] = L ++ 10 :: [c] by simp, show L ++ [10, 35] ++ [c] = L ++ 10 :: [35, c] by simp]
  have g1 : sk false [c] = 0 := go_cons h1 h2
  have g2 : sk false [35, c] = 2 := by
    rw [sk, if_pos (by decide), show ((35 : UInt8).toNat != 10 && (false || (35 : UInt8).toNat == 35)) = true by decide, sk, if_pos (by simp), sk]
  have b1 := bh_lf [c]
  rw [g1] at b1
  have b2 := bh_lf [35, c]
  rw [g2] at b2
  have k1 := ex_bh (L := L) b1 (o := L.length + 1) (Ex.here (by simp) (by
    rw [show (L ++ 10 :: [c]).drop (L.length + (0 + 1)) = [c] by rw [show L.length + (0 + 1) = L.length + 1 by omega, List.drop_append]; simp]
    rw [h4])) h
  have k2 := sx_bh (L := L) b2 (us := []) (by
    have := Sx.fin (L := L ++ 10 :: [35, c])
    rw [List.length_append] at this
    exact this) h
  rw [bt_sk b1] at k1
  rw [bt_sk b2, List.append_nil] at k2
  refine ⟨.inr ⟨k1, rfl, rfl⟩, tks (L ++ 10 :: [35, c]) ts, .inl ⟨ts, k2, rfl, rfl, rfl⟩, ?_⟩
  rw [pr_tks, pr_tks, al_bh _ (sx_in h)]
set_option maxRecDepth 10000 in
set_option maxHeartbeats 4000000 in
theorem refuses (P : PLx) (s : ByteArray) (c : UInt8) (hs : s.size ≤ 9223372036854775807) (w : World) (hi : P.inv w) :
    Calls Try.prog 8 #[.string s, .int .u8 (c.toNat : Int)] w fun e w' => e = .returned (.bool true) ∧ Below w.heap.size w w' := by
  have K0 := Kx.start hi
  clear hi
  by_cases h : 5000 < s.size
  · have t : (5000 : Int) < (s.size : Int) := by omega
    clear h
    go_enter Try.func8, Try.ntmps8
    go_wp2_with (go_at_call 10; (refine (awake_any P _ _ K0).mono ?_); rintro e w9 ⟨rfl, K9⟩)
    go_ret
    exact ⟨rfl, K9.bel⟩
  have t : ¬ (5000 : Int) < (s.size : Int) := by omega
  have hs5 : s.size ≤ 5000 := by omega
  clear h
  by_cases hc : St c.toNat
  · have c0 := starts_yes c.toNat hc
    clear hc
    go_enter Try.func8, Try.ntmps8
    go_wp2_with (first
      | (go_at_call 18; (with_reducible refine (c0 _).mono ?_); rintro e w' ⟨rfl, rfl⟩)
      | (go_at_call 10; (refine (awake_any P _ _ K0).mono ?_); rintro e w9 ⟨rfl, K9⟩))
    go_ret
    exact ⟨rfl, K9.bel⟩
  have c0 := starts_no c.toNat hc
  rcases sx_any s.data.toList with ⟨ts, hx⟩ | ⟨o, hx⟩
  · have hlen := sx_len hx
    rw [← size_len] at hlen
    obtain ⟨p1, Y, p2, p3⟩ := refuse_pack hx hc
    have z1 : ∀ b : By, (s ++ ⟨b.toArray⟩ ++ ⟨#[c]⟩ : ByteArray).data.toList = s.data.toList ++ b ++ [c] := fun b => by rw [app_list, app_list]
    have z2 : ∀ b : By, (s ++ ⟨b.toArray⟩ ++ ⟨#[c]⟩ : ByteArray).size = s.size + b.length + 1 := fun b => by rw [size_len, z1, List.length_append, List.length_append, ← size_len]; rfl
    have c1 : ∀ w, P.inv w → Calls Try.prog 11 #[.string s] w (ScP w (tks s.data.toList ts) 0 0) := fun w h' => P.scan s _ 0 0 (by omega) (Lib.hid (.inl ⟨ts, hx, rfl, rfl, rfl⟩)) w h'
    have e1 := z2 [10]
    have e2 := z2 [10, 35]
    have o1 := z1 [10]
    have o2 := z1 [10, 35]
    rw [← o1] at p1
    rw [← o2] at p2
    have c2 : ∀ w, P.inv w → Calls Try.prog 11 #[.string (s ++ ⟨#[10]⟩ ++ ⟨#[c]⟩)] w (ScP w [] 1 (s.data.toList.length + 1)) := fun w h' => P.scan _ [] 1 _ (by rw [e1]; simp; omega) (Lib.hid p1) w h'
    have c3 : ∀ w, P.inv w → Calls Try.prog 11 #[.string (s ++ ⟨#[10, 35]⟩ ++ ⟨#[c]⟩)] w (ScP w Y 0 0) := fun w h' => P.scan _ Y 0 0 (by rw [e2]; simp; omega) (Lib.hid p2) w h'
    rw [← size_len] at c2
    obtain ⟨N, hN⟩ : ∃ N, Hid ((tks s.data.toList ts).length = N) := ⟨_, Lib.hid rfl⟩
    have hN5 : N ≤ 5001 := by rw [← hN.out, tks_len]; omega
    have hM : Hid (Y.length = N) := Lib.hid (by
      have := congrArg List.length p3
      rw [List.length_map, List.length_map] at this
      rw [← this]; exact hN.out)
    have h0 : Hid (([] : List Tk).length = 0) := Lib.hid rfl
    have ca := fun A B c d w hI hJ => alike_ok A B N c d (tks s.data.toList ts) Y hN hM (Lib.hid p3) (by omega) w hI hJ
    have cv := fun W => conv1 W c
    clear p1 p2 p3 hx hlen hc z1 z2 e1 e2 o1 o2
    generalize tks s.data.toList ts = X at *
    go_enter Try.func8, Try.ntmps8
    go_wp2_with (first
      | (go_at_call 18; (with_reducible refine (c0 _).mono ?_); rintro e w' ⟨rfl, rfl⟩)
      | (go_at_call 11; first
        | ((with_reducible refine (c1 _ K0.inv).mono ?_); rintro e w1 r1; (obtain ⟨A, q1, rfl, hc, hT, hb⟩ := scn_of hN r1); have K1 := K0.on hb; have KA := Lib.hid (K1.on ((Below.refl _ w1).alloc (Nat.le_refl w1.heap.size) (.cells #[.int .u8 (c.toNat : Int)] 5))); have hT := hT.below ((Below.refl _ w1).alloc (Nat.le_refl w1.heap.size) (.cells #[.int .u8 (c.toNat : Int)] 5)); clear r1 hb)
        | ((with_reducible refine (c2 _ KA.out.inv).mono ?_); rintro e w2 r2; (obtain ⟨A2, q2, rfl, hc2, hT2, hb⟩ := scn_of h0 r2); have K2 := KA.out.on hb; have hT := hT.below hb; clear r2 hb)
        | ((with_reducible refine (c3 _ K2.inv).mono ?_); rintro e w3 r3; (obtain ⟨A3, q3, rfl, hc3, hT3, hb⟩ := scn_of hM r3); have K3 := K2.on hb; have hT := hT.below hb; clear r3 hb))
      | (go_at_call 17; (with_reducible refine (ca _ _ _ _ _ hT hT3).mono ?_); rintro e w4 ⟨rfl, b4⟩; have K4 := K3.drawn b4; clear b4)
      | (go_at_call 10; (refine (awake_any P _ _ K4).mono ?_); rintro e w9 ⟨rfl, K9⟩))
    go_ret
    exact ⟨rfl, K9.bel⟩
  · have c1 : ∀ w, P.inv w → Calls Try.prog 11 #[.string s] w (ScP w [] 1 o) := fun w h' => P.scan s [] 1 o (by omega) (Lib.hid (.inr ⟨hx, rfl, rfl⟩)) w h'
    have h0 : Hid (([] : List Tk).length = 0) := Lib.hid rfl
    clear hx hc
    go_enter Try.func8, Try.ntmps8
    go_wp2_with (first
      | (go_at_call 18; (with_reducible refine (c0 _).mono ?_); rintro e w' ⟨rfl, rfl⟩)
      | (go_at_call 11; (with_reducible refine (c1 _ K0.inv).mono ?_); rintro e w1 r1; (obtain ⟨A, q1, rfl, hc, hT, hb⟩ := scn_of h0 r1); have K1 := K0.on hb; clear r1 hb)
      | (go_at_call 10; (refine (awake_any P _ _ K1).mono ?_); rintro e w9 ⟨rfl, K9⟩))
    go_ret
    exact ⟨rfl, K9.bel⟩
end Go.Proofs.Ytgmnoghmkbbheaa.lxS

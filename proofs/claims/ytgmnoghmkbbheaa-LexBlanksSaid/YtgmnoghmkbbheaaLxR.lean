/-
  The laws LexBlanks, LexRefuses, over any Scan and Join that keep the record of contracts.
-/
import Derived.Test.YtgmnoghmkbbheaaLxL
import Derived.Laws.IdiomStrings
import Derived.Lib.BufferRead
namespace Go.Proofs.Ytgmnoghmkbbheaa.lxR
open Go.RowKit
open Go.Proofs.Ytgmnoghmkbbheaa.lxM Go.Proofs.Ytgmnoghmkbbheaa.lxN Go.Proofs.Ytgmnoghmkbbheaa.lxA Go.Proofs.Ytgmnoghmkbbheaa.lxB Go.Proofs.Ytgmnoghmkbbheaa.lxC Go.Proofs.Ytgmnoghmkbbheaa.lxD Go.Proofs.Ytgmnoghmkbbheaa.lxQ Go.Proofs.Ytgmnoghmkbbheaa.lxL
set_option linter.unusedVariables false

theorem app_list (s t : ByteArray) : (s ++ t).data.toList = s.data.toList ++ t.data.toList := by
  rw [ByteArray.data_append, Array.toList_append]
theorem app_size (s t : ByteArray) : (s ++ t).size = s.size + t.size := by rw [size_len, size_len, size_len, app_list, List.length_append]

/-! ### a blank before, behind -/
theorem blank_pack (L : By) (b : UInt8) (hb : blk b = true) : ∃ (X Y Z : List Tk) (E x y z : Nat), Out L (sk false L) [] X E x ∧ Out (b :: L) (sk false (b :: L)) [] Y E y ∧ Out (L ++ [b]) (sk false (L ++ [b])) [] Z E z ∧
    X.map pr = Y.map pr ∧ X.map pr = Z.map pr ∧ X.length ≤ L.length + 1 ∧ (E = 0 ∨ E = 1 ∧ y = x + 1 ∧ z = x) ∧ x ≤ L.length := by
  have e1 : sk false (b :: L) = ([b] : By).length + sk false L := by rw [sk_blk hb]; simp; omega
  have e2 := bt_sk (L := L) (bh_blk hb)
  rcases sx_any L with ⟨ts, h⟩ | ⟨o, h⟩
  · have h1 := sx_pre [b] h
    have h2 := sx_bh (L := L) (bh_blk hb) (us := []) (by
      have := Sx.fin (L := L ++ [b])
      rw [List.length_append] at this
      exact this) h
    rw [e2] at h2
    rw [List.append_nil] at h2
    have hl := sx_len h
    refine ⟨tks L ts, tks (b :: L) (ts.map (sh 1)), tks (L ++ [b]) ts, 0, 0, 0, 0, .inl ⟨ts, h, rfl, rfl, rfl⟩, .inl ⟨_, by rw [e1]; exact h1, rfl, rfl, rfl⟩, .inl ⟨_, h2, rfl, rfl, rfl⟩, ?_, ?_, by rw [tks_len]; omega, .inl rfl, Nat.zero_le _⟩
    · rw [pr_tks, pr_tks, show b :: L = [b] ++ L by rfl, show (1 : Nat) = ([b] : By).length by rfl, al_pre]
    · rw [pr_tks, pr_tks, al_bh [b] (sx_in h)]
  · have h1 := ex_pre [b] h
    have h2 := ex_bh2 (L := L) (bh_blk hb) h
    rw [e2] at h2
    exact ⟨[], [], [], 1, o, 1 + o, o, .inr ⟨h, rfl, rfl⟩, .inr ⟨by rw [e1]; exact h1, rfl, rfl⟩, .inr ⟨h2, rfl, rfl⟩, rfl, rfl, Nat.zero_le _, .inr ⟨rfl, by omega, rfl⟩, Nat.le_of_lt (ex_in h).2⟩
/-- the three calls' contracts, and how their answers belong together -/
theorem blank_calls (P : PLx) (s bs : ByteArray) (b : UInt8) (hbs : bs.data.toList = [b]) (hb : blk b = true) (hs : s.size ≤ 5000) : ∃ (X Y Z : List Tk) (N E x y z : Nat),
    (∀ w, P.inv w → Calls Try.prog 11 #[.string s] w (ScP w X E x)) ∧
    (∀ w, P.inv w → Calls Try.prog 11 #[.string (bs ++ s)] w (ScP w Y E y)) ∧
    (∀ w, P.inv w → Calls Try.prog 11 #[.string (s ++ bs)] w (ScP w Z E z)) ∧
    Hid (X.length = N) ∧ Hid (Y.length = N) ∧ Hid (Z.length = N) ∧ Hid (X.map pr = Y.map pr) ∧ Hid (X.map pr = Z.map pr) ∧ N ≤ 5001 ∧ (E = 0 ∨ E = 1 ∧ y = x + 1 ∧ z = x) ∧ x ≤ 5000 ∧ bs.size = 1 := by
  obtain ⟨X, Y, Z, E, x, y, z, h1, h2, h3, h4, h5, h6, h7, h8⟩ := blank_pack s.data.toList b hb
  have z1 : bs.size = 1 := by rw [size_len, hbs]; rfl
  have l1 : Y.length = X.length := by
    have := congrArg List.length h4
    rw [List.length_map, List.length_map] at this
    exact this.symm
  have l2 : Z.length = X.length := by
    have := congrArg List.length h5
    rw [List.length_map, List.length_map] at this
    exact this.symm
  rw [← size_len] at h6 h8
  exact ⟨X, Y, Z, X.length, E, x, y, z, fun w h => P.scan s X E x (by omega) (Lib.hid h1) w h,
    fun w h => P.scan (bs ++ s) Y E y (by rw [app_size]; omega) (Lib.hid (by rw [app_list, hbs]; exact h2)) w h,
    fun w h => P.scan (s ++ bs) Z E z (by rw [app_size]; omega) (Lib.hid (by rw [app_list, hbs]; exact h3)) w h,
    Lib.hid rfl, Lib.hid l1, Lib.hid l2, Lib.hid h4, Lib.hid h5, by omega, h7, by omega, z1⟩
set_option maxRecDepth 10000 in
set_option maxHeartbeats 4000000 in
theorem blanks (P : PLx) (s : ByteArray) (v : Nat) (hv : v ≤ 255) (hs : s.size ≤ 9223372036854775807) (w : World) (hi : P.inv w) :
    Calls Try.prog 7 #[.string s, .int .u8 (v : Int)] w fun e w' => e = .returned (.bool true) ∧ Below w.heap.size w w' := by
  have K0 := Kx.start hi
  clear hi
  by_cases h : 5000 < s.size
  · have t : (5000 : Int) < (s.size : Int) := by omega
    clear h
    go_enter Try.func7, Try.ntmps7
    go_wp2_with (go_at_call 10; (refine (awake_any P _ _ K0).mono ?_); rintro e w9 ⟨rfl, K9⟩)
    go_ret
    exact ⟨rfl, K9.bel⟩
  have t : ¬ (5000 : Int) < (s.size : Int) := by omega
  have hs5 : s.size ≤ 5000 := by omega
  have four : ((v : Int) % 4 = 0 ∨ (v : Int) % 4 = 1) ∨ ((v : Int) % 4 = 2 ∨ (v : Int) % 4 = 3) := by omega
  have KA := fun o => Lib.hid (K0.on ((Below.refl _ _).alloc (Nat.le_refl w.heap.size) o))
  clear h hs K0
  rcases four with (v4 | v4) | (v4 | v4)
  · obtain ⟨X, Y, Z, N, E, x, y, z, c1, c2, c3, hX, hY, hZ, p1, p2, hN, hE, hx, hb⟩ := blank_calls P s ⟨#[32]⟩ 32 rfl (by decide) hs5
    have a1 := fun A B c d w hI hJ => alike_ok A B N c d X Y hX hY p1 (by omega) w hI hJ
    have a2 := fun A B c d w hI hJ => alike_ok A B N c d X Z hX hZ p2 (by omega) w hI hJ
    have q1 : ((E : Int) != (E : Int)) = false := by simp
    clear hb
    rcases hE with rfl | ⟨rfl, rfl, rfl⟩
    all_goals
      go_enter Try.func7, Try.ntmps7
      go_wp2_with (first
        | (go_at_call 11; first
          | ((with_reducible refine (c1 _ (KA _).out.inv).mono ?_); rintro e w1 r1; (obtain ⟨A, c, rfl, hc, hT, hb⟩ := scn_of hX r1); have K1 := (KA _).out.on hb; clear r1 hb)
          | ((with_reducible refine (c2 _ K1.inv).mono ?_); rintro e w2 r2; (obtain ⟨A2, q2, rfl, hc2, hT2, hb⟩ := scn_of hY r2); have K2 := K1.on hb; have hT := hT.below hb; clear r2 hb)
          | ((with_reducible refine (c3 _ K2.inv).mono ?_); rintro e w3 r3; (obtain ⟨A3, q3, rfl, hc3, hT3, hb⟩ := scn_of hZ r3); have K3 := K2.on hb; have hT := hT.below hb; have hT2 := hT2.below hb; clear r3 hb))
        | (go_at_call 17; first
          | ((with_reducible refine (a1 _ _ _ _ _ hT hT2).mono ?_); rintro e w4 ⟨rfl, b4⟩; have K4 := K3.drawn b4; (obtain ⟨d4, rfl⟩ := b4); have hT := hT.below (below_draw _ d4); have hT3 := hT3.below (below_draw _ d4))
          | ((with_reducible refine (a2 _ _ _ _ _ hT hT3).mono ?_); rintro e w5 ⟨rfl, b5⟩; have K5 := K4.drawn b5; clear b5))
        | (go_at_call 10; (refine (awake_any P _ _ K5).mono ?_); rintro e w9 ⟨rfl, K9⟩))
      go_ret
      exact ⟨rfl, K9.bel⟩
  · obtain ⟨X, Y, Z, N, E, x, y, z, c1, c2, c3, hX, hY, hZ, p1, p2, hN, hE, hx, hb⟩ := blank_calls P s ⟨#[9]⟩ 9 rfl (by decide) hs5
    have a1 := fun A B c d w hI hJ => alike_ok A B N c d X Y hX hY p1 (by omega) w hI hJ
    have a2 := fun A B c d w hI hJ => alike_ok A B N c d X Z hX hZ p2 (by omega) w hI hJ
    have q1 : ((E : Int) != (E : Int)) = false := by simp
    clear hb
    rcases hE with rfl | ⟨rfl, rfl, rfl⟩
    all_goals
      go_enter Try.func7, Try.ntmps7
      go_wp2_with (first
        | (go_at_call 11; first
          | ((with_reducible refine (c1 _ (KA _).out.inv).mono ?_); rintro e w1 r1; (obtain ⟨A, c, rfl, hc, hT, hb⟩ := scn_of hX r1); have K1 := (KA _).out.on hb; clear r1 hb)
          | ((with_reducible refine (c2 _ K1.inv).mono ?_); rintro e w2 r2; (obtain ⟨A2, q2, rfl, hc2, hT2, hb⟩ := scn_of hY r2); have K2 := K1.on hb; have hT := hT.below hb; clear r2 hb)
          | ((with_reducible refine (c3 _ K2.inv).mono ?_); rintro e w3 r3; (obtain ⟨A3, q3, rfl, hc3, hT3, hb⟩ := scn_of hZ r3); have K3 := K2.on hb; have hT := hT.below hb; have hT2 := hT2.below hb; clear r3 hb))
        | (go_at_call 17; first
          | ((with_reducible refine (a1 _ _ _ _ _ hT hT2).mono ?_); rintro e w4 ⟨rfl, b4⟩; have K4 := K3.drawn b4; (obtain ⟨d4, rfl⟩ := b4); have hT := hT.below (below_draw _ d4); have hT3 := hT3.below (below_draw _ d4))
          | ((with_reducible refine (a2 _ _ _ _ _ hT hT3).mono ?_); rintro e w5 ⟨rfl, b5⟩; have K5 := K4.drawn b5; clear b5))
        | (go_at_call 10; (refine (awake_any P _ _ K5).mono ?_); rintro e w9 ⟨rfl, K9⟩))
      go_ret
      exact ⟨rfl, K9.bel⟩
  · obtain ⟨X, Y, Z, N, E, x, y, z, c1, c2, c3, hX, hY, hZ, p1, p2, hN, hE, hx, hb⟩ := blank_calls P s ⟨#[13]⟩ 13 rfl (by decide) hs5
    have a1 := fun A B c d w hI hJ => alike_ok A B N c d X Y hX hY p1 (by omega) w hI hJ
    have a2 := fun A B c d w hI hJ => alike_ok A B N c d X Z hX hZ p2 (by omega) w hI hJ
    have q1 : ((E : Int) != (E : Int)) = false := by simp
    clear hb
    rcases hE with rfl | ⟨rfl, rfl, rfl⟩
    all_goals
      go_enter Try.func7, Try.ntmps7
      go_wp2_with (first
        | (go_at_call 11; first
          | ((with_reducible refine (c1 _ (KA _).out.inv).mono ?_); rintro e w1 r1; (obtain ⟨A, c, rfl, hc, hT, hb⟩ := scn_of hX r1); have K1 := (KA _).out.on hb; clear r1 hb)
          | ((with_reducible refine (c2 _ K1.inv).mono ?_); rintro e w2 r2; (obtain ⟨A2, q2, rfl, hc2, hT2, hb⟩ := scn_of hY r2); have K2 := K1.on hb; have hT := hT.below hb; clear r2 hb)
          | ((with_reducible refine (c3 _ K2.inv).mono ?_); rintro e w3 r3; (obtain ⟨A3, q3, rfl, hc3, hT3, hb⟩ := scn_of hZ r3); have K3 := K2.on hb; have hT := hT.below hb; have hT2 := hT2.below hb; clear r3 hb))
        | (go_at_call 17; first
          | ((with_reducible refine (a1 _ _ _ _ _ hT hT2).mono ?_); rintro e w4 ⟨rfl, b4⟩; have K4 := K3.drawn b4; (obtain ⟨d4, rfl⟩ := b4); have hT := hT.below (below_draw _ d4); have hT3 := hT3.below (below_draw _ d4))
          | ((with_reducible refine (a2 _ _ _ _ _ hT hT3).mono ?_); rintro e w5 ⟨rfl, b5⟩; have K5 := K4.drawn b5; clear b5))
        | (go_at_call 10; (refine (awake_any P _ _ K5).mono ?_); rintro e w9 ⟨rfl, K9⟩))
      go_ret
      exact ⟨rfl, K9.bel⟩
  · obtain ⟨X, Y, Z, N, E, x, y, z, c1, c2, c3, hX, hY, hZ, p1, p2, hN, hE, hx, hb⟩ := blank_calls P s ⟨#[10]⟩ 10 rfl (by decide) hs5
    have a1 := fun A B c d w hI hJ => alike_ok A B N c d X Y hX hY p1 (by omega) w hI hJ
    have a2 := fun A B c d w hI hJ => alike_ok A B N c d X Z hX hZ p2 (by omega) w hI hJ
    have q1 : ((E : Int) != (E : Int)) = false := by simp
    clear hb
    rcases hE with rfl | ⟨rfl, rfl, rfl⟩
    all_goals
      go_enter Try.func7, Try.ntmps7
      go_wp2_with (first
        | (go_at_call 11; first
          | ((with_reducible refine (c1 _ (KA _).out.inv).mono ?_); rintro e w1 r1; (obtain ⟨A, c, rfl, hc, hT, hb⟩ := scn_of hX r1); have K1 := (KA _).out.on hb; clear r1 hb)
          | ((with_reducible refine (c2 _ K1.inv).mono ?_); rintro e w2 r2; (obtain ⟨A2, q2, rfl, hc2, hT2, hb⟩ := scn_of hY r2); have K2 := K1.on hb; have hT := hT.below hb; clear r2 hb)
          | ((with_reducible refine (c3 _ K2.inv).mono ?_); rintro e w3 r3; (obtain ⟨A3, q3, rfl, hc3, hT3, hb⟩ := scn_of hZ r3); have K3 := K2.on hb; have hT := hT.below hb; have hT2 := hT2.below hb; clear r3 hb))
        | (go_at_call 17; first
          | ((with_reducible refine (a1 _ _ _ _ _ hT hT2).mono ?_); rintro e w4 ⟨rfl, b4⟩; have K4 := K3.drawn b4; (obtain ⟨d4, rfl⟩ := b4); have hT := hT.below (below_draw _ d4); have hT3 := hT3.below (below_draw _ d4))
          | ((with_reducible refine (a2 _ _ _ _ _ hT hT3).mono ?_); rintro e w5 ⟨rfl, b5⟩; have K5 := K4.drawn b5; clear b5))
        | (go_at_call 10; (refine (awake_any P _ _ K5).mono ?_); rintro e w9 ⟨rfl, K9⟩))
      go_ret
      exact ⟨rfl, K9.bel⟩
end Go.Proofs.Ytgmnoghmkbbheaa.lxR

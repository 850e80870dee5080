/-
  Contracts of calendar's hasForm, number, Parse: what a text is; answers are drawn, nothing else changes.
-/
import Derived.Test.YtppklkiodbnipaaDoorClC
import Derived.Test.YtppklkiodbnipaaDoorClTx
import Derived.WalkSmall
import Derived.Laws.IdiomStrings
namespace Go.Proofs.YtppklkiodbnipaaDoor.clT
open Go.RowKit
open Go.Proofs.YtppklkiodbnipaaDoor.numT Go.Proofs.YtppklkiodbnipaaDoor.clM Go.Proofs.YtppklkiodbnipaaDoor.clA Go.Proofs.YtppklkiodbnipaaDoor.clB Go.Proofs.YtppklkiodbnipaaDoor.clC Go.Proofs.YtppklkiodbnipaaDoor.clX
set_option linter.unusedVariables false

set_option maxHeartbeats 400000 in
theorem num_any (t : ByteArray) (V : Nat) (hV : Hid (V = valN t.data.toList)) (hd : Hid (digs t.data.toList = true)) (hs : t.size ≤ 4) (w : World) :
    Calls Tryd.prog 41 #[.string t] w fun e w' => e = .returned (.int .i64 (V : Int)) ∧ w = w' := by
  go_enter Tryd.func41, Tryd.ntmps41
  go_wp2_with fail
  go_loop [3, 4, 7] (fun s3 s4 s7 => ∃ k v : Nat, k ≤ t.size ∧ s7 = .int .i64 (k : Int) ∧ s3 = .int .i64 (v : Int) ∧ v ≤ 9999 ∧ Hid (v = valN (t.data.toList.take k))) (fun _ _ s7 => t.size - (intOf s7).toNat)
  case atStart => exact ⟨0, 0, by omega, rfl, rfl, by omega, Lib.hid rfl⟩
  case round =>
    obtain ⟨k, v, hk, rfl, rfl, hv, HV⟩ := hrel
    by_cases hlt : k < t.size
    · have hdg := dig_at t hd.out k hlt
      have hst := valN_take t k hlt
      have hb := valN_small t hd.out (k + 1) (by omega)
      have hb2 : (10 : Nat) ^ (k + 1) ≤ 10000 := by
        have := Nat.pow_le_pow_right (n := 10) (by omega) (show k + 1 ≤ 4 by omega)
        exact this
      obtain ⟨c, hc⟩ : ∃ c : Nat, t[k].toNat = 48 + c := ⟨t[k].toNat - 48, by omega⟩
      have hc9 : c ≤ 9 := by omega
      have HV2 : Hid (10 * v + c = valN (t.data.toList.take (k + 1))) := Lib.hid (by rw [hst, HV.out]; omega)
      have hv2 : 10 * v + c ≤ 9999 := by rw [HV2.out]; omega
      have e1 : (t[k].toNat : Int) - 48 = (c : Int) := by omega
      have e2 : (v : Int) * 10 + (c : Int) = ((10 * v + c : Nat) : Int) := by omega
      clear hdg hst hb hb2 hc HV
      obtain ⟨u, hu⟩ : ∃ u, u = 10 * v + c := ⟨_, rfl⟩
      rw [← hu] at e2 hv2 HV2
      clear hu
      go_wp2_with fail
      go_round
      case rel => exact ⟨k + 1, u, by omega, by go_num, rfl, hv2, HV2⟩
      case measure => simp [intOf]; omega
    · obtain rfl : k = t.size := by omega
      obtain rfl : v = V := by rw [hV.out, HV.out, valN_all]
      go_wp2_with fail
      go_ret
      exact ⟨rfl, rfl⟩

/-- the form's byte at a place: 48 for a digit -/
def pat (k : Nat) : Nat := if k = 4 ∨ k = 7 then 45 else if k = 10 then 32 else if k = 13 then 58 else 48
theorem pats {k : Nat} (h : k < 16) : k = 0 ∨ k = 1 ∨ k = 2 ∨ k = 3 ∨ k = 4 ∨ k = 5 ∨ k = 6 ∨ k = 7 ∨ k = 8 ∨ k = 9 ∨ k = 10 ∨ k = 11 ∨ k = 12 ∨ k = 13 ∨ k = 14 ∨ k = 15 := by omega
set_option maxHeartbeats 400000 in
theorem hf_short (s : ByteArray) (h : s.size ≠ 16) (hs : s.size ≤ 281474976710656) (w : World) :
    Calls Tryd.prog 40 #[.string s] w fun e w' => e = .returned (.bool false) ∧ w = w' := by
  have t : ((s.size : Int) != 16) = true := by simp; omega
  clear h
  go_enter Tryd.func40, Tryd.ntmps40
  go_wp2_with fail
  go_ret
  exact ⟨rfl, rfl⟩
theorem lit_at (k : Nat) (h : k < (⟨#[48, 48, 48, 48, 45, 48, 48, 45, 48, 48, 32, 48, 48, 58, 48, 48]⟩ : ByteArray).size) : ((⟨#[48, 48, 48, 48, 45, 48, 48, 45, 48, 48, 32, 48, 48, 58, 48, 48]⟩ : ByteArray)[k]).toNat = pat k := by
  have h' : k < 16 := h
  rcases pats h' with rfl | rfl | rfl | rfl | rfl | rfl | rfl | rfl | rfl | rfl | rfl | rfl | rfl | rfl | rfl | rfl <;> rfl
theorem pat_dig {k : Nat} (h : pat k = 48) (hk : k < 16) : dgAt k := by
  unfold pat at h; unfold dgAt
  split at h
  · omega
  · split at h
    · omega
    · split at h <;> omega
theorem pat_else {k : Nat} (h : pat k ≠ 48) (c : UInt8) : okAt k c = decide (c.toNat = pat k) := by
  have e : ∀ n : Nat, n < 256 → (c == UInt8.ofNat n) = decide (c.toNat = n) := fun n hn => by
    by_cases x : c.toNat = n
    · have : c = UInt8.ofNat n := by
        apply UInt8.toNat_inj.1
        rw [x, UInt8.toNat_ofNat']; omega
      rw [this]; simp; omega
    · have : c ≠ UInt8.ofNat n := by
        rintro rfl
        apply x
        rw [UInt8.toNat_ofNat']; omega
      rw [decide_eq_false x]; simpa using this
  unfold okAt pat
  split
  · exact e 45 (by omega)
  · split
    · exact e 32 (by omega)
    · split
      · exact e 58 (by omega)
      · rename_i a b c2
        unfold pat at h
        rw [if_neg a, if_neg b, if_neg c2] at h
        exact absurd rfl h
set_option maxRecDepth 4000 in
set_option maxHeartbeats 1000000 in
theorem hf_any (s : ByteArray) (R : Bool) (hR : Hid (R = frm s.data.toList)) (h16 : s.size = 16) (w : World) :
    Calls Tryd.prog 40 #[.string s] w fun e w' => e = .returned (.bool R) ∧ ∃ d, w' = w.drewN d := by
  have hl : s.data.toList.length = 16 := by rw [← size_len]; exact h16
  have HB : Hid (∀ k, k < 16 → okAt k (ats s.data.toList k) = false → R = false) := Lib.hid fun k hk h => by rw [hR.out]; exact frm_bad hk h
  have HG : Hid ((∀ k, k < 16 → okAt k (ats s.data.toList k) = true) → R = true) := Lib.hid fun h => by rw [hR.out]; exact frm_iff.2 ⟨hl, h⟩
  have t : ((s.size : Int) != 16) = false := by simp; omega
  clear hR hl
  go_enter Tryd.func40, Tryd.ntmps40
  go_wp2_with fail
  go_loopw [3, 7] (fun s3 s7 wr => ∃ k d : Nat, k ≤ 16 ∧ s7 = .int .i64 (k : Int) ∧ Hid (∀ j, j < k → okAt j (ats s.data.toList j) = true) ∧ wr = w.drewN d) (fun _ s7 _ => 16 - (intOf s7).toNat)
  case atStart => exact ⟨0, 0, by omega, rfl, Lib.hid fun j hj => absurd hj (by omega), rfl⟩
  case round =>
    obtain ⟨k, d, hk, rfl, HK, rfl⟩ := hrel
    by_cases hlt : k < 16
    · have hks : k < s.size := by omega
      have hlt' : (k : Int) < 16 := by omega
      have hp : ∀ h, ((((⟨#[48, 48, 48, 48, 45, 48, 48, 45, 48, 48, 32, 48, 48, 58, 48, 48]⟩ : ByteArray)[k]'h).toNat : Nat) : Int) = ((pat k : Nat) : Int) := fun h => by rw [lit_at k h]
      have EA := Lib.hid (at_ats s k hks)
      have HN : Hid (okAt k s[k] = true → ∀ j, j < k + 1 → okAt j (ats s.data.toList j) = true) := Lib.hid fun h j hj => by
        by_cases e : j = k
        · rw [e, ← EA.out]; exact h
        · exact HK.out j (by omega)
      have HF : Hid (okAt k s[k] = false → R = false) := Lib.hid fun h => HB.out k hlt (by rw [← EA.out]; exact h)
      by_cases h48 : pat k = 48
      · have hdg : okAt k s[k] = dig s[k] := okAt_dig (pat_dig h48 hlt)
        rw [hdg] at HN HF
        rw [h48] at hp
        by_cases c1 : (s[k].toNat : Int) < 48
        · obtain rfl := HF.out (dig_no (.inl c1))
          clear HN HF hdg h48 HB HG
          go_wp2_with fail
          go_ret
          exact ⟨rfl, _, rfl⟩
        · by_cases c2 : (57 : Int) < (s[k].toNat : Int)
          · obtain rfl := HF.out (dig_no (.inr c2))
            clear HN HF hdg h48 HB HG
            go_wp2_with fail
            go_ret
            exact ⟨rfl, _, rfl⟩
          · have H2 := Lib.hid (HN.out (dig_yes c1 c2))
            have c2' : decide ((57 : Int) < (s[k].toNat : Int)) = false := decide_eq_false c2
            have c1' : decide ((s[k].toNat : Int) < 48) = false := decide_eq_false c1
            clear HN HF hdg h48 HB c1 c2
            go_wp2_with fail
            go_roundw
            case rel => exact ⟨k + 1, d, by omega, by go_num, H2, rfl⟩
            case measure => simp [intOf]; omega
      · have hel := pat_else h48 s[k]
        rw [hel] at HN HF
        have tp : (((pat k : Nat) : Int) == 48) = false := by simp; omega
        by_cases c1 : s[k].toNat = pat k
        · have H2 := Lib.hid (HN.out (decide_eq_true c1))
          have c1' : ((s[k].toNat : Int) != ((pat k : Nat) : Int)) = false := by rw [c1]; simp
          clear HN HF hel h48 HB c1
          generalize pat k = p at *
          go_wp2_with fail
          go_quiet (fail)
          go_wp2_with fail
          go_roundw
          case rel => exact ⟨k + 1, _, by omega, by go_num, H2, rfl⟩
          case measure => simp [intOf]; omega
        · obtain rfl := HF.out (decide_eq_false c1)
          have c1' : ((s[k].toNat : Int) != ((pat k : Nat) : Int)) = true := by simp; omega
          clear HN HF hel h48 HB HG c1
          generalize pat k = p at *
          go_wp2_with fail
          go_quiet (fail)
          go_wp2_with fail
          go_ret
          exact ⟨rfl, _, World.drewN_drewN _ _ _⟩
    · obtain rfl : k = 16 := by omega
      obtain rfl := HG.out HK.out
      go_wp2_with fail
      go_ret
      exact ⟨rfl, _, rfl⟩

/-! ### Parse -/
theorem cparse_form (s : ByteArray) (hf : frm s.data.toList = false) (hs : s.size ≤ 281474976710656) (w : World) :
    Calls Tryd.prog 22 #[.string s] w fun e w' => e = .returned (.tuple #[.int .i64 0, .int .i64 1]) ∧ ∃ d, w' = w.drewN d := by
  have ch : ∀ w, Calls Tryd.prog 40 #[.string s] w fun e w' => e = .returned (.bool false) ∧ ∃ d, w' = w.drewN d := fun w => by
    by_cases h : s.size = 16
    · exact hf_any s false (Lib.hid hf.symm) h w
    · exact (hf_short s h hs w).mono fun _ _ ⟨a, b⟩ => ⟨a, 0, b.symm⟩
  clear hf
  go_enter Tryd.func22, Tryd.ntmps22
  go_wp2_with (go_at_call 40; (with_reducible refine (ch _).mono ?_); rintro e w' ⟨rfl, k, rfl⟩)
  go_ret2
  exact ⟨rfl, _, rfl⟩
/-- what the parts of a text of this form are -/
structure Pts (s : ByteArray) (Y M D H I : Nat) : Prop where
  size : s.size = 16
  y : Y ≤ 9999
  m : M ≤ 99
  d : D ≤ 99
  h : H ≤ 99
  i : I ≤ 99
  ch : ∀ w, Calls Tryd.prog 40 #[.string s] w fun e w' => e = .returned (.bool true) ∧ ∃ d, w' = w.drewN d
  cy : ∀ w, Calls Tryd.prog 41 #[.string (s.extract 0 4)] w fun e w' => e = .returned (.int .i64 (Y : Int)) ∧ w = w'
  cm : ∀ w, Calls Tryd.prog 41 #[.string (s.extract 5 7)] w fun e w' => e = .returned (.int .i64 (M : Int)) ∧ w = w'
  cd : ∀ w, Calls Tryd.prog 41 #[.string (s.extract 8 10)] w fun e w' => e = .returned (.int .i64 (D : Int)) ∧ w = w'
  chh : ∀ w, Calls Tryd.prog 41 #[.string (s.extract 11 13)] w fun e w' => e = .returned (.int .i64 (H : Int)) ∧ w = w'
  ci : ∀ w, Calls Tryd.prog 41 #[.string (s.extract 14 16)] w fun e w' => e = .returned (.int .i64 (I : Int)) ∧ w = w'
theorem pts (s : ByteArray) (hf : frm s.data.toList = true) : Pts s (yr s.data.toList) (nu s.data.toList 5) (nu s.data.toList 8) (nu s.data.toList 11) (nu s.data.toList 14) := by
  have hs : s.size = 16 := by rw [size_len]; exact (frm_iff.1 hf).1
  have p4 := part_four hs hf
  have q : ∀ i, i + 1 < 16 → dgAt i → dgAt (i + 1) → ∀ w, Calls Tryd.prog 41 #[.string (s.extract i (i + 2))] w fun e w' => e = .returned (.int .i64 (nu s.data.toList i : Int)) ∧ w = w' := fun i hi h1 h2 w => by
    have p := part_two hs hf hi h1 h2
    exact num_any _ _ (Lib.hid p.2.1.symm) (Lib.hid p.1) (by omega) w
  have dg : ∀ i, i ≠ 4 → i ≠ 7 → i ≠ 10 → i ≠ 13 → dgAt i := fun i a b c d => ⟨a, b, c, d⟩
  have d5 := dg 5 (by omega) (by omega) (by omega) (by omega)
  have d6 := dg 6 (by omega) (by omega) (by omega) (by omega)
  have d8 := dg 8 (by omega) (by omega) (by omega) (by omega)
  have d9 := dg 9 (by omega) (by omega) (by omega) (by omega)
  have d11 := dg 11 (by omega) (by omega) (by omega) (by omega)
  have d12 := dg 12 (by omega) (by omega) (by omega) (by omega)
  have d14 := dg 14 (by omega) (by omega) (by omega) (by omega)
  have d15 := dg 15 (by omega) (by omega) (by omega) (by omega)
  have d0 := nu_le hf (k := 0) (by omega) (dg 0 (by omega) (by omega) (by omega) (by omega)) (dg 1 (by omega) (by omega) (by omega) (by omega))
  have d2 := nu_le hf (k := 2) (by omega) (dg 2 (by omega) (by omega) (by omega) (by omega)) (dg 3 (by omega) (by omega) (by omega) (by omega))
  exact ⟨hs, by unfold yr; omega, nu_le hf (by omega) d5 d6, nu_le hf (by omega) d8 d9, nu_le hf (by omega) d11 d12, nu_le hf (by omega) d14 d15,
    fun w => hf_any s true (Lib.hid hf.symm) hs w,
    fun w => num_any _ _ (Lib.hid p4.2.1.symm) (Lib.hid p4.1) (by omega) w,
    q 5 (by omega) d5 d6, q 8 (by omega) d8 d9, q 11 (by omega) d11 d12, q 14 (by omega) d14 d15⟩
theorem quiet_d {P : Program} {f : FuncId} {args : Array Value} {w : World} {n : Nat} {v : Value}
    (h : Calls P f args (w.drewN n) fun e w' => e = .returned v ∧ ∃ m, w' = (w.drewN n).drewN m) : Calls P f args (w.drewN n) fun e w'' => e = .returned v ∧ ∃ m, w'' = w.drewN m :=
  Calls.quiet_of h
set_option maxRecDepth 4000 in
set_option maxHeartbeats 1000000 in
theorem cparse_ok (s : ByteArray) (n Y M D H I : Nat) (hp : Pts s Y M D H I) (hI : Is n Y M D) (hh : H ≤ 23) (hi : I ≤ 59) (ht : 1440 * n + 60 * H + I ≤ 1073741824) (w : World) (hM : Mon w) :
    Calls Tryd.prog 22 #[.string s] w fun e w' => e = .returned (.tuple #[.int .i64 ((1440 * n + 60 * H + I : Nat) : Int), .int .i64 0]) ∧ ∃ d, w' = w.drewN d := by
  obtain ⟨h16, _, _, _, _, _, ch, cy, cm, cd, chh, ci⟩ := hp
  have co := fun w h' => dayof_yes n Y M D hI (by omega) w h'
  obtain ⟨T, hT⟩ : ∃ T, T = 1440 * n + 60 * H + I := ⟨_, rfl⟩
  rw [← hT]
  have ct := fun w => istime_any (T : Int) true (Lib.hid (decide_eq_true ⟨by omega, by omega⟩).symm) w
  have t1 : decide ((23 : Int) < (H : Int)) = false := decide_eq_false (by omega)
  have t2 : decide ((59 : Int) < (I : Int)) = false := decide_eq_false (by omega)
  have eT : (n : Int) * 1440 + (H : Int) * 60 + (I : Int) = (T : Int) := by omega
  have bn : n ≤ 745654 := by omega
  clear hI hT ht
  have hs0 : (s.size : Int) = 16 := by omega
  go_enter Tryd.func22, Tryd.ntmps22
  go_wp2_with (go_at_call 40; (with_reducible refine (ch _).mono ?_); rintro e w' ⟨rfl, k, rfl⟩)
  obtain ⟨w1, hw1⟩ : ∃ w1, w.drewN k = w1 := ⟨_, rfl⟩
  have hM1 : Mon w1 := by rw [← hw1]; exact mon_drew hM _
  rw [hw1]
  go_quiet ((first | (go_at_call 41; first | (with_reducible exact quiet_l cy) | (with_reducible exact quiet_l cm) | (with_reducible exact quiet_l cd)) | (go_at_call 24; exact quiet_d (co _ (mon_drew hM1 _)))))
  go_wp2_with fail
  obtain ⟨w2, hw2⟩ : ∃ w2, w1.drewN nq = w2 := ⟨_, rfl⟩
  rw [hw2]
  go_quiet ((go_at_call 41; first | (with_reducible exact quiet_l chh) | (with_reducible exact quiet_l ci)))
  go_wp2_with (go_at_call 33; (with_reducible refine (ct _).mono ?_); rintro e w' ⟨rfl, rfl⟩)
  go_ret2
  exact ⟨rfl, _, by rw [← hw2, ← hw1, World.drewN_drewN, World.drewN_drewN]⟩
set_option maxRecDepth 4000 in
set_option maxHeartbeats 1000000 in
theorem cparse_nd (s : ByteArray) (Y M D H I : Nat) (hp : Pts s Y M D H I) (hn : ∀ n, ¬ Is n Y M D) (w : World) (hM : Mon w) :
    Calls Tryd.prog 22 #[.string s] w fun e w' => e = .returned (.tuple #[.int .i64 0, .int .i64 2]) ∧ ∃ d, w' = w.drewN d := by
  obtain ⟨h16, _, _, _, _, _, ch, cy, cm, cd, chh, ci⟩ := hp
  have co := fun w h' => dayof_no (Y : Int) (M : Int) (D : Int) (fun n ⟨Y', M', D', e1, e2, e3, h⟩ => by
    obtain rfl : Y' = Y := by omega
    obtain rfl : M' = M := by omega
    obtain rfl : D' = D := by omega
    exact absurd h (hn n)) w h'
  clear hn
  have hs0 : (s.size : Int) = 16 := by omega
  go_enter Tryd.func22, Tryd.ntmps22
  go_wp2_with (go_at_call 40; (with_reducible refine (ch _).mono ?_); rintro e w' ⟨rfl, k, rfl⟩)
  obtain ⟨w1, hw1⟩ : ∃ w1, w.drewN k = w1 := ⟨_, rfl⟩
  have hM1 : Mon w1 := by rw [← hw1]; exact mon_drew hM _
  rw [hw1]
  go_quiet ((first | (go_at_call 41; first | (with_reducible exact quiet_l cy) | (with_reducible exact quiet_l cm) | (with_reducible exact quiet_l cd)) | (go_at_call 24; exact quiet_d (co _ (mon_drew hM1 _)))))
  go_wp2_with fail
  obtain ⟨w2, hw2⟩ : ∃ w2, w1.drewN nq = w2 := ⟨_, rfl⟩
  rw [hw2]
  go_quiet ((go_at_call 41; first | (with_reducible exact quiet_l chh) | (with_reducible exact quiet_l ci)))
  go_wp2_with fail
  go_ret2
  exact ⟨rfl, _, by rw [← hw2, ← hw1, World.drewN_drewN, World.drewN_drewN]⟩
set_option maxRecDepth 4000 in
set_option maxHeartbeats 1000000 in
theorem cparse_h (s : ByteArray) (n Y M D H I : Nat) (hp : Pts s Y M D H I) (hI : Is n Y M D) (hy : Y ≤ 9999) (hh : 23 < H) (w : World) (hM : Mon w) :
    Calls Tryd.prog 22 #[.string s] w fun e w' => e = .returned (.tuple #[.int .i64 0, .int .i64 2]) ∧ ∃ d, w' = w.drewN d := by
  obtain ⟨h16, _, _, _, _, _, ch, cy, cm, cd, chh, ci⟩ := hp
  have co := fun w h' => dayof_yes n Y M D hI hy w h'
  have t1 : (23 : Int) < (H : Int) := by omega
  clear hI
  have hs0 : (s.size : Int) = 16 := by omega
  go_enter Tryd.func22, Tryd.ntmps22
  go_wp2_with (go_at_call 40; (with_reducible refine (ch _).mono ?_); rintro e w' ⟨rfl, k, rfl⟩)
  obtain ⟨w1, hw1⟩ : ∃ w1, w.drewN k = w1 := ⟨_, rfl⟩
  have hM1 : Mon w1 := by rw [← hw1]; exact mon_drew hM _
  rw [hw1]
  go_quiet ((first | (go_at_call 41; first | (with_reducible exact quiet_l cy) | (with_reducible exact quiet_l cm) | (with_reducible exact quiet_l cd)) | (go_at_call 24; exact quiet_d (co _ (mon_drew hM1 _)))))
  go_wp2_with fail
  obtain ⟨w2, hw2⟩ : ∃ w2, w1.drewN nq = w2 := ⟨_, rfl⟩
  rw [hw2]
  go_quiet ((go_at_call 41; first | (with_reducible exact quiet_l chh) | (with_reducible exact quiet_l ci)))
  go_wp2_with fail
  go_ret2
  exact ⟨rfl, _, by rw [← hw2, ← hw1, World.drewN_drewN, World.drewN_drewN]⟩
set_option maxRecDepth 4000 in
set_option maxHeartbeats 1000000 in
theorem cparse_i (s : ByteArray) (n Y M D H I : Nat) (hp : Pts s Y M D H I) (hI : Is n Y M D) (hy : Y ≤ 9999) (hh : H ≤ 23) (hi : 59 < I) (w : World) (hM : Mon w) :
    Calls Tryd.prog 22 #[.string s] w fun e w' => e = .returned (.tuple #[.int .i64 0, .int .i64 2]) ∧ ∃ d, w' = w.drewN d := by
  obtain ⟨h16, _, _, _, _, _, ch, cy, cm, cd, chh, ci⟩ := hp
  have co := fun w h' => dayof_yes n Y M D hI hy w h'
  have t1 : decide ((23 : Int) < (H : Int)) = false := decide_eq_false (by omega)
  have t2 : (59 : Int) < (I : Int) := by omega
  clear hI
  have hs0 : (s.size : Int) = 16 := by omega
  go_enter Tryd.func22, Tryd.ntmps22
  go_wp2_with (go_at_call 40; (with_reducible refine (ch _).mono ?_); rintro e w' ⟨rfl, k, rfl⟩)
  obtain ⟨w1, hw1⟩ : ∃ w1, w.drewN k = w1 := ⟨_, rfl⟩
  have hM1 : Mon w1 := by rw [← hw1]; exact mon_drew hM _
  rw [hw1]
  go_quiet ((first | (go_at_call 41; first | (with_reducible exact quiet_l cy) | (with_reducible exact quiet_l cm) | (with_reducible exact quiet_l cd)) | (go_at_call 24; exact quiet_d (co _ (mon_drew hM1 _)))))
  go_wp2_with fail
  obtain ⟨w2, hw2⟩ : ∃ w2, w1.drewN nq = w2 := ⟨_, rfl⟩
  rw [hw2]
  go_quiet ((go_at_call 41; first | (with_reducible exact quiet_l chh) | (with_reducible exact quiet_l ci)))
  go_wp2_with fail
  go_ret2
  exact ⟨rfl, _, by rw [← hw2, ← hw1, World.drewN_drewN, World.drewN_drewN]⟩
set_option maxRecDepth 4000 in
set_option maxHeartbeats 1000000 in
theorem cparse_t (s : ByteArray) (n Y M D H I : Nat) (hp : Pts s Y M D H I) (hI : Is n Y M D) (hy : Y ≤ 9999) (hn : n ≤ 100000000) (hh : H ≤ 23) (hi : I ≤ 59) (ht : 1073741824 < 1440 * n + 60 * H + I) (w : World) (hM : Mon w) :
    Calls Tryd.prog 22 #[.string s] w fun e w' => e = .returned (.tuple #[.int .i64 0, .int .i64 2]) ∧ ∃ d, w' = w.drewN d := by
  obtain ⟨h16, _, _, _, _, _, ch, cy, cm, cd, chh, ci⟩ := hp
  have co := fun w h' => dayof_yes n Y M D hI hy w h'
  obtain ⟨T, hT⟩ : ∃ T, T = 1440 * n + 60 * H + I := ⟨_, rfl⟩
  have ct := fun w => istime_any (T : Int) false (Lib.hid (decide_eq_false (by omega)).symm) w
  have t1 : decide ((23 : Int) < (H : Int)) = false := decide_eq_false (by omega)
  have t2 : decide ((59 : Int) < (I : Int)) = false := decide_eq_false (by omega)
  have eT : (n : Int) * 1440 + (H : Int) * 60 + (I : Int) = (T : Int) := by omega
  clear hI hT ht
  have hs0 : (s.size : Int) = 16 := by omega
  go_enter Tryd.func22, Tryd.ntmps22
  go_wp2_with (go_at_call 40; (with_reducible refine (ch _).mono ?_); rintro e w' ⟨rfl, k, rfl⟩)
  obtain ⟨w1, hw1⟩ : ∃ w1, w.drewN k = w1 := ⟨_, rfl⟩
  have hM1 : Mon w1 := by rw [← hw1]; exact mon_drew hM _
  rw [hw1]
  go_quiet ((first | (go_at_call 41; first | (with_reducible exact quiet_l cy) | (with_reducible exact quiet_l cm) | (with_reducible exact quiet_l cd)) | (go_at_call 24; exact quiet_d (co _ (mon_drew hM1 _)))))
  go_wp2_with fail
  obtain ⟨w2, hw2⟩ : ∃ w2, w1.drewN nq = w2 := ⟨_, rfl⟩
  rw [hw2]
  go_quiet ((go_at_call 41; first | (with_reducible exact quiet_l chh) | (with_reducible exact quiet_l ci)))
  go_wp2_with (go_at_call 33; (with_reducible refine (ct _).mono ?_); rintro e w' ⟨rfl, rfl⟩)
  go_ret2
  exact ⟨rfl, _, by rw [← hw2, ← hw1, World.drewN_drewN, World.drewN_drewN]⟩
end Go.Proofs.YtppklkiodbnipaaDoor.clT

/-
  Contracts of the reference's Big, Frame, Next.
-/
import Derived.Test.YtpmmddemeiljjaaWrF
import Derived.Test.YtpmmddemeiljjaaDgA
import Derived.Deep.RegionWith
namespace Go.Proofs.Ytpmmddemeiljjaa.wrG
open Go.RowKit
open Go.Proofs.Ytpmmddemeiljjaa.dgM Go.Proofs.Ytpmmddemeiljjaa.wrM Go.Proofs.Ytpmmddemeiljjaa.wrO Go.Proofs.Ytpmmddemeiljjaa.wrA Go.Proofs.Ytpmmddemeiljjaa.wrB Go.Proofs.Ytpmmddemeiljjaa.wrC Go.Proofs.Ytpmmddemeiljjaa.wrD Go.Proofs.Ytpmmddemeiljjaa.wrE
set_option linter.unusedVariables false

theorem below_on {w v u : World} (h : Below w.heap.size w v) (h2 : Below v.heap.size v u) : Below w.heap.size w u := h.trans (h2.mono h.size)
theorem own_one (w : World) (B : Nat) (hB : B ≤ w.heap.size) (c : UInt8) : OwB (w.alloc (.cells #[vB c] 5)) B (.slice (some ⟨w.heap.size, 0, none⟩) 1 1) [c] :=
  World.ownsRow_lit w #[vB c] 1 hB (by unfold maxLen; omega) rfl
theorem own_empty2 (w : World) (B : Nat) (hB : B ≤ w.heap.size) : OwB (w.alloc (.cells #[] 5)) B (.slice (some ⟨w.heap.size, 0, none⟩) 0 0) [] :=
  World.ownsRow_lit w #[] 0 hB (by unfold maxLen; omega) rfl
/-! ### Big -/
set_option maxRecDepth 10000 in
set_option maxHeartbeats 400000 in
theorem rbig_any (x : Nat) (hx : x < A64) (w : World) :
    Calls Try.prog 56 #[.int .u64 (x : Int)] w fun e w' => ∃ v, e = .returned v ∧ OwB w' w.heap.size v (bg x) ∧ Below w.heap.size w w' := by
  go_enter Try.func56, Try.ntmps56
  go_wp2_with fail
  go_loopw [0, 3, 4] (fun s0 s3 s4 wr => ∃ k y : Nat, k ≤ 8 ∧ s4 = .int .i64 (k : Int) ∧ s0 = .int .u64 (y : Int) ∧ Hid (y = x / 256 ^ k) ∧ OwB wr w.heap.size s3 (bl x k) ∧ Below w.heap.size w wr) (fun _ _ s4 _ => 8 - (intOf s4).toNat)
  case atStart => exact ⟨0, x, by omega, rfl, rfl, Lib.hid (by rw [Nat.pow_zero, Nat.div_one]), own_nil _ _, Below.refl _ _⟩
  case round =>
    obtain ⟨k, y, hk, rfl, rfl, HY, hO, hB⟩ := hrel
    obtain ⟨A, c, rfl, hc, hC, hn, hob⟩ := own_form hO
    by_cases hlt : k < 8
    · have by_ : y < 18446744073709551616 := by
        rw [HY.out]
        exact Nat.lt_of_le_of_lt (Nat.div_le_self _ _) hx
      have e : IntKind.u8.wrap ((y : Int) % 256) = (((by8 (y % 256)).toNat : Nat) : Int) := by rw [by8_nat (by omega), IntKind.wrap_u8]; omega
      have e1 : (y : Int) / 256 = ((y / 256 : Nat) : Int) := by omega
      have HY2 : Hid (y / 256 = x / 256 ^ (k + 1)) := Lib.hid (by rw [HY.out, Nat.pow_succ, Nat.div_div_eq_div_mul])
      have HE : Hid ([by8 (y % 256)] ++ bl x k = bl x (k + 1)) := Lib.hid (by rw [HY.out]; rfl)
      have bz : y / 256 < 18446744073709551616 := by omega
      have hl : (bl x k).length ≤ 8 := by rw [bl_len]; omega
      have hC2 := fun ch : UInt8 => hC.below ((Below.refl _ wr).alloc (Nat.le_refl _) (.cells #[vB ch] 5))
      have hO2 := own_one wr w.heap.size hB.size
      have hB2 := fun ch : UInt8 => hB.alloc hB.size (.cells #[vB ch] 5)
      clear HY hx by_
      generalize by8 (y % 256) = ch at *
      generalize y / 256 = z at *
      generalize bl x k = L at *
      go_wp2_with (refine wpl_app rfl (.tmp 12) (.tmp 13) rfl _ w.heap.size (.slice (some ⟨wr.heap.size, 0, none⟩) 1 1) [ch] (by rfl) (hO2 ch) A L.length c L (by rfl) rfl (hC2 ch) hn (by simp; omega) (hB2 ch).size ?_; intro v' w3 AP)
      go_roundw
      case rel =>
        have hb3 : Below w.heap.size w w3 := (hB2 ch).grown AP.2.1 (hB2 ch).size (fun g e => by simp [Value.ownBlock] at e; have := hB.size; omega)
        exact ⟨k + 1, z, by omega, by go_num, rfl, HY2, by rw [← HE.out]; exact AP.1, hb3⟩
      case measure => simp [intOf]; omega
    · obtain rfl : k = 8 := by omega
      go_wp2_with fail
      go_ret
      exact ⟨_, rfl, hO, hB⟩

/-! ### Frame -/
set_option maxRecDepth 10000 in
set_option maxHeartbeats 400000 in
theorem rframe_any (A : Option Addr) (n c : Nat) (b : List UInt8) (hn : b.length = n) (hA : A = none → c = 0) (hN : n ≤ 1000000) (w : World) (hb : Cb w A b) :
    Calls Try.prog 41 #[.slice A n c] w fun e w' => ∃ v, e = .returned v ∧ OwB w' w.heap.size v (fr b) ∧ Below w.heap.size w w' := by
  have cv := rvarint_any n (by show n < 18446744073709551616; omega)
  have cs := fun w => dgA.rsum_any ⟨b.toArray⟩ (sm s0 b) (Lib.hid (by simp)) (by show b.toArray.size ≤ _; simp; omega) w
  have cbig := rbig_any (sm s0 b) (sm_lt s0_lt b)
  obtain ⟨L2, hL2⟩ : ∃ L, L = vr n ++ b := ⟨_, rfl⟩
  have HE : Hid (L2 ++ bg (sm s0 b) = fr b) := Lib.hid (by unfold fr dg; rw [hn, hL2])
  have hlen := vr_len n
  have hlen2 : L2.length ≤ 1000010 := by rw [hL2, List.length_append]; omega
  have hG : (bg (sm s0 b)).length ≤ 8 := by rw [bg_len]; omega
  generalize bg (sm s0 b) = G at *
  generalize sm s0 b = z at *
  generalize vr n = V1 at *
  have HL2 := Lib.hid hL2
  clear hL2
  go_enter Try.func41, Try.ntmps41
  go_wp2_with (first
    | (go_at_call 47; (refine (cv _).mono ?_); rintro e w1 ⟨v1, rfl, O1, B1⟩; obtain ⟨A1, c1, rfl, hc1, hC1, hn1, _⟩ := own_form O1; have hb1 := hb.below B1)
    | (refine wpl_app rfl (.tmp 8) (.tmp 9) rfl w1 w.heap.size (.slice A1 V1.length c1) V1 (by rfl) O1 A n c b (by rfl) hn hb1 hA (by omega) B1.size ?_; intro v2 w2 AP; rw [← HL2.out] at AP; have B2 := Lib.hid (B1.grown AP.2.1 B1.size (fun g e => (World.ownsRow.lt O1 g e).1)); have O2 := Lib.hid AP.1; obtain ⟨A2, c2, rfl, hc2, _, _, _⟩ := own_form AP.1; have hcv := conv_any w2 A n c b hn (hb.below B2.out); clear AP)
    | (go_at_call 57; (with_reducible refine (cs _).mono ?_); rintro e w' ⟨rfl, rfl⟩)
    | (go_at_call 56; (refine (cbig _).mono ?_); rintro e w3 ⟨v3, rfl, O3, B3⟩; obtain ⟨A3, c3, rfl, hc3, hC3, hn3, _⟩ := own_form O3; have O4 := own_mv O2.out (F := []) (Mv.of_below B3) (fun g _ => by simp); have B4 := below_on B2.out B3)
    | (refine wpl_app rfl (.tmp 11) (.tmp 15) rfl w3 w.heap.size (.slice A2 L2.length c2) L2 (by rfl) O4 A3 G.length c3 G (by rfl) rfl hC3 hn3 (by omega) B4.size ?_; intro v4 w4 AP4))
  go_ret
  exact ⟨v4, rfl, by rw [← HE.out]; exact AP4.1, B4.grown AP4.2.1 B4.size (fun g e => (World.ownsRow.lt O4 g e).1)⟩

/-! ### Next -/
theorem rnext_out (A : Option Addr) (n c : Nat) (t : Int) (hN : n ≤ 1000000) (h : ¬ (0 ≤ t ∧ t ≤ (n : Int))) (w : World) :
    Calls Try.prog 39 #[.slice A n c, .int .i64 t] w fun e w' => e = .returned (.tuple #[.slice none 0 0, .int .i64 0, .int .i64 2]) ∧ w = w' := by
  by_cases h0 : t < 0
  · clear h
    go_enter Try.func39, Try.ntmps39
    go_wp2_with fail
    go_ret3
    exact ⟨rfl, rfl⟩
  · have h1 : (n : Int) < t := by omega
    clear h
    go_enter Try.func39, Try.ntmps39
    go_wp2_with fail
    go_ret3
    exact ⟨rfl, rfl⟩
/-- what Next answers at an offset in its bounds -/
def NxP (w : World) (k : Nat) (Z : List UInt8 × Nat × Nat) (e : Ending) (w' : World) : Prop :=
  ∃ v, e = .returned (.tuple #[v, .int .i64 ((if Z.2.2 = 0 then k + Z.2.1 else 0 : Nat) : Int), .int .i64 (Z.2.2 : Int)]) ∧ OwB w' w.heap.size v Z.1 ∧ Below w.heap.size w w'
theorem nxp_no {w : World} {k E : Nat} (h : E ≠ 0) : NxP w k ([], 0, E) (.returned (.tuple #[.slice none 0 0, .int .i64 0, .int .i64 (E : Int)])) w :=
  ⟨.slice none 0 0, by simp [h], own_nil _ _, Below.refl _ _⟩
set_option maxRecDepth 10000 in
set_option maxHeartbeats 1000000 in
theorem rnext_err (A : Option Addr) (n c k : Nat) (b : List UInt8) (hn : b.length = n) (hk : k ≤ n) (hN : n ≤ 1000000) (he : (tr (b.drop k)).2.2 ≠ 0) (w : World) (hb : Cb w A b) :
    Calls Try.prog 39 #[.slice A n c, .int .i64 (k : Int)] w (NxP w k (nx (b.drop k))) := by
  have hz := tk_err 10 (b.drop k) he
  have hle : (tr (b.drop k)).2.2 ≤ 28 := tk_err_le 10 (b.drop k)
  have hx : nx (b.drop k) = ([], 0, (tr (b.drop k)).2.2) := if_pos he
  rw [hx]
  have ct := fun w h => rtake_any A n c k b (Lib.hid hn) hk (by omega) 0 0 (tr (b.drop k)).2.2 (Lib.hid ⟨hz.1.symm, by rw [if_neg he], rfl⟩) w h
  generalize (tr (b.drop k)).2.2 = E at *
  have t : ((E : Int) != 0) = true := by simp; omega
  have HF := Lib.hid (nxp_no (w := w) (k := k) he)
  have hk' : ¬ (n : Int) < (k : Int) := by omega
  clear hz hx hle
  go_enter Try.func39, Try.ntmps39
  go_wp2_with (go_at_call 51; (with_reducible refine (ct _ hb).mono ?_); rintro e w' ⟨rfl, rfl⟩)
  go_ret3
  exact HF.out
set_option maxRecDepth 10000 in
set_option maxHeartbeats 1000000 in
theorem rnext_short (A : Option Addr) (n c k : Nat) (b : List UInt8) (hn : b.length = n) (hk : k ≤ n) (hN : n ≤ 1000000) (he : (tr (b.drop k)).2.2 = 0) (hs : (b.drop k).length < (tr (b.drop k)).2.1 + (tr (b.drop k)).1 + 8) (w : World) (hb : Cb w A b) :
    Calls Try.prog 39 #[.slice A n c, .int .i64 (k : Int)] w (NxP w k (nx (b.drop k))) := by
  have hx : nx (b.drop k) = ([], 0, 28) := by unfold nx; rw [if_neg (fun h => h he), if_pos hs]
  rw [hx]
  have hV := (vr_tr he).2.2
  have hm := tr_len (b.drop k)
  rw [List.length_drop, hn] at hs hm
  have ct := fun w h => rtake_any A n c k b (Lib.hid hn) hk (by omega) (tr (b.drop k)).1 (k + (tr (b.drop k)).2.1) 0 (Lib.hid ⟨rfl, by rw [if_pos he], he.symm⟩) w h
  generalize (tr (b.drop k)).1 = V at *
  generalize (tr (b.drop k)).2.1 = m at *
  obtain ⟨f, hf⟩ : ∃ f, f = k + m := ⟨_, rfl⟩
  rw [← hf] at ct
  have hV' : V < 18446744073709551616 := hV
  have HF := Lib.hid (nxp_no (w := w) (k := k) (E := 28) (by omega))
  have hk' : ¬ (n : Int) < (k : Int) := by omega
  have hfn : f ≤ n := by omega
  by_cases h8 : n - f < 8
  · have t : (n : Int) - (f : Int) < 8 := by omega
    clear hx hs hm hf
    go_enter Try.func39, Try.ntmps39
    go_wp2_with (go_at_call 51; (with_reducible refine (ct _ hb).mono ?_); rintro e w' ⟨rfl, rfl⟩)
    go_ret3
    exact HF.out
  · have t : ¬ (n : Int) - (f : Int) < 8 := by omega
    have t2 : (n : Int) - (f : Int) - 8 < (V : Int) := by omega
    have e1 : IntKind.u64.wrap ((n : Int) - (f : Int) - 8) = (n : Int) - (f : Int) - 8 := by rw [IntKind.wrap_u64]; omega
    clear hx hs hm hf
    go_enter Try.func39, Try.ntmps39
    go_wp2_with (go_at_call 51; (with_reducible refine (ct _ hb).mono ?_); rintro e w' ⟨rfl, rfl⟩)
    go_ret3
    exact HF.out

set_option maxRecDepth 10000 in
set_option maxHeartbeats 2000000 in
theorem rnext_full (A : Option Addr) (n c k : Nat) (b : List UInt8) (hn : b.length = n) (hk : k ≤ n) (hnc : n ≤ c) (hN : n ≤ 1000000) (he : (tr (b.drop k)).2.2 = 0) (hs : ¬ (b.drop k).length < (tr (b.drop k)).2.1 + (tr (b.drop k)).1 + 8) (w : World) (hb : Cb w A b) :
    Calls Try.prog 39 #[.slice A n c, .int .i64 (k : Int)] w (NxP w k (nx (b.drop k))) := by
  have hx : nx (b.drop k) = if (((b.drop k).drop ((tr (b.drop k)).2.1 + (tr (b.drop k)).1)).take 8 == dg (((b.drop k).drop (tr (b.drop k)).2.1).take (tr (b.drop k)).1)) = false then ([], 0, 27) else (((b.drop k).drop (tr (b.drop k)).2.1).take (tr (b.drop k)).1, (tr (b.drop k)).2.1 + (tr (b.drop k)).1 + 8, 0) := by
    unfold nx; rw [if_neg (fun h => h he), if_neg hs]
  rw [hx]
  have hm := tr_len (b.drop k)
  rw [List.length_drop, hn] at hs hm
  have ct := fun w h => rtake_any A n c k b (Lib.hid hn) hk (by omega) (tr (b.drop k)).1 (k + (tr (b.drop k)).2.1) 0 (Lib.hid ⟨rfl, by rw [if_pos he], he.symm⟩) w h
  clear hx
  generalize (tr (b.drop k)).1 = V at *
  generalize (tr (b.drop k)).2.1 = m at *
  rw [List.drop_drop, List.drop_drop, ← Nat.add_assoc]
  obtain ⟨f, hf⟩ : ∃ f, f = k + m := ⟨_, rfl⟩
  rw [← hf] at ct ⊢
  obtain ⟨t, ht⟩ : ∃ t, t = f + V := ⟨_, rfl⟩
  rw [← ht]
  have hk' : ¬ (n : Int) < (k : Int) := by omega
  have t1 : ¬ (n : Int) - (f : Int) < 8 := by omega
  have t2 : ¬ (n : Int) - (f : Int) - 8 < (V : Int) := by omega
  have e1 : IntKind.u64.wrap ((n : Int) - (f : Int) - 8) = (n : Int) - (f : Int) - 8 := by rw [IntKind.wrap_u64]; omega
  have e2 : IntKind.i64.wrap (V : Int) = (V : Int) := IntWalk.i64_in _ (by omega)
  have e3 : (f : Int) + (V : Int) = (t : Int) := by omega
  obtain ⟨t8, ht8⟩ : ∃ t8, t8 = t + 8 := ⟨_, rfl⟩
  have e4 : (t : Int) + 8 = (t8 : Int) := by omega
  have b8 : t8 ≤ 1000000 := by omega
  have e5 : IntKind.i64.wrap (t8 : Int) = (t8 : Int) := IntWalk.i64_in _ (by omega)
  obtain ⟨A1, c1, hsl1, hcb1, _⟩ := sub_any A n c t t8 b hn (by omega) (by omega) hnc
  obtain ⟨A2, c2, hsl2, hcb2, hA2⟩ := sub_any A n c f t b hn (by omega) (by omega) hnc
  have hA2' : A2 = none → c2 = 0 := fun e => by
    have ha := hA2 e
    subst ha
    obtain ⟨_, _, e', _⟩ := hb (by omega)
    cases e'
  clear hA2
  rw [show t8 - t = 8 by omega] at hsl1 hcb1
  rw [show t - f = V by omega] at hsl2 hcb2
  obtain ⟨X8, hX8⟩ : ∃ X, X = (b.drop t).take 8 := ⟨_, rfl⟩
  obtain ⟨X, hX⟩ : ∃ X, X = (b.drop f).take V := ⟨_, rfl⟩
  rw [← hX8, ← hX]
  rw [← hX8] at hcb1
  rw [← hX] at hcb2
  have l8 : X8.length = 8 := by rw [hX8, List.length_take, List.length_drop]; omega
  have lX : X.length = V := by rw [hX, List.length_take, List.length_drop]; omega
  have hcv2 := conv_any w.drew A2 V c2 X lX (hcb2 _ (hb.drewN 1))
  have hcv1 := conv_any w.drew A1 8 c1 X8 l8 (hcb1 _ (hb.drewN 1))
  have cs := fun w => dgA.rsum_any ⟨X.toArray⟩ (sm s0 X) (Lib.hid (by simp)) (by show X.toArray.size ≤ _; simp; omega) w
  have cbig := rbig_any (sm s0 X) (sm_lt s0_lt X)
  have hM : (if (0 : Nat) = 0 then k + (m + V + 8) else 0) = t8 := by rw [if_pos rfl]; omega
  have HP : Hid (∀ v w', OwB w' w.heap.size v X → Below w.heap.size w w' → NxP w k (X, m + V + 8, 0) (.returned (.tuple #[v, .int .i64 (t8 : Int), .int .i64 0])) w') := Lib.hid fun v w' ho hb' => ⟨v, by show _ = Ending.returned (.tuple #[v, .int .i64 ((if (0 : Nat) = 0 then k + (m + V + 8) else 0 : Nat) : Int), .int .i64 ((0 : Nat) : Int)]); rw [hM]; rfl, ho, hb'⟩
  have HQ : Hid (∀ w', Below w.heap.size w w' → NxP w k ([], 0, 27) (.returned (.tuple #[.slice none 0 0, .int .i64 0, .int .i64 27])) w') := Lib.hid fun w' hb' => ⟨.slice none 0 0, rfl, own_nil _ _, hb'⟩
  have HD : Hid (dg X = bg (sm s0 X)) := Lib.hid rfl
  have hG := bg_len (sm s0 X)
  rw [HD.out]
  clear HD hM he hs hm hX8 hX hf ht ht8
  generalize bg (sm s0 X) = G at *
  generalize sm s0 X = z at *
  by_cases hq : X8 = G
  · rw [hq] at hcb1 l8 hcv1 ⊢
    clear hq l8
    rw [if_neg (by simp)]
    go_enter Try.func39, Try.ntmps39
    go_upto_region 10 with (go_at_call 51; (with_reducible refine (ct _ hb).mono ?_); rintro e w' ⟨rfl, rfl⟩)
    go_region_with (first
      | (go_at_call 57; (with_reducible refine (cs _).mono ?_); rintro e w' ⟨rfl, rfl⟩)
      | (go_at_call 56; (refine (cbig _).mono ?_); rintro e w3 ⟨v3, rfl, O3, B0⟩; have B3 := of_drew B0; obtain ⟨A3, c3, rfl, hc3, hC3, hn3, _⟩ := own_form O3; have hcv3 := conv_any w3 A3 8 c3 G hG hC3; have hcv4 := conv_any w3 A1 8 c1 G hG (hcb1 _ (hb.below B3))))
    all_goals
      have hOe := own_empty2 w3 w.heap.size B3.size
      have hbX : Cb (w3.alloc (.cells #[] 5)) A2 X := hcb2 _ ((hb.below B3).below ((Below.refl _ _).alloc (Nat.le_refl _) _))
      have B5 : Below w.heap.size w (w3.alloc (.cells #[] 5)) := B3.alloc B3.size _
      clear hcv1 hcv2 hcv3 hcv4 hcb1 hcb2 cs cbig hsl1
      go_wp2_with (refine wpl_app rfl (.tmp 62) (.tmp 66) rfl _ w.heap.size (.slice (some ⟨w3.heap.size, 0, none⟩) 0 0) [] (by rfl) hOe A2 V c2 X (by rfl) lX hbX hA2' (by simp; omega) B5.size ?_; intro v5 w5 AP)
      go_ret3
      exact HP.out v5 w5 AP.1 (B5.grown AP.2.1 B5.size (fun g e => (World.ownsRow.lt hOe g e).1))
  · have hne : (X8 == G) = false := by simpa using hq
    rw [if_pos hne]
    clear hq
    go_enter Try.func39, Try.ntmps39
    go_upto_region 10 with (go_at_call 51; (with_reducible refine (ct _ hb).mono ?_); rintro e w' ⟨rfl, rfl⟩)
    go_region_with (first
      | (go_at_call 57; (with_reducible refine (cs _).mono ?_); rintro e w' ⟨rfl, rfl⟩)
      | (go_at_call 56; (refine (cbig _).mono ?_); rintro e w3 ⟨v3, rfl, O3, B0⟩; have B3 := of_drew B0; obtain ⟨A3, c3, rfl, hc3, hC3, hn3, _⟩ := own_form O3; have hcv3 := conv_any w3 A3 8 c3 G hG hC3; have hcv4 := conv_any w3 A1 8 c1 X8 l8 (hcb1 _ (hb.below B3))))
    all_goals
      clear hcv1 hcv2 hcv3 hcv4 hcb1 hcb2 cs cbig hsl1
      go_wp2_with fail
      go_ret3
      exact HQ.out w3 B3

theorem rnext_in (A : Option Addr) (n c k : Nat) (b : List UInt8) (hn : b.length = n) (hk : k ≤ n) (hnc : n ≤ c) (hN : n ≤ 1000000) (w : World) (hb : Cb w A b) :
    Calls Try.prog 39 #[.slice A n c, .int .i64 (k : Int)] w (NxP w k (nx (b.drop k))) := by
  by_cases he : (tr (b.drop k)).2.2 = 0
  · by_cases hs : (b.drop k).length < (tr (b.drop k)).2.1 + (tr (b.drop k)).1 + 8
    · exact rnext_short A n c k b hn hk hN he hs w hb
    · exact rnext_full A n c k b hn hk hnc hN he hs w hb
  · exact rnext_err A n c k b hn hk hN he w hb
end Go.Proofs.Ytpmmddemeiljjaa.wrG

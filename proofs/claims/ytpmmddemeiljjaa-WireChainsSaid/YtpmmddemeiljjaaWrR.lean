/-
  The law WireReads, over any reader that keeps the record of contracts, beside the reference's.
-/
import Derived.Test.YtpmmddemeiljjaaWrY
import Derived.Test.YtpmmddemeiljjaaWrZ
import Derived.Deep.RegionHeld3
namespace Go.Proofs.Ytpmmddemeiljjaa.wrR
open Go.RowKit
open Go.Proofs.Ytpmmddemeiljjaa.dgM Go.Proofs.Ytpmmddemeiljjaa.wrM Go.Proofs.Ytpmmddemeiljjaa.wrO Go.Proofs.Ytpmmddemeiljjaa.wrA Go.Proofs.Ytpmmddemeiljjaa.wrB Go.Proofs.Ytpmmddemeiljjaa.wrC Go.Proofs.Ytpmmddemeiljjaa.wrE Go.Proofs.Ytpmmddemeiljjaa.wrH Go.Proofs.Ytpmmddemeiljjaa.wrQ Go.Proofs.Ytpmmddemeiljjaa.wrL Go.Proofs.Ytpmmddemeiljjaa.wrW Go.Proofs.Ytpmmddemeiljjaa.wrY Go.Proofs.Ytpmmddemeiljjaa.wrZ
set_option linter.unusedVariables false

/-! ### a list that is read is not longer than what there was -/
theorem rN_len : ∀ (k : Nat) (S : Rs), (rN k S).1.length ≤ S.left
  | 0, S => Nat.zero_le _
  | k + 1, S => by
    rw [rN]
    split
    · exact Nat.zero_le _
    · rename_i x r e
      cases S with
      | bad q => exact absurd (congrArg Prod.snd e) (by simp [rI, rU_bad])
      | ok l =>
        have h := wrF.rI_short e
        have h2 := rN_len k (.ok r)
        split
        · rename_i xs r2 e2
          rw [e2] at h2
          have h3 : xs.length ≤ r.length := h2
          show (x :: xs).length ≤ l.length
          rw [List.length_cons]; omega
        · exact Nat.zero_le _
theorem rL_len (m : Int) (S : Rs) : (rL m S).1.length ≤ S.left := by
  have h := left_rZ m S
  unfold rL
  split
  · rename_i n r e
    rw [e] at h
    exact Nat.le_trans (rN_len n (.ok r)) h
  · exact Nat.zero_le _
set_option maxRecDepth 10000 in
set_option maxHeartbeats 2000000 in
theorem reads_in (P : PWr) (Q : PRd) (H : PFr) (A : Option Addr) (cb : Nat) (b : List UInt8) (B : Option Addr) (n c : Nat) (xs : List Ak) (hb : b.length ≤ 20000) (hc : b.length ≤ cb) (hA : A = none → cb = 0) (hn : Hid (xs.length = n)) (hN : n ≤ 200) (w : World) (hC : Cb w A b) (hI : Aks w B xs) :
    Calls Try.prog 4 #[.slice A b.length cb, .slice B n c] w fun e w' => e = .returned (.bool true) ∧ Below w.heap.size w w' := by
  have c1 := fun w h => Q.new A cb b (by omega) hc hA w h
  have c2 := fun w h => refR.new A cb b (by omega) hc hA w h
  obtain ⟨L, hL⟩ : ∃ L, L = b.length := ⟨_, rfl⟩
  obtain ⟨S, hS⟩ : ∃ S, S = Rs.ok b := ⟨_, rfl⟩
  have hSl : S.left ≤ 20000 := by rw [hS]; exact hb
  rw [← hL] at c1 c2 ⊢
  rw [← hS] at c1 c2
  have t1 : ¬ (20000 : Int) < (L : Int) := by omega
  have t2 : ¬ (200 : Int) < (n : Int) := by omega
  clear hb hc hA hL hS
  go_enter Try.func4, Try.ntmps4
  go_wp2_with (first
    | (go_at_call 22; (refine (c1 _ hC).mono ?_); rintro e w1 ⟨r, F1, rfl, O1, B1, G1⟩; have hC1 := hC.below B1)
    | (go_at_call 23; (refine (c2 _ hC1).mono ?_); rintro e w2 ⟨v, F2, rfl, O2, B2, G2⟩; have D2 := Duo.start (kpr Q) O1 B1 G1 B2 O2 G2))
  go_loopw [26] (fun s26 wr => ∃ (k : Nat) (F G : List Nat) (T : Rs), k ≤ n ∧ s26 = .int .i64 (k : Int) ∧ T.left ≤ 20000 ∧ Hid (Duo Q.O refR.O w wr r F v G T T)) (fun s26 _ => n - (intOf s26).toNat)
  case atStart => exact ⟨0, F1, F2, S, Nat.zero_le _, rfl, hSl, Lib.hid D2⟩
  case round =>
    obtain ⟨k, F, G, T, hk, rfl, hTl, D⟩ := hrel
    by_cases hlt : k < n
    · have hk2 : k < xs.length := by rw [hn.out]; exact hlt
      obtain ⟨b0, off0, rfl, hx0⟩ := hI.at_ (k := k) hk2
      have i0 : (0 : Int) ≤ (k : Int) := by omega
      have i1 : (k : Int) < (n : Int) := by omega
      generalize xs[k] = x at *
      have hx1 : AkAt wr b0 (off0 + k * 2) x := hx0.below D.out.b
      obtain ⟨h0, h1, h2, h3⟩ := hx1
      by_cases k1 : x.kind = 1
      · have t3 : (x.kind == 1) = true := by simpa using k1
        obtain ⟨V, T2, hv⟩ : ∃ V T2, rI T = (V, T2) := ⟨_, _, rfl⟩
        have hT2 : T2.left ≤ 20000 := by
          have := left_rI T
          rw [hv] at this; exact Nat.le_trans this hTl
        have d1 := fun F w h => Q.left r F T2 (by omega) w h
        have d2 := fun F w h => refR.left v F T2 (by omega) w h
        have d3 := fun F w h => Q.err r F T2 w h
        have d4 := fun F w h => refR.err v F T2 w h
        have q1 := fun F w h => Q.int r F T (by omega) w h
        have q2 := fun F w h => refR.int v F T (by omega) w h
        rw [hv] at q1 q2
        have D0 := D.out
        clear hv hx0 h2 h3
        go_wp2_with (first
            | (go_at_call 24; (refine (q1 _ _ D0.q).mono ?_); rintro e w5 ⟨rfl, F5, O5, M5, N5⟩; have D5 := D0.s1 kprr O5 M5 N5)
            | (go_at_call 25; (refine (q2 _ _ D5.p).mono ?_); rintro e w6 ⟨rfl, G6, O6, M6, N6⟩; have D6 := D5.s2 (kpr Q) O6 M6 N6)
            | (go_at_call 33; (refine (d1 _ _ D6.q).mono ?_); rintro e w7 ⟨rfl, F7, O7, M7, N7⟩; have D7 := D6.s1 kprr O7 M7 N7)
            | (go_at_call 34; (refine (d2 _ _ D7.p).mono ?_); rintro e w8 ⟨rfl, G8, O8, M8, N8⟩; have D8 := D7.s2 (kpr Q) O8 M8 N8)
            | (go_at_call 35; (refine (d3 _ _ D8.q).mono ?_); rintro e w9 ⟨rfl, F9, O9, M9, N9⟩; have D9 := D8.s1 kprr O9 M9 N9)
            | (go_at_call 36; (refine (d4 _ _ D9.p).mono ?_); rintro e w10 ⟨rfl, G10, O10, M10, N10⟩; have D10 := D9.s2 (kpr Q) O10 M10 N10))
        go_roundw
        case rel => exact ⟨k + 1, F9, G10, T2, by omega, by go_num, hT2, Lib.hid D10⟩
        case measure => simp [intOf]; omega
      have t3 : (x.kind == 1) = false := by simpa using k1
      by_cases k2 : x.kind = 2
      · have t4 : (x.kind == 2) = true := by simpa using k2
        clear k1
        obtain ⟨V, T2, hv⟩ : ∃ V T2, rU T = (V, T2) := ⟨_, _, rfl⟩
        have hT2 : T2.left ≤ 20000 := by
          have := left_rU T
          rw [hv] at this; exact Nat.le_trans this hTl
        have d1 := fun F w h => Q.left r F T2 (by omega) w h
        have d2 := fun F w h => refR.left v F T2 (by omega) w h
        have d3 := fun F w h => Q.err r F T2 w h
        have d4 := fun F w h => refR.err v F T2 w h
        have q1 := fun F w h => Q.uint r F T (by omega) w h
        have q2 := fun F w h => refR.uint v F T (by omega) w h
        rw [hv] at q1 q2
        have D0 := D.out
        clear hv hx0 h2 h3
        go_wp2_with (first
            | (go_at_call 26; (refine (q1 _ _ D0.q).mono ?_); rintro e w5 ⟨rfl, F5, O5, M5, N5⟩; have D5 := D0.s1 kprr O5 M5 N5)
            | (go_at_call 27; (refine (q2 _ _ D5.p).mono ?_); rintro e w6 ⟨rfl, G6, O6, M6, N6⟩; have D6 := D5.s2 (kpr Q) O6 M6 N6)
            | (go_at_call 33; (refine (d1 _ _ D6.q).mono ?_); rintro e w7 ⟨rfl, F7, O7, M7, N7⟩; have D7 := D6.s1 kprr O7 M7 N7)
            | (go_at_call 34; (refine (d2 _ _ D7.p).mono ?_); rintro e w8 ⟨rfl, G8, O8, M8, N8⟩; have D8 := D7.s2 (kpr Q) O8 M8 N8)
            | (go_at_call 35; (refine (d3 _ _ D8.q).mono ?_); rintro e w9 ⟨rfl, F9, O9, M9, N9⟩; have D9 := D8.s1 kprr O9 M9 N9)
            | (go_at_call 36; (refine (d4 _ _ D9.p).mono ?_); rintro e w10 ⟨rfl, G10, O10, M10, N10⟩; have D10 := D9.s2 (kpr Q) O10 M10 N10))
        go_roundw
        case rel => exact ⟨k + 1, F9, G10, T2, by omega, by go_num, hT2, Lib.hid D10⟩
        case measure => simp [intOf]; omega
      have t4 : (x.kind == 2) = false := by simpa using k2
      by_cases k3 : x.kind = 3
      · have t5 : (x.kind == 3) = true := by simpa using k3
        clear k1 k2
        obtain ⟨V, T2, hv⟩ : ∃ V T2, rT x.most T = (V, T2) := ⟨_, _, rfl⟩
        have hT2 : T2.left ≤ 20000 := by
          have := left_rT x.most T
          rw [hv] at this; exact Nat.le_trans this hTl
        have d1 := fun F w h => Q.left r F T2 (by omega) w h
        have d2 := fun F w h => refR.left v F T2 (by omega) w h
        have d3 := fun F w h => Q.err r F T2 w h
        have d4 := fun F w h => refR.err v F T2 w h
        have q1 := fun F w h => Q.text x.most h3.1 h3.2 r F T (by omega) w h
        have q2 := fun F w h => refR.text x.most h3.1 h3.2 v F T (by omega) w h
        rw [hv] at q1 q2
        have D0 : Duo Q.O refR.O w wr.drew r F v G T T := D.out.drawn (kpr Q) kprr ⟨1, rfl⟩
        have h4 := (hx0.below D0.b).2.1
        have hk5 : ∀ W, Below w.heap.size w W → W.cell? ⟨b0, off0 + k * 2 + 1, none⟩ = some (.int .i64 x.most) := fun W h => (hx0.below h).2.1
        have hxd : AkAt wr b0 (off0 + k * 2) x := hx0.below D.out.b
        obtain ⟨h0, h1, h2, h3⟩ := hxd
        clear hv hx0
        go_upto_region 18 with fail
        go_region_held3 (fun w' => w'.cell? ⟨b0, off0 + k * 2 + 1, none⟩ = some (.int .i64 x.most)) (go_keep)
          (first
            | (go_at_call 28; (with_reducible refine (q1 _ _ D0.q).mono ?_); rintro e w5 ⟨rfl, F5, O5, M5, N5⟩; have D5 := D0.s1 kprr O5 M5 N5; have h5 := hk5 _ D5.b)
            | (go_at_call 29; (with_reducible refine (q2 _ _ D5.p).mono ?_); rintro e w6 ⟨rfl, G6, O6, M6, N6⟩; have D6 := D5.s2 (kpr Q) O6 M6 N6; have h6 := hk5 _ D6.b)
            | fail)
        all_goals
         go_wp2_with (first
            | (go_at_call 33; (refine (d1 _ _ D6.q).mono ?_); rintro e w7 ⟨rfl, F7, O7, M7, N7⟩; have D7 := D6.s1 kprr O7 M7 N7)
            | (go_at_call 34; (refine (d2 _ _ D7.p).mono ?_); rintro e w8 ⟨rfl, G8, O8, M8, N8⟩; have D8 := D7.s2 (kpr Q) O8 M8 N8)
            | (go_at_call 35; (refine (d3 _ _ D8.q).mono ?_); rintro e w9 ⟨rfl, F9, O9, M9, N9⟩; have D9 := D8.s1 kprr O9 M9 N9)
            | (go_at_call 36; (refine (d4 _ _ D9.p).mono ?_); rintro e w10 ⟨rfl, G10, O10, M10, N10⟩; have D10 := D9.s2 (kpr Q) O10 M10 N10))
         go_roundw
         case rel => exact ⟨k + 1, F9, G10, T2, by omega, by go_num, hT2, Lib.hid D10⟩
         case measure => simp [intOf]; omega
      have t5 : (x.kind == 3) = false := by simpa using k3
      clear k1 k2 k3
      obtain ⟨V, T2, hv⟩ : ∃ V T2, rL x.most T = (V, T2) := ⟨_, _, rfl⟩
      have hT2 : T2.left ≤ 20000 := by
        have := left_rL x.most T
        rw [hv] at this; exact Nat.le_trans this hTl
      have hVl : V.length ≤ 20000 := by
        have := rL_len x.most T
        rw [hv] at this; exact Nat.le_trans this hTl
      have d1 := fun F w h => Q.left r F T2 (by omega) w h
      have d2 := fun F w h => refR.left v F T2 (by omega) w h
      have d3 := fun F w h => Q.err r F T2 w h
      have d4 := fun F w h => refR.err v F T2 w h
      have q1 := fun F w h => Q.ints x.most h3.1 h3.2 r F T (by omega) w h
      have q2 := fun F w h => refR.ints x.most h3.1 h3.2 v F T (by omega) w h
      rw [hv] at q1 q2
      have D0 : Duo Q.O refR.O w wr.drew r F v G T T := D.out.drawn (kpr Q) kprr ⟨1, rfl⟩
      have h4 := (hx0.below D0.b).2.1
      have hk5 : ∀ W, Below w.heap.size w W → W.cell? ⟨b0, off0 + k * 2 + 1, none⟩ = some (.int .i64 x.most) := fun W h => (hx0.below h).2.1
      have hxd : AkAt wr b0 (off0 + k * 2) x := hx0.below D.out.b
      obtain ⟨h0, h1, h2, h3⟩ := hxd
      clear hv hx0
      go_upto_region 12 with fail
      go_region_held3 (fun w' => w'.cell? ⟨b0, off0 + k * 2 + 1, none⟩ = some (.int .i64 x.most)) (go_keep)
        (first
          | (go_at_call 31; (with_reducible refine (q1 _ _ D0.q).mono ?_); rintro e w5 ⟨A5, n5, c5, F5, rfl, C5, l5, hc5, hn5, hA5, O5, M5, N5⟩; have D5 := D0.s1 kprr O5 M5 N5; have h5 := hk5 _ D5.b)
          | (go_at_call 32; (with_reducible refine (q2 _ _ D5.p).mono ?_); rintro e w6 ⟨A6, n6, c6, G6, rfl, C6, l6, hc6, hn6, hA6, O6, M6, N6⟩; have D6' := D5.s2 (kpr Q) O6 M6 N6; have h6 := hk5 _ D6'.b; have C5' := Ci.mv C5 M6 (fun hp b off e hg => absurd ((hn5 hp b off e).1) (Nat.not_le.2 (kprr.lt D0.p b hg))); subst l5; subst l6)
          | (go_at_call 30; (with_reducible refine (same_any A5 A6 V.length V.length c5 c6 V V (Lib.hid rfl) (Lib.hid rfl) (by omega) (by omega) true (Lib.hid (by simp)) w6 C5' C6).mono ?_); rintro e w6b ⟨rfl, hdr⟩; have D6 := D6'.drawn (kpr Q) kprr hdr; have h6b := hk5 _ D6.b)
          | fail)
      all_goals
       go_wp2_with (first
          | (go_at_call 33; (refine (d1 _ _ D6.q).mono ?_); rintro e w7 ⟨rfl, F7, O7, M7, N7⟩; have D7 := D6.s1 kprr O7 M7 N7)
          | (go_at_call 34; (refine (d2 _ _ D7.p).mono ?_); rintro e w8 ⟨rfl, G8, O8, M8, N8⟩; have D8 := D7.s2 (kpr Q) O8 M8 N8)
          | (go_at_call 35; (refine (d3 _ _ D8.q).mono ?_); rintro e w9 ⟨rfl, F9, O9, M9, N9⟩; have D9 := D8.s1 kprr O9 M9 N9)
          | (go_at_call 36; (refine (d4 _ _ D9.p).mono ?_); rintro e w10 ⟨rfl, G10, O10, M10, N10⟩; have D10 := D9.s2 (kpr Q) O10 M10 N10))
       go_roundw
       case rel => exact ⟨k + 1, F9, G10, T2, by omega, by go_num, hT2, Lib.hid D10⟩
       case measure => simp [intOf]; omega
    · obtain rfl : k = n := by omega
      have D0 := D.out
      go_wp2_with (go_at_call 12; (refine (awake_any P Q H _).mono ?_); rintro e w6 ⟨rfl, B6⟩)
      go_ret
      exact ⟨rfl, below_on D0.b B6⟩
theorem reads (P : PWr) (Q : PRd) (H : PFr) (A : Option Addr) (m cb : Nat) (b : List UInt8) (B : Option Addr) (n c : Nat) (xs : List Ak) (hm : b.length = m) (hM : m ≤ 9223372036854775807) (hc : m ≤ cb) (hA : A = none → cb = 0) (hn : Hid (xs.length = n)) (hN : n ≤ 9223372036854775807) (w : World) (hC : Cb w A b) (hI : Aks w B xs) :
    Calls Try.prog 4 #[.slice A m cb, .slice B n c] w fun e w' => e = .returned (.bool true) ∧ Below w.heap.size w w' := by
  by_cases h : m ≤ 20000
  · by_cases h2 : n ≤ 200
    · subst hm
      exact reads_in P Q H A cb b B n c xs h hc hA hn h2 w hC hI
    · have t1 : ¬ (20000 : Int) < (m : Int) := by omega
      have t2 : (200 : Int) < (n : Int) := by omega
      clear hm hc h h2
      go_enter Try.func4, Try.ntmps4
      go_wp2_with (go_at_call 12; (refine (awake_any P Q H _).mono ?_); rintro e w6 ⟨rfl, B6⟩)
      go_ret
      exact ⟨rfl, B6⟩
  · have t1 : (20000 : Int) < (m : Int) := by omega
    clear hm hc h
    go_enter Try.func4, Try.ntmps4
    go_wp2_with (go_at_call 12; (refine (awake_any P Q H _).mono ?_); rintro e w6 ⟨rfl, B6⟩)
    go_ret
    exact ⟨rfl, B6⟩
end Go.Proofs.Ytpmmddemeiljjaa.wrR

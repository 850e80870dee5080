/-
  The law StreamSamples.
-/
import Derived.Test.YtikhhceoonfhcaaDoorStS
namespace Go.Proofs.YtikhhceoonfhcaaDoor.stT
open Go.RowKit
open Go.Proofs.YtikhhceoonfhcaaDoor.dgM Go.Proofs.YtikhhceoonfhcaaDoor.dgA Go.Proofs.YtikhhceoonfhcaaDoor.dgB Go.Proofs.YtikhhceoonfhcaaDoor.stM Go.Proofs.YtikhhceoonfhcaaDoor.stA Go.Proofs.YtikhhceoonfhcaaDoor.stB Go.Proofs.YtikhhceoonfhcaaDoor.stC Go.Proofs.YtikhhceoonfhcaaDoor.stD Go.Proofs.YtikhhceoonfhcaaDoor.stE Go.Proofs.YtikhhceoonfhcaaDoor.stL Go.Proofs.YtikhhceoonfhcaaDoor.stS
set_option linter.unusedVariables false

/-- a list that has been answered, its length named ahead -/
def Lsn (w : World) (p a k : Nat) (X : List Int) (N E : Nat) (e : Ending) (w' : World) : Prop :=
  ∃ A c, e = .returned (.tuple #[.slice A N c, .int .i64 (E : Int)]) ∧ N ≤ c ∧ Ci w' A X ∧ (∀ b off, A = some ⟨b, off, none⟩ → w.heap.size ≤ b) ∧ Lv w' p a k ∧ Mv w [p] w'
theorem lst_n {w : World} {p a k : Nat} {X : List Int} {N E : Nat} {e : Ending} {w' : World} (hN : X.length = N) (h : Lst w p a k X E e w') : Lsn w p a k X N E e w' := by
  obtain ⟨A, n, c, he, hn, r⟩ := h
  obtain rfl : n = N := by rw [← hn, hN]
  exact ⟨A, c, he, r⟩
set_option maxRecDepth 10000 in
set_option maxHeartbeats 2000000 in
theorem samples_no (a : Nat) (n k l : Int) (ho : n < 0 ∨ 4096 < n ∨ k < 0 ∨ n < k ∨ l < 0 ∨ k < l) (w : World) (hR : Rnd w) :
    Calls Tryd.prog 7 #[.int .u64 (a : Int), .int .i64 n, .int .i64 k, .int .i64 l] w fun e w' => e = .returned (.bool true) ∧ Below w.heap.size w w' := by
  have two : Hid (n < 0 ∨ ¬ n < 0 ∧ 4096 < n ∨ ¬ n < 0 ∧ ¬ 4096 < n ∧ k < 0 ∨ ¬ n < 0 ∧ ¬ 4096 < n ∧ ¬ k < 0 ∧ n < k ∨ ¬ n < 0 ∧ ¬ 4096 < n ∧ ¬ k < 0 ∧ ¬ n < k ∧ l < 0 ∨ ¬ n < 0 ∧ ¬ 4096 < n ∧ ¬ k < 0 ∧ ¬ n < k ∧ ¬ l < 0 ∧ k < l) := Lib.hid (by omega)
  clear ho
  rcases two.out with h1 | ⟨h1, h2⟩ | ⟨h1, h2, h3⟩ | ⟨h1, h2, h3, h4⟩ | ⟨h1, h2, h3, h4, h5⟩ | ⟨h1, h2, h3, h4, h5, h6⟩
  all_goals
    clear two
    go_enter Tryd.func7, Tryd.ntmps7
    go_wp2_with (go_at_call 10; (refine (lives_any _ hR).mono ?_); rintro e w9 ⟨rfl, M9⟩)
    go_ret
    exact ⟨rfl, mv_below M9⟩
set_option maxRecDepth 10000 in
set_option maxHeartbeats 4000000 in
theorem samples_in (a : Nat) (n k l : Nat) (h1 : n ≤ 4096) (h2 : k ≤ n) (h3 : l ≤ k) (ha : a < A64) (w : World) (hR : Rnd w) :
    Calls Tryd.prog 7 #[.int .u64 (a : Int), .int .i64 (n : Int), .int .i64 (k : Int), .int .i64 (l : Int)] w fun e w' => e = .returned (.bool true) ∧ Below w.heap.size w w' := by
  have d1 : ¬ ((n : Int) < 0) := by omega
  have d2 : ¬ (4096 < (n : Int)) := by omega
  have d3 : ¬ ((k : Int) < 0) := by omega
  have d4 : ¬ ((n : Int) < (k : Int)) := by omega
  have d5 : ¬ ((l : Int) < 0) := by omega
  have d6 : ¬ ((k : Int) < (l : Int)) := by omega
  obtain ⟨B, hB⟩ : ∃ B, B = bl a := ⟨_, rfl⟩
  have hbl := bl_bl a
  rw [← hB] at hbl
  have er := smR_err hbl (n := n) (c := k) 0 h2
  have fr := smR_err hbl (n := n) (c := l) 0 (by omega)
  have ok1 := smR_ok hbl (n := n) (c := k) (k := 0) h2
  have ok2 := smR_ok hbl (n := n) (c := l) (k := 0) (by omega)
  have ls := smR_less hbl (n := n) (c := k) (l := l) (k := 0) h2 h3
  cases hb : smR B n k 0 with
  | mk X r =>
  obtain ⟨E, k1⟩ := r
  cases hd : smR B n l 0 with
  | mk Z r =>
  obtain ⟨F, k2⟩ := r
  rw [hb] at er ok1 ls
  rw [hd] at fr ok2 ls
  simp only at er fr ok1 ok2 ls
  have c1 := fun p w h => samp_any B n k h1 h2 p a 0 E k1 X ha (Lib.hid hB) (Lib.hid hb) w h
  have c2 := fun p w h => samp_any B n l h1 (by omega) p a 0 F k2 Z ha (Lib.hid hB) (Lib.hid hd) w h
  have OK1 := Lib.hid ok1
  have OK2 := Lib.hid ok2
  have LS := Lib.hid ls
  clear hb hd hB hbl ok1 ok2 ls
  by_cases both : E = 0 ∧ F = 0
  · obtain ⟨rfl, rfl⟩ := both
    obtain ⟨lX, nd, bd⟩ := OK1.out rfl
    obtain ⟨lZ, _, _⟩ := OK2.out rfl
    have pre := LS.out rfl rfl
    have HG := Lib.hid (Good.mk nd bd)
    have HX := Lib.hid lX
    have HP := Lib.hid pre
    have HZ := Lib.hid lZ
    clear OK1 OK2 LS nd bd pre er fr lX lZ
    obtain ⟨m, hm⟩ : ∃ m, m = n + 1 := ⟨_, rfl⟩
    have hmk := fun W' => (run_make_row' (P := Tryd.prog) 44 4 (.bool false) 1 Tryd.underlying44 infoT rfl .i64 .i64 m (by omega) (by omega) W')
    rw [made_bools] at hmk
    have e1 : (n : Int) + 1 = (m : Int) := by omega
    have hm0 : (0 : Int) ≤ (m : Int) := by omega
    have t0 : ((k : Int) != (k : Int)) = false := by simp
    have t1 : ((l : Int) != (l : Int)) = false := by simp
    have HM := Lib.hid hm
    have hm4 : m ≤ 4097 := by omega
    have c1' : ∀ p w, Lv w p a 0 → Calls Tryd.prog 22 #[.pointer (some ⟨p, 0, none⟩), .int .i64 (n : Int), .int .i64 (k : Int)] w (Lst w p a k1 X 0) := c1
    have c2' : ∀ p w, Lv w p a 0 → Calls Tryd.prog 22 #[.pointer (some ⟨p, 0, none⟩), .int .i64 (n : Int), .int .i64 (l : Int)] w (Lst w p a k2 Z 0) := c2
    clear hm c1 c2
    go_enter Tryd.func7, Tryd.ntmps7
    go_upto_region 4 with (first
      | (go_at_call 11; (refine (new_any a _ hR).mono ?_); rintro e w1 ⟨p, rfl, L1, g1, M1⟩)
      | (go_at_call 22; (with_reducible refine (c1' _ _ L1).mono ?_); rintro e w2 r2; (obtain ⟨A, c, rfl, hc, hI, hA, L2, M2⟩ := lst_n HX.out r2); have MM := Lib.hid (M1.on M2 (fun k hk => (by simp at hk; omega))); have hA' := Lib.hid hA; clear r2 M1 M2 hA))
    go_wp2_with (first
      | (go_at_call 11; (refine (new_any a _ L2.rnd).mono ?_); rintro e w3 ⟨q, rfl, L3, g3, M3⟩)
      | (go_at_call 22; (with_reducible refine (c2' _ _ L3).mono ?_); rintro e w4 r4; (obtain ⟨A4, c4, rfl, hc4, hJ, hA4, L4, M4⟩ := lst_n HZ.out r4); clear r4 hA4))
    have hI4 := hI.mv (M3.on M4 (fun k hk => by (simp at hk; omega))) (fun b off e => by simp)
    have MM4 := Lib.hid (show Mv w [] w4 from (MM.out.on' M3).on M4 (fun k hk => by (have := MM.out.size; simp at hk; omega)))
    clear hI M3 M4 L2 L3
    obtain ⟨w5, hw5⟩ : ∃ w5, w4.alloc (Obj.cells (Array.replicate m (Value.bool false)) 4) = w5 := ⟨_, rfl⟩
    have r0 : RowT w5 w4.heap.size (sn n X 0) := by
      rw [← hw5, sn_zero, ← HM.out]
      have e : (cT (List.replicate m false)).toArray = Array.replicate m (Value.bool false) := by simp
      unfold RowT
      rw [e]
      exact heap_alloc_new w4 _
    have M5 := Lib.hid (show Mv w4 [] w5 by rw [← hw5]; exact (Mv.refl w4 []).alloc _)
    have R0 := Lib.hid r0
    rw [hw5]
    clear hw5 hmk r0
    obtain ⟨g, hg⟩ : ∃ g, w4.heap.size = g := ⟨_, rfl⟩
    have HGe := Lib.hid hg
    rw [hg] at R0 ⊢
    clear hg
    have HL4 := Lib.hid L4
    clear L4
    go_loopw [14] (fun s14 wr => ∃ i : Nat, i ≤ k ∧ s14 = .int .i64 (i : Int) ∧ Hid (RowT wr g (sn n X i)) ∧ Hid (Mv w4 [] wr)) (fun s14 _ => k - (intOf s14).toNat)
    case atStart => exact ⟨0, Nat.zero_le _, rfl, R0, M5⟩
    case round =>
      obtain ⟨i, hi, rfl, HR, HW⟩ := hrel
      by_cases hlt : i < k
      · have hiX : i < X.length := by rw [HX.out]; exact hlt
        obtain ⟨b, off, rfl, hx0⟩ := hI4.at_ hiX
        obtain ⟨Y, hY, y1, y2⟩ := HG.out.at_ hiX
        have hbl : b < w4.heap.size := World.block_lt_of_cell? w4 _ hx0
        have hx : wr.cell? ⟨b, off + i, none⟩ = some (.int .i64 (Y : Int)) := by
          rw [World.cell?_of_block (w := w4) (HW.out.block hbl (by simp)), hx0, hY]
        have c1 := rowt_cell HR.out (sn_new HG.out.nd hiX y2 hY)
        have q1 := fun d => rowt_free (w := wr.drewN d) HR.out Y
        have q2 := rowt_free HR.out Y
        have hgb : g ≠ b := by have := HGe.out; omega
        have i0 : (0 : Int) ≤ (i : Int) := by omega
        have i1 : (i : Int) < (k : Int) := by omega
        have i2 : (0 : Int) ≤ (Y : Int) := by omega
        have i3 : (Y : Int) < (m : Int) := by have := HM.out; omega
        have f1 : decide ((Y : Int) < 1) = false := decide_eq_false (by omega)
        have f2 : decide ((n : Int) < (Y : Int)) = false := decide_eq_false (by omega)
        have f3 : decide (n < Y) = false := decide_eq_false (by omega)
        have f4 : ((Y : Int) != (Y : Int)) = false := by simp
        have hi1 : i + 1 ≤ k := hlt
        have HS : Hid (∀ d, RowT ((wr.drewN d).setCell ⟨g, Y, none⟩ (.bool true)) g (sn n X (i + 1)) ∧ Mv w4 [] ((wr.drewN d).setCell ⟨g, Y, none⟩ (.bool true))) := Lib.hid fun d => ⟨by rw [← sn_set hiX y2 hY]; exact rowt_set (w := wr.drewN d) HR.out _ _, (HW.out.drew d).set (.inr (by have := HGe.out; omega)) _ _⟩
        by_cases hl : i < l
        · have hiZ : i < Z.length := by rw [HZ.out]; exact hl
          obtain ⟨b2, off2, rfl, hz0⟩ := hJ.at_ hiZ
          have hb2 : b2 < w4.heap.size := World.block_lt_of_cell? w4 _ hz0
          have hz : wr.cell? ⟨b2, off2 + i, none⟩ = some (.int .i64 (Y : Int)) := by
            rw [World.cell?_of_block (w := w4) (HW.out.block hb2 (by simp)), hz0, ← HP.out, iat_take hl, hY]
          have hg2 : g ≠ b2 := by have := HGe.out; omega
          have f5 : decide ((i : Int) < (l : Int)) = true := decide_eq_true (by omega)
          have f6 : decide (i < l) = true := decide_eq_true (by omega)
          have f7 : (i : Int) < (l : Int) := by omega
          clear hx0 hY hiX y1 y2 hbl hz0 hiZ hb2
          go_wp2_with fail
          go_quiet (fail)
          go_wp2_with fail
          go_roundw
          case rel => exact ⟨i + 1, hi1, by go_num, Lib.hid (HS.out _).1, Lib.hid (HS.out _).2⟩
          case measure => simp [intOf]; omega
        · have f5 : decide ((i : Int) < (l : Int)) = false := decide_eq_false (by omega)
          have f6 : decide (i < l) = false := decide_eq_false (by omega)
          clear hx0 hY hiX y1 y2 hbl
          go_wp2_with fail
          go_quiet (fail)
          go_wp2_with fail
          go_roundw
          case rel => exact ⟨i + 1, hi1, by go_num, Lib.hid (HS.out _).1, Lib.hid (HS.out _).2⟩
          case measure => simp [intOf]; omega
      · obtain rfl : i = k := by omega
        go_wp2_with (go_at_call 10; (refine (lives_any _ (rnd_mv HL4.out.rnd HW.out (by simp))).mono ?_); rintro e w9 ⟨rfl, M9⟩)
        go_ret
        exact ⟨rfl, mv_below ((MM4.out.on' HW.out).on' M9)⟩
  · have no : Hid (E = 11 ∨ E = 0 ∧ F = 11) := Lib.hid (by omega)
    clear er fr both OK1 OK2 LS
    obtain ⟨N1, hN1⟩ : ∃ N1, X.length = N1 := ⟨_, rfl⟩
    obtain ⟨N2, hN2⟩ : ∃ N2, Z.length = N2 := ⟨_, rfl⟩
    have HX := Lib.hid hN1
    have HZ := Lib.hid hN2
    clear hN1 hN2
    have c1' : ∀ E0, E = E0 → ∀ p w, Lv w p a 0 → Calls Tryd.prog 22 #[.pointer (some ⟨p, 0, none⟩), .int .i64 (n : Int), .int .i64 (k : Int)] w (Lst w p a k1 X E0) := fun E0 e => e ▸ c1
    have c2' : ∀ E0, F = E0 → ∀ p w, Lv w p a 0 → Calls Tryd.prog 22 #[.pointer (some ⟨p, 0, none⟩), .int .i64 (n : Int), .int .i64 (l : Int)] w (Lst w p a k2 Z E0) := fun E0 e => e ▸ c2
    rcases no.out with e11 | ⟨e0, f11⟩
    · have c1 := c1' 11 e11
      clear c1' c2' e11 no
      go_enter Tryd.func7, Tryd.ntmps7
      go_upto_region 4 with (first
        | (go_at_call 11; (refine (new_any a _ hR).mono ?_); rintro e w1 ⟨p, rfl, L1, g1, M1⟩)
        | (go_at_call 22; (with_reducible refine (c1 _ _ L1).mono ?_); rintro e w2 r2; (obtain ⟨A, c, rfl, hc, hI, hA, L2, M2⟩ := lst_n HX.out r2); have MM := Lib.hid (M1.on M2 (fun k hk => (by simp at hk; omega))); clear r2 M1 M2 hA hI))
      go_wp2_with (first
        | (go_at_call 11; (refine (new_any a _ L2.rnd).mono ?_); rintro e w3 ⟨q, rfl, L3, g3, M3⟩)
        | (go_at_call 22; (with_reducible refine (c2 _ _ L3).mono ?_); rintro e w4 r4; (obtain ⟨A4, c4, rfl, hc4, hJ, hA4, L4, M4⟩ := lst_n HZ.out r4); clear r4 hA4 hJ)
        | (go_at_call 10; (refine (lives_any _ L4.rnd).mono ?_); rintro e w9 ⟨rfl, M9⟩))
      go_ret
      exact ⟨rfl, mv_below (((MM.out.on' M3).on M4 (fun k hk => by (have := MM.out.size; simp at hk; omega))).on' M9)⟩
    · have c1 := c1' 0 e0
      have c2 := c2' 11 f11
      clear c1' c2' e0 f11 no
      go_enter Tryd.func7, Tryd.ntmps7
      go_upto_region 4 with (first
        | (go_at_call 11; (refine (new_any a _ hR).mono ?_); rintro e w1 ⟨p, rfl, L1, g1, M1⟩)
        | (go_at_call 22; (with_reducible refine (c1 _ _ L1).mono ?_); rintro e w2 r2; (obtain ⟨A, c, rfl, hc, hI, hA, L2, M2⟩ := lst_n HX.out r2); have MM := Lib.hid (M1.on M2 (fun k hk => (by simp at hk; omega))); clear r2 M1 M2 hA hI))
      go_wp2_with (first
        | (go_at_call 11; (refine (new_any a _ L2.rnd).mono ?_); rintro e w3 ⟨q, rfl, L3, g3, M3⟩)
        | (go_at_call 22; (with_reducible refine (c2 _ _ L3).mono ?_); rintro e w4 r4; (obtain ⟨A4, c4, rfl, hc4, hJ, hA4, L4, M4⟩ := lst_n HZ.out r4); clear r4 hA4 hJ)
        | (go_at_call 10; (refine (lives_any _ L4.rnd).mono ?_); rintro e w9 ⟨rfl, M9⟩))
      go_ret
      exact ⟨rfl, mv_below (((MM.out.on' M3).on M4 (fun k hk => by (have := MM.out.size; simp at hk; omega))).on' M9)⟩
theorem samples (a : Nat) (n k l : Int) (ha : a < A64) (w : World) (hR : Rnd w) :
    Calls Tryd.prog 7 #[.int .u64 (a : Int), .int .i64 n, .int .i64 k, .int .i64 l] w fun e w' => e = .returned (.bool true) ∧ Below w.heap.size w w' := by
  by_cases ho : n < 0 ∨ 4096 < n ∨ k < 0 ∨ n < k ∨ l < 0 ∨ k < l
  · exact samples_no a n k l ho w hR
  · obtain ⟨n', rfl⟩ := Int.eq_ofNat_of_zero_le (show 0 ≤ n by omega)
    obtain ⟨k', rfl⟩ := Int.eq_ofNat_of_zero_le (show 0 ≤ k by omega)
    obtain ⟨l', rfl⟩ := Int.eq_ofNat_of_zero_le (show 0 ≤ l by omega)
    exact samples_in a n' k' l' (by omega) (by omega) (by omega) ha w hR
end Go.Proofs.YtikhhceoonfhcaaDoor.stT

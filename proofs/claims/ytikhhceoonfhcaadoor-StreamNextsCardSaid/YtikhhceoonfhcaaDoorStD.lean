/-
  Contracts of the program's shuffle, Shuffle, sample, Sample.
-/
import Derived.Test.YtikhhceoonfhcaaDoorStC
namespace Go.Proofs.YtikhhceoonfhcaaDoor.stD
open Go.RowKit
open Go.Proofs.YtikhhceoonfhcaaDoor.dgM Go.Proofs.YtikhhceoonfhcaaDoor.dgA Go.Proofs.YtikhhceoonfhcaaDoor.dgB Go.Proofs.YtikhhceoonfhcaaDoor.stM Go.Proofs.YtikhhceoonfhcaaDoor.stA Go.Proofs.YtikhhceoonfhcaaDoor.stB Go.Proofs.YtikhhceoonfhcaaDoor.stC
set_option linter.unusedVariables false

/-- a step that answers a list and an error -/
def Lst (w : World) (p a k : Nat) (X : List Int) (E : Nat) (e : Ending) (w' : World) : Prop :=
  ∃ A n c, e = .returned (.tuple #[.slice A n c, .int .i64 (E : Int)]) ∧ X.length = n ∧ n ≤ c ∧ Ci w' A X ∧ (∀ b off, A = some ⟨b, off, none⟩ → w.heap.size ≤ b) ∧ Lv w' p a k ∧ Mv w [p] w'
theorem lst_nil {w w' : World} {p a k E : Nat} (hL : Lv w' p a k) (hM : Mv w [p] w') : Lst w p a k [] E (.returned (.tuple #[.slice none 0 0, .int .i64 (E : Int)])) w' :=
  ⟨none, 0, 0, rfl, rfl, Nat.le_refl _, Ci.nil _ _, fun b off e => absurd e (by simp), hL, hM⟩
theorem mv_back {w w1 : World} {p G : Nat} (h : Mv w [p, G] w1) (hG : w.heap.size ≤ G) : Mv w [p] w1 := h.sub fun k hk => by
  simp at hk ⊢
  omega
set_option maxRecDepth 10000 in
set_option maxHeartbeats 2000000 in
theorem shuffle_any (B : Nat → Nat → Nat × Nat × Nat) (n : Nat) (hn : n ≤ 4096) (p a k E k' : Nat) (X : List Int) (ha : a < A64) (hB : Hid (B = bl a)) (hX : Hid (shR B n k = (X, E, k'))) (w : World) (hL : Lv w p a k) :
    Calls Tryd.prog 30 #[.int .i64 (n : Int), .func (.func 18) #[.pointer (some ⟨p, 0, none⟩)] #[]] w (Lst w p a k' X E) := by
  have cn := numbers_any n hn p w hL.lt
  have hg := rnd_lt hL.rnd
  unfold shR at hX
  rcases Nat.eq_zero_or_pos n with h0 | h0
  · subst h0
    obtain ⟨rfl, rfl, rfl⟩ : [] = X ∧ 0 = E ∧ k = k' := by
      have h : (([], 0, k) : List Int × Nat × Nat) = (X, E, k') := hX.out
      simp only [Prod.mk.injEq] at h
      exact h
    clear hX
    go_enter Tryd.func30, Tryd.ntmps30
    go_wp2_with (go_at_call 33; (refine cn.mono ?_); rintro e w1 ⟨bc, bl', G, rfl, H1, hG, M1⟩)
    have HF : Hid (Lst w p a k [] 0 (.returned (.tuple #[.slice (some ⟨G, 0, none⟩) 0 0, .int .i64 0])) w1) := Lib.hid ⟨some ⟨G, 0, none⟩, 0, 0, rfl, rfl, Nat.le_refl _, Ci.nil _ _, fun b off e => by (injection e with e; injection e with e1 e2; omega), hL.on M1, M1.sub (by simp)⟩
    clear H1 hL
    go_loopw [8] (fun s8 wr => s8 = .int .i64 (-1) ∧ wr = w1) (fun s8 _ => 0)
    case atStart => exact ⟨rfl, rfl⟩
    case round =>
      obtain ⟨rfl, rfl⟩ := hrel
      go_wp2_with fail
      go_ret2
      exact HF.out
  · obtain ⟨m, hm⟩ : ∃ m, n = m + 1 := ⟨n - 1, by omega⟩
    have e1 : (n : Int) - 1 = (m : Int) := by omega
    have HS : Hid (shf B m (up n) k = (X, E, k')) := Lib.hid (by rw [← hX.out, hm]; rfl)
    have HM := Lib.hid hm
    have hm2 : m ≤ 4095 := by omega
    clear hX hm
    go_enter Tryd.func30, Tryd.ntmps30
    go_wp2_with (go_at_call 33; (refine cn.mono ?_); rintro e w1 ⟨bc, bl', G, rfl, H1, hG, M1⟩)
    have HL1 := Lib.hid (hL.on M1)
    have HH1 := Lib.hid H1
    have HM1 := Lib.hid (show Mv w [p] w1 from M1.sub (by simp))
    clear H1 hL M1 cn
    go_loopw [8] (fun s8 wr => ∃ (i j : Nat) (L : List Int), i ≤ m ∧ s8 = .int .i64 (i : Int) ∧ Hid (Lv wr p a j) ∧ Hid (Hold wr p bc bl' G n L) ∧ Hid (Mv w [p] wr) ∧ Hid (shf B i L j = (X, E, k'))) (fun s8 _ => (intOf s8).toNat)
    case atStart => exact ⟨m, k, up n, Nat.le_refl _, rfl, HL1, HH1, HM1, HS⟩
    case round =>
      obtain ⟨i, j, L, hi, rfl, HL, HH, HW, HT⟩ := hrel
      by_cases hi0 : i = 0
      · subst hi0
        have ht := HT.out
        simp only [shf, Prod.mk.injEq] at ht
        obtain ⟨rfl, rfl, rfl⟩ := ht
        have HF : Hid (Lst w p a j L 0 (.returned (.tuple #[.slice (some ⟨G, 0, none⟩) n n, .int .i64 0])) wr) := Lib.hid ⟨some ⟨G, 0, none⟩, n, n, rfl, HH.out.len, Nat.le_refl _, row_ci HH.out.r, fun b off e => by (injection e with e; injection e with e1 e2; omega), HL.out, HW.out⟩
        clear HT HS
        go_wp2_with fail
        go_ret2
        exact HF.out
      · obtain ⟨q, hq⟩ : ∃ q, i = q + 1 := ⟨i - 1, by omega⟩
        have hHm := HM.out
        obtain ⟨s, hs⟩ : ∃ s, s = i + 1 := ⟨_, rfl⟩
        have e2 : (i : Int) + 1 = (s : Int) := by omega
        have e3 : (i : Int) - 1 = (q : Int) := by omega
        have t1 : (1 : Int) ≤ (i : Int) := by omega
        have hs0 : 0 < s := by omega
        have hs1 : s ≤ n := by omega
        have hin : i < n := by omega
        have hgG : G ≠ 0 := by omega
        cases hb : B s j with
        | mk V r =>
        obtain ⟨E1, k1⟩ := r
        have hb' : bl a s j = (V, E1, k1) := by rw [← hB.out]; exact hb
        have hT := HT.out
        have hse : s = q + 2 := by omega
        by_cases hE : E1 = 0
        · subst hE
          have cx : ∀ w, Lv w p a j → Hold w p bc bl' G n L → Calls Tryd.prog 34 #[.int .i64 (i : Int), .int .i64 0, .int .i64 (s : Int), .pointer (some ⟨bc, 0, none⟩), .pointer (some ⟨bl', 0, none⟩)] w (Xst w p a k1 bc bl' G n (sw L i (0 + V))) :=
            fun w hL hH => exch_ok i 0 s s (by omega) hs0 (by omega) p a j V k1 ha (Lib.hid hb') bc bl' G n L w hL hH hin hs1 (by omega) hgG
          rw [hq, shf_ok (by rw [← hse]; exact hb), ← hq] at hT
          have HT2 : Hid (shf B q (sw L i (0 + V)) k1 = (X, E, k')) := Lib.hid (by rw [Nat.zero_add]; exact hT)
          have hqm : q ≤ m := by omega
          have hqi : q < i := by omega
          have hgs : w.heap.size ≤ G := hG
          clear HT hT hb hb' hse hs hq hHm hi0
          generalize sw L i (0 + V) = L2 at *
          go_wp2_with (go_at_call 34; (refine (cx _ HL.out HH.out).mono ?_); rintro e w2 ⟨rfl, L2', H2, M2⟩)
          go_roundw
          case rel => exact ⟨q, k1, L2, hqm, rfl, Lib.hid L2', Lib.hid H2, Lib.hid (HW.out.on M2 (by simp; omega)), HT2⟩
          case measure => simp [intOf]; omega
        · have cx : ∀ w, Lv w p a j → Hold w p bc bl' G n L → Calls Tryd.prog 34 #[.int .i64 (i : Int), .int .i64 0, .int .i64 (s : Int), .pointer (some ⟨bc, 0, none⟩), .pointer (some ⟨bl', 0, none⟩)] w (Nst w p a k1 (.int .i64 (E1 : Int))) :=
            fun w hL hH => exch_bad i 0 s s (by omega) hs0 (by omega) p a j V E1 k1 ha (Lib.hid hb') hE bc bl' G n L w hL hH (by omega) (by omega)
          rw [hq, shf_bad (by rw [← hse]; exact hb) hE] at hT
          simp only [Prod.mk.injEq] at hT
          obtain ⟨rfl, rfl, rfl⟩ := hT
          have t2 : ((E1 : Int) != 0) = true := by simp; omega
          clear HT hb hb' hse hs hq hHm hi0
          go_wp2_with (go_at_call 34; (refine (cx _ HL.out HH.out).mono ?_); rintro e w2 ⟨rfl, L2', M2⟩)
          go_ret2
          exact lst_nil L2' (HW.out.on' M2)

/-! ### Shuffle -/
set_option maxRecDepth 10000 in
theorem shuf_any (B : Nat → Nat → Nat × Nat × Nat) (n : Nat) (hn : n ≤ 4096) (p a k E k' : Nat) (X : List Int) (ha : a < A64) (hB : Hid (B = bl a)) (hX : Hid (shR B n k = (X, E, k'))) (w : World) (hL : Lv w p a k) :
    Calls Tryd.prog 20 #[.pointer (some ⟨p, 0, none⟩), .int .i64 (n : Int)] w (Lst w p a k' X E) := by
  have cs := fun w h => shuffle_any B n hn p a k E k' X ha hB hX w h
  have t1 : ¬ ((n : Int) < 0) := by omega
  have t2 : ¬ (4096 < (n : Int)) := by omega
  have hmf : ∀ (fn : Fn) (first cap : Array Value) (w : World), (Instr.makeFunc fn first cap).run Tryd.prog w = .ok (.func fn first cap) w := fun _ _ _ _ => rfl
  go_enter Tryd.func20, Tryd.ntmps20
  go_wp2_with (go_at_call 30; (refine (cs _ hL).mono ?_); rintro e w1 ⟨A, m, c, rfl, r⟩)
  go_ret2
  exact ⟨A, m, c, rfl, r⟩
set_option maxRecDepth 10000 in
theorem shuf_out (n : Int) (hn : n < 0 ∨ 4096 < n) (p : Nat) (w : World) :
    Calls Tryd.prog 20 #[.pointer (some ⟨p, 0, none⟩), .int .i64 n] w fun e w' => e = .returned (.tuple #[.slice none 0 0, .int .i64 2]) ∧ w = w' := by
  by_cases h : n < 0
  · clear hn
    go_enter Tryd.func20, Tryd.ntmps20
    go_wp2_with fail
    go_ret2
    exact ⟨rfl, rfl⟩
  · have h2 : 4096 < n := by omega
    clear hn
    go_enter Tryd.func20, Tryd.ntmps20
    go_wp2_with fail
    go_ret2
    exact ⟨rfl, rfl⟩
theorem shuf_nil (n : Int) (w : World) :
    Calls Tryd.prog 20 #[.pointer none, .int .i64 n] w fun e w' => e = .returned (.tuple #[.slice none 0 0, .int .i64 5]) ∧ w = w' := by
  go_enter Tryd.func20, Tryd.ntmps20
  go_wp2_with fail
  go_ret2
  exact ⟨rfl, rfl⟩

/-! ### sample -/
/-- the first c places of a slice, with and without a capacity -/
theorem add_zero (b off : Nat) : (⟨b, off, none⟩ : Addr).add 0 = ⟨b, off, none⟩ := by
  unfold Addr.add; split <;> simp_all
theorem info_size : (Tryd.prog.info? 3).map (·.size) = some 1 := by kernel_rfl
theorem size_run (W : World) : (Go.sizeOf 3).run Tryd.prog W = .ok 1 W := by
  obtain ⟨i, hi, h1⟩ := Option.map_eq_some_iff.1 info_size
  simp [Go.sizeOf, typeInfo, hi, h1]
set_option maxRecDepth 10000 in
set_option maxHeartbeats 2000000 in
theorem sample_any (B : Nat → Nat → Nat × Nat × Nat) (n c : Nat) (hn : n ≤ 4096) (hc : c ≤ n) (p a k E k' : Nat) (X : List Int) (ha : a < A64) (hB : Hid (B = bl a)) (hX : Hid (smR B n c k = (X, E, k'))) (w : World) (hL : Lv w p a k) :
    Calls Tryd.prog 31 #[.int .i64 (n : Int), .int .i64 (c : Int), .func (.func 18) #[.pointer (some ⟨p, 0, none⟩)] #[]] w (Lst w p a k' X E) := by
  have cn := numbers_any n hn p w hL.lt
  have hg := rnd_lt hL.rnd
  have HS : Hid (∃ Y, smf B n c 0 (up n) k = (Y, E, k') ∧ X = Y.take c) := Lib.hid (by
    have h := hX.out
    unfold smR at h
    obtain ⟨h1, h2⟩ := Prod.mk.inj h
    exact ⟨_, Prod.ext rfl h2, h1.symm⟩)
  clear hX
  obtain ⟨Y, HS0, rfl⟩ := HS.out
  clear HS
  have HS := Lib.hid HS0
  clear HS0
  have hsl : ∀ G W, (Instr.slice 39 (.slice (some ⟨G, 0, none⟩) n n) none (some (.int .i64 (c : Int))) (some (.int .i64 (c : Int)))).run Tryd.prog W = .ok (.slice (some ⟨G, 0, none⟩) c c) W := fun G W => by
    have ht' : Tryd.prog.underlying 39 = some (.slice (Tryd.prog.elem 39)) := by simp [Program.elem, Tryd.underlying39]
    have he : Tryd.prog.elem 39 = 3 := by simp [Program.elem, Tryd.underlying39]
    rw [run_slice_hm W 39 (some ⟨G, 0, none⟩) n n ht' .i64 .i64 _ _ (by omega) (by omega) (by omega), he, size_run]
    simp [Result.andThen, sliced, add_zero]
  go_enter Tryd.func31, Tryd.ntmps31
  go_wp2_with (go_at_call 33; (refine cn.mono ?_); rintro e w1 ⟨bc, bl', G, rfl, H1, hG, M1⟩)
  have HL1 := Lib.hid (hL.on M1)
  have HH1 := Lib.hid H1
  have HM1 := Lib.hid (show Mv w [p] w1 from M1.sub (by simp))
  have hslG := hsl G
  clear H1 hL M1 cn hsl
  go_loopw [19] (fun s19 wr => ∃ (i j : Nat) (L : List Int), i ≤ c ∧ s19 = .int .i64 (i : Int) ∧ Hid (Lv wr p a j) ∧ Hid (Hold wr p bc bl' G n L) ∧ Hid (Mv w [p] wr) ∧ Hid (smf B n (c - i) i L j = (Y, E, k'))) (fun s19 _ => c - (intOf s19).toNat)
  case atStart => exact ⟨0, k, up n, Nat.zero_le _, rfl, HL1, HH1, HM1, HS⟩
  case round =>
    obtain ⟨i, j, L, hi, rfl, HL, HH, HW, HT⟩ := hrel
    by_cases hlt : i < c
    · obtain ⟨m, hm⟩ : ∃ m, m = n - i := ⟨_, rfl⟩
      have hm0 : 0 < m := by omega
      have hmn : i + m = n := by omega
      have hin : i < n := by omega
      have hgG : G ≠ 0 := by omega
      have t1 : (i : Int) < (c : Int) := by omega
      cases hb : B m j with
      | mk V r =>
      obtain ⟨E1, k1⟩ := r
      have hb' : bl a m j = (V, E1, k1) := by rw [← hB.out]; exact hb
      have hT := HT.out
      rw [show c - i = (c - (i + 1)) + 1 by omega] at hT
      by_cases hE : E1 = 0
      · subst hE
        have cx : ∀ w, Lv w p a j → Hold w p bc bl' G n L → Calls Tryd.prog 34 #[.int .i64 (i : Int), .int .i64 (i : Int), .int .i64 (n : Int), .pointer (some ⟨bc, 0, none⟩), .pointer (some ⟨bl', 0, none⟩)] w (Xst w p a k1 bc bl' G n (sw L i (i + V))) :=
          fun w hL hH => exch_ok i i n m hmn hm0 (by omega) p a j V k1 ha (Lib.hid hb') bc bl' G n L w hL hH hin (Nat.le_refl _) (by omega) hgG
        rw [smf_ok (by rw [← hm]; exact hb)] at hT
        have HT2 : Hid (smf B n (c - (i + 1)) (i + 1) (sw L i (i + V)) k1 = (Y, E, k')) := Lib.hid hT
        have hi1 : i + 1 ≤ c := hlt
        clear HT hT hb hb' hm hmn HS
        generalize sw L i (i + V) = L2 at *
        go_wp2_with (go_at_call 34; (refine (cx _ HL.out HH.out).mono ?_); rintro e w2 ⟨rfl, L2', H2, M2⟩)
        go_roundw
        case rel => exact ⟨i + 1, k1, L2, hi1, by go_num, Lib.hid L2', Lib.hid H2, Lib.hid (HW.out.on M2 (by simp; omega)), HT2⟩
        case measure => simp [intOf]; omega
      · have cx : ∀ w, Lv w p a j → Hold w p bc bl' G n L → Calls Tryd.prog 34 #[.int .i64 (i : Int), .int .i64 (i : Int), .int .i64 (n : Int), .pointer (some ⟨bc, 0, none⟩), .pointer (some ⟨bl', 0, none⟩)] w (Nst w p a k1 (.int .i64 (E1 : Int))) :=
          fun w hL hH => exch_bad i i n m hmn hm0 (by omega) p a j V E1 k1 ha (Lib.hid hb') hE bc bl' G n L w hL hH (by omega) (by omega)
        rw [smf_bad (by rw [← hm]; exact hb) hE] at hT
        simp only [Prod.mk.injEq] at hT
        obtain ⟨rfl, rfl, rfl⟩ := hT
        have t2 : ((E1 : Int) != 0) = true := by simp; omega
        clear HT hb hb' hm hmn HS
        go_wp2_with (go_at_call 34; (refine (cx _ HL.out HH.out).mono ?_); rintro e w2 ⟨rfl, L2', M2⟩)
        go_ret2
        rw [List.take_nil]
        exact lst_nil L2' (HW.out.on' M2)
    · have ht := HT.out
      rw [show c - i = 0 by omega] at ht
      simp only [smf, Prod.mk.injEq] at ht
      obtain ⟨rfl, rfl, rfl⟩ := ht
      have hic : i = c := by omega
      have HF : Hid (Lst w p a j (L.take c) 0 (.returned (.tuple #[.slice (some ⟨G, 0, none⟩) c c, .int .i64 0])) wr) := Lib.hid ⟨some ⟨G, 0, none⟩, c, c, rfl, by rw [List.length_take, HH.out.len]; omega, Nat.le_refl _, (row_ci HH.out.r).take c, fun b off e => by (injection e with e; injection e with e1 e2; omega), HL.out, HW.out⟩
      have t1 : ¬ (i : Int) < (c : Int) := by omega
      clear HT HS hic
      go_wp2_with fail
      go_ret2
      exact HF.out
set_option maxRecDepth 10000 in
theorem samp_any (B : Nat → Nat → Nat × Nat × Nat) (n c : Nat) (hn : n ≤ 4096) (hc : c ≤ n) (p a k E k' : Nat) (X : List Int) (ha : a < A64) (hB : Hid (B = bl a)) (hX : Hid (smR B n c k = (X, E, k'))) (w : World) (hL : Lv w p a k) :
    Calls Tryd.prog 22 #[.pointer (some ⟨p, 0, none⟩), .int .i64 (n : Int), .int .i64 (c : Int)] w (Lst w p a k' X E) := by
  have cs := fun w h => sample_any B n c hn hc p a k E k' X ha hB hX w h
  have t1 : ¬ ((n : Int) < 0) := by omega
  have t2 : ¬ (4096 < (n : Int)) := by omega
  have t3 : ¬ ((c : Int) < 0) := by omega
  have t4 : ¬ ((n : Int) < (c : Int)) := by omega
  have hmf : ∀ (fn : Fn) (first cap : Array Value) (w : World), (Instr.makeFunc fn first cap).run Tryd.prog w = .ok (.func fn first cap) w := fun _ _ _ _ => rfl
  go_enter Tryd.func22, Tryd.ntmps22
  go_wp2_with (go_at_call 31; (refine (cs _ hL).mono ?_); rintro e w1 ⟨A, m, c, rfl, r⟩)
  go_ret2
  exact ⟨A, m, _, rfl, r⟩
set_option maxRecDepth 10000 in
theorem samp_out (n c : Int) (hn : n < 0 ∨ 4096 < n ∨ c < 0 ∨ n < c) (p : Nat) (w : World) :
    Calls Tryd.prog 22 #[.pointer (some ⟨p, 0, none⟩), .int .i64 n, .int .i64 c] w fun e w' => e = .returned (.tuple #[.slice none 0 0, .int .i64 2]) ∧ w = w' := by
  by_cases h : n < 0
  · clear hn
    go_enter Tryd.func22, Tryd.ntmps22
    go_wp2_with fail
    go_ret2
    exact ⟨rfl, rfl⟩
  by_cases h2 : 4096 < n
  · clear hn
    go_enter Tryd.func22, Tryd.ntmps22
    go_wp2_with fail
    go_ret2
    exact ⟨rfl, rfl⟩
  by_cases h3 : c < 0
  · clear hn
    go_enter Tryd.func22, Tryd.ntmps22
    go_wp2_with fail
    go_ret2
    exact ⟨rfl, rfl⟩
  · have h4 : n < c := by omega
    clear hn
    go_enter Tryd.func22, Tryd.ntmps22
    go_wp2_with fail
    go_ret2
    exact ⟨rfl, rfl⟩
theorem samp_nil (n c : Int) (w : World) :
    Calls Tryd.prog 22 #[.pointer none, .int .i64 n, .int .i64 c] w fun e w' => e = .returned (.tuple #[.slice none 0 0, .int .i64 5]) ∧ w = w' := by
  go_enter Tryd.func22, Tryd.ntmps22
  go_wp2_with fail
  go_ret2
  exact ⟨rfl, rfl⟩
end Go.Proofs.YtikhhceoonfhcaaDoor.stD

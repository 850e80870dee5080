/-
  Contracts of the reference's rising, Shuffle, Sample, Same.
-/
import Derived.Test.YtikhhceoonfhcaaDoorStD
namespace Go.Proofs.YtikhhceoonfhcaaDoor.stE
open Go.RowKit
open Go.Proofs.YtikhhceoonfhcaaDoor.dgM Go.Proofs.YtikhhceoonfhcaaDoor.dgA Go.Proofs.YtikhhceoonfhcaaDoor.dgB Go.Proofs.YtikhhceoonfhcaaDoor.stM Go.Proofs.YtikhhceoonfhcaaDoor.stA Go.Proofs.YtikhhceoonfhcaaDoor.stB Go.Proofs.YtikhhceoonfhcaaDoor.stC Go.Proofs.YtikhhceoonfhcaaDoor.stD
set_option linter.unusedVariables false

/-! ### rows that grow -/
abbrev OwI (w : World) (B : Nat) (v : Value) (zs : List Int) : Prop := w.ownsRow B 3 1 v zs.length (cI zs)
theorem owi_nil (w : World) (B : Nat) : OwI w B (.slice none 0 0) [] := ⟨rfl, .inl ⟨rfl, rfl⟩⟩
theorem push_int {ops : Array Oper} {rest : List Oper} {o : Oper} {a : Act} {Q : Exit → Act → World → Prop} (hgd : o.guard = none) (s x : Operand) (ho : o.op = .call { callee := .builtin .append, args := #[s, x], argTypes := #[39, 39] })
    (w : World) (B : Nat) (v : Value) (l : List Int) (y : Int) (hs : a.eval s = v) (hown : OwI w B v l) (hx : a.eval x = .slice (some ⟨w.heap.size, 0, none⟩) 1 1) (hn : l.length ≤ 1000000000) (hB : B ≤ w.heap.size)
    (h : ∀ v' w1, OwI w1 B v' (l ++ [y]) → Below B w w1 → wpList Tryd.prog ops Q rest (a.put o.dst v') w1) :
    wpList Tryd.prog ops Q (o :: rest) a (w.alloc (.cells #[.int .i64 y] 3)) := by
  obtain ⟨i0, hi0, hz0, hz1, hz2⟩ := info_parts infoI
  refine wpList_append_own _ hgd s x 39 ho B 3 i0 (.int .i64 0) 1 8 Tryd.underlying39 hi0 hz0 hz1 hz2 rfl (by omega) v l.length _ hs (World.ownsRow.alloc hown _) ⟨w.heap.size, 0, none⟩ 1 1 [.int .i64 y] hx rfl (World.news_of_block (cs := #[.int .i64 y]) (t := 3) (fr := (0, 0)) (heap_alloc_new w _)) (by simp [Value.oneCell']) (by unfold maxLen; omega) (by omega) (by simp; omega) ?_
  intro v' w1 hown1 hgrow _
  refine h v' w1 ?_ (((Below.refl _ w).alloc hB _).grown hgrow (by simp; omega) (fun j hj => ((World.ownsRow.lt hown) j hj).1))
  have e : cI l ++ [.int .i64 y] = cI (l ++ [y]) := by simp [cI]
  rw [e] at hown1
  have e2 : l.length + 1 = (l ++ [y]).length := by simp
  rw [e2] at hown1
  exact hown1
/-- n ints in the row G, which may have room for more -/
def Ow (w : World) (B G n c : Nat) (L : List Int) : Prop := L.length = n ∧ w.ownsRow B 3 1 (.slice (some ⟨G, 0, none⟩) n c) n (cI L)
section
variable {w w' : World} {B G n c : Nat} {L : List Int}
theorem ow_cell (h : Ow w B G n c L) {j : Nat} (hj : j < n) : w.cell? ⟨G, j, none⟩ = some (.int .i64 (iat L j)) := by
  rw [World.ownsRow.cellAt h.2 j (by omega), List.getElem?_map, iat_some (by rw [h.1]; exact hj)]; rfl
theorem ow_free (h : Ow w B G n c L) (j : Nat) : w.frozen? ⟨G, j, none⟩ = false := World.ownsRow.frozenAt h.2 j
theorem ow_set (h : Ow w B G n c L) (j : Nat) (x : Int) : Ow (w.setCell ⟨G, j, none⟩ (.int .i64 x)) B G n c (L.set j x) := by
  refine ⟨by rw [List.length_set]; exact h.1, ?_⟩
  have := (World.ownsRow.stored h.2 j (.int .i64 x)).1
  rw [← List.map_set] at this
  exact this
theorem ow_ge (h : Ow w B G n c L) : B ≤ G := (World.ownsRow.lt h.2 G rfl).1
theorem ow_lt (h : Ow w B G n c L) : G < w.heap.size := (World.ownsRow.lt h.2 G rfl).2
theorem ow_le (h : Ow w B G n c L) : n ≤ c := by
  rcases h.2.2 with ⟨e, _⟩ | ⟨g, cap, cur, e, _, _, hc, _⟩
  · cases e
  · injection e with e1 e2 e3
    omega
theorem ow_mv {F : List Nat} (h : Ow w B G n c L) (hm : Mv w F w') (hF : G ∉ F) : Ow w' B G n c L := by
  refine ⟨h.1, h.2.1, ?_⟩
  have hlt := ow_lt h
  rcases h.2.2 with e | ⟨g, cap, cur, e, hg, hh, r⟩
  · exact .inl e
  · refine .inr ⟨g, cap, cur, e, hg, ?_, r⟩
    injection e with e1 e2 e3
    injection e1 with e1
    injection e1 with e1
    subst e1
    rw [hm.block hlt hF]; exact hh
theorem ow_ci (h : Ow w B G n c L) : Ci w (some ⟨G, 0, none⟩) L := fun _ => ⟨G, 0, rfl, fun j x hx => by
  have hj : j < L.length := (List.getElem?_eq_some_iff.1 hx).1
  rw [Nat.zero_add, ow_cell h (by rw [← h.1]; exact hj), iat_of hx]⟩
end

/-! ### rising -/
def Ris (w : World) (n : Nat) (e : Ending) (w' : World) : Prop :=
  ∃ v, e = .returned v ∧ OwI w' w.heap.size v (up n) ∧ Below w.heap.size w w'
set_option maxRecDepth 10000 in
set_option maxHeartbeats 1000000 in
theorem rising_any (n : Nat) (hn : n ≤ 4096) (w : World) :
    Calls Tryd.prog 32 #[.int .i64 (n : Int)] w (Ris w n) := by
  go_enter Tryd.func32, Tryd.ntmps32
  go_wp2_with fail
  go_loopw [3, 4] (fun s3 s4 wr => ∃ i q : Nat, i ≤ n ∧ s4 = .int .i64 (q : Int) ∧ Hid (q = i + 1) ∧ Hid (OwI wr w.heap.size s3 (up i)) ∧ Hid (Below w.heap.size w wr)) (fun _ s4 _ => n + 1 - (intOf s4).toNat)
  case atStart => exact ⟨0, 1, Nat.zero_le _, rfl, Lib.hid rfl, Lib.hid (owi_nil _ _), Lib.hid (Below.refl _ _)⟩
  case round =>
    obtain ⟨i, q, hi, rfl, hq, HO, HB⟩ := hrel
    have hqv := hq.out
    by_cases hlt : q ≤ n
    · have t : (q : Int) ≤ (n : Int) := by omega
      have hO : OwI wr w.heap.size u3 (up i) := HO.out
      have hl : (up i).length ≤ 1000000000 := by rw [up_len]; omega
      have e1 : up i ++ [(q : Int)] = up (i + 1) := by rw [up_succ, hqv]; simp
      have HE := Lib.hid e1
      have hi1 : i + 1 ≤ n := by omega
      have hqb : q ≤ 4096 := by omega
      clear e1 hqv
      go_wp2_with (refine push_int rfl (.tmp 10) (.tmp 12) rfl wr w.heap.size u3 (up i) (q : Int) (by rfl) hO (by rfl) hl HB.out.size ?_; intro v' w1 O1 B1)
      go_roundw
      case rel => exact ⟨i + 1, q + 1, hi1, by go_num, Lib.hid (by rw [hq.out]), Lib.hid (by rw [← HE.out]; exact O1), Lib.hid (HB.out.trans B1)⟩
      case measure => simp [intOf]; omega
    · have hin : i = n := by omega
      have t : ¬ (q : Int) ≤ (n : Int) := by omega
      clear hq hqv
      subst hin
      go_wp2_with fail
      go_ret
      exact ⟨_, rfl, HO.out, HB.out⟩
/-- an address as rows that grow have it -/
def Pl (B : Nat) (A : Option Addr) (c : Nat) : Prop := A = none ∧ c = 0 ∨ ∃ G, A = some ⟨G, 0, none⟩ ∧ B ≤ G
theorem ris_zero {w : World} {e : Ending} {w' : World} (h : Ris w 0 e w') : ∃ A c, e = .returned (.slice A 0 c) ∧ Pl w.heap.size A c ∧ Mv w [] w' := by
  obtain ⟨v, rfl, hO, hB⟩ := h
  rcases hO.2 with ⟨rfl, _⟩ | ⟨g, cap, cur, rfl, hg, _⟩
  · exact ⟨none, 0, rfl, .inl ⟨rfl, rfl⟩, Mv.of_below hB⟩
  · exact ⟨_, cap, rfl, .inr ⟨g, rfl, hg⟩, Mv.of_below hB⟩
theorem pl_ge {B : Nat} {A : Option Addr} {c : Nat} (h : Pl B A c) : ∀ b off, A = some ⟨b, off, none⟩ → B ≤ b := fun b off e => by
  rcases h with ⟨rfl, _⟩ | ⟨G, rfl, hG⟩
  · cases e
  · injection e with e; injection e with e1 e2; omega
theorem slice_pl {B : Nat} {A : Option Addr} {n c k : Nat} (h : Pl B A c) (hk : k ≤ c) (W : World) :
    (Instr.slice 39 (.slice A n c) none (some (.int .i64 (k : Int))) none).run Tryd.prog W = .ok (.slice A k c) W := by
  have ht' : Tryd.prog.underlying 39 = some (.slice (Tryd.prog.elem 39)) := by simp [Program.elem, Tryd.underlying39]
  have he : Tryd.prog.elem 39 = 3 := by simp [Program.elem, Tryd.underlying39]
  rw [run_slice_h W 39 A n c ht' .i64 _ (by omega) (by omega), he, size_run]
  rcases h with ⟨rfl, rfl⟩ | ⟨G, rfl, hG⟩
  · simp [Result.andThen, sliced]
  · simp [Result.andThen, sliced, add_zero]
theorem ris_pos {w : World} {n : Nat} (hn : 0 < n) {e : Ending} {w' : World} (h : Ris w n e w') : ∃ G c, e = .returned (.slice (some ⟨G, 0, none⟩) n c) ∧ Ow w' w.heap.size G n c (up n) ∧ Mv w [] w' := by
  obtain ⟨v, rfl, hO, hB⟩ := h
  have hO' : w'.ownsRow w.heap.size 3 1 v n (cI (up n)) := by have := hO; rwa [OwI, up_len] at this
  obtain ⟨g, cap, rfl, hg, hlt⟩ := hO'.form hn
  exact ⟨g, cap, rfl, ⟨up_len n, hO'⟩, Mv.of_below hB⟩

/-! ### Shuffle -/
set_option maxRecDepth 10000 in
set_option maxHeartbeats 4000000 in
theorem rshuf_any (B : Nat → Nat → Nat × Nat × Nat) (n : Nat) (hn : n ≤ 4096) (p a k E k' : Nat) (X : List Int) (ha : a < A64) (hB : Hid (B = bl a)) (hX : Hid (shR B n k = (X, E, k'))) (w : World) (hL : Lv w p a k) :
    Calls Tryd.prog 26 #[.pointer (some ⟨p, 0, none⟩), .int .i64 (n : Int)] w (Lst w p a k' X E) := by
  have cn := rising_any n hn
  have hg := rnd_lt hL.rnd
  have hpl := hL.lt
  have t1 : ¬ ((n : Int) < 0) := by omega
  have t2 : ¬ (4096 < (n : Int)) := by omega
  unfold shR at hX
  rcases Nat.eq_zero_or_pos n with h0 | h0
  · subst h0
    obtain ⟨rfl, rfl, rfl⟩ : [] = X ∧ 0 = E ∧ k = k' := by
      have h : (([], 0, k) : List Int × Nat × Nat) = (X, E, k') := hX.out
      simp only [Prod.mk.injEq] at h
      exact h
    clear hX
    go_enter Tryd.func26, Tryd.ntmps26
    go_wp2_with (go_at_call 32; (refine (cn _).mono ?_); rintro e w1 hr; obtain ⟨A, c, rfl, hP, M1⟩ := ris_zero hr; clear hr)
    have HF : Hid (Lst w p a k [] 0 (.returned (.tuple #[.slice A 0 c, .int .i64 0])) w1) := Lib.hid ⟨A, 0, c, rfl, rfl, Nat.zero_le _, Ci.nil _ _, pl_ge hP, hL.on M1, M1.sub (by simp)⟩
    clear hL
    go_loopw [7] (fun s8 wr => s8 = .int .i64 (-1) ∧ wr = w1) (fun s8 _ => 0)
    case atStart => exact ⟨rfl, rfl⟩
    case round =>
      obtain ⟨rfl, rfl⟩ := hrel
      go_wp2_with fail
      go_ret2
      exact HF.out
  · obtain ⟨m, hm⟩ : ∃ m, n = m + 1 := ⟨n - 1, by omega⟩
    have e1 : (n : Int) - 1 = (m : Int) := by omega
    have HS : Hid (shf B m (up n) k = (X, E, k')) := Lib.hid (by rw [← hX.out, hm]; rfl)
    have HM := Lib.hid hm
    have hm2 : m ≤ 4095 := by omega
    clear hX hm
    go_enter Tryd.func26, Tryd.ntmps26
    go_wp2_with (go_at_call 32; (refine (cn _).mono ?_); rintro e w1 hr; obtain ⟨G, c, rfl, H1, M1⟩ := ris_pos h0 hr; clear hr)
    have hG := ow_ge H1
    have hnc := ow_le H1
    have HL1 := Lib.hid (hL.on M1)
    have HH1 := Lib.hid H1
    have HM1 := Lib.hid (show Mv w [p] w1 from M1.sub (by simp))
    have hpG : p ≠ G := by omega
    have hgG : G ≠ 0 := by omega
    clear H1 hL M1 cn
    go_loopw [7] (fun s8 wr => ∃ (i j : Nat) (L : List Int), i ≤ m ∧ s8 = .int .i64 (i : Int) ∧ Hid (Lv wr p a j) ∧ Hid (Ow wr w.heap.size G n c L) ∧ Hid (Mv w [p] wr) ∧ Hid (shf B i L j = (X, E, k'))) (fun s8 _ => (intOf s8).toNat)
    case atStart => exact ⟨m, k, up n, Nat.le_refl _, rfl, HL1, HH1, HM1, HS⟩
    case round =>
      obtain ⟨i, j, L, hi, rfl, HL, HH, HW, HT⟩ := hrel
      by_cases hi0 : i = 0
      · subst hi0
        have ht := HT.out
        simp only [shf, Prod.mk.injEq] at ht
        obtain ⟨rfl, rfl, rfl⟩ := ht
        have HF : Hid (Lst w p a j L 0 (.returned (.tuple #[.slice (some ⟨G, 0, none⟩) n c, .int .i64 0])) wr) := Lib.hid ⟨some ⟨G, 0, none⟩, n, c, rfl, HH.out.1, hnc, ow_ci HH.out, fun b off e => by (injection e with e; injection e with e1 e2; omega), HL.out, HW.out⟩
        clear HT HS
        go_wp2_with fail
        go_ret2
        exact HF.out
      · obtain ⟨q, hq⟩ : ∃ q, i = q + 1 := ⟨i - 1, by omega⟩
        have hHm := HM.out
        obtain ⟨s, hs⟩ : ∃ s, s = i + 1 := ⟨_, rfl⟩
        have e2 : (i : Int) + 1 = (s : Int) := by omega
        have e3 : (i : Int) - 1 = (q : Int) := by omega
        have t3 : (1 : Int) ≤ (i : Int) := by omega
        have hs0 : 0 < s := by omega
        have hs1 : s ≤ n := by omega
        have hin : i < n := by omega
        cases hb : B s j with
        | mk V r =>
        obtain ⟨E1, k1⟩ := r
        have hb' : bl a s j = (V, E1, k1) := by rw [← hB.out]; exact hb
        have cx := fun w h => rbelow_any s hs0 (by omega) p a j V E1 k1 ha (Lib.hid hb') w h
        have hVs : V < s := by
          have := (bl_bl a).lt s j hs0
          rw [hb'] at this
          exact this
        have hT := HT.out
        have hse : s = q + 2 := by omega
        by_cases hE : E1 = 0
        · subst hE
          rw [hq, shf_ok (by rw [← hse]; exact hb), ← hq] at hT
          have HT2 : Hid (shf B q (sw L i V) k1 = (X, E, k')) := Lib.hid hT
          have hqm : q ≤ m := by omega
          have hqi : q < i := by omega
          have hVn : V < n := by omega
          have i0 : (0 : Int) ≤ (i : Int) := by omega
          have i1 : (i : Int) < (n : Int) := by omega
          have i2 : (0 : Int) ≤ (V : Int) := by omega
          have i3 : (V : Int) < (n : Int) := by omega
          have HST : Hid (∀ w2, Lv w2 p a k1 → Ow w2 w.heap.size G n c L → Mv wr [p] w2 → Lv ((w2.setCell ⟨G, i, none⟩ (.int .i64 (iat L V))).setCell ⟨G, V, none⟩ (.int .i64 (iat L i))) p a k1 ∧ Ow ((w2.setCell ⟨G, i, none⟩ (.int .i64 (iat L V))).setCell ⟨G, V, none⟩ (.int .i64 (iat L i))) w.heap.size G n c (sw L i V) ∧ Mv w [p] ((w2.setCell ⟨G, i, none⟩ (.int .i64 (iat L V))).setCell ⟨G, V, none⟩ (.int .i64 (iat L i)))) := Lib.hid fun w2 l2 o2 m2 =>
            have m1 : Mv w2 [G] ((w2.setCell ⟨G, i, none⟩ (.int .i64 (iat L V))).setCell ⟨G, V, none⟩ (.int .i64 (iat L i))) := ((Mv.refl w2 _).set (.inl (by simp)) _ _).set (.inl (by simp)) _ _
            ⟨l2.mv m1 (by simpa using hpG) (by simpa using Ne.symm hgG), ow_set (ow_set o2 _ _) _ _, (HW.out.on' m2).on m1 (by simp; omega)⟩
          have hM1 := HL.out
          clear HT hT hb hb' hse hs hq hHm hi0 hs1 hVs
          go_upto_region 10 with (go_at_call 19; (refine (cx _ hM1).mono ?_); rintro e w2 ⟨rfl, L2', M2⟩)
          have O2 := ow_mv HH.out M2 (by simpa using Ne.symm hpG)
          have c1 := ow_cell O2 hin
          have c2 := ow_cell O2 hVn
          have f1 := ow_free O2 i
          have O3 := ow_set O2 i (iat L V)
          have c3 := ow_cell O3 hVn
          have f3 := ow_free O3 V
          have HE := Lib.hid (HST.out w2 L2' O2 M2)
          clear O2 O3 L2' M2
          generalize iat (L.set i (iat L V)) V = z at *
          generalize sw L i V = L2 at *
          generalize iat L i = x at *
          generalize iat L V = y at *
          go_wp2_with fail
          go_roundw
          case rel => exact ⟨q, k1, L2, hqm, rfl, Lib.hid HE.out.1, Lib.hid HE.out.2.1, Lib.hid HE.out.2.2, HT2⟩
          case measure => simp [intOf]; omega
        · rw [hq, shf_bad (by rw [← hse]; exact hb) hE] at hT
          simp only [Prod.mk.injEq] at hT
          obtain ⟨rfl, rfl, rfl⟩ := hT
          have t4 : ((E1 : Int) != 0) = true := by simp; omega
          clear HT hb hb' hse hs hq hHm hi0 hVs
          go_wp2_with (go_at_call 19; (refine (cx _ HL.out).mono ?_); rintro e w2 ⟨rfl, L2', M2⟩)
          go_ret2
          exact lst_nil L2' (HW.out.on' M2)

theorem rshuf_out (n : Int) (hn : n < 0 ∨ 4096 < n) (p : Nat) (w : World) :
    Calls Tryd.prog 26 #[.pointer (some ⟨p, 0, none⟩), .int .i64 n] w fun e w' => e = .returned (.tuple #[.slice none 0 0, .int .i64 2]) ∧ w = w' := by
  by_cases h : n < 0
  · clear hn
    go_enter Tryd.func26, Tryd.ntmps26
    go_wp2_with fail
    go_ret2
    exact ⟨rfl, rfl⟩
  · have h2 : 4096 < n := by omega
    clear hn
    go_enter Tryd.func26, Tryd.ntmps26
    go_wp2_with fail
    go_ret2
    exact ⟨rfl, rfl⟩

/-! ### Sample -/
set_option maxRecDepth 10000 in
theorem rsamp_out (n c : Int) (hn : n < 0 ∨ 4096 < n ∨ c < 0 ∨ n < c) (p : Nat) (w : World) :
    Calls Tryd.prog 27 #[.pointer (some ⟨p, 0, none⟩), .int .i64 n, .int .i64 c] w fun e w' => e = .returned (.tuple #[.slice none 0 0, .int .i64 2]) ∧ w = w' := by
  by_cases h : n < 0
  · clear hn
    go_enter Tryd.func27, Tryd.ntmps27
    go_wp2_with fail
    go_ret2
    exact ⟨rfl, rfl⟩
  by_cases h2 : 4096 < n
  · clear hn
    go_enter Tryd.func27, Tryd.ntmps27
    go_wp2_with fail
    go_ret2
    exact ⟨rfl, rfl⟩
  by_cases h3 : c < 0
  · clear hn
    go_enter Tryd.func27, Tryd.ntmps27
    go_wp2_with fail
    go_ret2
    exact ⟨rfl, rfl⟩
  · have h4 : n < c := by omega
    clear hn
    go_enter Tryd.func27, Tryd.ntmps27
    go_wp2_with fail
    go_ret2
    exact ⟨rfl, rfl⟩
set_option maxRecDepth 10000 in
set_option maxHeartbeats 4000000 in
theorem rsamp_any (B : Nat → Nat → Nat × Nat × Nat) (n c : Nat) (hn : n ≤ 4096) (hc : c ≤ n) (p a k E k' : Nat) (X : List Int) (ha : a < A64) (hB : Hid (B = bl a)) (hX : Hid (smR B n c k = (X, E, k'))) (w : World) (hL : Lv w p a k) :
    Calls Tryd.prog 27 #[.pointer (some ⟨p, 0, none⟩), .int .i64 (n : Int), .int .i64 (c : Int)] w (Lst w p a k' X E) := by
  have cn := rising_any n hn
  have hg := rnd_lt hL.rnd
  have hpl := hL.lt
  have t1 : ¬ ((n : Int) < 0) := by omega
  have t2 : ¬ (4096 < (n : Int)) := by omega
  have t3 : ¬ ((c : Int) < 0) := by omega
  have t4 : ¬ ((n : Int) < (c : Int)) := by omega
  rcases Nat.eq_zero_or_pos n with h0 | h0
  · subst h0
    obtain rfl : c = 0 := by omega
    obtain ⟨rfl, rfl, rfl⟩ : [] = X ∧ 0 = E ∧ k = k' := by
      have h : (([], 0, k) : List Int × Nat × Nat) = (X, E, k') := hX.out
      simp only [Prod.mk.injEq] at h
      exact h
    clear hX
    go_enter Tryd.func27, Tryd.ntmps27
    go_wp2_with (go_at_call 32; (refine (cn _).mono ?_); rintro e w1 hr; obtain ⟨A, d, rfl, hP, M1⟩ := ris_zero hr; clear hr)
    have HF : Hid (Lst w p a k [] 0 (.returned (.tuple #[.slice A 0 d, .int .i64 0])) w1) := Lib.hid ⟨A, 0, d, rfl, rfl, Nat.zero_le _, Ci.nil _ _, pl_ge hP, hL.on M1, M1.sub (by simp)⟩
    have hsl : ∀ W, (Instr.slice 39 (.slice A 0 d) none (some (.int .i64 0)) none).run Tryd.prog W = .ok (.slice A 0 d) W := fun W => slice_pl (k := 0) hP (Nat.zero_le _) W
    clear hL
    go_loopw [9] (fun s8 wr => s8 = .int .i64 0 ∧ wr = w1) (fun s8 _ => 0)
    case atStart => exact ⟨rfl, rfl⟩
    case round =>
      obtain ⟨rfl, rfl⟩ := hrel
      go_wp2_with fail
      go_ret2
      exact HF.out
  · have HS : Hid (∃ Y, smf B n c 0 (up n) k = (Y, E, k') ∧ X = Y.take c) := Lib.hid (by
      have h := hX.out
      unfold smR at h
      obtain ⟨h1, h2⟩ := Prod.mk.inj h
      exact ⟨_, Prod.ext rfl h2, h1.symm⟩)
    clear hX
    obtain ⟨Y, HS0, rfl⟩ := HS.out
    clear HS
    have HS := Lib.hid HS0
    clear HS0
    go_enter Tryd.func27, Tryd.ntmps27
    go_wp2_with (go_at_call 32; (refine (cn _).mono ?_); rintro e w1 hr; obtain ⟨G, d, rfl, H1, M1⟩ := ris_pos h0 hr; clear hr)
    have hG := ow_ge H1
    have hnd := ow_le H1
    have HL1 := Lib.hid (hL.on M1)
    have HH1 := Lib.hid H1
    have HM1 := Lib.hid (show Mv w [p] w1 from M1.sub (by simp))
    have hpG : p ≠ G := by omega
    have hgG : G ≠ 0 := by omega
    have hsl : ∀ W, (Instr.slice 39 (.slice (some ⟨G, 0, none⟩) n d) none (some (.int .i64 (c : Int))) none).run Tryd.prog W = .ok (.slice (some ⟨G, 0, none⟩) c d) W := fun W => slice_pl (k := c) (.inr ⟨G, rfl, hG⟩) (by omega) W
    clear H1 hL M1 cn
    go_loopw [9] (fun s9 wr => ∃ (i j : Nat) (L : List Int), i ≤ c ∧ s9 = .int .i64 (i : Int) ∧ Hid (Lv wr p a j) ∧ Hid (Ow wr w.heap.size G n d L) ∧ Hid (Mv w [p] wr) ∧ Hid (smf B n (c - i) i L j = (Y, E, k'))) (fun s9 _ => c - (intOf s9).toNat)
    case atStart => exact ⟨0, k, up n, Nat.zero_le _, rfl, HL1, HH1, HM1, HS⟩
    case round =>
      obtain ⟨i, j, L, hi, rfl, HL, HH, HW, HT⟩ := hrel
      by_cases hlt : i < c
      · obtain ⟨m, hm⟩ : ∃ m, m = n - i := ⟨_, rfl⟩
        have hm0 : 0 < m := by omega
        have hm1 : m ≤ 2147483648 := by omega
        have hin : i < n := by omega
        have t5 : (i : Int) < (c : Int) := by omega
        have e2 : (n : Int) - (i : Int) = (m : Int) := by omega
        cases hb : B m j with
        | mk V r =>
        obtain ⟨E1, k1⟩ := r
        have hb' : bl a m j = (V, E1, k1) := by rw [← hB.out]; exact hb
        have cx := fun w h => rbelow_any m hm0 hm1 p a j V E1 k1 ha (Lib.hid hb') w h
        have hVs : V < m := by
          have := (bl_bl a).lt m j hm0
          rw [hb'] at this
          exact this
        have hT := HT.out
        rw [show c - i = (c - (i + 1)) + 1 by omega] at hT
        by_cases hE : E1 = 0
        · subst hE
          rw [smf_ok (by rw [← hm]; exact hb)] at hT
          obtain ⟨s, hs⟩ : ∃ s, s = i + V := ⟨_, rfl⟩
          rw [← hs] at hT
          have HT2 : Hid (smf B n (c - (i + 1)) (i + 1) (sw L i s) k1 = (Y, E, k')) := Lib.hid hT
          have e3 : (i : Int) + (V : Int) = (s : Int) := by omega
          have hVn : s < n := by omega
          have hi1 : i + 1 ≤ c := hlt
          have i0 : (0 : Int) ≤ (i : Int) := by omega
          have i1 : (i : Int) < (n : Int) := by omega
          have i2 : (0 : Int) ≤ (s : Int) := by omega
          have i3 : (s : Int) < (n : Int) := by omega
          have HST : Hid (∀ w2, Lv w2 p a k1 → Ow w2 w.heap.size G n d L → Mv wr [p] w2 → Lv ((w2.setCell ⟨G, i, none⟩ (.int .i64 (iat L s))).setCell ⟨G, s, none⟩ (.int .i64 (iat L i))) p a k1 ∧ Ow ((w2.setCell ⟨G, i, none⟩ (.int .i64 (iat L s))).setCell ⟨G, s, none⟩ (.int .i64 (iat L i))) w.heap.size G n d (sw L i s) ∧ Mv w [p] ((w2.setCell ⟨G, i, none⟩ (.int .i64 (iat L s))).setCell ⟨G, s, none⟩ (.int .i64 (iat L i)))) := Lib.hid fun w2 l2 o2 m2 =>
            have m1 : Mv w2 [G] ((w2.setCell ⟨G, i, none⟩ (.int .i64 (iat L s))).setCell ⟨G, s, none⟩ (.int .i64 (iat L i))) := ((Mv.refl w2 _).set (.inl (by simp)) _ _).set (.inl (by simp)) _ _
            ⟨l2.mv m1 (by simpa using hpG) (by simpa using Ne.symm hgG), ow_set (ow_set o2 _ _) _ _, (HW.out.on' m2).on m1 (by simp; omega)⟩
          have hM1 := HL.out
          clear HT hT hb hb' hs hVs hm
          go_upto_region 10 with (go_at_call 19; (refine (cx _ hM1).mono ?_); rintro e w2 ⟨rfl, L2', M2⟩)
          have O2 := ow_mv HH.out M2 (by simpa using Ne.symm hpG)
          have c1 := ow_cell O2 hin
          have c2 := ow_cell O2 hVn
          have f1 := ow_free O2 i
          have O3 := ow_set O2 i (iat L s)
          have c3 := ow_cell O3 hVn
          have f3 := ow_free O3 s
          have HE := Lib.hid (HST.out w2 L2' O2 M2)
          clear O2 O3 L2' M2
          generalize iat (L.set i (iat L s)) s = z at *
          generalize sw L i s = L2 at *
          generalize iat L i = x at *
          generalize iat L s = y at *
          go_wp2_with fail
          go_roundw
          case rel => exact ⟨i + 1, k1, L2, hi1, by go_num, Lib.hid HE.out.1, Lib.hid HE.out.2.1, Lib.hid HE.out.2.2, HT2⟩
          case measure => simp [intOf]; omega
        · rw [smf_bad (by rw [← hm]; exact hb) hE] at hT
          simp only [Prod.mk.injEq] at hT
          obtain ⟨rfl, rfl, rfl⟩ := hT
          have t6 : ((E1 : Int) != 0) = true := by simp; omega
          clear HT hb hb' hm hVs HS
          go_wp2_with (go_at_call 19; (refine (cx _ HL.out).mono ?_); rintro e w2 ⟨rfl, L2', M2⟩)
          go_ret2
          rw [List.take_nil]
          exact lst_nil L2' (HW.out.on' M2)
      · have ht := HT.out
        rw [show c - i = 0 by omega] at ht
        simp only [smf, Prod.mk.injEq] at ht
        obtain ⟨rfl, rfl, rfl⟩ := ht
        have hic : i = c := by omega
        have HF : Hid (Lst w p a j (L.take c) 0 (.returned (.tuple #[.slice (some ⟨G, 0, none⟩) c d, .int .i64 0])) wr) := Lib.hid ⟨some ⟨G, 0, none⟩, c, d, rfl, by rw [List.length_take, HH.out.1]; omega, by omega, (ow_ci HH.out).take c, fun b off e => by (injection e with e; injection e with e1 e2; omega), HL.out, HW.out⟩
        have t5 : ¬ (i : Int) < (c : Int) := by omega
        clear HT HS hic
        go_wp2_with fail
        go_ret2
        exact HF.out

/-! ### Same -/
set_option maxHeartbeats 1000000 in
theorem same_ok (A B : Option Addr) (n c d : Nat) (zs : List Int) (hn : Hid (zs.length = n)) (hN : n ≤ 9223372036854775807) (w : World) (hI : Ci w A zs) (hJ : Ci w B zs) :
    Calls Tryd.prog 23 #[.slice A n c, .slice B n d] w fun e w' => e = .returned (.bool true) ∧ ∃ d, w' = w.drewN d := by
  have ne : ((n : Int) != (n : Int)) = false := by simp
  go_enter Tryd.func23, Tryd.ntmps23
  go_wp2_with fail
  go_loopw [5] (fun i wr => ∃ k d : Nat, k ≤ n ∧ i = .int .i64 k ∧ wr = w.drewN d) (fun i _ => n - (intOf i).toNat)
  case atStart => exact ⟨0, 0, Nat.zero_le _, rfl, rfl⟩
  case round =>
    obtain ⟨k, d, hk, rfl, rfl⟩ := hrel
    by_cases hlt : k < n
    · obtain ⟨ad, off, rfl, hx⟩ := hI.at_ (k := k) (by rw [hn.out]; exact hlt)
      obtain ⟨bd, bff, rfl, hy⟩ := hJ.at_ (k := k) (by rw [hn.out]; exact hlt)
      generalize iat zs k = x at *
      have i0 : (0 : Int) ≤ (k : Int) := by omega
      have i1 : (k : Int) < (n : Int) := by omega
      have nx : (x != x) = false := by simp
      go_wp2_with fail
      go_quiet (fail)
      go_wp2_with fail
      go_roundw
      case rel => exact ⟨k + 1, _, by omega, by go_num, rfl⟩
      case measure => simp [intOf]; omega
    · obtain rfl : k = n := by omega
      go_wp2_with fail
      go_ret
      exact ⟨rfl, _, rfl⟩
end Go.Proofs.YtikhhceoonfhcaaDoor.stE

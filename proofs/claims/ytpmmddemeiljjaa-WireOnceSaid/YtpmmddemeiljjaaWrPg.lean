/-
  Contracts of the program's Next.
-/
import Derived.Test.YtpmmddemeiljjaaWrPf
namespace Go.Proofs.Ytpmmddemeiljjaa.wrPg
open Go.RowKit
open Go.Proofs.Ytpmmddemeiljjaa.dgM Go.Proofs.Ytpmmddemeiljjaa.wrM Go.Proofs.Ytpmmddemeiljjaa.wrO Go.Proofs.Ytpmmddemeiljjaa.wrA Go.Proofs.Ytpmmddemeiljjaa.wrC Go.Proofs.Ytpmmddemeiljjaa.wrD Go.Proofs.Ytpmmddemeiljjaa.wrE Go.Proofs.Ytpmmddemeiljjaa.wrG Go.Proofs.Ytpmmddemeiljjaa.wrPa Go.Proofs.Ytpmmddemeiljjaa.wrPb Go.Proofs.Ytpmmddemeiljjaa.wrPc Go.Proofs.Ytpmmddemeiljjaa.wrPe Go.Proofs.Ytpmmddemeiljjaa.wrPf
set_option linter.unusedVariables false

theorem neq_eight (W : World) (X Y : List UInt8) (hX : X.length = 8) (hY : Y.length = 8) :
    (binOp .neq 81 (.agg (cB X).toArray) (.agg (cB Y).toArray)).run Try.prog W = .ok (.bool (!(X == Y))) W := by
  rw [run_neq_struct]
  have h := run_equalIn_bytes (P := Try.prog) W 9998 81 5 8 u8arr Try.underlying5 (fun w => size_run w) X Y hX hY
  have e : (Op.equalIn 10000 81 (.agg (cB X).toArray) (.agg (cB Y).toArray)).run Try.prog W = .ok (X == Y) W := h
  rw [e]
  rfl
/-- a string's bytes in new memory, owned -/
theorem bytes_own (W : World) (t : ByteArray) : ∃ c o, (convert 9 38 (.string t)).run Try.prog W = .ok (.slice (some ⟨W.heap.size, 0, none⟩) t.size c) (W.drew.alloc o) ∧ Cb (W.drew.alloc o) (some ⟨W.heap.size, 0, none⟩) t.data.toList ∧ t.size ≤ c ∧ Below W.heap.size W (W.drew.alloc o) := by
  obtain ⟨c, o, h1, h2, h3⟩ := bytes_of W t
  exact ⟨c, o, h1, h2, h3, of_drew ((Below.refl _ W.drew).alloc (Nat.le_refl _) o)⟩
/-- what Next answers, with new memory alone -/
def NxQ (w : World) (k : Nat) (Z : List UInt8 × Nat × Nat) (e : Ending) (w' : World) : Prop :=
  ∃ A' n' c', e = .returned (.tuple #[.slice A' n' c', .int .i64 ((if Z.2.2 = 0 then k + Z.2.1 else 0 : Nat) : Int), .int .i64 (Z.2.2 : Int)]) ∧ Cb w' A' Z.1 ∧ Z.1.length = n' ∧ n' ≤ c' ∧ (A' = none → c' = 0) ∧ (∀ b off, A' = some ⟨b, off, none⟩ → w.heap.size ≤ b) ∧ Below w.heap.size w w'
theorem nxq_of {w : World} {k : Nat} {Z : List UInt8 × Nat × Nat} {e : Ending} {w' : World} (h : NxP w k Z e w') : NxQ w k Z e w' := by
  obtain ⟨v, h1, h2, h3⟩ := h
  obtain ⟨A', c', rfl, hc', hC', hA', hl'⟩ := own_form h2
  exact ⟨A', _, c', h1, hC', rfl, hc', hA', fun b off e => (hl' b (by rw [e]; rfl)).1, h3⟩
theorem eight {α : Type} {l : List α} (h : l.length = 8) : ∃ x0 x1 x2 x3 x4 x5 x6 x7, l = [x0, x1, x2, x3, x4, x5, x6, x7] := by
  match l, h with
  | [x0, x1, x2, x3, x4, x5, x6, x7], _ => exact ⟨x0, x1, x2, x3, x4, x5, x6, x7, rfl⟩
theorem cb_mid {w : World} {b off : Nat} {l : List UInt8} {n : Nat} (h : Cb w (some ⟨b, off, none⟩) l) (hn : n ≤ l.length) : w.rangeAt b off (cB (l.take n)) := fun j v hv => by
  rw [List.getElem?_map] at hv
  obtain ⟨x, hx, rfl⟩ := Option.map_eq_some_iff.1 hv
  rw [List.getElem?_take] at hx
  split at hx
  · have hj : j < l.length := (List.getElem?_eq_some_iff.1 hx).1
    obtain ⟨b', off', e, hc⟩ := h (by omega)
    injection e with e
    injection e with e1 e2
    subst e1
    subst e2
    exact hc j x hx
  · cases hx
set_option maxRecDepth 10000 in
set_option maxHeartbeats 2000000 in
theorem next_full (A : Option Addr) (n c k : Nat) (b : List UInt8) (hn : b.length = n) (hk : k ≤ n) (hnc : n ≤ c) (hN : n ≤ 1000000) (he : (tr (b.drop k)).2.2 = 0) (hs : ¬ (b.drop k).length < (tr (b.drop k)).2.1 + (tr (b.drop k)).1 + 8) (w : World) (hb : Cb w A b) :
    Calls Try.prog 38 #[.slice A n c, .int .i64 (k : Int)] w (NxQ w k (nx (b.drop k))) := by
  have hx : nx (b.drop k) = if (((b.drop k).drop ((tr (b.drop k)).2.1 + (tr (b.drop k)).1)).take 8 == dg (((b.drop k).drop (tr (b.drop k)).2.1).take (tr (b.drop k)).1)) = false then ([], 0, 27) else (((b.drop k).drop (tr (b.drop k)).2.1).take (tr (b.drop k)).1, (tr (b.drop k)).2.1 + (tr (b.drop k)).1 + 8, 0) := by
    unfold nx; rw [if_neg (fun h => h he), if_neg hs]
  rw [hx]
  obtain ⟨A2, c2, hsl, hcb, _, hc2⟩ := sub_lo A n c k b hn hk hnc
  have hm := tr_len (b.drop k)
  have ct := fun w h => varint_any A2 (n - k) c2 (b.drop k) (Lib.hid (by rw [List.length_drop, hn])) (by omega) (tr (b.drop k)).1 (tr (b.drop k)).2.1 0 (Lib.hid (by rw [← he])) w h
  rw [List.length_drop, hn] at hs hm
  have hC := hcb w hb
  clear hx hcb
  generalize (tr (b.drop k)).2.1 = m at *
  generalize (tr (b.drop k)).1 = V at *
  rw [List.drop_drop, List.drop_drop, ← Nat.add_assoc]
  obtain ⟨f, hf⟩ : ∃ f, f = k + m := ⟨_, rfl⟩
  rw [← hf]
  have e0 : (k : Int) + (m : Int) = (f : Int) := by omega
  obtain ⟨t, ht⟩ : ∃ t, t = f + V := ⟨_, rfl⟩
  rw [← ht]
  have hk' : ¬ (n : Int) < (k : Int) := by omega
  have t1 : ¬ (n : Int) - (f : Int) < 8 := by omega
  have t2 : ¬ (n : Int) - (f : Int) - 8 < (V : Int) := by omega
  have e1 : IntKind.u64.wrap ((n : Int) - (f : Int) - 8) = (n : Int) - (f : Int) - 8 := by rw [IntKind.wrap_u64]; omega
  have e2 : IntKind.i64.wrap (V : Int) = (V : Int) := IntWalk.i64_in _ (by omega)
  have e3 : (f : Int) + (V : Int) = (t : Int) := by omega
  obtain ⟨t8, ht8⟩ : ∃ t8, t8 = t + 8 := ⟨_, rfl⟩
  have e4 : (t : Int) + 8 = (t8 : Int) := by omega
  have b8 : t8 ≤ 1000000 := by omega
  have e5 : IntKind.i64.wrap (t8 : Int) = (t8 : Int) := IntWalk.i64_in _ (by omega)
  obtain ⟨A1, c1, hsl1, hcb1, _, hc1⟩ := sub_lo A n c t b hn (by omega) hnc
  obtain ⟨A3, c3, hsl3, hcb3, _⟩ := sub_any A n c f t b hn (by omega) (by omega) hnc
  rw [show t - f = V by omega] at hsl3 hcb3
  have hat : ∀ W, (Instr.arrayAt 81 (.slice A1 (n - t) c1)).run Try.prog W = .ok (.pointer A1) W := fun W => run_arrayAt W 81 _ 8 A1 (n - t) c1 u8arr (by omega)
  obtain ⟨b1, o1, rfl, _⟩ := hcb1 w hb (by rw [List.length_drop]; omega)
  obtain ⟨X8, hX8⟩ : ∃ X, X = (b.drop t).take 8 := ⟨_, rfl⟩
  obtain ⟨X, hX⟩ : ∃ X, X = (b.drop f).take V := ⟨_, rfl⟩
  rw [← hX8, ← hX]
  rw [← hX] at hcb3
  have l8 : X8.length = 8 := by rw [hX8, List.length_take, List.length_drop]; omega
  have lX : X.length = V := by rw [hX, List.length_take, List.length_drop]; omega
  have hcv := conv_any w A3 V c3 X lX (hcb3 _ hb)
  obtain ⟨x0, x1, x2, x3, x4, x5, x6, x7, hxs⟩ := eight l8
  have HLD : Hid (∀ W, Cb W A b → W.cell? ⟨b1, o1, none⟩ = some (vB x0) ∧ W.cell? ⟨b1, o1 + 1, none⟩ = some (vB x1) ∧ W.cell? ⟨b1, o1 + 2, none⟩ = some (vB x2) ∧ W.cell? ⟨b1, o1 + 3, none⟩ = some (vB x3) ∧ W.cell? ⟨b1, o1 + 4, none⟩ = some (vB x4) ∧ W.cell? ⟨b1, o1 + 5, none⟩ = some (vB x5) ∧ W.cell? ⟨b1, o1 + 6, none⟩ = some (vB x6) ∧ W.cell? ⟨b1, o1 + 7, none⟩ = some (vB x7)) := Lib.hid fun W hW => by
    have hr := cb_mid (n := 8) (hcb1 W hW) (by rw [List.length_drop]; omega)
    rw [← hX8, hxs] at hr
    exact ⟨hr 0 _ rfl, hr 1 _ rfl, hr 2 _ rfl, hr 3 _ rfl, hr 4 _ rfl, hr 5 _ rfl, hr 6 _ rfl, hr 7 _ rfl⟩
  have cs := fun w => sumof_any ⟨X.toArray⟩ (sm s0 X) (Lib.hid (by simp)) (by show X.toArray.size ≤ _; simp; omega) w
  have hG := bg_len (sm s0 X)
  have hM : (if (0 : Nat) = 0 then k + (m + V + 8) else 0) = t8 := by rw [if_pos rfl]; omega
  have HP : Hid (∀ A' c' w', Cb w' A' X → V ≤ c' → (A' = none → c' = 0) → (∀ b off, A' = some ⟨b, off, none⟩ → w.heap.size ≤ b) → Below w.heap.size w w' → NxQ w k (X, m + V + 8, 0) (.returned (.tuple #[.slice A' V c', .int .i64 (t8 : Int), .int .i64 0])) w') := Lib.hid fun A' c' w' h1 h2 h3 h4 h5 => ⟨A', V, c', by show _ = Ending.returned (.tuple #[_, .int .i64 ((if (0 : Nat) = 0 then k + (m + V + 8) else 0 : Nat) : Int), .int .i64 ((0 : Nat) : Int)]); rw [hM]; rfl, h1, lX, h2, h3, h4, h5⟩
  have HQ : Hid (∀ w', Below w.heap.size w w' → NxQ w k ([], 0, 27) (.returned (.tuple #[.slice none 0 0, .int .i64 0, .int .i64 27])) w') := Lib.hid fun w' hb' => ⟨none, 0, 0, rfl, Cb.nil _ _, rfl, Nat.le_refl _, fun _ => rfl, fun b off e => absurd e (by simp), hb'⟩
  have HD : Hid (dg X = bg (sm s0 X)) := Lib.hid rfl
  rw [HD.out]
  clear HD hM he hs hm hX8 hX hf ht ht8 hcb1 hcb3
  generalize bg (sm s0 X) = G at *
  generalize sm s0 X = z at *
  have hnq : ∀ W, (binOp .neq 81 (.agg #[vB x0, vB x1, vB x2, vB x3, vB x4, vB x5, vB x6, vB x7]) (.agg (cB G).toArray)).run Try.prog W = .ok (.bool (!(X8 == G))) W := fun W => by
    rw [hxs]; exact neq_eight W [x0, x1, x2, x3, x4, x5, x6, x7] G rfl hG
  generalize n - t = nt at *
  generalize n - k = n2 at *
  by_cases hq : X8 = G
  · have hq2 : (X8 == G) = true := by simpa using hq
    rw [if_neg (by rw [hq2]; simp)]
    rw [hq2] at hnq
    have hsz : (⟨X.toArray⟩ : ByteArray).size = V := by show X.toArray.size = V; simp [lX]
    clear hq
    go_enter Try.func38, Try.ntmps38
    go_upto_region 12 with (go_at_call 50; (with_reducible refine (ct _ hC).mono ?_); rintro e w' ⟨rfl, rfl⟩)
    have v0 := HLD.out w.drew (hb.drewN 1)
    go_region_held3 (fun w' => w'.cell? ⟨b1, o1, none⟩ = some (vB x0) ∧ w'.cell? ⟨b1, o1 + 1, none⟩ = some (vB x1) ∧ w'.cell? ⟨b1, o1 + 2, none⟩ = some (vB x2) ∧ w'.cell? ⟨b1, o1 + 3, none⟩ = some (vB x3) ∧ w'.cell? ⟨b1, o1 + 4, none⟩ = some (vB x4) ∧ w'.cell? ⟨b1, o1 + 5, none⟩ = some (vB x5) ∧ w'.cell? ⟨b1, o1 + 6, none⟩ = some (vB x6) ∧ w'.cell? ⟨b1, o1 + 7, none⟩ = some (vB x7)) (first | exact v0 | exact v1)
      (first
        | (go_at_call 55; (refine (cs _).mono ?_); rintro e w3 ⟨rfl, B0⟩; have B3 := of_drew B0; have v1 := HLD.out w3 (hb.below B3))
        | fail)
    all_goals
      obtain ⟨c5, o5, hcv5, C5, hc5, B5⟩ := bytes_own w3 ⟨X.toArray⟩
      rw [hsz] at hcv5 hc5
      have HR := Lib.hid (HP.out (some ⟨w3.heap.size, 0, none⟩) c5 _ C5 hc5 (fun e => absurd e (by simp)) (fun b off e => by injection e with e; injection e with e1 e2; exact e1 ▸ B3.size) (below_on B3 B5))
      clear v0 v1 hnq HLD ct cs hsl hsl1 hsl3 hat
      go_wp2_with fail
      go_ret3
      exact HR.out
  · have hq2 : (X8 == G) = false := by simpa using hq
    rw [if_pos hq2]
    rw [hq2] at hnq
    clear hq
    go_enter Try.func38, Try.ntmps38
    go_upto_region 12 with (go_at_call 50; (with_reducible refine (ct _ hC).mono ?_); rintro e w' ⟨rfl, rfl⟩)
    have v0 := HLD.out w.drew (hb.drewN 1)
    go_region_held3 (fun w' => w'.cell? ⟨b1, o1, none⟩ = some (vB x0) ∧ w'.cell? ⟨b1, o1 + 1, none⟩ = some (vB x1) ∧ w'.cell? ⟨b1, o1 + 2, none⟩ = some (vB x2) ∧ w'.cell? ⟨b1, o1 + 3, none⟩ = some (vB x3) ∧ w'.cell? ⟨b1, o1 + 4, none⟩ = some (vB x4) ∧ w'.cell? ⟨b1, o1 + 5, none⟩ = some (vB x5) ∧ w'.cell? ⟨b1, o1 + 6, none⟩ = some (vB x6) ∧ w'.cell? ⟨b1, o1 + 7, none⟩ = some (vB x7)) (first | exact v0 | exact v1)
      (first
        | (go_at_call 55; (refine (cs _).mono ?_); rintro e w3 ⟨rfl, B0⟩; have B3 := of_drew B0; have v1 := HLD.out w3 (hb.below B3))
        | fail)
    all_goals
      clear v0 v1 hnq HLD ct cs hsl hsl1 hsl3 hat
      go_wp2_with fail
      go_ret3
      exact HQ.out w3 B3
theorem next_in (A : Option Addr) (n c k : Nat) (b : List UInt8) (hn : b.length = n) (hk : k ≤ n) (hnc : n ≤ c) (hN : n ≤ 1000000) (w : World) (hb : Cb w A b) :
    Calls Try.prog 38 #[.slice A n c, .int .i64 (k : Int)] w (NxQ w k (nx (b.drop k))) := by
  by_cases he : (tr (b.drop k)).2.2 = 0
  · by_cases hs : (b.drop k).length < (tr (b.drop k)).2.1 + (tr (b.drop k)).1 + 8
    · exact (next_short A n c k b hn hk hnc hN he hs w hb).mono fun _ _ h => nxq_of h
    · exact next_full A n c k b hn hk hnc hN he hs w hb
  · exact (next_err A n c k b hn hk hnc hN he w hb).mono fun _ _ h => nxq_of h
end Go.Proofs.Ytpmmddemeiljjaa.wrPg

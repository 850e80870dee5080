/-
  The law's examples, over any writer, reader, Frame and Next that keep the records of contracts.
-/
import Derived.Test.YtpmmddemeiljjaaWrL
import Derived.Lib.SlBytesConst
namespace Go.Proofs.Ytpmmddemeiljjaa.wrW
open Go.RowKit
open Go.Proofs.Ytpmmddemeiljjaa.dgM Go.Proofs.Ytpmmddemeiljjaa.wrM Go.Proofs.Ytpmmddemeiljjaa.wrO Go.Proofs.Ytpmmddemeiljjaa.wrA Go.Proofs.Ytpmmddemeiljjaa.wrB Go.Proofs.Ytpmmddemeiljjaa.wrC Go.Proofs.Ytpmmddemeiljjaa.wrE Go.Proofs.Ytpmmddemeiljjaa.wrH Go.Proofs.Ytpmmddemeiljjaa.wrQ Go.Proofs.Ytpmmddemeiljjaa.wrL
set_option linter.unusedVariables false

/-- what Next answers: the bytes, the offset, the error -/
def nxt (b : List UInt8) (t : Int) : List UInt8 × Nat × Nat :=
  if 0 ≤ t ∧ t ≤ (b.length : Int) then ((nx (b.drop t.toNat)).1, (if (nx (b.drop t.toNat)).2.2 = 0 then t.toNat + (nx (b.drop t.toNat)).2.1 else 0), (nx (b.drop t.toNat)).2.2) else ([], 0, 2)
/-- Frame and Next -/
structure PF (fframe fnext : FuncId) where
  frame : ∀ (A : Option Addr) (c : Nat) (b : List UInt8), b.length ≤ 100000 → b.length ≤ c → (A = none → c = 0) → ∀ w, Cb w A b →
    Calls Try.prog fframe #[.slice A b.length c] w fun e w' => ∃ A' n' c', e = .returned (.slice A' n' c') ∧ Cb w' A' (fr b) ∧ (fr b).length = n' ∧ n' ≤ c' ∧ (A' = none → c' = 0) ∧ (∀ b off, A' = some ⟨b, off, none⟩ → w.heap.size ≤ b) ∧ Below w.heap.size w w'
  next : ∀ (A : Option Addr) (c : Nat) (b : List UInt8) (t : Int), b.length ≤ 1000000 → b.length ≤ c → (A = none → c = 0) → ∀ w, Cb w A b →
    Calls Try.prog fnext #[.slice A b.length c, .int .i64 t] w fun e w' => ∃ A' n' c', e = .returned (.tuple #[.slice A' n' c', .int .i64 ((nxt b t).2.1 : Int), .int .i64 ((nxt b t).2.2 : Int)]) ∧ Cb w' A' (nxt b t).1 ∧ (nxt b t).1.length = n' ∧ n' ≤ c' ∧ (A' = none → c' = 0) ∧ (∀ b off, A' = some ⟨b, off, none⟩ → w.heap.size ≤ b) ∧ Below w.heap.size w w'
abbrev PFr := PF 40 38
theorem refF : PF 41 39 where
  frame := fun A c b hb hc hA w hC => (wrG.rframe_any A b.length c b rfl hA (by omega) w hC).mono fun e w' ⟨v, h1, h2, h3⟩ => by
    obtain ⟨A', c', rfl, hc', hC', hA', hl'⟩ := own_form h2
    exact ⟨A', _, c', h1, hC', rfl, hc', hA', fun b off e => (hl' b (by rw [e]; rfl)).1, h3⟩
  next := fun A c b t hb hc hA w hC => by
    by_cases h : 0 ≤ t ∧ t ≤ (b.length : Int)
    · obtain ⟨k, rfl⟩ := Int.eq_ofNat_of_zero_le h.1
      have e : nxt b (k : Int) = ((nx (b.drop k)).1, (if (nx (b.drop k)).2.2 = 0 then k + (nx (b.drop k)).2.1 else 0), (nx (b.drop k)).2.2) := by
        unfold nxt; rw [if_pos h]; simp
      rw [e]
      exact (wrG.rnext_in A b.length c k b rfl (by omega) hc (by omega) w hC).mono fun e w' ⟨v, h1, h2, h3⟩ => by
        obtain ⟨A', c', rfl, hc', hC', hA', hl'⟩ := own_form h2
        exact ⟨A', _, c', h1, hC', rfl, hc', hA', fun b off e => (hl' b (by rw [e]; rfl)).1, h3⟩
    · have e : nxt b t = ([], 0, 2) := if_neg h
      rw [e]
      exact (wrG.rnext_out A b.length c t (by omega) h w).mono fun e w' ⟨h1, h2⟩ => by
        subst h2
        exact ⟨none, 0, 0, h1, Cb.nil _ _, rfl, Nat.le_refl _, fun _ => rfl, fun b off e => absurd e (by simp), Below.refl _ _⟩

/-! ### the examples -/
theorem two_ci (w : World) (x y : Int) : Ci (w.alloc (.cells #[.int .i64 x, .int .i64 y] 3)) (some ⟨w.heap.size, 0, none⟩) [x, y] := fun _ =>
  ⟨w.heap.size, 0, rfl, fun j z hz => by
    match j, hz with
    | 0, hz => simp at hz; subst hz; simp [World.cell?_alloc_new]
    | 1, hz => simp at hz; subst hz; simp [World.cell?_alloc_new]⟩
theorem eg_bytes : vr 300 ++ (wI (-1) ++ (wT [97, 98] ++ (wL [1, -2] ++ []))) = [172, 2, 1, 2, 97, 98, 2, 2, 3] := by decide +kernel
theorem fit_eg : Fit [1, -2] := fun x hx => by simp at hx; omega
theorem rL_eg : rL 2 (.ok (wL [1, -2] ++ [])) = ([1, -2], .ok []) := rL_wL (l := [1, -2]) (by decide) fit_eg []
theorem rT_eg (r : List UInt8) : rT 2 (.ok (wT [97, 98] ++ r)) = ([97, 98], .ok r) := rT_wT (s := [97, 98]) (by decide) r
theorem nxt_eg : nxt (fr [97, 98, 99]) 0 = ([97, 98, 99], 12, 0) := by
  have h := nx_fr (b := [97, 98, 99]) (r := []) (by decide)
  rw [List.append_nil] at h
  have hl : (fr [97, 98, 99]).length = 12 := by decide +kernel
  unfold nxt
  rw [if_pos (by omega)]
  show ((nx (List.drop 0 (fr [97, 98, 99]))).1, (if (nx (List.drop 0 (fr [97, 98, 99]))).2.2 = 0 then 0 + (nx (List.drop 0 (fr [97, 98, 99]))).2.1 else 0), (nx (List.drop 0 (fr [97, 98, 99]))).2.2) = _
  rw [List.drop_zero, h, hl]
  rfl
theorem three_cb (w : World) (x y z : UInt8) : Cb (w.alloc (.cells #[vB x, vB y, vB z] 5 (3, 4))) (some ⟨w.heap.size, 0, none⟩) [x, y, z] := fun _ =>
  ⟨w.heap.size, 0, rfl, fun j c hc => by
    have hg : (w.alloc (.cells #[vB x, vB y, vB z] 5 (3, 4))).heap[w.heap.size]? = some (.cells #[vB x, vB y, vB z] 5 (3, 4)) := heap_alloc_new w _
    rw [Nat.zero_add, cell_of_row _ _ j _ _ _ hg]
    match j, hc with
    | 0, hc => simp at hc; subst hc; rfl
    | 1, hc => simp at hc; subst hc; rfl
    | 2, hc => simp at hc; subst hc; rfl⟩
theorem below_on {w v u : World} (h : Below w.heap.size w v) (h2 : Below v.heap.size v u) : Below w.heap.size w u := h.trans (h2.mono h.size)
theorem below_al (w : World) (o : Obj) : Below w.heap.size w (w.alloc o) := (Below.refl _ _).alloc (Nat.le_refl _) o
theorem drawn_below {w v u : World} {o : Obj} (h : Below w.heap.size w v) (hd : ∃ d, u = (v.alloc o).drewN d) : Below w.heap.size w u := by
  obtain ⟨d, rfl⟩ := hd
  have := h.alloc h.size o
  exact ⟨this.os, this.tape, this.output, this.size, this.block⟩
theorem drawn_q (Q : PRd) {v u : World} {o : Obj} {p : Nat} {F : List Nat} {S : Rs} (h : Q.O (v.alloc o) p F S) (hd : ∃ d, u = (v.alloc o).drewN d) : Q.O u p F S := by
  obtain ⟨d, rfl⟩ := hd
  exact Q.mv h (G := []) ((Mv.refl _ _).drew d) (fun _ _ => by simp)
theorem drawn_cb {v u : World} {o : Obj} {A : Option Addr} {l : List UInt8} (h : Cb v A l) (hd : ∃ d, u = (v.alloc o).drewN d) : Cb u A l := by
  obtain ⟨d, rfl⟩ := hd
  exact (h.below (below_al v o)).drewN d
theorem cb_lt {w : World} {A : Option Addr} {l : List UInt8} {b off : Nat} (h : Cb w A (l)) (e : A = some ⟨b, off, none⟩) (hp : 0 < l.length) : b < w.heap.size := by
  obtain ⟨b', off', e', hc⟩ := h hp
  rw [e] at e'
  injection e' with e'
  injection e' with e1 e2
  have := World.block_lt_of_cell? w _ (hc 0 _ (bat_some hp))
  rw [e1]; exact this
set_option maxRecDepth 10000 in
set_option maxHeartbeats 2000000 in
theorem awake_any (P : PWr) (Q : PRd) (H : PFr) (w : World) :
    Calls Try.prog 12 #[] w fun e w' => e = .returned (.bool true) ∧ Below w.heap.size w w' := by
  obtain ⟨l1, h1⟩ : ∃ l, l = [] ++ vr 300 := ⟨_, rfl⟩
  obtain ⟨l2, h2⟩ : ∃ l, l = l1 ++ wI (-1) := ⟨_, rfl⟩
  obtain ⟨l3, h3⟩ : ∃ l, l = l2 ++ wT [97, 98] := ⟨_, rfl⟩
  obtain ⟨X, hX⟩ : ∃ l, l = l3 ++ wL [1, -2] := ⟨_, rfl⟩
  have hX2 : X = vr 300 ++ (wI (-1) ++ (wT [97, 98] ++ (wL [1, -2] ++ []))) := by rw [hX, h3, h2, h1]; simp
  have hXb : X = [172, 2, 1, 2, 97, 98, 2, 2, 3] := hX2.trans eg_bytes
  have hXl : X.length = 9 := by rw [hXb]; rfl
  have b1 : l1.length ≤ 9 ∧ l2.length ≤ 9 ∧ l3.length ≤ 9 := by
    rw [hX, List.length_append, h3, List.length_append, h2, List.length_append] at hXl
    rw [h3, List.length_append, h2, List.length_append]
    omega
  have c1 : ∀ p F w, P.O w p F [] → Calls Try.prog 42 #[ptr p, .int .u64 300] w (Ost P.O w p F (.tuple #[]) l1) := fun p F w h => by
    rw [h1]; exact P.uint 300 (by decide) p F [] (by simp) w h
  have c2 : ∀ p F w, P.O w p F l1 → Calls Try.prog 43 #[ptr p, .int .i64 (-1)] w (Ost P.O w p F (.tuple #[]) l2) := fun p F w h => by
    rw [h2]; exact P.int (-1) (by omega) (by omega) p F l1 (by omega) w h
  have c3 : ∀ p F w, P.O w p F l2 → Calls Try.prog 44 #[ptr p, .string ⟨#[97, 98]⟩] w (Ost P.O w p F (.tuple #[]) l3) := fun p F w h => by
    rw [h3]; exact P.text ⟨#[97, 98]⟩ (by decide) p F l2 (by omega) w h
  have c4 : ∀ p F w, P.O w p F l3 → Calls Try.prog 45 #[ptr p, .slice (some ⟨w.heap.size, 0, none⟩) 2 2] (w.alloc (.cells #[.int .i64 1, .int .i64 (-2)] 3)) (Ost P.O (w.alloc (.cells #[.int .i64 1, .int .i64 (-2)] 3)) p F (.tuple #[]) X) := fun p F w h => by
    rw [hX]
    exact P.ints (some ⟨w.heap.size, 0, none⟩) 2 [1, -2] fit_eg (by decide) (by decide) (fun e => absurd e (by simp)) p F l3 (by omega) _ (P.mv h (G := []) (Mv.of_below (below_al _ _)) (fun _ _ => by simp)) (two_ci w 1 (-2)) (fun _ b off e hb => by
      injection e with e
      injection e with e1 e2
      have := P.lt h b hb
      omega)
  have c5 : ∀ p F w, P.O w p F X → Calls Try.prog 20 #[ptr p] w fun e w' => ∃ A c F', e = .returned (.slice A 9 c) ∧ Cb w' A X ∧ 9 ≤ c ∧ (A = none → c = 0) ∧ Mv w F w' := fun p F w h =>
    (P.bytes p F X (by omega) w h).mono fun e w' ⟨A, n, c, F', q1, q2, q3, q4, q5, q6, q7, q8⟩ => by
      obtain rfl : n = 9 := q3.symm.trans hXl
      exact ⟨A, c, F', q1, q2, q4, q5, q7⟩
  have c6 : ∀ A c, 9 ≤ c → (A = none → c = 0) → ∀ w, Cb w A X → Calls Try.prog 22 #[.slice A 9 c] w (Onew Q.O w (.ok X)) := fun A c h1 h2 w hC => by
    have := Q.new A c X (by omega) (by omega) h2 w hC
    rw [hXl] at this; exact this
  obtain ⟨Y, hY⟩ : ∃ Y, Y = fr [97, 98, 99] := ⟨_, rfl⟩
  have hYl : Y.length = 12 := by rw [hY]; decide +kernel
  have c7 : ∀ w, Calls Try.prog 40 #[.slice (some ⟨w.heap.size, 0, none⟩) 3 3] (w.alloc (.cells #[.int .u8 97, .int .u8 98, .int .u8 99] 5 (3, 4))) fun e w' => ∃ A' c', e = .returned (.slice A' 12 c') ∧ Cb w' A' Y ∧ 12 ≤ c' ∧ (A' = none → c' = 0) ∧ Below w.heap.size w w' := fun w =>
    (H.frame (some ⟨w.heap.size, 0, none⟩) 3 [97, 98, 99] (by decide) (by decide) (fun e => absurd e (by simp)) _ (three_cb w 97 98 99)).mono fun e w' ⟨A', n', c', q1, q2, q3, q4, q5, q6, q7⟩ => by
      rw [← hY] at q2 q3
      obtain rfl : n' = 12 := q3.symm.trans hYl
      exact ⟨A', c', q1, q2, q4, q5, below_on (below_al _ _) q7⟩
  have c8 : ∀ A c, 12 ≤ c → (A = none → c = 0) → ∀ w, Cb w A Y → Calls Try.prog 38 #[.slice A 12 c, .int .i64 0] w fun e w' => ∃ A' c', e = .returned (.tuple #[.slice A' 3 c', .int .i64 12, .int .i64 0]) ∧ Cb w' A' [97, 98, 99] ∧ (∀ b off, A' = some ⟨b, off, none⟩ → w.heap.size ≤ b) ∧ Below w.heap.size w w' := fun A c h1 h2 w hC => by
    have := H.next A c Y 0 (by omega) (by omega) h2 w hC
    rw [hYl, hY, nxt_eg] at this
    exact this.mono fun e w' ⟨A', n', c', q1, q2, q3, q4, q5, q6, q7⟩ => by
      obtain rfl : n' = 3 := q3.symm
      exact ⟨A', c', q1, q2, q6, q7⟩
  have hcv2 : ∀ W A c, Cb W A [97, 98, 99] → (convert 38 9 (.slice A 3 c)).run Try.prog W = .ok (.string ⟨#[97, 98, 99]⟩) W := fun W A c h => conv_any W A 3 c [97, 98, 99] rfl h
  have c9 : ∀ A c w, Ci w A [1, -2] → Calls Try.prog 30 #[.slice A 2 c, .slice (some ⟨w.heap.size, 0, none⟩) 2 2] (w.alloc (.cells #[.int .i64 1, .int .i64 (-2)] 3)) fun e w' => e = .returned (.bool true) ∧ ∃ d, w' = (w.alloc (.cells #[.int .i64 1, .int .i64 (-2)] 3)).drewN d := fun A c w h =>
    same_any A (some ⟨w.heap.size, 0, none⟩) 2 2 c 2 [1, -2] [1, -2] (Lib.hid rfl) (Lib.hid rfl) (by omega) (by omega) true (Lib.hid (by simp)) _ (h.below (below_al _ _)) (two_ci w 1 (-2))
  have hcv : ∀ W A c, Cb W A X → (convert 38 9 (.slice A 9 c)).run Try.prog W = .ok (.string ⟨#[172, 2, 1, 2, 97, 98, 2, 2, 3]⟩) W := fun W A c h => by
    have := conv_any W A 9 c X hXl h
    rw [hXb] at this
    exact this
  obtain ⟨S1, hS1⟩ : ∃ S, S = Rs.ok (wI (-1) ++ (wT [97, 98] ++ (wL [1, -2] ++ []))) := ⟨_, rfl⟩
  obtain ⟨S2, hS2⟩ : ∃ S, S = Rs.ok (wT [97, 98] ++ (wL [1, -2] ++ [])) := ⟨_, rfl⟩
  obtain ⟨S3, hS3⟩ : ∃ S, S = Rs.ok (wL [1, -2] ++ []) := ⟨_, rfl⟩
  have hr1 : rU (.ok X) = (300, S1) := by rw [hX2, hS1]; exact rU_vr (by decide) _
  have hr2 : rI S1 = (-1, S2) := by rw [hS1, hS2]; exact rI_wI (by omega) (by omega) _
  have hr3 : rT 2 S2 = ([97, 98], S3) := by rw [hS2, hS3]; exact rT_eg _
  have hr4 : rL 2 S3 = ([1, -2], .ok []) := by rw [hS3]; exact rL_eg
  have hl1 : (Rs.ok X).left ≤ 100000000 := by show X.length ≤ _; omega
  have hl2 : S1.left ≤ 100000000 := by rw [hS1]; decide +kernel
  have hl3 : S2.left ≤ 100000000 := by rw [hS2]; decide +kernel
  have hl4 : S3.left ≤ 100000000 := by rw [hS3]; decide +kernel
  have d1 : ∀ r F w, Q.O w r F (.ok X) → Calls Try.prog 26 #[ptr r] w (Ost Q.O w r F (.int .u64 300) S1) := fun r F w h => by
    have := Q.uint r F (.ok X) hl1 w h; rw [hr1] at this; exact this
  have d2 : ∀ r F w, Q.O w r F S1 → Calls Try.prog 24 #[ptr r] w (Ost Q.O w r F (.int .i64 (-1)) S2) := fun r F w h => by
    have := Q.int r F S1 hl2 w h; rw [hr2] at this; exact this
  have d3 : ∀ r F w, Q.O w r F S2 → Calls Try.prog 28 #[ptr r, .int .i64 2] w (Ost Q.O w r F (.string ⟨#[97, 98]⟩) S3) := fun r F w h => by
    have := Q.text 2 (by omega) (by omega) r F S2 hl3 w h; rw [hr3] at this; exact this
  have d4 : ∀ r F w, Q.O w r F S3 → Calls Try.prog 31 #[ptr r, .int .i64 2] w (Ois Q.O w r F [1, -2] (.ok [])) := fun r F w h => by
    have := Q.ints 2 (by omega) (by omega) r F S3 hl4 w h; rw [hr4] at this; exact this
  have d5 : ∀ r F w, Q.O w r F (.ok []) → Calls Try.prog 33 #[ptr r] w (Ost Q.O w r F (.int .i64 0) (.ok [])) := fun r F w h => Q.left r F (.ok []) (by decide) w h
  have d6 : ∀ r F w, Q.O w r F (.ok []) → Calls Try.prog 35 #[ptr r] w (Ost Q.O w r F (.int .i64 0) (.ok [])) := fun r F w h => Q.err r F (.ok []) w h
  have kc : ∀ w : World, (convert 38 38 (.slice (some ⟨w.heap.size, 0, none⟩) 3 3)).run Try.prog (w.alloc (.cells #[.int .u8 97, .int .u8 98, .int .u8 99] 5)) = .ok (.slice (some ⟨w.heap.size, 0, none⟩) 3 3) (w.alloc (.cells #[.int .u8 97, .int .u8 98, .int .u8 99] 5 (3, 4))) := fun w =>
    Lib.run_convert_bytes_const (P := Try.prog) w 38 5 #[.int .u8 97, .int .u8 98, .int .u8 99] 3 3 Try.underlying38 Try.underlying5
  clear hr1 hr2 hr3 hr4 hl1 hl2 hl3 hl4 hS1 hS2 hS3 hX hX2 hXb h1 h2 h3 b1 hY hYl hXl
  go_enter Try.func12, Try.ntmps12
  go_wp2_with (first
    | (go_at_call 13; (refine (P.new _).mono ?_); rintro e w1 ⟨p, F1, rfl, O1, B1, G1⟩)
    | (go_at_call 42; (refine (c1 _ _ _ O1).mono ?_); rintro e w2 ⟨rfl, F2, O2, M2, N2⟩; have B2 := M2.below B1 G1; have G2 := nw_ge N2 G1 B1.size)
    | (go_at_call 43; (refine (c2 _ _ _ O2).mono ?_); rintro e w3 ⟨rfl, F3, O3, M3, N3⟩; have B3 := M3.below B2 G2; have G3 := nw_ge N3 G2 B2.size)
    | (go_at_call 44; (refine (c3 _ _ _ O3).mono ?_); rintro e w4 ⟨rfl, F4, O4, M4, N4⟩; have B4 := M4.below B3 G3; have G4 := nw_ge N4 G3 B3.size; have B4a := B4.alloc B4.size (.cells #[.int .i64 1, .int .i64 (-2)] 3))
    | (go_at_call 45; (refine (c4 _ _ _ O4).mono ?_); rintro e w5 ⟨rfl, F5, O5, M5, N5⟩; have B5 := M5.below B4a G4; have G5 := nw_ge N5 G4 B4a.size)
    | (go_at_call 20; (refine (c5 _ _ _ O5).mono ?_); rintro e w6 ⟨A6, k6, F6, rfl, C6, hk6, hA6, M6⟩; have B6 := M6.below B5 G5)
    | (go_at_call 22; (refine (c6 _ _ hk6 hA6 _ C6).mono ?_); rintro e w7 ⟨r, F7, rfl, O7, B67, G67⟩; have B7 := below_on B6 B67; have G7 : ∀ k ∈ F7, w.heap.size ≤ k := (fun k hk => Nat.le_trans B6.size (G67 k hk)); have v7 := hcv w7 A6 k6 (C6.below B67))
    | (go_at_call 26; (refine (d1 _ _ _ O7).mono ?_); rintro e w8 ⟨rfl, F8, O8, M8, N8⟩; have B8 := M8.below B7 G7; have G8 := nw_ge N8 G7 B7.size)
    | (go_at_call 24; (refine (d2 _ _ _ O8).mono ?_); rintro e w9 ⟨rfl, F9, O9, M9, N9⟩; have B9 := M9.below B8 G8; have G9 := nw_ge N9 G8 B8.size)
    | (go_at_call 28; (refine (d3 _ _ _ O9).mono ?_); rintro e wa ⟨rfl, Fa, Oa, Ma, Na⟩; have Ba := Ma.below B9 G9; have Ga := nw_ge Na G9 B9.size)
    | (go_at_call 31; (refine (d4 _ _ _ Oa).mono ?_); rintro e wb ⟨Ab, nb, cb, Fb, rfl, Cb', nb', _, _, _, Ob, Mb, Nb⟩; obtain rfl : nb = 2 := nb'.symm; have Bb := Mb.below Ba Ga; have Gb := nw_ge Nb Ga Ba.size)
    | (go_at_call 40; (refine (c7 _).mono ?_); rintro e wc ⟨Ac, cc, rfl, Cc, hcc, hAc, Bbc⟩; have Bc := below_on Bb Bbc; have Ic := Cb'.below Bbc)
    | (go_at_call 38; (refine (c8 _ _ hcc hAc _ Cc).mono ?_); rintro e wd ⟨Ad, cd, rfl, Cd, hnd, Bcd⟩; have Bd := below_on Bc Bcd; have Id := Ic.below Bcd; have Od := Q.mv Ob (G := []) (Mv.of_below (below_on (below_on Bbc Bcd) (below_al wd (.cells #[.int .i64 1, .int .i64 (-2)] 3)))) (fun _ _ => by simp))
    | (go_at_call 30; (refine (c9 _ _ _ Id).mono ?_); rintro e we ⟨rfl, hde⟩; have Be := drawn_below Bd hde; have Oe := drawn_q Q Od hde; have Ce := drawn_cb Cd hde)
    | (go_at_call 33; (refine (d5 _ _ _ Oe).mono ?_); rintro e wf ⟨rfl, Ff, Of, Mf, Nf⟩; have Bf := Mf.below Be Gb; have Gf := nw_ge Nf Gb Be.size; have Cf := Cb.mv Ce Mf (fun b off e hb => by have := hnd b off e; have := Q.lt Ob b hb; have := Bbc.size; omega))
    | (go_at_call 35; (refine (d6 _ _ _ Of).mono ?_); rintro e wg ⟨rfl, Fg, Og, Mg, Ng⟩; have Bg := Mg.below Bf Gf; have vg := hcv2 wg Ad cd (Cb.mv Cf Mg (fun b off e hb => by
        have h1 := hnd b off e
        have h2 := Q.lt Ob
        have h3 := Bbc.size
        rcases Nf b hb with x | x
        · have := h2 b x; omega
        · exact absurd x (Nat.not_le.2 (cb_lt Ce e (by decide)))))))
  go_ret
  exact ⟨rfl, Bg⟩
end Go.Proofs.Ytpmmddemeiljjaa.wrW

/-
  Two objects side by side, of any two kinds; the law WireWrites, over any writer that keeps the record of contracts, beside the reference's.
-/
import Derived.Test.YtpmmddemeiljjaaWrX
import Derived.Deep.RegionWith
namespace Go.Proofs.Ytpmmddemeiljjaa.wrZ
open Go.RowKit
open Go.Proofs.Ytpmmddemeiljjaa.dgM Go.Proofs.Ytpmmddemeiljjaa.wrM Go.Proofs.Ytpmmddemeiljjaa.wrO Go.Proofs.Ytpmmddemeiljjaa.wrA Go.Proofs.Ytpmmddemeiljjaa.wrB Go.Proofs.Ytpmmddemeiljjaa.wrC Go.Proofs.Ytpmmddemeiljjaa.wrE Go.Proofs.Ytpmmddemeiljjaa.wrH Go.Proofs.Ytpmmddemeiljjaa.wrQ Go.Proofs.Ytpmmddemeiljjaa.wrL Go.Proofs.Ytpmmddemeiljjaa.wrW Go.Proofs.Ytpmmddemeiljjaa.wrX
set_option linter.unusedVariables false

/-! ### two objects -/
abbrev Ob (σ : Type) := World → Nat → List Nat → σ → Prop
structure Kp {σ : Type} (O : Ob σ) : Prop where
  mv : ∀ {w w' : World} {p : Nat} {F G : List Nat} {l : σ}, O w p F l → Mv w G w' → (∀ k ∈ F, k ∉ G) → O w' p F l
  lt : ∀ {w : World} {p : Nat} {F : List Nat} {l : σ}, O w p F l → ∀ k ∈ F, k < w.heap.size
theorem kpw (P : PWr) : Kp P.O := ⟨P.mv, P.lt⟩
theorem kpr (Q : PRd) : Kp Q.O := ⟨Q.mv, Q.lt⟩
theorem kpwr : Kp refW.O := ⟨refW.mv, refW.lt⟩
theorem kprr : Kp refR.O := ⟨refR.mv, refR.lt⟩
structure Duo {σ τ : Type} (O : Ob σ) (U : Ob τ) (w0 w : World) (p : Nat) (F : List Nat) (v : Nat) (G : List Nat) (S : σ) (T : τ) : Prop where
  q : O w p F S
  p : U w v G T
  d : ∀ k ∈ F, k ∉ G
  g : ∀ k ∈ F, w0.heap.size ≤ k
  g2 : ∀ k ∈ G, w0.heap.size ≤ k
  b : Below w0.heap.size w0 w
section
variable {σ τ : Type} {O : Ob σ} {U : Ob τ} {w0 w w' : World} {p v : Nat} {F F' G G' : List Nat} {S S' : σ} {T T' : τ}
theorem Duo.s1 (h : Duo O U w0 w p F v G S T) (KU : Kp U) (o : O w' p F' S') (M : Mv w F w') (N : Nw w F F') : Duo O U w0 w' p F' v G S' T :=
  ⟨o, KU.mv h.p M (fun k hk hg => h.d k hg hk), fun k hk hg => by
    rcases N k hk with x | x
    · exact h.d k x hg
    · have := KU.lt h.p k hg; omega, nw_ge N h.g h.b.size, h.g2, M.below h.b h.g⟩
theorem Duo.s2 (h : Duo O U w0 w p F v G S T) (KO : Kp O) (o : U w' v G' T') (M : Mv w G w') (N : Nw w G G') : Duo O U w0 w' p F v G' S T' :=
  ⟨KO.mv h.q M h.d, o, fun k hk hg => by
    rcases N k hg with x | x
    · exact h.d k hk x
    · have := KO.lt h.q k hk; omega, h.g, nw_ge N h.g2 h.b.size, M.below h.b h.g2⟩
theorem Duo.on (h : Duo O U w0 w p F v G S T) (KO : Kp O) (KU : Kp U) (B : Below w.heap.size w w') : Duo O U w0 w' p F v G S T :=
  ⟨KO.mv h.q (G := []) (Mv.of_below B) (fun _ _ => by simp), KU.mv h.p (G := []) (Mv.of_below B) (fun _ _ => by simp), h.d, h.g, h.g2, below_on h.b B⟩
theorem Duo.drawn (h : Duo O U w0 w p F v G S T) (KO : Kp O) (KU : Kp U) (hd : ∃ d, w' = w.drewN d) : Duo O U w0 w' p F v G S T := by
  obtain ⟨d, rfl⟩ := hd
  exact ⟨KO.mv h.q (G := []) ((Mv.refl _ _).drew d) (fun _ _ => by simp), KU.mv h.p (G := []) ((Mv.refl _ _).drew d) (fun _ _ => by simp), h.d, h.g, h.g2, ⟨h.b.os, h.b.tape, h.b.output, h.b.size, h.b.block⟩⟩
theorem Duo.start (KO : Kp O) (o : O w p F S) (B : Below w0.heap.size w0 w) (g : ∀ k ∈ F, w0.heap.size ≤ k) (B' : Below w.heap.size w w') (o' : U w' v G T) (g' : ∀ k ∈ G, w.heap.size ≤ k) : Duo O U w0 w' p F v G S T :=
  ⟨KO.mv o (G := []) (Mv.of_below B') (fun _ _ => by simp), o', fun k hk hg => by have := KO.lt o k hk; have := g' k hg; omega, g, fun k hk => Nat.le_trans B.size (g' k hk), below_on B B'⟩
end

/-! ### the law -/
set_option maxRecDepth 10000 in
set_option maxHeartbeats 2000000 in
theorem writes (P : PWr) (Q : PRd) (H : PFr) (A : Option Addr) (n c : Nat) (xs : List It) (hn : Hid (xs.length = n)) (hN : n ≤ 9223372036854775807) (w : World) (hI : Its w A xs) :
    Calls Try.prog 3 #[.slice A n c] w fun e w' => e = .returned (.bool true) ∧ Below w.heap.size w w' := by
  by_cases hf : Few xs
  · have cf := fun w h => few_any A n c xs hn hN true (Lib.hid ⟨fun _ => hf, fun _ => rfl⟩) w h
    have hn2 : n ≤ 200 := by rw [← hn.out]; exact hf.1
    have hall : ∀ x ∈ xs, x.s.size ≤ 5000 ∧ x.l.length ≤ 5000 := fun x hx => by
      obtain ⟨j, hj, rfl⟩ := List.mem_iff_getElem.1 hx
      exact hf.2 j hj
    have hlen : (wXs xs).length ≤ 10100000 := by
      have := wXs_len xs hall
      rw [hn.out] at this; omega
    have HF : Hid (∀ k (h : k < xs.length), xs[k].s.size ≤ 100000 ∧ xs[k].l.length ≤ 100000) := Lib.hid fun k h => by
      have := hf.2 k h; omega
    have cw := fun p F w' hb hF hW => write_any P A n c xs hn (by omega) p F [] (Lib.hid (by rw [List.nil_append]; omega)) HF w w' hI hb hF hW
    obtain ⟨X, hX⟩ : ∃ X, X = wXs xs := ⟨_, rfl⟩
    rw [List.nil_append, ← hX] at cw
    have hXl : X.length ≤ 10100000 := by rw [hX]; exact hlen
    have cb := fun p F w h => P.bytes p F X (by omega) w h
    have HX := Lib.hid hX
    clear hX hf hall
    go_enter Try.func3, Try.ntmps3
    go_wp2_with (first
      | (go_at_call 11; (with_reducible refine (cf _ hI).mono ?_); rintro e w' ⟨rfl, rfl⟩)
      | (go_at_call 13; (refine (P.new _).mono ?_); rintro e w1 ⟨p, F1, rfl, O1, B1, G1⟩)
      | (go_at_call 14; (refine (refW.new _).mono ?_); rintro e w2 ⟨v, F2, rfl, O2, B2, G2⟩; have D2 := Duo.start (kpw P) O1 B1 G1 B2 O2 G2)
      | (go_at_call 15; (refine (cw _ _ _ D2.b D2.g D2.q).mono ?_); rintro e w3 ⟨rfl, F3, O3, M3, N3⟩; have D3 := D2.s1 kpwr O3 M3 N3))
    go_loopw [19] (fun s19 wr => ∃ (k : Nat) (G : List Nat), k ≤ n ∧ s19 = .int .i64 (k : Int) ∧ Hid (Duo P.O refW.O w wr p F3 v G X (wXs (xs.take k)))) (fun s19 _ => n - (intOf s19).toNat)
    case atStart => exact ⟨0, F2, Nat.zero_le _, rfl, Lib.hid (by rw [List.take_zero]; exact D3)⟩
    case round =>
      obtain ⟨k, G, hk, rfl, D⟩ := hrel
      by_cases hlt : k < n
      · have hk2 : k < xs.length := by rw [hn.out]; exact hlt
        obtain ⟨b, off, rfl, hx⟩ := (hI.below D.out.b).at_ (k := k) hk2
        obtain ⟨b0, off0, e0, hx0⟩ := hI.at_ (k := k) hk2
        obtain ⟨h0, h1, h2, h3, h4, h5, h6⟩ := hx
        have hsz2 := HF.out k hk2
        have hst := wXs_take hk2
        have hl2 : (wXs (xs.take k)).length ≤ 100000000 := by
          have := wXs_le xs k
          omega
        have hd : 0 < xs[k].l.length → ∀ b off, xs[k].A = some ⟨b, off, none⟩ → b ∉ G := fun hp b off e hg => by
          obtain ⟨b', off', e', hc'⟩ := hx0.2.2.2.2.2.1 hp
          rw [e] at e'
          injection e' with e'
          injection e' with e1 e2
          have := World.block_lt_of_cell? w _ (hc' 0 _ (iat_some hp))
          have := D.out.g2 b hg
          simp at *
          omega
        have hOr := D.out.p
        have i0 : (0 : Int) ≤ (k : Int) := by omega
        have i1 : (k : Int) < (n : Int) := by omega
        have HE : Hid (wXs (xs.take k) ++ wX xs[k] = wXs (xs.take (k + 1))) := Lib.hid hst.symm
        clear hst hx0 e0 hlen
        generalize xs[k] = x at *
        obtain ⟨hk1, hn1, hu1, hf1, hc1, hs1, hA1⟩ := h6
        generalize wXs (xs.take k) = l1 at *
        by_cases k1 : x.kind = 1
        · have hw : wX x = wI x.n := if_pos k1
          rw [hw] at HE
          have t1 : (x.kind == 1) = true := by simpa using k1
          clear hw
          go_wp2_with (go_at_call 16; (refine (refW.int x.n hn1.1 hn1.2 v G l1 hl2 wr hOr).mono ?_); rintro e w4 ⟨rfl, G3, W3, M3, N3⟩; have D4 := D.out.s2 (kpw P) W3 M3 N3)
          go_roundw
          case rel => exact ⟨k + 1, G3, by omega, by go_num, Lib.hid (by rw [← HE.out]; exact D4)⟩
          case measure => simp [intOf]; omega
        have t1 : (x.kind == 1) = false := by simpa using k1
        by_cases k2 : x.kind = 2
        · have hw : wX x = vr x.u := by unfold wX; rw [if_neg k1, if_pos k2]
          rw [hw] at HE
          have t2 : (x.kind == 2) = true := by simpa using k2
          clear k1
          clear hw
          go_wp2_with (go_at_call 17; (refine (refW.uint x.u hu1 v G l1 hl2 wr hOr).mono ?_); rintro e w4 ⟨rfl, G3, W3, M3, N3⟩; have D4 := D.out.s2 (kpw P) W3 M3 N3)
          go_roundw
          case rel => exact ⟨k + 1, G3, by omega, by go_num, Lib.hid (by rw [← HE.out]; exact D4)⟩
          case measure => simp [intOf]; omega
        have t2 : (x.kind == 2) = false := by simpa using k2
        by_cases k3 : x.kind = 3
        · have hw : wX x = wT x.s.data.toList := by unfold wX; rw [if_neg k1, if_neg k2, if_pos k3]
          rw [hw] at HE
          have t3 : (x.kind == 3) = true := by simpa using k3
          clear k1 k2
          clear hw
          go_wp2_with (go_at_call 18; (refine (refW.text x.s hsz2.1 v G l1 hl2 wr hOr).mono ?_); rintro e w4 ⟨rfl, G3, W3, M3, N3⟩; have D4 := D.out.s2 (kpw P) W3 M3 N3)
          go_roundw
          case rel => exact ⟨k + 1, G3, by omega, by go_num, Lib.hid (by rw [← HE.out]; exact D4)⟩
          case measure => simp [intOf]; omega
        have t3 : (x.kind == 3) = false := by simpa using k3
        have hw : wX x = wL x.l := by unfold wX; rw [if_neg k1, if_neg k2, if_neg k3]
        rw [hw] at HE
        clear k1 k2 k3
        clear hw
        go_wp2_with (go_at_call 19; (refine (refW.ints x.A x.c x.l hf1 hsz2.2 hc1 hA1 v G l1 hl2 wr hOr h5 hd).mono ?_); rintro e w4 ⟨rfl, G3, W3, M3, N3⟩; have D4 := D.out.s2 (kpw P) W3 M3 N3)
        go_roundw
        case rel => exact ⟨k + 1, G3, by omega, by go_num, Lib.hid (by rw [← HE.out]; exact D4)⟩
        case measure => simp [intOf]; omega
      · obtain rfl : k = n := by omega
        have D0 := D.out
        rw [List.take_of_length_le (by rw [hn.out]; exact Nat.le_refl _), ← HX.out] at D0
        clear D hlen HF cw cf
        obtain ⟨L, hL⟩ : ∃ L, L = X.length := ⟨_, rfl⟩
        have cv : ∀ W A c, Cb W A X → (convert 38 9 (.slice A L c)).run Try.prog W = .ok (.string ⟨X.toArray⟩) W := fun W A c h => conv_any W A L c X hL.symm h
        have cb3 : ∀ F w, P.O w p F X → Calls Try.prog 20 #[ptr p] w fun e w' => ∃ A c F', e = .returned (.slice A L c) ∧ Cb w' A X ∧ P.O w' p F' X ∧ Mv w F w' ∧ Nw w F F' := fun F w h => (cb p F w h).mono fun e w' ⟨A, n, c, F', q1, q2, q3, q4, q5, q6, q7, q8⟩ => by
          obtain rfl : n = L := by omega
          exact ⟨A, c, F', q1, q2, q6, q7, q8⟩
        have cb4 : ∀ F w, refW.O w v F X → Calls Try.prog 21 #[ptr v] w fun e w' => ∃ A c, e = .returned (.slice A L c) ∧ Cb w' A X ∧ Below w.heap.size w w' := fun F w h => (wrD.rbytes_any v F X (by omega) w h).mono fun e w' ⟨v, h1, h2, h3⟩ => by
          obtain ⟨A, c, rfl, hc, hC, hA, _⟩ := own_form h2
          exact ⟨A, c, by rw [hL]; exact h1, hC, h3⟩
        have D2' : Duo P.O refW.O w wr.drew p F3 v G X X := D0.drawn (kpw P) kpwr ⟨1, rfl⟩
        clear cb hL D2 D3 O3 M3 N3 O1 B1 G1 O2 B2 G2
        go_upto_region 20 with fail
        go_region_with (first
          | (go_at_call 20; (with_reducible refine (cb3 _ _ D2'.q).mono ?_); rintro e w5 ⟨A5, c5, F5, rfl, C5, O5, M5, N5⟩; have D5 := D2'.s1 kpwr O5 M5 N5; have v5 := cv w5 A5 c5 C5)
          | (go_at_call 21; (with_reducible refine (cb4 _ _ D5.p).mono ?_); rintro e w6 ⟨A6, c6, rfl, C6, B6⟩; have v6 := cv w6 A6 c6 C6; have v7 := cv w6 A5 c5 (C5.below B6); have B6' := below_on D5.b B6)
          | (go_at_call 12; (with_reducible refine (awake_any P Q H _).mono ?_); rintro e w7 ⟨rfl, B7⟩))
        all_goals
          go_wp2_with fail
          go_ret
          exact ⟨rfl, below_on B6' B7⟩
  · have cf := fun w h => few_any A n c xs hn hN false (Lib.hid ⟨fun h => absurd h (by simp), fun h => absurd h hf⟩) w h
    clear hf
    go_enter Try.func3, Try.ntmps3
    go_wp2_with (first
      | (go_at_call 11; (with_reducible refine (cf _ hI).mono ?_); rintro e w' ⟨rfl, rfl⟩)
      | (go_at_call 12; (refine (awake_any P Q H _).mono ?_); rintro e w6 ⟨rfl, B6⟩))
    go_ret
    exact ⟨rfl, B6⟩
end Go.Proofs.Ytpmmddemeiljjaa.wrZ

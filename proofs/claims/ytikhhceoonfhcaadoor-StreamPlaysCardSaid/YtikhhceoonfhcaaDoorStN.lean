/-
  What both answer, side by side; the laws' same; the laws StreamPlays, StreamRepeats.
-/
import Derived.Test.YtikhhceoonfhcaaDoorStL
namespace Go.Proofs.YtikhhceoonfhcaaDoor.stN
open Go.RowKit
open Go.Proofs.YtikhhceoonfhcaaDoor.dgM Go.Proofs.YtikhhceoonfhcaaDoor.dgA Go.Proofs.YtikhhceoonfhcaaDoor.dgB Go.Proofs.YtikhhceoonfhcaaDoor.stM Go.Proofs.YtikhhceoonfhcaaDoor.stA Go.Proofs.YtikhhceoonfhcaaDoor.stB Go.Proofs.YtikhhceoonfhcaaDoor.stC Go.Proofs.YtikhhceoonfhcaaDoor.stD Go.Proofs.YtikhhceoonfhcaaDoor.stE Go.Proofs.YtikhhceoonfhcaaDoor.stL
set_option linter.unusedVariables false

/-! ### what both answer, at any numbers -/
theorem still {P : Program} {f : FuncId} {args : Array Value} {w : World} {p a k : Nat} {v : Value} (hL : Lv w p a k) (h : Calls P f args w fun e w' => e = .returned v ∧ w = w') : Calls P f args w (Nst w p a k v) :=
  h.mono fun e w' ⟨he, hw⟩ => ⟨he, hw ▸ hL, hw ▸ Mv.refl _ _⟩
theorem still_nil {P : Program} {f : FuncId} {args : Array Value} {w : World} {p a k E : Nat} (hL : Lv w p a k) (h : Calls P f args w fun e w' => e = .returned (.tuple #[.slice none 0 0, .int .i64 (E : Int)]) ∧ w = w') : Calls P f args w (Lst w p a k [] E) :=
  h.mono fun e w' ⟨he, hw⟩ => by
    subst he
    subst hw
    exact lst_nil hL (Mv.refl _ _)
theorem below_pair (a k : Nat) (ha : a < A64) (n : Int) : ∃ V E k' : Nat,
    (∀ p w, Lv w p a k → Calls Tryd.prog 18 #[.pointer (some ⟨p, 0, none⟩), .int .i64 n] w (Nst w p a k' (.tuple #[.int .i64 (V : Int), .int .i64 (E : Int)]))) ∧
    (∀ p w, Lv w p a k → Calls Tryd.prog 19 #[.pointer (some ⟨p, 0, none⟩), .int .i64 n] w (Nst w p a k' (.tuple #[.int .i64 (V : Int), .int .i64 (E : Int)]))) := by
  by_cases ho : n < 1 ∨ 2147483648 < n
  · exact ⟨0, 2, k, fun p w h => still h (below_out n ho p w), fun p w h => still h (rbelow_out n ho p w)⟩
  · obtain ⟨m, rfl⟩ := Int.eq_ofNat_of_zero_le (show 0 ≤ n by omega)
    have h0 : 0 < m := by omega
    have h1 : m ≤ 2147483648 := by omega
    obtain ⟨B, hB⟩ : ∃ B, B = bl a := ⟨_, rfl⟩
    cases hb : B m k with
    | mk V r =>
    obtain ⟨E, k1⟩ := r
    rw [hB] at hb
    exact ⟨V, E, k1, fun p w h => below_any m h0 h1 p a k V E k1 ha (Lib.hid hb) w h, fun p w h => rbelow_any m h0 h1 p a k V E k1 ha (Lib.hid hb) w h⟩
theorem shuf_pair (a k : Nat) (ha : a < A64) (n : Int) : ∃ (X : List Int) (E k' : Nat), X.length ≤ 4096 ∧
    (∀ p w, Lv w p a k → Calls Tryd.prog 20 #[.pointer (some ⟨p, 0, none⟩), .int .i64 n] w (Lst w p a k' X E)) ∧
    (∀ p w, Lv w p a k → Calls Tryd.prog 26 #[.pointer (some ⟨p, 0, none⟩), .int .i64 n] w (Lst w p a k' X E)) := by
  by_cases ho : n < 0 ∨ 4096 < n
  · exact ⟨[], 2, k, by simp, fun p w h => still_nil h (shuf_out n ho p w), fun p w h => still_nil h (rshuf_out n ho p w)⟩
  · obtain ⟨m, rfl⟩ := Int.eq_ofNat_of_zero_le (show 0 ≤ n by omega)
    have h1 : m ≤ 4096 := by omega
    obtain ⟨B, hB⟩ : ∃ B, B = bl a := ⟨_, rfl⟩
    cases hb : shR B m k with
    | mk X r =>
    obtain ⟨E, k1⟩ := r
    have hx : X.length ≤ 4096 := by
      have hbl := bl_bl a
      rw [← hB] at hbl
      have := shR_perm hbl m k
      rw [hb] at this
      rcases this with ⟨_, h⟩ | ⟨_, h⟩
      · have h' := h.length_eq
        rw [up_len] at h'
        simp only at h'
        omega
      · simp only at h
        rw [h]; simp
    exact ⟨X, E, k1, hx, fun p w h => shuf_any B m h1 p a k E k1 X ha (Lib.hid hB) (Lib.hid hb) w h, fun p w h => rshuf_any B m h1 p a k E k1 X ha (Lib.hid hB) (Lib.hid hb) w h⟩
theorem samp_pair (a k : Nat) (ha : a < A64) (n c : Int) : ∃ (X : List Int) (E k' : Nat), X.length ≤ 4096 ∧
    (∀ p w, Lv w p a k → Calls Tryd.prog 22 #[.pointer (some ⟨p, 0, none⟩), .int .i64 n, .int .i64 c] w (Lst w p a k' X E)) ∧
    (∀ p w, Lv w p a k → Calls Tryd.prog 27 #[.pointer (some ⟨p, 0, none⟩), .int .i64 n, .int .i64 c] w (Lst w p a k' X E)) := by
  by_cases ho : n < 0 ∨ 4096 < n ∨ c < 0 ∨ n < c
  · exact ⟨[], 2, k, by simp, fun p w h => still_nil h (samp_out n c ho p w), fun p w h => still_nil h (rsamp_out n c ho p w)⟩
  · obtain ⟨m, rfl⟩ := Int.eq_ofNat_of_zero_le (show 0 ≤ n by omega)
    obtain ⟨d, rfl⟩ := Int.eq_ofNat_of_zero_le (show 0 ≤ c by omega)
    have h1 : m ≤ 4096 := by omega
    have h2 : d ≤ m := by omega
    obtain ⟨B, hB⟩ : ∃ B, B = bl a := ⟨_, rfl⟩
    cases hb : smR B m d k with
    | mk X r =>
    obtain ⟨E, k1⟩ := r
    have hx : X.length ≤ 4096 := by
      have hbl := bl_bl a
      rw [← hB] at hbl
      by_cases e : (smR B m d k).2.1 = 0
      · have h' := (smR_ok hbl h2 e).1
        rw [hb] at h'
        simp only at h'
        omega
      · have h' := smR_bad hbl h2 e
        rw [hb] at h'
        simp only at h'
        rw [h']; simp
    exact ⟨X, E, k1, hx, fun p w h => samp_any B m d h1 h2 p a k E k1 X ha (Lib.hid hB) (Lib.hid hb) w h, fun p w h => rsamp_any B m d h1 h2 p a k E k1 X ha (Lib.hid hB) (Lib.hid hb) w h⟩
/-- a list that has been answered, its length named ahead -/
def Lsn (w : World) (p a k : Nat) (X : List Int) (N E : Nat) (e : Ending) (w' : World) : Prop :=
  ∃ A c, e = .returned (.tuple #[.slice A N c, .int .i64 (E : Int)]) ∧ N ≤ c ∧ Ci w' A X ∧ (∀ b off, A = some ⟨b, off, none⟩ → w.heap.size ≤ b) ∧ Lv w' p a k ∧ Mv w [p] w'
theorem lst_n {w : World} {p a k : Nat} {X : List Int} {N E : Nat} {e : Ending} {w' : World} (hN : Hid (X.length = N)) (h : Lst w p a k X E e w') : Lsn w p a k X N E e w' := by
  obtain ⟨A, n, c, he, hn, r⟩ := h
  obtain rfl : n = N := by rw [← hn, hN.out]
  exact ⟨A, c, he, r⟩
theorem ci_keep {w w' : World} {A : Option Addr} {X : List Int} {p : Nat} (h : Ci w A X) (hn : ∀ b off, A = some ⟨b, off, none⟩ → b ≠ p) (m : Mv w [p] w') : Ci w' A X := h.mv m fun b off e => by simpa using hn b off e
theorem ci_draw {w w' : World} {A : Option Addr} {X : List Int} (h : Ci w A X) (m : ∃ d, w' = w.drewN d) : Ci w' A X := by
  obtain ⟨d, rfl⟩ := m
  exact h
theorem mv_draw {w w' : World} (m : ∃ d, w' = w.drewN d) : Mv w [] w' := by
  obtain ⟨d, rfl⟩ := m
  exact (Mv.refl _ _).drew d

/-! ### calls asked -/
structure Op3 where
  kind : Int
  n : Int
  k : Int
def OpAt (w : World) (b off : Nat) (x : Op3) : Prop := w.cell? ⟨b, off, none⟩ = some (.int .i64 x.kind) ∧ w.cell? ⟨b, off + 1, none⟩ = some (.int .i64 x.n) ∧ w.cell? ⟨b, off + 2, none⟩ = some (.int .i64 x.k)
def Ops (w : World) (A : Option Addr) (xs : List Op3) : Prop :=
  0 < xs.length → ∃ b off, A = some ⟨b, off, none⟩ ∧ ∀ (j : Nat) (x : Op3), xs[j]? = some x → OpAt w b (off + j * 3) x
theorem OpAt.below {w w' : World} {b off : Nat} {x : Op3} (h : OpAt w b off x) (hb : Below w.heap.size w w') : OpAt w' b off x := by
  have hlt : b < w.heap.size := World.block_lt_of_cell? w _ h.1
  exact ⟨by rw [hb.cell (p := ⟨b, off, none⟩) hlt]; exact h.1, by rw [hb.cell (p := ⟨b, off + 1, none⟩) hlt]; exact h.2.1, by rw [hb.cell (p := ⟨b, off + 2, none⟩) hlt]; exact h.2.2⟩
theorem Ops.at_ {w : World} {A : Option Addr} {xs : List Op3} (h : Ops w A xs) {k : Nat} (hk : k < xs.length) : ∃ b off, A = some ⟨b, off, none⟩ ∧ OpAt w b (off + k * 3) xs[k] := by
  obtain ⟨b, off, e, hc⟩ := h (by omega)
  exact ⟨b, off, e, hc k _ (by rw [List.getElem?_eq_getElem hk])⟩

/-! ### same -/
def SameP (w0 : World) (p q a : Nat) (e : Ending) (w' : World) : Prop := e = .returned (.bool true) ∧ ∃ k, Two w0 w' p q a a k k
set_option maxRecDepth 10000 in
set_option maxHeartbeats 2000000 in
theorem same_any (p q a k : Nat) (ha : a < A64) (x : Op3) (w0 w : World) (D : Two w0 w p q a a k k) :
    Calls Tryd.prog 17 #[.pointer (some ⟨p, 0, none⟩), .pointer (some ⟨q, 0, none⟩), .agg #[.int .i64 x.kind, .int .i64 x.n, .int .i64 x.k]] w (SameP w0 p q a) := by
  obtain ⟨kind, n, c⟩ := x
  simp only
  have D0 : ∀ o, Hid (Two w0 (w.alloc o) p q a a k k) := fun o => Lib.hid (D.on ((Mv.refl _ _).alloc o))
  have hpw := D.s.lt
  have XC : Hid (∀ w', Mv (w.alloc (.cells #[.int .i64 kind, .int .i64 n, .int .i64 c] 34)) [p] w' → w'.cell? ⟨w.heap.size, 1, none⟩ = some (.int .i64 n) ∧ w'.cell? ⟨w.heap.size, 2, none⟩ = some (.int .i64 c)) := Lib.hid fun w' m => by
    have hb : w'.heap[w.heap.size]? = some (.cells #[.int .i64 kind, .int .i64 n, .int .i64 c] 34 (0, 0)) := by
      rw [m.block (by simp) (by simp; omega)]
      exact heap_alloc_new w _
    exact ⟨by simp [World.cell?, hb], by simp [World.cell?, hb]⟩
  have hqw := D.t.lt
  clear D hpw
  by_cases k0 : kind = 0
  · have t0 : (kind == 0) = true := by simpa using k0
    obtain ⟨V, hV⟩ : ∃ V, V = vl a (k + 1) := ⟨_, rfl⟩
    have c1 := fun w h => next_any p a k V ha (Lib.hid hV) w h
    have c2 := fun w h => rnext_any q a k V ha (Lib.hid hV) w h
    have t : ((V : Int) == (V : Int)) = true := by simp
    clear hV k0
    go_enter Tryd.func17, Tryd.ntmps17
    go_wp2_with (first
      | (go_at_call 13; (refine (c1 _ (D0 _).out.s).mono ?_); rintro e w3 ⟨rfl, l3, m3⟩; have D3 := Lib.hid ((D0 _).out.s1 l3 m3); clear l3 m3)
      | (go_at_call 14; (refine (c2 _ D3.out.t).mono ?_); rintro e w4 ⟨rfl, l4, m4⟩; have D4 := Lib.hid (D3.out.s2 l4 m4); clear l4 m4))
    go_ret
    exact ⟨rfl, _, D4.out⟩
  have t0 : (kind == 0) = false := by simpa using k0
  clear k0
  by_cases k1 : kind = 1
  · have t1 : (kind == 1) = true := by simpa using k1
    obtain ⟨V, E, k', c1, c2⟩ := below_pair a k ha n
    have t : ((V : Int) == (V : Int)) = true := by simp
    have t' : ((E : Int) == (E : Int)) = true := by simp
    clear k1
    go_enter Tryd.func17, Tryd.ntmps17
    go_wp2_with (first
      | (go_at_call 18; (refine (c1 p _ (D0 _).out.s).mono ?_); rintro e w3 ⟨rfl, l3, m3⟩; have D3 := Lib.hid ((D0 _).out.s1 l3 m3); (obtain ⟨x3, y3⟩ := XC.out _ m3); clear l3 m3)
      | (go_at_call 19; (refine (c2 q _ D3.out.t).mono ?_); rintro e w4 ⟨rfl, l4, m4⟩; have D4 := Lib.hid (D3.out.s2 l4 m4); clear l4 m4))
    go_ret
    exact ⟨rfl, _, D4.out⟩
  have t1 : (kind == 1) = false := by simpa using k1
  clear k1
  by_cases hb : 300 < n ∧ n ≤ 4096
  · obtain ⟨h1, h2⟩ := hb
    go_enter Tryd.func17, Tryd.ntmps17
    go_wp2_with fail
    go_ret
    exact ⟨rfl, _, (D0 _).out⟩
  have hb' : Hid (n ≤ 300 ∨ 300 < n ∧ 4096 < n) := Lib.hid (by omega)
  clear hb
  by_cases k2 : kind = 2
  · have t2 : (kind == 2) = true := by simpa using k2
    obtain ⟨X, E, k', hX, c1, c2⟩ := shuf_pair a k ha n
    obtain ⟨N, hN⟩ : ∃ N, Hid (X.length = N) := ⟨_, Lib.hid rfl⟩
    have hN4 : N ≤ 4096 := by rw [← hN.out]; exact hX
    clear hX
    have cs := fun A B c d hc w hI hJ => same_ok A B N c d X hN hc w hI hJ
    have t' : ((E : Int) == (E : Int)) = true := by simp
    clear k2
    rcases hb'.out with h1 | ⟨h1, h2⟩
    all_goals
      go_enter Tryd.func17, Tryd.ntmps17
      go_wp2_with (first
        | (go_at_call 20; (refine (c1 p _ (D0 _).out.s).mono ?_); rintro e w3 h3; (obtain ⟨A3, d3, rfl, g3, i3, z3, l3, m3⟩ := lst_n hN h3); have D3 := Lib.hid ((D0 _).out.s1 l3 m3); (obtain ⟨x3, y3⟩ := XC.out _ m3); clear h3 l3 m3)
        | (go_at_call 26; (refine (c2 q _ D3.out.t).mono ?_); rintro e w4 h4; (obtain ⟨A4, d4, rfl, g4, i4, z4, l4, m4⟩ := lst_n hN h4); have i3' := ci_keep i3 (fun b off e => (by have := z3 b off e; simp at this; omega)) m4; have D4 := Lib.hid (D3.out.s2 l4 m4); clear h4 l4 m4)
        | (go_at_call 23; (refine (cs _ _ _ _ (by omega) _ i3' i4).mono ?_); rintro e w5 ⟨rfl, b5⟩; have D5 := Lib.hid (D4.out.on (mv_draw b5)); clear b5))
      go_ret
      exact ⟨rfl, _, D5.out⟩
  have t2 : (kind == 2) = false := by simpa using k2
  clear k2
  by_cases k3 : kind = 3
  · have t3 : (kind == 3) = true := by simpa using k3
    obtain ⟨X, E, k', hX, c1, c2⟩ := samp_pair a k ha n c
    obtain ⟨N, hN⟩ : ∃ N, Hid (X.length = N) := ⟨_, Lib.hid rfl⟩
    have hN4 : N ≤ 4096 := by rw [← hN.out]; exact hX
    clear hX
    have cs := fun A B c d hc w hI hJ => same_ok A B N c d X hN hc w hI hJ
    have t' : ((E : Int) == (E : Int)) = true := by simp
    clear k3
    rcases hb'.out with h1 | ⟨h1, h2⟩
    all_goals
      go_enter Tryd.func17, Tryd.ntmps17
      go_wp2_with (first
        | (go_at_call 22; (refine (c1 p _ (D0 _).out.s).mono ?_); rintro e w3 h3; (obtain ⟨A3, d3, rfl, g3, i3, z3, l3, m3⟩ := lst_n hN h3); have D3 := Lib.hid ((D0 _).out.s1 l3 m3); (obtain ⟨x3, y3⟩ := XC.out _ m3); clear h3 l3 m3)
        | (go_at_call 27; (refine (c2 q _ D3.out.t).mono ?_); rintro e w4 h4; (obtain ⟨A4, d4, rfl, g4, i4, z4, l4, m4⟩ := lst_n hN h4); have i3' := ci_keep i3 (fun b off e => (by have := z3 b off e; simp at this; omega)) m4; have D4 := Lib.hid (D3.out.s2 l4 m4); clear h4 l4 m4)
        | (go_at_call 23; (refine (cs _ _ _ _ (by omega) _ i3' i4).mono ?_); rintro e w5 ⟨rfl, b5⟩; have D5 := Lib.hid (D4.out.on (mv_draw b5)); clear b5))
      go_ret
      exact ⟨rfl, _, D5.out⟩
  have t3 : (kind == 3) = false := by simpa using k3
  clear k3
  rcases hb'.out with h1 | ⟨h1, h2⟩
  all_goals
    go_enter Tryd.func17, Tryd.ntmps17
    go_wp2_with fail
    go_ret
    exact ⟨rfl, _, (D0 _).out⟩
end Go.Proofs.YtikhhceoonfhcaaDoor.stN

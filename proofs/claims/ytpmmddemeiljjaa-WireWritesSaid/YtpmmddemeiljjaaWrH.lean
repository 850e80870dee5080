/-
  The laws' arguments in memory: items, calls asked, rows of byte strings; contracts of the laws' same, few.
-/
import Derived.Test.YtpmmddemeiljjaaWrF
namespace Go.Proofs.Ytpmmddemeiljjaa.wrH
open Go.RowKit
open Go.Proofs.Ytpmmddemeiljjaa.dgM Go.Proofs.Ytpmmddemeiljjaa.wrM Go.Proofs.Ytpmmddemeiljjaa.wrO Go.Proofs.Ytpmmddemeiljjaa.wrA Go.Proofs.Ytpmmddemeiljjaa.wrB Go.Proofs.Ytpmmddemeiljjaa.wrC Go.Proofs.Ytpmmddemeiljjaa.wrE
set_option linter.unusedVariables false

/-! ### items -/
structure It where
  kind : Int
  n : Int
  u : Nat
  s : ByteArray
  A : Option Addr
  l : List Int
  c : Nat
/-- an item's numbers are in their types' bounds -/
def It.ok (x : It) : Prop := (-9223372036854775808 ≤ x.kind ∧ x.kind ≤ 9223372036854775807) ∧ (-9223372036854775808 ≤ x.n ∧ x.n ≤ 9223372036854775807) ∧ x.u < A64 ∧ Fit x.l ∧ x.l.length ≤ x.c ∧ x.s.size ≤ 9223372036854775807 ∧ (x.A = none → x.c = 0)
/-- five cells hold an item -/
def ItAt (w : World) (b off : Nat) (x : It) : Prop :=
  w.cell? ⟨b, off, none⟩ = some (.int .i64 x.kind) ∧ w.cell? ⟨b, off + 1, none⟩ = some (.int .i64 x.n) ∧ w.cell? ⟨b, off + 2, none⟩ = some (.int .u64 (x.u : Int)) ∧ w.cell? ⟨b, off + 3, none⟩ = some (.string x.s) ∧
    w.cell? ⟨b, off + 4, none⟩ = some (.slice x.A x.l.length x.c) ∧ Ci w x.A x.l ∧ x.ok
def Its (w : World) (A : Option Addr) (xs : List It) : Prop :=
  0 < xs.length → ∃ b off, A = some ⟨b, off, none⟩ ∧ ∀ (j : Nat) (x : It), xs[j]? = some x → ItAt w b (off + j * 5) x
def xat (xs : List It) (k : Nat) (d : It) : It := xs.getD k d
theorem ItAt.below {w w' : World} {b off : Nat} {x : It} (h : ItAt w b off x) (hb : Below w.heap.size w w') : ItAt w' b off x := by
  obtain ⟨h0, h1, h2, h3, h4, h5, h6⟩ := h
  have hlt : b < w.heap.size := World.block_lt_of_cell? w _ h0
  refine ⟨?_, ?_, ?_, ?_, ?_, h5.below hb, h6⟩
  · rw [hb.cell (p := ⟨b, off, none⟩) hlt]; exact h0
  · rw [hb.cell (p := ⟨b, off + 1, none⟩) hlt]; exact h1
  · rw [hb.cell (p := ⟨b, off + 2, none⟩) hlt]; exact h2
  · rw [hb.cell (p := ⟨b, off + 3, none⟩) hlt]; exact h3
  · rw [hb.cell (p := ⟨b, off + 4, none⟩) hlt]; exact h4
theorem Its.below {w w' : World} {A : Option Addr} {xs : List It} (h : Its w A xs) (hb : Below w.heap.size w w') : Its w' A xs := fun hp => by
  obtain ⟨b, off, e, hc⟩ := h hp
  exact ⟨b, off, e, fun j x hx => (hc j x hx).below hb⟩
theorem Its.at_ {w : World} {A : Option Addr} {xs : List It} (h : Its w A xs) {k : Nat} (hk : k < xs.length) : ∃ b off, A = some ⟨b, off, none⟩ ∧ ItAt w b (off + k * 5) xs[k] := by
  obtain ⟨b, off, e, hc⟩ := h (by omega)
  exact ⟨b, off, e, hc k _ (by rw [List.getElem?_eq_getElem hk])⟩

/-! ### same -/
theorem ext_iat {a b : List Int} (hl : a.length = b.length) (h : ∀ k, k < a.length → iat a k = iat b k) : a = b := by
  apply List.ext_getElem? 
  intro k
  by_cases hk : k < a.length
  · rw [iat_some hk, iat_some (by omega), h k hk]
  · rw [List.getElem?_eq_none (by omega), List.getElem?_eq_none (by omega)]
def upto (a b : List Int) (k : Nat) : Prop := ∀ j, j < k → iat a j = iat b j
set_option maxRecDepth 10000 in
set_option maxHeartbeats 1000000 in
theorem same_any (A B : Option Addr) (n m c d : Nat) (zs ys : List Int) (hn : Hid (zs.length = n)) (hm : Hid (ys.length = m)) (hN : n ≤ 9223372036854775807) (hM : m ≤ 9223372036854775807) (R : Bool) (hR : Hid (R = true ↔ zs = ys)) (w : World) (hI : Ci w A zs) (hJ : Ci w B ys) :
    Calls Try.prog 30 #[.slice A n c, .slice B m d] w fun e w' => e = .returned (.bool R) ∧ ∃ d, w' = w.drewN d := by
  by_cases hnm : n = m
  · have ne : ((n : Int) != (m : Int)) = false := by rw [hnm]; simp
    have hlen : zs.length = ys.length := by rw [hn.out, hm.out, hnm]
    go_enter Try.func30, Try.ntmps30
    go_wp2_with fail
    go_loopw [13] (fun i wr => ∃ k d : Nat, k ≤ n ∧ i = .int .i64 k ∧ wr = w.drewN d ∧ Hid (upto zs ys k)) (fun i _ => n - (intOf i).toNat)
    case atStart => exact ⟨0, 0, Nat.zero_le _, rfl, rfl, Lib.hid fun j hj => absurd hj (by omega)⟩
    case round =>
      obtain ⟨k, d', hk, rfl, rfl, HU⟩ := hrel
      by_cases hlt : k < n
      · obtain ⟨ad, off, rfl, hx⟩ := hI.at_ (k := k) (by rw [hn.out]; exact hlt)
        obtain ⟨bd, bff, rfl, hy⟩ := hJ.at_ (k := k) (by rw [hm.out]; omega)
        have i0 : (0 : Int) ≤ (k : Int) := by omega
        have i1 : (k : Int) < (n : Int) := by omega
        have i2 : (k : Int) < (m : Int) := by omega
        by_cases he : iat zs k = iat ys k
        · have HU2 : Hid (upto zs ys (k + 1)) := Lib.hid fun j hj => by
            by_cases e : j = k
            · rw [e]; exact he
            · exact HU.out j (by omega)
          rw [← he] at hy
          clear he hnm hlen
          generalize iat zs k = x at *
          have nx : (x != x) = false := by simp
          go_wp2_with fail
          go_quiet (fail)
          go_wp2_with fail
          go_roundw
          case rel => exact ⟨k + 1, _, by omega, by go_num, rfl, HU2⟩
          case measure => simp [intOf]; omega
        · obtain rfl : R = false := by
            cases R with
            | false => rfl
            | true => exact absurd (by rw [hR.out.1 rfl]) he
          generalize iat zs k = x at *
          generalize iat ys k = y at *
          have nx : (x != y) = true := by simpa using he
          clear he hnm hlen
          go_wp2_with fail
          go_quiet (fail)
          go_wp2_with fail
          go_ret
          exact ⟨rfl, _, World.drewN_drewN _ _ _⟩
      · obtain rfl : k = n := by omega
        obtain rfl : R = true := hR.out.2 (ext_iat hlen fun j hj => HU.out j (by rw [hn.out] at hj; exact hj))
        go_wp2_with fail
        go_ret
        exact ⟨rfl, _, rfl⟩
  · have ne : ((n : Int) != (m : Int)) = true := by simp; omega
    obtain rfl : R = false := by
      cases R with
      | false => rfl
      | true => exact absurd (by rw [← hn.out, ← hm.out, hR.out.1 rfl]) hnm
    clear hnm
    go_enter Try.func30, Try.ntmps30
    go_wp2_with fail
    go_ret
    exact ⟨rfl, 0, rfl⟩

/-! ### few -/
def Few (xs : List It) : Prop := xs.length ≤ 200 ∧ ∀ k (h : k < xs.length), xs[k].s.size ≤ 5000 ∧ xs[k].l.length ≤ 5000
set_option maxRecDepth 10000 in
set_option maxHeartbeats 1000000 in
theorem few_any (A : Option Addr) (n c : Nat) (xs : List It) (hn : Hid (xs.length = n)) (hN : n ≤ 9223372036854775807) (R : Bool) (hR : Hid (R = true ↔ Few xs)) (w : World) (hI : Its w A xs) :
    Calls Try.prog 11 #[.slice A n c] w fun e w' => e = .returned (.bool R) ∧ w = w' := by
  by_cases h200 : 200 < n
  · have t : (200 : Int) < (n : Int) := by omega
    obtain rfl : R = false := by
      cases R with
      | false => rfl
      | true => have := (hR.out.1 rfl).1; rw [hn.out] at this; omega
    clear h200
    go_enter Try.func11, Try.ntmps11
    go_wp2_with fail
    go_ret
    exact ⟨rfl, rfl⟩
  · have t : ¬ (200 : Int) < (n : Int) := by omega
    go_enter Try.func11, Try.ntmps11
    go_wp2_with fail
    go_loop [9] (fun i => ∃ k : Nat, k ≤ n ∧ i = .int .i64 (k : Int) ∧ Hid (∀ j (h : j < xs.length), j < k → xs[j].s.size ≤ 5000 ∧ xs[j].l.length ≤ 5000)) (fun i => n - (intOf i).toNat)
    case atStart => exact ⟨0, Nat.zero_le _, rfl, Lib.hid fun j _ hj => absurd hj (by omega)⟩
    case round =>
      obtain ⟨k, hk, rfl, HK⟩ := hrel
      by_cases hlt : k < n
      · have hk2 : k < xs.length := by rw [hn.out]; exact hlt
        obtain ⟨b, off, rfl, hx⟩ := hI.at_ (k := k) hk2
        obtain ⟨_, _, _, h3, h4, h5, h6⟩ := hx
        have hF : Hid (¬ (xs[k].s.size ≤ 5000 ∧ xs[k].l.length ≤ 5000) → R = false) := Lib.hid fun h => by
          cases R with
          | false => rfl
          | true => exact absurd ((hR.out.1 rfl).2 k hk2) h
        have hG : Hid (xs[k].s.size ≤ 5000 ∧ xs[k].l.length ≤ 5000 → ∀ j (h : j < xs.length), j < k + 1 → xs[j].s.size ≤ 5000 ∧ xs[j].l.length ≤ 5000) := Lib.hid fun h j hj hjk => by
          by_cases e : j = k
          · subst e; exact h
          · exact HK.out j hj (by omega)
        have i0 : (0 : Int) ≤ (k : Int) := by omega
        have i1 : (k : Int) < (n : Int) := by omega
        have hs5 := h6.2.2.2.2.2.1
        clear HK h5 h6
        generalize xs[k] = x at *
        by_cases hs : x.s.size ≤ 5000
        · have q1 : ¬ (5000 : Int) < (x.s.size : Int) := by omega
          by_cases hl : x.l.length ≤ 5000
          · have q2 : ¬ (5000 : Int) < (x.l.length : Int) := by omega
            have HG := Lib.hid (hG.out ⟨hs, hl⟩)
            clear hF hG hs hl
            go_wp2_with fail
            go_round
            case rel => exact ⟨k + 1, by omega, by go_num, HG⟩
            case measure => simp [intOf]; omega
          · have q2 : (5000 : Int) < (x.l.length : Int) := by omega
            obtain rfl := hF.out (fun h => hl h.2)
            clear hF hG hs hl
            go_wp2_with fail
            go_ret
            exact ⟨rfl, rfl⟩
        · have q1 : (5000 : Int) < (x.s.size : Int) := by omega
          obtain rfl := hF.out (fun h => hs h.1)
          clear hF hG hs
          go_wp2_with fail
          go_ret
          exact ⟨rfl, rfl⟩
      · obtain rfl : k = n := by omega
        obtain rfl : R = true := hR.out.2 ⟨by rw [hn.out]; omega, fun j h => HK.out j h (by rw [hn.out] at h; exact h)⟩
        go_wp2_with fail
        go_ret
        exact ⟨rfl, rfl⟩
end Go.Proofs.Ytpmmddemeiljjaa.wrH

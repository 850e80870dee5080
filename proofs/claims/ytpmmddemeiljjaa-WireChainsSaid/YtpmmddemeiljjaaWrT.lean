/-
  The law WireChains, over any Frame and Next that keep the record of contracts.
-/
import Derived.Test.YtpmmddemeiljjaaWrS
namespace Go.Proofs.Ytpmmddemeiljjaa.wrT
open Go.RowKit
open Go.Proofs.Ytpmmddemeiljjaa.dgM Go.Proofs.Ytpmmddemeiljjaa.wrM Go.Proofs.Ytpmmddemeiljjaa.wrO Go.Proofs.Ytpmmddemeiljjaa.wrA Go.Proofs.Ytpmmddemeiljjaa.wrB Go.Proofs.Ytpmmddemeiljjaa.wrC Go.Proofs.Ytpmmddemeiljjaa.wrD Go.Proofs.Ytpmmddemeiljjaa.wrE Go.Proofs.Ytpmmddemeiljjaa.wrH Go.Proofs.Ytpmmddemeiljjaa.wrQ Go.Proofs.Ytpmmddemeiljjaa.wrL Go.Proofs.Ytpmmddemeiljjaa.wrW Go.Proofs.Ytpmmddemeiljjaa.wrS
set_option linter.unusedVariables false

/-! ### rows of byte strings -/
structure Bl where
  A : Option Addr
  l : List UInt8
  c : Nat
def BlAt (w : World) (b off : Nat) (x : Bl) : Prop := w.cell? ⟨b, off, none⟩ = some (.slice x.A x.l.length x.c) ∧ Cb w x.A x.l ∧ x.l.length ≤ x.c ∧ (x.A = none → x.c = 0)
def Bls (w : World) (A : Option Addr) (xs : List Bl) : Prop :=
  0 < xs.length → ∃ b off, A = some ⟨b, off, none⟩ ∧ ∀ (j : Nat) (x : Bl), xs[j]? = some x → BlAt w b (off + j) x
theorem BlAt.below {w w' : World} {b off : Nat} {x : Bl} (h : BlAt w b off x) (hb : Below w.heap.size w w') : BlAt w' b off x :=
  ⟨by rw [hb.cell (p := ⟨b, off, none⟩) (World.block_lt_of_cell? w _ h.1)]; exact h.1, h.2.1.below hb, h.2.2⟩
theorem Bls.below {w w' : World} {A : Option Addr} {xs : List Bl} (h : Bls w A xs) (hb : Below w.heap.size w w') : Bls w' A xs := fun hp => by
  obtain ⟨b, off, e, hc⟩ := h hp
  exact ⟨b, off, e, fun j x hx => (hc j x hx).below hb⟩
theorem Bls.at_ {w : World} {A : Option Addr} {xs : List Bl} (h : Bls w A xs) {k : Nat} (hk : k < xs.length) : ∃ b off, A = some ⟨b, off, none⟩ ∧ BlAt w b (off + k) xs[k] := by
  obtain ⟨b, off, e, hc⟩ := h (by omega)
  exact ⟨b, off, e, hc k _ (by rw [List.getElem?_eq_getElem hk])⟩
/-- the frames, one behind the other -/
def frs (xs : List Bl) : List UInt8 := xs.flatMap fun x => fr x.l
theorem frs_take {xs : List Bl} {k : Nat} (h : k < xs.length) : frs (xs.take (k + 1)) = frs (xs.take k) ++ fr xs[k].l := by
  unfold frs
  rw [List.take_add_one, List.getElem?_eq_getElem h, List.flatMap_append]
  simp
theorem frs_split (xs : List Bl) (k : Nat) : frs xs = frs (xs.take k) ++ frs (xs.drop k) := by
  unfold frs
  rw [← List.flatMap_append, List.take_append_drop]
theorem frs_drop {xs : List Bl} {k : Nat} (h : k < xs.length) : frs (xs.drop k) = fr xs[k].l ++ frs (xs.drop (k + 1)) := by
  rw [List.drop_eq_getElem_cons h]; rfl
theorem nxt_frs {xs : List Bl} {k : Nat} (h : k < xs.length) (hl : xs[k].l.length ≤ 5000) : nxt (frs xs) ((frs (xs.take k)).length : Int) = (xs[k].l, (frs (xs.take (k + 1))).length, 0) := by
  have e := frs_split xs k
  have hd : (frs xs).drop (frs (xs.take k)).length = fr xs[k].l ++ frs (xs.drop (k + 1)) := by rw [e, drop_append, frs_drop h]
  have f := nx_fr (b := xs[k].l) (r := frs (xs.drop (k + 1))) (by show _ < 18446744073709551616; omega)
  have hle : (frs (xs.take k)).length ≤ (frs xs).length := by rw [e, List.length_append]; omega
  unfold nxt
  rw [if_pos (by omega), Int.toNat_natCast, hd, f, frs_take h, List.length_append]
  rfl
theorem nxt_end (b : List UInt8) : nxt b (b.length : Int) = ([], 0, 28) := by
  unfold nxt
  rw [if_pos (by omega), Int.toNat_natCast, List.drop_length, nx_nil]
  rfl
theorem frs_len : ∀ (xs : List Bl), (∀ x ∈ xs, x.l.length ≤ 5000) → (frs xs).length ≤ 5018 * xs.length
  | [], _ => Nat.le_refl _
  | x :: xs, h => by
    have h1 := h x (by simp)
    have h2 := frs_len xs (fun y hy => h y (by simp [hy]))
    have h3 := vr_len x.l.length
    show (fr x.l ++ frs xs).length ≤ _
    rw [List.length_append, fr_len, List.length_cons]; omega
theorem frs_take_all (xs : List Bl) {n : Nat} (h : xs.length = n) : xs.take n = xs := List.take_of_length_le (by omega)
theorem _root_.Go.RowKit.Below.drewN1 {B : Nat} {w v : World} (h : Below B w v) (k : Nat) : Below B w (v.drewN k) := ⟨h.os, h.tape, h.output, h.size, h.block⟩
set_option maxRecDepth 10000 in
set_option maxHeartbeats 2000000 in
theorem chains_any (P : PWr) (Q : PRd) (H : PFr) (A : Option Addr) (n c : Nat) (xs : List Bl) (hn : Hid (xs.length = n)) (hN : n ≤ 9223372036854775807) (w : World) (hI : Bls w A xs) (hsz : Hid (∀ k (h : k < xs.length), xs[k].l.length ≤ 9223372036854775807)) :
    Calls Try.prog 8 #[.slice A n c] w fun e w' => e = .returned (.bool true) ∧ Below w.heap.size w w' := by
  by_cases h100 : 100 < n
  · have t1 : (100 : Int) < (n : Int) := by omega
    clear h100
    go_enter Try.func8, Try.ntmps8
    go_wp2_with (go_at_call 12; (refine (awake_any P Q H _).mono ?_); rintro e w6 ⟨rfl, B6⟩)
    go_ret
    exact ⟨rfl, B6⟩
  · have t1 : ¬ (100 : Int) < (n : Int) := by omega
    go_enter Try.func8, Try.ntmps8
    go_wp2_with fail
    go_loopw [3, 19] (fun s3 s19 wr => ∃ k : Nat, k ≤ n ∧ s19 = .int .i64 (k : Int) ∧ OwB wr w.heap.size s3 (frs (xs.take k)) ∧ Below w.heap.size w wr ∧ Hid (∀ j (h : j < xs.length), j < k → xs[j].l.length ≤ 5000)) (fun _ s19 _ => n - (intOf s19).toNat)
    case atStart => exact ⟨0, Nat.zero_le _, rfl, own_nil _ _, Below.refl _ _, Lib.hid fun j _ hj => absurd hj (by omega)⟩
    case round =>
      obtain ⟨k, hk, rfl, hO, hB, HK⟩ := hrel
      obtain ⟨A3, c3, rfl, hc3, hC3, hA3, hb3⟩ := own_form hO
      by_cases hlt : k < n
      · have hk2 : k < xs.length := by rw [hn.out]; exact hlt
        obtain ⟨b, off, rfl, hx⟩ := (hI.below hB).at_ (k := k) hk2
        obtain ⟨h0, h1, h2, h3⟩ := hx
        have i0 : (0 : Int) ≤ (k : Int) := by omega
        have i1 : (k : Int) < (n : Int) := by omega
        have hst := frs_take hk2
        have hL : (frs (xs.take k)).length ≤ 5018 * 100 := by
          have := frs_len (xs.take k) (fun x hx => by
            obtain ⟨j, hj, rfl⟩ := List.mem_iff_getElem.1 hx
            rw [List.length_take] at hj
            rw [List.getElem_take]
            exact HK.out j (by omega) (by omega))
          rw [List.length_take] at this
          omega
        have hK2 : Hid (xs[k].l.length ≤ 5000 → ∀ j (h : j < xs.length), j < k + 1 → xs[j].l.length ≤ 5000) := Lib.hid fun h j hj hjk => by
          by_cases e : j = k
          · subst e; exact h
          · exact HK.out j hj (by omega)
        have hz := hsz.out k hk2
        clear HK
        generalize xs[k] = x at *
        by_cases h5 : x.l.length ≤ 5000
        · have t2 : ¬ (5000 : Int) < (x.l.length : Int) := by omega
          have HK2 := Lib.hid (hK2.out h5)
          have c1 := H.frame x.A x.c x.l (by omega) h2 h3 wr h1
          have hG : (fr x.l).length ≤ 5018 := by
            have h3 := vr_len x.l.length
            rw [fr_len]; omega
          have HS := Lib.hid hst.symm
          clear hst hK2
          generalize fr x.l = G at *
          generalize frs (xs.take k) = L at *
          go_wp2_with (first
            | (refine wpl_app rfl (.tmp 29) (.tmp 34) rfl w2 w.heap.size (.slice A3 L.length c3) L (by rfl) O2 A2 G.length c2 G (by rfl) rfl C2 hA2 (by omega) B2'.size ?_; intro v4 w4 AP; have B4 := B2'.grown AP.2.1 B2'.size (fun g e => (World.ownsRow.lt O2 g e).1); have O4 := AP.1)
            | (go_at_call 40; (refine c1.mono ?_); rintro e w2 ⟨A2, n2, c2, rfl, C2, rfl, hc2, hA2, hnew, B2⟩; have B2' := below_on hB B2; have O2 := own_mv hO (F := []) (Mv.of_below B2) (fun g _ => by simp)))
          go_roundw
          case rel => exact ⟨k + 1, by omega, by go_num, by rw [← HS.out]; exact O4, B4, HK2⟩
          case measure => simp [intOf]; omega
        · have t2 : (5000 : Int) < (x.l.length : Int) := by omega
          clear hst hK2 h5
          go_wp2_with (go_at_call 12; (refine (awake_any P Q H _).mono ?_); rintro e w6 ⟨rfl, B6⟩)
          go_ret
          exact ⟨rfl, below_on hB B6⟩
      · obtain rfl : k = n := by omega
        rename World => w1
        rw [frs_take_all xs hn.out] at hO hC3 hc3 hb3 ⊢
        have hL : (frs xs).length ≤ 5018 * 100 := by
          have := frs_len xs (fun x hx => by
            obtain ⟨j, hj, rfl⟩ := List.mem_iff_getElem.1 hx
            exact HK.out j hj (by have := hn.out; omega))
          have := hn.out
          omega
        have HL : Hid (∀ j (h : j < xs.length), nxt (frs xs) ((frs (xs.take j)).length : Int) = (xs[j].l, (frs (xs.take (j + 1))).length, 0)) := Lib.hid fun j h => nxt_frs h (HK.out j h (by have := hn.out; omega))
        have HS : Hid (∀ j (h : j < xs.length), (frs (xs.take j)).length < (frs (xs.take (j + 1))).length ∧ (frs (xs.take (j + 1))).length ≤ (frs xs).length) := Lib.hid fun j h => by
          have e := frs_split xs (j + 1)
          rw [e, List.length_append, frs_take h, List.length_append, fr_len]; omega
        have HE := nxt_end (frs xs)
        have HA : (frs (xs.take k)).length = (frs xs).length := by rw [frs_take_all xs hn.out]
        have H0 : (frs (xs.take 0)).length = 0 := by rw [List.take_zero]; rfl
        obtain ⟨f, hf⟩ : ∃ f : Nat → Nat, f = fun j => (frs (xs.take j)).length := ⟨_, rfl⟩
        have HL2 : Hid (∀ j (h : j < xs.length), nxt (frs xs) (f j : Int) = (xs[j].l, f (j + 1), 0)) := by rw [hf]; exact HL
        have HS2 : Hid (∀ j (h : j < xs.length), f j < f (j + 1) ∧ f (j + 1) ≤ (frs xs).length) := by rw [hf]; exact HS
        have HA2 : f k = (frs xs).length := by rw [hf]; exact HA
        have H02 : f 0 = 0 := by rw [hf]; exact H0
        have HE2 : nxt (frs xs) (f k : Int) = ([], 0, 28) := by rw [HA2]; exact HE
        have c1 := fun t wq hC => H.next A3 c3 (frs xs) t (by omega) hc3 hA3 wq hC
        have hIr := hI.below hB
        clear HK hO hb3 hsz HL HS HA H0 HE hf
        generalize frs xs = L at *
        have HA3 := Lib.hid HA2
        have HE3 := Lib.hid HE2
        have H03 := Lib.hid H02
        clear HA2 HE2 H02
        go_wp2_with fail
        go_loopw [5, 39] (fun s5 s39 wq => ∃ j : Nat, j ≤ k ∧ s39 = .int .i64 (j : Int) ∧ s5 = .int .i64 (f j : Int) ∧ Below w1.heap.size w1 wq) (fun _ s39 _ => k - (intOf s39).toNat)
        case atStart => exact ⟨0, Nat.zero_le _, rfl, by rw [H03.out]; rfl, Below.refl _ _⟩
        case round =>
          obtain ⟨j, hj, rfl, rfl, hBq⟩ := hrel
          by_cases hjk : j < k
          · have hj2 : j < xs.length := by rw [hn.out]; exact hjk
            obtain ⟨b, off, rfl, hx⟩ := (hIr.below hBq).at_ (k := j) hj2
            have c2 := c1 (f j : Int) wr (hC3.below hBq)
            rw [HL2.out j hj2] at c2
            obtain ⟨hs1, hs2⟩ := HS2.out j hj2
            have i0 : (0 : Int) ≤ (j : Int) := by omega
            have i1 : (j : Int) < (k : Int) := by omega
            generalize xs[j] = x at *
            have t3 : decide (f (j + 1) ≤ f j) = false := decide_eq_false (by omega)
            have t4 : ¬ f (j + 1) ≤ f j := by omega
            obtain ⟨u, hu⟩ : ∃ u, u = f (j + 1) := ⟨_, rfl⟩
            have HU := Lib.hid hu
            rw [← hu] at c2 t3 t4
            have hub : u ≤ L.length := by omega
            clear hs1 hs2 hu
            generalize f j = v at *
            go_wp2_with (go_at_call 38; (refine c2.mono ?_); rintro e w2 ⟨A5, n5, c5, rfl, C5, rfl, hc5, hA5, hnew, B2⟩; have hx2 := hx.below B2; have x0 := hx2.1; have v1 := (fun q => conv_any (w2.drewN q) A5 x.l.length c5 x.l rfl (C5.drewN q)); have v2 := (fun q => conv_any (w2.drewN q) x.A x.l.length x.c x.l rfl (hx2.2.1.drewN q)))
            go_quiet (fail)
            go_wp2_with fail
            go_roundw
            case rel => exact ⟨j + 1, by omega, by go_num, by rw [HU.out], (below_on hBq B2).drewN1 _⟩
            case measure => simp [intOf]; omega
          · obtain rfl : j = k := by omega
            have c2 := c1 (f j : Int) wr (hC3.below hBq)
            rw [HE3.out] at c2
            rw [HA3.out] at c2 ⊢
            go_wp2_with (first
              | (go_at_call 38; (refine c2.mono ?_); rintro e w2 ⟨A5, n5, c5, rfl, C5, rfl, hc5, hA5, hnew, B2⟩; have B3 := below_on hB (below_on hBq B2))
              | (go_at_call 12; (refine (awake_any P Q H _).mono ?_); rintro e w6 ⟨rfl, B6⟩))
            go_ret
            exact ⟨rfl, below_on B3 B6⟩
end Go.Proofs.Ytpmmddemeiljjaa.wrT

/-
  The law's write, over any writer that keeps the record of contracts; the law WireWrites.
-/
import Derived.Test.YtpmmddemeiljjaaWrQ
import Derived.Deep.DeepCutAuto
namespace Go.Proofs.Ytpmmddemeiljjaa.wrL
open Go.RowKit
open Go.Proofs.Ytpmmddemeiljjaa.dgM Go.Proofs.Ytpmmddemeiljjaa.wrM Go.Proofs.Ytpmmddemeiljjaa.wrO Go.Proofs.Ytpmmddemeiljjaa.wrA Go.Proofs.Ytpmmddemeiljjaa.wrB Go.Proofs.Ytpmmddemeiljjaa.wrC Go.Proofs.Ytpmmddemeiljjaa.wrE Go.Proofs.Ytpmmddemeiljjaa.wrH Go.Proofs.Ytpmmddemeiljjaa.wrQ
set_option linter.unusedVariables false

/-- the program's writer and reader -/
abbrev PWr := PW 13 43 42 44 45 20
abbrev PRd := PR 22 24 26 28 31 33 35
/-- the bytes of an item -/
def wX (x : It) : List UInt8 := if x.kind = 1 then wI x.n else if x.kind = 2 then vr x.u else if x.kind = 3 then wT x.s.data.toList else wL x.l
def wXs (xs : List It) : List UInt8 := xs.flatMap wX
theorem wXs_take {xs : List It} {k : Nat} (h : k < xs.length) : wXs (xs.take (k + 1)) = wXs (xs.take k) ++ wX xs[k] := by
  unfold wXs
  rw [List.take_add_one, List.getElem?_eq_getElem h, List.flatMap_append]
  simp
theorem wXs_le (xs : List It) (k : Nat) : (wXs (xs.take k)).length ≤ (wXs xs).length := by
  have h : wXs xs = wXs (xs.take k) ++ wXs (xs.drop k) := by
    unfold wXs
    rw [← List.flatMap_append, List.take_append_drop]
  rw [h, List.length_append]; omega
/-- new blocks, above a bound -/
theorem nw_ge {w : World} {F G : List Nat} {B : Nat} (h : Nw w F G) (hF : ∀ k ∈ F, B ≤ k) (hB : B ≤ w.heap.size) : ∀ k ∈ G, B ≤ k := fun k hk => by
  rcases h k hk with x | x
  · exact hF k x
  · omega
set_option maxRecDepth 10000 in
set_option maxHeartbeats 1000000 in
theorem write_gen (P : PWr) (A : Option Addr) (n c : Nat) (xs : List It) (hn : Hid (xs.length = n)) (hN : n ≤ 1000) (p : Nat) (F : List Nat) (bs : List UInt8) (hlen : Hid ((bs ++ wXs xs).length ≤ 100000000)) (hsz : Hid (∀ k (h : k < xs.length), xs[k].s.size ≤ 100000 ∧ xs[k].l.length ≤ 100000))
    (w : World) (hI : ∀ W G, Mv w F W → Nw w F G → Its W A xs ∧ ∀ k (h : k < xs.length), 0 < xs[k].l.length → ∀ b off, xs[k].A = some ⟨b, off, none⟩ → b ∉ G) (hW : P.O w p F bs) :
    Calls Try.prog 15 #[ptr p, .slice A n c] w (Ost P.O w p F (.tuple #[]) (bs ++ wXs xs)) := by
  unfold Ost
  go_enter Try.func15, Try.ntmps15
  go_wp2_with fail
  go_loopw [7] (fun s7 wr => ∃ (k : Nat) (G : List Nat), k ≤ n ∧ s7 = .int .i64 (k : Int) ∧ Hid (P.O wr p G (bs ++ wXs (xs.take k))) ∧ Hid (Mv w F wr) ∧ Hid (Nw w F G)) (fun s7 _ => n - (intOf s7).toNat)
  case atStart => exact ⟨0, F, by omega, rfl, Lib.hid (by rw [List.take_zero]; show P.O w p F (bs ++ []); rw [List.append_nil]; exact hW), Lib.hid (Mv.refl _ _), Lib.hid (Nw.refl _ _)⟩
  case round =>
    obtain ⟨k, G, hk, rfl, HW, HM, HN⟩ := hrel
    by_cases hlt : k < n
    · have hk2 : k < xs.length := by rw [hn.out]; exact hlt
      obtain ⟨hIr, hdr⟩ := hI wr G HM.out HN.out
      obtain ⟨b, off, rfl, hx⟩ := hIr.at_ (k := k) hk2
      obtain ⟨h0, h1, h2, h3, h4, h5, h6⟩ := hx
      have hsz2 := hsz.out k hk2
      have hst := wXs_take hk2
      have hl2 : (bs ++ wXs (xs.take k)).length ≤ 100000000 := by
        have := hlen.out
        have := wXs_le xs k
        rw [List.length_append] at *; omega
      have hd := hdr k hk2
      have hOr := HW.out
      have i0 : (0 : Int) ≤ (k : Int) := by omega
      have i1 : (k : Int) < (n : Int) := by omega
      have HE : Hid (bs ++ wXs (xs.take k) ++ wX xs[k] = bs ++ wXs (xs.take (k + 1))) := Lib.hid (by rw [hst, List.append_assoc])
      clear hst hlen hsz hI hIr hdr
      generalize xs[k] = x at *
      obtain ⟨hk1, hn1, hu1, hf1, hc1, hs1, hA1⟩ := h6
      generalize bs ++ wXs (xs.take k) = l1 at *
      by_cases k1 : x.kind = 1
      · have hw : wX x = wI x.n := if_pos k1
        rw [hw] at HE
        have t1 : (x.kind == 1) = true := by simpa using k1
        clear hw
        go_wp2_with (go_at_call 43; (refine (P.int x.n hn1.1 hn1.2 p G l1 hl2 wr hOr).mono ?_); rintro e w3 ⟨rfl, G3, W3, M3, N3⟩)
        go_roundw
        case rel => exact ⟨k + 1, G3, by omega, by go_num, Lib.hid (by rw [← HE.out]; exact W3), Lib.hid (HM.out.trans HN.out M3), Lib.hid (HN.out.trans HM.out.size N3)⟩
        case measure => simp [intOf]; omega
      have t1 : (x.kind == 1) = false := by simpa using k1
      by_cases k2 : x.kind = 2
      · have hw : wX x = vr x.u := by unfold wX; rw [if_neg k1, if_pos k2]
        rw [hw] at HE
        have t2 : (x.kind == 2) = true := by simpa using k2
        clear k1
        clear hw
        go_wp2_with (go_at_call 42; (refine (P.uint x.u hu1 p G l1 hl2 wr hOr).mono ?_); rintro e w3 ⟨rfl, G3, W3, M3, N3⟩)
        go_roundw
        case rel => exact ⟨k + 1, G3, by omega, by go_num, Lib.hid (by rw [← HE.out]; exact W3), Lib.hid (HM.out.trans HN.out M3), Lib.hid (HN.out.trans HM.out.size N3)⟩
        case measure => simp [intOf]; omega
      have t2 : (x.kind == 2) = false := by simpa using k2
      by_cases k3 : x.kind = 3
      · have hw : wX x = wT x.s.data.toList := by unfold wX; rw [if_neg k1, if_neg k2, if_pos k3]
        rw [hw] at HE
        have t3 : (x.kind == 3) = true := by simpa using k3
        clear k1 k2
        clear hw
        go_wp2_with (go_at_call 44; (refine (P.text x.s hsz2.1 p G l1 hl2 wr hOr).mono ?_); rintro e w3 ⟨rfl, G3, W3, M3, N3⟩)
        go_roundw
        case rel => exact ⟨k + 1, G3, by omega, by go_num, Lib.hid (by rw [← HE.out]; exact W3), Lib.hid (HM.out.trans HN.out M3), Lib.hid (HN.out.trans HM.out.size N3)⟩
        case measure => simp [intOf]; omega
      have t3 : (x.kind == 3) = false := by simpa using k3
      have hw : wX x = wL x.l := by unfold wX; rw [if_neg k1, if_neg k2, if_neg k3]
      rw [hw] at HE
      clear k1 k2 k3
      clear hw
      go_wp2_with (go_at_call 45; (refine (P.ints x.A x.c x.l hf1 hsz2.2 hc1 hA1 p G l1 hl2 wr hOr h5 hd).mono ?_); rintro e w3 ⟨rfl, G3, W3, M3, N3⟩)
      go_roundw
      case rel => exact ⟨k + 1, G3, by omega, by go_num, Lib.hid (by rw [← HE.out]; exact W3), Lib.hid (HM.out.trans HN.out M3), Lib.hid (HN.out.trans HM.out.size N3)⟩
      case measure => simp [intOf]; omega
    · obtain rfl : k = n := by omega
      have hOr := HW.out
      rw [List.take_of_length_le (by rw [hn.out]; exact Nat.le_refl _)] at hOr
      go_wp2_with fail
      go_end0
      exact ⟨rfl, G, hOr, HM.out, HN.out⟩
theorem write_any (P : PWr) (A : Option Addr) (n c : Nat) (xs : List It) (hn : Hid (xs.length = n)) (hN : n ≤ 1000) (p : Nat) (F : List Nat) (bs : List UInt8) (hlen : Hid ((bs ++ wXs xs).length ≤ 100000000)) (hsz : Hid (∀ k (h : k < xs.length), xs[k].s.size ≤ 100000 ∧ xs[k].l.length ≤ 100000))
    (w0 w : World) (hI : Its w0 A xs) (hb : Below w0.heap.size w0 w) (hF : ∀ k ∈ F, w0.heap.size ≤ k) (hW : P.O w p F bs) :
    Calls Try.prog 15 #[ptr p, .slice A n c] w (Ost P.O w p F (.tuple #[]) (bs ++ wXs xs)) :=
  write_gen P A n c xs hn hN p F bs hlen hsz w (fun W G M N => ⟨hI.below (M.below hb hF), fun k h hp b off e hg => by
    obtain ⟨b0, off0, _, hx0⟩ := hI.at_ (k := k) h
    obtain ⟨b', off', e', hc'⟩ := hx0.2.2.2.2.2.1 hp
    rw [e] at e'
    injection e' with e'
    injection e' with e1 e2
    have := World.block_lt_of_cell? w0 _ (hc' 0 _ (iat_some hp))
    have := nw_ge N hF hb.size b hg
    simp at *
    omega⟩) hW
end Go.Proofs.Ytpmmddemeiljjaa.wrL

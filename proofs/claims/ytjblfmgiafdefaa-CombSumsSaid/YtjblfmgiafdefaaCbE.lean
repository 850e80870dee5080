/-
  Contract of the reference's Next; of Unrank of comb and of the reference.
-/
import Derived.Test.YtjblfmgiafdefaaCbD
namespace Go.Proofs.Ytjblfmgiafdefaa.cbE
open Go.RowKit
open Go.Proofs.Ytjblfmgiafdefaa.numM Go.Proofs.Ytjblfmgiafdefaa.numA Go.Proofs.Ytjblfmgiafdefaa.numB Go.Proofs.Ytjblfmgiafdefaa.numE Go.Proofs.Ytjblfmgiafdefaa.monM Go.Proofs.Ytjblfmgiafdefaa.monB Go.Proofs.Ytjblfmgiafdefaa.monC Go.Proofs.Ytjblfmgiafdefaa.cbM Go.Proofs.Ytjblfmgiafdefaa.cbA Go.Proofs.Ytjblfmgiafdefaa.cbC Go.Proofs.Ytjblfmgiafdefaa.cbD
set_option linter.unusedVariables false

theorem take_snoc {L : List Int} {i : Nat} (h : i < L.length) : L.take i ++ [at0 L i] = L.take (i + 1) := by
  rw [List.take_succ_eq_append_getElem h]
  congr 2
  have := at0_some h
  rw [List.getElem?_eq_getElem h] at this
  injection this with this
  exact this.symm
theorem own_nil (w : World) (B : Nat) : OwnI w B (.slice none 0 0) [] 0 := World.ownsRow_nil _ _ _ _
set_option maxHeartbeats 1000000 in
theorem rnext_no (A : Option Addr) (n c : Nat) (m : Int) (zs : List Int) (hn : Hid (zs.length = n)) (hN : n ≤ 9223372036854775807) (hE : chk m zs ≠ 0) (w : World) (hI : Ints w A zs) :
    Calls Try.prog 21 #[.slice A n c, .int .i64 m] w (NextP [] false w) := by
  obtain ⟨F, hF⟩ : ∃ F, Hid (F = chk m zs) := ⟨_, Lib.hid rfl⟩
  have ck := fun w => rcheck_any A n c m F zs hn hN hF w
  have gb : (F != 0) = true := by rw [hF.out]; simpa using hE
  clear hE hF
  go_enter Try.func21, Try.ntmps21
  go_wp2_with (first
    | (go_at_call 40; (with_reducible refine (ck _ hI).mono ?_); rintro e w' ⟨rfl, d, rfl⟩))
  go_ret2
  exact ⟨none, 0, 0, rfl, rfl, Nat.le_refl _, ints_nil _ _, bel_drewN (Below.refl _ _) _⟩
set_option maxRecDepth 4000 in
set_option maxHeartbeats 2000000 in
theorem rnext_yes (A : Option Addr) (n c m : Nat) (zs L : List Int) (b : Bool) (hL : Hid (L = nxL m zs)) (hb : Hid (b = nxB m zs)) (hn : Hid (zs.length = n)) (hE : Hid (chk m zs = 0)) (w : World) (hI : Ints w A zs) :
    Calls Try.prog 21 #[.slice A n c, .int .i64 (m : Int)] w (NextP L b w) := by
  obtain ⟨h80, hA, -⟩ := chk_asc hE.out
  have hroom := asc_room (by omega) hA
  rw [hn.out, Nat.zero_add] at hroom
  have HA := Lib.hid hA
  clear hA
  have ck := fun w => rcheck_any A n c (m : Int) 0 zs hn (by omega) (Lib.hid hE.out.symm) w
  go_enter Try.func21, Try.ntmps21
  go_wp2_with (first
    | (go_at_call 40; (with_reducible refine (ck _ hI).mono ?_); rintro e w' ⟨rfl, d, rfl⟩))
  go_loopw [6] (fun s wr => ∃ (T : Nat) (z : Int), T ≤ n ∧ s = .int .i64 z ∧ z = (T : Int) - 1 ∧ Hid (lt m zs zs.length = lt m zs T) ∧ wr = w.drewN d) (fun s _ => (intOf s + 1).toNat)
  case atStart => exact ⟨n, _, Nat.le_refl _, rfl, by omega, Lib.hid (by rw [hn.out]), rfl⟩
  case round =>
    obtain ⟨T, z, hT, rfl, hz, H, rfl⟩ := hrel
    by_cases h0 : T = 0
    · subst h0
      have hno := nx_no (n := m) (zs := zs) H.out
      obtain rfl := hL.out.trans hno.1
      obtain rfl := hb.out.trans hno.2
      have z0 : z < 0 := by omega
      clear hno hL hb
      go_wp2_with fail
      go_ret2
      exact ⟨none, 0, 0, rfl, rfl, Nat.le_refl _, ints_nil _ _, bel_drewN (Below.refl _ _) _⟩
    · obtain ⟨t, rfl⟩ : ∃ t, T = t + 1 := ⟨T - 1, by omega⟩
      obtain rfl : z = (t : Int) := by omega
      clear hz
      obtain ⟨ad, off, rfl, hx⟩ := hI.at_ (k := t) (by rw [hn.out]; omega)
      have htn : t < n := by omega
      have hat := asc_at HA.out (i := t) (by rw [hn.out]; exact htn)
      obtain ⟨q, hq⟩ : ∃ q : Nat, (n : Int) - 1 = (q : Int) := ⟨n - 1, by omega⟩
      obtain ⟨u, hu⟩ : ∃ u : Nat, (q : Int) - (t : Int) = (u : Int) := ⟨q - t, by omega⟩
      obtain ⟨v, hv⟩ : ∃ v : Nat, (m : Int) - (u : Int) = (v : Int) := ⟨m - u, by omega⟩
      obtain ⟨x, hxe⟩ : ∃ x : Nat, at0 zs t = (x : Int) := ⟨(at0 zs t).toNat, by omega⟩
      have hst := lt_step (m := m) (t := t) (zs := zs) (v := v) hn.out (by rw [hq, hu, hv])
      rw [hxe] at hst hx hat
      have hx8 : x ≤ 80 := by omega
      by_cases he : x = v
      · subst he
        have HS : Hid (lt m zs zs.length = lt m zs t) := Lib.hid (by rw [H.out, hst, if_pos rfl])
        clear hat hst hxe
        go_wp2_with fail
        go_roundw
        case rel => exact ⟨t, _, by omega, rfl, by omega, HS, trivial⟩
        case measure => simp [intOf]
      · have hys := nx_yes (n := m) (zs := zs) (T := t) (by rw [H.out, hst, if_neg (by omega)])
        rw [hn.out] at hys
        have HL := Lib.hid (hL.out.trans hys.1)
        obtain rfl := hb.out.trans hys.2
        have he2 : ((x : Int) == (v : Int)) = false := by simp; omega
        have hxs := Lib.hid hxe
        have HI := Lib.hid hI
        have hLn : Hid (L.length = n) := Lib.hid (by rw [HL.out, nr_len, hn.out])
        have BD : Below w.heap.size w (w.drewN d) := bel_drewN (Below.refl _ _) _
        have L1 : Hid (∀ j, j < t → at0 L j = at0 zs j) := Lib.hid fun j hj => by
          have := nr_at (zs := zs) (T := t) (i := n) (j := j) (by rw [hn.out]; omega)
          rw [if_neg (by omega)] at this
          rw [HL.out, this]
        have L2 : Hid (∀ j, t ≤ j → j < n → at0 L j = (x : Int) + 1 + (j : Int) - (t : Int)) := Lib.hid fun j hj hj2 => by
          have := nr_at (zs := zs) (T := t) (i := n) (j := j) (by rw [hn.out]; omega)
          rw [if_pos ⟨hj, hj2⟩, hxs.out] at this
          rw [HL.out, this]; omega
        clear hat he hys hL hb hst hxe hI
        go_wp2_with fail
        go_loopw [7, 8] (fun s7 s8 wr => ∃ k : Nat, k ≤ t ∧ s8 = .int .i64 (k : Int) ∧ Hid (OwnI wr w.heap.size s7 (L.take k) k) ∧ Below w.heap.size w wr) (fun _ s8 _ => t - (intOf s8).toNat)
        case atStart => exact ⟨0, by omega, rfl, Lib.hid (own_nil _ _), BD⟩
        case round =>
          obtain ⟨k, hk, rfl, hown, hbel⟩ := hrel
          by_cases hlt : k < t
          · obtain ⟨bb, bo, hbe, hy⟩ := (ints_below HI.out hbel).at_ (k := k) (by rw [hn.out]; omega)
            injection hbe with hbe
            injection hbe with h1 h2
            subst h1 h2
            have D1 : Hid (L.take k ++ [at0 zs k] = L.take (k + 1)) := Lib.hid (by rw [← L1.out k hlt, take_snoc (by rw [hLn.out]; omega)])
            generalize at0 zs k = y at *
            have HB := hbel.size
            have HBel := Lib.hid hbel
            clear hbel BD hx
            go_wp2_with (refine push_int (by rfl) (.tmp 42) (.tmp 47) (by rfl) wr w.heap.size _ k (L.take k) y (by rfl) hown.out (by rfl) (by omega) HB ?_; intro g cg w3 hp; unfold PushedI at hp; rw [D1.out] at hp; have HP := Lib.hid hp; clear hp)
            go_roundw
            case rel => exact ⟨k + 1, by omega, by go_num, Lib.hid HP.out.1, HBel.out.trans HP.out.2⟩
            case measure => simp [intOf]; omega
          · obtain rfl : k = t := by omega
            clear hx BD
            go_wp2_with fail
            go_loopw [7, 9] (fun s7 s9 wr => ∃ j : Nat, k ≤ j ∧ j ≤ n ∧ s9 = .int .i64 (j : Int) ∧ Hid (OwnI wr w.heap.size s7 (L.take j) j) ∧ Below w.heap.size w wr) (fun _ s9 _ => n - (intOf s9).toNat)
            case atStart => exact ⟨k, by omega, by omega, rfl, hown, hbel⟩
            case round =>
              obtain ⟨j, hj1, hj2, rfl, hown, hbel⟩ := hrel
              by_cases hlt : j < n
              · obtain ⟨bb, bo, hbe, hy⟩ := (ints_below HI.out hbel).at_ (k := k) (by rw [hn.out]; omega)
                injection hbe with hbe
                injection hbe with h1 h2
                subst h1 h2
                rw [hxs.out] at hy
                have D1 : Hid (L.take j ++ [(x : Int) + 1 + (j : Int) - (k : Int)] = L.take (j + 1)) := Lib.hid (by rw [← L2.out j hj1 hlt, take_snoc (by rw [hLn.out]; omega)])
                have HB := hbel.size
                have HBel := Lib.hid hbel
                clear hbel
                go_wp2_with (refine push_int (by rfl) (.tmp 56) (.tmp 66) (by rfl) wr w.heap.size _ j (L.take j) ((x : Int) + 1 + (j : Int) - (k : Int)) (by rfl) hown.out (by rfl) (by omega) HB ?_; intro g cg w3 hp; unfold PushedI at hp; rw [D1.out] at hp; have HP := Lib.hid hp; clear hp)
                go_roundw
                case rel => exact ⟨j + 1, by omega, by omega, by go_num, Lib.hid HP.out.1, HBel.out.trans HP.out.2⟩
                case measure => simp [intOf]; omega
              · obtain rfl : j = n := by omega
                obtain ⟨A9, c9, rfl, h5, h6, h7⟩ := own_sliceI hown.out
                rw [List.take_of_length_le (by rw [hLn.out]; omega)] at h6
                have H6 := Lib.hid h6
                have HBel := Lib.hid hbel
                clear h6 h7 hbel
                go_wp2_with fail
                go_ret2
                exact ⟨A9, j, c9, rfl, hLn.out, h5, H6.out, HBel.out⟩
theorem rnext_any (A : Option Addr) (n c : Nat) (m : Int) (zs L : List Int) (b : Bool) (hL : Hid (L = if chk m zs = 0 then nxL m.toNat zs else [])) (hb : Hid (b = if chk m zs = 0 then nxB m.toNat zs else false)) (hn : Hid (zs.length = n)) (hN : n ≤ 9223372036854775807) (w : World) (hI : Ints w A zs) :
    Calls Try.prog 21 #[.slice A n c, .int .i64 m] w (NextP L b w) := by
  by_cases g : chk m zs = 0
  · have hr : 0 ≤ m := by
      unfold chk at g
      by_cases c : m < 0 ∨ 80 < m
      · rw [if_pos c] at g; cases g
      · omega
    obtain ⟨N, rfl⟩ := Int.eq_ofNat_of_zero_le hr
    have h1 := hL.out
    have h2 := hb.out
    rw [if_pos g, Int.toNat_natCast] at h1 h2
    exact rnext_yes A n c N zs L b (Lib.hid h1) (Lib.hid h2) hn (Lib.hid g) w hI
  · have h1 := hL.out
    have h2 := hb.out
    rw [if_neg g] at h1 h2
    subst h1 h2
    exact rnext_no A n c m zs hn hN g w hI
end Go.Proofs.Ytjblfmgiafdefaa.cbE

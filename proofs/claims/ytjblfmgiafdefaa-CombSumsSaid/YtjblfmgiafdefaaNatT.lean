/-
  The reference's Whole, add, sub.
-/
import Derived.Test.YtjblfmgiafdefaaNatS
namespace Go.Proofs.Ytjblfmgiafdefaa.natT
open Go.RowKit
open Go.Proofs.Ytjblfmgiafdefaa.natM Go.Proofs.Ytjblfmgiafdefaa.natA Go.Proofs.Ytjblfmgiafdefaa.natB Go.Proofs.Ytjblfmgiafdefaa.natC Go.Proofs.Ytjblfmgiafdefaa.natD Go.Proofs.Ytjblfmgiafdefaa.natE Go.Proofs.Ytjblfmgiafdefaa.natF Go.Proofs.Ytjblfmgiafdefaa.natG Go.Proofs.Ytjblfmgiafdefaa.natR Go.Proofs.Ytjblfmgiafdefaa.natS
set_option linter.unusedVariables false

/-! ### Whole -/
def WhP (v : Nat) (w : World) (e : Ending) (w' : World) : Prop :=
  ∃ A n c, e = .returned (.tuple #[.agg #[.slice A n c], .bool true]) ∧ Num w' A n c v ∧ New w A n ∧ Below w.heap.size w w'
theorem big_half {v : Nat} : 128 < nlen 65536 v ↔ 64 < nlen 4294967296 v := by
  have := nlen_double 65536 v (by omega)
  rw [show (65536 * 65536 : Nat) = 4294967296 by rfl] at this
  omega

set_option maxRecDepth 4000 in
set_option maxHeartbeats 1000000 in
theorem whole_big (A : Option Addr) (n c v : Nat) (hv : Hid (v < 65536 ^ n)) (hnc : n ≤ c) (hn : n ≤ 9223372036854775807) (hbig : 64 < nlen 4294967296 v) (w : World) (hI : Cel .i64 w A (dg 65536 n v)) :
    Calls Try.prog 42 #[.slice A n c] w fun e w' => e = .returned (.tuple #[.agg #[.slice none 0 0], .bool false]) ∧ Below w.heap.size w w' := by
  obtain ⟨N, hN⟩ : ∃ N, Hid (N = nlen 65536 v) := ⟨_, rfl⟩
  have hN2 : 128 < N := by rw [hN.out]; exact big_half.2 hbig
  have ct := fun o => rtrim_any A n c v N hv hN hnc hn (w.alloc o) (hI.alloc o)
  clear hI hbig
  go_enter Try.func42, Try.ntmps42
  go_wp2_with (go_at_call 60; refine (ct _).mono ?_; rintro e w' ⟨rfl, rfl⟩)
  refine bodyPost_ret (v := .tuple #[.agg #[.slice none 0 0], .bool false]) (by simp [results, Try.results42, go_sem]) rfl ?_
  exact ⟨rfl, below_new _ _⟩

theorem limb_parts {v k i0 N d1 d2 : Nat} (hi : i0 = 2 * k) (h1 : d1 = v / 65536 ^ i0 % 65536) (h2 : d2 = v / 65536 ^ (i0 + 1) % 65536) :
    ∃ p x : Nat, 65536 * (d2 : Int) = (p : Int) ∧ (d1 : Int) + (p : Int) = (x : Int) ∧ p < 4294967296 ∧ x < 4294967296 ∧ d1 < 65536 ∧ d2 < 65536 ∧ x = v / 4294967296 ^ k % 4294967296 ∧ (d2 = 0 → x = d1) := by
  subst hi
  obtain ⟨a, b⟩ := halves_at v k
  rw [← h1] at a
  rw [← h2] at b
  generalize v / 4294967296 ^ k % 4294967296 = z at *
  exact ⟨65536 * d2, d1 + 65536 * d2, by omega, by omega, by omega, by omega, by omega, by omega, by omega, by omega⟩
theorem set_bx {w : World} {b : Nat} {v : Value} (h : Bx w b v) (u : Value) : Bx (w.setCell ⟨b, 0, none⟩ u) b u := by
  obtain ⟨T, h⟩ := h
  exact ⟨T, by simp [World.setCell, Array.getElem?_modify, h]⟩

set_option maxRecDepth 4000 in
set_option maxHeartbeats 4000000 in
theorem whole_ok (A : Option Addr) (n c v : Nat) (hv : Hid (v < 65536 ^ n)) (hnc : n ≤ c) (hn : n ≤ 1000) (hok : nlen 4294967296 v ≤ 64) (w : World) (hI : Cel .i64 w A (dg 65536 n v)) :
    Calls Try.prog 42 #[.slice A n c] w (WhP v w) := by
  obtain ⟨N, hN⟩ : ∃ N, Hid (N = nlen 65536 v) := ⟨_, rfl⟩
  have hN2 : ¬ 128 < N := by rw [hN.out]; intro h; have := big_half.1 h; omega
  have hNn : N ≤ n := by rw [hN.out]; exact nlen_le (by omega) hv.out
  have HVN : Hid (v < 65536 ^ N) := Lib.hid (by rw [hN.out]; exact nlen_lt (by omega) v)
  have ct := fun o => rtrim_any A n c v N hv hN hnc (by omega) (w.alloc o) (hI.alloc o)
  have HI := Lib.hid (cel_less hI hNn)
  clear hI hok
  go_enter Try.func42, Try.ntmps42
  go_wp2_with (go_at_call 60; refine (ct _).mono ?_; rintro e w' ⟨rfl, rfl⟩)
  clear ct
  obtain ⟨w2, hw2⟩ : ∃ w2, (w.alloc (.cells #[.slice none 0 0] 24)).alloc (.cells #[.slice none 0 0] 24) = w2 := ⟨_, rfl⟩
  have HX := Lib.hid (hw2 ▸ bx2 w (.slice none 0 0) (.slice none 0 0) 24 24)
  have HB : Hid (Below w.heap.size w w2) := Lib.hid (by rw [← hw2]; exact below_two _ _ _)
  have HZ : Hid (w2.heap.size = w.heap.size + 1 + 1) := Lib.hid (by rw [← hw2]; simp)
  rw [hw2]
  clear hw2
  go_loopw [5] (fun i wr => ∃ (k i0 : Nat) (A1 : Option Addr) (c1 : Nat), i0 ≤ N + 1 ∧ Hid (i0 = 2 * k) ∧ i = .int .i64 (i0 : Int) ∧ Hid (Bx wr w.heap.size (.slice none 0 0)) ∧ Hid (Bx wr (w.heap.size + 1) (.slice A1 k c1)) ∧
      Hid (wr.ownsRow w2.heap.size 55 1 (.slice A1 k c1) k (cells .u32 (dg 4294967296 k v))) ∧ Hid (Below w.heap.size w wr ∧ w2.heap.size ≤ wr.heap.size)) (fun i _ => N + 2 - (intOf i).toNat)
  case atStart => exact ⟨0, 0, none, 0, by omega, Lib.hid rfl, rfl, Lib.hid HX.out.1, Lib.hid HX.out.2, Lib.hid (World.ownsRow_nil _ _ _ _), Lib.hid ⟨HB.out, Nat.le_refl _⟩⟩
  case round =>
    obtain ⟨k, i0, A1, c1, hi0, hik, rfl, hx0, hx1, hown, hbel⟩ := hrel
    have xb := hx1.out.cell
    have fb := hx1.out.free
    have hk1 : k ≤ 100 := by have := hik.out; omega
    by_cases hlt : i0 < N
    · have hcel := HI.out.below hbel.out.1
      obtain ⟨b, off, rfl, hc⟩ := hcel.at_ (k := i0) (by rw [dg_len]; exact hlt)
      rw [dg_at hlt] at hc
      obtain ⟨d1, hd1⟩ : ∃ d1, d1 = v / 65536 ^ i0 % 65536 := ⟨_, rfl⟩
      obtain ⟨d2, hd2⟩ : ∃ d2, d2 = v / 65536 ^ (i0 + 1) % 65536 := ⟨_, rfl⟩
      rw [← hd1] at hc
      obtain ⟨p, x, e1, e2, b1, b2, b3, b4, hxe, hz⟩ := limb_parts (N := N) hik.out hd1 hd2
      have D : Hid (dg 4294967296 k v ++ [x] = dg 4294967296 (k + 1) v) := Lib.hid (by rw [dg_snoc, hxe])
      have hB2 := hbel.out.2
      by_cases h1 : i0 + 1 < N
      · have hc2 := (hcel.at_ (k := i0 + 1) (by rw [dg_len]; exact h1))
        obtain ⟨b', off', hbe, hc2⟩ := hc2
        injection hbe with hbe; injection hbe with hbe1 hbe2; subst hbe1 hbe2
        rw [dg_at h1, ← hd2] at hc2
        have HH := Lib.hid hcel
        clear hcel hxe hd1 hd2 hz
        go_wp2_with (refine push_u32 (by rfl) (.tmp 37) (.tmp 40) (by rfl) wr w2.heap.size _ k (dg 4294967296 k v) x (by rfl) hown.out (by rfl) (by omega) hB2 ?_; intro g cg w3 hp; rw [D.out] at hp; have HP := Lib.hid hp; have y1 := Lib.hid (show Bx w3 (w.heap.size + 1) (.slice A1 k c1) from (let ⟨T, h⟩ := hx1.out; ⟨T, (hp.2.1.block _ (by have := HZ.out; omega)).trans h⟩)); have y0 := Lib.hid (show Bx w3 w.heap.size (.slice none 0 0) from (let ⟨T, h⟩ := hx0.out; ⟨T, (hp.2.1.block _ (by have := HZ.out; omega)).trans h⟩)); have xb3 := y1.out.cell; have fb3 := y1.out.free; clear hp)
        go_roundw
        case rel =>
          exact ⟨k + 1, i0 + 2, some ⟨g, 0, none⟩, cg, by omega, Lib.hid (by have := hik.out; omega), by go_num, Lib.hid (y0.out.far (by simp) _), Lib.hid (set_bx y1.out _), Lib.hid (ownsRow_setCell_below HP.out.1 (by have := HZ.out; simp; omega) _), Lib.hid ⟨(hbel.out.1.trans (HP.out.2.1.mono (by have := HZ.out; omega))).setCell (by simp) _, by have := HP.out.2.1.size; simp [World.setCell]; omega⟩⟩
        case measure => simp [intOf]; omega
      · have hd0 : d2 = 0 := by rw [hd2]; exact dig_outH HVN.out (by omega)
        have hxd := hz hd0
        subst hxd
        clear hcel hxe hd1 hd2 hz e1 e2 hd0
        go_wp2_with (refine push_u32 (by rfl) (.tmp 37) (.tmp 40) (by rfl) wr w2.heap.size _ k (dg 4294967296 k v) x (by rfl) hown.out (by rfl) (by omega) hB2 ?_; intro g cg w3 hp; rw [D.out] at hp; have HP := Lib.hid hp; have y1 := Lib.hid (show Bx w3 (w.heap.size + 1) (.slice A1 k c1) from (let ⟨T, h⟩ := hx1.out; ⟨T, (hp.2.1.block _ (by have := HZ.out; omega)).trans h⟩)); have y0 := Lib.hid (show Bx w3 w.heap.size (.slice none 0 0) from (let ⟨T, h⟩ := hx0.out; ⟨T, (hp.2.1.block _ (by have := HZ.out; omega)).trans h⟩)); have xb3 := y1.out.cell; have fb3 := y1.out.free; clear hp)
        go_roundw
        case rel =>
          exact ⟨k + 1, i0 + 2, some ⟨g, 0, none⟩, cg, by omega, Lib.hid (by have := hik.out; omega), by go_num, Lib.hid (y0.out.far (by simp) _), Lib.hid (set_bx y1.out _), Lib.hid (ownsRow_setCell_below HP.out.1 (by have := HZ.out; simp; omega) _), Lib.hid ⟨(hbel.out.1.trans (HP.out.2.1.mono (by have := HZ.out; omega))).setCell (by simp) _, by have := HP.out.2.1.size; simp [World.setCell]; omega⟩⟩
        case measure => simp [intOf]; omega
    · have xr := hx0.out.cell
      have fr := hx0.out.free
      have hkL : Hid (k = nlen 4294967296 v) := Lib.hid (by
        have h2 := nlen_double 65536 v (by omega)
        rw [show (65536 * 65536 : Nat) = 4294967296 by rfl, ← hN.out] at h2
        have := hik.out; omega)
      obtain ⟨A2, c2, hv2, hc2, hcel, hnew⟩ := own_slice hown.out
      injection hv2 with e1 _ e3
      subst e1 e3
      have HC := Lib.hid hcel
      have HN2 := Lib.hid hnew
      have xs := set_same hx0.out
      clear hcel hnew
      go_wp2_with fail
      refine bodyPost_ret (v := .tuple #[.agg #[.slice A1 k c1], .bool true]) (by simp [results, Try.results42, go_sem, xs]) rfl ?_
      have hnw : New w A1 k := fun _ ad e => by have := HN2.out ad e; have := HZ.out; omega
      exact ⟨A1, k, c1, rfl, ⟨hkL.out, hc2, HC.out.set_ (fun hp ad e => by have := HN2.out ad e; have := HZ.out; simp; omega) _⟩, hnw, hbel.out.1.setCell (by simp) _⟩
end Go.Proofs.Ytjblfmgiafdefaa.natT

/-
  The reference's Halves, Whole, add, sub.
-/
import Derived.Test.YtjblfmgiafdefaaNatR
namespace Go.Proofs.Ytjblfmgiafdefaa.natS
open Go.RowKit
open Go.Proofs.Ytjblfmgiafdefaa.natM Go.Proofs.Ytjblfmgiafdefaa.natA Go.Proofs.Ytjblfmgiafdefaa.natB Go.Proofs.Ytjblfmgiafdefaa.natC Go.Proofs.Ytjblfmgiafdefaa.natD Go.Proofs.Ytjblfmgiafdefaa.natE Go.Proofs.Ytjblfmgiafdefaa.natF Go.Proofs.Ytjblfmgiafdefaa.natG Go.Proofs.Ytjblfmgiafdefaa.natR
set_option linter.unusedVariables false

/-- a slice of the digits of a number, in base 65536 -/
def Hal (w : World) (A : Option Addr) (n c v : Nat) : Prop := n = nlen 65536 v ∧ n ≤ c ∧ Cel .i64 w A (dg 65536 n v)
theorem Hal.below {w w1 : World} {A : Option Addr} {n c v : Nat} (h : Hal w A n c v) (hb : Below w.heap.size w w1) : Hal w1 A n c v := ⟨h.1, h.2.1, h.2.2.below hb⟩
theorem Hal.lt {w : World} {A : Option Addr} {n c v : Nat} (h : Hal w A n c v) : v < 65536 ^ n := by rw [h.1]; exact nlen_lt (by omega) v
theorem Hal.nil (w : World) (c : Nat) : Hal w none 0 c 0 := ⟨(nlen_zero _).symm, by omega, Cel.nil _ _ _⟩
def RP (v : Nat) (w : World) (e : Ending) (w' : World) : Prop :=
  ∃ A n c, e = .returned (.slice A n c) ∧ Hal w' A n c v ∧ New w A n ∧ Below w.heap.size w w'

theorem own_slice {K : IntKind} {T : TypeId} {w : World} {B : Nat} {v : Value} {n : Nat} {zs : List Nat} (h : w.ownsRow B T 1 v n (cells K zs)) :
    ∃ A c, v = .slice A n c ∧ n ≤ c ∧ Cel K w A zs ∧ ∀ ad, A = some ad → B ≤ ad.block := by
  rcases h.2 with ⟨rfl, rfl⟩ | ⟨g, cap, cur, rfl, hg, hh, hnc, _, _, _⟩
  · have hl := h.1
    rw [cells_len] at hl
    exact ⟨none, 0, rfl, by omega, fun hp => absurd hp (by omega), fun ad e => by cases e⟩
  · exact ⟨some ⟨g, 0, none⟩, cap, rfl, hnc, (Own.of_own h).all, fun ad e => by injection e with e; subst e; exact hg⟩
theorem cel_less {K : IntKind} {w : World} {A : Option Addr} {B n N v : Nat} (h : Cel K w A (dg B n v)) (hN : N ≤ n) : Cel K w A (dg B N v) := fun hp => by
  rw [dg_len] at hp
  obtain ⟨b, off, e, hc⟩ := h (by rw [dg_len]; omega)
  refine ⟨b, off, e, fun j x hx => ?_⟩
  have hj : j < N := by have := lt_of_some hx; rwa [dg_len] at this
  rw [← dg_take hN, List.getElem?_take_of_lt hj] at hx
  exact hc j x hx
theorem row_of {K : IntKind} {T : TypeId} {w : World} {B n : Nat} : w.ownsRow B T 1 (.slice none 0 0) 0 (cells K (dg n 0 0)) := World.ownsRow_nil _ _ _ _
theorem own_below {T : TypeId} {w w1 : World} {B : Nat} {v : Value} {n : Nat} {xs : List Value} (h : w.ownsRow B T 1 v n xs) (hb : Below w.heap.size w w1) : w1.ownsRow B T 1 v n xs :=
  h.kept (row := none) ⟨hb.os, hb.tape, hb.output, hb.size, fun k hk _ => hb.block k hk⟩ (by cases e : v.ownBlock <;> simp)
theorem halves_at (v k : Nat) : v / 4294967296 ^ k % 4294967296 % 65536 = v / 65536 ^ (2 * k) % 65536 ∧ v / 4294967296 ^ k % 4294967296 / 65536 = v / 65536 ^ (2 * k + 1) % 65536 := half_at 65536 v k (by omega)
theorem half_pow (k : Nat) : 4294967296 ^ k = 65536 ^ (2 * k) := by rw [Nat.pow_mul]

set_option maxRecDepth 4000 in
set_option maxHeartbeats 2000000 in
theorem halves_any (A : Option Addr) (n c v : Nat) (hv : Hid (v < 4294967296 ^ n)) (hn : n ≤ 100) (w : World) (hI : Cel .u32 w A (dg 4294967296 n v)) :
    Calls Try.prog 44 #[.agg #[.slice A n c]] w (RP v w) := by
  obtain ⟨w1, hw1⟩ : ∃ w1, w.alloc (.cells #[.slice A n c] 24) = w1 := ⟨_, rfl⟩
  have HX : Hid (Bx w1 w.heap.size (.slice A n c)) := Lib.hid (by rw [← hw1]; exact Bx.new_ _ _ _)
  have HB : Hid (Below w.heap.size w w1) := Lib.hid (by rw [← hw1]; exact below_new _ _)
  have HI : Hid (Cel .u32 w1 A (dg 4294967296 n v)) := Lib.hid (by rw [← hw1]; exact hI.alloc _)
  have HV : Hid (v < 65536 ^ (2 * n)) := Lib.hid (by rw [← half_pow]; exact hv.out)
  have HW := Lib.hid hw1
  clear hI hw1
  go_enter Try.func44, Try.ntmps44
  go_wp2_with fail
  rw [HW.out]
  go_loopw [3, 4] (fun s i wr => ∃ k : Nat, k ≤ n ∧ i = .int .i64 (k : Int) ∧ Hid (wr.ownsRow w1.heap.size 3 1 s (2 * k) (cells .i64 (dg 65536 (2 * k) v))) ∧ Hid (Below w1.heap.size w1 wr)) (fun _ i _ => n - (intOf i).toNat)
  case atStart => exact ⟨0, by omega, rfl, Lib.hid (World.ownsRow_nil _ _ _ _), Lib.hid (Below.refl _ _)⟩
  case round =>
    obtain ⟨k, hk, rfl, hown, hbel⟩ := hrel
    have xb := (HX.out.below hbel.out).cell
    by_cases hlt : k < n
    · obtain ⟨b, off, rfl, hx⟩ := (HI.out.below hbel.out).at_ (k := k) (by rw [dg_len]; exact hlt)
      obtain ⟨h1, h2⟩ := halves_at v k
      obtain ⟨x, hxe⟩ : ∃ x, x = v / 4294967296 ^ k % 4294967296 := ⟨_, rfl⟩
      have HAT : Hid (at0 (dg 4294967296 n v) k = x) := Lib.hid (by rw [dg_at hlt, hxe])
      rw [HAT.out] at hx
      rw [← hxe] at h1 h2
      obtain ⟨y1, hy1⟩ : ∃ y1, y1 = x % 65536 := ⟨_, rfl⟩
      obtain ⟨y2, hy2⟩ : ∃ y2, y2 = x / 65536 := ⟨_, rfl⟩
      have hx4 : x < 4294967296 := by rw [hxe]; exact Nat.mod_lt _ (by omega)
      have e1 : (x : Int) % 65536 = (y1 : Int) := by omega
      have e2 : (x : Int) / 65536 = (y2 : Int) := by omega
      have hb1 : y1 < 65536 := by omega
      have hb2 : y2 < 65536 := by omega
      have D1 : Hid (dg 65536 (2 * k) v ++ [y1] = dg 65536 (2 * k + 1) v) := Lib.hid (by rw [dg_snoc, ← h1, hy1])
      have D2 : Hid (dg 65536 (2 * k + 1) v ++ [y2] = dg 65536 (2 * (k + 1)) v) := Lib.hid (by rw [show 2 * (k + 1) = 2 * k + 1 + 1 by omega, dg_snoc 65536 (2 * k + 1), ← h2, hy2])
      have HXE := Lib.hid hx
      clear hxe hy1 hy2 h1 h2
      go_wp2_with (first
        | (refine push_i64 (by rfl) (.tmp 12) (.tmp 20) (by rfl) wr w1.heap.size _ (2 * k) (dg 65536 (2 * k) v) y1 (by rfl) hown.out (by rfl) (by omega) hbel.out.size ?_; intro g cg w2 hp; rw [D1.out] at hp; have HP := Lib.hid hp; have HB2 := Lib.hid (hbel.out.trans hp.2.1); have xb2 := (HX.out.below HB2.out).cell; have hx2 := (HI.out.below HB2.out).at_ (k := k) (by rw [dg_len]; exact hlt); clear hp; obtain ⟨b2, off2, hbe, hx2⟩ := hx2; injection hbe with hbe; injection hbe with hbe1 hbe2; subst hbe1 hbe2; rw [HAT.out] at hx2)
        | (refine push_i64 (by rfl) (.tmp 22) (.tmp 30) (by rfl) w2 w1.heap.size _ (2 * k + 1) (dg 65536 (2 * k + 1) v) y2 (by rfl) HP.out.1 (by rfl) (by omega) HB2.out.size ?_; intro g3 cg3 w3 hp; rw [D2.out] at hp; have HP3 := Lib.hid hp; have HB3 := Lib.hid (HB2.out.trans hp.2.1); clear hp))
      go_roundw
      case rel => exact ⟨k + 1, by omega, by go_num, Lib.hid HP3.out.1, HB3⟩
      case measure => simp [intOf]; omega
    · have e : k = n := by omega
      subst e
      obtain ⟨A2, c2, rfl, hc2, hcel, hnew⟩ := own_slice hown.out
      obtain ⟨N, hN⟩ : ∃ N, Hid (N = nlen 65536 v) := ⟨_, rfl⟩
      have hNk : Hid (N ≤ 2 * k) := Lib.hid (by rw [hN.out]; exact nlen_le (by omega) HV.out)
      have ct := rtrim_any A2 (2 * k) c2 v N HV hN hc2 (by omega) wr hcel
      have HC := Lib.hid (cel_less hcel hNk.out)
      have HNW := Lib.hid hnew
      clear hcel hnew
      go_wp2_with (go_at_call 60; refine ct.mono ?_; rintro e w' ⟨rfl, rfl⟩)
      go_ret
      exact ⟨A2, N, c2, rfl, ⟨hN.out, by have := hNk.out; omega, HC.out⟩, fun _ ad e => Nat.le_trans HB.out.size (HNW.out ad e), below_on HB.out hbel.out⟩
end Go.Proofs.Ytjblfmgiafdefaa.natS

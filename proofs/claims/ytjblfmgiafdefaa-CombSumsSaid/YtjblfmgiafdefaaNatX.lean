/-
  The reference's Same, Cmp, Of, Uint; Of and Uint of nat.
-/
import Derived.Test.YtjblfmgiafdefaaNatW
namespace Go.Proofs.Ytjblfmgiafdefaa.natX
open Go.RowKit
open Go.Proofs.Ytjblfmgiafdefaa.natM Go.Proofs.Ytjblfmgiafdefaa.natA Go.Proofs.Ytjblfmgiafdefaa.natB Go.Proofs.Ytjblfmgiafdefaa.natC Go.Proofs.Ytjblfmgiafdefaa.natD Go.Proofs.Ytjblfmgiafdefaa.natE Go.Proofs.Ytjblfmgiafdefaa.natF Go.Proofs.Ytjblfmgiafdefaa.natG Go.Proofs.Ytjblfmgiafdefaa.natH Go.Proofs.Ytjblfmgiafdefaa.natI Go.Proofs.Ytjblfmgiafdefaa.natJ Go.Proofs.Ytjblfmgiafdefaa.natR Go.Proofs.Ytjblfmgiafdefaa.natS Go.Proofs.Ytjblfmgiafdefaa.natT Go.Proofs.Ytjblfmgiafdefaa.natU Go.Proofs.Ytjblfmgiafdefaa.natV Go.Proofs.Ytjblfmgiafdefaa.natW
set_option linter.unusedVariables false

theorem cel_drew {K : IntKind} {w : World} {A : Option Addr} {zs : List Nat} (h : Cel K w A zs) : Cel K w.drew A zs := h
theorem bx_drew {w : World} {b : Nat} {v : Value} (h : Bx w b v) : Bx w.drew b v := h
theorem bel_drew {B : Nat} {a w : World} (h : Below B a w) : Below B a w.drew := ⟨h.os, h.tape, h.output, h.size, h.block⟩
/-! ### Same -/
set_option maxRecDepth 4000 in
set_option maxHeartbeats 2000000 in
theorem same_any (A D : Option Addr) (n c d v : Nat) (hn : n ≤ 9223372036854775807) (w : World) (hI : Cel .u32 w A (dg 4294967296 n v)) (hJ : Cel .u32 w D (dg 4294967296 n v)) :
    Calls Try.prog 14 #[.agg #[.slice A n c], .agg #[.slice D n d]] w fun e w' => e = .returned (.bool true) ∧ Below w.heap.size w w' := by
  obtain ⟨w1, hw1⟩ : ∃ w1, (w.alloc (.cells #[.slice A n c] 24)).alloc (.cells #[.slice D n d] 24) = w1 := ⟨_, rfl⟩
  have HX := Lib.hid (hw1 ▸ bx2 w (.slice A n c) (.slice D n d) 24 24)
  have HB : Hid (Below w.heap.size w w1) := Lib.hid (by rw [← hw1]; exact below_two _ _ _)
  have HI := Lib.hid hI
  have HJ := Lib.hid hJ
  have HW := Lib.hid hw1
  clear hI hJ hw1
  go_enter Try.func14, Try.ntmps14
  go_wp2_with fail
  rw [HW.out]
  go_loopw [5] (fun i wr => ∃ k : Nat, k ≤ n ∧ i = .int .i64 (k : Int) ∧ Hid (Bx wr w.heap.size (.slice A n c)) ∧ Hid (Bx wr (w.heap.size + 1) (.slice D n d)) ∧ Hid (Below w.heap.size w wr)) (fun i _ => n - (intOf i).toNat)
  case atStart => exact ⟨0, by omega, rfl, Lib.hid HX.out.1, Lib.hid HX.out.2, HB⟩
  case round =>
    obtain ⟨k, hk, rfl, hx, hy, hbel⟩ := hrel
    have xa := hx.out.cell
    have xb := hy.out.cell
    by_cases hlt : k < n
    · obtain ⟨b, off, rfl, hc⟩ := (HI.out.below hbel.out).at_ (k := k) (by rw [dg_len]; exact hlt)
      obtain ⟨b2, off2, rfl, hc2⟩ := (HJ.out.below hbel.out).at_ (k := k) (by rw [dg_len]; exact hlt)
      generalize at0 (dg 4294967296 n v) k = x at *
      have i0 : (0 : Int) ≤ (k : Int) := by omega
      have i1 : (k : Int) < (n : Int) := by omega
      go_wp2_with fail
      go_quiet (fail)
      go_wp2_with fail
      go_roundw
      case rel => exact ⟨k + 1, by omega, by go_num, Lib.hid (hx.out.drewN _), Lib.hid (hy.out.drewN _), Lib.hid (bel_drewN hbel.out _)⟩
      case measure => simp [intOf]; omega
    · have e : k = n := by omega
      subst e
      go_wp2_with fail
      go_ret
      exact ⟨rfl, hbel.out⟩

/-! ### Cmp of the reference -/
theorem half_len {n X : Nat} (hX : X < 4294967296 ^ n) (hn : n ≤ 64) : nlen 65536 X ≤ 128 := Nat.le_trans (nlen_le (by omega) (show X < 65536 ^ (2 * n) by rw [← half_pow]; exact hX)) (by omega)

end Go.Proofs.Ytjblfmgiafdefaa.natX

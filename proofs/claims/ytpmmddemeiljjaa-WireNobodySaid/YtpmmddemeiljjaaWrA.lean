/-
  Bytes in memory; contracts of the reference's Zigzag, Signed, Take.
-/
import Derived.Test.YtpmmddemeiljjaaChecked
import Derived.Test.YtpmmddemeiljjaaWrModel
import Derived.WalkKit
import Derived.IntWalk
import Derived.WalkLawsBesides
import Derived.Laws.Bits64
import Derived.Lib.Hide
import Derived.WalkSmall
import Derived.WalkSpells
import Derived.Deep.QuietTactic
import Derived.BigQuiet
import Derived.Deep.OwnRows
import Derived.OneCell
import Derived.OwnWalk
import Derived.Deep.AppendLies
namespace Go.Proofs.Ytpmmddemeiljjaa.wrA
open Go.RowKit
open Go.Proofs.Ytpmmddemeiljjaa.dgM Go.Proofs.Ytpmmddemeiljjaa.wrM Go.Proofs.Ytpmmddemeiljjaa.wrO
set_option linter.unusedVariables false

/-! ### bytes in memory -/
/-- a byte's value -/
abbrev vB (c : UInt8) : Value := .int .u8 (c.toNat : Int)
abbrev cB (l : List UInt8) : List Value := l.map vB
/-- the slice at A reads as these bytes -/
def Cb (w : World) (A : Option Addr) (l : List UInt8) : Prop :=
  0 < l.length → ∃ b off, A = some ⟨b, off, none⟩ ∧ ∀ j x, l[j]? = some x → w.cell? ⟨b, off + j, none⟩ = some (vB x)
/-- the byte at a place -/
def bat (l : List UInt8) (k : Nat) : UInt8 := l.getD k 0
theorem bat_some {l : List UInt8} {k : Nat} (h : k < l.length) : l[k]? = some (bat l k) := by
  simp [bat, List.getD, h]
theorem drop_bat {l : List UInt8} {k : Nat} (h : k < l.length) : l.drop k = bat l k :: l.drop (k + 1) := by
  rw [List.drop_eq_getElem_cons h]
  congr 1
  simp [bat, List.getD, h]
theorem Cb.nil (w : World) (A : Option Addr) : Cb w A [] := fun h => absurd h (by simp)
theorem Cb.at_ {w : World} {A : Option Addr} {l : List UInt8} (h : Cb w A l) {k : Nat} (hk : k < l.length) : ∃ b off, A = some ⟨b, off, none⟩ ∧ w.cell? ⟨b, off + k, none⟩ = some (vB (bat l k)) := by
  obtain ⟨b, off, e, hc⟩ := h (by omega)
  exact ⟨b, off, e, hc k _ (bat_some hk)⟩
theorem Cb.drewN {w : World} {A : Option Addr} {l : List UInt8} (h : Cb w A l) (k : Nat) : Cb (w.drewN k) A l := h
theorem Cb.below {w w' : World} {A : Option Addr} {l : List UInt8} (h : Cb w A l) (hb : Below w.heap.size w w') : Cb w' A l := fun hp => by
  obtain ⟨b, off, e, hc⟩ := h hp
  refine ⟨b, off, e, fun j x hx => ?_⟩
  have h1 := hc j x hx
  rw [hb.cell (p := ⟨b, off + j, none⟩) (World.block_lt_of_cell? w _ h1)]; exact h1

/-! ### ints in memory -/
def Ci (w : World) (A : Option Addr) (zs : List Int) : Prop :=
  0 < zs.length → ∃ b off, A = some ⟨b, off, none⟩ ∧ ∀ j x, zs[j]? = some x → w.cell? ⟨b, off + j, none⟩ = some (.int .i64 x)
def iat (zs : List Int) (k : Nat) : Int := zs.getD k 0
theorem iat_some {l : List Int} {k : Nat} (h : k < l.length) : l[k]? = some (iat l k) := by
  simp [iat, List.getD, h]
theorem take_iat {l : List Int} {k : Nat} (h : k < l.length) : l.take (k + 1) = l.take k ++ [iat l k] := by
  rw [List.take_add_one, iat_some h]; rfl
theorem iat_mem {l : List Int} {k : Nat} (h : k < l.length) : iat l k ∈ l := List.mem_of_getElem? (iat_some h)
theorem Ci.at_ {w : World} {A : Option Addr} {l : List Int} (h : Ci w A l) {k : Nat} (hk : k < l.length) : ∃ b off, A = some ⟨b, off, none⟩ ∧ w.cell? ⟨b, off + k, none⟩ = some (.int .i64 (iat l k)) := by
  obtain ⟨b, off, e, hc⟩ := h (by omega)
  exact ⟨b, off, e, hc k _ (iat_some hk)⟩
theorem Ci.nil (w : World) (A : Option Addr) : Ci w A [] := fun h => absurd h (by simp)
theorem Ci.below {w w' : World} {A : Option Addr} {l : List Int} (h : Ci w A l) (hb : Below w.heap.size w w') : Ci w' A l := fun hp => by
  obtain ⟨b, off, e, hc⟩ := h hp
  refine ⟨b, off, e, fun j x hx => ?_⟩
  have h1 := hc j x hx
  rw [hb.cell (p := ⟨b, off + j, none⟩) (World.block_lt_of_cell? w _ h1)]; exact h1

/-! ### zigzag -/
theorem rzig_any (x : Int) (R : Nat) (h0 : -9223372036854775808 ≤ x) (h1 : x ≤ 9223372036854775807) (HR : Hid (R = zz x)) (w : World) :
    Calls Try.prog 46 #[.int .i64 x] w fun e w' => e = .returned (.int .u64 (R : Int)) ∧ w = w' := by
  by_cases h : x < 0
  · have hR : R = 2 * (-(x + 1)).toNat + 1 := by rw [HR.out]; exact if_pos h
    obtain ⟨n, hn⟩ : ∃ n : Nat, -(x + 1) = (n : Int) := ⟨(-(x + 1)).toNat, by omega⟩
    rw [hn, Int.toNat_natCast] at hR
    have e1 : -(x + 1) = (n : Int) := hn
    have e2 : IntKind.u64.wrap (2 * (n : Int)) = 2 * (n : Int) := by rw [IntKind.wrap_u64]; omega
    have e3 : 2 * (n : Int) + 1 = (R : Int) := by omega
    have b : n ≤ 9223372036854775807 := by omega
    have bR : R ≤ 18446744073709551615 := by omega
    clear HR hR hn
    go_enter Try.func46, Try.ntmps46
    go_wp2_with fail
    go_ret
    exact ⟨rfl, rfl⟩
  · have hR : R = 2 * x.toNat := by rw [HR.out]; exact if_neg h
    obtain ⟨n, rfl⟩ := Int.eq_ofNat_of_zero_le (show 0 ≤ x by omega)
    have e3 : 2 * (n : Int) = (R : Int) := by omega
    have bR : R ≤ 18446744073709551615 := by omega
    clear HR hR
    go_enter Try.func46, Try.ntmps46
    go_wp2_with fail
    go_ret
    exact ⟨rfl, rfl⟩
theorem rsig_any (u : Nat) (R : Int) (hu : u < A64) (HR : Hid (R = sg u)) (w : World) :
    Calls Try.prog 49 #[.int .u64 (u : Int)] w fun e w' => e = .returned (.int .i64 R) ∧ w = w' := by
  have hu' : u < 18446744073709551616 := hu
  have hR : R = if u % 2 = 1 then -((u / 2 : Nat) : Int) - 1 else ((u / 2 : Nat) : Int) := HR.out
  have e2 : (u : Int) / 2 = ((u / 2 : Nat) : Int) := by omega
  have bh : u / 2 ≤ 9223372036854775807 := by omega
  by_cases h : u % 2 = 1
  · rw [if_pos h] at hR
    have t : ((u : Int) % 2 == 1) = true := by rw [beq_iff_eq]; omega
    generalize u / 2 = n at *
    subst hR
    clear HR h hu
    go_enter Try.func49, Try.ntmps49
    go_wp2_with fail
    go_ret
    exact ⟨rfl, rfl⟩
  · rw [if_neg h] at hR
    have t : ((u : Int) % 2 == 1) = false := by rw [beq_eq_false_iff_ne]; omega
    generalize u / 2 = n at *
    subst hR
    clear HR h hu
    go_enter Try.func49, Try.ntmps49
    go_wp2_with fail
    go_ret
    exact ⟨rfl, rfl⟩
end Go.Proofs.Ytpmmddemeiljjaa.wrA

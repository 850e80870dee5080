/-
  Contracts of Sub, Mul, DivMod, GCD of nat.
-/
import Derived.Test.YtjblfmgiafdefaaNatG
import Derived.Deep.RegionHeld3
import Derived.Deep.LoopGhost
namespace Go.Proofs.Ytjblfmgiafdefaa.natH
open Go.RowKit
open Go.Proofs.Ytjblfmgiafdefaa.natM Go.Proofs.Ytjblfmgiafdefaa.natA Go.Proofs.Ytjblfmgiafdefaa.natB Go.Proofs.Ytjblfmgiafdefaa.natC Go.Proofs.Ytjblfmgiafdefaa.natD Go.Proofs.Ytjblfmgiafdefaa.natE Go.Proofs.Ytjblfmgiafdefaa.natF Go.Proofs.Ytjblfmgiafdefaa.natG
set_option linter.unusedVariables false

/-! ### Sub -/
def sE (a b : Bool) (X Y : Nat) : Int := if a = true ∧ b = true ∧ Y ≤ X then 0 else 2
def sV (a b : Bool) (X Y : Nat) : Nat := if a = true ∧ b = true ∧ Y ≤ X then X - Y else 0
theorem s_no1 {b : Bool} {X Y : Nat} : sE false b X Y = 2 ∧ sV false b X Y = 0 := ⟨if_neg (by simp), if_neg (by simp)⟩
theorem s_no2 {a : Bool} {X Y : Nat} : sE a false X Y = 2 ∧ sV a false X Y = 0 := ⟨if_neg (by simp), if_neg (by simp)⟩
theorem s_lt {a b : Bool} {X Y : Nat} (h : X < Y) : sE a b X Y = 2 ∧ sV a b X Y = 0 := ⟨if_neg (by omega), if_neg (by omega)⟩
theorem s_ok {X Y : Nat} (h : Y ≤ X) : sE true true X Y = 0 ∧ sV true true X Y = X - Y := ⟨if_pos ⟨rfl, rfl, h⟩, if_pos ⟨rfl, rfl, h⟩⟩

set_option maxHeartbeats 400000 in
theorem subT_nil (A : Option Addr) (m cy : Nat) (w : World) : Calls Try.prog 72 #[.slice none 0 0, .slice A m cy] w fun e w' => e = .returned (.tuple #[]) ∧ w = w' := by
  go_enter Try.func72, Try.ntmps72
  go_wp2
  go_loop [4, 10] (fun c i => ∃ b : Nat, c = .int .u64 (b : Int) ∧ i = .int .i64 0) (fun _ _ => 0)
  case atStart => exact ⟨0, rfl, rfl⟩
  case round =>
    obtain ⟨b, rfl, rfl⟩ := hrel
    go_wp2
    go_end0
    exact ⟨rfl, rfl⟩
theorem zero_of {n X : Nat} (h : X < 4294967296 ^ n) (hn : n = 0) : X = 0 := by subst hn; simpa using h
theorem cel_none {K : IntKind} {w : World} {zs : List Nat} (h : Cel K w none zs) : zs.length = 0 := by
  apply Decidable.byContradiction; intro hn
  obtain ⟨_, _, e, _⟩ := h (by omega)
  cases e
theorem sub_nlen {X Y : Nat} (h : nlen 4294967296 X ≤ 64) : nlen 4294967296 (X - Y) ≤ 64 := Nat.le_trans (nlen_mono (by omega) (Nat.sub_le X Y)) h

def subE (n X m Y : Nat) : Int := sE (valB n X) (valB m Y) X Y
def subV (n X m Y : Nat) : Nat := sV (valB n X) (valB m Y) X Y
end Go.Proofs.Ytjblfmgiafdefaa.natH

/-
  Contracts of DivMod, GCD, Of, Uint of nat.
-/
import Derived.Test.YtjbckijeobmoeaaDoorNatI
namespace Go.Proofs.YtjbckijeobmoeaaDoor.natJ
open Go.RowKit
open Go.Proofs.YtjbckijeobmoeaaDoor.natM Go.Proofs.YtjbckijeobmoeaaDoor.natA Go.Proofs.YtjbckijeobmoeaaDoor.natB Go.Proofs.YtjbckijeobmoeaaDoor.natC Go.Proofs.YtjbckijeobmoeaaDoor.natD Go.Proofs.YtjbckijeobmoeaaDoor.natE Go.Proofs.YtjbckijeobmoeaaDoor.natF Go.Proofs.YtjbckijeobmoeaaDoor.natG Go.Proofs.YtjbckijeobmoeaaDoor.natH Go.Proofs.YtjbckijeobmoeaaDoor.natI
set_option linter.unusedVariables false

/-! ### DivMod -/
def DivR (Q R : Nat) (E : Int) (w : World) (e : Ending) (w' : World) : Prop :=
  ∃ A n c A2 n2 c2, e = .returned (.tuple #[.agg #[.slice A n c], .agg #[.slice A2 n2 c2], .int .i64 E]) ∧ Num w' A n c Q ∧ Num w' A2 n2 c2 R ∧ Below w.heap.size w w'
def dE (a b : Bool) (Y : Nat) : Int := if a = true ∧ b = true then (if Y = 0 then 10 else 0) else 2
def dQ (a b : Bool) (X Y : Nat) : Nat := if a = true ∧ b = true ∧ Y ≠ 0 then X / Y else 0
def dR (a b : Bool) (X Y : Nat) : Nat := if a = true ∧ b = true ∧ Y ≠ 0 then X % Y else 0
theorem d_no1 {b : Bool} {X Y : Nat} : dE false b Y = 2 ∧ dQ false b X Y = 0 ∧ dR false b X Y = 0 := ⟨if_neg (by simp), if_neg (by simp), if_neg (by simp)⟩
theorem d_no2 {a : Bool} {X Y : Nat} : dE a false Y = 2 ∧ dQ a false X Y = 0 ∧ dR a false X Y = 0 := ⟨if_neg (by simp), if_neg (by simp), if_neg (by simp)⟩
theorem d_zero {X : Nat} : dE true true 0 = 10 ∧ dQ true true X 0 = 0 ∧ dR true true X 0 = 0 := ⟨rfl, if_neg (by simp), if_neg (by simp)⟩
theorem d_ok {X Y : Nat} (h : 0 < Y) : dE true true Y = 0 ∧ dQ true true X Y = X / Y ∧ dR true true X Y = X % Y := by
  have h2 : Y ≠ 0 := by omega
  unfold dE dQ dR; simp [h2]
theorem set_two {w : World} {b b' : Nat} {v v' : Value} (h : Bx w b v) (h' : Bx w b' v') (hne : b ≠ b') (u u' : Value) :
    ((w.setCell ⟨b, 0, none⟩ u).setCell ⟨b', 0, none⟩ u').cell? ⟨b, 0, none⟩ = some u ∧ ((w.setCell ⟨b, 0, none⟩ u).setCell ⟨b', 0, none⟩ u').cell? ⟨b', 0, none⟩ = some u' := by
  refine ⟨?_, set_same (h'.far (p := ⟨b, 0, none⟩) (Ne.symm hne) u) u'⟩
  have h1 : Bx (w.setCell ⟨b, 0, none⟩ u) b u := by
    obtain ⟨T, h⟩ := h
    exact ⟨T, by simp [World.setCell, Array.getElem?_modify, h]⟩
  exact (h1.far (p := ⟨b', 0, none⟩) hne u').cell
theorem below_two_set {w w1 : World} {b b' : Nat} (h : Below w.heap.size w w1) (h1 : w.heap.size ≤ b) (h2 : w.heap.size ≤ b') (u u' : Value) : Below w.heap.size w ((w1.setCell ⟨b, 0, none⟩ u).setCell ⟨b', 0, none⟩ u') :=
  (h.setCell (p := ⟨b, 0, none⟩) h1 u).setCell (p := ⟨b', 0, none⟩) h2 u'

def divE (n X m Y : Nat) : Int := dE (valB n X) (valB m Y) Y
def divQ (n X m Y : Nat) : Nat := dQ (valB n X) (valB m Y) X Y
def divR (n X m Y : Nat) : Nat := dR (valB n X) (valB m Y) X Y
/-! ### GCD -/
def gE (a b : Bool) : Int := if a = true ∧ b = true then 0 else 2
def gV (a b : Bool) (X Y : Nat) : Nat := if a = true ∧ b = true then Nat.gcd X Y else 0
theorem g_no1 {b : Bool} {X Y : Nat} : gE false b = 2 ∧ gV false b X Y = 0 := ⟨if_neg (by simp), if_neg (by simp)⟩
theorem g_no2 {a : Bool} {X Y : Nat} : gE a false = 2 ∧ gV a false X Y = 0 := ⟨if_neg (by simp), if_neg (by simp)⟩
theorem g_ok {X Y : Nat} : gE true true = 0 ∧ gV true true X Y = Nat.gcd X Y := ⟨rfl, if_pos ⟨rfl, rfl⟩⟩

def gcdE (n X m Y : Nat) : Int := gE (valB n X) (valB m Y)
def gcdV (n X m Y : Nat) : Nat := gV (valB n X) (valB m Y) X Y
end Go.Proofs.YtjbckijeobmoeaaDoor.natJ

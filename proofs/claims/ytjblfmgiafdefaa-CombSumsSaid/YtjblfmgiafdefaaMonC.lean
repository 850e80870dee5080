/-
  Contracts of money.Split and of its closure.
-/
import Derived.Test.YtjblfmgiafdefaaMonB
import Derived.Deep.OwnRows
import Derived.Deep.RegionHeld3
import Derived.Deep.CutBlock
import Derived.OneCell
namespace Go.Proofs.Ytjblfmgiafdefaa.monC
open Go.RowKit
open Go.Proofs.Ytjblfmgiafdefaa.numM Go.Proofs.Ytjblfmgiafdefaa.numA Go.Proofs.Ytjblfmgiafdefaa.numB Go.Proofs.Ytjblfmgiafdefaa.numE Go.Proofs.Ytjblfmgiafdefaa.monA Go.Proofs.Ytjblfmgiafdefaa.monM Go.Proofs.Ytjblfmgiafdefaa.monB
set_option linter.unusedVariables false

/-! ### rows of ints and boxes that the call has made -/
def rowA (zs : List Int) : Array Value := (zs.map (Value.int .i64)).toArray
def RowI (w : World) (g : Nat) (zs : List Int) : Prop := w.heap[g]? = some (.cells (rowA zs) 3 (0, 0))
def Box (w : World) (g : Nat) (v : Value) : Prop := w.heap[g]? = some (.cells #[v] 37 (0, 0))
section
variable {w : World} {g : Nat} {zs : List Int} {v : Value}
theorem RowI.lt (h : RowI w g zs) : g < w.heap.size := lt_of_block h
theorem RowI.cell (h : RowI w g zs) {j : Nat} (hj : j < zs.length) : w.cell? ⟨g, j, none⟩ = some (.int .i64 (at0 zs j)) := by
  rw [cell_of_row w g j _ _ _ h]
  simp [rowA, at0, List.getD, hj]
theorem RowI.frozen (h : RowI w g zs) (j : Nat) : w.frozen? ⟨g, j, none⟩ = false := by
  unfold RowI at h; simp [World.frozen?, h]
theorem RowI.ints (h : RowI w g zs) : Ints w (some ⟨g, 0, none⟩) zs := fun _ => ⟨g, 0, rfl, fun j x hx => by
  rw [Nat.zero_add, h.cell (lt_of_some hx), at0_of hx]⟩
theorem RowI.alloc (h : RowI w g zs) (o : Obj) : RowI (w.alloc o) g zs := (Below.heap_alloc w o g h.lt).trans h
theorem RowI.drewN (h : RowI w g zs) (k : Nat) : RowI (w.drewN k) g zs := h
theorem RowI.far (h : RowI w g zs) {p : Addr} (hp : g ≠ p.block) (u : Value) : RowI (w.setCell p u) g zs := (Below.heap_setCell w p u g hp).trans h
theorem RowI.set_ (h : RowI w g zs) (j : Nat) (x : Int) : RowI (w.setCell ⟨g, j, none⟩ (.int .i64 x)) g (zs.set j x) := by
  unfold RowI at h ⊢
  simp [World.setCell, Array.getElem?_modify, h, rowA, List.map_set]
theorem RowI.new_ (w : World) {g : Nat} (zs : List Int) (hg : g = w.heap.size) : RowI (w.alloc (.cells (rowA zs) 3)) g zs := by subst hg; exact heap_alloc_new w _
theorem Box.new_ (w : World) {g : Nat} (v : Value) (hg : g = w.heap.size) : Box (w.alloc (.cells #[v] 37)) g v := by subst hg; exact heap_alloc_new w _
theorem Box.cell (h : Box w g v) : w.cell? ⟨g, 0, none⟩ = some v := cell_of_one h
theorem Box.alloc (h : Box w g v) (o : Obj) : Box (w.alloc o) g v := (Below.heap_alloc w o g (lt_of_block h)).trans h
theorem Box.drewN (h : Box w g v) (k : Nat) : Box (w.drewN k) g v := h
theorem Box.far (h : Box w g v) {p : Addr} (hp : g ≠ p.block) (u : Value) : Box (w.setCell p u) g v := (Below.heap_setCell w p u g hp).trans h
end
theorem made_row (n : Nat) : madeCells #[.int .i64 0] n = rowA (List.replicate n 0) := by
  unfold madeCells rowA
  apply Array.ext
  · simp
  · intro i h1 h2
    simp [Nat.mod_one]

theorem infoInt : (Try.prog.info? 3).map (fun i => (i.zero, i.size, i.bytes)) = some (some (.int .i64 0), 1, 8) := by kernel_rfl

/-! ### the closure -/
/-! ### the rows on the way -/
def pre (n k : Nat) (l : List Int) : List Int := (l.take k) ++ List.replicate (n - k) 0
theorem pre_len {n k : Nat} {l : List Int} (hl : l.length = n) (hk : k ≤ n) : (pre n k l).length = n := by simp [pre]; omega
theorem pre_at {n k : Nat} {l : List Int} (hl : l.length = n) (hk : k ≤ n) (j : Nat) : at0 (pre n k l) j = if j < k then at0 l j else 0 := by
  unfold pre at0 List.getD
  by_cases h : j < k
  · rw [if_pos h, List.getElem?_append_left (by simp; omega), List.getElem?_take_of_lt h]
  · rw [if_neg h, List.getElem?_append_right (by simp; omega)]
    simp only [List.length_take, List.getElem?_replicate]
    split <;> rfl
theorem pre_set {n k : Nat} {l : List Int} (hl : l.length = n) (hk : k < n) : (pre n k l).set k (at0 l k) = pre n (k + 1) l := by
  apply ext0
  · simp [pre_len hl (show k ≤ n by omega), pre_len hl (show k + 1 ≤ n by omega)]
  · intro j _
    rw [at0_set _ _ _ _ (by rw [pre_len hl (by omega)]; exact hk), pre_at hl (by omega), pre_at hl (by omega)]
    by_cases e : j = k
    · subst e; rw [if_pos rfl, if_pos (by omega)]
    · rw [if_neg e]
      by_cases h : j < k
      · rw [if_pos h, if_pos (by omega)]
      · rw [if_neg h, if_neg (by omega)]
theorem pre_zero {n : Nat} {l : List Int} : pre n 0 l = List.replicate n 0 := by simp [pre]
theorem pre_all {n : Nat} {l : List Int} (hl : l.length = n) : pre n n l = l := by simp [pre, ← hl]

theorem md_int {a b c : Int} (ha : 0 ≤ a) (hb : 0 ≤ b) (hc : 0 < c) (hle : a * b / c ≤ 9223372036854775807) : mdE a b c = 0 ∧ mdQ a b c = a * b / c ∧ mdR a b c = a * b % c := by
  have e : mdE a b c = 0 := by unfold mdE; rw [if_neg (by omega), if_neg (by omega), if_pos hle]
  exact ⟨e, by unfold mdQ; rw [if_pos e], by unfold mdR; rw [if_pos e]⟩
theorem share_le {m x W : Int} (hm : 0 ≤ m) (hx : x ≤ W) (hW : 0 < W) : m * x / W ≤ m := by
  have h : m * x ≤ m * W := Int.mul_le_mul_of_nonneg_left hx hm
  have := Int.ediv_le_ediv hW h
  rwa [Int.mul_ediv_cancel _ (by omega)] at this

theorem ints_below {w w1 : World} {A : Option Addr} {zs : List Int} (h : Ints w A zs) (hb : Below w.heap.size w w1) : Ints w1 A zs := fun hp => by
  obtain ⟨b, off, e, hc⟩ := h hp
  exact ⟨b, off, e, fun j x hj => by
    have h1 := hc j x hj
    rw [hb.cell (p := ⟨b, off + j, none⟩) (World.block_lt_of_cell? w _ h1)]; exact h1⟩

theorem bel_drewN {B : Nat} {a w : World} (h : Below B a w) (k : Nat) : Below B a (w.drewN k) := ⟨h.os, h.tape, h.output, h.size, h.block⟩

def SplitPost (zs : List Int) (n : Nat) (w : World) (e : Ending) (w' : World) : Prop :=
  ∃ g, e = .returned (.tuple #[.slice (some ⟨g, 0, none⟩) n n, .int .i64 0]) ∧ RowI w' g zs ∧ w.heap.size ≤ g ∧ Below w.heap.size w w'

end Go.Proofs.Ytjblfmgiafdefaa.monC

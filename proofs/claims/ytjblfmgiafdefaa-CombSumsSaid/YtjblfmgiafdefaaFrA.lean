/-
  Fractions in memory; contracts of isZero, Make of frac.
-/
import Derived.Test.YtjblfmgiafdefaaNatJ
import Derived.Test.YtjblfmgiafdefaaFrMath
namespace Go.Proofs.Ytjblfmgiafdefaa.frA
open Go.RowKit
open Go.Proofs.Ytjblfmgiafdefaa.natM Go.Proofs.Ytjblfmgiafdefaa.natA Go.Proofs.Ytjblfmgiafdefaa.natB Go.Proofs.Ytjblfmgiafdefaa.natC Go.Proofs.Ytjblfmgiafdefaa.natD Go.Proofs.Ytjblfmgiafdefaa.natE Go.Proofs.Ytjblfmgiafdefaa.natF Go.Proofs.Ytjblfmgiafdefaa.natG Go.Proofs.Ytjblfmgiafdefaa.natH Go.Proofs.Ytjblfmgiafdefaa.natI Go.Proofs.Ytjblfmgiafdefaa.natJ Go.Proofs.Ytjblfmgiafdefaa.frM
set_option linter.unusedVariables false

/-- a block with these cells -/
def Bk (w : World) (b : Nat) (cs : Array Value) : Prop := ∃ T, w.heap[b]? = some (.cells cs T (0, 0))
section
variable {w w1 : World} {b : Nat} {cs : Array Value} {u v : Value}
theorem Bk.lt (h : Bk w b cs) : b < w.heap.size := by obtain ⟨T, h⟩ := h; exact lt_of_block h
theorem Bk.free (h : Bk w b cs) (j : Nat) : w.frozen? ⟨b, j, none⟩ = false := by obtain ⟨T, h⟩ := h; simp [World.frozen?, h]
theorem Bk.alloc (h : Bk w b cs) (o : Obj) : Bk (w.alloc o) b cs := by
  have hl := h.lt
  obtain ⟨T, h⟩ := h; exact ⟨T, (Below.heap_alloc w o b hl).trans h⟩
theorem Bk.below (h : Bk w b cs) (hb : Below w.heap.size w w1) : Bk w1 b cs := by
  have hl := h.lt
  obtain ⟨T, h⟩ := h; exact ⟨T, (hb.block b hl).trans h⟩
theorem Bk.drewN (h : Bk w b cs) (k : Nat) : Bk (w.drewN k) b cs := h
theorem Bk.far (h : Bk w b cs) {p : Addr} (hp : b ≠ p.block) (x : Value) : Bk (w.setCell p x) b cs := by
  obtain ⟨T, h⟩ := h; exact ⟨T, (Below.heap_setCell w p x b hp).trans h⟩
theorem Bk.at_ (h : Bk w b cs) (j : Nat) : w.cell? ⟨b, j, none⟩ = cs[j]? := by obtain ⟨T, h⟩ := h; exact cell_of_row w b j _ _ _ h
theorem Bk.one (h : Bk w b #[v]) : w.cell? ⟨b, 0, none⟩ = some v := h.at_ 0
theorem Bk.fst (h : Bk w b #[u, v]) : w.cell? ⟨b, 0, none⟩ = some u := h.at_ 0
theorem Bk.snd (h : Bk w b #[u, v]) : w.cell? ⟨b, 1, none⟩ = some v := h.at_ 1
theorem Bk.set_ (h : Bk w b cs) (j : Nat) (x : Value) : Bk (w.setCell ⟨b, j, none⟩ x) b (cs.setIfInBounds j x) := by
  obtain ⟨T, h⟩ := h
  exact ⟨T, by simp [World.setCell, Array.getElem?_modify, h]⟩
theorem Bk.n0 (w : World) (cs : Array Value) (T : TypeId) : Bk (w.alloc (.cells cs T)) w.heap.size cs := ⟨T, heap_alloc_new w _⟩
theorem Bk.n1 (w : World) (o : Obj) (cs : Array Value) (T : TypeId) : Bk ((w.alloc o).alloc (.cells cs T)) (w.heap.size + 1) cs := by
  have := Bk.n0 (w.alloc o) cs T; simpa using this
theorem Bk.n2 (w : World) (o1 o2 : Obj) (cs : Array Value) (T : TypeId) : Bk (((w.alloc o1).alloc o2).alloc (.cells cs T)) (w.heap.size + 1 + 1) cs := by
  have := Bk.n1 (w.alloc o1) o2 cs T; simpa using this
theorem Bk.n3 (w : World) (o1 o2 o3 : Obj) (cs : Array Value) (T : TypeId) : Bk ((((w.alloc o1).alloc o2).alloc o3).alloc (.cells cs T)) (w.heap.size + 1 + 1 + 1) cs := by
  have := Bk.n2 (w.alloc o1) o2 o3 cs T; simpa using this
end

theorem bk_n1 (w : World) (o o2 : Obj) (cs : Array Value) (T : TypeId) : Bk (((w.alloc o).alloc (.cells cs T)).alloc o2) (w.heap.size + 1) cs := (Bk.n1 w o cs T).alloc o2
theorem bk_n0 (w : World) (o o2 : Obj) (cs : Array Value) (T : TypeId) : Bk (((w.alloc (.cells cs T)).alloc o).alloc o2) w.heap.size cs := ((Bk.n0 w cs T).alloc o).alloc o2
theorem bk_two {w : World} {cs ds : Array Value} {T U : TypeId} : Bk ((w.alloc (.cells cs T)).alloc (.cells ds U)) w.heap.size cs ∧ Bk ((w.alloc (.cells cs T)).alloc (.cells ds U)) (w.heap.size + 1) ds := ⟨(Bk.n0 w cs T).alloc _, Bk.n1 w _ ds U⟩
theorem below_al2 {w w1 : World} (h : Below w.heap.size w w1) {o1 o2 : Obj} : Below w.heap.size w ((w1.alloc o1).alloc o2) := (h.alloc h.size o1).alloc (by simp; have := h.size; omega) o2
theorem num_below {w w1 : World} {A : Option Addr} {n c v : Nat} (h : Num w A n c v) (hb : Below w.heap.size w w1) : Num w1 A n c v := ⟨h.1, h.2.1, h.2.2.below hb⟩
theorem num_al {w : World} {A : Option Addr} {n c v : Nat} (h : Num w A n c v) (o : Obj) : Num (w.alloc o) A n c v := ⟨h.1, h.2.1, h.2.2.alloc o⟩
theorem num_al2 {w : World} {A : Option Addr} {n c v : Nat} (h : Num w A n c v) (o1 o2 : Obj) : Num ((w.alloc o1).alloc o2) A n c v := num_al (num_al h o1) o2
theorem num_at {w : World} {A : Option Addr} {n c v N : Nat} (hN : N = nlen 4294967296 v) (h : Num w A n c v) : N = n ∧ Cel .u32 w A (dg 4294967296 N v) := by
  have e : N = n := hN.trans h.1.symm
  subst e; exact ⟨rfl, h.2.2⟩

/-- what a call answers with: a fraction and an error -/
def FrP (r : Ans) (w : World) (e : Ending) (w' : World) : Prop :=
  ∃ A n c B m d, e = .returned (.tuple #[.agg #[.slice A n c, .slice B m d], .int .i64 r.1]) ∧ Num w' A n c r.2.1 ∧ Num w' B m d r.2.2 ∧ Below w.heap.size w w'

theorem two_set {w : World} {b : Nat} {u v : Value} (h : Bk w b #[u, v]) (x y : Value) :
    ((w.setCell ⟨b, 0, none⟩ x).setCell ⟨b, 1, none⟩ y).cell? ⟨b, 0, none⟩ = some x ∧ ((w.setCell ⟨b, 0, none⟩ x).setCell ⟨b, 1, none⟩ y).cell? ⟨b, 1, none⟩ = some y := by
  have h2 := (h.set_ 0 x).set_ 1 y
  exact ⟨h2.at_ 0, h2.at_ 1⟩
theorem far_bk {w : World} {A : Option Addr} {zs : List Nat} {b : Nat} {a1 a2 : Option Addr} {n1 c1 n2 c2 : Nat} (h : Cel .u32 w A zs) (hb : Bk w b #[.slice a1 n1 c1, .slice a2 n2 c2]) : Far A zs.length b := fun hp ad e => by
  obtain ⟨b2, off, e2, hc⟩ := h hp
  have h1 := hc 0 _ (at0_some hp)
  rw [e2] at e
  injection e with e
  subst e
  rintro rfl
  rw [hb.at_] at h1
  have hj : off + 0 < 2 := by
    have := (Array.getElem?_eq_some_iff.1 h1).1
    simpa using this
  rcases (show off + 0 = 0 ∨ off + 0 = 1 by omega) with h0 | h0 <;> rw [h0] at h1 <;> simp at h1
theorem num_two {w : World} {A : Option Addr} {n c v b : Nat} (h : Num w A n c v) (hf : Far A n b) (x y : Value) : Num ((w.setCell ⟨b, 0, none⟩ x).setCell ⟨b, 1, none⟩ y) A n c v :=
  ⟨h.1, h.2.1, (h.2.2.set_ (p := ⟨b, 0, none⟩) (by rw [dg_len]; exact hf) x).set_ (p := ⟨b, 1, none⟩) (by rw [dg_len]; exact hf) y⟩
theorem num_far {w : World} {A : Option Addr} {n c v b : Nat} {a1 a2 : Option Addr} {n1 c1 n2 c2 : Nat} (h : Num w A n c v) (hb : Bk w b #[.slice a1 n1 c1, .slice a2 n2 c2]) : Far A n b := by
  have := far_bk h.2.2 hb
  rwa [dg_len] at this
/-- the answer is laid into the result's cell -/
theorem frp_set {w0 w : World} {b : Nat} {a1 a2 : Option Addr} {n1 c1 n2 c2 : Nat} {A B : Option Addr} {n c m d N D : Nat} {E : Int} (h : Bk w b #[.slice a1 n1 c1, .slice a2 n2 c2]) (hA : Num w A n c N) (hB : Num w B m d D)
    (hb : Below w0.heap.size w0 w) (hl : w0.heap.size ≤ b) (x y : Value) : FrP (E, N, D) w0 (.returned (.tuple #[.agg #[.slice A n c, .slice B m d], .int .i64 E])) ((w.setCell ⟨b, 0, none⟩ x).setCell ⟨b, 1, none⟩ y) :=
  ⟨A, n, c, B, m, d, rfl, num_two hA (num_far hA h) x y, num_two hB (num_far hB h) x y, (hb.setCell (p := ⟨b, 0, none⟩) hl x).setCell (p := ⟨b, 1, none⟩) hl y⟩

/-! ### Make -/
def mkA (a b : Bool) (X Y : Nat) : Ans := if a && b then (if Y = 0 then no 10 else rd X Y) else no 2
theorem val_zero {m : Nat} (h : valB m 0 = true) : m = 0 := by
  have := valB_iff.1 h
  rw [nlen_zero] at this; omega
end Go.Proofs.Ytjblfmgiafdefaa.frA

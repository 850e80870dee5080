/-
  Contracts of Cmp, Add, Sub of nat.
-/
import Derived.Test.YtjblfmgiafdefaaNatF
import Derived.Laws.CopyOwn
namespace Go.Proofs.Ytjblfmgiafdefaa.natG
open Go.RowKit
open Go.Proofs.Ytjblfmgiafdefaa.natM Go.Proofs.Ytjblfmgiafdefaa.natA Go.Proofs.Ytjblfmgiafdefaa.natB Go.Proofs.Ytjblfmgiafdefaa.natC Go.Proofs.Ytjblfmgiafdefaa.natD Go.Proofs.Ytjblfmgiafdefaa.natE Go.Proofs.Ytjblfmgiafdefaa.natF
set_option linter.unusedVariables false

/-- a variable in memory of its own -/
def Bx (w : World) (b : Nat) (v : Value) : Prop := ∃ T, w.heap[b]? = some (.cells #[v] T (0, 0))
section
variable {w w1 : World} {b : Nat} {v : Value}
theorem Bx.lt (h : Bx w b v) : b < w.heap.size := by obtain ⟨T, h⟩ := h; exact lt_of_block h
theorem Bx.cell (h : Bx w b v) : w.cell? ⟨b, 0, none⟩ = some v := by obtain ⟨T, h⟩ := h; exact cell_of_one h
theorem Bx.free (h : Bx w b v) : w.frozen? ⟨b, 0, none⟩ = false := by obtain ⟨T, h⟩ := h; simp [World.frozen?, h]
theorem Bx.new_ (w : World) (v : Value) (T : TypeId) : Bx (w.alloc (.cells #[v] T)) w.heap.size v := ⟨T, heap_alloc_new w _⟩
theorem Bx.alloc (h : Bx w b v) (o : Obj) : Bx (w.alloc o) b v := by
  have hl := h.lt
  obtain ⟨T, h⟩ := h; exact ⟨T, (Below.heap_alloc w o b hl).trans h⟩
theorem Bx.below (h : Bx w b v) (hb : Below w.heap.size w w1) : Bx w1 b v := by
  have hl := h.lt
  obtain ⟨T, h⟩ := h; exact ⟨T, (hb.block b hl).trans h⟩
theorem Bx.drewN (h : Bx w b v) (k : Nat) : Bx (w.drewN k) b v := h
theorem Bx.far (h : Bx w b v) {p : Addr} (hp : b ≠ p.block) (u : Value) : Bx (w.setCell p u) b v := by
  obtain ⟨T, h⟩ := h; exact ⟨T, (Below.heap_setCell w p u b hp).trans h⟩
theorem Bx.grown (h : Bx w b v) {row : Option Nat} (hg : w.grownBy w1 row) (hne : some b ≠ row) : Bx w1 b v := by
  have hl := h.lt
  obtain ⟨T, h⟩ := h; exact ⟨T, (hg.block b hl hne).trans h⟩
end
theorem bx2 (w : World) (u v : Value) (T U : TypeId) : Bx ((w.alloc (.cells #[u] T)).alloc (.cells #[v] U)) w.heap.size u ∧ Bx ((w.alloc (.cells #[u] T)).alloc (.cells #[v] U)) (w.heap.size + 1) v :=
  ⟨(Bx.new_ w u T).alloc _, by have := Bx.new_ (w.alloc (.cells #[u] T)) v U; simpa using this⟩
theorem bx3 (w : World) (u v x : Value) (T U S : TypeId) : Bx (((w.alloc (.cells #[u] T)).alloc (.cells #[v] U)).alloc (.cells #[x] S)) w.heap.size u ∧ Bx (((w.alloc (.cells #[u] T)).alloc (.cells #[v] U)).alloc (.cells #[x] S)) (w.heap.size + 1) v ∧
    Bx (((w.alloc (.cells #[u] T)).alloc (.cells #[v] U)).alloc (.cells #[x] S)) (w.heap.size + 1 + 1) x :=
  ⟨(bx2 w u v T U).1.alloc _, (bx2 w u v T U).2.alloc _, by have := Bx.new_ ((w.alloc (.cells #[u] T)).alloc (.cells #[v] U)) x S; simpa using this⟩
theorem bx4 (w : World) (u v x y : Value) (T U S R : TypeId) : Bx ((((w.alloc (.cells #[u] T)).alloc (.cells #[v] U)).alloc (.cells #[x] S)).alloc (.cells #[y] R)) w.heap.size u ∧ Bx ((((w.alloc (.cells #[u] T)).alloc (.cells #[v] U)).alloc (.cells #[x] S)).alloc (.cells #[y] R)) (w.heap.size + 1) v ∧
    Bx ((((w.alloc (.cells #[u] T)).alloc (.cells #[v] U)).alloc (.cells #[x] S)).alloc (.cells #[y] R)) (w.heap.size + 1 + 1) x ∧ Bx ((((w.alloc (.cells #[u] T)).alloc (.cells #[v] U)).alloc (.cells #[x] S)).alloc (.cells #[y] R)) (w.heap.size + 1 + 1 + 1) y :=
  ⟨(bx3 w u v x T U S).1.alloc _, (bx3 w u v x T U S).2.1.alloc _, (bx3 w u v x T U S).2.2.alloc _, by have := Bx.new_ (((w.alloc (.cells #[u] T)).alloc (.cells #[v] U)).alloc (.cells #[x] S)) y R; simpa using this⟩
theorem cel_two {K : IntKind} {w : World} {A : Option Addr} {zs : List Nat} (h : Cel K w A zs) (o1 o2 : Obj) : Cel K ((w.alloc o1).alloc o2) A zs := (h.alloc o1).alloc o2
theorem cel_three {K : IntKind} {w : World} {A : Option Addr} {zs : List Nat} (h : Cel K w A zs) (o1 o2 o3 : Obj) : Cel K (((w.alloc o1).alloc o2).alloc o3) A zs := ((h.alloc o1).alloc o2).alloc o3
theorem cel_four {K : IntKind} {w : World} {A : Option Addr} {zs : List Nat} (h : Cel K w A zs) (o1 o2 o3 o4 : Obj) : Cel K ((((w.alloc o1).alloc o2).alloc o3).alloc o4) A zs := (((h.alloc o1).alloc o2).alloc o3).alloc o4
theorem below_two (w : World) (o1 o2 : Obj) : Below w.heap.size w ((w.alloc o1).alloc o2) := (below_new w o1).alloc (by simp) o2
theorem below_three (w : World) (o1 o2 o3 : Obj) : Below w.heap.size w (((w.alloc o1).alloc o2).alloc o3) := (below_two w o1 o2).alloc (by simp; omega) o3
theorem below_four (w : World) (o1 o2 o3 o4 : Obj) : Below w.heap.size w ((((w.alloc o1).alloc o2).alloc o3).alloc o4) := (below_three w o1 o2 o3).alloc (by simp; omega) o4

/-! ### Cmp -/
def cmpV (n X m Y : Nat) : Int := if valB n X = true ∧ valB m Y = true then cmpI X Y else 0
theorem cmpV_a {n X m Y : Nat} (h : valB n X = false) : cmpV n X m Y = 0 := if_neg (by simp [h])
theorem cmpV_b {n X m Y : Nat} (h : valB m Y = false) : cmpV n X m Y = 0 := if_neg (by simp [h])
theorem cmpV_ok {n X m Y : Nat} (h : valB n X = true) (h2 : valB m Y = true) : cmpV n X m Y = cmpI X Y := if_pos ⟨h, h2⟩

/-! ### what a sum, a product answers -/
def rE (a b : Bool) (V : Nat) : Int := if a = true ∧ b = true then (if nlen 4294967296 V ≤ 64 then 0 else 9) else 2
def rV (a b : Bool) (V : Nat) : Nat := if a = true ∧ b = true then (if nlen 4294967296 V ≤ 64 then V else 0) else 0
theorem r_no1 {b : Bool} {V : Nat} : rE false b V = 2 ∧ rV false b V = 0 := ⟨if_neg (by simp), if_neg (by simp)⟩
theorem r_no2 {a : Bool} {V : Nat} : rE a false V = 2 ∧ rV a false V = 0 := ⟨if_neg (by simp), if_neg (by simp)⟩
theorem r_ok {V : Nat} (h : nlen 4294967296 V ≤ 64) : rE true true V = 0 ∧ rV true true V = V := by unfold rE rV; simp [h]
theorem r_big {V : Nat} (h : 64 < nlen 4294967296 V) : rE true true V = 9 ∧ rV true true V = 0 := by
  have h2 : ¬ nlen 4294967296 V ≤ 64 := by omega
  unfold rE rV; simp [h2]
def ResP (V : Nat) (E : Int) (w : World) (e : Ending) (w' : World) : Prop :=
  ∃ A n c, e = .returned (.tuple #[.agg #[.slice A n c], .int .i64 E]) ∧ Num w' A n c V ∧ Below w.heap.size w w'
theorem fit_any (A : Option Addr) (n c v : Nat) (hv : Hid (v < 4294967296 ^ n)) (hnc : n ≤ c) (hn : n ≤ 9223372036854775807) :
    ∃ FA FN FE, (∀ w, Cel .u32 w A (dg 4294967296 n v) → Calls Try.prog 48 #[.slice A n c] w fun e w' => e = .returned (.tuple #[.agg #[.slice FA FN FN], .int .i64 FE]) ∧ Below w.heap.size w w') ∧
      Hid (FE = rE true true v ∧ (FA = A ∨ FA = none) ∧ ∀ w, Cel .u32 w A (dg 4294967296 n v) → Num w FA FN FN (rV true true v)) := by
  by_cases h : nlen 4294967296 v ≤ 64
  · refine ⟨A, nlen 4294967296 v, 0, fun w hI => fit_ok A n c v _ hv rfl hnc hn h w hI, Lib.hid ⟨(r_ok h).1.symm, .inl rfl, fun w hI => ?_⟩⟩
    rw [(r_ok h).2]
    refine ⟨rfl, Nat.le_refl _, fun hp => ?_⟩
    have hle := nlen_le (B := 4294967296) (by omega) hv.out
    obtain ⟨b, off, e, hc⟩ := hI (by rw [dg_len] at hp ⊢; omega)
    refine ⟨b, off, e, fun j x hx => ?_⟩
    have hj : j < nlen 4294967296 v := by have := lt_of_some hx; rwa [dg_len] at this
    rw [← dg_take hle, List.getElem?_take_of_lt hj] at hx
    exact hc j x hx
  · refine ⟨none, 0, 9, fun w hI => fit_big A n c v _ hv rfl hnc hn (by omega) w hI, Lib.hid ⟨(r_big (by omega)).1.symm, .inr rfl, fun w hI => ?_⟩⟩
    rw [(r_big (by omega)).2]
    exact Num.nil w
theorem set_same {w : World} {b : Nat} {v : Value} (h : Bx w b v) (u : Value) : (w.setCell ⟨b, 0, none⟩ u).cell? ⟨b, 0, none⟩ = some u := by
  obtain ⟨T, h⟩ := h
  simp [World.cell?, World.setCell, Array.getElem?_modify, h]
theorem num_set {w : World} {A : Option Addr} {n c v b : Nat} (h : Num w A n c v) (hf : Far A n b) (u : Value) : Num (w.setCell ⟨b, 0, none⟩ u) A n c v :=
  ⟨h.1, h.2.1, h.2.2.set_ (by rw [dg_len]; exact hf) u⟩

/-! ### Add -/
theorem own_copy {K : IntKind} {w : World} {g n V : Nat} {t : TypeId} (hV : V < 4294967296 ^ n) (h : w.heap[g]? = some (.cells (splice (cells K (dg 4294967296 (n + 1) 0)) 0 (cells K (dg 4294967296 n V))).toArray t (0, 0))) : Own K w g (dg 4294967296 (n + 1) V) := by
  have e : splice (cells K (dg 4294967296 (n + 1) 0)) 0 (cells K (dg 4294967296 n V)) = cells K (dg 4294967296 (n + 1) V) := by
    unfold splice cells
    rw [List.take_zero, List.nil_append, List.length_map, dg_len, Nat.zero_add, ← List.map_drop, dg_div (by omega), ← List.map_append, dg_snoc, Nat.div_eq_of_lt hV, Nat.zero_div]
    congr 2
    rw [show n + 1 - n = 1 by omega]; rfl
  rw [e] at h
  refine ⟨_, t, h, fun j x hx => ?_⟩
  simp [cells, hx]
theorem cel_src {K : IntKind} {w : World} {A : Option Addr} {zs : List Nat} {g : Nat} (h : Cel K w A zs) : 0 < (cells K zs).length → some (⟨g, 0, none⟩ : Addr) = some ⟨g, 0, none⟩ ∧ ∃ ad, A = some ad ∧ ∀ j v, (cells K zs)[j]? = some v → w.cell? (ad.add j) = some v := fun hp => by
  rw [cells_len] at hp
  obtain ⟨b, off, rfl, hc⟩ := h hp
  refine ⟨rfl, _, rfl, fun j v hv => ?_⟩
  obtain ⟨x, hx, rfl⟩ := cells_at hv
  rw [Addr.add_lit]
  exact hc j x hx
theorem sizeU : (Try.prog.info? 55).map (·.size) = some 1 := by kernel_rfl

theorem addT_one (g n cx m cy X Y : Nat) (A : Option Addr) (hY : Hid (Y < 4294967296 ^ m)) (hn : n ≤ 9223372036854775807) (hm : m ≤ 9223372036854775807) (w : World) (hx : Own .u32 w g (dg 4294967296 n X)) (hI : Cel .u32 w A (dg 4294967296 m Y)) (hF : Far A m g) :
    Calls Try.prog 47 #[.slice (some ⟨g, 0, none⟩) n cx, .slice A m cy, .int .u32 1] w fun e w' => e = .returned (.tuple #[]) ∧ Own .u32 w' g (dg 4294967296 n (X + Y)) ∧ w.grownBy w' (some g) := by
  have := addT_any g 0 n cx m cy 1 X Y A (dg 4294967296 n X) (by rw [dg_len]; omega) (Lib.hid fun j hj => by rw [Nat.zero_add, dg_at hj]) hY (by omega) hn hm w hx hI hF
  rw [Nat.one_mul, put_full (by rw [dg_len, dg_len])] at this
  exact this
theorem far_fit {A FA : Option Addr} {n g b : Nat} (h : FA = A ∨ FA = none) (hA : A = some ⟨g, 0, none⟩) (hne : g ≠ b) : Far FA n b := by
  rcases h with h | h
  · subst h; subst hA; exact Far.ne hne
  · subst h; exact Far.none_

def addE (n X m Y : Nat) : Int := rE (valB n X) (valB m Y) (X + Y)
def addV (n X m Y : Nat) : Nat := rV (valB n X) (valB m Y) (X + Y)
end Go.Proofs.Ytjblfmgiafdefaa.natG

/-
  Contracts of Cmp, Add, Sub of nat.
-/
import Derived.Test.YtinceponggpioaaDoorNatF
import Derived.Laws.CopyOwn
namespace Go.Proofs.YtinceponggpioaaDoor.natG
open Go.RowKit
open Go.Proofs.YtinceponggpioaaDoor.natM Go.Proofs.YtinceponggpioaaDoor.natA Go.Proofs.YtinceponggpioaaDoor.natB Go.Proofs.YtinceponggpioaaDoor.natC Go.Proofs.YtinceponggpioaaDoor.natD Go.Proofs.YtinceponggpioaaDoor.natE Go.Proofs.YtinceponggpioaaDoor.natF
set_option linter.unusedVariables false

/-- a variable in memory of its own -/
def Bx (w : World) (b : Nat) (v : Value) : Prop := ∃ T, w.heap[b]? = some (.cells #[v] T (0, 0))
section
variable {w w1 : World} {b : Nat} {v : Value}
theorem Bx.lt (h : Bx w b v) : b < w.heap.size := by obtain ⟨T, h⟩ := h; exact lt_of_block h
theorem Bx.cell (h : Bx w b v) : w.cell? ⟨b, 0, none⟩ = some v := by obtain ⟨T, h⟩ := h; exact cell_of_one h
theorem Bx.free (h : Bx w b v) : w.frozen? ⟨b, 0, none⟩ = false := by obtain ⟨T, h⟩ := h; simp [World.frozen?, h]
theorem Bx.new_ (w : World) (v : Value) (T : TypeId) : Bx (w.alloc (.cells #[v] T)) w.heap.size v := ⟨T, heap_alloc_new w _⟩
theorem Bx.alloc (h : Bx w b v) (o : Obj) : Bx (w.alloc o) b v := by
  have hl := h.lt
  obtain ⟨T, h⟩ := h; exact ⟨T, (Below.heap_alloc w o b hl).trans h⟩
theorem Bx.below (h : Bx w b v) (hb : Below w.heap.size w w1) : Bx w1 b v := by
  have hl := h.lt
  obtain ⟨T, h⟩ := h; exact ⟨T, (hb.block b hl).trans h⟩
theorem Bx.drewN (h : Bx w b v) (k : Nat) : Bx (w.drewN k) b v := h
theorem Bx.far (h : Bx w b v) {p : Addr} (hp : b ≠ p.block) (u : Value) : Bx (w.setCell p u) b v := by
  obtain ⟨T, h⟩ := h; exact ⟨T, (Below.heap_setCell w p u b hp).trans h⟩
theorem Bx.grown (h : Bx w b v) {row : Option Nat} (hg : w.grownBy w1 row) (hne : some b ≠ row) : Bx w1 b v := by
  have hl := h.lt
  obtain ⟨T, h⟩ := h; exact ⟨T, (hg.block b hl hne).trans h⟩
end
theorem bx2 (w : World) (u v : Value) (T U : TypeId) : Bx ((w.alloc (.cells #[u] T)).alloc (.cells #[v] U)) w.heap.size u ∧ Bx ((w.alloc (.cells #[u] T)).alloc (.cells #[v] U)) (w.heap.size + 1) v :=
  ⟨(Bx.new_ w u T).alloc _, by have := Bx.new_ (w.alloc (.cells #[u] T)) v U; simpa using this⟩
theorem bx3 (w : World) (u v x : Value) (T U S : TypeId) : Bx (((w.alloc (.cells #[u] T)).alloc (.cells #[v] U)).alloc (.cells #[x] S)) w.heap.size u ∧ Bx (((w.alloc (.cells #[u] T)).alloc (.cells #[v] U)).alloc (.cells #[x] S)) (w.heap.size + 1) v ∧
    Bx (((w.alloc (.cells #[u] T)).alloc (.cells #[v] U)).alloc (.cells #[x] S)) (w.heap.size + 1 + 1) x :=
  ⟨(bx2 w u v T U).1.alloc _, (bx2 w u v T U).2.alloc _, by have := Bx.new_ ((w.alloc (.cells #[u] T)).alloc (.cells #[v] U)) x S; simpa using this⟩
theorem bx4 (w : World) (u v x y : Value) (T U S R : TypeId) : Bx ((((w.alloc (.cells #[u] T)).alloc (.cells #[v] U)).alloc (.cells #[x] S)).alloc (.cells #[y] R)) w.heap.size u ∧ Bx ((((w.alloc (.cells #[u] T)).alloc (.cells #[v] U)).alloc (.cells #[x] S)).alloc (.cells #[y] R)) (w.heap.size + 1) v ∧
    Bx ((((w.alloc (.cells #[u] T)).alloc (.cells #[v] U)).alloc (.cells #[x] S)).alloc (.cells #[y] R)) (w.heap.size + 1 + 1) x ∧ Bx ((((w.alloc (.cells #[u] T)).alloc (.cells #[v] U)).alloc (.cells #[x] S)).alloc (.cells #[y] R)) (w.heap.size + 1 + 1 + 1) y :=
  ⟨(bx3 w u v x T U S).1.alloc _, (bx3 w u v x T U S).2.1.alloc _, (bx3 w u v x T U S).2.2.alloc _, by have := Bx.new_ (((w.alloc (.cells #[u] T)).alloc (.cells #[v] U)).alloc (.cells #[x] S)) y R; simpa using this⟩
theorem cel_two {K : IntKind} {w : World} {A : Option Addr} {zs : List Nat} (h : Cel K w A zs) (o1 o2 : Obj) : Cel K ((w.alloc o1).alloc o2) A zs := (h.alloc o1).alloc o2
theorem cel_three {K : IntKind} {w : World} {A : Option Addr} {zs : List Nat} (h : Cel K w A zs) (o1 o2 o3 : Obj) : Cel K (((w.alloc o1).alloc o2).alloc o3) A zs := ((h.alloc o1).alloc o2).alloc o3
theorem cel_four {K : IntKind} {w : World} {A : Option Addr} {zs : List Nat} (h : Cel K w A zs) (o1 o2 o3 o4 : Obj) : Cel K ((((w.alloc o1).alloc o2).alloc o3).alloc o4) A zs := (((h.alloc o1).alloc o2).alloc o3).alloc o4
theorem below_two (w : World) (o1 o2 : Obj) : Below w.heap.size w ((w.alloc o1).alloc o2) := (below_new w o1).alloc (by simp) o2
theorem below_three (w : World) (o1 o2 o3 : Obj) : Below w.heap.size w (((w.alloc o1).alloc o2).alloc o3) := (below_two w o1 o2).alloc (by simp; omega) o3
theorem below_four (w : World) (o1 o2 o3 o4 : Obj) : Below w.heap.size w ((((w.alloc o1).alloc o2).alloc o3).alloc o4) := (below_three w o1 o2 o3).alloc (by simp; omega) o4

/-! ### Cmp -/
def cmpV (n X m Y : Nat) : Int := if valB n X = true ∧ valB m Y = true then cmpI X Y else 0
theorem cmpV_a {n X m Y : Nat} (h : valB n X = false) : cmpV n X m Y = 0 := if_neg (by simp [h])
theorem cmpV_b {n X m Y : Nat} (h : valB m Y = false) : cmpV n X m Y = 0 := if_neg (by simp [h])
theorem cmpV_ok {n X m Y : Nat} (h : valB n X = true) (h2 : valB m Y = true) : cmpV n X m Y = cmpI X Y := if_pos ⟨h, h2⟩

set_option maxHeartbeats 1000000 in
theorem cmp_any (A D : Option Addr) (n c m d X Y : Nat) (C : Int) (hX : Hid (X < 4294967296 ^ n)) (hY : Hid (Y < 4294967296 ^ m)) (hn : n ≤ 9223372036854775807) (hm : m ≤ 9223372036854775807) (hC : Hid (C = cmpV n X m Y))
    (w : World) (hI : Cel .u32 w A (dg 4294967296 n X)) (hJ : Cel .u32 w D (dg 4294967296 m Y)) :
    Calls Tryd.prog 41 #[.agg #[.slice A n c], .agg #[.slice D m d]] w fun e w' => e = .returned (.int .i64 C) ∧ Below w.heap.size w w' := by
  have HI := Lib.hid hI
  have HJ := Lib.hid hJ
  clear hI hJ
  cases ha : valB n X with
  | false =>
    obtain rfl := hC.out.trans (cmpV_a ha)
    have cv := fun w hI => valid_any A n c X false hX (Lib.hid ha.symm) hn w hI
    clear ha hC
    go_enter Tryd.func41, Tryd.ntmps41
    go_wp2_with (go_at_call 57; refine (cv _ (cel_two HI.out _ _)).mono ?_; rintro e w1 ⟨rfl, hb1⟩; have HB1 := Lib.hid hb1; clear hb1)
    go_ret
    exact ⟨rfl, below_on (below_two _ _ _) HB1.out⟩
  | true =>
    have cv := fun w hI => valid_any A n c X true hX (Lib.hid ha.symm) hn w hI
    have HA := Lib.hid ha
    clear ha
    cases hb : valB m Y with
    | false =>
      obtain rfl := hC.out.trans (cmpV_b hb)
      have cu := fun w hI => valid_any D m d Y false hY (Lib.hid hb.symm) hm w hI
      clear hb hC
      go_enter Tryd.func41, Tryd.ntmps41
      go_wp2_with (go_at_call 57; first
        | ((with_reducible refine (cv _ (cel_two HI.out _ _)).mono ?_); rintro e w1 ⟨rfl, hb1⟩; have HB1 := Lib.hid hb1; have HJ1 := Lib.hid ((cel_two HJ.out _ _).below hb1); have XB := Lib.hid ((bx2 _ _ _ _ _).2.below hb1); have xb := XB.out.cell; clear hb1)
        | ((with_reducible refine (cu _ HJ1.out).mono ?_); rintro e w2 ⟨rfl, hb2⟩; have HB2 := Lib.hid hb2; clear hb2))
      go_ret
      exact ⟨rfl, below_on (below_on (below_two _ _ _) HB1.out) HB2.out⟩
    | true =>
      have hC2 : Hid (C = cmpI X Y) := Lib.hid (hC.out.trans (cmpV_ok HA.out hb))
      have cu := fun w hI => valid_any D m d Y true hY (Lib.hid hb.symm) hm w hI
      have cc := fun w hI hJ => compare_any A D n c m d X Y C hX hY (.inr ⟨(valB_iff.1 HA.out).2, (valB_iff.1 hb).2⟩) hC2 hn hm w hI hJ
      clear hb hC
      go_enter Tryd.func41, Tryd.ntmps41
      go_wp2_with (first
        | (go_at_call 57; first
          | ((with_reducible refine (cv _ (cel_two HI.out _ _)).mono ?_); rintro e w1 ⟨rfl, hb1⟩; have HB1 := Lib.hid hb1; have HI1 := Lib.hid ((cel_two HI.out _ _).below hb1); have HJ1 := Lib.hid ((cel_two HJ.out _ _).below hb1); have XA := Lib.hid ((bx2 _ _ _ _ _).1.below hb1); have XB := Lib.hid ((bx2 _ _ _ _ _).2.below hb1); have xb := XB.out.cell; clear hb1)
          | ((with_reducible refine (cu _ HJ1.out).mono ?_); rintro e w2 ⟨rfl, hb2⟩; have HB2 := Lib.hid hb2; have HI2 := Lib.hid (HI1.out.below hb2); have HJ2 := Lib.hid (HJ1.out.below hb2); have xa2 := (XA.out.below hb2).cell; have xb2 := (XB.out.below hb2).cell; clear hb2))
        | (go_at_call 61; refine (cc _ HI2.out HJ2.out).mono ?_; rintro e w' ⟨rfl, kk, rfl⟩))
      go_ret
      exact ⟨rfl, bel_drewN (below_on (below_on (below_two _ _ _) HB1.out) HB2.out) _⟩
/-! ### what a sum, a product answers -/
def rE (a b : Bool) (V : Nat) : Int := if a = true ∧ b = true then (if nlen 4294967296 V ≤ 64 then 0 else 9) else 2
def rV (a b : Bool) (V : Nat) : Nat := if a = true ∧ b = true then (if nlen 4294967296 V ≤ 64 then V else 0) else 0
theorem r_no1 {b : Bool} {V : Nat} : rE false b V = 2 ∧ rV false b V = 0 := ⟨if_neg (by simp), if_neg (by simp)⟩
theorem r_no2 {a : Bool} {V : Nat} : rE a false V = 2 ∧ rV a false V = 0 := ⟨if_neg (by simp), if_neg (by simp)⟩
theorem r_ok {V : Nat} (h : nlen 4294967296 V ≤ 64) : rE true true V = 0 ∧ rV true true V = V := by unfold rE rV; simp [h]
theorem r_big {V : Nat} (h : 64 < nlen 4294967296 V) : rE true true V = 9 ∧ rV true true V = 0 := by
  have h2 : ¬ nlen 4294967296 V ≤ 64 := by omega
  unfold rE rV; simp [h2]
def ResP (V : Nat) (E : Int) (w : World) (e : Ending) (w' : World) : Prop :=
  ∃ A n c, e = .returned (.tuple #[.agg #[.slice A n c], .int .i64 E]) ∧ Num w' A n c V ∧ Below w.heap.size w w'
theorem fit_any (A : Option Addr) (n c v : Nat) (hv : Hid (v < 4294967296 ^ n)) (hnc : n ≤ c) (hn : n ≤ 9223372036854775807) :
    ∃ FA FN FE, (∀ w, Cel .u32 w A (dg 4294967296 n v) → Calls Tryd.prog 70 #[.slice A n c] w fun e w' => e = .returned (.tuple #[.agg #[.slice FA FN FN], .int .i64 FE]) ∧ Below w.heap.size w w') ∧
      Hid (FE = rE true true v ∧ (FA = A ∨ FA = none) ∧ ∀ w, Cel .u32 w A (dg 4294967296 n v) → Num w FA FN FN (rV true true v)) := by
  by_cases h : nlen 4294967296 v ≤ 64
  · refine ⟨A, nlen 4294967296 v, 0, fun w hI => fit_ok A n c v _ hv rfl hnc hn h w hI, Lib.hid ⟨(r_ok h).1.symm, .inl rfl, fun w hI => ?_⟩⟩
    rw [(r_ok h).2]
    refine ⟨rfl, Nat.le_refl _, fun hp => ?_⟩
    have hle := nlen_le (B := 4294967296) (by omega) hv.out
    obtain ⟨b, off, e, hc⟩ := hI (by rw [dg_len] at hp ⊢; omega)
    refine ⟨b, off, e, fun j x hx => ?_⟩
    have hj : j < nlen 4294967296 v := by have := lt_of_some hx; rwa [dg_len] at this
    rw [← dg_take hle, List.getElem?_take_of_lt hj] at hx
    exact hc j x hx
  · refine ⟨none, 0, 9, fun w hI => fit_big A n c v _ hv rfl hnc hn (by omega) w hI, Lib.hid ⟨(r_big (by omega)).1.symm, .inr rfl, fun w hI => ?_⟩⟩
    rw [(r_big (by omega)).2]
    exact Num.nil w
theorem set_same {w : World} {b : Nat} {v : Value} (h : Bx w b v) (u : Value) : (w.setCell ⟨b, 0, none⟩ u).cell? ⟨b, 0, none⟩ = some u := by
  obtain ⟨T, h⟩ := h
  simp [World.cell?, World.setCell, Array.getElem?_modify, h]
theorem num_set {w : World} {A : Option Addr} {n c v b : Nat} (h : Num w A n c v) (hf : Far A n b) (u : Value) : Num (w.setCell ⟨b, 0, none⟩ u) A n c v :=
  ⟨h.1, h.2.1, h.2.2.set_ (by rw [dg_len]; exact hf) u⟩

/-! ### Add -/
set_option maxHeartbeats 1000000 in
theorem add_no1 (A D : Option Addr) (n c m d X : Nat) (hX : Hid (X < 4294967296 ^ n)) (hn : n ≤ 9223372036854775807) (ha : Hid (false = valB n X)) (w : World) (hI : Cel .u32 w A (dg 4294967296 n X)) :
    Calls Tryd.prog 55 #[.agg #[.slice A n c], .agg #[.slice D m d]] w (ResP 0 2 w) := by
  have HI := Lib.hid hI
  clear hI
  have cv := fun w hI => valid_any A n c X false hX ha hn w hI
  go_enter Tryd.func55, Tryd.ntmps55
  go_wp2_with (go_at_call 57; refine (cv _ (cel_three HI.out _ _ _)).mono ?_; rintro e w1 ⟨rfl, hb1⟩; have HB1 := Lib.hid (below_on (below_three _ _ _ _) hb1); have XR := Lib.hid ((bx3 _ _ _ _ _ _ _).2.2.below hb1); have xr := XR.out.cell; have fr := XR.out.free; clear hb1)
  have xs := set_same XR.out
  refine bodyPost_ret (v := .tuple #[.agg #[.slice none 0 0], .int .i64 2]) (by simp [results, Tryd.results55, go_sem, xs]) rfl ?_
  exact ⟨none, 0, 0, rfl, Num.nil _, HB1.out.setCell (by simp; omega) _⟩
set_option maxHeartbeats 1000000 in
theorem add_no2 (A D : Option Addr) (n c m d X Y : Nat) (hX : Hid (X < 4294967296 ^ n)) (hY : Hid (Y < 4294967296 ^ m)) (hn : n ≤ 9223372036854775807) (hm : m ≤ 9223372036854775807) (ha : Hid (true = valB n X)) (hb : Hid (false = valB m Y)) (w : World) (hI : Cel .u32 w A (dg 4294967296 n X)) (hJ : Cel .u32 w D (dg 4294967296 m Y)) :
    Calls Tryd.prog 55 #[.agg #[.slice A n c], .agg #[.slice D m d]] w (ResP 0 2 w) := by
  have HI := Lib.hid hI
  have HJ := Lib.hid hJ
  clear hI hJ
  have cv := fun w hI => valid_any A n c X true hX ha hn w hI
  have cu := fun w hI => valid_any D m d Y false hY hb hm w hI
  go_enter Tryd.func55, Tryd.ntmps55
  go_wp2_with (go_at_call 57; first
    | ((with_reducible refine (cv _ (cel_three HI.out _ _ _)).mono ?_); rintro e w1 ⟨rfl, hb1⟩; have HB1 := Lib.hid (below_on (below_three _ _ _ _) hb1); have HJ1 := Lib.hid ((cel_three HJ.out _ _ _).below hb1); have XR := Lib.hid ((bx3 _ _ _ _ _ _ _).2.2.below hb1); have xb := ((bx3 _ _ _ _ _ _ _).2.1.below hb1).cell; clear hb1)
    | ((with_reducible refine (cu _ HJ1.out).mono ?_); rintro e w2 ⟨rfl, hb2⟩; have HB2 := Lib.hid (below_on HB1.out hb2); have XR2 := Lib.hid (XR.out.below hb2); have xr := XR2.out.cell; have fr := XR2.out.free; clear hb2))
  have xs := set_same XR2.out
  refine bodyPost_ret (v := .tuple #[.agg #[.slice none 0 0], .int .i64 2]) (by simp [results, Tryd.results55, go_sem, xs]) rfl ?_
  exact ⟨none, 0, 0, rfl, Num.nil _, HB2.out.setCell (by simp; omega) _⟩

theorem own_copy {K : IntKind} {w : World} {g n V : Nat} {t : TypeId} (hV : V < 4294967296 ^ n) (h : w.heap[g]? = some (.cells (splice (cells K (dg 4294967296 (n + 1) 0)) 0 (cells K (dg 4294967296 n V))).toArray t (0, 0))) : Own K w g (dg 4294967296 (n + 1) V) := by
  have e : splice (cells K (dg 4294967296 (n + 1) 0)) 0 (cells K (dg 4294967296 n V)) = cells K (dg 4294967296 (n + 1) V) := by
    unfold splice cells
    rw [List.take_zero, List.nil_append, List.length_map, dg_len, Nat.zero_add, ← List.map_drop, dg_div (by omega), ← List.map_append, dg_snoc, Nat.div_eq_of_lt hV, Nat.zero_div]
    congr 2
    rw [show n + 1 - n = 1 by omega]; rfl
  rw [e] at h
  refine ⟨_, t, h, fun j x hx => ?_⟩
  simp [cells, hx]
theorem cel_src {K : IntKind} {w : World} {A : Option Addr} {zs : List Nat} {g : Nat} (h : Cel K w A zs) : 0 < (cells K zs).length → some (⟨g, 0, none⟩ : Addr) = some ⟨g, 0, none⟩ ∧ ∃ ad, A = some ad ∧ ∀ j v, (cells K zs)[j]? = some v → w.cell? (ad.add j) = some v := fun hp => by
  rw [cells_len] at hp
  obtain ⟨b, off, rfl, hc⟩ := h hp
  refine ⟨rfl, _, rfl, fun j v hv => ?_⟩
  obtain ⟨x, hx, rfl⟩ := cells_at hv
  rw [Addr.add_lit]
  exact hc j x hx
theorem sizeU : (Tryd.prog.info? 43).map (·.size) = some 1 := by kernel_rfl

theorem addT_one (g n cx m cy X Y : Nat) (A : Option Addr) (hY : Hid (Y < 4294967296 ^ m)) (hn : n ≤ 9223372036854775807) (hm : m ≤ 9223372036854775807) (w : World) (hx : Own .u32 w g (dg 4294967296 n X)) (hI : Cel .u32 w A (dg 4294967296 m Y)) (hF : Far A m g) :
    Calls Tryd.prog 69 #[.slice (some ⟨g, 0, none⟩) n cx, .slice A m cy, .int .u32 1] w fun e w' => e = .returned (.tuple #[]) ∧ Own .u32 w' g (dg 4294967296 n (X + Y)) ∧ w.grownBy w' (some g) := by
  have := addT_any g 0 n cx m cy 1 X Y A (dg 4294967296 n X) (by rw [dg_len]; omega) (Lib.hid fun j hj => by rw [Nat.zero_add, dg_at hj]) hY (by omega) hn hm w hx hI hF
  rw [Nat.one_mul, put_full (by rw [dg_len, dg_len])] at this
  exact this
theorem far_fit {A FA : Option Addr} {n g b : Nat} (h : FA = A ∨ FA = none) (hA : A = some ⟨g, 0, none⟩) (hne : g ≠ b) : Far FA n b := by
  rcases h with h | h
  · subst h; subst hA; exact Far.ne hne
  · subst h; exact Far.none_

set_option maxHeartbeats 4000000 in
theorem add_ge (A D : Option Addr) (n c m d X Y : Nat) (hX : Hid (X < 4294967296 ^ n)) (hY : Hid (Y < 4294967296 ^ m)) (hn : n ≤ 64) (hm : m ≤ 64) (ha : Hid (true = valB n X)) (hb : Hid (true = valB m Y)) (h : ¬ n < m) (w : World) (hI : Cel .u32 w A (dg 4294967296 n X)) (hJ : Cel .u32 w D (dg 4294967296 m Y)) :
    Calls Tryd.prog 55 #[.agg #[.slice A n c], .agg #[.slice D m d]] w (ResP (rV true true (X + Y)) (rE true true (X + Y)) w) := by
  have HI := Lib.hid hI
  have HJ := Lib.hid hJ
  clear hI hJ
  have cv := fun w hI => valid_any A n c X true hX ha (by omega) w hI
  have cu := fun w hI => valid_any D m d Y true hY hb (by omega) w hI
  have hmk := make_u32 (n + 1) (by omega)
  have e0 : ((n + 1 : Nat) : Int) = (n : Int) + 1 := by omega
  rw [e0] at hmk
  have h21 : Y < 4294967296 ^ n := Nat.lt_of_lt_of_le hY.out (Nat.pow_le_pow_right (by omega) (by omega))
  have hsum : X + Y < 4294967296 ^ (n + 1) := by rw [Nat.pow_succ]; have := hX.out; omega
  have FT := Lib.hid fun g => fit_any (some ⟨g, 0, none⟩) (n + 1) (n + 1) (X + Y) (Lib.hid hsum) (Nat.le_refl _) (by omega)
  clear h21 hsum e0
  go_enter Tryd.func55, Tryd.ntmps55
  go_wp2_with (go_at_call 57; first
    | ((with_reducible refine (cv _ (cel_three HI.out _ _ _)).mono ?_); rintro e w1 ⟨rfl, hb1⟩; have HB1 := Lib.hid (below_on (below_three _ _ _ _) hb1); have HI1 := Lib.hid ((cel_three HI.out _ _ _).below hb1); have HJ1 := Lib.hid ((cel_three HJ.out _ _ _).below hb1); have XA := Lib.hid ((bx3 _ _ _ _ _ _ _).1.below hb1); have XB := Lib.hid ((bx3 _ _ _ _ _ _ _).2.1.below hb1); have XR := Lib.hid ((bx3 _ _ _ _ _ _ _).2.2.below hb1); have xb := XB.out.cell; clear hb1)
    | ((with_reducible refine (cu _ HJ1.out).mono ?_); rintro e w2 ⟨rfl, hb2⟩; have HB2 := Lib.hid (below_on HB1.out hb2); have HI2 := Lib.hid (HI1.out.below hb2); have HJ2 := Lib.hid (HJ1.out.below hb2); have xa2 := (XA.out.below hb2).cell; have xb2 := (XB.out.below hb2).cell; have XR2 := Lib.hid (XR.out.below hb2); clear hb2))
  clear cv cu XA XB XR xb HB1 HI1 HJ1
  go_quiet (fail)
  have HL : Hid (w.heap.size + 1 + 1 < w2.heap.size) := Lib.hid XR2.out.lt
  obtain ⟨FA, FN, FE, cf, hf⟩ := FT.out w2.heap.size
  have HF := Lib.hid hf
  clear hf FT
  go_wp2_with (first
    | (refine wpList_copy_splice rfl (.tmp 33) (.tmp 34) 22 22 (by rfl) 43 Tryd.underlying22 sizeU (some ⟨w2.heap.size, 0, none⟩) A (n + 1) (n + 1) n c (by rfl) (by rfl) w2.heap.size 0 (cells .u32 (dg 4294967296 (n + 1) 0)) 43 (heap_alloc_new (w2.drewN nq) _) (cells .u32 (dg 4294967296 n X)) (by rw [cells_len, dg_len]; exact (Nat.min_eq_left (by omega)).symm) (cel_src ((HI2.out.drewN _).alloc _)) (by rw [cells_len, cells_len, dg_len, dg_len]; omega) cells_one w2.heap.size w2 ((bel_drewN (Below.refl _ w2) _).alloc (Nat.le_refl _) _) (Nat.le_refl _) ?_; intro w4 hh hb4; have HO4 := Lib.hid (own_copy hX.out hh.out); have HB4 := Lib.hid hb4; have HS4 := Lib.hid (HJ2.out.below hb4); have XR4 := Lib.hid (XR2.out.below hb4); clear hh hb4)
    | (go_at_call 69; (with_reducible refine (addT_one w2.heap.size (n + 1) (n + 1) m d X Y D hY (by omega) (by omega) w4 HO4.out HS4.out (by have := HJ2.out.far (g := w2.heap.size) (Nat.le_refl _); rwa [dg_len] at this)).mono ?_); rintro e w5 ⟨rfl, ho, hg⟩; have HO5 := Lib.hid ho; have HB5 := Lib.hid (below_grown HB4.out hg (Nat.le_refl _) HB4.out.size); have XR5 := Lib.hid (XR4.out.grown hg (by have := HL.out; simp; omega)); clear ho hg)
    | (go_at_call 70; (with_reducible refine (cf _ HO5.out.all).mono ?_); rintro e w6 ⟨rfl, hb6⟩; have NF := Lib.hid (HF.out.2.2 _ (HO5.out.all.below hb6)); have XR6 := Lib.hid (XR5.out.below hb6); have HB6 := Lib.hid (below_on HB2.out (below_on HB5.out hb6)); have xr := XR6.out.cell; have fr := XR6.out.free; clear hb6))
  have xs := set_same XR6.out
  refine bodyPost_ret (v := .tuple #[.agg #[.slice FA FN FN], .int .i64 FE]) (by simp [results, Tryd.results55, go_sem, xs]) rfl ?_
  exact ⟨FA, FN, FN, by rw [HF.out.1], num_set NF.out (far_fit HF.out.2.1 rfl (by have := HL.out; omega)) _, HB6.out.setCell (by simp; omega) _⟩
set_option maxHeartbeats 4000000 in
theorem add_lt (A D : Option Addr) (n c m d X Y : Nat) (hX : Hid (X < 4294967296 ^ n)) (hY : Hid (Y < 4294967296 ^ m)) (hn : n ≤ 64) (hm : m ≤ 64) (ha : Hid (true = valB n X)) (hb : Hid (true = valB m Y)) (h : n < m) (w : World) (hI : Cel .u32 w A (dg 4294967296 n X)) (hJ : Cel .u32 w D (dg 4294967296 m Y)) :
    Calls Tryd.prog 55 #[.agg #[.slice A n c], .agg #[.slice D m d]] w (ResP (rV true true (Y + X)) (rE true true (Y + X)) w) := by
  have HI := Lib.hid hI
  have HJ := Lib.hid hJ
  clear hI hJ
  have cv := fun w hI => valid_any A n c X true hX ha (by omega) w hI
  have cu := fun w hI => valid_any D m d Y true hY hb (by omega) w hI
  have hmk := make_u32 (m + 1) (by omega)
  have e0 : ((m + 1 : Nat) : Int) = (m : Int) + 1 := by omega
  rw [e0] at hmk
  have h21 : X < 4294967296 ^ m := Nat.lt_of_lt_of_le hX.out (Nat.pow_le_pow_right (by omega) (by omega))
  have hsum : Y + X < 4294967296 ^ (m + 1) := by rw [Nat.pow_succ]; have := hY.out; omega
  have FT := Lib.hid fun g => fit_any (some ⟨g, 0, none⟩) (m + 1) (m + 1) (Y + X) (Lib.hid hsum) (Nat.le_refl _) (by omega)
  clear h21 hsum e0
  go_enter Tryd.func55, Tryd.ntmps55
  go_wp2_with (go_at_call 57; first
    | ((with_reducible refine (cv _ (cel_three HI.out _ _ _)).mono ?_); rintro e w1 ⟨rfl, hb1⟩; have HB1 := Lib.hid (below_on (below_three _ _ _ _) hb1); have HI1 := Lib.hid ((cel_three HI.out _ _ _).below hb1); have HJ1 := Lib.hid ((cel_three HJ.out _ _ _).below hb1); have XA := Lib.hid ((bx3 _ _ _ _ _ _ _).1.below hb1); have XB := Lib.hid ((bx3 _ _ _ _ _ _ _).2.1.below hb1); have XR := Lib.hid ((bx3 _ _ _ _ _ _ _).2.2.below hb1); have xb := XB.out.cell; clear hb1)
    | ((with_reducible refine (cu _ HJ1.out).mono ?_); rintro e w2 ⟨rfl, hb2⟩; have HB2 := Lib.hid (below_on HB1.out hb2); have HI2 := Lib.hid (HI1.out.below hb2); have HJ2 := Lib.hid (HJ1.out.below hb2); have xa2 := (XA.out.below hb2).cell; have xb2 := (XB.out.below hb2).cell; have XR2 := Lib.hid (XR.out.below hb2); clear hb2))
  clear cv cu XA XB XR xb HB1 HI1 HJ1
  go_quiet (fail)
  have HL : Hid (w.heap.size + 1 + 1 < w2.heap.size) := Lib.hid XR2.out.lt
  obtain ⟨FA, FN, FE, cf, hf⟩ := FT.out w2.heap.size
  have HF := Lib.hid hf
  clear hf FT
  go_wp2_with (first
    | (refine wpList_copy_splice rfl (.tmp 33) (.tmp 34) 22 22 (by rfl) 43 Tryd.underlying22 sizeU (some ⟨w2.heap.size, 0, none⟩) D (m + 1) (m + 1) m d (by rfl) (by rfl) w2.heap.size 0 (cells .u32 (dg 4294967296 (m + 1) 0)) 43 (heap_alloc_new (w2.drewN nq) _) (cells .u32 (dg 4294967296 m Y)) (by rw [cells_len, dg_len]; exact (Nat.min_eq_left (by omega)).symm) (cel_src ((HJ2.out.drewN _).alloc _)) (by rw [cells_len, cells_len, dg_len, dg_len]; omega) cells_one w2.heap.size w2 ((bel_drewN (Below.refl _ w2) _).alloc (Nat.le_refl _) _) (Nat.le_refl _) ?_; intro w4 hh hb4; have HO4 := Lib.hid (own_copy hY.out hh.out); have HB4 := Lib.hid hb4; have HS4 := Lib.hid (HI2.out.below hb4); have XR4 := Lib.hid (XR2.out.below hb4); clear hh hb4)
    | (go_at_call 69; (with_reducible refine (addT_one w2.heap.size (m + 1) (m + 1) n c Y X A hX (by omega) (by omega) w4 HO4.out HS4.out (by have := HI2.out.far (g := w2.heap.size) (Nat.le_refl _); rwa [dg_len] at this)).mono ?_); rintro e w5 ⟨rfl, ho, hg⟩; have HO5 := Lib.hid ho; have HB5 := Lib.hid (below_grown HB4.out hg (Nat.le_refl _) HB4.out.size); have XR5 := Lib.hid (XR4.out.grown hg (by have := HL.out; simp; omega)); clear ho hg)
    | (go_at_call 70; (with_reducible refine (cf _ HO5.out.all).mono ?_); rintro e w6 ⟨rfl, hb6⟩; have NF := Lib.hid (HF.out.2.2 _ (HO5.out.all.below hb6)); have XR6 := Lib.hid (XR5.out.below hb6); have HB6 := Lib.hid (below_on HB2.out (below_on HB5.out hb6)); have xr := XR6.out.cell; have fr := XR6.out.free; clear hb6))
  have xs := set_same XR6.out
  refine bodyPost_ret (v := .tuple #[.agg #[.slice FA FN FN], .int .i64 FE]) (by simp [results, Tryd.results55, go_sem, xs]) rfl ?_
  exact ⟨FA, FN, FN, by rw [HF.out.1], num_set NF.out (far_fit HF.out.2.1 rfl (by have := HL.out; omega)) _, HB6.out.setCell (by simp; omega) _⟩

def addE (n X m Y : Nat) : Int := rE (valB n X) (valB m Y) (X + Y)
def addV (n X m Y : Nat) : Nat := rV (valB n X) (valB m Y) (X + Y)
theorem add_any (A D : Option Addr) (n c m d X Y : Nat) (hX : Hid (X < 4294967296 ^ n)) (hY : Hid (Y < 4294967296 ^ m)) (hn : n ≤ 9223372036854775807) (hm : m ≤ 9223372036854775807) (w : World) (hI : Cel .u32 w A (dg 4294967296 n X)) (hJ : Cel .u32 w D (dg 4294967296 m Y)) :
    Calls Tryd.prog 55 #[.agg #[.slice A n c], .agg #[.slice D m d]] w (ResP (addV n X m Y) (addE n X m Y) w) := by
  unfold addE addV
  cases ha : valB n X with
  | false => rw [r_no1.1, r_no1.2]; exact add_no1 A D n c m d X hX hn (Lib.hid ha.symm) w hI
  | true =>
    cases hb : valB m Y with
    | false => rw [r_no2.1, r_no2.2]; exact add_no2 A D n c m d X Y hX hY hn hm (Lib.hid ha.symm) (Lib.hid hb.symm) w hI hJ
    | true =>
      by_cases h : n < m
      · have := add_lt A D n c m d X Y hX hY (valB_iff.1 ha).1 (valB_iff.1 hb).1 (Lib.hid ha.symm) (Lib.hid hb.symm) h w hI hJ
        rw [Nat.add_comm Y X] at this; exact this
      · exact add_ge A D n c m d X Y hX hY (valB_iff.1 ha).1 (valB_iff.1 hb).1 (Lib.hid ha.symm) (Lib.hid hb.symm) h w hI hJ
end Go.Proofs.YtinceponggpioaaDoor.natG

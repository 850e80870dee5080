/-
  Slices of numbers in memory; contracts of cmp.Compare, trim, fit, compare of nat.
-/
import Derived.Test.YtjblfmgiafdefaaChecked
import Derived.Test.YtjblfmgiafdefaaNatMath
import Derived.WalkKit
import Derived.IntWalk
import Derived.WalkLawsBesides
import Derived.WalkSpells
import Derived.Lib.Hide
import Derived.Deep.QuietTactic
import Derived.BigQuiet
import Derived.Deep.OwnRows
import Derived.OneCell
import Derived.OwnWalk
import Derived.Laws.Bits64b
import Derived.Deep.AppendLies
namespace Go.Proofs.Ytjblfmgiafdefaa.natA
open Go.RowKit
open Go.Proofs.Ytjblfmgiafdefaa.natM
set_option linter.unusedVariables false

/-- the slice's cells are these numbers -/
def Cel (K : IntKind) (w : World) (A : Option Addr) (zs : List Nat) : Prop :=
  0 < zs.length → ∃ b off, A = some ⟨b, off, none⟩ ∧ ∀ j x : Nat, zs[j]? = some x → w.cell? ⟨b, off + j, none⟩ = some (.int K (x : Int))
/-- the slice does not lie in that block -/
def Far (A : Option Addr) (n g : Nat) : Prop := 0 < n → ∀ ad, A = some ad → ad.block ≠ g
/-- the block begins with these numbers, and can be written -/
def Own (K : IntKind) (w : World) (g : Nat) (zs : List Nat) : Prop :=
  ∃ cs T, w.heap[g]? = some (.cells cs T (0, 0)) ∧ ∀ j x : Nat, zs[j]? = some x → cs[j]? = some (.int K (x : Int))

section
variable {K : IntKind} {w w' : World} {A : Option Addr} {zs : List Nat} {g : Nat}
theorem Cel.nil (K : IntKind) (w : World) (A : Option Addr) : Cel K w A [] := fun h => absurd h (by simp)
theorem Cel.at_ (h : Cel K w A zs) {k : Nat} (hk : k < zs.length) : ∃ b off, A = some ⟨b, off, none⟩ ∧ w.cell? ⟨b, off + k, none⟩ = some (.int K (at0 zs k : Int)) := by
  obtain ⟨b, off, e, hc⟩ := h (by omega)
  exact ⟨b, off, e, hc k _ (at0_some hk)⟩
theorem Cel.at2 (h : Cel K w A zs) {k m : Nat} (hk : k < zs.length) (hm : m < zs.length) :
    ∃ b off, A = some ⟨b, off, none⟩ ∧ w.cell? ⟨b, off + k, none⟩ = some (.int K (at0 zs k : Int)) ∧ w.cell? ⟨b, off + m, none⟩ = some (.int K (at0 zs m : Int)) := by
  obtain ⟨b, off, e, hc⟩ := h (by omega)
  exact ⟨b, off, e, hc k _ (at0_some hk), hc m _ (at0_some hm)⟩
theorem Cel.keep (h : Cel K w A zs) (hk : ∀ b o, 0 < zs.length → A = some ⟨b, o, none⟩ → ∀ j, b < w.heap.size → w'.cell? ⟨b, j, none⟩ = w.cell? ⟨b, j, none⟩) : Cel K w' A zs := fun hp => by
  obtain ⟨b, off, e, hc⟩ := h hp
  refine ⟨b, off, e, fun j x hx => ?_⟩
  have h1 := hc j x hx
  rw [hk b off hp e _ (World.block_lt_of_cell? w _ h1)]; exact h1
theorem Cel.below (h : Cel K w A zs) (hb : Below w.heap.size w w') : Cel K w' A zs := h.keep fun b o _ _ j hj => hb.cell (p := ⟨b, j, none⟩) hj
theorem Cel.grown (h : Cel K w A zs) (hg : w.grownBy w' (some g)) (hf : Far A zs.length g) : Cel K w' A zs :=
  h.keep fun b o hp e j hj => World.cell?_of_block (hg.block b hj (fun ee => hf hp _ e (by injection ee)))
theorem Cel.alloc (h : Cel K w A zs) (o : Obj) : Cel K (w.alloc o) A zs := h.below ((Below.refl _ _).alloc (Nat.le_refl _) o)
theorem Cel.drewN (h : Cel K w A zs) (k : Nat) : Cel K (w.drewN k) A zs := h
theorem Cel.set_ (h : Cel K w A zs) {p : Addr} (hf : Far A zs.length p.block) (u : Value) : Cel K (w.setCell p u) A zs := fun hp => by
  obtain ⟨b, off, e, hc⟩ := h hp
  refine ⟨b, off, e, fun j x hx => ?_⟩
  have hne : b ≠ p.block := hf hp _ e
  rw [World.cell?_setCell_other w p ⟨b, off + j, none⟩ u (fun ee => by subst ee; exact hne rfl)]; exact hc j x hx
theorem Cel.far (h : Cel K w A zs) (hg : w.heap.size ≤ g) : Far A zs.length g := fun hp ad e => by
  obtain ⟨b, off, e2, hc⟩ := h hp
  have h1 := hc 0 _ (at0_some hp)
  have := World.block_lt_of_cell? w _ h1
  rw [e2] at e; injection e with e; subst e
  show b ≠ g
  simp at this; omega
theorem Far.ne {ad : Addr} {n g : Nat} (h : ad.block ≠ g) : Far (some ad) n g := fun _ ad e => by injection e with e; subst e; exact h
theorem Far.none_ {n g : Nat} : Far none n g := fun _ ad e => by cases e

theorem Own.lt (h : Own K w g zs) : g < w.heap.size := by
  obtain ⟨cs, T, h1, _⟩ := h; exact lt_of_block h1
theorem Own.cell (h : Own K w g zs) {j : Nat} (hj : j < zs.length) : w.cell? ⟨g, j, none⟩ = some (.int K (at0 zs j : Int)) := by
  obtain ⟨cs, T, h1, h2⟩ := h
  rw [cell_of_row w g j _ _ _ h1]; exact h2 j _ (at0_some hj)
theorem Own.frozen (h : Own K w g zs) (j : Nat) : w.frozen? ⟨g, j, none⟩ = false := by
  obtain ⟨cs, T, h1, _⟩ := h
  simp [World.frozen?, h1]
theorem Own.cel (h : Own K w g zs) {o : Nat} {ys : List Nat} (hw : ∀ j, j < ys.length → o + j < zs.length ∧ at0 zs (o + j) = at0 ys j) : Cel K w (some ⟨g, o, none⟩) ys := fun _ => ⟨g, o, rfl, fun j x hx => by
  obtain ⟨h1, h2⟩ := hw j (lt_of_some hx)
  rw [h.cell h1, h2, at0_of hx]⟩
theorem Own.all (h : Own K w g zs) : Cel K w (some ⟨g, 0, none⟩) zs := h.cel fun j hj => ⟨by omega, by rw [Nat.zero_add]⟩
theorem Own.alloc (h : Own K w g zs) (o : Obj) : Own K (w.alloc o) g zs := by
  have hl := h.lt
  obtain ⟨cs, T, h1, h2⟩ := h
  exact ⟨cs, T, (Below.heap_alloc w o g hl).trans h1, h2⟩
theorem Own.drewN (h : Own K w g zs) (k : Nat) : Own K (w.drewN k) g zs := h
theorem Own.grown (h : Own K w g zs) {row : Option Nat} (hg : w.grownBy w' row) (hne : some g ≠ row) : Own K w' g zs := by
  have hl := h.lt
  obtain ⟨cs, T, h1, h2⟩ := h
  exact ⟨cs, T, (hg.block g hl hne).trans h1, h2⟩
theorem Own.below (h : Own K w g zs) (hb : Below w.heap.size w w') : Own K w' g zs := by
  have hl := h.lt
  obtain ⟨cs, T, h1, h2⟩ := h
  exact ⟨cs, T, (hb.block g hl).trans h1, h2⟩
theorem Own.far (h : Own K w g zs) {p : Addr} (hp : g ≠ p.block) (u : Value) : Own K (w.setCell p u) g zs := by
  obtain ⟨cs, T, h1, h2⟩ := h
  exact ⟨cs, T, (Below.heap_setCell w p u g hp).trans h1, h2⟩
theorem Own.set_ (h : Own K w g zs) {j x : Nat} (hj : j < zs.length) : Own K (w.setCell ⟨g, j, none⟩ (.int K (x : Int))) g (zs.set j x) := by
  obtain ⟨cs, T, h1, h2⟩ := h
  refine ⟨cs.setIfInBounds j (.int K (x : Int)), T, by simp [World.setCell, Array.getElem?_modify, h1], fun i y hy => ?_⟩
  have hjs : j < cs.size := (Array.getElem?_eq_some_iff.1 (h2 j _ (at0_some hj))).1
  rw [List.getElem?_set] at hy
  rw [Array.getElem?_setIfInBounds]
  by_cases e : j = i
  · subst e
    rw [if_pos rfl] at hy ⊢
    rw [if_pos hj] at hy
    injection hy with hy; subst hy
    simp [hjs]
  · rw [if_neg e] at hy ⊢
    exact h2 i y hy
theorem Own.mono {ys : List Nat} (h : Own K w g zs) (hp : ∀ j, j < ys.length → j < zs.length ∧ at0 ys j = at0 zs j) : Own K w g ys := by
  obtain ⟨cs, T, h1, h2⟩ := h
  refine ⟨cs, T, h1, fun j x hx => ?_⟩
  obtain ⟨h3, h4⟩ := hp j (lt_of_some hx)
  rw [h2 j _ (at0_some h3), ← h4, at0_of hx]
theorem Own.of_own {base : Nat} {e : TypeId} {n c : Nat} (h : w.ownsRow base e 1 (.slice (some ⟨g, 0, none⟩) n c) n (zs.map fun x : Nat => Value.int K (x : Int))) : Own K w g zs := by
  rcases h.2 with ⟨h', _⟩ | ⟨g', cap', cur, h', _, hg, _, _, hcs, htake⟩
  · simp at h'
  · simp only [Value.slice.injEq, Option.some.injEq, Addr.mk.injEq, and_true, true_and] at h'
    obtain ⟨rfl, rfl⟩ := h'
    refine ⟨cur, e, hg, fun j x hx => ?_⟩
    have hj : j < n := by have := h.1; have := lt_of_some hx; simp at *; omega
    have h3 : (List.map (fun x : Nat => Value.int K (x : Int)) zs)[j]? = some (.int K (x : Int)) := by rw [List.getElem?_map, hx]; rfl
    rw [← htake, List.getElem?_take, if_pos (by omega)] at h3
    simpa using h3
theorem Own.new_ (K : IntKind) (w : World) (T : TypeId) (zs : List Nat) {g : Nat} (hg : g = w.heap.size) : Own K (w.alloc (.cells (zs.map fun x : Nat => Value.int K (x : Int)).toArray T)) g zs := by
  subst hg
  exact ⟨_, T, heap_alloc_new w _, fun j x hx => by simp [hx]⟩
end
theorem zero_row (K : IntKind) (n : Nat) : madeCells #[.int K 0] n = ((List.replicate n 0).map fun x : Nat => Value.int K (x : Int)).toArray := by
  unfold madeCells
  apply Array.ext
  · simp
  · intro i h1 h2
    simp [Nat.mod_one]

/-! ### worlds -/
theorem bel_drewN {B : Nat} {a w : World} (h : Below B a w) (k : Nat) : Below B a (w.drewN k) := ⟨h.os, h.tape, h.output, h.size, h.block⟩
theorem grown_refl (w : World) (row : Option Nat) : w.grownBy w row := ⟨rfl, rfl, rfl, Nat.le_refl _, fun _ _ _ => rfl⟩
theorem grown_trans {a b c : World} {row : Option Nat} (h : a.grownBy b row) (k : b.grownBy c row) : a.grownBy c row :=
  ⟨k.os.trans h.os, k.tape.trans h.tape, k.output.trans h.output, Nat.le_trans h.size k.size, fun i hi hne => (k.block i (Nat.lt_of_lt_of_le hi h.size) hne).trans (h.block i hi hne)⟩
theorem grown_drewN {a w : World} {row : Option Nat} (h : a.grownBy w row) (n : Nat) : a.grownBy (w.drewN n) row := ⟨h.os, h.tape, h.output, h.size, h.block⟩
theorem grown_alloc {a w : World} {row : Option Nat} (h : a.grownBy w row) (o : Obj) : a.grownBy (w.alloc o) row :=
  ⟨h.os, h.tape, h.output, Nat.le_trans h.size (by simp), fun i hi hne => (Below.heap_alloc w o i (Nat.lt_of_lt_of_le hi h.size)).trans (h.block i hi hne)⟩
theorem grown_set {a w : World} {g : Nat} (h : a.grownBy w (some g)) {p : Addr} (hp : p.block = g ∨ a.heap.size ≤ p.block) (u : Value) : a.grownBy (w.setCell p u) (some g) :=
  ⟨h.os, h.tape, h.output, by simpa [World.setCell] using h.size, fun i hi hne => (Below.heap_setCell w p u i (by
    rintro rfl
    rcases hp with hp | hp
    · exact hne (by rw [hp])
    · omega)).trans (h.block i hi hne)⟩
/-- a write into a block that is new since a turns nothing of a -/
theorem below_grown {B : Nat} {a w w' : World} {g : Nat} (h : Below B a w) (hg : w.grownBy w' (some g)) (hB : B ≤ g) (hBw : B ≤ w.heap.size) : Below B a w' :=
  h.grown hg hBw fun k e => by injection e with e; omega
/-- a write into a new block keeps to what was new -/
theorem grown_new {a w w' : World} {row : Option Nat} {g : Nat} (h : a.grownBy w row) (hg : w.grownBy w' (some g)) (hn : a.heap.size ≤ g) : a.grownBy w' row :=
  ⟨hg.os.trans h.os, hg.tape.trans h.tape, hg.output.trans h.output, Nat.le_trans h.size hg.size, fun i hi hne => (hg.block i (Nat.lt_of_lt_of_le hi h.size) (fun e => by injection e with e; omega)).trans (h.block i hi hne)⟩
theorem grown_below {a w w' : World} {row : Option Nat} (h : a.grownBy w row) (hb : Below w.heap.size w w') : a.grownBy w' row :=
  ⟨hb.os.trans h.os, hb.tape.trans h.tape, hb.output.trans h.output, Nat.le_trans h.size hb.size, fun i hi hne => (hb.block i (Nat.lt_of_lt_of_le hi h.size)).trans (h.block i hi hne)⟩
theorem below_on {w w1 w2 : World} (h : Below w.heap.size w w1) (h2 : Below w1.heap.size w1 w2) : Below w.heap.size w w2 := h.trans (h2.mono h.size)
theorem below_new (w : World) (o : Obj) : Below w.heap.size w (w.alloc o) := (Below.refl _ _).alloc (Nat.le_refl _) o

theorem ret_int {k : IntKind} {a b : Int} (h : a = b) : Ending.returned (.int k a) = .returned (.int k b) := by rw [h]
theorem ret_bool {a b : Bool} (h : a = b) : Ending.returned (.bool a) = .returned (.bool b) := by rw [h]
theorem int_eq {k : IntKind} {a b : Int} (h : a = b) : Value.int k a = .int k b := by rw [h]

/-- a call that leaves the world alone, in a region that only reads, behind draws -/
theorem quiet_more {P : Program} {f : FuncId} {args : Array Value} {w : World} {a n : Nat} {v : Value} (h : Calls P f args (w.drewN (a + n)) fun e w' => e = .returned v ∧ w.drewN (a + n) = w') :
    Calls P f args (w.drewN (a + n)) fun e w'' => e = .returned v ∧ ∃ j, w'' = w.drewN (a + j) := h.mono fun _ _ ⟨he, hw⟩ => ⟨he, n, hw.symm⟩
/-- the same, no draw ahead -/
theorem quiet_one {P : Program} {f : FuncId} {args : Array Value} {w : World} {n : Nat} {v : Value} (h : Calls P f args (w.drewN n) fun e w' => e = .returned v ∧ w.drewN n = w') :
    Calls P f args (w.drewN n) fun e w'' => e = .returned v ∧ ∃ j, w'' = w.drewN j := h.mono fun _ _ ⟨he, hw⟩ => ⟨he, n, hw.symm⟩

theorem drew_two (w : World) (a b : Nat) : (w.drewN a).drewN b = w.drewN (a + b) := World.drewN_drewN w a b
theorem drew_three (w : World) (a b c : Nat) : ((w.drewN a).drewN b).drewN c = w.drewN (a + b + c) := by rw [drew_two, drew_two, Nat.add_assoc]

/-! ### cmp -/
set_option maxHeartbeats 400000 in
theorem nan_int (x : Int) (w : World) : Calls Try.prog 76 #[.int .i64 x] w fun e w' => e = .returned (.bool false) ∧ w = w' := by
  go_enter Try.func76, Try.ntmps76
  go_wp2
  go_ret
  exact ⟨rfl, rfl⟩
set_option maxHeartbeats 400000 in
theorem nan_u32 (x : Int) (w : World) : Calls Try.prog 77 #[.int .u32 x] w fun e w' => e = .returned (.bool false) ∧ w = w' := by
  go_enter Try.func77, Try.ntmps77
  go_wp2
  go_ret
  exact ⟨rfl, rfl⟩
set_option maxHeartbeats 400000 in
theorem cmp_int (a b : Nat) (C : Int) (hC : Hid (C = cmpI a b)) (w : World) : Calls Try.prog 74 #[.int .i64 (a : Int), .int .i64 (b : Int)] w fun e w' => e = .returned (.int .i64 C) ∧ w = w' := by
  rcases Nat.lt_trichotomy a b with h | h | h
  · obtain rfl := hC.out.trans (cmpI_lt h)
    go_enter Try.func74, Try.ntmps74
    go_wp2_with (go_at_call 76; refine (nan_int _ _).mono ?_; rintro e w' ⟨rfl, rfl⟩)
    go_ret
    exact ⟨rfl, rfl⟩
  · obtain rfl := hC.out.trans (cmpI_eq h)
    subst h
    go_enter Try.func74, Try.ntmps74
    go_wp2_with (go_at_call 76; refine (nan_int _ _).mono ?_; rintro e w' ⟨rfl, rfl⟩)
    go_ret
    exact ⟨rfl, rfl⟩
  · obtain rfl := hC.out.trans (cmpI_gt h)
    have h1 : ¬ a < b := by omega
    go_enter Try.func74, Try.ntmps74
    go_wp2_with (go_at_call 76; refine (nan_int _ _).mono ?_; rintro e w' ⟨rfl, rfl⟩)
    go_ret
    exact ⟨rfl, rfl⟩
set_option maxHeartbeats 400000 in
theorem cmp_u32 (a b : Nat) (C : Int) (hC : Hid (C = cmpI a b)) (w : World) : Calls Try.prog 75 #[.int .u32 (a : Int), .int .u32 (b : Int)] w fun e w' => e = .returned (.int .i64 C) ∧ w = w' := by
  rcases Nat.lt_trichotomy a b with h | h | h
  · obtain rfl := hC.out.trans (cmpI_lt h)
    go_enter Try.func75, Try.ntmps75
    go_wp2_with (go_at_call 77; refine (nan_u32 _ _).mono ?_; rintro e w' ⟨rfl, rfl⟩)
    go_ret
    exact ⟨rfl, rfl⟩
  · obtain rfl := hC.out.trans (cmpI_eq h)
    subst h
    go_enter Try.func75, Try.ntmps75
    go_wp2_with (go_at_call 77; refine (nan_u32 _ _).mono ?_; rintro e w' ⟨rfl, rfl⟩)
    go_ret
    exact ⟨rfl, rfl⟩
  · obtain rfl := hC.out.trans (cmpI_gt h)
    have h1 : ¬ a < b := by omega
    go_enter Try.func75, Try.ntmps75
    go_wp2_with (go_at_call 77; refine (nan_u32 _ _).mono ?_; rintro e w' ⟨rfl, rfl⟩)
    go_ret
    exact ⟨rfl, rfl⟩
end Go.Proofs.Ytjblfmgiafdefaa.natA

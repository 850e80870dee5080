/-
  What a step may change; rows of ints and blocks of two cells in memory; a stream in memory, the program's and the reference's alike; contracts of New, Next, Used of both.
-/
import Derived.Test.YtikhhceoonfhcaaDoorDgB
import Derived.Test.YtikhhceoonfhcaaDoorStMath
import Derived.OneCell
import Derived.OwnWalk
import Derived.Deep.OwnRows
import Derived.Deep.AppendLies
import Derived.Laws.OwnMore
import Derived.Lib.SmallJoins
import Derived.Deep.DeepCutAuto
namespace Go.Proofs.YtikhhceoonfhcaaDoor.stA
open Go.RowKit
open Go.Proofs.YtikhhceoonfhcaaDoor.dgM Go.Proofs.YtikhhceoonfhcaaDoor.dgA Go.Proofs.YtikhhceoonfhcaaDoor.dgB Go.Proofs.YtikhhceoonfhcaaDoor.stM
set_option linter.unusedVariables false

/-! ### what a step may change: the blocks F and new ones -/
def Mv (w : World) (F : List Nat) (w' : World) : Prop := w'.os = w.os ∧ w'.tape = w.tape ∧ w'.output = w.output ∧ w.heap.size ≤ w'.heap.size ∧ ∀ k, k < w.heap.size → k ∉ F → w'.heap[k]? = w.heap[k]?
theorem Mv.refl (w : World) (F : List Nat) : Mv w F w := ⟨rfl, rfl, rfl, Nat.le_refl _, fun _ _ _ => rfl⟩
theorem Mv.size {w w' : World} {F : List Nat} (h : Mv w F w') : w.heap.size ≤ w'.heap.size := h.2.2.2.1
theorem Mv.block {w w' : World} {F : List Nat} (h : Mv w F w') {k : Nat} (hk : k < w.heap.size) (hF : k ∉ F) : w'.heap[k]? = w.heap[k]? := h.2.2.2.2 k hk hF
/-- one step behind another: what the second changes lies in F or is new -/
theorem Mv.on {w w1 w2 : World} {F G : List Nat} (h : Mv w F w1) (h2 : Mv w1 G w2) (hn : ∀ k ∈ G, k ∈ F ∨ w.heap.size ≤ k) : Mv w F w2 :=
  ⟨h2.1.trans h.1, h2.2.1.trans h.2.1, h2.2.2.1.trans h.2.2.1, Nat.le_trans h.size h2.size, fun k hk hF => by
    rw [h2.block (Nat.lt_of_lt_of_le hk h.size) (fun hh => by
      rcases hn k hh with x | x
      · exact hF x
      · omega), h.block hk hF]⟩
theorem Mv.on' {w w1 w2 : World} {F : List Nat} (h : Mv w F w1) (h2 : Mv w1 F w2) : Mv w F w2 := h.on h2 fun _ x => .inl x
theorem Mv.of_below {w w' : World} {F : List Nat} (h : Below w.heap.size w w') : Mv w F w' := ⟨h.os, h.tape, h.output, h.size, fun k hk _ => h.block k hk⟩
theorem Mv.drew {w w' : World} {F : List Nat} (h : Mv w F w') (k : Nat) : Mv w F (w'.drewN k) := h
theorem Mv.set {w w' : World} {F : List Nat} (h : Mv w F w') {p : Nat} (hp : p ∈ F ∨ w.heap.size ≤ p) (j : Nat) (u : Value) : Mv w F (w'.setCell ⟨p, j, none⟩ u) :=
  ⟨h.1, h.2.1, h.2.2.1, by simpa [World.setCell] using h.2.2.2.1, fun k hk hF => by
    rw [Below.heap_setCell w' ⟨p, j, none⟩ u k (fun e => by
      rcases hp with x | x
      · exact hF (e ▸ x)
      · simp at e; omega), h.block hk hF]⟩
theorem Mv.alloc {w w' : World} {F : List Nat} (h : Mv w F w') (o : Obj) : Mv w F (w'.alloc o) :=
  ⟨h.1, h.2.1, h.2.2.1, Nat.le_trans h.2.2.2.1 (by simp), fun k hk hF => by
    rw [Below.heap_alloc w' o k (Nat.lt_of_lt_of_le hk h.size), h.block hk hF]⟩
theorem Mv.sub {w w' : World} {F G : List Nat} (h : Mv w F w') (hs : ∀ k ∈ F, k ∈ G ∨ w.heap.size ≤ k) : Mv w G w' :=
  ⟨h.1, h.2.1, h.2.2.1, h.2.2.2.1, fun k hk hG => h.block hk fun hF => by
    rcases hs k hF with x | x
    · exact hG x
    · omega⟩
/-- old blocks do not change where only new ones are changed -/
theorem Mv.below {w0 w w' : World} {F : List Nat} (h : Mv w F w') (hb : Below w0.heap.size w0 w) (hF : ∀ k ∈ F, w0.heap.size ≤ k) : Below w0.heap.size w0 w' :=
  ⟨h.1.trans hb.os, h.2.1.trans hb.tape, h.2.2.1.trans hb.output, Nat.le_trans hb.size h.size, fun k hk => by
    rw [h.block (Nat.lt_of_lt_of_le hk hb.size) (fun x => by have := hF k x; omega), hb.block k hk]⟩
theorem block_lt {w : World} {p : Nat} {o : Obj} (h : w.heap[p]? = some o) : p < w.heap.size := by
  rcases Nat.lt_or_ge p w.heap.size with h' | h'
  · exact h'
  · rw [Array.getElem?_eq_none h'] at h; cases h

/-! ### ints in memory -/
abbrev cI (zs : List Int) : List Value := zs.map (Value.int .i64)
def Ci (w : World) (A : Option Addr) (zs : List Int) : Prop :=
  0 < zs.length → ∃ b off, A = some ⟨b, off, none⟩ ∧ ∀ j x, zs[j]? = some x → w.cell? ⟨b, off + j, none⟩ = some (.int .i64 x)
theorem Ci.nil (w : World) (A : Option Addr) : Ci w A [] := fun h => absurd h (by simp)
theorem Ci.at_ {w : World} {A : Option Addr} {l : List Int} (h : Ci w A l) {k : Nat} (hk : k < l.length) : ∃ b off, A = some ⟨b, off, none⟩ ∧ w.cell? ⟨b, off + k, none⟩ = some (.int .i64 (iat l k)) := by
  obtain ⟨b, off, e, hc⟩ := h (by omega)
  exact ⟨b, off, e, hc k _ (iat_some hk)⟩
theorem Ci.mv {w w' : World} {A : Option Addr} {l : List Int} {F : List Nat} (h : Ci w A l) (hm : Mv w F w') (hF : ∀ b off, A = some ⟨b, off, none⟩ → b ∉ F) : Ci w' A l := fun hp => by
  obtain ⟨b, off, e, hc⟩ := h hp
  refine ⟨b, off, e, fun j x hx => ?_⟩
  have h1 := hc j x hx
  have hlt : b < w.heap.size := World.block_lt_of_cell? w _ h1
  rw [World.cell?_of_block (w := w) (hm.block hlt (hF b off e))]; exact h1
theorem Ci.take {w : World} {A : Option Addr} {l : List Int} (h : Ci w A l) (k : Nat) : Ci w A (l.take k) := fun hp => by
  rw [List.length_take] at hp
  obtain ⟨b, off, e, hc⟩ := h (by omega)
  refine ⟨b, off, e, fun j x hx => hc j x ?_⟩
  rw [List.getElem?_take] at hx
  split at hx
  · exact hx
  · cases hx
/-- a row that the call has made -/
def Row (w : World) (g : Nat) (zs : List Int) : Prop := w.heap[g]? = some (.cells (cI zs).toArray 3 (0, 0))
section
variable {w w' : World} {g : Nat} {zs : List Int}
theorem row_lt (h : Row w g zs) : g < w.heap.size := block_lt h
theorem row_cell (h : Row w g zs) {j : Nat} (hj : j < zs.length) : w.cell? ⟨g, j, none⟩ = some (.int .i64 (iat zs j)) := by
  rw [cell_of_row w g j _ _ _ h]
  simp [iat, List.getD, hj]
theorem row_free (h : Row w g zs) (j : Nat) : w.frozen? ⟨g, j, none⟩ = false := by
  unfold Row at h; simp [World.frozen?, h]
theorem row_ci (h : Row w g zs) : Ci w (some ⟨g, 0, none⟩) zs := fun _ => ⟨g, 0, rfl, fun j x hx => by
  have hj : j < zs.length := (List.getElem?_eq_some_iff.1 hx).1
  rw [Nat.zero_add, row_cell h hj, iat_of hx]⟩
theorem row_set (h : Row w g zs) (j : Nat) (x : Int) : Row (w.setCell ⟨g, j, none⟩ (.int .i64 x)) g (zs.set j x) := by
  unfold Row at h ⊢
  simp [World.setCell, Array.getElem?_modify, h, List.map_set]
theorem row_block (h : Row w g zs) (e : w'.heap[g]? = w.heap[g]?) : Row w' g zs := e.trans h
theorem row_mv {F : List Nat} (h : Row w g zs) (hm : Mv w F w') (hF : g ∉ F) : Row w' g zs := row_block h (hm.block (row_lt h) hF)
end
theorem row_new (w : World) (zs : List Int) : Row (w.alloc (.cells (cI zs).toArray 3)) w.heap.size zs := heap_alloc_new w _

/-! ### a block of one cell, of two cells -/
def R1 (w : World) (p : Nat) (a : Value) : Prop := ∃ T, w.heap[p]? = some (.cells #[a] T (0, 0))
def R2 (w : World) (p : Nat) (a b : Value) : Prop := ∃ T, w.heap[p]? = some (.cells #[a, b] T (0, 0))
section
variable {w w' : World} {p : Nat} {a b : Value}
theorem r1_c0 (h : R1 w p a) : w.cell? ⟨p, 0, none⟩ = some a := by obtain ⟨T, h⟩ := h; simp [World.cell?, h]
theorem r1_lt (h : R1 w p a) : p < w.heap.size := by obtain ⟨T, h⟩ := h; exact block_lt h
theorem r1_mv {F : List Nat} (h : R1 w p a) (hm : Mv w F w') (hF : p ∉ F) : R1 w' p a := by
  have hl := r1_lt h
  obtain ⟨T, h⟩ := h
  exact ⟨T, (hm.block hl hF).trans h⟩
theorem r2_c0 (h : R2 w p a b) : w.cell? ⟨p, 0, none⟩ = some a := by obtain ⟨T, h⟩ := h; simp [World.cell?, h]
theorem r2_c1 (h : R2 w p a b) : w.cell? ⟨p, 1, none⟩ = some b := by obtain ⟨T, h⟩ := h; simp [World.cell?, h]
theorem r2_free (h : R2 w p a b) (j : Nat) : w.frozen? ⟨p, j, none⟩ = false := by obtain ⟨T, h⟩ := h; simp [World.frozen?, h]
theorem r2_set0 (h : R2 w p a b) (u : Value) : R2 (w.setCell ⟨p, 0, none⟩ u) p u b := by
  obtain ⟨T, h⟩ := h
  exact ⟨T, by simp [World.setCell, Array.getElem?_modify, h]⟩
theorem r2_set1 (h : R2 w p a b) (u : Value) : R2 (w.setCell ⟨p, 1, none⟩ u) p a u := by
  obtain ⟨T, h⟩ := h
  exact ⟨T, by simp [World.setCell, Array.getElem?_modify, h]⟩
theorem r2_lt (h : R2 w p a b) : p < w.heap.size := by obtain ⟨T, h⟩ := h; exact block_lt h
theorem r2_block (h : R2 w p a b) (e : w'.heap[p]? = w.heap[p]?) : R2 w' p a b := by
  obtain ⟨T, h⟩ := h
  exact ⟨T, e.trans h⟩
end

/-! ### a stream -/
/-- how many values have been made, as an int -/
def cnt : Nat → Int
  | 0 => 0
  | k + 1 => IntKind.i64.wrap (cnt k + 1)
theorem rnd_lt {w : World} (h : Rnd w) : 0 < w.heap.size := by
  unfold Rnd World.var? at h
  rw [gRnd] at h
  simp only [Option.bind_some] at h
  rcases Nat.lt_or_ge 0 w.heap.size with h' | h'
  · exact h'
  · rw [Array.getElem?_eq_none h'] at h; cases h
theorem rnd_mv {w w' : World} {F : List Nat} (h : Rnd w) (hm : Mv w F w') (hF : 0 ∉ F) : Rnd w' := by
  have hl := rnd_lt h
  unfold Rnd World.var? at h ⊢
  rw [gRnd] at h ⊢
  simp only [Option.bind_some] at h ⊢
  rw [hm.block hl hF]; exact h
/-- a stream of this seed that has made k values lies in the block p -/
structure Lv (w : World) (p a k : Nat) : Prop where
  rnd : Rnd w
  two : R2 w p (.int .u64 (sta a k : Nat)) (.int .i64 (cnt k))
  ne : p ≠ 0
theorem Lv.lt {w : World} {p a k : Nat} (h : Lv w p a k) : p < w.heap.size := r2_lt h.two
theorem Lv.mv {w w' : World} {q a k : Nat} {F : List Nat} (h : Lv w q a k) (hm : Mv w F w') (hq : q ∉ F) (hg : 0 ∉ F) : Lv w' q a k :=
  ⟨rnd_mv h.rnd hm hg, r2_block h.two (hm.block h.lt hq), h.ne⟩
theorem Lv.on {w w' : World} {q a k : Nat} (h : Lv w q a k) (hm : Mv w [] w') : Lv w' q a k := h.mv hm (by simp) (by simp)
theorem Lv.beside {w w' : World} {p q a b k j : Nat} (h : Lv w q a k) (h2 : Lv w' p b j) (hm : Mv w [p] w') (hq : q ≠ p) : Lv w' q a k := h.mv hm (by simpa using hq) (by simpa using Ne.symm h2.ne)
/-- a step of the stream at p -/
def Nst (w : World) (p a k : Nat) (v : Value) (e : Ending) (w' : World) : Prop := e = .returned v ∧ Lv w' p a k ∧ Mv w [p] w'

/-! ### New, Used, Next -/
theorem new_lv {w : World} (hR : Rnd w) (a : Nat) (T : TypeId) : Lv (w.alloc (.cells #[.int .u64 (a : Int), .int .i64 0] T)) w.heap.size a 0 :=
  ⟨rnd_mv hR ((Mv.refl w []).alloc _) (by simp), ⟨T, heap_alloc_new w _⟩, by have := rnd_lt hR; omega⟩
def NewP (w : World) (a : Nat) (e : Ending) (w' : World) : Prop := ∃ p, e = .returned (.pointer (some ⟨p, 0, none⟩)) ∧ Lv w' p a 0 ∧ w.heap.size ≤ p ∧ Mv w [] w'
theorem new_any (a : Nat) (w : World) (hR : Rnd w) :
    Calls Tryd.prog 11 #[.int .u64 (a : Int)] w (NewP w a) := by
  have HL := fun T => new_lv hR a T
  go_enter Tryd.func11, Tryd.ntmps11
  go_wp2_with fail
  go_ret
  exact ⟨_, rfl, HL _, Nat.le_refl _, (Mv.refl w []).alloc _⟩
theorem rnew_any (a : Nat) (w : World) (hR : Rnd w) :
    Calls Tryd.prog 12 #[.int .u64 (a : Int)] w (NewP w a) := by
  have HL := fun T => new_lv hR a T
  go_enter Tryd.func12, Tryd.ntmps12
  go_wp2_with fail
  go_ret
  exact ⟨_, rfl, HL _, Nat.le_refl _, (Mv.refl w []).alloc _⟩
theorem used_any (p a k : Nat) (w : World) (hL : Lv w p a k) :
    Calls Tryd.prog 15 #[.pointer (some ⟨p, 0, none⟩)] w fun e w' => e = .returned (.int .i64 (cnt k)) ∧ w = w' := by
  have c1 := r2_c1 hL.two
  go_enter Tryd.func15, Tryd.ntmps15
  go_wp2_with fail
  go_ret
  exact ⟨rfl, rfl⟩
theorem rused_any (p a k : Nat) (w : World) (hL : Lv w p a k) :
    Calls Tryd.prog 16 #[.pointer (some ⟨p, 0, none⟩)] w fun e w' => e = .returned (.int .i64 (cnt k)) ∧ w = w' := by
  have c1 := r2_c1 hL.two
  go_enter Tryd.func16, Tryd.ntmps16
  go_wp2_with fail
  go_ret
  exact ⟨rfl, rfl⟩
theorem used_nil (w : World) :
    Calls Tryd.prog 15 #[.pointer none] w fun e w' => e = .returned (.int .i64 0) ∧ w = w' := by
  go_enter Tryd.func15, Tryd.ntmps15
  go_wp2_with fail
  go_ret
  exact ⟨rfl, rfl⟩
theorem next_nil (w : World) :
    Calls Tryd.prog 13 #[.pointer none] w fun e w' => e = .returned (.int .u64 0) ∧ w = w' := by
  go_enter Tryd.func13, Tryd.ntmps13
  go_wp2_with fail
  go_ret
  exact ⟨rfl, rfl⟩
theorem sta_fact (a k : Nat) : IntKind.u64.wrap ((sta a k : Int) + 11400714819323198485) = ((sta a (k + 1) : Nat) : Int) := by
  rw [IntKind.wrap_u64, sta]
  exact (Int.natCast_emod (sta a k + 11400714819323198485) A64).symm
theorem cnt_fact (k : Nat) : IntKind.i64.wrap (cnt k + 1) = cnt (k + 1) := rfl
set_option maxRecDepth 10000 in
set_option maxHeartbeats 400000 in
theorem next_any (p a k V : Nat) (ha : a < A64) (hV : Hid (V = vl a (k + 1))) (w : World) (hL : Lv w p a k) :
    Calls Tryd.prog 13 #[.pointer (some ⟨p, 0, none⟩)] w (Nst w p a (k + 1) (.int .u64 (V : Int))) := by
  obtain ⟨hR, hS, hg⟩ := hL
  have c0 := r2_c0 hS
  have c1 := r2_c1 hS
  have q0 := fun u => r2_free (r2_set1 hS u) 0
  have q1 := r2_free hS 1
  have f1 := sta_fact a k
  have f2 := cnt_fact k
  have cm := fun w h => mix_any (sta a (k + 1)) V (sta_lt ha _) hV w h
  have HF : Hid (∀ d, Nst w p a (k + 1) (.int .u64 (V : Int)) (.returned (.int .u64 (V : Int))) (((w.setCell ⟨p, 1, none⟩ (.int .i64 (cnt (k + 1)))).setCell ⟨p, 0, none⟩ (.int .u64 (sta a (k + 1) : Nat))).drewN d)) := Lib.hid fun d =>
    have hm : Mv w [p] (((w.setCell ⟨p, 1, none⟩ (.int .i64 (cnt (k + 1)))).setCell ⟨p, 0, none⟩ (.int .u64 (sta a (k + 1) : Nat))).drewN d) := (((Mv.refl w [p]).set (.inl (by simp)) 1 _).set (.inl (by simp)) 0 _).drew d
    ⟨rfl, ⟨rnd_mv hR hm (by simpa using Ne.symm hg), r2_block (r2_set0 (r2_set1 hS _) _) rfl, hg⟩, hm⟩
  have HR : Hid (∀ u v, Rnd ((w.setCell ⟨p, 1, none⟩ u).setCell ⟨p, 0, none⟩ v)) := Lib.hid fun u v => rnd_mv hR (((Mv.refl w [p]).set (.inl (by simp)) 1 _).set (.inl (by simp)) 0 _) (by simpa using Ne.symm hg)
  clear hR hS hg hV
  generalize sta a (k + 1) = y at *
  generalize sta a k = x at *
  generalize cnt (k + 1) = U at *
  generalize cnt k = T at *
  go_enter Tryd.func13, Tryd.ntmps13
  go_wp2_with (go_at_call 24; (with_reducible refine (cm _ (HR.out _ _)).mono ?_); rintro e w' ⟨rfl, d, rfl⟩)
  go_ret
  exact HF.out d
set_option maxRecDepth 10000 in
set_option maxHeartbeats 400000 in
theorem rnext_any (p a k V : Nat) (ha : a < A64) (hV : Hid (V = vl a (k + 1))) (w : World) (hL : Lv w p a k) :
    Calls Tryd.prog 14 #[.pointer (some ⟨p, 0, none⟩)] w (Nst w p a (k + 1) (.int .u64 (V : Int))) := by
  obtain ⟨hR, hS, hg⟩ := hL
  have c0 := r2_c0 hS
  have c1 := r2_c1 hS
  have q1 := fun u => r2_free (r2_set0 hS u) 1
  have q0 := r2_free hS 0
  have f1 := sta_fact a k
  have f2 := cnt_fact k
  have cm := fun w => rmix_any (sta a (k + 1)) V (sta_lt ha _) hV w
  have HF : Hid (Nst w p a (k + 1) (.int .u64 (V : Int)) (.returned (.int .u64 (V : Int))) ((w.setCell ⟨p, 0, none⟩ (.int .u64 (sta a (k + 1) : Nat))).setCell ⟨p, 1, none⟩ (.int .i64 (cnt (k + 1))))) := Lib.hid
    (have hm : Mv w [p] ((w.setCell ⟨p, 0, none⟩ (.int .u64 (sta a (k + 1) : Nat))).setCell ⟨p, 1, none⟩ (.int .i64 (cnt (k + 1)))) := (((Mv.refl w [p]).set (.inl (by simp)) 0 _).set (.inl (by simp)) 1 _)
    ⟨rfl, ⟨rnd_mv hR hm (by simpa using Ne.symm hg), r2_set1 (r2_set0 hS _) _, hg⟩, hm⟩)
  clear hR hS hg hV
  generalize sta a (k + 1) = y at *
  generalize sta a k = x at *
  generalize cnt (k + 1) = U at *
  generalize cnt k = T at *
  go_enter Tryd.func14, Tryd.ntmps14
  go_wp2_with (go_at_call 25; (with_reducible refine (cm _).mono ?_); rintro e w' ⟨rfl, rfl⟩)
  go_ret
  exact HF.out
end Go.Proofs.YtikhhceoonfhcaaDoor.stA

/-
  Contracts of combine of frac and of its closure.
-/
import Derived.Test.YtinceponggpioaaDoorFrD
namespace Go.Proofs.YtinceponggpioaaDoor.frF
open Go.RowKit
open Go.Proofs.YtinceponggpioaaDoor.natM Go.Proofs.YtinceponggpioaaDoor.natA Go.Proofs.YtinceponggpioaaDoor.natB Go.Proofs.YtinceponggpioaaDoor.natC Go.Proofs.YtinceponggpioaaDoor.natD Go.Proofs.YtinceponggpioaaDoor.natE Go.Proofs.YtinceponggpioaaDoor.natF Go.Proofs.YtinceponggpioaaDoor.natG Go.Proofs.YtinceponggpioaaDoor.natH Go.Proofs.YtinceponggpioaaDoor.natI Go.Proofs.YtinceponggpioaaDoor.natJ Go.Proofs.YtinceponggpioaaDoor.natX Go.Proofs.YtinceponggpioaaDoor.natUi Go.Proofs.YtinceponggpioaaDoor.frM Go.Proofs.YtinceponggpioaaDoor.frA Go.Proofs.YtinceponggpioaaDoor.frB Go.Proofs.YtinceponggpioaaDoor.frC Go.Proofs.YtinceponggpioaaDoor.frD
set_option linter.unusedVariables false

/-- what a step answers: a number, the error's cell, all other cells as they were -/
def StP (V : Nat) (E : Int) (pe : Nat) (w : World) (e : Ending) (w' : World) : Prop :=
  ∃ A n c, e = .returned (.agg #[.slice A n c]) ∧ Num w' A n c V ∧ Bk w' pe #[.int .i64 E] ∧ w.grownBy w' (some pe)
def FnV (F : FuncId) : Value := .func (.func F) #[] #[]

theorem grown_al3 (w : World) (row : Option Nat) (o1 o2 o3 : Obj) : w.grownBy (((w.alloc o1).alloc o2).alloc o3) row := grown_alloc (grown_alloc (grown_alloc (grown_refl w row) o1) o2) o3
theorem st_three {w : World} {b pe : Nat} {u v : Value} (h : Bk w pe #[u]) (h2 : Bk w b #[v]) (hne : pe ≠ b) (x y : Value) :
    (((w.setCell ⟨b, 0, none⟩ y).setCell ⟨pe, 0, none⟩ x).setCell ⟨b, 0, none⟩ y).cell? ⟨b, 0, none⟩ = some y :=
  (((h2.set_ 0 y).far (p := ⟨pe, 0, none⟩) (Ne.symm hne) x).set_ 0 y).at_ 0
theorem far_int {w : World} {A : Option Addr} {zs : List Nat} {b : Nat} {E : Int} (h : Cel .u32 w A zs) (hb : Bk w b #[.int .i64 E]) : Far A zs.length b := fun hp ad e => by
  obtain ⟨b2, off, e2, hc⟩ := h hp
  have h1 := hc 0 _ (at0_some hp)
  rw [e2] at e
  injection e with e
  subst e
  rintro rfl
  rw [hb.at_] at h1
  have hj : off + 0 < 1 := by
    have := (Array.getElem?_eq_some_iff.1 h1).1
    simpa using this
  rw [show off + 0 = 0 by omega] at h1
  simp at h1
theorem st_end {w0 w : World} {b pe : Nat} {a1 : Option Addr} {n1 c1 : Nat} {E0 E : Int} {A : Option Addr} {n c V : Nat} (h : Bk w pe #[.int .i64 E0]) (h2 : Bk w b #[.slice a1 n1 c1]) (hne : pe ≠ b) (hA : Num w A n c V) (hb : Below w0.heap.size w0 w) (hl : w0.heap.size ≤ b) (y : Value) :
    StP V E pe w0 (.returned (.agg #[.slice A n c])) (((w.setCell ⟨b, 0, none⟩ y).setCell ⟨pe, 0, none⟩ (.int .i64 E)).setCell ⟨b, 0, none⟩ y) := by
  have hf := far_bk1 hA.2.2 h2
  refine ⟨A, n, c, rfl, ⟨hA.1, hA.2.1, ?_⟩, ((h.far (p := ⟨b, 0, none⟩) hne y).set_ 0 (.int .i64 E)).far (p := ⟨b, 0, none⟩) hne y, ?_⟩
  · exact ((hA.2.2.set_ (p := ⟨b, 0, none⟩) hf y).set_ (p := ⟨pe, 0, none⟩) (far_int hA.2.2 h) _).set_ (p := ⟨b, 0, none⟩) hf y
  · exact grown_set (grown_set (grown_set (grown_below (grown_refl w0 _) hb) (p := ⟨b, 0, none⟩) (.inr hl) y) (p := ⟨pe, 0, none⟩) (.inl rfl) _) (p := ⟨b, 0, none⟩) (.inr hl) y
set_option maxRecDepth 4000 in
set_option maxHeartbeats 1000000 in
theorem run_skip (F : Value) (A D : Option Addr) (n c m d pe : Nat) (w : World) (he : Bk w pe #[.int .i64 9]) :
    Calls Tryd.prog 81 #[F, .agg #[.slice A n c], .agg #[.slice D m d], .pointer (some ⟨pe, 0, none⟩)] w (StP 0 9 pe w) := by
  have S0 := Lib.hid ((Kp.start w).addb he)
  have x0 := fun o1 o2 o3 => (((S0.out.alloc o1).alloc o2).alloc o3).b0.one
  clear he
  go_enter Tryd.func81, Tryd.ntmps81
  go_wp2_with fail
  have xs := (S0.out.al3 #[.slice A n c] #[.slice D m d] #[.slice none 0 0] 24 24 24).b0.one
  refine bodyPost_ret (v := .agg #[.slice none 0 0]) (by simp [results, Tryd.results81, go_sem, xs]) rfl ?_
  exact ⟨none, 0, 0, rfl, Num.nil _, (((S0.out.b0.alloc _).alloc _).alloc _), grown_al3 _ _ _ _ _⟩
set_option maxRecDepth 4000 in
set_option maxHeartbeats 1000000 in
theorem run_mul (A D : Option Addr) (n c m d X Y V : Nat) (E : Int) (pe : Nat) (k : ∀ A c D d w, Cel .u32 w A (dg 4294967296 n X) → Cel .u32 w D (dg 4294967296 m Y) → Calls Tryd.prog 49 #[.agg #[.slice A n c], .agg #[.slice D m d]] w (ResP V E w))
    (w : World) (hI : Cel .u32 w A (dg 4294967296 n X)) (hJ : Cel .u32 w D (dg 4294967296 m Y)) (he : Bk w pe #[.int .i64 0]) :
    Calls Tryd.prog 81 #[.func (.func 49) #[] #[], .agg #[.slice A n c], .agg #[.slice D m d], .pointer (some ⟨pe, 0, none⟩)] w (StP V E pe w) := by
  have S0 := Lib.hid (((Kp.start w).addc hJ).addc hI |>.addb he)
  have x0 := fun o1 o2 o3 => (((S0.out.alloc o1).alloc o2).alloc o3).b0.one
  have hpe := he.lt
  have hn1 : w.heap.size + 1 + 1 ≠ pe := by omega
  have hn2 : pe ≠ w.heap.size + 1 + 1 := by omega
  clear hI hJ he hpe
  go_enter Tryd.func81, Tryd.ntmps81
  go_wp2_with (first
    | (go_at_call 49; (with_reducible refine (k _ _ _ _ _ (S0.out.al3 _ _ _ _ _ _).c0 (S0.out.al3 _ _ _ _ _ _).c1).mono ?_); rintro e w1 ⟨A5, n5, c5, rfl, qq, hb⟩; have S1 := Lib.hid ((S0.out.al3 _ _ _ _ _ _).below hb); have Q := Lib.hid qq; have x1 := S1.out.b0.one; have f1 := S1.out.b0.free 0; have x2 := S1.out.b3.one; have f2 := S1.out.b3.free 0; clear hb qq x0))
  have xs := st_three S1.out.b3 S1.out.b0 hn2 (.int .i64 E) (.slice A5 n5 c5)
  refine bodyPost_ret (v := .agg #[.slice A5 n5 c5]) (by simp [results, Tryd.results81, go_sem, xs]) rfl ?_
  exact st_end S1.out.b3 S1.out.b0 hn2 Q.out S1.out.bel (by simp; omega) _
set_option maxRecDepth 4000 in
set_option maxHeartbeats 1000000 in
theorem run_add (A D : Option Addr) (n c m d X Y V : Nat) (E : Int) (pe : Nat) (k : ∀ A c D d w, Cel .u32 w A (dg 4294967296 n X) → Cel .u32 w D (dg 4294967296 m Y) → Calls Tryd.prog 55 #[.agg #[.slice A n c], .agg #[.slice D m d]] w (ResP V E w))
    (w : World) (hI : Cel .u32 w A (dg 4294967296 n X)) (hJ : Cel .u32 w D (dg 4294967296 m Y)) (he : Bk w pe #[.int .i64 0]) :
    Calls Tryd.prog 81 #[.func (.func 55) #[] #[], .agg #[.slice A n c], .agg #[.slice D m d], .pointer (some ⟨pe, 0, none⟩)] w (StP V E pe w) := by
  have S0 := Lib.hid (((Kp.start w).addc hJ).addc hI |>.addb he)
  have x0 := fun o1 o2 o3 => (((S0.out.alloc o1).alloc o2).alloc o3).b0.one
  have hpe := he.lt
  have hn1 : w.heap.size + 1 + 1 ≠ pe := by omega
  have hn2 : pe ≠ w.heap.size + 1 + 1 := by omega
  clear hI hJ he hpe
  go_enter Tryd.func81, Tryd.ntmps81
  go_wp2_with (first
    | (go_at_call 55; (with_reducible refine (k _ _ _ _ _ (S0.out.al3 _ _ _ _ _ _).c0 (S0.out.al3 _ _ _ _ _ _).c1).mono ?_); rintro e w1 ⟨A5, n5, c5, rfl, qq, hb⟩; have S1 := Lib.hid ((S0.out.al3 _ _ _ _ _ _).below hb); have Q := Lib.hid qq; have x1 := S1.out.b0.one; have f1 := S1.out.b0.free 0; have x2 := S1.out.b3.one; have f2 := S1.out.b3.free 0; clear hb qq x0))
  have xs := st_three S1.out.b3 S1.out.b0 hn2 (.int .i64 E) (.slice A5 n5 c5)
  refine bodyPost_ret (v := .agg #[.slice A5 n5 c5]) (by simp [results, Tryd.results81, go_sem, xs]) rfl ?_
  exact st_end S1.out.b3 S1.out.b0 hn2 Q.out S1.out.bel (by simp; omega) _
set_option maxRecDepth 4000 in
set_option maxHeartbeats 1000000 in
theorem run_sub (A D : Option Addr) (n c m d X Y V : Nat) (E : Int) (pe : Nat) (k : ∀ A c D d w, Cel .u32 w A (dg 4294967296 n X) → Cel .u32 w D (dg 4294967296 m Y) → Calls Tryd.prog 56 #[.agg #[.slice A n c], .agg #[.slice D m d]] w (ResP V E w))
    (w : World) (hI : Cel .u32 w A (dg 4294967296 n X)) (hJ : Cel .u32 w D (dg 4294967296 m Y)) (he : Bk w pe #[.int .i64 0]) :
    Calls Tryd.prog 81 #[.func (.func 56) #[] #[], .agg #[.slice A n c], .agg #[.slice D m d], .pointer (some ⟨pe, 0, none⟩)] w (StP V E pe w) := by
  have S0 := Lib.hid (((Kp.start w).addc hJ).addc hI |>.addb he)
  have x0 := fun o1 o2 o3 => (((S0.out.alloc o1).alloc o2).alloc o3).b0.one
  have hpe := he.lt
  have hn1 : w.heap.size + 1 + 1 ≠ pe := by omega
  have hn2 : pe ≠ w.heap.size + 1 + 1 := by omega
  clear hI hJ he hpe
  go_enter Tryd.func81, Tryd.ntmps81
  go_wp2_with (first
    | (go_at_call 56; (with_reducible refine (k _ _ _ _ _ (S0.out.al3 _ _ _ _ _ _).c0 (S0.out.al3 _ _ _ _ _ _).c1).mono ?_); rintro e w1 ⟨A5, n5, c5, rfl, qq, hb⟩; have S1 := Lib.hid ((S0.out.al3 _ _ _ _ _ _).below hb); have Q := Lib.hid qq; have x1 := S1.out.b0.one; have f1 := S1.out.b0.free 0; have x2 := S1.out.b3.one; have f2 := S1.out.b3.free 0; clear hb qq x0))
  have xs := st_three S1.out.b3 S1.out.b0 hn2 (.int .i64 E) (.slice A5 n5 c5)
  refine bodyPost_ret (v := .agg #[.slice A5 n5 c5]) (by simp [results, Tryd.results81, go_sem, xs]) rfl ?_
  exact st_end S1.out.b3 S1.out.b0 hn2 Q.out S1.out.bel (by simp; omega) _
end Go.Proofs.YtinceponggpioaaDoor.frF

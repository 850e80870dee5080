/-
  What a walk carries; the law's examples.
-/
import Derived.Test.YthnbddacglfldaaDoorDgC
import Derived.Test.YthnbddacglfldaaDoorDgH
namespace Go.Proofs.YthnbddacglfldaaDoor.dgW
open Go.RowKit
open Go.Proofs.YthnbddacglfldaaDoor.dgM Go.Proofs.YthnbddacglfldaaDoor.dgA Go.Proofs.YthnbddacglfldaaDoor.dgB Go.Proofs.YthnbddacglfldaaDoor.dgC Go.Proofs.YthnbddacglfldaaDoor.dgX Go.Proofs.YthnbddacglfldaaDoor.dgP Go.Proofs.YthnbddacglfldaaDoor.dgH
set_option linter.unusedVariables false

theorem below_on {w v u : World} (h : Below w.heap.size w v) (h2 : Below v.heap.size v u) : Below w.heap.size w u := h.trans (h2.mono h.size)
theorem below_draw (w : World) (k : Nat) : Below w.heap.size w (w.drewN k) := ⟨rfl, rfl, rfl, Nat.le_refl _, fun _ _ => rfl⟩
/-- what a walk carries: both tables, and that nothing old has changed -/
def Kg (w v : World) : Prop := Rnd v ∧ Dig v ∧ Below w.heap.size w v
theorem Kg.start {w : World} (h : Rnd w) (h2 : Dig w) : Kg w w := ⟨h, h2, Below.refl _ _⟩
theorem Kg.drew {w v : World} (h : Kg w v) (k : Nat) : Kg w (v.drewN k) := ⟨h.1, h.2.1, below_on h.2.2 (below_draw _ _)⟩
theorem Kg.drawn {w v u : World} (h : Kg w v) (hd : ∃ d, u = v.drewN d) : Kg w u := by
  obtain ⟨d, rfl⟩ := hd; exact h.drew d
theorem Kg.on {w v u : World} (h : Kg w v) (hb : Below v.heap.size v u) : Kg w u := ⟨Joins.var_stays gRnd h.1 hb (Nat.le_refl _), Joins.tab_stays gDig h.2.1 hb (Nat.le_refl _), below_on h.2.2 hb⟩
theorem Kg.rnd {w v : World} (h : Kg w v) : Rnd v := h.1
theorem Kg.dig {w v : World} (h : Kg w v) : Dig v := h.2.1
theorem Kg.bel {w v : World} (h : Kg w v) : Below w.heap.size w v := h.2.2

def eg1 : ByteArray := ⟨#[48, 48, 48, 48, 48, 48, 48, 48, 48, 48, 48, 48, 48, 48, 102, 102]⟩
def eg2 : ByteArray := ⟨#[102, 102]⟩
def eg3 : ByteArray := ⟨#[48, 48, 48, 48, 48, 48, 48, 48, 48, 48, 48, 48, 48, 48, 70, 70]⟩
theorem p1 : pv 0 eg1.data.toList = 255 := by decide +kernel
theorem a1 : eg1.data.toList.all isH = true := by decide +kernel
theorem a3 : eg3.data.toList.all isH = false := by decide +kernel
theorem q1 : sm s0 [97] = 12638187200555641996 := by decide +kernel
theorem q2 : hl s0 16 = [99, 98, 102, 50, 57, 99, 101, 52, 56, 52, 50, 50, 50, 51, 50, 53] := by decide +kernel
theorem q3 : mx 11400714819323198485 = 16294208416658607535 := by decide +kernel
theorem q4 : ux 16294208416658607535 = 11400714819323198485 := by decide +kernel

set_option maxRecDepth 10000 in
set_option maxHeartbeats 400000 in
theorem awake_any (w0 w : World) (K0 : Kg w0 w) :
    Calls Tryd.prog 11 #[] w fun e w' => e = .returned (.bool true) ∧ Kg w0 w' := by
  have d1 : ∀ w, Calls Tryd.prog 23 #[.string ⟨#[48, 48, 48, 48, 48, 48, 48, 48, 48, 48, 48, 48, 48, 48, 102, 102]⟩] w fun e w' => e = .returned (.tuple #[.int .u64 255, .int .i64 0]) ∧ w = w' :=
    fun w => ph_any eg1 (by decide) 255 0 (Lib.hid (.inl ⟨⟨rfl, a1⟩, p1.symm, rfl⟩)) w
  have d2 : ∀ w, Calls Tryd.prog 23 #[.string ⟨#[102, 102]⟩] w fun e w' => e = .returned (.tuple #[.int .u64 0, .int .i64 1]) ∧ w = w' :=
    fun w => ph_any eg2 (by decide) 0 1 (Lib.hid (.inr ⟨fun h => absurd h.1 (by decide), rfl, rfl⟩)) w
  have d3 : ∀ w, Calls Tryd.prog 23 #[.string ⟨#[48, 48, 48, 48, 48, 48, 48, 48, 48, 48, 48, 48, 48, 48, 70, 70]⟩] w fun e w' => e = .returned (.tuple #[.int .u64 0, .int .i64 1]) ∧ w = w' :=
    fun w => ph_any eg3 (by decide) 0 1 (Lib.hid (.inr ⟨fun h => Bool.noConfusion (a3.symm.trans h.2), rfl, rfl⟩)) w
  have d4 : ∀ w, Calls Tryd.prog 12 #[.string ⟨#[]⟩] w fun e w' => e = .returned (.int .u64 14695981039346656037) ∧ w = w' :=
    fun w => sum_any ⟨#[]⟩ s0 (Lib.hid rfl) (by decide) w
  have d5 : ∀ w, Calls Tryd.prog 12 #[.string ⟨#[97]⟩] w fun e w' => e = .returned (.int .u64 12638187200555641996) ∧ w = w' :=
    fun w => sum_any ⟨#[97]⟩ 12638187200555641996 (Lib.hid q1.symm) (by decide) w
  have d6 : ∀ w, Dig w → Calls Tryd.prog 22 #[.int .u64 14695981039346656037] w fun e w' => e = .returned (.string ⟨#[99, 98, 102, 50, 57, 99, 101, 52, 56, 52, 50, 50, 50, 51, 50, 53]⟩) ∧ Below w.heap.size w w' :=
    fun w h => hex_any s0 s0_lt ⟨#[99, 98, 102, 50, 57, 99, 101, 52, 56, 52, 50, 50, 50, 51, 50, 53]⟩ (Lib.hid q2.symm) w h
  have d7 : ∀ w, Rnd w → Calls Tryd.prog 14 #[.int .u64 11400714819323198485] w fun e w' => e = .returned (.int .u64 16294208416658607535) ∧ ∃ d, w' = w.drewN d :=
    fun w h => mix_any 11400714819323198485 16294208416658607535 (by decide) (Lib.hid q3.symm) w h
  have d8 : ∀ w, Rnd w → Calls Tryd.prog 16 #[.int .u64 16294208416658607535] w fun e w' => e = .returned (.int .u64 11400714819323198485) ∧ ∃ d, w' = w.drewN d :=
    fun w h => unmix_any 16294208416658607535 11400714819323198485 (by decide) (Lib.hid q4.symm) w h
  go_enter Tryd.func11, Tryd.ntmps11
  go_wp2_with (first
    | (go_at_call 23; first
      | ((with_reducible refine (d1 _).mono ?_); rintro e w' ⟨rfl, rfl⟩)
      | ((with_reducible refine (d2 _).mono ?_); rintro e w' ⟨rfl, rfl⟩)
      | ((with_reducible refine (d3 _).mono ?_); rintro e w' ⟨rfl, rfl⟩))
    | (go_at_call 12; first
      | ((with_reducible refine (d4 _).mono ?_); rintro e w' ⟨rfl, rfl⟩)
      | ((with_reducible refine (d5 _).mono ?_); rintro e w' ⟨rfl, rfl⟩))
    | (go_at_call 22; (with_reducible refine (d6 _ K0.dig).mono ?_); rintro e w1 ⟨rfl, b1⟩; have K1 := K0.on b1; clear b1)
    | (go_at_call 14; (with_reducible refine (d7 _ K1.rnd).mono ?_); rintro e w2 ⟨rfl, b2⟩; have K2 := K1.drawn b2; clear b2)
    | (go_at_call 16; (with_reducible refine (d8 _ K2.rnd).mono ?_); rintro e w3 ⟨rfl, b3⟩; have K3 := K2.drawn b3; clear b3))
  go_ret
  exact ⟨rfl, K3⟩
end Go.Proofs.YthnbddacglfldaaDoor.dgW

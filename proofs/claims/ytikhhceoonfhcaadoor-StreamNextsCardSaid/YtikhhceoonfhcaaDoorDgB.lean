/-
  Contracts of digest's unshift, Mix, Unmix, Keyed, Chain: the table of rounds is read; answers are drawn, nothing else changes.
-/
import Derived.Test.YtikhhceoonfhcaaDoorDgA
namespace Go.Proofs.YtikhhceoonfhcaaDoor.dgB
open Go.RowKit
open Go.Proofs.YtikhhceoonfhcaaDoor.dgM Go.Proofs.YtikhhceoonfhcaaDoor.dgA
set_option linter.unusedVariables false

theorem quiet_l {P : Program} {f : FuncId} {args : Array Value} {w : World} {n : Nat} {v : Value}
    (h : ∀ w, Calls P f args w fun e w' => e = .returned v ∧ w = w') : Calls P f args (w.drewN n) fun e w'' => e = .returned v ∧ ∃ m, w'' = w.drewN m :=
  (h (w.drewN n)).mono fun _ _ ⟨he, hm⟩ => ⟨he, n, hm.symm⟩

/-! ### the table of rounds -/
def rnd : List Value := [.int .i64 30, .int .u64 13787848793156543929, .int .u64 10871156337175269513, .int .i64 27, .int .u64 10723151780598845931, .int .u64 3573116690164977347, .int .i64 31, .int .u64 1, .int .u64 1]
def Rnd (w : World) : Prop := w.var? Tryd.prog "lottery/digest.rounds" = some rnd.toArray
theorem gRnd : Tryd.prog.globalNamed "lottery/digest.rounds" = some 0 := by kernel_rfl
theorem rnd_cell {w : World} (h : Rnd w) (i : Nat) (hi : i < 9) : w.cell? ⟨0, i, none⟩ = rnd[i]? := by
  have := World.var?_cell gRnd h i
  rw [this]; simp
theorem rnd0 {w : World} (h : Rnd w) : w.cell? ⟨0, 0, none⟩ = some (.int .i64 30) := rnd_cell h 0 (by omega)
theorem rnd1 {w : World} (h : Rnd w) : w.cell? ⟨0, 1, none⟩ = some (.int .u64 13787848793156543929) := rnd_cell h 1 (by omega)
theorem rnd2 {w : World} (h : Rnd w) : w.cell? ⟨0, 2, none⟩ = some (.int .u64 10871156337175269513) := rnd_cell h 2 (by omega)
theorem rnd3 {w : World} (h : Rnd w) : w.cell? ⟨0, 3, none⟩ = some (.int .i64 27) := rnd_cell h 3 (by omega)
theorem rnd4 {w : World} (h : Rnd w) : w.cell? ⟨0, 4, none⟩ = some (.int .u64 10723151780598845931) := rnd_cell h 4 (by omega)
theorem rnd5 {w : World} (h : Rnd w) : w.cell? ⟨0, 5, none⟩ = some (.int .u64 3573116690164977347) := rnd_cell h 5 (by omega)
theorem rnd6 {w : World} (h : Rnd w) : w.cell? ⟨0, 6, none⟩ = some (.int .i64 31) := rnd_cell h 6 (by omega)
theorem rnd7 {w : World} (h : Rnd w) : w.cell? ⟨0, 7, none⟩ = some (.int .u64 1) := rnd_cell h 7 (by omega)
theorem rnd8 {w : World} (h : Rnd w) : w.cell? ⟨0, 8, none⟩ = some (.int .u64 1) := rnd_cell h 8 (by omega)
theorem rnd_drew {w : World} (h : Rnd w) (k : Nat) : Rnd (w.drewN k) := h
def Drawn (w wr : World) : Prop := ∃ j, wr = w.drewN j
theorem Drawn.refl (w : World) : Drawn w w := ⟨0, rfl⟩
theorem Drawn.more {w wr : World} (h : Drawn w wr) (k : Nat) : Drawn w (wr.drewN k) := by
  obtain ⟨j, rfl⟩ := h
  exact ⟨_, World.drewN_drewN _ _ _⟩
theorem Drawn.rnd {w wr : World} (h : Drawn w wr) (hR : Rnd w) : Rnd wr := by
  obtain ⟨j, rfl⟩ := h; exact hR

/-! ### unshift -/
/-! ### Mix -/
set_option maxHeartbeats 400000 in
theorem mix_any (x R : Nat) (hx : x < A64) (HR : Hid (R = mx x)) (w : World) (hT : Rnd w) :
    Calls Tryd.prog 24 #[.int .u64 (x : Int)] w fun e w' => e = .returned (.int .u64 (R : Int)) ∧ ∃ d, w' = w.drewN d := by
  have h1 := xs30 hx
  have b1 : xs 30 x < A64 := xs_lt hx
  have h2 := mu_m1 (xs 30 x)
  have b2 : mu m1 (xs 30 x) < A64 := mu_lt _ _
  have h3 := xs27 b2
  have h4 := mu_m2 (xs 27 (mu m1 (xs 30 x)))
  have b4 : mu m2 (xs 27 (mu m1 (xs 30 x))) < A64 := mu_lt _ _
  have h5 := xs31 b4
  have b5 := mx_lt hx
  have h6 : IntKind.u64.wrap ((mx x : Nat) : Int) = ((mx x : Nat) : Int) := u64_id b5
  unfold mx at HR h6
  generalize xs 31 (mu m2 (xs 27 (mu m1 (xs 30 x)))) = y5 at *
  generalize mu m2 (xs 27 (mu m1 (xs 30 x))) = y4 at *
  generalize xs 27 (mu m1 (xs 30 x)) = y3 at *
  generalize mu m1 (xs 30 x) = y2 at *
  generalize xs 30 x = y1 at *
  obtain rfl := HR.out
  clear hx b1 b2 b4 b5 HR
  go_enter Tryd.func24, Tryd.ntmps24
  go_wp2_with fail
  go_loopw [0, 3, 4] (fun s0 _ s4 wr => (s0 = .int .u64 (x : Int) ∧ s4 = .int .i64 0 ∨ s0 = .int .u64 (y2 : Int) ∧ s4 = .int .i64 1 ∨ s0 = .int .u64 (y4 : Int) ∧ s4 = .int .i64 2 ∨ s0 = .int .u64 (R : Int) ∧ s4 = .int .i64 3) ∧ Drawn w wr) (fun _ _ s4 _ => 200 - (intOf s4).toNat)
  case atStart => exact ⟨.inl ⟨rfl, rfl⟩, Drawn.refl w⟩
  case round =>
    obtain ⟨hr, hD⟩ := hrel
    have hT2 := hD.rnd hT
    rcases hr with ⟨rfl, rfl⟩ | ⟨rfl, rfl⟩ | ⟨rfl, rfl⟩ | ⟨rfl, rfl⟩
    · have k0 := rnd0 hT2
      have k1 := rnd1 hT2
      go_wp2_with fail
      go_quiet (fail)
      go_wp2_with fail
      go_roundw
      case rel => exact ⟨.inr (.inl ⟨rfl, rfl⟩), hD.more _⟩
      case measure => simp [intOf]
    · have k0 := rnd3 hT2
      have k1 := rnd4 hT2
      go_wp2_with fail
      go_quiet (fail)
      go_wp2_with fail
      go_roundw
      case rel => exact ⟨.inr (.inr (.inl ⟨rfl, rfl⟩)), hD.more _⟩
      case measure => simp [intOf]
    · have k0 := rnd6 hT2
      have k1 := rnd7 hT2
      go_wp2_with fail
      go_quiet (fail)
      go_wp2_with fail
      go_roundw
      case rel => exact ⟨.inr (.inr (.inr ⟨rfl, rfl⟩)), hD.more _⟩
      case measure => simp [intOf]
    · go_wp2_with fail
      go_ret
      exact ⟨rfl, hD⟩

/-! ### Unmix -/
/-! ### Keyed, Chain -/
def kd (key z : Nat) : Nat := mx (mx key ^^^ z)
def ch (prev z : Nat) : Nat := mx ((prev + z) % A64)
theorem kd_lt {k z : Nat} (hk : k < A64) (hz : z < A64) : kd k z < A64 := mx_lt (xor_lt (mx_lt hk) hz)
theorem ch_lt (k z : Nat) : ch k z < A64 := mx_lt (Nat.mod_lt _ (by decide))
theorem add_fact {a b : Nat} : IntKind.u64.wrap ((a : Int) + (b : Int)) = (((a + b) % A64 : Nat) : Int) := by
  rw [IntKind.wrap_u64, ← Int.natCast_add]
  exact (Int.natCast_emod (a + b) A64).symm
end Go.Proofs.YtikhhceoonfhcaaDoor.dgB

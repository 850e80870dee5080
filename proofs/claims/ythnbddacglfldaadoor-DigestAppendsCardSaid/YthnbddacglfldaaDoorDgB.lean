/-
  Contracts of digest's unshift, Mix, Unmix, Keyed, Chain: the table of rounds is read; answers are drawn, nothing else changes.
-/
import Derived.Test.YthnbddacglfldaaDoorDgA
namespace Go.Proofs.YthnbddacglfldaaDoor.dgB
open Go.RowKit
open Go.Proofs.YthnbddacglfldaaDoor.dgM Go.Proofs.YthnbddacglfldaaDoor.dgA
set_option linter.unusedVariables false

theorem quiet_l {P : Program} {f : FuncId} {args : Array Value} {w : World} {n : Nat} {v : Value}
    (h : ∀ w, Calls P f args w fun e w' => e = .returned v ∧ w = w') : Calls P f args (w.drewN n) fun e w'' => e = .returned v ∧ ∃ m, w'' = w.drewN m :=
  (h (w.drewN n)).mono fun _ _ ⟨he, hm⟩ => ⟨he, n, hm.symm⟩

/-! ### the table of rounds -/
def rnd : List Value := [.int .i64 30, .int .u64 13787848793156543929, .int .u64 10871156337175269513, .int .i64 27, .int .u64 10723151780598845931, .int .u64 3573116690164977347, .int .i64 31, .int .u64 1, .int .u64 1]
def Rnd (w : World) : Prop := w.var? Tryd.prog "lottery/digest.rounds" = some rnd.toArray
theorem gRnd : Tryd.prog.globalNamed "lottery/digest.rounds" = some 0 := by kernel_rfl
theorem rnd_cell {w : World} (h : Rnd w) (i : Nat) (hi : i < 9) : w.cell? ⟨0, i, none⟩ = rnd[i]? := by
  have := World.var?_cell gRnd h i
  rw [this]; simp
theorem rnd0 {w : World} (h : Rnd w) : w.cell? ⟨0, 0, none⟩ = some (.int .i64 30) := rnd_cell h 0 (by omega)
theorem rnd1 {w : World} (h : Rnd w) : w.cell? ⟨0, 1, none⟩ = some (.int .u64 13787848793156543929) := rnd_cell h 1 (by omega)
theorem rnd2 {w : World} (h : Rnd w) : w.cell? ⟨0, 2, none⟩ = some (.int .u64 10871156337175269513) := rnd_cell h 2 (by omega)
theorem rnd3 {w : World} (h : Rnd w) : w.cell? ⟨0, 3, none⟩ = some (.int .i64 27) := rnd_cell h 3 (by omega)
theorem rnd4 {w : World} (h : Rnd w) : w.cell? ⟨0, 4, none⟩ = some (.int .u64 10723151780598845931) := rnd_cell h 4 (by omega)
theorem rnd5 {w : World} (h : Rnd w) : w.cell? ⟨0, 5, none⟩ = some (.int .u64 3573116690164977347) := rnd_cell h 5 (by omega)
theorem rnd6 {w : World} (h : Rnd w) : w.cell? ⟨0, 6, none⟩ = some (.int .i64 31) := rnd_cell h 6 (by omega)
theorem rnd7 {w : World} (h : Rnd w) : w.cell? ⟨0, 7, none⟩ = some (.int .u64 1) := rnd_cell h 7 (by omega)
theorem rnd8 {w : World} (h : Rnd w) : w.cell? ⟨0, 8, none⟩ = some (.int .u64 1) := rnd_cell h 8 (by omega)
theorem rnd_drew {w : World} (h : Rnd w) (k : Nat) : Rnd (w.drewN k) := h
def Drawn (w wr : World) : Prop := ∃ j, wr = w.drewN j
theorem Drawn.refl (w : World) : Drawn w w := ⟨0, rfl⟩
theorem Drawn.more {w wr : World} (h : Drawn w wr) (k : Nat) : Drawn w (wr.drewN k) := by
  obtain ⟨j, rfl⟩ := h
  exact ⟨_, World.drewN_drewN _ _ _⟩
theorem Drawn.rnd {w wr : World} (h : Drawn w wr) (hR : Rnd w) : Rnd wr := by
  obtain ⟨j, rfl⟩ := h; exact hR

/-! ### unshift -/
theorem un30 (x R : Nat) (hx : x < A64) (HR : Hid (R = us 30 x)) (w : World) :
    Calls Tryd.prog 26 #[.int .u64 (x : Int), .int .i64 30] w fun e w' => e = .returned (.int .u64 (R : Int)) ∧ w = w' := by
  rw [← pu_us (by omega) hx] at HR
  have h1 := xs30 hx
  have b1 : xs 30 x < A64 := xs_lt hx
  have h2 := xs60 b1
  unfold pu at HR
  rw [show 2 * 30 = 60 by rfl] at HR
  generalize xs 60 (xs 30 x) = y2 at *
  generalize xs 30 x = y1 at *
  obtain rfl := HR.out
  clear hx b1 HR
  go_enter Tryd.func26, Tryd.ntmps26
  go_wp2_with fail
  go_loop [0, 1] (fun s0 s1 => s0 = .int .u64 (x : Int) ∧ s1 = .int .i64 30 ∨ s0 = .int .u64 (y1 : Int) ∧ s1 = .int .i64 60 ∨ s0 = .int .u64 (R : Int) ∧ s1 = .int .i64 120) (fun _ s1 => 200 - (intOf s1).toNat)
  case atStart => exact .inl ⟨rfl, rfl⟩
  case round =>
    rcases hrel with ⟨rfl, rfl⟩ | ⟨rfl, rfl⟩ | ⟨rfl, rfl⟩
    · go_wp2_with fail
      go_round
      case rel => exact .inr (.inl ⟨rfl, rfl⟩)
      case measure => simp [intOf]
    · go_wp2_with fail
      go_round
      case rel => exact .inr (.inr ⟨rfl, rfl⟩)
      case measure => simp [intOf]
    · go_wp2_with fail
      go_ret
      exact ⟨rfl, rfl⟩
theorem un27 (x R : Nat) (hx : x < A64) (HR : Hid (R = us 27 x)) (w : World) :
    Calls Tryd.prog 26 #[.int .u64 (x : Int), .int .i64 27] w fun e w' => e = .returned (.int .u64 (R : Int)) ∧ w = w' := by
  rw [← pu_us (by omega) hx] at HR
  have h1 := xs27 hx
  have b1 : xs 27 x < A64 := xs_lt hx
  have h2 := xs54 b1
  unfold pu at HR
  rw [show 2 * 27 = 54 by rfl] at HR
  generalize xs 54 (xs 27 x) = y2 at *
  generalize xs 27 x = y1 at *
  obtain rfl := HR.out
  clear hx b1 HR
  go_enter Tryd.func26, Tryd.ntmps26
  go_wp2_with fail
  go_loop [0, 1] (fun s0 s1 => s0 = .int .u64 (x : Int) ∧ s1 = .int .i64 27 ∨ s0 = .int .u64 (y1 : Int) ∧ s1 = .int .i64 54 ∨ s0 = .int .u64 (R : Int) ∧ s1 = .int .i64 108) (fun _ s1 => 200 - (intOf s1).toNat)
  case atStart => exact .inl ⟨rfl, rfl⟩
  case round =>
    rcases hrel with ⟨rfl, rfl⟩ | ⟨rfl, rfl⟩ | ⟨rfl, rfl⟩
    · go_wp2_with fail
      go_round
      case rel => exact .inr (.inl ⟨rfl, rfl⟩)
      case measure => simp [intOf]
    · go_wp2_with fail
      go_round
      case rel => exact .inr (.inr ⟨rfl, rfl⟩)
      case measure => simp [intOf]
    · go_wp2_with fail
      go_ret
      exact ⟨rfl, rfl⟩
theorem un31 (x R : Nat) (hx : x < A64) (HR : Hid (R = us 31 x)) (w : World) :
    Calls Tryd.prog 26 #[.int .u64 (x : Int), .int .i64 31] w fun e w' => e = .returned (.int .u64 (R : Int)) ∧ w = w' := by
  rw [← pu_us (by omega) hx] at HR
  have h1 := xs31 hx
  have b1 : xs 31 x < A64 := xs_lt hx
  have h2 := xs62 b1
  unfold pu at HR
  rw [show 2 * 31 = 62 by rfl] at HR
  generalize xs 62 (xs 31 x) = y2 at *
  generalize xs 31 x = y1 at *
  obtain rfl := HR.out
  clear hx b1 HR
  go_enter Tryd.func26, Tryd.ntmps26
  go_wp2_with fail
  go_loop [0, 1] (fun s0 s1 => s0 = .int .u64 (x : Int) ∧ s1 = .int .i64 31 ∨ s0 = .int .u64 (y1 : Int) ∧ s1 = .int .i64 62 ∨ s0 = .int .u64 (R : Int) ∧ s1 = .int .i64 124) (fun _ s1 => 200 - (intOf s1).toNat)
  case atStart => exact .inl ⟨rfl, rfl⟩
  case round =>
    rcases hrel with ⟨rfl, rfl⟩ | ⟨rfl, rfl⟩ | ⟨rfl, rfl⟩
    · go_wp2_with fail
      go_round
      case rel => exact .inr (.inl ⟨rfl, rfl⟩)
      case measure => simp [intOf]
    · go_wp2_with fail
      go_round
      case rel => exact .inr (.inr ⟨rfl, rfl⟩)
      case measure => simp [intOf]
    · go_wp2_with fail
      go_ret
      exact ⟨rfl, rfl⟩

/-! ### Mix -/
set_option maxHeartbeats 400000 in
theorem mix_any (x R : Nat) (hx : x < A64) (HR : Hid (R = mx x)) (w : World) (hT : Rnd w) :
    Calls Tryd.prog 14 #[.int .u64 (x : Int)] w fun e w' => e = .returned (.int .u64 (R : Int)) ∧ ∃ d, w' = w.drewN d := by
  have h1 := xs30 hx
  have b1 : xs 30 x < A64 := xs_lt hx
  have h2 := mu_m1 (xs 30 x)
  have b2 : mu m1 (xs 30 x) < A64 := mu_lt _ _
  have h3 := xs27 b2
  have h4 := mu_m2 (xs 27 (mu m1 (xs 30 x)))
  have b4 : mu m2 (xs 27 (mu m1 (xs 30 x))) < A64 := mu_lt _ _
  have h5 := xs31 b4
  have b5 := mx_lt hx
  have h6 : IntKind.u64.wrap ((mx x : Nat) : Int) = ((mx x : Nat) : Int) := u64_id b5
  unfold mx at HR h6
  generalize xs 31 (mu m2 (xs 27 (mu m1 (xs 30 x)))) = y5 at *
  generalize mu m2 (xs 27 (mu m1 (xs 30 x))) = y4 at *
  generalize xs 27 (mu m1 (xs 30 x)) = y3 at *
  generalize mu m1 (xs 30 x) = y2 at *
  generalize xs 30 x = y1 at *
  obtain rfl := HR.out
  clear hx b1 b2 b4 b5 HR
  go_enter Tryd.func14, Tryd.ntmps14
  go_wp2_with fail
  go_loopw [0, 3, 4] (fun s0 _ s4 wr => (s0 = .int .u64 (x : Int) ∧ s4 = .int .i64 0 ∨ s0 = .int .u64 (y2 : Int) ∧ s4 = .int .i64 1 ∨ s0 = .int .u64 (y4 : Int) ∧ s4 = .int .i64 2 ∨ s0 = .int .u64 (R : Int) ∧ s4 = .int .i64 3) ∧ Drawn w wr) (fun _ _ s4 _ => 200 - (intOf s4).toNat)
  case atStart => exact ⟨.inl ⟨rfl, rfl⟩, Drawn.refl w⟩
  case round =>
    obtain ⟨hr, hD⟩ := hrel
    have hT2 := hD.rnd hT
    rcases hr with ⟨rfl, rfl⟩ | ⟨rfl, rfl⟩ | ⟨rfl, rfl⟩ | ⟨rfl, rfl⟩
    · have k0 := rnd0 hT2
      have k1 := rnd1 hT2
      go_wp2_with fail
      go_quiet (fail)
      go_wp2_with fail
      go_roundw
      case rel => exact ⟨.inr (.inl ⟨rfl, rfl⟩), hD.more _⟩
      case measure => simp [intOf]
    · have k0 := rnd3 hT2
      have k1 := rnd4 hT2
      go_wp2_with fail
      go_quiet (fail)
      go_wp2_with fail
      go_roundw
      case rel => exact ⟨.inr (.inr (.inl ⟨rfl, rfl⟩)), hD.more _⟩
      case measure => simp [intOf]
    · have k0 := rnd6 hT2
      have k1 := rnd7 hT2
      go_wp2_with fail
      go_quiet (fail)
      go_wp2_with fail
      go_roundw
      case rel => exact ⟨.inr (.inr (.inr ⟨rfl, rfl⟩)), hD.more _⟩
      case measure => simp [intOf]
    · go_wp2_with fail
      go_ret
      exact ⟨rfl, hD⟩

/-! ### Unmix -/
set_option maxHeartbeats 400000 in
theorem unmix_any (x R : Nat) (hx : x < A64) (HR : Hid (R = ux x)) (w : World) (hT : Rnd w) :
    Calls Tryd.prog 16 #[.int .u64 (x : Int)] w fun e w' => e = .returned (.int .u64 (R : Int)) ∧ ∃ d, w' = w.drewN d := by
  have h0 : IntKind.u64.wrap (x : Int) = (x : Int) := u64_id hx
  have b1 : us 31 x < A64 := us_lt hx
  have u1 := fun w => un31 x (us 31 x) hx (Lib.hid rfl) w
  have h2 := mu_c2 (us 31 x)
  have b2 : mu (iv m2) (us 31 x) < A64 := mu_lt _ _
  have u2 := fun w => un27 (mu (iv m2) (us 31 x)) (us 27 (mu (iv m2) (us 31 x))) b2 (Lib.hid rfl) w
  have b3 : us 27 (mu (iv m2) (us 31 x)) < A64 := us_lt b2
  have h4 := mu_c1 (us 27 (mu (iv m2) (us 31 x)))
  have b4 : mu (iv m1) (us 27 (mu (iv m2) (us 31 x))) < A64 := mu_lt _ _
  have u3 := fun w => un30 (mu (iv m1) (us 27 (mu (iv m2) (us 31 x)))) R b4 HR w
  generalize mu (iv m1) (us 27 (mu (iv m2) (us 31 x))) = y4 at *
  generalize us 27 (mu (iv m2) (us 31 x)) = y3 at *
  generalize mu (iv m2) (us 31 x) = y2 at *
  generalize us 31 x = y1 at *
  clear hx b1 b2 b3 b4 HR
  go_enter Tryd.func16, Tryd.ntmps16
  go_wp2_with fail
  go_loopw [0, 3] (fun s0 s3 wr => (s0 = .int .u64 (x : Int) ∧ s3 = .int .i64 2 ∨ s0 = .int .u64 (y1 : Int) ∧ s3 = .int .i64 1 ∨ s0 = .int .u64 (y3 : Int) ∧ s3 = .int .i64 0 ∨ s0 = .int .u64 (R : Int) ∧ s3 = .int .i64 (-1)) ∧ Drawn w wr) (fun _ s3 _ => (intOf s3 + 1).toNat)
  case atStart => exact ⟨.inl ⟨rfl, rfl⟩, Drawn.refl w⟩
  case round =>
    obtain ⟨hr, hD⟩ := hrel
    have hT2 := hD.rnd hT
    rcases hr with ⟨rfl, rfl⟩ | ⟨rfl, rfl⟩ | ⟨rfl, rfl⟩ | ⟨rfl, rfl⟩
    · have k0 := rnd6 hT2
      have k1 := rnd8 hT2
      go_wp2_with fail
      go_quiet ((go_at_call 26; exact quiet_l u1))
      go_wp2_with fail
      go_roundw
      case rel => exact ⟨.inr (.inl ⟨rfl, rfl⟩), hD.more _⟩
      case measure => simp [intOf]
    · have k0 := rnd3 hT2
      have k1 := rnd5 hT2
      go_wp2_with fail
      go_quiet ((go_at_call 26; exact quiet_l u2))
      go_wp2_with fail
      go_roundw
      case rel => exact ⟨.inr (.inr (.inl ⟨rfl, rfl⟩)), hD.more _⟩
      case measure => simp [intOf]
    · have k0 := rnd0 hT2
      have k1 := rnd2 hT2
      go_wp2_with fail
      go_quiet ((go_at_call 26; exact quiet_l u3))
      go_wp2_with fail
      go_roundw
      case rel => exact ⟨.inr (.inr (.inr ⟨rfl, rfl⟩)), hD.more _⟩
      case measure => simp [intOf]
    · go_wp2_with fail
      go_ret
      exact ⟨rfl, hD⟩

/-! ### Keyed, Chain -/
def kd (key z : Nat) : Nat := mx (mx key ^^^ z)
def ch (prev z : Nat) : Nat := mx ((prev + z) % A64)
theorem kd_lt {k z : Nat} (hk : k < A64) (hz : z < A64) : kd k z < A64 := mx_lt (xor_lt (mx_lt hk) hz)
theorem ch_lt (k z : Nat) : ch k z < A64 := mx_lt (Nat.mod_lt _ (by decide))
theorem add_fact {a b : Nat} : IntKind.u64.wrap ((a : Int) + (b : Int)) = (((a + b) % A64 : Nat) : Int) := by
  rw [IntKind.wrap_u64, ← Int.natCast_add]
  exact (Int.natCast_emod (a + b) A64).symm
theorem keyed_any (x z R : Nat) (hx : x < A64) (s : ByteArray) (hz : Hid (z = sm s0 s.data.toList)) (HR : Hid (R = kd x z)) (hs : s.size ≤ 281474976710656) (w : World) (hT : Rnd w) :
    Calls Tryd.prog 18 #[.int .u64 (x : Int), .string s] w fun e w' => e = .returned (.int .u64 (R : Int)) ∧ ∃ d, w' = w.drewN d := by
  have bz : z < A64 := by rw [hz.out]; exact sm_lt s0_lt _
  have b1 := mx_lt hx
  have c1 := fun w => mix_any x (mx x) hx (Lib.hid rfl) w
  have c2 := fun w => sum_any s z hz hs w
  have b3 : mx x ^^^ z < A64 := xor_lt b1 bz
  have c3 := fun w => mix_any (mx x ^^^ z) R b3 HR w
  have x1 := xor_fact b1 bz
  generalize mx x ^^^ z = y2 at *
  generalize mx x = y1 at *
  clear hx bz b1 b3 HR hz
  go_enter Tryd.func18, Tryd.ntmps18
  go_wp2_with (first
    | (go_at_call 14; first
      | ((with_reducible refine (c1 _ hT).mono ?_); rintro e w' ⟨rfl, d, rfl⟩)
      | ((with_reducible refine (c3 _ (rnd_drew hT _)).mono ?_); rintro e w' ⟨rfl, d, rfl⟩))
    | (go_at_call 12; (with_reducible refine (c2 _).mono ?_); rintro e w' ⟨rfl, rfl⟩))
  go_ret
  exact ⟨rfl, _, rfl⟩
theorem chain_any (x z R : Nat) (hx : x < A64) (s : ByteArray) (hz : Hid (z = sm s0 s.data.toList)) (HR : Hid (R = ch x z)) (hs : s.size ≤ 281474976710656) (w : World) (hT : Rnd w) :
    Calls Tryd.prog 20 #[.int .u64 (x : Int), .string s] w fun e w' => e = .returned (.int .u64 (R : Int)) ∧ ∃ d, w' = w.drewN d := by
  have c2 := fun w => sum_any s z hz hs w
  have b3 : (x + z) % A64 < A64 := Nat.mod_lt _ (by decide)
  have c3 := fun w => mix_any ((x + z) % A64) R b3 HR w
  have x1 := add_fact (a := x) (b := z)
  generalize (x + z) % A64 = y2 at *
  clear hx b3 HR hz
  go_enter Tryd.func20, Tryd.ntmps20
  go_wp2_with (first
    | (go_at_call 14; (with_reducible refine (c3 _ hT).mono ?_); rintro e w' ⟨rfl, d, rfl⟩)
    | (go_at_call 12; (with_reducible refine (c2 _).mono ?_); rintro e w' ⟨rfl, rfl⟩))
  go_ret
  exact ⟨rfl, d, rfl⟩
end Go.Proofs.YthnbddacglfldaaDoor.dgB

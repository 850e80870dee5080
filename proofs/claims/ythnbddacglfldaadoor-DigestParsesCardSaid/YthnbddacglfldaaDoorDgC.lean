/-
  Contracts of the reference's unshift, inverse, Unmix, Keyed, Chain; the world is as it was.
-/
import Derived.Test.YthnbddacglfldaaDoorDgB
namespace Go.Proofs.YthnbddacglfldaaDoor.dgC
open Go.RowKit
open Go.Proofs.YthnbddacglfldaaDoor.dgM Go.Proofs.YthnbddacglfldaaDoor.dgA Go.Proofs.YthnbddacglfldaaDoor.dgB
set_option linter.unusedVariables false

theorem st_fact (k p y x : Nat) (h : p = 2 ^ k) (hy : y < A64) (hx : x < A64) : bits .xor .u64 (y : Int) ((x : Int) / (p : Int)) = ((st k y x : Nat) : Int) := by
  rw [shr_fact k p x h]; exact xor_fact hy (shr_lt k hx)

theorem stf30 {y x : Nat} (hy : y < A64) (hx : x < A64) : bits .xor .u64 (y : Int) ((x : Int) / 1073741824) = ((st 30 y x : Nat) : Int) := st_fact 30 1073741824 y x (by decide) hy hx
theorem run30 (x R : Nat) (hx : x < A64) (HR : Hid (R = us 30 x)) (w : World) :
    Calls Tryd.prog 27 #[.int .u64 (x : Int), .int .u64 30] w fun e w' => e = .returned (.int .u64 (R : Int)) ∧ w = w' := by
  have h1 := stf30 hx hx
  have b1 : st 30 x x < A64 := st_lt hx hx
  have h2 := stf30 hx b1
  have b2 : st 30 x (st 30 x x) < A64 := st_lt hx b1
  have h3 := stf30 hx b2
  have b3 : st 30 x (st 30 x (st 30 x x)) < A64 := st_lt hx b2
  have h4 := stf30 hx b3
  unfold us at HR
  generalize st 30 x (st 30 x (st 30 x (st 30 x x))) = y4 at *
  generalize st 30 x (st 30 x (st 30 x x)) = y3 at *
  generalize st 30 x (st 30 x x) = y2 at *
  generalize st 30 x x = y1 at *
  obtain rfl := HR.out
  clear hx b1 b2 b3 HR
  go_enter Tryd.func27, Tryd.ntmps27
  go_wp2_with fail
  go_loop [5, 6] (fun s5 s6 => s5 = .int .u64 (x : Int) ∧ s6 = .int .i64 0 ∨ s5 = .int .u64 (y1 : Int) ∧ s6 = .int .i64 1 ∨ s5 = .int .u64 (y2 : Int) ∧ s6 = .int .i64 2 ∨ s5 = .int .u64 (y3 : Int) ∧ s6 = .int .i64 3 ∨ s5 = .int .u64 (R : Int) ∧ s6 = .int .i64 4) (fun _ s6 => 200 - (intOf s6).toNat)
  case atStart => exact .inl ⟨rfl, rfl⟩
  case round =>
    rcases hrel with ⟨rfl, rfl⟩ | ⟨rfl, rfl⟩ | ⟨rfl, rfl⟩ | ⟨rfl, rfl⟩ | ⟨rfl, rfl⟩
    · go_wp2_with fail
      go_round
      case rel => exact .inr (.inl ⟨rfl, rfl⟩)
      case measure => simp [intOf]
    · go_wp2_with fail
      go_round
      case rel => exact .inr (.inr (.inl ⟨rfl, rfl⟩))
      case measure => simp [intOf]
    · go_wp2_with fail
      go_round
      case rel => exact .inr (.inr (.inr (.inl ⟨rfl, rfl⟩)))
      case measure => simp [intOf]
    · go_wp2_with fail
      go_round
      case rel => exact .inr (.inr (.inr (.inr ⟨rfl, rfl⟩)))
      case measure => simp [intOf]
    · go_wp2_with fail
      go_ret
      exact ⟨rfl, rfl⟩

theorem stf27 {y x : Nat} (hy : y < A64) (hx : x < A64) : bits .xor .u64 (y : Int) ((x : Int) / 134217728) = ((st 27 y x : Nat) : Int) := st_fact 27 134217728 y x (by decide) hy hx
theorem run27 (x R : Nat) (hx : x < A64) (HR : Hid (R = us 27 x)) (w : World) :
    Calls Tryd.prog 27 #[.int .u64 (x : Int), .int .u64 27] w fun e w' => e = .returned (.int .u64 (R : Int)) ∧ w = w' := by
  have h1 := stf27 hx hx
  have b1 : st 27 x x < A64 := st_lt hx hx
  have h2 := stf27 hx b1
  have b2 : st 27 x (st 27 x x) < A64 := st_lt hx b1
  have h3 := stf27 hx b2
  have b3 : st 27 x (st 27 x (st 27 x x)) < A64 := st_lt hx b2
  have h4 := stf27 hx b3
  unfold us at HR
  generalize st 27 x (st 27 x (st 27 x (st 27 x x))) = y4 at *
  generalize st 27 x (st 27 x (st 27 x x)) = y3 at *
  generalize st 27 x (st 27 x x) = y2 at *
  generalize st 27 x x = y1 at *
  obtain rfl := HR.out
  clear hx b1 b2 b3 HR
  go_enter Tryd.func27, Tryd.ntmps27
  go_wp2_with fail
  go_loop [5, 6] (fun s5 s6 => s5 = .int .u64 (x : Int) ∧ s6 = .int .i64 0 ∨ s5 = .int .u64 (y1 : Int) ∧ s6 = .int .i64 1 ∨ s5 = .int .u64 (y2 : Int) ∧ s6 = .int .i64 2 ∨ s5 = .int .u64 (y3 : Int) ∧ s6 = .int .i64 3 ∨ s5 = .int .u64 (R : Int) ∧ s6 = .int .i64 4) (fun _ s6 => 200 - (intOf s6).toNat)
  case atStart => exact .inl ⟨rfl, rfl⟩
  case round =>
    rcases hrel with ⟨rfl, rfl⟩ | ⟨rfl, rfl⟩ | ⟨rfl, rfl⟩ | ⟨rfl, rfl⟩ | ⟨rfl, rfl⟩
    · go_wp2_with fail
      go_round
      case rel => exact .inr (.inl ⟨rfl, rfl⟩)
      case measure => simp [intOf]
    · go_wp2_with fail
      go_round
      case rel => exact .inr (.inr (.inl ⟨rfl, rfl⟩))
      case measure => simp [intOf]
    · go_wp2_with fail
      go_round
      case rel => exact .inr (.inr (.inr (.inl ⟨rfl, rfl⟩)))
      case measure => simp [intOf]
    · go_wp2_with fail
      go_round
      case rel => exact .inr (.inr (.inr (.inr ⟨rfl, rfl⟩)))
      case measure => simp [intOf]
    · go_wp2_with fail
      go_ret
      exact ⟨rfl, rfl⟩

theorem stf31 {y x : Nat} (hy : y < A64) (hx : x < A64) : bits .xor .u64 (y : Int) ((x : Int) / 2147483648) = ((st 31 y x : Nat) : Int) := st_fact 31 2147483648 y x (by decide) hy hx
theorem run31 (x R : Nat) (hx : x < A64) (HR : Hid (R = us 31 x)) (w : World) :
    Calls Tryd.prog 27 #[.int .u64 (x : Int), .int .u64 31] w fun e w' => e = .returned (.int .u64 (R : Int)) ∧ w = w' := by
  have h1 := stf31 hx hx
  have b1 : st 31 x x < A64 := st_lt hx hx
  have h2 := stf31 hx b1
  have b2 : st 31 x (st 31 x x) < A64 := st_lt hx b1
  have h3 := stf31 hx b2
  have b3 : st 31 x (st 31 x (st 31 x x)) < A64 := st_lt hx b2
  have h4 := stf31 hx b3
  unfold us at HR
  generalize st 31 x (st 31 x (st 31 x (st 31 x x))) = y4 at *
  generalize st 31 x (st 31 x (st 31 x x)) = y3 at *
  generalize st 31 x (st 31 x x) = y2 at *
  generalize st 31 x x = y1 at *
  obtain rfl := HR.out
  clear hx b1 b2 b3 HR
  go_enter Tryd.func27, Tryd.ntmps27
  go_wp2_with fail
  go_loop [5, 6] (fun s5 s6 => s5 = .int .u64 (x : Int) ∧ s6 = .int .i64 0 ∨ s5 = .int .u64 (y1 : Int) ∧ s6 = .int .i64 1 ∨ s5 = .int .u64 (y2 : Int) ∧ s6 = .int .i64 2 ∨ s5 = .int .u64 (y3 : Int) ∧ s6 = .int .i64 3 ∨ s5 = .int .u64 (R : Int) ∧ s6 = .int .i64 4) (fun _ s6 => 200 - (intOf s6).toNat)
  case atStart => exact .inl ⟨rfl, rfl⟩
  case round =>
    rcases hrel with ⟨rfl, rfl⟩ | ⟨rfl, rfl⟩ | ⟨rfl, rfl⟩ | ⟨rfl, rfl⟩ | ⟨rfl, rfl⟩
    · go_wp2_with fail
      go_round
      case rel => exact .inr (.inl ⟨rfl, rfl⟩)
      case measure => simp [intOf]
    · go_wp2_with fail
      go_round
      case rel => exact .inr (.inr (.inl ⟨rfl, rfl⟩))
      case measure => simp [intOf]
    · go_wp2_with fail
      go_round
      case rel => exact .inr (.inr (.inr (.inl ⟨rfl, rfl⟩)))
      case measure => simp [intOf]
    · go_wp2_with fail
      go_round
      case rel => exact .inr (.inr (.inr (.inr ⟨rfl, rfl⟩)))
      case measure => simp [intOf]
    · go_wp2_with fail
      go_ret
      exact ⟨rfl, rfl⟩

/-! ### the inverse of a factor -/
def ni (m : Nat) : Nat → Nat
  | 0 => m
  | k + 1 => nt m (ni m k)
theorem ni_six (m : Nat) : ni m 6 = iv m := by simp only [ni, iv]
theorem nt_lt (m x : Nat) : nt m x < A64 := Nat.mod_lt _ (by decide)
theorem sub_fact {p : Nat} (hp : p < A64) : IntKind.u64.wrap (2 - (p : Int)) = (((2 + (A64 - p)) % A64 : Nat) : Int) := by
  rw [IntKind.wrap_u64]
  show (2 - (p : Int)) % 18446744073709551616 = (((2 + (18446744073709551616 - p)) % 18446744073709551616 : Nat) : Int)
  have hp' : p < 18446744073709551616 := hp
  omega
set_option maxHeartbeats 400000 in
theorem inv_any (m R : Nat) (hm : m < A64) (HR : Hid (R = iv m)) (w : World) :
    Calls Tryd.prog 28 #[.int .u64 (m : Int)] w fun e w' => e = .returned (.int .u64 (R : Int)) ∧ w = w' := by
  go_enter Tryd.func28, Tryd.ntmps28
  go_wp2_with fail
  go_loop [3, 4] (fun s3 s4 => ∃ k v : Nat, k ≤ 6 ∧ s4 = .int .i64 (k : Int) ∧ s3 = .int .u64 (v : Int) ∧ Hid (v = ni m k)) (fun _ s4 => 6 - (intOf s4).toNat)
  case atStart => exact ⟨0, m, by omega, rfl, rfl, Lib.hid rfl⟩
  case round =>
    obtain ⟨k, v, hk, rfl, rfl, HV⟩ := hrel
    by_cases hlt : k < 6
    · have h1 : IntKind.u64.wrap ((m : Int) * (v : Int)) = ((m * v % A64 : Nat) : Int) := mul_fact
      have h2 := sub_fact (p := m * v % A64) (Nat.mod_lt _ (by decide))
      have h3 : IntKind.u64.wrap ((v : Int) * (((2 + (A64 - m * v % A64)) % A64 : Nat) : Int)) = ((v * ((2 + (A64 - m * v % A64)) % A64) % A64 : Nat) : Int) := mul_fact
      have HV2 : Hid (v * ((2 + (A64 - m * v % A64)) % A64) % A64 = ni m (k + 1)) := Lib.hid (by rw [ni, ← HV.out, nt])
      clear HV
      generalize v * ((2 + (A64 - m * v % A64)) % A64) % A64 = y3 at *
      generalize (2 + (A64 - m * v % A64)) % A64 = y2 at *
      generalize m * v % A64 = y1 at *
      go_wp2_with fail
      go_round
      case rel => exact ⟨k + 1, y3, by omega, by go_num, rfl, HV2⟩
      case measure => simp [intOf]; omega
    · obtain rfl : k = 6 := by omega
      obtain rfl : v = R := by rw [HR.out, HV.out, ni_six]
      go_wp2_with fail
      go_ret
      exact ⟨rfl, rfl⟩

/-! ### Unmix, Keyed, Chain -/
theorem runmix_any (x R : Nat) (hx : x < A64) (HR : Hid (R = ux x)) (w : World) :
    Calls Tryd.prog 17 #[.int .u64 (x : Int)] w fun e w' => e = .returned (.int .u64 (R : Int)) ∧ w = w' := by
  have b1 : us 31 x < A64 := us_lt hx
  have u1 := fun w => run31 x (us 31 x) hx (Lib.hid rfl) w
  have i1 := fun w => inv_any m1 (iv m1) (by decide) (Lib.hid rfl) w
  have i2 := fun w => inv_any m2 (iv m2) (by decide) (Lib.hid rfl) w
  have h2 : IntKind.u64.wrap (((us 31 x : Nat) : Int) * ((iv m2 : Nat) : Int)) = ((mu (iv m2) (us 31 x) : Nat) : Int) := mul_fact
  have b2 : mu (iv m2) (us 31 x) < A64 := mu_lt _ _
  have u2 := fun w => run27 (mu (iv m2) (us 31 x)) (us 27 (mu (iv m2) (us 31 x))) b2 (Lib.hid rfl) w
  have b3 : us 27 (mu (iv m2) (us 31 x)) < A64 := us_lt b2
  have h4 : IntKind.u64.wrap (((us 27 (mu (iv m2) (us 31 x)) : Nat) : Int) * ((iv m1 : Nat) : Int)) = ((mu (iv m1) (us 27 (mu (iv m2) (us 31 x))) : Nat) : Int) := mul_fact
  have b4 : mu (iv m1) (us 27 (mu (iv m2) (us 31 x))) < A64 := mu_lt _ _
  have u3 := fun w => run30 (mu (iv m1) (us 27 (mu (iv m2) (us 31 x)))) R b4 HR w
  have i1' : ∀ w, Calls Tryd.prog 28 #[.int .u64 13787848793156543929] w fun e w' => e = .returned (.int .u64 ((iv m1 : Nat) : Int)) ∧ w = w' := i1
  have i2' : ∀ w, Calls Tryd.prog 28 #[.int .u64 10723151780598845931] w fun e w' => e = .returned (.int .u64 ((iv m2 : Nat) : Int)) ∧ w = w' := i2
  clear i1 i2
  generalize mu (iv m1) (us 27 (mu (iv m2) (us 31 x))) = y4 at *
  generalize us 27 (mu (iv m2) (us 31 x)) = y3 at *
  generalize mu (iv m2) (us 31 x) = y2 at *
  generalize us 31 x = y1 at *
  generalize iv m1 = j1 at *
  generalize iv m2 = j2 at *
  clear hx b1 b2 b3 b4 HR
  go_enter Tryd.func17, Tryd.ntmps17
  go_wp2_with (first
    | (go_at_call 27; first
      | ((with_reducible refine (u1 _).mono ?_); rintro e w' ⟨rfl, rfl⟩)
      | ((with_reducible refine (u2 _).mono ?_); rintro e w' ⟨rfl, rfl⟩)
      | ((with_reducible refine (u3 _).mono ?_); rintro e w' ⟨rfl, rfl⟩))
    | (go_at_call 28; first
      | ((with_reducible refine (i1' _).mono ?_); rintro e w' ⟨rfl, rfl⟩)
      | ((with_reducible refine (i2' _).mono ?_); rintro e w' ⟨rfl, rfl⟩)))
  go_ret
  exact ⟨rfl, rfl⟩
theorem rkeyed_any (x z R : Nat) (hx : x < A64) (s : ByteArray) (hz : Hid (z = sm s0 s.data.toList)) (HR : Hid (R = kd x z)) (hs : s.size ≤ 281474976710656) (w : World) :
    Calls Tryd.prog 19 #[.int .u64 (x : Int), .string s] w fun e w' => e = .returned (.int .u64 (R : Int)) ∧ w = w' := by
  have bz : z < A64 := by rw [hz.out]; exact sm_lt s0_lt _
  have b1 := mx_lt hx
  have c1 := fun w => rmix_any x (mx x) hx (Lib.hid rfl) w
  have c2 := fun w => rsum_any s z hz hs w
  have b3 : mx x ^^^ z < A64 := xor_lt b1 bz
  have c3 := fun w => rmix_any (mx x ^^^ z) R b3 HR w
  have x1 := xor_fact b1 bz
  generalize mx x ^^^ z = y2 at *
  generalize mx x = y1 at *
  clear hx bz b1 b3 HR hz
  go_enter Tryd.func19, Tryd.ntmps19
  go_wp2_with (first
    | (go_at_call 15; first
      | ((with_reducible refine (c1 _).mono ?_); rintro e w' ⟨rfl, rfl⟩)
      | ((with_reducible refine (c3 _).mono ?_); rintro e w' ⟨rfl, rfl⟩))
    | (go_at_call 13; (with_reducible refine (c2 _).mono ?_); rintro e w' ⟨rfl, rfl⟩))
  go_ret
  exact ⟨rfl, rfl⟩
theorem rchain_any (x z R : Nat) (hx : x < A64) (s : ByteArray) (hz : Hid (z = sm s0 s.data.toList)) (HR : Hid (R = ch x z)) (hs : s.size ≤ 281474976710656) (w : World) :
    Calls Tryd.prog 21 #[.int .u64 (x : Int), .string s] w fun e w' => e = .returned (.int .u64 (R : Int)) ∧ w = w' := by
  have c2 := fun w => rsum_any s z hz hs w
  have b3 : (x + z) % A64 < A64 := Nat.mod_lt _ (by decide)
  have c3 := fun w => rmix_any ((x + z) % A64) R b3 HR w
  have x1 := add_fact (a := x) (b := z)
  generalize (x + z) % A64 = y2 at *
  clear hx b3 HR hz
  go_enter Tryd.func21, Tryd.ntmps21
  go_wp2_with (first
    | (go_at_call 15; (with_reducible refine (c3 _).mono ?_); rintro e w' ⟨rfl, rfl⟩)
    | (go_at_call 13; (with_reducible refine (c2 _).mono ?_); rintro e w' ⟨rfl, rfl⟩))
  go_ret
  exact ⟨rfl, rfl⟩
end Go.Proofs.YthnbddacglfldaaDoor.dgC

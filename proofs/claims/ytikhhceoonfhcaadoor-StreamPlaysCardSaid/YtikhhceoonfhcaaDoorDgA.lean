/-
  Contracts of digest.Sum and of the reference's Sum: the FNV-1a digest of a text's bytes; the world is as it was.
-/
import Derived.Test.YtikhhceoonfhcaaDoorChecked
import Derived.Test.YtikhhceoonfhcaaDoorDgMath
import Derived.WalkKit
import Derived.IntWalk
import Derived.WalkLawsBesides
import Derived.Laws.Bits64
import Derived.Lib.Hide
import Derived.Lib.LaidTab
import Derived.WalkSmall
import Derived.WalkSpells
import Derived.Deep.QuietTactic
import Derived.BigQuiet
namespace Go.Proofs.YtikhhceoonfhcaaDoor.dgA
open Go.RowKit
open Go.Proofs.YtikhhceoonfhcaaDoor.dgM
set_option linter.unusedVariables false

theorem xor_fact {a b : Nat} (ha : a < A64) (hb : b < A64) : bits .xor .u64 (a : Int) (b : Int) = ((a ^^^ b : Nat) : Int) := bits_xor_u64_nat a b ha hb
theorem mul_fact {a m : Nat} : IntKind.u64.wrap ((a : Int) * (m : Int)) = ((a * m % A64 : Nat) : Int) := by
  rw [IntKind.wrap_u64, ← Int.natCast_mul]
  exact (Int.natCast_emod (a * m) A64).symm
theorem u64_id {a : Nat} (h : a < A64) : IntKind.u64.wrap (a : Int) = (a : Int) := by
  rw [IntKind.wrap_u64]
  have h' : a < 18446744073709551616 := h
  omega
theorem sm_take (s : ByteArray) (k : Nat) (h : k < s.size) : sm s0 (s.data.toList.take (k + 1)) = fs (sm s0 (s.data.toList.take k)) s[k] := by
  rw [List.take_add_one]
  have e : s.data.toList[k]? = some s[k] := by
    rw [Array.getElem?_toList]
    exact Array.getElem?_eq_getElem h
  rw [e]
  exact sm_snoc _ _ _
theorem take_all (s : ByteArray) : s.data.toList.take s.size = s.data.toList := List.take_of_length_le (by show s.data.toList.length ≤ s.data.size; simp)
theorem s0_lt : s0 < A64 := by decide
theorem u8_lt (c : UInt8) : c.toNat < A64 := Nat.lt_of_lt_of_le c.toNat_lt (by decide)

theorem shr_fact (k p x : Nat) (h : p = 2 ^ k) : (x : Int) / (p : Int) = ((x >>> k : Nat) : Int) := by
  rw [Nat.shiftRight_eq_div_pow, ← h]; rfl
theorem xs_fact (k p x : Nat) (h : p = 2 ^ k) (hx : x < A64) : bits .xor .u64 (x : Int) ((x : Int) / (p : Int)) = ((xs k x : Nat) : Int) := by
  rw [shr_fact k p x h]; exact xor_fact hx (shr_lt k hx)
theorem xs30 {x : Nat} (hx : x < A64) : bits .xor .u64 (x : Int) ((x : Int) / 1073741824) = ((xs 30 x : Nat) : Int) := xs_fact 30 1073741824 x (by decide) hx
theorem xs27 {x : Nat} (hx : x < A64) : bits .xor .u64 (x : Int) ((x : Int) / 134217728) = ((xs 27 x : Nat) : Int) := xs_fact 27 134217728 x (by decide) hx
theorem xs31 {x : Nat} (hx : x < A64) : bits .xor .u64 (x : Int) ((x : Int) / 2147483648) = ((xs 31 x : Nat) : Int) := xs_fact 31 2147483648 x (by decide) hx
theorem xs60 {x : Nat} (hx : x < A64) : bits .xor .u64 (x : Int) ((x : Int) / 1152921504606846976) = ((xs 60 x : Nat) : Int) := xs_fact 60 1152921504606846976 x (by decide) hx
theorem xs54 {x : Nat} (hx : x < A64) : bits .xor .u64 (x : Int) ((x : Int) / 18014398509481984) = ((xs 54 x : Nat) : Int) := xs_fact 54 18014398509481984 x (by decide) hx
theorem xs62 {x : Nat} (hx : x < A64) : bits .xor .u64 (x : Int) ((x : Int) / 4611686018427387904) = ((xs 62 x : Nat) : Int) := xs_fact 62 4611686018427387904 x (by decide) hx
theorem mu_m1 (x : Nat) : IntKind.u64.wrap ((x : Int) * 13787848793156543929) = ((mu m1 x : Nat) : Int) := mul_fact
theorem mu_m2 (x : Nat) : IntKind.u64.wrap ((x : Int) * 10723151780598845931) = ((mu m2 x : Nat) : Int) := mul_fact
theorem mu_c1 (x : Nat) : IntKind.u64.wrap ((x : Int) * 10871156337175269513) = ((mu (iv m1) x : Nat) : Int) := by rw [c1]; exact mul_fact
theorem mu_c2 (x : Nat) : IntKind.u64.wrap ((x : Int) * 3573116690164977347) = ((mu (iv m2) x : Nat) : Int) := by rw [c2]; exact mul_fact

/-! ### the reference's Mix -/
theorem rmix_any (x R : Nat) (hx : x < A64) (HR : Hid (R = mx x)) (w : World) :
    Calls Tryd.prog 25 #[.int .u64 (x : Int)] w fun e w' => e = .returned (.int .u64 (R : Int)) ∧ w = w' := by
  have h1 := xs30 hx
  have b1 : xs 30 x < A64 := xs_lt hx
  have h2 := mu_m1 (xs 30 x)
  have b2 : mu m1 (xs 30 x) < A64 := mu_lt _ _
  have h3 := xs27 b2
  have h4 := mu_m2 (xs 27 (mu m1 (xs 30 x)))
  have b4 : mu m2 (xs 27 (mu m1 (xs 30 x))) < A64 := mu_lt _ _
  have h5 := xs31 b4
  unfold mx at HR
  generalize xs 31 (mu m2 (xs 27 (mu m1 (xs 30 x)))) = y5 at *
  generalize mu m2 (xs 27 (mu m1 (xs 30 x))) = y4 at *
  generalize xs 27 (mu m1 (xs 30 x)) = y3 at *
  generalize mu m1 (xs 30 x) = y2 at *
  generalize xs 30 x = y1 at *
  obtain rfl := HR.out
  go_enter Tryd.func25, Tryd.ntmps25
  go_wp2_with fail
  go_ret
  exact ⟨rfl, rfl⟩
end Go.Proofs.YtikhhceoonfhcaaDoor.dgA

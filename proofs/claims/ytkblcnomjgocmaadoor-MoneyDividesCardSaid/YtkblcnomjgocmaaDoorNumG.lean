/-
  Contracts of num.Format and of the reference's Format: the decimal number; new memory alone.
-/
import Derived.Test.YtkblcnomjgocmaaDoorNumP
import Derived.Laws.IdiomStrings
import Derived.OwnWalk
import Derived.WalkSmall
namespace Go.Proofs.YtkblcnomjgocmaaDoor.numG
open Go.RowKit
open Go.Proofs.YtkblcnomjgocmaaDoor.numM Go.Proofs.YtkblcnomjgocmaaDoor.numA Go.Proofs.YtkblcnomjgocmaaDoor.numB Go.Proofs.YtkblcnomjgocmaaDoor.numD Go.Proofs.YtkblcnomjgocmaaDoor.numT Go.Proofs.YtkblcnomjgocmaaDoor.numS
set_option linter.unusedVariables false

theorem below_grow (w : World) (k : Nat) (os : Array Obj) : Below w.heap.size w (Sort.grow (w.drewN k) os) :=
  ⟨rfl, rfl, rfl, by simp [Sort.grow], fun j hj => by simp [Sort.grow, Array.getElem?_append, hj]⟩

set_option maxHeartbeats 400000 in
theorem format_any (n : Int) (X : ByteArray) (hX : Hid (X = ⟨(Lib.itoa n).toArray⟩)) (n0 : -9223372036854775808 ≤ n) (n1 : n ≤ 9223372036854775807) (w : World) (htab : Lib.TabIs Tryd.prog w "internal/strconv.uint64pow10" .u64 Lib.pow10Tab) :
    Calls Tryd.prog 45 #[.int .i64 n] w fun e w' => e = .returned (.string X) ∧ Below w.heap.size w w' := by
  have ca := Tryd.strconv_Itoa n n0 n1 w htab
  rw [← hX.out] at ca
  clear htab
  go_enter Tryd.func45, Tryd.ntmps45
  go_wp2_with (go_at_call 53; refine ca.mono ?_; rintro e w' ⟨rfl, k, os, hw⟩; have HW := Lib.hid hw; clear hw)
  go_ret
  refine ⟨rfl, ?_⟩
  rw [HW.out]; exact below_grow w k os

/-- one byte made into a string -/
theorem conv1 (W : World) (d : Nat) (hd : d < 10) (c : UInt8) (hc : c = UInt8.ofNat (48 + d)) :
    (convert 50 9 (.slice (some ⟨W.heap.size, 0, none⟩) 1 1)).run Tryd.prog (W.alloc (.cells #[.int .u8 (48 + (d : Int))] 5)) = .ok (.string ⟨#[c]⟩) (W.alloc (.cells #[.int .u8 (48 + (d : Int))] 5)) := by
  subst hc
  have := run_convert_bytes_back (P := Tryd.prog) (W.alloc (.cells #[.int .u8 (48 + (d : Int))] 5)) 50 9 5 ⟨W.heap.size, 0, none⟩ 1 [UInt8.ofNat (48 + d)] Tryd.underlying50 Tryd.underlying5 Tryd.underlying9 (fun j hj => by
    obtain rfl : j = 0 := by simp at hj; omega
    have e : (((UInt8.ofNat (48 + d)).toNat : Nat) : Int) = 48 + (d : Int) := by rw [UInt8.toNat_ofNat']; omega
    simp [Addr.add, World.cell?_alloc_new]; omega)
  exact this

theorem pow_bound (q i : Nat) (h : q < 10 ^ (20 - i)) (hq : 10 ≤ q) : i < 19 ∧ q / 10 < 10 ^ (20 - (i + 1)) := by
  have h1 : i < 19 := by
    apply Decidable.byContradiction; intro hn
    have h2 : (10 : Nat) ^ (20 - i) ≤ 10 ^ 1 := Nat.pow_le_pow_right (by omega) (by omega)
    omega
  refine ⟨h1, ?_⟩
  rw [show 20 - i = 20 - (i + 1) + 1 by omega, Nat.pow_succ] at h
  omega
theorem pow20 (m : Nat) (h : m < 18446744073709551616) : m < 10 ^ (20 - 0) := by
  have h3 : (10 : Nat) ^ (20 - 0) = 100000000000000000000 := by decide
  omega
theorem str_eq {a b : ByteArray} (h : a.data.toList = b.data.toList) : a = b := by
  cases a with | mk a => cases b with | mk b => cases a; cases b; simp at h; rw [h]
theorem ret_str {a b : ByteArray} (h : a = b) : Ending.returned (.string a) = .returned (.string b) := by rw [h]
theorem str_val {a b : ByteArray} (h : a = b) : Value.string a = .string b := by rw [h]

end Go.Proofs.YtkblcnomjgocmaaDoor.numG

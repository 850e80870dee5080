/-
  What the program does for nil.
-/
import Derived.Test.YtpmmddemeiljjaaWrN
import Derived.Test.YtpmmddemeiljjaaWrPd
namespace Go.Proofs.Ytpmmddemeiljjaa.wrPn
open Go.RowKit
open Go.Proofs.Ytpmmddemeiljjaa.dgM Go.Proofs.Ytpmmddemeiljjaa.wrM Go.Proofs.Ytpmmddemeiljjaa.wrO Go.Proofs.Ytpmmddemeiljjaa.wrA Go.Proofs.Ytpmmddemeiljjaa.wrC Go.Proofs.Ytpmmddemeiljjaa.wrG Go.Proofs.Ytpmmddemeiljjaa.wrL Go.Proofs.Ytpmmddemeiljjaa.wrNo Go.Proofs.Ytpmmddemeiljjaa.wrPa Go.Proofs.Ytpmmddemeiljjaa.wrPb Go.Proofs.Ytpmmddemeiljjaa.wrPc
set_option linter.unusedVariables false
set_option maxRecDepth 10000

/-- put, in the walk -/
theorem put_one (v : Value) (w : World) : Calls Try.prog 58 #[.pointer none, v] w (Ret w (.tuple #[])) := (put_nil v w).mono fun _ _ ⟨h1, h2⟩ => ⟨h1, h2 ▸ Below.refl _ _⟩
theorem wuint (x : Nat) (hx : x < A64) (w : World) : Calls Try.prog 42 #[.pointer none, .int .u64 (x : Int)] w (Ret w (.tuple #[])) := by
  unfold Ret
  go_enter Try.func42, Try.ntmps42
  go_wp2_with fail
  go_loopw [1] (fun s1 wr => ∃ (y : Nat), s1 = .int .u64 (y : Int) ∧ y < A64 ∧ Below w.heap.size w wr) (fun s1 _ => (intOf s1).toNat)
  case atStart => exact ⟨x, rfl, hx, Below.refl _ _⟩
  case round =>
    obtain ⟨y, rfl, hy, hB⟩ := hrel
    have hy' : y < 18446744073709551616 := hy
    by_cases hlt : y < 128
    · have t : decide ((127 : Int) < (y : Int)) = false := decide_eq_false (by omega)
      have hB2 := fun o => hB.alloc hB.size o
      go_wp2_with (go_at_call 58; (refine (put_nil _ _).mono ?_); rintro e w' ⟨rfl, rfl⟩)
      go_end0
      exact ⟨rfl, hB2 _⟩
    · have t : (127 : Int) < (y : Int) := by omega
      have e1 : (y : Int) / 128 = ((y / 128 : Nat) : Int) := by omega
      have bz : y / 128 < 18446744073709551616 := by omega
      have bm : y / 128 < y := by omega
      have by2 : y / 128 < A64 := bz
      have hB2 := fun o => hB.alloc hB.size o
      generalize y / 128 = z at *
      go_wp2_with (go_at_call 58; (refine (put_nil _ _).mono ?_); rintro e w' ⟨rfl, rfl⟩)
      go_roundw
      case rel => exact ⟨z, rfl, by2, hB2 _⟩
      case measure => simp [intOf]; omega
theorem wint (x : Int) (h0 : -9223372036854775808 ≤ x) (h1 : x ≤ 9223372036854775807) (w : World) : Calls Try.prog 43 #[.pointer none, .int .i64 x] w (Ret w (.tuple #[])) := by
  have c1 := fun w => zig_any x (zz x) h0 h1 (Lib.hid rfl) w
  have c2 := fun w => wuint (zz x) (zz_lt h0 h1) w
  unfold Ret at c2 ⊢
  generalize zz x = z at *
  go_enter Try.func43, Try.ntmps43
  go_wp2_with (first
    | (go_at_call 59; (with_reducible refine (c1 _).mono ?_); rintro e w' ⟨rfl, rfl⟩)
    | (go_at_call 42; (refine (c2 _).mono ?_); rintro e w' ⟨rfl, B⟩))
  go_end0
  exact ⟨rfl, B⟩
theorem wtext (x : ByteArray) (hs : x.size ≤ 9223372036854775807) (w : World) : Calls Try.prog 44 #[.pointer none, .string x] w (Ret w (.tuple #[])) := by
  have c2 := fun w => wuint x.size (by show x.size < 18446744073709551616; omega) w
  have e1 : IntKind.u64.wrap (x.size : Int) = (x.size : Int) := by rw [IntKind.wrap_u64]; omega
  unfold Ret at c2 ⊢
  go_enter Try.func44, Try.ntmps44
  go_upto_region 1 with (go_at_call 42; (refine (c2 _).mono ?_); rintro e w1 ⟨rfl, B⟩)
  obtain ⟨c, o, hcv, hC, hc⟩ := bytes_of w1 x
  have B1 : Below w.heap.size w w1.drew := ⟨B.os, B.tape, B.output, B.size, B.block⟩
  have B2 : Below w.heap.size w (w1.drew.alloc o) := B1.alloc B1.size o
  go_wp2_with (go_at_call 58; (refine (put_nil _ _).mono ?_); rintro e w' ⟨rfl, rfl⟩)
  go_end0
  exact ⟨rfl, B2⟩
set_option maxHeartbeats 1000000 in
theorem wints (A : Option Addr) (c : Nat) (zs : List Int) (hf : Fit zs) (hl : zs.length ≤ 9223372036854775807) (w : World) (hI : Ci w A zs) : Calls Try.prog 45 #[.pointer none, .slice A zs.length c] w (Ret w (.tuple #[])) := by
  have c2 := fun w => wuint zs.length (by show zs.length < 18446744073709551616; omega) w
  have e1 : IntKind.u64.wrap (zs.length : Int) = (zs.length : Int) := by rw [IntKind.wrap_u64]; omega
  have hf' := Lib.hid hf
  clear hf
  unfold Ret at c2 ⊢
  go_enter Try.func45, Try.ntmps45
  go_wp2_with (go_at_call 42; (refine (c2 _).mono ?_); rintro e w1 ⟨rfl, B⟩)
  go_loopw [13] (fun s4 wr => ∃ (i : Nat), i ≤ zs.length ∧ s4 = .int .i64 (i : Int) ∧ Below w.heap.size w wr) (fun s4 _ => zs.length - (intOf s4).toNat)
  case atStart => exact ⟨0, by omega, rfl, B⟩
  case round =>
    obtain ⟨i, hi, rfl, hB⟩ := hrel
    by_cases hlt : i < zs.length
    · obtain ⟨b, off, rfl, hc⟩ := (hI.below hB).at_ (k := i) hlt
      have hx := hf'.out _ (iat_mem (l := zs) (k := i) hlt)
      have c3 := fun w => wint (iat zs i) hx.1 hx.2 w
      unfold Ret at c3
      generalize iat zs i = x at *
      go_wp2_with (go_at_call 43; (refine (c3 _).mono ?_); rintro e w3 ⟨rfl, B3⟩)
      go_roundw
      case rel => exact ⟨i + 1, by omega, by go_num, below_on hB B3⟩
      case measure => simp [intOf]; omega
    · obtain rfl : i = zs.length := by omega
      go_wp2_with fail
      go_end0
      exact ⟨rfl, hB⟩
theorem wbytes (w : World) : Calls Try.prog 20 #[.pointer none] w (Ret0 w) := by
  unfold Ret0
  go_enter Try.func20, Try.ntmps20
  go_wp2_with fail
  go_ret
  exact ⟨⟨none, 0, rfl⟩, Below.refl _ _⟩
theorem rleft (w : World) : Calls Try.prog 33 #[.pointer none] w (Ret w (.int .i64 0)) := by
  unfold Ret
  go_enter Try.func33, Try.ntmps33
  go_wp2_with (go_at_call 35; (with_reducible refine (err_nil _).mono ?_); rintro e w' ⟨rfl, rfl⟩)
  go_ret
  exact ⟨rfl, Below.refl _ _⟩
theorem rint (w : World) : Calls Try.prog 24 #[.pointer none] w (Ret w (.int .i64 0)) := by
  have c2 := fun w => unzig_any 0 0 (by decide) (Lib.hid (by decide)) w
  unfold Ret
  go_enter Try.func24, Try.ntmps24
  go_wp2_with (first
    | (go_at_call 26; (with_reducible refine (ruint_nil _).mono ?_); rintro e w' ⟨rfl, rfl⟩)
    | (go_at_call 48; (refine (c2 _).mono ?_); rintro e w' ⟨rfl, rfl⟩))
  go_ret
  exact ⟨rfl, Below.refl _ _⟩
theorem rtext (m : Int) (w : World) : Calls Try.prog 28 #[.pointer none, .int .i64 m] w (Ret w (.string ⟨#[]⟩)) := by
  unfold Ret
  go_enter Try.func28, Try.ntmps28
  go_wp2_with (first
    | (go_at_call 52; (with_reducible refine (length_nil _ _).mono ?_); rintro e w' ⟨rfl, rfl⟩)
    | (go_at_call 35; (with_reducible refine (err_nil _).mono ?_); rintro e w' ⟨rfl, rfl⟩))
  go_ret
  exact ⟨rfl, Below.refl _ _⟩
theorem list_nil (w : World) :
    Calls Try.prog 54 #[.pointer none, .int .i64 0, .func (.func 24) #[.pointer none] #[]] w fun e w' => e = .returned (.slice none 0 0) ∧ w = w' := by
  go_enter Try.func54, Try.ntmps54
  go_wp2_with fail
  go_loopw [7, 10] (fun s7 s10 wr => s7 = .slice none 0 0 ∧ s10 = .int .i64 0 ∧ wr = w) (fun _ s10 _ => 0)
  case atStart => exact ⟨rfl, rfl, rfl⟩
  case round =>
    obtain ⟨rfl, rfl, rfl⟩ := hrel
    go_wp2_with fail
    go_ret
    exact ⟨rfl, rfl⟩
theorem rints (m : Int) (w : World) : Calls Try.prog 31 #[.pointer none, .int .i64 m] w (Ret0 w) := by
  unfold Ret0
  have hmf : ∀ (fn : Fn) (first cap : Array Value) (w : World), (Instr.makeFunc fn first cap).run Try.prog w = .ok (.func fn first cap) w := fun _ _ _ _ => rfl
  go_enter Try.func31, Try.ntmps31
  go_wp2_with (first
    | (go_at_call 52; (with_reducible refine (length_nil _ _).mono ?_); rintro e w' ⟨rfl, rfl⟩)
    | (go_at_call 54; (refine (list_nil _).mono ?_); rintro e w' ⟨rfl, rfl⟩))
  go_ret
  exact ⟨⟨none, 0, rfl⟩, Below.refl _ _⟩
theorem same_below {w w' : World} {v : Value} {e : Ending} (h : e = .returned v ∧ w = w') : Ret w v e w' := ⟨h.1, h.2 ▸ Below.refl _ _⟩
theorem ruint (w : World) : Calls Try.prog 26 #[.pointer none] w (Ret w (.int .u64 0)) := (ruint_nil w).mono fun _ _ h => same_below h
theorem rerr (w : World) : Calls Try.prog 35 #[.pointer none] w (Ret w (.int .i64 5)) := (err_nil w).mono fun _ _ h => same_below h
end Go.Proofs.Ytpmmddemeiljjaa.wrPn

/-
  Contracts of num.Format and of the reference's Format: the decimal number; new memory alone.
-/
import Derived.Test.YtfalonklnfekhaaDoorNumP
import Derived.Laws.IdiomStrings
import Derived.OwnWalk
import Derived.WalkSmall
namespace Go.Proofs.YtfalonklnfekhaaDoor.numG
open Go.RowKit
open Go.Proofs.YtfalonklnfekhaaDoor.numM Go.Proofs.YtfalonklnfekhaaDoor.numA Go.Proofs.YtfalonklnfekhaaDoor.numB Go.Proofs.YtfalonklnfekhaaDoor.numD Go.Proofs.YtfalonklnfekhaaDoor.numT Go.Proofs.YtfalonklnfekhaaDoor.numS
set_option linter.unusedVariables false

theorem below_grow (w : World) (k : Nat) (os : Array Obj) : Below w.heap.size w (Sort.grow (w.drewN k) os) :=
  ⟨rfl, rfl, rfl, by simp [Sort.grow], fun j hj => by simp [Sort.grow, Array.getElem?_append, hj]⟩

set_option maxHeartbeats 400000 in
theorem format_any (n : Int) (X : ByteArray) (hX : Hid (X = ⟨(Lib.itoa n).toArray⟩)) (n0 : -9223372036854775808 ≤ n) (n1 : n ≤ 9223372036854775807) (w : World) (htab : Lib.TabIs Tryd.prog w "internal/strconv.uint64pow10" .u64 Lib.pow10Tab) :
    Calls Tryd.prog 28 #[.int .i64 n] w fun e w' => e = .returned (.string X) ∧ Below w.heap.size w w' := by
  have ca := Tryd.strconv_Itoa n n0 n1 w htab
  rw [← hX.out] at ca
  clear htab
  go_enter Tryd.func28, Tryd.ntmps28
  go_wp2_with (go_at_call 41; refine ca.mono ?_; rintro e w' ⟨rfl, k, os, hw⟩; have HW := Lib.hid hw; clear hw)
  go_ret
  refine ⟨rfl, ?_⟩
  rw [HW.out]; exact below_grow w k os

/-- one byte made into a string -/
theorem conv1 (W : World) (d : Nat) (hd : d < 10) (c : UInt8) (hc : c = UInt8.ofNat (48 + d)) :
    (convert 48 9 (.slice (some ⟨W.heap.size, 0, none⟩) 1 1)).run Tryd.prog (W.alloc (.cells #[.int .u8 (48 + (d : Int))] 5)) = .ok (.string ⟨#[c]⟩) (W.alloc (.cells #[.int .u8 (48 + (d : Int))] 5)) := by
  subst hc
  have := run_convert_bytes_back (P := Tryd.prog) (W.alloc (.cells #[.int .u8 (48 + (d : Int))] 5)) 48 9 5 ⟨W.heap.size, 0, none⟩ 1 [UInt8.ofNat (48 + d)] Tryd.underlying48 Tryd.underlying5 Tryd.underlying9 (fun j hj => by
    obtain rfl : j = 0 := by simp at hj; omega
    have e : (((UInt8.ofNat (48 + d)).toNat : Nat) : Int) = 48 + (d : Int) := by rw [UInt8.toNat_ofNat']; omega
    simp [Addr.add, World.cell?_alloc_new]; omega)
  exact this

theorem pow_bound (q i : Nat) (h : q < 10 ^ (20 - i)) (hq : 10 ≤ q) : i < 19 ∧ q / 10 < 10 ^ (20 - (i + 1)) := by
  have h1 : i < 19 := by
    apply Decidable.byContradiction; intro hn
    have h2 : (10 : Nat) ^ (20 - i) ≤ 10 ^ 1 := Nat.pow_le_pow_right (by omega) (by omega)
    omega
  refine ⟨h1, ?_⟩
  rw [show 20 - i = 20 - (i + 1) + 1 by omega, Nat.pow_succ] at h
  omega
theorem pow20 (m : Nat) (h : m < 18446744073709551616) : m < 10 ^ (20 - 0) := by
  have h3 : (10 : Nat) ^ (20 - 0) = 100000000000000000000 := by decide
  omega
theorem str_eq {a b : ByteArray} (h : a.data.toList = b.data.toList) : a = b := by
  cases a with | mk a => cases b with | mk b => cases a; cases b; simp at h; rw [h]
theorem ret_str {a b : ByteArray} (h : a = b) : Ending.returned (.string a) = .returned (.string b) := by rw [h]
theorem str_val {a b : ByteArray} (h : a = b) : Value.string a = .string b := by rw [h]

set_option maxHeartbeats 1000000 in
theorem rformat_any (n : Int) (X : ByteArray) (hX : Hid (X = ⟨(Lib.itoa n).toArray⟩)) (n0 : -9223372036854775808 ≤ n) (n1 : n ≤ 9223372036854775807) (w : World) :
    Calls Tryd.prog 29 #[.int .i64 n] w fun e w' => e = .returned (.string X) ∧ Below w.heap.size w w' := by
  have cs := fun w => size_any n n0 n1 w
  have hX2 : Hid (X = ⟨(if n < 0 then 45 :: Lib.decDigits n.natAbs else Lib.decDigits n.natAbs).toArray⟩) := Lib.hid (by rw [hX.out, itoa_abs])
  have hm : n.natAbs < 18446744073709551616 := by omega
  generalize n.natAbs = m at *
  obtain ⟨d, hd⟩ : ∃ d, d = m % 10 := ⟨_, rfl⟩
  have hdc : (m : Int) % 10 = (d : Int) := by omega
  have hd10 : d < 10 := by omega
  obtain ⟨c, hc⟩ : ∃ c, c = UInt8.ofNat (48 + d) := ⟨_, rfl⟩
  have cv := fun W => conv1 W d hd10 c hc
  have HD := Lib.hid hd
  have HC := Lib.hid hc
  clear hd hc hX
  go_enter Tryd.func29, Tryd.ntmps29
  go_wp2_with (go_at_call 34; refine (cs _).mono ?_; rintro e w' ⟨rfl, rfl⟩)
  go_loopw [3, 4, 5] (fun s3 s4 s5 wr => ∃ (i q : Nat) (x : ByteArray), i ≤ 20 ∧ s5 = .int .i64 (i : Int) ∧ s3 = .int .u64 (q : Int) ∧ s4 = .string x ∧ q < 18446744073709551616 ∧ Hid (q < 10 ^ (20 - i)) ∧ x.size ≤ i + 1 ∧ Hid (FI m q x.data.toList) ∧ Below w.heap.size w wr) (fun _ _ s5 _ => 20 - (intOf s5).toNat)
  case atStart => exact ⟨0, m, ⟨#[c]⟩, by omega, rfl, rfl, rfl, hm, pow20 m hm, Nat.le_refl 1, by show FI m m [c]; rw [HC.out, HD.out]; exact FI.start m, (Below.refl _ _).alloc (Nat.le_refl _) _⟩
  case round =>
    obtain ⟨i, q, x, hi, rfl, rfl, rfl, hq, HP, hx, HF, hb⟩ := hrel
    by_cases h10 : (10 : Int) ≤ (q : Int)
    · obtain ⟨i1, i2⟩ := pow_bound q i HP.out (by omega)
      have i1' : (i : Int) < 19 := by omega
      have HP2 := Lib.hid i2
      have HF2 := Lib.hid (HF.out.step (by omega))
      clear i1 i2 cv hdc hd10
      have e1 : (q : Int) / 10 = ((q / 10 : Nat) : Int) := by omega
      have e3 : q / 10 < 18446744073709551616 := by omega
      generalize q / 10 = z at *
      obtain ⟨f, hf⟩ : ∃ f, f = z % 10 := ⟨_, rfl⟩
      have e2 : (z : Int) % 10 = (f : Int) := by omega
      have f10 : f < 10 := by omega
      rw [← hf] at HF2
      obtain ⟨b, hb2⟩ : ∃ b, b = UInt8.ofNat (48 + f) := ⟨_, rfl⟩
      rw [← hb2] at HF2
      have cv := fun W => conv1 W f f10 b hb2
      clear hf hb2 HF HP
      have es : (⟨#[b]⟩ ++ x : ByteArray).data.toList = b :: x.data.toList := by simp
      have el : (⟨#[b]⟩ ++ x : ByteArray).size = 1 + x.size := by rw [ByteArray.size_append]; rfl
      have ES := Lib.hid es
      have EL := Lib.hid el
      clear es el
      go_wp2_with fail
      go_roundw
      case rel => exact ⟨i + 1, z, ⟨#[b]⟩ ++ x, by omega, by go_num, rfl, rfl, e3, HP2, by rw [EL.out]; omega, by show FI m z _; rw [ES.out]; exact HF2.out, hb.alloc hb.size _⟩
      case measure => simp [intOf]; omega
    · have ex : x.data.toList = Lib.decDigits m := HF.out.1 (by omega)
      have EX := Lib.hid ex
      clear ex cv hdc hd10
      have hi' : (i : Int) ≤ 20 := by omega
      have q10 : decide ((10 : Int) ≤ (q : Int)) = false := decide_eq_false h10
      have hlen : x.size ≤ 21 := by omega
      by_cases hn : n < 0
      · go_wp2_with fail
        all_goals
          go_ret
          refine ⟨ret_str (str_eq ?_), hb⟩
          rw [hX2.out, if_pos hn]
          simp [EX.out]
      · go_wp2_with fail
        all_goals
          go_ret
          refine ⟨ret_str (str_eq ?_), hb⟩
          rw [hX2.out, if_neg (by omega)]
          simp [EX.out]
end Go.Proofs.YtfalonklnfekhaaDoor.numG

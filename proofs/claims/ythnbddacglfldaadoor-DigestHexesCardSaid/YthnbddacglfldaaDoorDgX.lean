/-
  Plain mathematics of hexadecimal texts: the digits of a number below 2^64, the number of sixteen digits.
-/
import Derived.Test.YthnbddacglfldaaDoorDgMath
namespace Go.Proofs.YthnbddacglfldaaDoor.dgX
open Go.Proofs.YthnbddacglfldaaDoor.dgM
set_option linter.unusedVariables false

/-- a digit's byte -/
def hn (d : Nat) : Nat := if d < 10 then 48 + d else 87 + d
def hd (d : Nat) : UInt8 := UInt8.ofNat (hn d)
/-- is it a digit? its value -/
def isH (c : UInt8) : Bool := decide (48 ≤ c.toNat ∧ c.toNat ≤ 57 ∨ 97 ≤ c.toNat ∧ c.toNat ≤ 102)
def hv (c : UInt8) : Nat := if c.toNat ≤ 57 then c.toNat - 48 else c.toNat - 87
theorem hn_lt {d : Nat} (h : d < 16) : hn d < 256 := by unfold hn; split <;> omega
theorem hd_nat {d : Nat} (h : d < 16) : (hd d).toNat = hn d := by
  unfold hd; rw [UInt8.toNat_ofNat', Nat.mod_eq_of_lt (hn_lt h)]
theorem hd_is {d : Nat} (h : d < 16) : isH (hd d) = true := by
  unfold isH; rw [hd_nat h]; apply decide_eq_true; unfold hn; split <;> omega
theorem hv_hd {d : Nat} (h : d < 16) : hv (hd d) = d := by
  unfold hv; rw [hd_nat h]; unfold hn; split <;> split <;> omega
theorem hv_lt {c : UInt8} (h : isH c = true) : hv c < 16 := by
  have := of_decide_eq_true h
  unfold hv; split <;> omega
theorem hd_hv {c : UInt8} (h : isH c = true) : hd (hv c) = c := by
  have h' := of_decide_eq_true h
  apply UInt8.toNat_inj.1
  rw [hd_nat (hv_lt h)]
  unfold hn hv
  split <;> split <;> omega
/-- the k low digits of a number -/
def hl (X : Nat) : Nat → List UInt8
  | 0 => []
  | k + 1 => hd (X / 16 ^ k % 16) :: hl X k
/-- the number of a text's digits -/
def pv (a : Nat) (l : List UInt8) : Nat := l.foldl (fun a c => 16 * a + hv c) a
theorem hl_len (X : Nat) : ∀ k, (hl X k).length = k
  | 0 => rfl
  | k + 1 => by rw [hl, List.length_cons, hl_len X k]
theorem pv_cons (a : Nat) (c : UInt8) (l : List UInt8) : pv a (c :: l) = pv (16 * a + hv c) l := rfl
theorem pv_snoc (a : Nat) (l : List UInt8) (c : UInt8) : pv a (l ++ [c]) = 16 * pv a l + hv c := by
  unfold pv; rw [List.foldl_append]; rfl
theorem d_lt (X k : Nat) : X / 16 ^ k % 16 < 16 := Nat.mod_lt _ (by omega)
theorem pv_hl (X : Nat) : ∀ k a, pv a (hl X k) = a * 16 ^ k + X % 16 ^ k
  | 0, a => by rw [hl, Nat.pow_zero, Nat.mod_one, Nat.mul_one]; rfl
  | k + 1, a => by
    rw [hl, pv_cons, pv_hl X k, hv_hd (d_lt X k), Nat.mod_pow_succ, Nat.pow_succ, Nat.add_mul, Nat.mul_comm (16 ^ k) (X / 16 ^ k % 16)]
    have e : 16 * a * 16 ^ k = a * (16 ^ k * 16) := by rw [Nat.mul_comm (16 ^ k) 16, ← Nat.mul_assoc, Nat.mul_comm a 16]
    rw [e]
    generalize a * (16 ^ k * 16) = A at *
    generalize X / 16 ^ k % 16 * 16 ^ k = B at *
    omega
theorem pow16 : (16 : Nat) ^ 16 = A64 := by decide
theorem pv_hex {X : Nat} (h : X < A64) : pv 0 (hl X 16) = X := by
  rw [pv_hl, pow16, Nat.zero_mul, Nat.zero_add, Nat.mod_eq_of_lt h]
theorem hl_is (X : Nat) : ∀ k, (hl X k).all isH = true
  | 0 => rfl
  | k + 1 => by rw [hl, List.all_cons, hd_is (d_lt X k), hl_is X k]; rfl
theorem pv_lin : ∀ (l : List UInt8) (a : Nat), pv a l = a * 16 ^ l.length + pv 0 l
  | [], a => by show a = a * 1 + 0; omega
  | c :: l, a => by
    rw [pv_cons, pv_cons, pv_lin l (16 * a + hv c), pv_lin l (16 * 0 + hv c), List.length_cons, Nat.pow_succ, Nat.add_mul, Nat.add_mul, Nat.mul_comm (16 ^ l.length) 16, ← Nat.mul_assoc a, Nat.mul_comm a 16]
    omega
theorem pv_lt : ∀ (l : List UInt8), l.all isH = true → pv 0 l < 16 ^ l.length
  | [], _ => by show 0 < 1; omega
  | c :: l, h => by
    rw [List.all_cons, Bool.and_eq_true] at h
    have i := pv_lt l h.2
    have j := hv_lt h.1
    rw [pv_cons, pv_lin, List.length_cons, Nat.pow_succ]
    have : hv c * 16 ^ l.length ≤ 15 * 16 ^ l.length := Nat.mul_le_mul_right _ (by omega)
    rw [show 16 * 0 + hv c = hv c by omega]
    omega
theorem hl_pv : ∀ (l : List UInt8) (a : Nat), l.all isH = true → hl (pv a l) l.length = l
  | [], _, _ => rfl
  | c :: l, a, h => by
    rw [List.all_cons, Bool.and_eq_true] at h
    have b := pv_lt l h.2
    have j := hv_lt h.1
    rw [List.length_cons, hl, pv_cons, hl_pv l _ h.2]
    congr 1
    rw [pv_lin, Nat.mul_comm, Nat.mul_add_div (Nat.pow_pos (by omega)), Nat.div_eq_of_lt b, Nat.add_zero, show (16 * a + hv c) % 16 = hv c by omega]
    exact hd_hv h.1
/-- what a text is: the value and the error -/
def hf (s : ByteArray) : Prop := s.size = 16 ∧ s.data.toList.all isH = true
theorem size_len (s : ByteArray) : s.data.toList.length = s.size := by show s.data.toList.length = s.data.size; simp
theorem hex_back {s : ByteArray} (h : hf s) : hl (pv 0 s.data.toList) 16 = s.data.toList := by
  have := hl_pv s.data.toList 0 h.2
  rw [size_len, h.1] at this
  exact this
theorem pv_small {s : ByteArray} (h : hf s) : pv 0 s.data.toList < A64 := by
  have := pv_lt s.data.toList h.2
  rw [size_len, h.1, pow16] at this
  exact this
theorem pv_take (s : ByteArray) (k : Nat) (h : k < s.size) : pv 0 (s.data.toList.take (k + 1)) = 16 * pv 0 (s.data.toList.take k) + hv s[k] := by
  rw [List.take_add_one]
  have e : s.data.toList[k]? = some s[k] := by
    rw [Array.getElem?_toList]
    exact Array.getElem?_eq_getElem h
  rw [e]
  exact pv_snoc _ _ _
theorem all_take (l : List UInt8) (k : Nat) (h : l.all isH = true) : (l.take k).all isH = true := by
  rw [List.all_eq_true] at *
  exact fun x hx => h x (List.mem_of_mem_take hx)
theorem all_at {s : ByteArray} (h : s.data.toList.all isH = true) (k : Nat) (hk : k < s.size) : isH s[k] = true := by
  rw [List.all_eq_true] at h
  exact h _ (by
    have : s[k] = s.data.toList[k]'(by rw [size_len]; exact hk) := by rw [Array.getElem_toList]; rfl
    rw [this]; exact List.getElem_mem _)
theorem not_at {s : ByteArray} (k : Nat) (hk : k < s.size) (h : isH s[k] = false) : ¬ hf s := fun ⟨_, a⟩ => by
  rw [all_at a k hk] at h; cases h
theorem all_more (s : ByteArray) (k : Nat) (h : k < s.size) (ha : (s.data.toList.take k).all isH = true) (hc : isH s[k] = true) : (s.data.toList.take (k + 1)).all isH = true := by
  rw [List.take_add_one]
  have e : s.data.toList[k]? = some s[k] := by
    rw [Array.getElem?_toList]
    exact Array.getElem?_eq_getElem h
  rw [e, List.all_append, ha, Option.toList_some, List.all_cons, hc]; rfl
theorem take_lt (s : ByteArray) (k : Nat) (h : k ≤ s.size) (ha : (s.data.toList.take k).all isH = true) : pv 0 (s.data.toList.take k) < 16 ^ k := by
  have := pv_lt _ ha
  rw [List.length_take, size_len, Nat.min_eq_left h] at this
  exact this
theorem small_of {v k : Nat} (hv : v < 16 ^ k) (hk : k ≤ 15) : v < 1152921504606846976 :=
  Nat.lt_of_lt_of_le hv (Nat.le_trans (Nat.pow_le_pow_right (by omega) hk) (by decide))
end Go.Proofs.YthnbddacglfldaaDoor.dgX

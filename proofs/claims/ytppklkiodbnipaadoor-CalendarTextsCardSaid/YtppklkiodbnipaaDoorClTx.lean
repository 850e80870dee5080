/-
  Plain mathematics of the texts of times: two digits each, their form, the numbers in them.
-/
import Derived.Test.YtppklkiodbnipaaDoorNumText
import Derived.Test.YtppklkiodbnipaaDoorClMath
namespace Go.Proofs.YtppklkiodbnipaaDoor.clX
open Go.Proofs.YtppklkiodbnipaaDoor.numT Go.Proofs.YtppklkiodbnipaaDoor.clM
set_option linter.unusedVariables false

def bd (n : Nat) : UInt8 := UInt8.ofNat (48 + n)
def d2 (n : Nat) : List UInt8 := [bd (n / 10), bd (n % 10)]
theorem bd_dig {n : Nat} (h : n < 10) : dig (bd n) = true := dig_of h
theorem bd_sub {n : Nat} (h : n < 10) : (bd n).toNat - 48 = n := sub_of h
theorem dec_lo {n : Nat} (h : n < 10) : 48 :: Lib.decDigits n = d2 n := by
  rw [Lib.decDigits_one h]; unfold d2 bd; rw [Nat.div_eq_of_lt h, Nat.mod_eq_of_lt h]; rfl
theorem dec_hi {n : Nat} (h : ¬ n < 10) (h2 : n < 100) : Lib.decDigits n = d2 n := Lib.decDigits_two h h2
theorem dec_four {y : Nat} (h : 1000 ≤ y) (h2 : y < 10000) : Lib.decDigits y = d2 (y / 100) ++ d2 (y % 100) := by
  rw [Lib.decDigits, dif_neg (by omega), Lib.decDigits, dif_neg (by omega), dec_hi (n := y / 10 / 10) (by omega) (by omega)]
  unfold d2 bd
  rw [show y / 10 / 10 = y / 100 by omega, show y / 10 % 10 = y % 100 / 10 by omega, show y % 10 = y % 100 % 10 by omega]
  rfl

/-- the text of a time -/
def tx (y m d h i : Nat) : List UInt8 := d2 (y / 100) ++ d2 (y % 100) ++ [45] ++ d2 m ++ [45] ++ d2 d ++ [32] ++ d2 h ++ [58] ++ d2 i
theorem tx_eq (y m d h i : Nat) : tx y m d h i = [bd (y / 100 / 10), bd (y / 100 % 10), bd (y % 100 / 10), bd (y % 100 % 10), 45, bd (m / 10), bd (m % 10), 45, bd (d / 10), bd (d % 10), 32, bd (h / 10), bd (h % 10), 58, bd (i / 10), bd (i % 10)] := rfl

/-- may this byte stand at this place? -/
def okAt (k : Nat) (c : UInt8) : Bool := if k = 4 ∨ k = 7 then c == 45 else if k = 10 then c == 32 else if k = 13 then c == 58 else dig c
def ats (l : List UInt8) (k : Nat) : UInt8 := l.getD k 0
theorem ats_get {l : List UInt8} {k : Nat} (h : k < l.length) : ats l k = l[k] := by simp [ats, List.getD, h]
/-- the form of a text -/
def frm (l : List UInt8) : Bool := decide (l.length = 16) && (List.range 16).all fun k => okAt k (ats l k)
theorem frm_iff {l : List UInt8} : frm l = true ↔ l.length = 16 ∧ ∀ k, k < 16 → okAt k (ats l k) = true := by
  unfold frm
  rw [Bool.and_eq_true, decide_eq_true_iff, List.all_eq_true]
  simp only [List.mem_range]
theorem frm_len {l : List UInt8} (h : l.length ≠ 16) : frm l = false := by
  unfold frm; rw [decide_eq_false h]; rfl
theorem frm_bad {l : List UInt8} {k : Nat} (hk : k < 16) (h : okAt k (ats l k) = false) : frm l = false := by
  cases e : frm l with
  | false => rfl
  | true => have := (frm_iff.1 e).2 k hk; rw [h] at this; cases this
theorem len16 {l : List UInt8} (h : l.length = 16) : ∃ c0 c1 c2 c3 c4 c5 c6 c7 c8 c9 c10 c11 c12 c13 c14 c15, l = [c0, c1, c2, c3, c4, c5, c6, c7, c8, c9, c10, c11, c12, c13, c14, c15] := by
  match l, h with
  | [c0, c1, c2, c3, c4, c5, c6, c7, c8, c9, c10, c11, c12, c13, c14, c15], _ => exact ⟨c0, c1, c2, c3, c4, c5, c6, c7, c8, c9, c10, c11, c12, c13, c14, c15, rfl⟩
/-- two digits at a place -/
def nu (l : List UInt8) (k : Nat) : Nat := 10 * ((ats l k).toNat - 48) + ((ats l (k + 1)).toNat - 48)
def dgAt (k : Nat) : Prop := k ≠ 4 ∧ k ≠ 7 ∧ k ≠ 10 ∧ k ≠ 13
theorem okAt_dig {k : Nat} {c : UInt8} (h : dgAt k) : okAt k c = dig c := by
  unfold dgAt at h; unfold okAt
  rw [if_neg (by omega), if_neg (by omega), if_neg (by omega)]
theorem frm_dig {l : List UInt8} (h : frm l = true) {k : Nat} (hk : k < 16) (hd : dgAt k) : dig (ats l k) = true := by
  rw [← okAt_dig hd]; exact (frm_iff.1 h).2 k hk
theorem dig_bd {c : UInt8} (h : dig c = true) : 48 ≤ c.toNat ∧ c.toNat ≤ 57 := dig_iff.1 h
theorem nu_le {l : List UInt8} (h : frm l = true) {k : Nat} (hk : k + 1 < 16) (hd : dgAt k) (hd2 : dgAt (k + 1)) : nu l k ≤ 99 := by
  have a := dig_bd (frm_dig h (by omega) hd)
  have b := dig_bd (frm_dig h hk hd2)
  unfold nu; omega
/-- the year -/
def yr (l : List UInt8) : Nat := 100 * nu l 0 + nu l 2

theorem tx_form {y m d h i : Nat} (hy : y < 10000) (hm : m < 100) (hd : d < 100) (hh : h < 100) (hi : i < 100) : frm (tx y m d h i) = true := by
  rw [frm_iff, tx_eq]
  refine ⟨rfl, fun k hk => ?_⟩
  rcases (show k = 0 ∨ k = 1 ∨ k = 2 ∨ k = 3 ∨ k = 4 ∨ k = 5 ∨ k = 6 ∨ k = 7 ∨ k = 8 ∨ k = 9 ∨ k = 10 ∨ k = 11 ∨ k = 12 ∨ k = 13 ∨ k = 14 ∨ k = 15 by omega) with rfl | rfl | rfl | rfl | rfl | rfl | rfl | rfl | rfl | rfl | rfl | rfl | rfl | rfl | rfl | rfl
  all_goals first
    | rfl
    | exact bd_dig (by omega)
theorem tx_nu {y m d h i : Nat} (hy : y < 10000) (hm : m < 100) (hd : d < 100) (hh : h < 100) (hi : i < 100) :
    yr (tx y m d h i) = y ∧ nu (tx y m d h i) 5 = m ∧ nu (tx y m d h i) 8 = d ∧ nu (tx y m d h i) 11 = h ∧ nu (tx y m d h i) 14 = i := by
  have two : ∀ n, n < 100 → 10 * ((bd (n / 10)).toNat - 48) + ((bd (n % 10)).toNat - 48) = n := fun n hn => by
    rw [bd_sub (by omega), bd_sub (by omega)]; omega
  refine ⟨?_, two m hm, two d hd, two h hh, two i hi⟩
  show 100 * (10 * ((bd (y / 100 / 10)).toNat - 48) + ((bd (y / 100 % 10)).toNat - 48)) + (10 * ((bd (y % 100 / 10)).toNat - 48) + ((bd (y % 100 % 10)).toNat - 48)) = y
  rw [two _ (by omega), two _ (by omega)]; omega

theorem at_ats (s : ByteArray) (k : Nat) (h : k < s.size) : s[k] = ats s.data.toList k := by
  have h' : k < s.data.toList.length := by rw [← size_len]; exact h
  rw [ats_get h']; rfl
/-- a part of a text -/
theorem part_list (s : ByteArray) (i j : Nat) : (s.extract i j).data.toList = (s.data.toList.take j).drop i := by
  rw [Lib.extract_data]; simp [List.drop_take]
theorem part_two {s : ByteArray} (hs : s.size = 16) (hf : frm s.data.toList = true) {i : Nat} (hi : i + 1 < 16) (h1 : dgAt i) (h2 : dgAt (i + 1)) :
    digs (s.extract i (i + 2)).data.toList = true ∧ valN (s.extract i (i + 2)).data.toList = nu s.data.toList i ∧ (s.extract i (i + 2)).size = 2 := by
  have hl : s.data.toList.length = 16 := by rw [← size_len]; exact hs
  have e : (s.extract i (i + 2)).data.toList = [ats s.data.toList i, ats s.data.toList (i + 1)] := by
    rw [part_list]
    apply List.ext_getElem
    · simp; omega
    · intro k a b
      simp at b
      have : k = 0 ∨ k = 1 := by omega
      rcases this with rfl | rfl
      · rw [List.getElem_drop, List.getElem_take]; exact (ats_get (by omega)).symm
      · rw [List.getElem_drop, List.getElem_take]; exact (ats_get (by omega)).symm
  have a := frm_dig hf (by omega) h1
  have b := frm_dig hf hi h2
  refine ⟨by rw [e]; simp [digs, a, b], by rw [e]; simp [valN, valA, nu], by rw [size_len, e]; rfl⟩
theorem part_four {s : ByteArray} (hs : s.size = 16) (hf : frm s.data.toList = true) :
    digs (s.extract 0 4).data.toList = true ∧ valN (s.extract 0 4).data.toList = yr s.data.toList ∧ (s.extract 0 4).size = 4 := by
  have hl : s.data.toList.length = 16 := by rw [← size_len]; exact hs
  have e : (s.extract 0 4).data.toList = [ats s.data.toList 0, ats s.data.toList 1, ats s.data.toList 2, ats s.data.toList 3] := by
    rw [part_list]
    obtain ⟨c0, c1, c2, c3, c4, c5, c6, c7, c8, c9, c10, c11, c12, c13, c14, c15, e⟩ := len16 hl
    rw [e]; rfl
  have a := frm_dig hf (k := 0) (by omega) ⟨by omega, by omega, by omega, by omega⟩
  have b := frm_dig hf (k := 1) (by omega) ⟨by omega, by omega, by omega, by omega⟩
  have c := frm_dig hf (k := 2) (by omega) ⟨by omega, by omega, by omega, by omega⟩
  have d := frm_dig hf (k := 3) (by omega) ⟨by omega, by omega, by omega, by omega⟩
  refine ⟨by rw [e]; simp [digs, a, b, c, d], ?_, by rw [size_len, e]; rfl⟩
  rw [e]
  show valA 0 _ = 100 * (10 * ((ats s.data.toList 0).toNat - 48) + ((ats s.data.toList 1).toNat - 48)) + (10 * ((ats s.data.toList 2).toNat - 48) + ((ats s.data.toList 3).toNat - 48))
  simp only [valA, List.foldl]
  omega
end Go.Proofs.YtppklkiodbnipaaDoor.clX

/-
  Plain mathematics of decimal texts: no program in sight.
-/
import Derived.Lib.AtoiAll
import Derived.Lib.AtoiAllCases
import Derived.Lib.IndexBytes
import Derived.Lib.ItoaNum
import Derived.Test.YtppklkiodbnipaaDoorNumMath
namespace Go.Proofs.YtppklkiodbnipaaDoor.numT
set_option linter.unusedVariables false

def dig (c : UInt8) : Bool := decide (48 ≤ c.toNat ∧ c.toNat ≤ 57)
def digs (l : List UInt8) : Bool := l.all dig
/-- digits of which the first one is not 0 -/
def numB (l : List UInt8) : Bool := !l.isEmpty && !(l.head? == some 48) && digs l
def strip (l : List UInt8) : List UInt8 := if l.head? = some 45 then l.tail else l
/-- the decimal form of a number -/
def decB (l : List UInt8) : Bool := l == [48] || numB (strip l)

theorem size_len (s : ByteArray) : s.size = s.data.toList.length := Array.length_toList.symm
theorem get_eq (t : ByteArray) (k : Nat) (h : k < t.size) : t[k] = t.data.toList[k]'(by rw [← size_len]; exact h) := rfl
theorem head_eq (t : ByteArray) (h : 0 < t.size) : t.data.toList.head? = some t[0] := by
  rw [get_eq t 0 h, List.head?_eq_getElem?, List.getElem?_eq_getElem]
theorem take_snoc (t : ByteArray) (k : Nat) (h : k < t.size) : t.data.toList.take (k + 1) = t.data.toList.take k ++ [t[k]] := by
  rw [List.take_succ_eq_append_getElem (by rw [← size_len]; exact h)]; rfl
theorem digs_snoc (l : List UInt8) (c : UInt8) : digs (l ++ [c]) = (digs l && dig c) := by simp [digs]
theorem digs_take_false {l : List UInt8} {k : Nat} (h : digs (l.take k) = false) : digs l = false := by
  rw [← List.take_append_drop k l]; unfold digs at *; rw [List.all_append, h]; rfl
theorem dig_yes {c : UInt8} (h1 : ¬ ((c.toNat : Int) < 48)) (h2 : ¬ (57 < (c.toNat : Int))) : dig c = true := decide_eq_true (by omega)
theorem dig_no {c : UInt8} (h : (c.toNat : Int) < 48 ∨ 57 < (c.toNat : Int)) : dig c = false := decide_eq_false (by omega)
theorem digs_bad (t : ByteArray) (k : Nat) (h : k < t.size) (hb : (t[k].toNat : Int) < 48 ∨ 57 < (t[k].toNat : Int)) : digs t.data.toList = false := by
  apply digs_take_false (k := k + 1)
  rw [take_snoc t k h, digs_snoc, dig_no hb, Bool.and_false]
theorem digs_more (t : ByteArray) (k : Nat) (h : k < t.size) (hp : digs (t.data.toList.take k) = true) (h1 : ¬ ((t[k].toNat : Int) < 48)) (h2 : ¬ (57 < (t[k].toNat : Int))) : digs (t.data.toList.take (k + 1)) = true := by
  rw [take_snoc t k h, digs_snoc, hp, dig_yes h1 h2]; rfl
theorem digs_all (t : ByteArray) (h : digs (t.data.toList.take t.size) = true) : digs t.data.toList = true := by
  rwa [List.take_of_length_le (by rw [← size_len]; exact Nat.le_refl _)] at h
theorem u8_eq {c : UInt8} {n : Nat} (hn : n < 256) (h : ((c.toNat : Int) == n) = true) : c = UInt8.ofNat n := by
  have h1 : (c.toNat : Int) = (n : Int) := by simpa using h
  have : c.toNat = n := by omega
  apply UInt8.toNat_inj.1
  rw [this, UInt8.toNat_ofNat']; omega
theorem u8_ne {c : UInt8} {n : Nat} (hn : n < 256) (h : ((c.toNat : Int) == n) = false) : c ≠ UInt8.ofNat n := by
  rintro rfl
  rw [UInt8.toNat_ofNat', Nat.mod_eq_of_lt (by omega)] at h
  simp at h
theorem numB_empty (t : ByteArray) (h : ¬ 0 < t.size) : numB t.data.toList = false := by
  have : t.data.toList = [] := List.length_eq_zero_iff.1 (by rw [← size_len]; omega)
  rw [this]; rfl
theorem numB_zero (t : ByteArray) (h : 0 < t.size) (h0 : ((t[0].toNat : Int) == 48) = true) : numB t.data.toList = false := by
  have := u8_eq (n := 48) (by decide) h0
  unfold numB; rw [head_eq t h, this]; simp
theorem numB_digs (t : ByteArray) (h : 0 < t.size) (h0 : ((t[0].toNat : Int) == 48) = false) : numB t.data.toList = digs t.data.toList := by
  have := u8_ne (n := 48) (by decide) h0
  have hne : t.data.toList.isEmpty = false := by
    cases e : t.data.toList with
    | nil => rw [size_len, e] at h; simp at h
    | cons a r => rfl
  unfold numB; rw [head_eq t h, hne]
  have : (some t[0] == some 48) = false := by simpa using this
  rw [this]; rfl
theorem strip_minus (s : ByteArray) (h : 0 < s.size) (h0 : ((s[0].toNat : Int) == 45) = true) : strip s.data.toList = (s.extract 1 s.size).data.toList := by
  have := u8_eq (n := 45) (by decide) h0
  unfold strip; rw [head_eq s h, this, if_pos (by decide), Lib.extract_to_end, List.drop_one]
theorem strip_plain (s : ByteArray) (h : 0 < s.size) (h0 : ((s[0].toNat : Int) == 45) = false) : strip s.data.toList = s.data.toList := by
  have := u8_ne (n := 45) (by decide) h0
  unfold strip; rw [head_eq s h, if_neg (by simpa using this)]
theorem strip_empty (s : ByteArray) (h : ¬ 0 < s.size) : strip s.data.toList = s.data.toList := by
  have : s.data.toList = [] := List.length_eq_zero_iff.1 (by rw [← size_len]; omega)
  rw [this]; rfl
theorem decB_zero (s : ByteArray) (h : (s.toList == [48]) = true) : decB s.data.toList = true := by
  rw [ByteArray.toList_eq] at h; unfold decB; rw [h]; rfl
theorem decB_else (s : ByteArray) (h : (s.toList == [48]) = false) : decB s.data.toList = numB (strip s.data.toList) := by
  rw [ByteArray.toList_eq] at h; unfold decB; rw [h]; rfl
/-- behind a minus sign the text is not 0 itself -/
theorem decB_minus (s : ByteArray) (h : 0 < s.size) (h0 : ((s[0].toNat : Int) == 45) = true) : decB s.data.toList = numB (s.extract 1 s.size).data.toList := by
  unfold decB; rw [strip_minus s h h0]
  have := u8_eq (n := 45) (by decide) h0
  have h48 : (s.data.toList == [48]) = false := by
    cases e : s.data.toList with
    | nil => rfl
    | cons a r =>
      have hh := head_eq s h
      rw [e, this] at hh
      have : a = UInt8.ofNat 45 := by simpa using hh
      subst this; rfl
  rw [h48]; rfl
theorem numB_48 {t : ByteArray} (h : (t.toList == [48]) = true) : numB t.data.toList = false := by
  rw [ByteArray.toList_eq] at h
  have : t.data.toList = [48] := by simpa using h
  rw [this]; rfl
def refB (l : List UInt8) : Bool := l == [48] || numB l
theorem refB_empty (t : ByteArray) (h : ¬ 0 < t.size) : refB t.data.toList = false := by
  have : t.data.toList = [] := List.length_eq_zero_iff.1 (by rw [← size_len]; omega)
  rw [this]; rfl
theorem refB_zero (t : ByteArray) (h : 1 < t.size) (h0 : ((t[0].toNat : Int) == 48) = true) : refB t.data.toList = false := by
  unfold refB; rw [numB_zero t (by omega) h0]
  have : (t.data.toList == [48]) = false := by
    rw [beq_eq_false_iff_ne]; intro e
    have := size_len t; rw [e] at this; simp at this; omega
  rw [this]; rfl
theorem refB_more (t : ByteArray) (h : 1 < t.size) (h0 : ((t[0].toNat : Int) == 48) = false) : refB t.data.toList = digs t.data.toList := by
  unfold refB; rw [numB_digs t (by omega) h0]
  have : (t.data.toList == [48]) = false := by
    rw [beq_eq_false_iff_ne]; intro e
    have := size_len t; rw [e] at this; simp at this; omega
  rw [this]; rfl
theorem refB_one (t : ByteArray) (h : 0 < t.size) (h1 : ¬ 1 < t.size) : refB t.data.toList = digs t.data.toList := by
  have hl : t.data.toList.length = 1 := by rw [← size_len]; omega
  obtain ⟨c, e⟩ := List.length_eq_one_iff.1 hl
  rw [e]
  by_cases hc : c = 48
  · subst hc; decide
  · have h48 : ([c] == [(48 : UInt8)]) = false := by simpa using hc
    unfold refB numB; rw [h48]; simp [hc]
theorem refB_minus {t : ByteArray} (h : (t.toList == [48]) = false) : refB t.data.toList = numB t.data.toList := by
  rw [ByteArray.toList_eq] at h; unfold refB; rw [h]; rfl
theorem decB_plain (s : ByteArray) (h : strip s.data.toList = s.data.toList) : decB s.data.toList = refB s.data.toList := by
  unfold decB refB; rw [h]

/-! ### the number that a text says -/
def valA (acc : Nat) (l : List UInt8) : Nat := l.foldl (fun a c => 10 * a + (c.toNat - 48)) acc
def valN (l : List UInt8) : Nat := valA 0 l
def intN (l : List UInt8) : Int := if l.head? = some 45 then -(valN (strip l) : Int) else valN (strip l)
theorem valN_snoc (l : List UInt8) (c : UInt8) : valN (l ++ [c]) = 10 * valN l + (c.toNat - 48) := by simp [valN, valA]
theorem valA_ge : ∀ (l : List UInt8) (acc : Nat), acc ≤ valA acc l
  | [], acc => Nat.le_refl _
  | c :: r, acc => by
    have := valA_ge r (10 * acc + (c.toNat - 48))
    show acc ≤ valA (10 * acc + (c.toNat - 48)) r
    omega
theorem dig_iff {c : UInt8} : dig c = true ↔ 48 ≤ c.toNat ∧ c.toNat ≤ 57 := by simp [dig]
theorem digs_cons {c : UInt8} {r : List UInt8} : digs (c :: r) = true ↔ dig c = true ∧ digs r = true := by simp [digs]
theorem of_dig {c : UInt8} (h : dig c = true) : UInt8.ofNat (48 + (c.toNat - 48)) = c := by
  have := dig_iff.1 h
  apply UInt8.toNat_inj.1; rw [UInt8.toNat_ofNat']; omega
theorem dig_of {d : Nat} (h : d < 10) : dig (UInt8.ofNat (48 + d)) = true := by
  rw [dig_iff, UInt8.toNat_ofNat']; omega
theorem sub_of {d : Nat} (h : d < 10) : (UInt8.ofNat (48 + d)).toNat - 48 = d := by
  rw [UInt8.toNat_ofNat']; omega
/-- the induction from the right -/
theorem snoc_ind {P : List UInt8 → Prop} (h0 : P []) (h1 : ∀ l c, P l → P (l ++ [c])) (l : List UInt8) : P l := by
  rw [← List.reverse_reverse l]
  induction l.reverse with
  | nil => exact h0
  | cons a r ih => rw [List.reverse_cons]; exact h1 _ _ ih
theorem numB_iff {l : List UInt8} : numB l = true ↔ l ≠ [] ∧ l.head? ≠ some 48 ∧ digs l = true := by
  unfold numB; cases l with
  | nil => simp
  | cons a r => simp
theorem numB_snoc {l : List UInt8} {c : UInt8} (hl : l ≠ []) (h : numB (l ++ [c]) = true) : numB l = true ∧ dig c = true := by
  obtain ⟨_, h2, h3⟩ := numB_iff.1 h
  rw [digs_snoc, Bool.and_eq_true] at h3
  refine ⟨numB_iff.2 ⟨hl, ?_, h3.1⟩, h3.2⟩
  cases l with
  | nil => exact absurd rfl hl
  | cons a r => simpa using h2
theorem numB_pos (l : List UInt8) : numB l = true → 10 ^ (l.length - 1) ≤ valN l := by
  induction l using snoc_ind with
  | h0 => intro h; simp [numB] at h
  | h1 l c ih =>
    intro h
    rw [valN_snoc]
    by_cases hl : l = []
    · subst hl
      obtain ⟨_, h2, h3⟩ := numB_iff.1 h
      have hd := dig_iff.1 (digs_cons.1 h3).1
      have hc : c.toNat ≠ 48 := fun e => h2 (by simp; exact UInt8.toNat_inj.1 e)
      simp; omega
    · obtain ⟨a, b⟩ := numB_snoc hl h
      have := ih a
      have hlen : 1 ≤ l.length := by cases l with
        | nil => exact absurd rfl hl
        | cons a r => simp
      rw [List.length_append, List.length_singleton, show l.length + 1 - 1 = l.length - 1 + 1 by omega, Nat.pow_succ]
      omega
theorem digs_lt (l : List UInt8) : digs l = true → valN l < 10 ^ l.length := by
  induction l using snoc_ind with
  | h0 => intro _; decide
  | h1 l c ih =>
    intro h
    rw [digs_snoc, Bool.and_eq_true] at h
    have := ih h.1
    have hd := dig_iff.1 h.2
    rw [valN_snoc, List.length_append, List.length_singleton, Nat.pow_succ]
    omega
theorem decDigits_valN (l : List UInt8) : numB l = true → Lib.decDigits (valN l) = l := by
  induction l using snoc_ind with
  | h0 => intro h; simp [numB] at h
  | h1 l c ih =>
    intro h
    rw [valN_snoc]
    by_cases hl : l = []
    · subst hl
      have hd := (digs_cons.1 (numB_iff.1 h).2.2).1
      have := dig_iff.1 hd
      rw [show 10 * valN [] + (c.toNat - 48) = c.toNat - 48 by simp [valN, valA], Lib.decDigits, dif_pos (by omega), of_dig hd]; rfl
    · obtain ⟨a, b⟩ := numB_snoc hl h
      have h1 := numB_pos l a
      have h2 : 1 ≤ 10 ^ (l.length - 1) := Nat.pos_of_ne_zero (by simp)
      have := dig_iff.1 b
      rw [Lib.decDigits, dif_neg (by omega), show (10 * valN l + (c.toNat - 48)) / 10 = valN l by omega, ih a, show (10 * valN l + (c.toNat - 48)) % 10 = c.toNat - 48 by omega, of_dig b]
theorem decDigits_facts (u : Nat) : digs (Lib.decDigits u) = true ∧ valN (Lib.decDigits u) = u ∧ Lib.decDigits u ≠ [] ∧ (0 < u → (Lib.decDigits u).head? ≠ some 48) := by
  induction u using Nat.strongRecOn with
  | _ u ih =>
    by_cases h : u < 10
    · rw [Lib.decDigits, dif_pos h]
      refine ⟨digs_cons.2 ⟨dig_of h, rfl⟩, ?_, by simp, fun hp => ?_⟩
      · show 10 * 0 + _ = u; rw [sub_of h]; omega
      · simp only [List.head?_cons, ne_eq, Option.some.injEq]
        intro e
        have := congrArg UInt8.toNat e
        rw [UInt8.toNat_ofNat'] at this; simp at this; omega
    · obtain ⟨a, b, c, d⟩ := ih (u / 10) (by omega)
      rw [Lib.decDigits, dif_neg h]
      refine ⟨by rw [digs_snoc, a, dig_of (Nat.mod_lt _ (by omega))]; rfl, by rw [valN_snoc, b, sub_of (Nat.mod_lt _ (by omega))]; omega, by simp, fun _ => ?_⟩
      have := d (by omega)
      cases e : Lib.decDigits (u / 10) with
      | nil => exact absurd e c
      | cons x r => rw [e] at this; simpa using this

/-! ### strconv.Atoi at a decimal form -/
theorem parseUint10_digs : ∀ (l : List UInt8) (acc : Nat), acc < 18446744073709551616 → digs l = true →
    (valA acc l < 18446744073709551616 → Lib.parseUint10 acc l = .ok (valA acc l)) ∧ (¬ valA acc l < 18446744073709551616 → Lib.parseUint10 acc l = .range)
  | [], acc, ha, _ => ⟨fun _ => rfl, fun h => absurd ha h⟩
  | c :: r, acc, ha, h => by
    obtain ⟨h1, h2⟩ := digs_cons.1 h
    have hd := dig_iff.1 h1
    have hg := valA_ge r (10 * acc + (c.toNat - 48))
    have e : valA acc (c :: r) = valA (10 * acc + (c.toNat - 48)) r := rfl
    rw [e, Lib.parseUint10, if_pos hd]
    by_cases h3 : 1844674407370955162 ≤ acc
    · rw [if_pos h3]
      exact ⟨fun hv => absurd hv (by omega), fun _ => rfl⟩
    · rw [if_neg h3]
      by_cases h4 : 18446744073709551616 ≤ acc * 10 + (c.toNat - 48)
      · rw [if_pos h4]
        exact ⟨fun hv => absurd hv (by omega), fun _ => rfl⟩
      · rw [if_neg h4, Nat.mul_comm acc 10]
        exact parseUint10_digs r _ (by omega) h2
theorem parseMag_digs {l : List UInt8} (hl : l ≠ []) (h : digs l = true) : (valN l < 18446744073709551616 → Lib.parseMag l = .ok (valN l)) ∧ (¬ valN l < 18446744073709551616 → Lib.parseMag l = .range) := by
  unfold Lib.parseMag; rw [if_neg hl]; exact parseUint10_digs l 0 (by omega) h
theorem strip_cons45 (r : List UInt8) : strip (45 :: r) = r := by simp [strip]
theorem strip_other {l : List UInt8} (h : l.head? ≠ some 45) : strip l = l := if_neg h
/-- the three forms of a decimal text -/
theorem decB_cases {l : List UInt8} (h : decB l = true) : (∃ r, l = 45 :: r ∧ numB r = true) ∨ (l.head? ≠ some 45 ∧ (l = [48] ∨ numB l = true) ∧ digs l = true ∧ l ≠ []) := by
  unfold decB at h
  by_cases h45 : l.head? = some 45
  · cases l with
    | nil => simp at h45
    | cons a r =>
      have : a = 45 := by simpa using h45
      subst this
      rw [strip_cons45] at h
      have h48 : ((45 : UInt8) :: r == [48]) = false := by rw [beq_eq_false_iff_ne]; intro e; injection e with e1 e2; exact absurd e1 (by decide)
      rw [h48, Bool.false_or] at h
      exact .inl ⟨r, rfl, h⟩
  · rw [strip_other h45, Bool.or_eq_true] at h
    refine .inr ⟨h45, ?_⟩
    rcases h with h | h
    · have : l = [48] := by simpa using h
      subst this; exact ⟨.inl rfl, by decide, by decide⟩
    · exact ⟨.inr h, (numB_iff.1 h).2.2, (numB_iff.1 h).1⟩
theorem atoi_dec {l : List UInt8} (h : decB l = true) :
    ((-9223372036854775808 ≤ intN l ∧ intN l ≤ 9223372036854775807) → Lib.atoiAll l = .ok (intN l)) ∧ (¬ (-9223372036854775808 ≤ intN l ∧ intN l ≤ 9223372036854775807) → Lib.atoiAll l = .range) := by
  rcases decB_cases h with ⟨r, rfl, hr⟩ | ⟨h45, _, hd, hne⟩
  · obtain ⟨r1, _, r3⟩ := numB_iff.1 hr
    obtain ⟨p1, p2⟩ := parseMag_digs r1 r3
    have e : intN (45 :: r) = -(valN r : Int) := by unfold intN; rw [List.head?_cons, if_pos rfl, strip_cons45]
    rw [e, Lib.atoiAll_minus]
    by_cases hv : valN r < 18446744073709551616
    · rw [p1 hv]
      refine ⟨fun hb => ?_, fun hb => ?_⟩
      · simp only [Lib.signed]; rw [if_neg (by omega)]
      · simp only [Lib.signed]; rw [if_pos (by omega)]
    · rw [p2 hv]
      exact ⟨fun hb => by omega, fun _ => rfl⟩
  · obtain ⟨p1, p2⟩ := parseMag_digs hne hd
    have e : intN l = (valN l : Int) := by unfold intN; rw [if_neg h45, strip_other h45]
    rw [e]
    cases l with
    | nil => exact absurd rfl hne
    | cons c r =>
      have hc := dig_iff.1 (digs_cons.1 hd).1
      rw [Lib.atoiAll_plain c r (by omega) (by omega)]
      by_cases hv : valN (c :: r) < 18446744073709551616
      · rw [p1 hv]
        refine ⟨fun hb => ?_, fun hb => ?_⟩
        · simp only [Lib.signless]; rw [if_neg (by omega)]
        · simp only [Lib.signless]; rw [if_pos (by omega)]
      · rw [p2 hv]
        exact ⟨fun hb => by omega, fun _ => rfl⟩
theorem itoa_intN {l : List UInt8} (h : decB l = true) : Lib.itoa (intN l) = l := by
  rcases decB_cases h with ⟨r, rfl, hr⟩ | ⟨h45, hc, hd, hne⟩
  · have e : intN (45 :: r) = -(valN r : Int) := by unfold intN; rw [List.head?_cons, if_pos rfl, strip_cons45]
    have h1 := numB_pos r hr
    have h2 : 1 ≤ 10 ^ (r.length - 1) := Nat.pos_of_ne_zero (by simp)
    rw [e, Lib.itoa, if_pos (by omega), show (-(valN r : Int)).natAbs = valN r by omega, decDigits_valN r hr]
  · have e : intN l = (valN l : Int) := by unfold intN; rw [if_neg h45, strip_other h45]
    rw [e, Lib.itoa, if_neg (by omega), Int.toNat_natCast]
    rcases hc with rfl | hn
    · show Lib.decDigits 0 = [48]; rw [Lib.decDigits, dif_pos (by omega)]; rfl
    · exact decDigits_valN l hn
theorem head_ne45 {l : List UInt8} (h : digs l = true) : l.head? ≠ some 45 := by
  cases l with
  | nil => simp
  | cons a r =>
    have := dig_iff.1 (digs_cons.1 h).1
    intro e
    have : a = 45 := by simpa using e
    subst this; revert this; simp_all
theorem decB_itoa (n : Int) : decB (Lib.itoa n) = true ∧ intN (Lib.itoa n) = n := by
  unfold Lib.itoa
  by_cases hn : n < 0
  · rw [if_pos hn]
    obtain ⟨a, b, c, d⟩ := decDigits_facts n.natAbs
    refine ⟨?_, ?_⟩
    · unfold decB; rw [strip_cons45, numB_iff.2 ⟨c, d (by omega), a⟩, Bool.or_true]
    · unfold intN; rw [List.head?_cons, if_pos rfl, strip_cons45, b]; omega
  · rw [if_neg hn]
    obtain ⟨a, b, c, d⟩ := decDigits_facts n.toNat
    have h45 := head_ne45 a
    refine ⟨?_, ?_⟩
    · unfold decB; rw [strip_other h45]
      by_cases h0 : 0 < n.toNat
      · rw [numB_iff.2 ⟨c, d h0, a⟩, Bool.or_true]
      · rw [show n.toNat = 0 by omega]
        have : Lib.decDigits 0 = [48] := by rw [Lib.decDigits, dif_pos (by omega)]; rfl
        rw [this]; rfl
    · unfold intN; rw [if_neg h45, strip_other h45, b]; omega

/-! ### what Parse returns -/
open Go.Proofs.YtppklkiodbnipaaDoor.numM
def prV (l : List UInt8) : Int := if decB l = true then fitV (intN l) else 0
def prE (l : List UInt8) : Int := if decB l = true then fitE (intN l) else 1
theorem pr_no {l : List UInt8} (h : decB l = false) : prV l = 0 ∧ prE l = 1 := by
  constructor
  · unfold prV; rw [h]; rfl
  · unfold prE; rw [h]; rfl
theorem pr_yes {l : List UInt8} (h : decB l = true) : prV l = fitV (intN l) ∧ prE l = fitE (intN l) := ⟨if_pos h, if_pos h⟩
theorem dec_ne {s : ByteArray} (h : decB s.data.toList = true) : 0 < s.size := by
  rw [size_len]
  rcases decB_cases h with ⟨r, e, _⟩ | ⟨_, _, _, hne⟩
  · rw [e]; simp
  · exact List.length_pos_iff.2 hne
/-- behind a minus sign -/
theorem dec_minus {s : ByteArray} (h : decB s.data.toList = true) (h1 : 0 < s.size) (h0 : ((s[0].toNat : Int) == 45) = true) :
    numB (s.extract 1 s.size).data.toList = true ∧ intN s.data.toList = -(valN (s.extract 1 s.size).data.toList : Int) := by
  rw [decB_minus s h1 h0] at h
  refine ⟨h, ?_⟩
  unfold intN; rw [strip_minus s h1 h0, head_eq s h1, u8_eq (n := 45) (by decide) h0, if_pos (by decide)]
theorem dec_plain {s : ByteArray} (h : decB s.data.toList = true) (h1 : 0 < s.size) (h0 : ((s[0].toNat : Int) == 45) = false) :
    digs s.data.toList = true ∧ intN s.data.toList = (valN s.data.toList : Int) ∧ (1 < s.size → numB s.data.toList = true) := by
  rcases decB_cases h with ⟨r, e, _⟩ | ⟨h45, hc, hd, hne⟩
  · have hh := head_eq s h1
    rw [e] at hh
    have : s[0] = 45 := by simpa using hh.symm
    exact absurd this (u8_ne (n := 45) (by decide) h0)
  · refine ⟨hd, ?_, fun h2 => hc.resolve_left fun e => ?_⟩
    · unfold intN; rw [if_neg h45, strip_other h45]
    · rw [size_len, e] at h2; simp at h2
theorem long_big {t : ByteArray} (h : numB t.data.toList = true) (hl : 19 < t.size) : 10000000000000000000 ≤ valN t.data.toList := by
  have h1 := numB_pos _ h
  rw [← size_len] at h1
  have h2 : (10 : Nat) ^ 19 ≤ 10 ^ (t.size - 1) := Nat.pow_le_pow_right (by omega) (by omega)
  have h3 : (10 : Nat) ^ 19 = 10000000000000000000 := by decide
  omega
theorem valN_take (t : ByteArray) (k : Nat) (h : k < t.size) : valN (t.data.toList.take (k + 1)) = 10 * valN (t.data.toList.take k) + (t[k].toNat - 48) := by
  rw [take_snoc t k h, valN_snoc]
theorem digs_of_take {l : List UInt8} (h : digs l = true) (k : Nat) : digs (l.take k) = true := by
  rw [← List.take_append_drop k l] at h
  unfold digs at *; rw [List.all_append, Bool.and_eq_true] at h; exact h.1
theorem valN_small (t : ByteArray) (h : digs t.data.toList = true) (k : Nat) (hk : k ≤ 19) : valN (t.data.toList.take k) < 10 ^ k := by
  have h1 := digs_lt _ (digs_of_take h k)
  have h2 : (t.data.toList.take k).length ≤ k := List.length_take_le _ _
  exact Nat.lt_of_lt_of_le h1 (Nat.pow_le_pow_right (by omega) h2)
theorem dig_at (t : ByteArray) (h : digs t.data.toList = true) (k : Nat) (hk : k < t.size) : 48 ≤ t[k].toNat ∧ t[k].toNat ≤ 57 := by
  have := digs_of_take h (k + 1)
  rw [take_snoc t k hk, digs_snoc, Bool.and_eq_true] at this
  exact dig_iff.1 this.2
theorem valN_all (t : ByteArray) : valN (t.data.toList.take t.size) = valN t.data.toList := by
  rw [List.take_of_length_le (by rw [← size_len]; exact Nat.le_refl _)]
theorem pow18 (k : Nat) (h : k ≤ 18) : (10 : Nat) ^ k ≤ 1000000000000000000 := by
  have := Nat.pow_le_pow_right (n := 10) (by omega) h
  have h3 : (10 : Nat) ^ 18 = 1000000000000000000 := by decide
  omega
theorem pow19 (k : Nat) (h : k ≤ 19) : (10 : Nat) ^ k ≤ 10000000000000000000 := by
  have := Nat.pow_le_pow_right (n := 10) (by omega) h
  have h3 : (10 : Nat) ^ 19 = 10000000000000000000 := by decide
  omega
/-- what the digits so far are -/
def FI (U q : Nat) (l : List UInt8) : Prop := (q < 10 → l = Lib.decDigits U) ∧ (10 ≤ q → Lib.decDigits U = Lib.decDigits (q / 10) ++ l)
theorem FI.start (U : Nat) : FI U U [UInt8.ofNat (48 + U % 10)] := by
  refine ⟨fun h => ?_, fun h => ?_⟩
  · rw [Lib.decDigits, dif_pos h, Nat.mod_eq_of_lt h]
  · rw [Lib.decDigits, dif_neg (by omega)]
theorem FI.step {U q : Nat} {l : List UInt8} (h : FI U q l) (hq : 10 ≤ q) : FI U (q / 10) (UInt8.ofNat (48 + q / 10 % 10) :: l) := by
  have e := h.2 hq
  refine ⟨fun h1 => ?_, fun h1 => ?_⟩
  · rw [e, Lib.decDigits, dif_pos h1, Nat.mod_eq_of_lt h1]; rfl
  · rw [e, Lib.decDigits, dif_neg (by omega), List.append_assoc]; rfl
theorem itoa_abs (n : Int) : Lib.itoa n = if n < 0 then 45 :: Lib.decDigits n.natAbs else Lib.decDigits n.natAbs := by
  unfold Lib.itoa
  by_cases h : n < 0
  · rw [if_pos h, if_pos h]
  · rw [if_neg h, if_neg h, show n.toNat = n.natAbs by omega]
end Go.Proofs.YtppklkiodbnipaaDoor.numT

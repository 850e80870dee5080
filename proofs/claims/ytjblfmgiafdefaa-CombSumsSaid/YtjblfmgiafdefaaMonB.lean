/-
  What a slice of ints reads as; contracts of the functions that only read one: greatest (both), allValid, Sum (both), wholeOf, checkSplit, same.
-/
import Derived.Test.YtjblfmgiafdefaaMonA
import Derived.Test.YtjblfmgiafdefaaMonMath
namespace Go.Proofs.Ytjblfmgiafdefaa.monB
open Go.RowKit
open Go.Proofs.Ytjblfmgiafdefaa.numM Go.Proofs.Ytjblfmgiafdefaa.numA Go.Proofs.Ytjblfmgiafdefaa.numB Go.Proofs.Ytjblfmgiafdefaa.monA Go.Proofs.Ytjblfmgiafdefaa.monM
set_option linter.unusedVariables false

/-- the cells of a row of ints -/
def CellsAt (w : World) (b off : Nat) (zs : List Int) : Prop := ∀ j x, zs[j]? = some x → w.cell? ⟨b, off + j, none⟩ = some (.int .i64 x)
/-- a slice value of that many elements reads as these ints -/
def Ints (w : World) (A : Option Addr) (zs : List Int) : Prop := 0 < zs.length → ∃ b off, A = some ⟨b, off, none⟩ ∧ CellsAt w b off zs
theorem Ints.at_ {w : World} {A : Option Addr} {zs : List Int} (h : Ints w A zs) {k : Nat} (hk : k < zs.length) :
    ∃ b off, A = some ⟨b, off, none⟩ ∧ w.cell? ⟨b, off + k, none⟩ = some (.int .i64 (at0 zs k)) := by
  obtain ⟨b, off, e, hc⟩ := h (by omega)
  exact ⟨b, off, e, hc k _ (at0_some hk)⟩
theorem Ints.two {w : World} {A : Option Addr} {zs : List Int} (h : Ints w A zs) {k g : Nat} (hk : k < zs.length) (hg : g < zs.length) :
    ∃ b off, A = some ⟨b, off, none⟩ ∧ w.cell? ⟨b, off + k, none⟩ = some (.int .i64 (at0 zs k)) ∧ w.cell? ⟨b, off + g, none⟩ = some (.int .i64 (at0 zs g)) := by
  obtain ⟨b, off, e, hc⟩ := h (by omega)
  exact ⟨b, off, e, hc k _ (at0_some hk), hc g _ (at0_some hg)⟩

theorem Ints.drewN {w : World} {A : Option Addr} {zs : List Int} (h : Ints w A zs) (k : Nat) : Ints (w.drewN k) A zs := h

/-! ### all are amounts; sums -/
def allv (zs : List Int) : Nat → Bool
  | 0 => true
  | k + 1 => allv zs k && vB (at0 zs k)
theorem allv_all {zs : List Int} : ∀ {k : Nat}, allv zs k = true → ∀ j, j < k → vB (at0 zs j) = true
  | 0, _, j, hj => by omega
  | k + 1, h, j, hj => by
    rw [allv, Bool.and_eq_true] at h
    by_cases e : j = k
    · subst e; exact h.2
    · exact allv_all h.1 j (by omega)
theorem allv_bad {zs : List Int} {n j : Nat} (hj : j < n) (h : vB (at0 zs j) = false) : allv zs n = false := by
  cases e : allv zs n with
  | false => rfl
  | true => have := allv_all e j hj; rw [h] at this; cases this
theorem allv_nn {zs : List Int} {n : Nat} (hn : zs.length = n) (h : allv zs n = true) (j : Nat) : 0 ≤ at0 zs j ∧ at0 zs j ≤ 1000000000000 := by
  by_cases hj : j < n
  · exact vB_iff.1 (allv_all h j hj)
  · rw [at0_out (by omega)]; omega

def sumE (zs : List Int) (n : Nat) : Int := if allv zs n = true then (if sm zs n ≤ 1000000000000 then 0 else 9) else 2
def sumV (zs : List Int) (n : Nat) : Int := if allv zs n = true then (if sm zs n ≤ 1000000000000 then sm zs n else 0) else 0
theorem sum_bad {zs : List Int} {n : Nat} (h : allv zs n = false) : sumV zs n = 0 ∧ sumE zs n = 2 := by
  unfold sumV sumE; rw [if_neg (by simp [h]), if_neg (by simp [h])]; exact ⟨rfl, rfl⟩
theorem sum_ok {zs : List Int} {n : Nat} (h : allv zs n = true) (h2 : sm zs n ≤ 1000000000000) : sumV zs n = sm zs n ∧ sumE zs n = 0 := by
  unfold sumV sumE; rw [if_pos h, if_pos h, if_pos h2, if_pos h2]; exact ⟨rfl, rfl⟩
theorem sum_big {zs : List Int} {n : Nat} (h : allv zs n = true) (h2 : 1000000000000 < sm zs n) : sumV zs n = 0 ∧ sumE zs n = 9 := by
  unfold sumV sumE; rw [if_pos h, if_pos h, if_neg (by omega), if_neg (by omega)]; exact ⟨rfl, rfl⟩
theorem two_eq {a b a' b' : Int} (h1 : a = a') (h2 : b = b') : Ending.returned (.tuple #[.int .i64 a, .int .i64 b]) = .returned (.tuple #[.int .i64 a', .int .i64 b']) := by rw [h1, h2]
theorem sm_over {zs : List Int} {n k : Nat} (hn : zs.length = n) (h : allv zs n = true) (hk : k < n) (h2 : 1000000000000 < sm zs k + at0 zs k) : 1000000000000 < sm zs n := by
  have := sm_mono (fun j => (allv_nn hn h j).1) (show k + 1 ≤ n by omega)
  rw [sm] at this; omega

/-! ### what a split is given -/
def spE (m : Int) (zs : List Int) (n : Nat) : Int :=
  if vB m = true then (if n < 1 ∨ 64 < n then 3 else if allv zs n = true then (if sm zs n = 0 then 10 else 0) else 2) else 2
def spW (m : Int) (zs : List Int) (n : Nat) : Int := if spE m zs n = 0 then sm zs n else 0
theorem sp_m {m : Int} {zs : List Int} {n : Nat} (h : vB m = false) : spW m zs n = 0 ∧ spE m zs n = 2 := by
  have e : spE m zs n = 2 := if_neg (by simp [h])
  exact ⟨by unfold spW; rw [e]; rfl, e⟩
theorem sp_n {m : Int} {zs : List Int} {n : Nat} (h : vB m = true) (h2 : n < 1 ∨ 64 < n) : spW m zs n = 0 ∧ spE m zs n = 3 := by
  have e : spE m zs n = 3 := by unfold spE; rw [if_pos h, if_pos h2]
  exact ⟨by unfold spW; rw [e]; rfl, e⟩
theorem sp_bad {m : Int} {zs : List Int} {n : Nat} (h : vB m = true) (h2 : ¬ (n < 1 ∨ 64 < n)) (h3 : allv zs n = false) : spW m zs n = 0 ∧ spE m zs n = 2 := by
  have e : spE m zs n = 2 := by unfold spE; rw [if_pos h, if_neg h2, if_neg (by simp [h3])]
  exact ⟨by unfold spW; rw [e]; rfl, e⟩
theorem sp_zero {m : Int} {zs : List Int} {n : Nat} (h : vB m = true) (h2 : ¬ (n < 1 ∨ 64 < n)) (h3 : allv zs n = true) (h4 : sm zs n = 0) : spW m zs n = 0 ∧ spE m zs n = 10 := by
  have e : spE m zs n = 10 := by unfold spE; rw [if_pos h, if_neg h2, if_pos h3, if_pos h4]
  exact ⟨by unfold spW; rw [e]; rfl, e⟩
theorem sp_ok {m : Int} {zs : List Int} {n : Nat} (h : vB m = true) (h2 : ¬ (n < 1 ∨ 64 < n)) (h3 : allv zs n = true) (h4 : ¬ sm zs n = 0) : spW m zs n = sm zs n ∧ spE m zs n = 0 := by
  have e : spE m zs n = 0 := by unfold spE; rw [if_pos h, if_neg h2, if_pos h3, if_neg h4]
  exact ⟨by unfold spW; rw [e]; rfl, e⟩
/-- a split that is accepted -/
theorem sp_inv {m : Int} {zs : List Int} {n : Nat} (hn : zs.length = n) (h : spE m zs n = 0) :
    (0 ≤ m ∧ m ≤ 1000000000000) ∧ (1 ≤ n ∧ n ≤ 64) ∧ (∀ j, 0 ≤ at0 zs j ∧ at0 zs j ≤ 1000000000000) ∧ allv zs n = true ∧ spW m zs n = sm zs n ∧ 0 < sm zs n ∧ sm zs n ≤ 64000000000000 := by
  have ew : spW m zs n = sm zs n := if_pos h
  unfold spE at h
  by_cases h1 : vB m = true
  · rw [if_pos h1] at h
    by_cases h2 : n < 1 ∨ 64 < n
    · rw [if_pos h2] at h; omega
    · rw [if_neg h2] at h
      by_cases h3 : allv zs n = true
      · rw [if_pos h3] at h
        have hv := allv_nn hn h3
        have h5 := sm_nonneg (fun j => (hv j).1) n
        have h6 := sm_le (fun j => (hv j).2) n
        by_cases h4 : sm zs n = 0
        · rw [if_pos h4] at h; omega
        · exact ⟨vB_iff.1 h1, by omega, hv, h3, ew, by omega, by omega⟩
      · rw [if_neg h3] at h; omega
  · rw [if_neg h1] at h; omega

end Go.Proofs.Ytjblfmgiafdefaa.monB

/-
  A range over a text, for the program's Scan: what a step of it takes; bytes from 128 on begin no token and are skipped in a remark.
-/
import Derived.Test.YtgmnoghmkbbheaaLxA
import Derived.Laws.RangeAny
import Derived.Lib.OthersKept
namespace Go.Proofs.Ytgmnoghmkbbheaa.lxY
open Go.RowKit
open Go.Proofs.Ytgmnoghmkbbheaa.lxM Go.Proofs.Ytgmnoghmkbbheaa.lxN Go.Proofs.Ytgmnoghmkbbheaa.lxA
set_option linter.unusedVariables false

theorem get_s (s : ByteArray) (k : Nat) (h : k < s.size) : s.get! k = bat s.data.toList k := by
  have := Go.get_at s k h
  rw [Nat.add_zero] at this
  rw [this, bat_s s k h]
/-- a step of a range over a text: below 128 one byte, else some bytes, all from 128 on -/
theorem decode_low {s : ByteArray} {p : Nat} (h : p < s.size) (hc : (bat s.data.toList p).toNat < 128) : Utf8.decode s p = ((bat s.data.toList p).toNat, 1) := by
  have := Go.decode_ascii s p h (by rw [bat_s s p h]; exact hc)
  rw [bat_s s p h] at this
  exact this
theorem decode_top {s : ByteArray} {p : Nat} (h : p < s.size) (hc : 128 ≤ (bat s.data.toList p).toNat) :
    128 ≤ (Utf8.decode s p).1 ∧ 1 ≤ (Utf8.decode s p).2 ∧ p + (Utf8.decode s p).2 ≤ s.size ∧ ∀ j, j < (Utf8.decode s p).2 → 128 ≤ (bat s.data.toList (p + j)).toNat := by
  have h1 := Go.decode_high s p h (by rw [bat_s s p h]; exact hc)
  refine ⟨h1.1, h1.2, ?_⟩
  have g : ∀ k, p + k < s.size → (s.get! (p + k)) = bat s.data.toList (p + k) := fun k hk => get_s s (p + k) hk
  have hb : ∀ k, (decide (p + k < s.size) && (s.get! (p + k)).toNat / 64 == 2) = true → p + k < s.size ∧ 128 ≤ (bat s.data.toList (p + k)).toNat := fun k hk => by
    rw [Bool.and_eq_true, decide_eq_true_eq, beq_iff_eq] at hk
    rw [g k hk.1] at hk
    exact ⟨hk.1, by omega⟩
  have one : p + 1 ≤ s.size ∧ ∀ j, j < 1 → 128 ≤ (bat s.data.toList (p + j)).toNat := ⟨h, fun j hj => by
    obtain rfl : j = 0 := by omega
    exact hc⟩
  have h0 : ¬ (s.get! (p + 0)).toNat < 128 := by
    rw [g 0 h]
    show ¬ (bat s.data.toList p).toNat < 128
    omega
  simp only [Utf8.decode, h0, if_false]
  split
  · rename_i hx
    rw [Bool.and_eq_true] at hx
    obtain ⟨q1, q2⟩ := hb 1 hx.2
    split
    · refine ⟨q1, fun j hj => ?_⟩
      have : j = 0 ∨ j = 1 := by
        have hj' : j < 2 := hj
        omega
      rcases this with rfl | rfl
      · exact hc
      · exact q2
    · exact one
  split
  · rename_i _ hx
    rw [Bool.and_eq_true, Bool.and_eq_true] at hx
    obtain ⟨q1, q2⟩ := hb 1 hx.1.2
    obtain ⟨q3, q4⟩ := hb 2 hx.2
    split
    · refine ⟨q3, fun j hj => ?_⟩
      have : j = 0 ∨ j = 1 ∨ j = 2 := by
        have hj' : j < 3 := hj
        omega
      rcases this with rfl | rfl | rfl
      · exact hc
      · exact q2
      · exact q4
    · exact one
  split
  · rename_i _ _ hx
    rw [Bool.and_eq_true, Bool.and_eq_true, Bool.and_eq_true] at hx
    obtain ⟨q1, q2⟩ := hb 1 hx.1.1.2
    obtain ⟨q3, q4⟩ := hb 2 hx.1.2
    obtain ⟨q5, q6⟩ := hb 3 hx.2
    split
    · refine ⟨q5, fun j hj => ?_⟩
      have : j = 0 ∨ j = 1 ∨ j = 2 ∨ j = 3 := by
        have hj' : j < 4 := hj
        omega
      rcases this with rfl | rfl | rfl | rfl
      · exact hc
      · exact q2
      · exact q4
      · exact q6
    · exact one
  · exact one
/-- bytes from 128 on: of no kind, skipped in a remark -/
theorem high_no {c : UInt8} (h : 128 ≤ c.toNat) : blk c = false ∧ mrk c = false ∧ ltr c = false ∧ dgt c = false ∧ wch c = false ∧ c.toNat ≠ 35 ∧ c.toNat ≠ 10 := by
  refine ⟨?_, ?_, ?_, ?_, ?_, by omega, by omega⟩
  · rw [← Bool.not_eq_true, blk_iff]; omega
  · rw [← Bool.not_eq_true, mrk_iff]; omega
  · rw [← Bool.not_eq_true, ltr_iff]; omega
  · rw [← Bool.not_eq_true, dgt_iff]; omega
  · rw [← Bool.not_eq_true, wch_iff]; omega
theorem sk_high {L : By} {p : Nat} : ∀ d, p + d ≤ L.length → (∀ j, j < d → 128 ≤ (bat L (p + j)).toNat) → sk true (L.drop p) = d + sk true (L.drop (p + d))
  | 0, _, _ => by rw [Nat.add_zero, Nat.zero_add]
  | d + 1, h, hc => by
    rw [sk_high d (by omega) (fun j hj => hc j (by omega))]
    have hb := hc d (by omega)
    have hn := high_no hb
    rw [drop_bat (show p + d < L.length by omega), sk, if_pos (by simp), show ((bat L (p + d)).toNat != 10 && (true || (bat L (p + d)).toNat == 35)) = true by
      rw [Bool.true_or, Bool.and_true, bne_iff_ne]; exact hn.2.2.2.2.2.2]
    rw [show p + (d + 1) = p + d + 1 by omega]; omega
/-- columns and lines over them -/
theorem ln_high {L : By} {p d : Nat} (hc : ∀ j, j < d → 128 ≤ (bat L (p + j)).toNat) : ln L (p + d) = ln L p ∧ ls L (p + d) = ls L p :=
  ln_flat L p d fun j hj => by have := hc j hj; omega
/-- one such byte begins nothing -/
theorem tl_high {L : By} {p : Nat} (h : p < L.length) (hc : 128 ≤ (bat L p).toNat) : tl (L.drop p) = (0, 0) ∧ go (L.drop p) := by
  have hn := high_no hc
  rw [drop_bat h]
  exact ⟨tl_none hn.2.1 hn.2.2.1 hn.2.2.2.1, go_cons hn.1 hn.2.2.2.2.2.1⟩
/-- the next step of a range over a text -/
theorem next_low {P : Program} (w : World) (s : ByteArray) (p : Nat) (ty : TypeId) (h : p < s.size) (hc : (bat s.data.toList p).toNat < 128) :
    (Instr.next (.pointer (some ⟨w.heap.size, 0, none⟩)) true ty).run P (w.iter s p) = .ok (.tuple #[.bool true, .int .i64 (p : Int), .int .i32 ((bat s.data.toList p).toNat : Int)]) (w.iter s (p + 1)) := by
  have := Go.run_next_any (P := P) w s p ty h
  rw [decode_low h hc] at this
  exact this
theorem next_top {P : Program} (w : World) (s : ByteArray) (p : Nat) (ty : TypeId) (h : p < s.size) (hc : 128 ≤ (bat s.data.toList p).toNat) :
    ∃ r q : Nat, 128 ≤ r ∧ r ≤ 2147483647 ∧ p < q ∧ q ≤ s.size ∧ (∀ j, j < q - p → 128 ≤ (bat s.data.toList (p + j)).toNat) ∧
      (Instr.next (.pointer (some ⟨w.heap.size, 0, none⟩)) true ty).run P (w.iter s p) = .ok (.tuple #[.bool true, .int .i64 (p : Int), .int .i32 (r : Int)]) (w.iter s q) := by
  obtain ⟨h1, h2, h3, h4⟩ := decode_top h hc
  exact ⟨_, p + (Utf8.decode s p).2, h1, Go.decode_le s p, by omega, h3, fun j hj => h4 j (by omega), Go.run_next_any (P := P) w s p ty h⟩
/-! ### the same where the range's own block k lies anywhere (the loop makes memory): Lib/OthersKept has iterAt_heap, iterAt_other, below_iterAt; ownsRow_iterAt (WalkSmall) keeps a row whose bound lies behind k -/
theorem next_low_at {P : Program} (w : World) (k : Nat) (s : ByteArray) (p : Nat) (ty : TypeId) (hk : w.heap[k]? = some (.stringIter s p)) (h : p < s.size) (hc : (bat s.data.toList p).toNat < 128) :
    (Instr.next (.pointer (some ⟨k, 0, none⟩)) true ty).run P w = .ok (.tuple #[.bool true, .int .i64 (p : Int), .int .i32 ((bat s.data.toList p).toNat : Int)]) (w.iterAt k s (p + 1)) := by
  have := Lib.run_next_any_at (P := P) w k s p ty hk h
  rw [decode_low h hc] at this
  exact this
theorem next_top_at {P : Program} (w : World) (k : Nat) (s : ByteArray) (p : Nat) (ty : TypeId) (hk : w.heap[k]? = some (.stringIter s p)) (h : p < s.size) (hc : 128 ≤ (bat s.data.toList p).toNat) :
    ∃ r q : Nat, 128 ≤ r ∧ r ≤ 2147483647 ∧ p < q ∧ q ≤ s.size ∧ (∀ j, j < q - p → 128 ≤ (bat s.data.toList (p + j)).toNat) ∧
      (Instr.next (.pointer (some ⟨k, 0, none⟩)) true ty).run P w = .ok (.tuple #[.bool true, .int .i64 (p : Int), .int .i32 (r : Int)]) (w.iterAt k s q) := by
  obtain ⟨h1, h2, h3, h4⟩ := decode_top h hc
  exact ⟨_, p + (Utf8.decode s p).2, h1, Go.decode_le s p, by omega, h3, fun j hj => h4 j (by omega), Lib.run_next_any_at (P := P) w k s p ty hk h⟩
end Go.Proofs.Ytgmnoghmkbbheaa.lxY

/-
  Contracts of the program's sumOf, Frame, Next.
-/
import Derived.Test.YtpmmddemeiljjaaWrPb
import Derived.Test.YtpmmddemeiljjaaWrPd
import Derived.Test.YtpmmddemeiljjaaWrG
import Derived.Deep.MidRow
import Derived.Stop.BytesEq
import Derived.Laws.Cover3
namespace Go.Proofs.Ytpmmddemeiljjaa.wrPe
open Go.RowKit
open Go.Proofs.Ytpmmddemeiljjaa.dgM Go.Proofs.Ytpmmddemeiljjaa.wrM Go.Proofs.Ytpmmddemeiljjaa.wrO Go.Proofs.Ytpmmddemeiljjaa.wrA Go.Proofs.Ytpmmddemeiljjaa.wrC Go.Proofs.Ytpmmddemeiljjaa.wrD Go.Proofs.Ytpmmddemeiljjaa.wrE Go.Proofs.Ytpmmddemeiljjaa.wrG Go.Proofs.Ytpmmddemeiljjaa.wrPa Go.Proofs.Ytpmmddemeiljjaa.wrPb
set_option linter.unusedVariables false

/-! ### an array of eight bytes -/
def Row8 (w : World) (g : Nat) (l : List UInt8) : Prop := w.heap[g]? = some (.cells (cB l).toArray 81 (0, 0))
theorem row8_cell {w : World} {g : Nat} {l : List UInt8} (h : Row8 w g l) {j : Nat} (hj : j < l.length) : w.cell? ⟨g, j, none⟩ = some (vB l[j]) := by
  unfold Row8 at h
  simp [World.cell?, h, hj]
theorem row8_free {w : World} {g : Nat} {l : List UInt8} (h : Row8 w g l) (j : Nat) : w.frozen? ⟨g, j, none⟩ = false := by
  unfold Row8 at h; simp [World.frozen?, h]
theorem row8_set {w : World} {g : Nat} {l : List UInt8} (h : Row8 w g l) (j : Nat) (c : UInt8) : Row8 (w.setCell ⟨g, j, none⟩ (vB c)) g (l.set j c) := by
  unfold Row8 at h ⊢
  simp [World.setCell, Array.getElem?_modify, h, List.map_set]
theorem row8_far {w : World} {g b : Nat} {l : List UInt8} (h : Row8 w g l) (hn : g ≠ b) (j : Nat) (v : Value) : Row8 (w.setCell ⟨b, j, none⟩ v) g l := by
  unfold Row8 at h ⊢
  rw [Below.heap_setCell w ⟨b, j, none⟩ v g hn]; exact h
theorem row8_range {w : World} {g : Nat} {l : List UInt8} (h : Row8 w g l) : w.rangeAt g 0 (cB l) := fun j v hv => by
  have hj : j < l.length := by have := (List.getElem?_eq_some_iff.1 hv).1; simpa using this
  rw [Nat.zero_add, row8_cell h hj]
  rw [List.getElem?_map, List.getElem?_eq_getElem hj] at hv
  exact hv
theorem row8_there {w : World} {g : Nat} {l : List UInt8} (h : Row8 w g l) {n : Nat} (hn : l.length = n) : w.there g 0 n := fun j hj => by
  rw [Nat.zero_add, row8_cell h (by omega)]
  exact ⟨rfl, row8_free h j⟩
theorem u8arr : Try.prog.underlying 81 = some (.array 8 5) := by kernel_rfl
theorem i8arr : (Try.prog.info? 81).map (·.size) = some 8 := by kernel_rfl
theorem below_cells {B : Nat} {w : World} (g : Nat) (hg : B ≤ g) : ∀ (vs : List Value) (o : Nat) (w' : World), Below B w w' → Below B w (w'.setCells g o vs)
  | [], _, _, h => h
  | v :: r, o, w', h => below_cells g hg r (o + 1) _ (h.setCell (p := ⟨g, o, none⟩) hg v)
/-- the digits while they are written from the end -/
def w8 (X k : Nat) : List UInt8 := List.replicate (8 - k) 0 ++ bl X k
theorem w8_len (X k : Nat) (h : k ≤ 8) : (w8 X k).length = 8 := by unfold w8; rw [List.length_append, List.length_replicate, bl_len]; omega
theorem set_rep : ∀ (n : Nat) (c : UInt8) (l : List UInt8), (List.replicate (n + 1) 0 ++ l).set n c = List.replicate n 0 ++ c :: l
  | 0, c, l => rfl
  | n + 1, c, l => by
    rw [List.replicate_succ, List.cons_append, List.set_cons_succ, set_rep n c l, List.replicate_succ, List.cons_append]
theorem w8_set (X k n : Nat) (h : n + k = 7) : (w8 X k).set n (by8 (X / 256 ^ k % 256)) = w8 X (k + 1) := by
  unfold w8
  rw [show 8 - k = n + 1 by omega, show 8 - (k + 1) = n by omega, set_rep]
  rfl
theorem w8_all (X : Nat) : w8 X 8 = bg X := rfl

set_option maxRecDepth 10000 in
set_option maxHeartbeats 1000000 in
theorem sumof_any (s : ByteArray) (x : Nat) (hx : Hid (x = sm s0 s.data.toList)) (hs : s.size ≤ 281474976710656) (w : World) :
    Calls Try.prog 55 #[.string s] w fun e w' => e = .returned (.agg (cB (bg x)).toArray) ∧ Below w.heap.size w w' := by
  have cs := fun w => dgA.sum_any s x hx hs w
  have hxl : x < A64 := by rw [hx.out]; exact sm_lt s0_lt _
  clear hx
  go_enter Try.func55, Try.ntmps55
  go_wp2_with (go_at_call 60; (with_reducible refine (cs _).mono ?_); rintro e w' ⟨rfl, rfl⟩)
  go_loopw [3, 5] (fun s3 s5 wr => ∃ (k v : Nat) (i : Int), k ≤ 8 ∧ i + (k : Int) = 7 ∧ s5 = .int .i64 i ∧ s3 = .int .u64 (v : Int) ∧ Hid (v = x / 256 ^ k) ∧ Row8 wr (w.heap.size + 1) (w8 x k) ∧ Row8 wr w.heap.size (w8 x 0) ∧ Below w.heap.size w wr) (fun _ s5 _ => (intOf s5 + 1).toNat)
  case atStart =>
    refine ⟨0, x, 7, by omega, by omega, rfl, rfl, Lib.hid (by rw [Nat.pow_zero, Nat.div_one]), ?_, ?_, ?_⟩
    · have e : (w.alloc (.cells (cB (w8 x 0)).toArray 81)).heap.size = w.heap.size + 1 := by simp
      rw [← e]
      exact heap_alloc_new (w.alloc (.cells (cB (w8 x 0)).toArray 81)) _
    · refine (Below.heap_alloc _ _ w.heap.size (by simp)).trans ?_
      exact heap_alloc_new w _
    · exact ((Below.refl _ w).alloc (Nat.le_refl _) _).alloc (by simp) _
  case round =>
    obtain ⟨k, v, i, hk, hi, rfl, rfl, HV, HR, HZ, HB⟩ := hrel
    by_cases hlt : k < 8
    · obtain ⟨n, rfl⟩ := Int.eq_ofNat_of_zero_le (show 0 ≤ i by omega)
      have hnk : n + k = 7 := by omega
      have bv : v < A64 := by rw [HV.out]; exact Nat.lt_of_le_of_lt (Nat.div_le_self _ _) hxl
      have bv' : v < 18446744073709551616 := bv
      have a1 : bits .and .u64 (v : Int) 255 = (v : Int) % 256 := by rw [and8u v bv]; omega
      have a2 : IntKind.u8.wrap ((v : Int) % 256) = ((by8 (v % 256)).toNat : Int) := by rw [by8_nat (by omega), IntKind.wrap_u8]; omega
      have c2 := row8_cell HR (j := n) (by rw [w8_len _ _ hk]; omega)
      have f2 := row8_free HR n
      have H2 := row8_set HR n (by8 (v % 256))
      rw [HV.out, w8_set x k n hnk, ← HV.out] at H2
      have H2' := Lib.hid H2
      have Z2 := Lib.hid (row8_far HZ (b := w.heap.size + 1) (by omega) n (vB (by8 (v % 256))))
      have B2 := Lib.hid (HB.setCell (p := ⟨w.heap.size + 1, n, none⟩) (by simp) (vB (by8 (v % 256))))
      have HV2 : Hid (v / 256 = x / 256 ^ (k + 1)) := Lib.hid (by rw [HV.out, Nat.pow_succ, Nat.div_div_eq_div_mul])
      have e1 : (v : Int) / 256 = ((v / 256 : Nat) : Int) := by omega
      have bz : v / 256 < 18446744073709551616 := by omega
      clear H2 HR HB HV HZ hnk
      generalize by8 (v % 256) = y at *
      generalize v / 256 = u at *
      go_wp2_with fail
      go_roundw
      case rel => exact ⟨k + 1, u, (n : Int) - 1, by omega, by omega, by go_num, rfl, HV2, H2'.out, Z2.out, B2.out⟩
      case measure => simp [intOf]
    · obtain rfl : k = 8 := by omega
      have t : ¬ (0 : Int) ≤ i := by omega
      have hl8 : (cB (bg x)).length = 8 := by rw [cB_len, bg_len]
      go_wp2_with (first
        | (refine wpList_load_mid rfl 81 (.tmp 4) rfl (w.heap.size + 1) 0 (by rfl) (cB (bg x)) _ (row8_range HR) u8arr rfl (by rw [hl8]; exact i8arr) ?_)
        | (refine wpList_store_mid rfl 81 (.tmp 2) (.tmp 19) rfl w.heap.size 0 (cB (bg x)).toArray (by rfl) (by rfl) (row8_there HZ (by simp [bg_len, w8_len])) (by simp [bg_len, i8arr]) (all_oneCell_toArray (cB_one _)) ?_))
      have hres : Try.f55.results = #[.cell 2 81] := by kernel_rfl
      have hR2 := World.rangeAt_setCells_same wr w.heap.size 0 (cB (bg x)) (row8_there HZ (by rw [w8_len _ _ (by omega), hl8]))
      have hlv := run_loadVar_mid (P := Try.prog) (wr.setCells w.heap.size 0 (cB (bg x))) w.heap.size 0 81 (cB (bg x)) _ hR2 u8arr rfl (by rw [hl8]; exact i8arr)
      have hB5 := below_cells w.heap.size (Nat.le_refl _) (cB (bg x)) 0 wr HB
      generalize wr.setCells w.heap.size 0 (cB (bg x)) = w5 at *
      exact bodyPost_ret (v := .agg (cB (bg x)).toArray) (by simp [results, asAddr, hlv]) rfl ⟨rfl, hB5⟩
end Go.Proofs.Ytpmmddemeiljjaa.wrPe

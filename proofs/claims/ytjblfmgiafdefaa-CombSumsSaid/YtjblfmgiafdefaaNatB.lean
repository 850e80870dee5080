/-
  Contracts of trim, compare, fit, Valid (both), Of, Uint of nat.
-/
import Derived.Test.YtjblfmgiafdefaaNatA
namespace Go.Proofs.Ytjblfmgiafdefaa.natB
open Go.RowKit
open Go.Proofs.Ytjblfmgiafdefaa.natM Go.Proofs.Ytjblfmgiafdefaa.natA
set_option linter.unusedVariables false

set_option maxHeartbeats 1000000 in
theorem trim_any (A : Option Addr) (n c v N : Nat) (hv : Hid (v < 4294967296 ^ n)) (hN : Hid (N = nlen 4294967296 v)) (hnc : n ≤ c) (hn : n ≤ 9223372036854775807) (w : World) (hI : Cel .u32 w A (dg 4294967296 n v)) :
    Calls Try.prog 45 #[.slice A n c] w fun e w' => e = .returned (.slice A N N) ∧ w = w' := by
  have hNn : N ≤ n := by rw [hN.out]; exact nlen_le (by omega) hv.out
  go_enter Try.func45, Try.ntmps45
  go_wp2
  go_loop [3] (fun s => ∃ k : Nat, k ≤ n ∧ N ≤ k ∧ s = .int .i64 (k : Int)) (fun s => (intOf s).toNat)
  case atStart => exact ⟨n, Nat.le_refl _, hNn, rfl⟩
  case round =>
    obtain ⟨k, hk, hNk, rfl⟩ := hrel
    by_cases h0 : k = 0
    · subst h0
      have eN : N = 0 := by omega
      subst eN
      go_wp2
      go_ret
      exact ⟨rfl, rfl⟩
    · obtain ⟨j, rfl⟩ : ∃ j, k = j + 1 := ⟨k - 1, by omega⟩
      obtain ⟨b, off, rfl, hx⟩ := hI.at_ (k := j) (by rw [dg_len]; omega)
      have hd := dg_at (B := 4294967296) (n := n) (v := v) (k := j) (by omega)
      have hvk : Hid (v < 4294967296 ^ (j + 1)) := Lib.hid (Nat.lt_of_lt_of_le (nlen_lt (B := 4294967296) (by omega) v) (Nat.pow_le_pow_right (by omega) (by rw [← hN.out]; exact hNk)))
      have HD := Lib.hid hd
      clear hd
      generalize at0 (dg 4294967296 n v) j = x at *
      by_cases hx0 : x = 0
      · have hNj : N ≤ j := by rw [hN.out]; exact nlen_le (by omega) (top_zero hvk.out (by rw [← HD.out]; exact hx0))
        subst hx0
        clear h0
        go_wp2
        go_round
        case rel => exact ⟨j, by omega, hNj, rfl⟩
        case measure => simp [intOf]
      · have eN : N = j + 1 := by
          have h1 := nlen_gt (B := 4294967296) (by omega) (top_pos (B := 4294967296) (v := v) (n := j) (by rw [← HD.out]; exact hx0))
          rw [← hN.out] at h1; omega
        subst eN
        have hx1 : ((x : Int) == 0) = false := by simpa using hx0
        clear h0 hx0
        go_wp2
        go_ret
        exact ⟨rfl, rfl⟩

set_option maxHeartbeats 1000000 in
theorem compare_any (A D : Option Addr) (n c m d X Y : Nat) (C : Int) (hX : Hid (X < 4294967296 ^ n)) (hY : Hid (Y < 4294967296 ^ m)) (hnm : n = m ∨ (nlen 4294967296 X = n ∧ nlen 4294967296 Y = m)) (hC : Hid (C = cmpI X Y)) (hn : n ≤ 9223372036854775807) (hm : m ≤ 9223372036854775807)
    (w : World) (hI : Cel .u32 w A (dg 4294967296 n X)) (hJ : Cel .u32 w D (dg 4294967296 m Y)) :
    Calls Try.prog 71 #[.slice A n c, .slice D m d] w fun e w' => e = .returned (.int .i64 C) ∧ ∃ k, w' = w.drewN k := by
  by_cases e : n = m
  · subst e
    clear hnm
    go_enter Try.func71, Try.ntmps71
    go_wp2
    go_loopw [5] (fun s wr => ∃ k dd : Nat, k ≤ n ∧ s = .int .i64 ((k : Int) - 1) ∧ Hid (X / 4294967296 ^ k = Y / 4294967296 ^ k) ∧ wr = w.drewN dd) (fun s _ => (intOf s + 1).toNat)
    case atStart => exact ⟨n, 0, Nat.le_refl _, rfl, Lib.hid (by rw [Nat.div_eq_of_lt hX.out, Nat.div_eq_of_lt hY.out]), rfl⟩
    case round =>
      obtain ⟨k, dd, hk, rfl, hq, rfl⟩ := hrel
      by_cases h0 : k = 0
      · subst h0
        have eC : C = 0 := by rw [hC.out]; apply cmpI_eq; have := hq.out; simpa using this
        subst eC
        go_wp2
        go_ret
        exact ⟨rfl, _, rfl⟩
      · obtain ⟨j, rfl⟩ : ∃ j, k = j + 1 := ⟨k - 1, by omega⟩
        obtain ⟨b, off, rfl, hx⟩ := hI.at_ (k := j) (by rw [dg_len]; omega)
        obtain ⟨b2, off2, rfl, hy⟩ := hJ.at_ (k := j) (by rw [dg_len]; omega)
        have hdx := dg_at (B := 4294967296) (n := n) (v := X) (k := j) (by omega)
        have hdy := dg_at (B := 4294967296) (n := n) (v := Y) (k := j) (by omega)
        have hs := cmp_step hq.out
        rw [← hdx, ← hdy] at hs
        have HS := Lib.hid hs
        clear hdx hdy hs h0
        have ej : (((j + 1 : Nat) : Int) - 1) = (j : Int) := by omega
        have i0 : (0 : Int) ≤ (j : Int) := by omega
        have i1 : (j : Int) < (n : Int) := by omega
        generalize at0 (dg 4294967296 n X) j = x at *
        generalize at0 (dg 4294967296 n Y) j = y at *
        by_cases hxy : x = y
        · subst hxy
          have h2 := HS.out.2.1 rfl
          have H2 := Lib.hid h2
          clear h2
          go_wp2
          go_quiet (fail)
          go_wp2
          go_roundw
          case rel => exact ⟨j, _, by omega, by go_num, H2, rfl⟩
          case measure => simp [intOf]
        · have hxy' : ((x : Int) != (y : Int)) = true := by simp; omega
          have eC : Hid (C = cmpI x y) := by
            rcases Nat.lt_or_gt_of_ne hxy with h | h
            · exact Lib.hid (by rw [cmpI_lt h, hC.out]; exact cmpI_lt (HS.out.1 h))
            · exact Lib.hid (by rw [cmpI_gt h, hC.out]; exact cmpI_gt (HS.out.2.2 h))
          have cc := fun w => cmp_u32 x y C eC w
          clear hxy
          go_wp2
          go_quiet (fail)
          go_wp2
          go_quiet ((go_at_call 75; exact quiet_more (cc _)))
          go_wp2
          go_ret
          exact ⟨rfl, _, drew_three _ _ _ _⟩
  · obtain ⟨eX, eY⟩ := hnm.resolve_left e
    have eC : Hid (C = cmpI n m) := by
      rcases Nat.lt_or_gt_of_ne e with h | h
      · exact Lib.hid (by rw [cmpI_lt h, hC.out]; exact cmpI_lt (lt_of_nlen (B := 4294967296) (by omega) (by omega)))
      · exact Lib.hid (by rw [cmpI_gt h, hC.out]; exact cmpI_gt (lt_of_nlen (B := 4294967296) (by omega) (by omega)))
    have cc := fun w => cmp_int n m C eC w
    have e' : ((n : Int) != (m : Int)) = true := by simp; omega
    clear hnm e eX eY
    go_enter Try.func71, Try.ntmps71
    go_wp2_with (go_at_call 74; refine (cc _).mono ?_; rintro e w' ⟨rfl, rfl⟩)
    go_ret
    exact ⟨rfl, 0, rfl⟩

/-! ### Valid -/
def valB (n v : Nat) : Bool := decide (n ≤ 64 ∧ nlen 4294967296 v = n)
theorem valB_big {n v : Nat} (h : 64 < n) : valB n v = false := decide_eq_false (by omega)
theorem valB_nil {v : Nat} (h : v < 4294967296 ^ 0) : valB 0 v = true := decide_eq_true ⟨by omega, by
  have : v = 0 := by simpa using h
  subst this; exact nlen_zero _⟩
theorem valB_zero {j v : Nat} (h : v < 4294967296 ^ (j + 1)) (h0 : v / 4294967296 ^ j % 4294967296 = 0) : valB (j + 1) v = false := decide_eq_false (by
  have := nlen_le (B := 4294967296) (by omega) (top_zero h h0); omega)
theorem valB_top {j v : Nat} (hj : j < 64) (h : v < 4294967296 ^ (j + 1)) (h0 : v / 4294967296 ^ j % 4294967296 ≠ 0) : valB (j + 1) v = true := decide_eq_true ⟨by omega, nlen_eq (by omega) (top_pos h0) h⟩
theorem valB_iff {n v : Nat} : valB n v = true ↔ n ≤ 64 ∧ nlen 4294967296 v = n := decide_eq_true_iff
theorem cel_alloc {K : IntKind} {w : World} {A : Option Addr} {zs : List Nat} (h : Cel K w A zs) (o : Obj) : Cel K (w.alloc o) A zs := h.alloc o

set_option maxHeartbeats 1000000 in
theorem valid_any (A : Option Addr) (n c v : Nat) (R : Bool) (hv : Hid (v < 4294967296 ^ n)) (hR : Hid (R = valB n v)) (hn : n ≤ 9223372036854775807) (w : World) (hI : Cel .u32 w A (dg 4294967296 n v)) :
    Calls Try.prog 46 #[.agg #[.slice A n c]] w fun e w' => e = .returned (.bool R) ∧ Below w.heap.size w w' := by
  by_cases h64 : 64 < n
  · obtain rfl := hR.out.trans (valB_big h64)
    have h1 : decide ((n : Int) ≤ 64) = false := by simp; omega
    go_enter Try.func46, Try.ntmps46
    go_wp2
    go_ret
    exact ⟨rfl, below_new _ _⟩
  · have h1 : decide ((n : Int) ≤ 64) = true := by simp; omega
    by_cases h0 : n = 0
    · subst h0
      obtain rfl := hR.out.trans (valB_nil hv.out)
      go_enter Try.func46, Try.ntmps46
      go_wp2
      go_ret
      exact ⟨rfl, below_new _ _⟩
    · obtain ⟨j, rfl⟩ : ∃ j, n = j + 1 := ⟨n - 1, by omega⟩
      have hI1 := fun o => hI.alloc o
      have hd := dg_at (B := 4294967296) (n := j + 1) (v := v) (k := j) (by omega)
      have h0' : (((j + 1 : Nat) : Int) == 0) = false := by simp; omega
      have ej : (((j + 1 : Nat) : Int) - 1) = (j : Int) := by omega
      obtain ⟨b, off, rfl, hx⟩ := hI.at_ (k := j) (by rw [dg_len]; omega)
      have hx2 := World.block_lt_of_cell? w _ hx
      have hR2 : Hid ((at0 (dg 4294967296 (j + 1) v) j = 0 → R = false) ∧ (at0 (dg 4294967296 (j + 1) v) j ≠ 0 → R = true)) :=
        Lib.hid ⟨fun h => hR.out.trans (valB_zero hv.out (by rw [← hd]; exact h)), fun h => hR.out.trans (valB_top (by omega) hv.out (by rw [← hd]; exact h))⟩
      clear hd h0 hI hI1 hR hv
      generalize at0 (dg 4294967296 (j + 1) v) j = x at *
      by_cases hx0 : x = 0
      · obtain rfl := hR2.out.1 hx0
        subst hx0
        go_enter Try.func46, Try.ntmps46
        go_wp2
        go_ret
        exact ⟨rfl, below_new _ _⟩
      · obtain rfl := hR2.out.2 hx0
        have hx1 : ((x : Int) != 0) = true := by simpa using hx0
        clear hx0
        go_enter Try.func46, Try.ntmps46
        go_wp2
        go_ret
        exact ⟨rfl, below_new _ _⟩

set_option maxHeartbeats 1000000 in
theorem rvalid_any (A : Option Addr) (n c v : Nat) (R : Bool) (hv : Hid (v < 4294967296 ^ n)) (hR : Hid (R = valB n v)) (hn : n ≤ 9223372036854775807) (w : World) (hI : Cel .u32 w A (dg 4294967296 n v)) :
    Calls Try.prog 41 #[.agg #[.slice A n c]] w fun e w' => e = .returned (.bool R) ∧ Below w.heap.size w w' := by
  by_cases h64 : 64 < n
  · obtain rfl := hR.out.trans (valB_big h64)
    have h1 : decide ((n : Int) ≤ 64) = false := by simp; omega
    go_enter Try.func41, Try.ntmps41
    go_wp2
    go_ret
    exact ⟨rfl, below_new _ _⟩
  · have h1 : decide ((n : Int) ≤ 64) = true := by simp; omega
    by_cases h0 : n = 0
    · subst h0
      obtain rfl := hR.out.trans (valB_nil hv.out)
      go_enter Try.func41, Try.ntmps41
      go_wp2
      go_ret
      exact ⟨rfl, below_new _ _⟩
    · obtain ⟨j, rfl⟩ : ∃ j, n = j + 1 := ⟨n - 1, by omega⟩
      have hI1 := fun o => hI.alloc o
      have hd := dg_at (B := 4294967296) (n := j + 1) (v := v) (k := j) (by omega)
      have h0' : (((j + 1 : Nat) : Int) == 0) = false := by simp; omega
      have ej : (((j + 1 : Nat) : Int) - 1) = (j : Int) := by omega
      obtain ⟨b, off, rfl, hx⟩ := hI.at_ (k := j) (by rw [dg_len]; omega)
      have hx2 := World.block_lt_of_cell? w _ hx
      have hR2 : Hid ((at0 (dg 4294967296 (j + 1) v) j = 0 → R = false) ∧ (at0 (dg 4294967296 (j + 1) v) j ≠ 0 → R = true)) :=
        Lib.hid ⟨fun h => hR.out.trans (valB_zero hv.out (by rw [← hd]; exact h)), fun h => hR.out.trans (valB_top (by omega) hv.out (by rw [← hd]; exact h))⟩
      clear hd h0 hI hI1 hR hv
      generalize at0 (dg 4294967296 (j + 1) v) j = x at *
      by_cases hx0 : x = 0
      · obtain rfl := hR2.out.1 hx0
        subst hx0
        go_enter Try.func41, Try.ntmps41
        go_wp2
        go_ret
        exact ⟨rfl, below_new _ _⟩
      · obtain rfl := hR2.out.2 hx0
        have hx1 : ((x : Int) != 0) = true := by simpa using hx0
        clear hx0
        go_enter Try.func41, Try.ntmps41
        go_wp2
        go_ret
        exact ⟨rfl, below_new _ _⟩

/-! ### fit -/
set_option maxHeartbeats 1000000 in
theorem fit_ok (A : Option Addr) (n c v N : Nat) (hv : Hid (v < 4294967296 ^ n)) (hN : Hid (N = nlen 4294967296 v)) (hnc : n ≤ c) (hn : n ≤ 9223372036854775807) (h64 : N ≤ 64) (w : World) (hI : Cel .u32 w A (dg 4294967296 n v)) :
    Calls Try.prog 48 #[.slice A n c] w fun e w' => e = .returned (.tuple #[.agg #[.slice A N N], .int .i64 0]) ∧ Below w.heap.size w w' := by
  have ct := fun o => trim_any A n c v N hv hN hnc hn (w.alloc o) (hI.alloc o)
  have HI := Lib.hid hI
  clear hI hv hN
  go_enter Try.func48, Try.ntmps48
  go_wp2_with (go_at_call 45; refine (ct _).mono ?_; rintro e w' ⟨rfl, rfl⟩)
  exact bodyPost_ret (v := .tuple #[.agg #[.slice A N N], .int .i64 0]) (by simp [results, Try.results48, go_sem]) rfl ⟨rfl, below_new _ _⟩
set_option maxHeartbeats 1000000 in
theorem fit_big (A : Option Addr) (n c v N : Nat) (hv : Hid (v < 4294967296 ^ n)) (hN : Hid (N = nlen 4294967296 v)) (hnc : n ≤ c) (hn : n ≤ 9223372036854775807) (h64 : 64 < N) (w : World) (hI : Cel .u32 w A (dg 4294967296 n v)) :
    Calls Try.prog 48 #[.slice A n c] w fun e w' => e = .returned (.tuple #[.agg #[.slice none 0 0], .int .i64 9]) ∧ Below w.heap.size w w' := by
  have ct := fun o => trim_any A n c v N hv hN hnc hn (w.alloc o) (hI.alloc o)
  have HI := Lib.hid hI
  clear hI hv hN
  go_enter Try.func48, Try.ntmps48
  go_wp2_with (go_at_call 45; refine (ct _).mono ?_; rintro e w' ⟨rfl, rfl⟩)
  exact bodyPost_ret (v := .tuple #[.agg #[.slice none 0 0], .int .i64 9]) (by simp [results, Try.results48, go_sem]) rfl ⟨rfl, below_new _ _⟩

end Go.Proofs.Ytjblfmgiafdefaa.natB

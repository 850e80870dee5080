/-
  The contract of divide of nat: quotient and remainder of two numbers.
-/
import Derived.Test.YtjblfmgiafdefaaNatE
import Derived.Test.YtjblfmgiafdefaaShelf
import Derived.Lib.ItoaNum
namespace Go.Proofs.Ytjblfmgiafdefaa.natF
open Go.RowKit
open Go.Proofs.Ytjblfmgiafdefaa.natM Go.Proofs.Ytjblfmgiafdefaa.natA Go.Proofs.Ytjblfmgiafdefaa.natB Go.Proofs.Ytjblfmgiafdefaa.natC Go.Proofs.Ytjblfmgiafdefaa.natD Go.Proofs.Ytjblfmgiafdefaa.natE
set_option linter.unusedVariables false

theorem lead (x : Nat) (h0 : 0 < x) (h1 : x < 4294967296) : ∃ s : Nat, s ≤ 31 ∧ x * 2 ^ s < 4294967296 ∧ ∀ w, Calls Try.prog 63 #[.int .u32 (x : Int)] w fun e w' => e = .returned (.int .i64 (s : Int)) ∧ w = w' := by
  obtain ⟨a1, a2, a3⟩ := Lib.bitLenAux_bounds 64 x (by omega) (by omega)
  have a4 : Lib.bitLen x ≤ 32 := Lib.bitLen_le x 32 (by omega) (by omega)
  have e : Lib.bitLenAux 64 x = Lib.bitLen x := rfl
  rw [e] at a1 a2 a3
  refine ⟨32 - Lib.bitLen x, by omega, ?_, fun w => ?_⟩
  · have h2 : x * 2 ^ (32 - Lib.bitLen x) < 2 ^ Lib.bitLen x * 2 ^ (32 - Lib.bitLen x) := Nat.mul_lt_mul_of_pos_right a3 (Nat.pow_pos (by omega))
    rw [← Nat.pow_add, show Lib.bitLen x + (32 - Lib.bitLen x) = 32 by omega] at h2
    simpa using h2
  · have c := Try.bits_LeadingZeros32 (x : Int) w (by omega) (by omega)
    rw [Int.toNat_natCast] at c
    refine c.mono fun e w' h => ⟨?_, h.2.symm⟩
    rw [h.1]; congr 2; omega

/-- a slice of the digits of a number -/
def Num (w : World) (A : Option Addr) (n c v : Nat) : Prop := n = nlen 4294967296 v ∧ n ≤ c ∧ Cel .u32 w A (dg 4294967296 n v)
theorem Num.below {w w1 : World} {A : Option Addr} {n c v : Nat} (h : Num w A n c v) (hb : Below w.heap.size w w1) : Num w1 A n c v := ⟨h.1, h.2.1, h.2.2.below hb⟩
theorem Num.lt {w : World} {A : Option Addr} {n c v : Nat} (h : Num w A n c v) : v < 4294967296 ^ n := by rw [h.1]; exact nlen_lt (by omega) v

/-- the slice lies in memory that is new since then -/
def New (w : World) (A : Option Addr) (n : Nat) : Prop := 0 < n → ∀ ad, A = some ad → w.heap.size ≤ ad.block
theorem New.far {w : World} {A : Option Addr} {n b : Nat} (h : New w A n) (hb : b < w.heap.size) : Far A n b := fun hp ad e => by
  have := h hp ad e; omega
theorem New.none_ (w : World) (n : Nat) : New w none n := fun _ _ e => by cases e
theorem New.some_ {w : World} {g o n : Nat} (h : w.heap.size ≤ g) : New w (some ⟨g, o, none⟩) n := fun _ _ e => by injection e with e; subst e; exact h
def DivP (Q R : Nat) (w : World) (e : Ending) (w' : World) : Prop :=
  ∃ A n c A2 n2 c2, e = .returned (.tuple #[.slice A n c, .slice A2 n2 c2]) ∧ Num w' A n c Q ∧ Num w' A2 n2 c2 R ∧ New w A n ∧ New w A2 n2 ∧ Below w.heap.size w w'

theorem Num.nil (w : World) : Num w none 0 0 0 := ⟨(nlen_zero _).symm, by omega, Cel.nil _ _ _⟩
theorem CloneP.num {n v : Nat} {w : World} {e : Ending} {w' : World} (hn : n = nlen 4294967296 v) (h : CloneP n v w e w') : ∃ A c, e = .returned (.slice A n c) ∧ Num w' A n c v ∧ New w A n ∧ Below w.heap.size w w' := by
  obtain ⟨A, c, he, hc, ho, hb⟩ := h
  rcases ho with ⟨rfl, rfl⟩ | ⟨g, rfl, hg, ho⟩
  · exact ⟨none, c, he, ⟨hn, hc, Cel.nil _ _ _⟩, New.none_ _ _, hb⟩
  · exact ⟨_, c, he, ⟨hn, hc, ho.all⟩, New.some_ hg, hb⟩

set_option maxHeartbeats 1000000 in
theorem div_less (A D : Option Addr) (m c n d X Y : Nat) (hX : Hid (m = nlen 4294967296 X)) (hY : Hid (n = nlen 4294967296 Y)) (hmn : m < n) (hm : m ≤ 70) (w : World) (hI : Cel .u32 w A (dg 4294967296 m X)) :
    Calls Try.prog 49 #[.slice A m c, .slice D n d] w (DivP (X / Y) (X % Y) w) := by
  have hlt : X < Y := lt_of_nlen (B := 4294967296) (by omega) (by rw [← hX.out, ← hY.out]; exact hmn)
  rw [Nat.div_eq_of_lt hlt, Nat.mod_eq_of_lt hlt]
  have cc := clone_any A m c X (by omega) w hI
  have HX := hX
  clear hI hX hY hlt
  go_enter Try.func49, Try.ntmps49
  go_wp2_with (go_at_call 62; refine cc.mono ?_; intro e w1 hcl; obtain ⟨A1, c1, rfl, hn1, hw1, hb1⟩ := CloneP.num HX.out hcl; have HN := Lib.hid hn1; have HW := Lib.hid hw1; have HB := Lib.hid hb1; clear hcl hn1 hw1 hb1)
  go_ret2
  exact ⟨none, 0, 0, A1, m, c1, rfl, Num.nil _, HN.out, New.none_ _ _, HW.out, HB.out⟩

theorem div_round {X D j M n N j1 dl : Nat} (hn : n = j1 + 1) (hN : N = n + 1) (hM : M = n + dl + 1) (hj : j < dl + 1) (hD0 : 4294967296 ^ j1 ≤ D) (hD : D < 4294967296 ^ n) :
    ∃ R W Q : Nat, R = X % (4294967296 ^ (j + 1) * D) ∧ Q = W / D ∧ Q < 4294967296 ∧ W < D * 4294967296 ∧ Q = X / D / 4294967296 ^ j % 4294967296 ∧ (∀ k, k < N → at0 (dg 4294967296 M R) (j + k) = W / 4294967296 ^ k % 4294967296) ∧
      put (dg 4294967296 M R) j (dg 4294967296 N (W % D)) = dg 4294967296 M (X % (4294967296 ^ j * D)) := by
  have hP : 0 < 4294967296 ^ j := Nat.pow_pos (by omega)
  have hDp : 0 < D := Nat.lt_of_lt_of_le (Nat.pow_pos (by omega)) hD0
  obtain ⟨a1, a2, a3⟩ := div_step (B := 4294967296) (X := X) (D := D) (i := j) (by omega) hDp
  refine ⟨_, _, _, rfl, rfl, by rw [a2]; exact Nat.mod_lt _ (by omega), a1, a2, fun k hk => ?_, ?_⟩
  · rw [dg_at (by omega), Nat.div_div_eq_div_mul, ← Nat.pow_add]
  · generalize X % (4294967296 ^ (j + 1) * D) = R at *
    have e1 : (4294967296 : Nat) ^ N = 4294967296 ^ n * 4294967296 := by rw [hN, Nat.pow_succ]
    have h1 : R / 4294967296 ^ j < 4294967296 ^ N := by omega
    have h2 : R < 4294967296 ^ (j + N) := by
      rw [Nat.pow_add, Nat.mul_comm]
      exact (Nat.div_lt_iff_lt_mul hP).1 h1
    have h3 := Nat.mod_lt (R / 4294967296 ^ j) hDp
    rw [put_dg (by omega) (by omega) (by omega) h2, a3]
theorem own_dg {w : World} {g n m v : Nat} (h : Own .u32 w g (dg 4294967296 m v)) (hn : n ≤ m) : Cel .u32 w (some ⟨g, 0, none⟩) (dg 4294967296 n v) :=
  own_cel h (by rw [dg_len]; omega) fun j hj => by rw [Nat.zero_add, dg_at (by omega)]

set_option maxHeartbeats 8000000 in
theorem div_more (A D : Option Addr) (m c n d j1 dl M X Y : Nat) (hX : Hid (X < 4294967296 ^ m)) (hY : Hid (n = nlen 4294967296 Y)) (hn : Hid (n = j1 + 1)) (hm : Hid (m = n + dl)) (hM : Hid (M = m + 1)) (hm70 : m ≤ 64) (hY0 : Hid (0 < Y)) (w : World) (hI : Cel .u32 w A (dg 4294967296 m X)) (hJ : Cel .u32 w D (dg 4294967296 n Y)) :
    Calls Try.prog 49 #[.slice A m c, .slice D n d] w (DivP (X / Y) (X % Y) w) := by
  have hn1 := hn.out
  have hm1 := hm.out
  have hM1 := hM.out
  obtain ⟨b, off, rfl, c1⟩ := hJ.at_ (k := j1) (by rw [dg_len]; omega)
  rw [dg_at (by omega)] at c1
  have hYlt : Y < 4294967296 ^ n := by rw [hY.out]; exact nlen_lt (by omega) Y
  have hYge : 4294967296 ^ j1 ≤ Y := nlen_low (by omega) (by rw [← hY.out]; exact hn.out.symm)
  have htop : Y / 4294967296 ^ j1 % 4294967296 = Y / 4294967296 ^ j1 := Nat.mod_eq_of_lt (Nat.div_lt_of_lt_mul (by rw [hn.out, Nat.pow_succ] at hYlt; exact hYlt))
  have hP : 0 < 4294967296 ^ j1 := Nat.pow_pos (by omega)
  obtain ⟨t, ht⟩ : ∃ t, t = Y / 4294967296 ^ j1 % 4294967296 := ⟨_, rfl⟩
  have ht0 : 0 < t := by rw [ht, htop]; exact Nat.div_pos hYge hP
  have ht1 : t < 4294967296 := by rw [ht]; exact Nat.mod_lt _ (by omega)
  obtain ⟨s, hs, hs2, cl⟩ := lead t ht0 ht1
  rw [← ht] at c1
  obtain ⟨D', hD'⟩ : ∃ D', D' = Y * 2 ^ s := ⟨_, rfl⟩
  obtain ⟨X', hX'⟩ : ∃ X', X' = X * 2 ^ s := ⟨_, rfl⟩
  have hS : 0 < 2 ^ s := Nat.pow_pos (by omega)
  have hD1 : D' < 4294967296 ^ n := by
    have e1 := Nat.mod_add_div Y (4294967296 ^ j1)
    rw [← htop, ← ht] at e1
    have e2 := Nat.mod_lt Y hP
    have e3 : Y < 4294967296 ^ j1 * (t + 1) := by rw [Nat.mul_add, Nat.mul_one]; omega
    have e4 : (t + 1) * 2 ^ s ≤ 4294967296 := by
      obtain ⟨T, hT, _, _⟩ := two_pow_s s hs
      have e5 : t * 2 ^ s < T * 2 ^ s := by rw [Nat.mul_comm T, ← hT]; exact hs2
      have e6 := Nat.lt_of_mul_lt_mul_right e5
      have e7 : (t + 1) * 2 ^ s ≤ T * 2 ^ s := Nat.mul_le_mul_right _ e6
      rw [Nat.mul_comm T, ← hT] at e7; exact e7
    have e8 : Y * 2 ^ s < 4294967296 ^ j1 * (t + 1) * 2 ^ s := Nat.mul_lt_mul_of_pos_right e3 hS
    have e9 : 4294967296 ^ j1 * (t + 1) * 2 ^ s ≤ 4294967296 ^ j1 * 4294967296 := by rw [Nat.mul_assoc]; exact Nat.mul_le_mul_left _ e4
    rw [hD', hn.out, Nat.pow_succ]; omega
  have hD0 : 4294967296 ^ j1 ≤ D' := by
    rw [hD']; exact Nat.le_trans hYge (Nat.le_mul_of_pos_right Y hS)
  have hDn : Hid (n = nlen 4294967296 D') := Lib.hid (by rw [hn.out]; exact (nlen_eq (by omega) hD0 (by rw [← hn.out]; exact hD1)).symm)
  have hXs : X' < 4294967296 ^ (dl + 1) * D' := by
    have := div_start (B := 4294967296) (s := 2 ^ s) (by omega) hX.out (show j1 + 1 = nlen 4294967296 Y by rw [← hY.out, hn.out]) (show j1 ≤ m by omega)
    rw [show m - j1 = dl + 1 by omega, ← hX', ← hD'] at this
    exact this.resolve_right (by omega)
  have hDpos : Hid (0 < D') := Lib.hid (Nat.lt_of_lt_of_le hP hD0)
  have eQ : X' / D' = X / Y := by rw [hX', hD', Nat.mul_div_mul_right _ _ hS]
  have eR : X' % D' / 2 ^ s = X % Y := by rw [hX', hD', Nat.mul_mod_mul_right, Nat.mul_div_cancel _ hS]
  have hQlt : X' / D' < 4294967296 ^ (dl + 1) := by rw [Nat.div_lt_iff_lt_mul hDpos.out]; exact hXs
  have HQlt := Lib.hid hQlt
  have HEQ := Lib.hid eQ
  have HER := Lib.hid eR
  have HXs := Lib.hid hXs
  have HD0 := Lib.hid hD0
  have HD1 := Lib.hid hD1
  have csx := fun w hI => shl_any A m c s X hX hs (by omega) w hI
  have csy := fun w hI => shl_any (some ⟨b, off, none⟩) n d s Y (Lib.hid hYlt) hs (by omega) w hI
  rw [← hX', ← hM.out] at csx
  rw [← hD'] at csy
  have CX := Lib.hid csx
  have CY := Lib.hid csy
  have HI := Lib.hid hI
  have HJ := Lib.hid hJ
  have ed : (m : Int) - (n : Int) = (dl : Int) := by omega
  have hmk := make_u32 (dl + 1) (by omega)
  have e0 : ((dl + 1 : Nat) : Int) = (dl : Int) + 1 := by omega
  rw [e0] at hmk
  have ej1 : (n : Int) - 1 = (j1 : Int) := by omega
  have j10 : (0 : Int) ≤ (j1 : Int) := by omega
  have j11 : (j1 : Int) < (n : Int) := by omega
  have hnm : ¬ m < n := by omega
  have HS := Lib.hid hs
  clear hn1 hm1 hM1 hYlt hYge htop hP ht hs2 hX' hD' hS hD1 hD0 hXs eQ eR hQlt csx csy hI hJ e0
  go_enter Try.func49, Try.ntmps49
  go_wp2_with (first
    | (go_at_call 63; refine (cl _).mono ?_; rintro e w' ⟨rfl, rfl⟩)
    | (go_at_call 64; first
        | ((with_reducible refine (CX.out _ HI.out).mono ?_); rintro e w1 ⟨g1, rfl, hg1, ho1, hb1⟩; have HO1 := Lib.hid ho1; have HB1 := Lib.hid hb1; have HG1 := Lib.hid hg1; have HJ1 := Lib.hid (HJ.out.below hb1); clear ho1 hb1 hg1)
        | ((with_reducible refine (CY.out _ HJ1.out).mono ?_); rintro e w2 ⟨g2, rfl, hg2, ho2, hb2⟩; have HO2 := Lib.hid ho2; have HB2 := Lib.hid hb2; have HG2 := Lib.hid hg2; clear ho2 hb2 hg2))
    | (go_at_call 45; (with_reducible refine (trim_any (some ⟨g2, 0, none⟩) (n + 1) (n + 1) D' n (Lib.hid (Nat.lt_of_lt_of_le HD1.out (Nat.pow_le_pow_right (by omega) (by omega)))) hDn (Nat.le_refl _) (by omega) _ HO2.out.all).mono ?_); rintro e w' ⟨rfl, rfl⟩))
  obtain ⟨w3, hw3⟩ : ∃ w3, w2.alloc (Obj.cells (List.map (fun x : Nat => Value.int IntKind.u32 (x : Int)) (dg 4294967296 (dl + 1) 0)).toArray 55) = w3 := ⟨_, rfl⟩
  have o1 : Own .u32 w3 g1 (dg 4294967296 M X') := by rw [← hw3]; exact (HO1.out.below HB2.out).alloc _
  have o2 : Own .u32 w3 g2 (dg 4294967296 (n + 1) D') := by rw [← hw3]; exact HO2.out.alloc _
  have o3 : Own .u32 w3 w2.heap.size (dg 4294967296 (dl + 1) 0) := by rw [← hw3]; exact Own.new_ .u32 w2 55 _ rfl
  have bel : Below w.heap.size w w3 := by rw [← hw3]; exact (below_on HB1.out HB2.out).alloc (Nat.le_trans HB1.out.size HB2.out.size) _
  have HNE : Hid (w.heap.size ≤ g1 ∧ w.heap.size ≤ w2.heap.size ∧ g1 ≠ g2 ∧ g1 ≠ w2.heap.size ∧ g2 ≠ w2.heap.size) := Lib.hid (by
    have l1 := HO1.out.lt
    have l2 := HO2.out.lt
    have l3 := HG1.out
    have l4 := HG2.out
    have l5 := HB1.out.size
    have l6 := HB2.out.size
    omega)
  rw [hw3]
  obtain ⟨g3, hg3⟩ : ∃ g3, w2.heap.size = g3 := ⟨_, rfl⟩
  rw [hg3] at o3 HNE ⊢
  clear hw3 hg3 HO1 HO2 HB1 HB2 HG1 HG2 HI HJ HJ1 CX CY hmk cl c1
  have hMb : M ≤ 65 := by have := hM.out; omega
  have HM3 : Hid (M = n + dl + 1) := Lib.hid (by have := hM.out; have := hm.out; omega)
  obtain ⟨N, hNe⟩ : ∃ N, N = n + 1 := ⟨_, rfl⟩
  have hN : Hid (N = n + 1) := Lib.hid hNe
  go_loopw [11] (fun i wr => ∃ k : Nat, k ≤ dl + 1 ∧ i = .int .i64 ((k : Int) - 1) ∧ Own .u32 wr g1 (dg 4294967296 M (X' % (4294967296 ^ k * D'))) ∧ Own .u32 wr g2 (dg 4294967296 (n + 1) D') ∧
      Own .u32 wr g3 (put (dg 4294967296 (dl + 1) 0) (0 + k) (dg 4294967296 (dl + 1 - k) (X' / D' / 4294967296 ^ k))) ∧ Below w.heap.size w wr) (fun i _ => (intOf i + 1).toNat)
  case atStart => exact ⟨dl + 1, by omega, int_eq (by omega), by rw [Nat.mod_eq_of_lt HXs.out]; exact o1, o2, by rw [Nat.sub_self, dg_zero, put_nil]; exact o3, bel⟩
  case round =>
    obtain ⟨k, hk, rfl, o1, o2, o3, bel⟩ := hrel
    obtain ⟨ne1, ne2, ne3, ne4, ne5⟩ := HNE.out
    by_cases h0 : k = 0
    · subst h0
      rw [Nat.pow_zero, Nat.one_mul] at o1
      rw [Nat.zero_add, Nat.sub_zero, Nat.pow_zero, Nat.div_one, put_full (by rw [dg_len, dg_len])] at o3
      have hr : X' % D' < 4294967296 ^ M := by
        have h1 := Nat.mod_lt X' hDpos.out
        have h2 : (4294967296 : Nat) ^ n ≤ 4294967296 ^ M := Nat.pow_le_pow_right (by omega) (by have := HM3.out; omega)
        have := HD1.out
        omega
      have hr2 : X / Y < 4294967296 ^ (dl + 1) := by rw [← HEQ.out]; exact HQlt.out
      have hr3 : X % Y < 4294967296 ^ M := by
        rw [← HER.out]; exact Nat.lt_of_le_of_lt (Nat.div_le_self _ _) hr
      have csr := shr_any g1 0 M M s (X' % D') (dg 4294967296 M (X' % D')) (by rw [dg_len]; omega) (Lib.hid fun j hj => by rw [Nat.zero_add, dg_at hj]) (Lib.hid hr) HS.out (by omega) wr o1
      rw [HER.out, put_full (by rw [dg_len, dg_len])] at csr
      rw [HEQ.out] at o3
      obtain ⟨n1, hn1⟩ : ∃ n1, Hid (n1 = nlen 4294967296 (X / Y)) := ⟨_, rfl⟩
      obtain ⟨n2, hn2⟩ : ∃ n2, Hid (n2 = nlen 4294967296 (X % Y)) := ⟨_, rfl⟩
      have ct1 := fun w I => trim_any (some ⟨g3, 0, none⟩) (dl + 1) (dl + 1) (X / Y) n1 (Lib.hid hr2) hn1 (Nat.le_refl _) (by omega) w I
      have ct2 := fun w I => trim_any (some ⟨g1, 0, none⟩) M M (X % Y) n2 (Lib.hid hr3) hn2 (Nat.le_refl _) (by omega) w I
      have HN1 : Hid (n1 ≤ dl + 1) := Lib.hid (by rw [hn1.out]; exact nlen_le (by omega) hr2)
      have HN2 : Hid (n2 ≤ M) := Lib.hid (by rw [hn2.out]; exact nlen_le (by omega) hr3)
      have H3 := Lib.hid o3
      have HB := Lib.hid bel
      clear o1 o2 o3 bel hr hr2 hr3
      go_wp2_with (first
        | (go_at_call 66; refine csr.mono ?_; rintro e w4 ⟨rfl, ho, hg⟩; have HO := Lib.hid ho; have HG := Lib.hid hg; have H34 := Lib.hid (H3.out.grown hg (by simpa using Ne.symm ne4)); clear ho hg)
        | (go_at_call 45; first
            | ((with_reducible refine (ct1 _ H34.out.all).mono ?_); rintro e w' ⟨rfl, rfl⟩)
            | ((with_reducible refine (ct2 _ HO.out.all).mono ?_); rintro e w' ⟨rfl, rfl⟩)))
      go_ret2
      exact ⟨some ⟨g3, 0, none⟩, n1, n1, some ⟨g1, 0, none⟩, n2, n2, rfl, ⟨hn1.out, Nat.le_refl _, own_dg H34.out HN1.out⟩, ⟨hn2.out, Nat.le_refl _, own_dg HO.out HN2.out⟩, New.some_ ne2, New.some_ ne1, below_grown HB.out HG.out ne1 HB.out.size⟩
    · obtain ⟨j, rfl⟩ : ∃ j, k = j + 1 := ⟨k - 1, by omega⟩
      obtain ⟨R, W, Q, r1, r2, r3, r4, r5, r6, r7⟩ := div_round (X := X') (M := M) (j := j) (N := N) hn.out hN.out HM3.out (by omega) HD0.out HD1.out
      rw [← r1] at o1
      have ct := take_any g1 j n j1 N N n W D' (some ⟨g2, 0, none⟩) (dg 4294967296 M R) hn hN (by rw [dg_len]; have := HM3.out; omega) (Lib.hid r6) (Lib.hid r4) HD0 HD1 (by omega) wr o1 (own_dg o2 (by omega)) (Far.ne (Ne.symm ne3))
      rw [r7, ← r2] at ct
      have hlen : (put (dg 4294967296 (dl + 1) 0) (0 + (j + 1)) (dg 4294967296 (dl + 1 - (j + 1)) (X' / D' / 4294967296 ^ (j + 1)))).length = dl + 1 := by rw [put_len (by rw [dg_len, dg_len]; omega), dg_len]
      have HP : Hid ((put (dg 4294967296 (dl + 1) 0) (0 + (j + 1)) (dg 4294967296 (dl + 1 - (j + 1)) (X' / D' / 4294967296 ^ (j + 1)))).set (0 + j) Q = put (dg 4294967296 (dl + 1) 0) (0 + j) (dg 4294967296 (dl + 1 - j) (X' / D' / 4294967296 ^ j))) :=
        Lib.hid (put_down (n := dl + 1) (by omega) (by rw [dg_len]; omega) r5)
      have HL := Lib.hid hlen
      have H3 := Lib.hid o3
      have H2 := Lib.hid o2
      have HB := Lib.hid bel
      obtain ⟨p, hp⟩ : ∃ p, p = j + n := ⟨_, rfl⟩
      obtain ⟨P, hPe⟩ : ∃ P, P = p + 1 := ⟨_, rfl⟩
      have ej : (((j + 1 : Nat) : Int) - 1) = (j : Int) := by omega
      have ep : (j : Int) + (n : Int) = (p : Int) := by omega
      have eP : (p : Int) + 1 = (P : Int) := by omega
      have eN : P - j = N := by omega
      have i0 : (0 : Int) ≤ (j : Int) := by omega
      have i1 : (j : Int) < ((dl + 1 : Nat) : Int) := by omega
      have i2 : j ≤ P := by omega
      have i3 : P ≤ M := by have := HM3.out; omega
      have HPe := Lib.hid hPe
      clear o1 o2 o3 bel r1 r2 r4 r5 r6 r7 hlen h0 hp hPe hNe
      go_wp2_with (go_at_call 65; refine ct.mono ?_; rintro e w4 ⟨rfl, ho, hg⟩; have HO := Lib.hid ho; have HG := Lib.hid hg; have H34 := Lib.hid (H3.out.grown hg (by simpa using Ne.symm ne4)); have H24 := Lib.hid (H2.out.grown hg (by simpa using Ne.symm ne3)); have c3 := H34.out.cell (j := j) (by rw [HL.out]; omega); have f3 := H34.out.frozen j; clear ho hg)
      go_roundw
      case rel =>
        refine ⟨j, by omega, rfl, HO.out.far ne4 _, H24.out.far ne5 _, ?_, (below_grown HB.out HG.out ne1 HB.out.size).setCell ne2 _⟩
        have := H34.out.set_ (j := 0 + j) (x := Q) (by rw [HL.out]; omega)
        rw [HP.out, Nat.zero_add] at this
        rw [Nat.zero_add]
        exact this
      case measure => simp [intOf]
theorem div_any (A D : Option Addr) (m c n d X Y : Nat) (hX : Hid (m = nlen 4294967296 X)) (hY : Hid (n = nlen 4294967296 Y)) (hm : m ≤ 64) (hY0 : Hid (0 < Y)) (w : World) (hI : Cel .u32 w A (dg 4294967296 m X)) (hJ : Cel .u32 w D (dg 4294967296 n Y)) :
    Calls Try.prog 49 #[.slice A m c, .slice D n d] w (DivP (X / Y) (X % Y) w) := by
  by_cases h : m < n
  · exact div_less A D m c n d X Y hX hY h (by omega) w hI
  · have hp := nlen_pos (B := 4294967296) (by omega) hY0.out
    rw [← hY.out] at hp
    exact div_more A D m c n d (n - 1) (m - n) (m + 1) X Y (Lib.hid (by rw [hX.out]; exact nlen_lt (by omega) X)) hY (Lib.hid (by omega)) (Lib.hid (by omega)) (Lib.hid rfl) hm hY0 w hI hJ
end Go.Proofs.Ytjblfmgiafdefaa.natF

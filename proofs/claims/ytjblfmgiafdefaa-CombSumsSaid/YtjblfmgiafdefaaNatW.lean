/-
  The reference's divide: bit by bit.
-/
import Derived.Test.YtjblfmgiafdefaaNatV
namespace Go.Proofs.Ytjblfmgiafdefaa.natW
open Go.RowKit
open Go.Proofs.Ytjblfmgiafdefaa.natM Go.Proofs.Ytjblfmgiafdefaa.natA Go.Proofs.Ytjblfmgiafdefaa.natB Go.Proofs.Ytjblfmgiafdefaa.natC Go.Proofs.Ytjblfmgiafdefaa.natD Go.Proofs.Ytjblfmgiafdefaa.natE Go.Proofs.Ytjblfmgiafdefaa.natF Go.Proofs.Ytjblfmgiafdefaa.natG Go.Proofs.Ytjblfmgiafdefaa.natR Go.Proofs.Ytjblfmgiafdefaa.natS Go.Proofs.Ytjblfmgiafdefaa.natT Go.Proofs.Ytjblfmgiafdefaa.natU Go.Proofs.Ytjblfmgiafdefaa.natV
set_option linter.unusedVariables false

theorem hal_cel {w : World} {A : Option Addr} {n c v : Nat} (h : Hal w A n c v) : Cel .i64 w A (dg 65536 n v) := h.2.2
theorem hal_len {w : World} {A : Option Addr} {n c v : Nat} (h : Hal w A n c v) : n = nlen 65536 v := h.1
theorem cel_cell {K : IntKind} {w : World} {b off : Nat} {zs : List Nat} (h : Cel K w (some ⟨b, off, none⟩) zs) {k : Nat} (hk : k < zs.length) : w.cell? ⟨b, off + k, none⟩ = some (.int K (at0 zs k : Int)) := by
  obtain ⟨b', off', e, hc⟩ := h.at_ hk
  injection e with e; injection e with e1 e2; subst e1 e2; exact hc
theorem hal_set {w : World} {A : Option Addr} {n c v : Nat} {p : Addr} (h : Hal w A n c v) (hf : Far A n p.block) (u : Value) : Hal (w.setCell p u) A n c v := ⟨h.1, h.2.1, h.2.2.set_ (by rw [dg_len]; exact hf) u⟩
theorem cel_one (w : World) (T : TypeId) : Cel .i64 (w.alloc (.cells #[.int .i64 1] T)) (some ⟨w.heap.size, 0, none⟩) (dg 65536 1 1) := fun _ => ⟨w.heap.size, 0, rfl, fun j x hx => by
  have hj := lt_of_some hx
  rw [dg_len] at hj
  obtain rfl : j = 0 := by omega
  have : x = 1 := by simp [dg] at hx; exact hx.symm
  subst this
  rw [cell_of_row _ _ _ _ _ _ (heap_alloc_new w _)]; rfl⟩

/-- one bit more: the number so far, the quotient, the remainder -/
theorem bit_step {U Y t d e : Nat} (hY : 0 < Y) (ht : t < 16) (hd : d = U / 2 ^ t % 2) (he : e = if Y ≤ 2 * (U / 2 ^ (t + 1) % Y) + d then 1 else 0) :
    2 * (U / 2 ^ (t + 1) % Y) + d - e * Y = U / 2 ^ t % Y ∧ (U / 2 ^ (t + 1) / Y % 2 ^ (16 - (t + 1))) * 2 ^ (t + 1) + e * 2 ^ t = (U / 2 ^ t / Y % 2 ^ (16 - t)) * 2 ^ t ∧ 2 * (U / 2 ^ (t + 1) % Y) + d < 2 * Y := by
  have e1 : U / 2 ^ t = 2 * (U / 2 ^ (t + 1)) + d := by
    have := Nat.div_add_mod (U / 2 ^ t) 2
    rw [Nat.div_div_eq_div_mul, ← Nat.pow_succ, ← hd] at this
    exact this.symm
  obtain ⟨Z, hZ⟩ : ∃ Z, Z = U / 2 ^ (t + 1) := ⟨_, rfl⟩
  rw [← hZ] at e1 he ⊢
  have hr := Nat.mod_lt Z hY
  have hd2 : d < 2 := by rw [hd]; exact Nat.mod_lt _ (by omega)
  have hz := Nat.div_add_mod Z Y
  have key : U / 2 ^ t = Y * (2 * (Z / Y) + e) + (2 * (Z % Y) + d - e * Y) ∧ 2 * (Z % Y) + d - e * Y < Y := by
    have h2 : Y * (2 * (Z / Y)) = 2 * (Y * (Z / Y)) := by rw [Nat.mul_left_comm]
    by_cases h : Y ≤ 2 * (Z % Y) + d
    · rw [if_pos h] at he
      subst he
      rw [Nat.mul_add, Nat.mul_one, Nat.one_mul, h2, e1]
      omega
    · rw [if_neg h] at he
      subst he
      rw [Nat.mul_add, Nat.mul_zero, Nat.zero_mul, h2, e1]
      omega
  have hq : U / 2 ^ t / Y = 2 * (Z / Y) + e := by
    rw [key.1, Nat.mul_add_div hY, Nat.div_eq_of_lt key.2, Nat.add_zero]
  have hm : U / 2 ^ t % Y = 2 * (Z % Y) + d - e * Y := by
    rw [key.1, Nat.mul_add_mod, Nat.mod_eq_of_lt key.2]
  refine ⟨hm.symm, ?_, by omega⟩
  rw [hq]
  have he2 : e < 2 := by rw [he]; split <;> omega
  obtain ⟨s, hs⟩ : ∃ s, 16 - t = s + 1 := ⟨15 - t, by omega⟩
  rw [hs, show 16 - (t + 1) = s by omega]
  have h3 : (2 * (Z / Y) + e) % 2 ^ (s + 1) = 2 * (Z / Y % 2 ^ s) + e := by
    rw [Nat.pow_succ, Nat.mul_comm (2 ^ s) 2, Nat.mod_mul]
    have a1 : (2 * (Z / Y) + e) % 2 = e := by omega
    have a2 : (2 * (Z / Y) + e) / 2 = Z / Y := by omega
    rw [a1, a2]; omega
  rw [h3, Nat.pow_succ, Nat.add_mul, Nat.mul_comm 2 (Z / Y % 2 ^ s), Nat.mul_assoc, Nat.mul_comm 2 (2 ^ t)]
theorem bit_of {X i t : Nat} (ht : t < 16) : (X / 65536 ^ i % 65536) / 2 ^ t % 2 = X / 65536 ^ i / 2 ^ t % 2 := by
  generalize X / 65536 ^ i = U
  have e : (65536 : Nat) = 2 ^ t * (2 * 2 ^ (15 - t)) := by
    rw [← Nat.mul_assoc, ← Nat.pow_succ, ← Nat.pow_add, show t + 1 + (15 - t) = 16 by omega]
  rw [e, Nat.mod_mul_right_div_self, Nat.mod_mul_right_mod]
theorem bit_top {X i : Nat} : X / 65536 ^ i / 2 ^ 16 = X / 65536 ^ (i + 1) := by
  rw [Nat.div_div_eq_div_mul, show (2 : Nat) ^ 16 = 65536 by rfl, ← Nat.pow_succ]
theorem bit_half {T : Nat} : (2 ^ (T + 1) / 2 : Nat) = 2 ^ T := by rw [Nat.pow_succ, Nat.mul_div_cancel _ (by omega)]
theorem bit_le {t : Nat} (ht : t < 16) : 2 ^ t ≤ 32768 := Nat.le_trans (Nat.pow_le_pow_right (show 0 < 2 by omega) (show t ≤ 15 by omega)) (by decide)
theorem quo_bd (U Y T : Nat) (hT : T ≤ 16) : (U / Y % 2 ^ (16 - T)) * 2 ^ T < 65536 := by
  have h1 := Nat.mod_lt (U / Y) (Nat.pow_pos (show 0 < 2 by omega) (n := 16 - T))
  have h2 : (U / Y % 2 ^ (16 - T) + 1) * 2 ^ T ≤ 2 ^ (16 - T) * 2 ^ T := Nat.mul_le_mul_right _ h1
  rw [← Nat.pow_add, show 16 - T + T = 16 by omega, Nat.add_mul, Nat.one_mul] at h2
  have := Nat.pow_pos (show 0 < 2 by omega) (n := T)
  have e : (2 : Nat) ^ 16 = 65536 := by rfl
  omega

def DivH (Q R : Nat) (w : World) (e : Ending) (w' : World) : Prop :=
  ∃ A n c A2 n2 c2, e = .returned (.tuple #[.slice A n c, .slice A2 n2 c2]) ∧ Hal w' A n c Q ∧ Hal w' A2 n2 c2 R ∧ Below w.heap.size w w'

set_option maxRecDepth 4000 in
set_option maxHeartbeats 16000000 in
theorem rdiv_any (A D : Option Addr) (n c m d X Y : Nat) (hX : Hid (X < 65536 ^ n)) (hY : Hid (m = nlen 65536 Y)) (hY0 : Hid (0 < Y)) (hn : n ≤ 900) (hm : m ≤ 900) (w : World) (hI : Cel .i64 w A (dg 65536 n X)) (hJ : Cel .i64 w D (dg 65536 m Y)) :
    Calls Try.prog 51 #[.slice A n c, .slice D m d] w (DivH (X / Y) (X % Y) w) := by
  have hmk := make_i64 n (by omega)
  obtain ⟨w1, hw1⟩ : ∃ w1, w.alloc (Obj.cells (List.map (fun x : Nat => Value.int IntKind.i64 (x : Int)) (dg 65536 n 0)).toArray 3) = w1 := ⟨_, rfl⟩
  have own : Own .i64 w1 w.heap.size (dg 65536 n 0) := by rw [← hw1]; exact Own.new_ .i64 w 3 _ rfl
  have bel : Below w.heap.size w w1 := by rw [← hw1]; exact below_new _ _
  have HI := Lib.hid hI
  have HJ := Lib.hid hJ
  have HW := Lib.hid hw1
  have HYm : Hid (Y < 65536 ^ m) := Lib.hid (by rw [hY.out]; exact nlen_lt (by omega) Y)
  have HQn : Hid (X / Y < 65536 ^ n) := Lib.hid (Nat.lt_of_le_of_lt (Nat.div_le_self _ _) hX.out)
  clear hI hJ hw1
  go_enter Try.func51, Try.ntmps51
  go_wp2_with fail
  rw [HW.out]
  clear hmk
  go_loopw [7, 8] (fun s i wr => ∃ (k n1 c1 : Nat) (z : Int) (A1 : Option Addr), k ≤ n ∧ i = .int .i64 z ∧ z = (k : Int) - 1 ∧ s = .slice A1 n1 c1 ∧ Hid (Hal wr A1 n1 c1 (X / 65536 ^ k % Y)) ∧
      Hid (Own .i64 wr w.heap.size (put (dg 65536 n 0) (0 + k) (dg 65536 (n - k) (X / Y / 65536 ^ k)))) ∧ Hid (Below w.heap.size w wr)) (fun _ i _ => (intOf i + 1).toNat)
  case atStart => exact ⟨n, 0, 0, _, none, by omega, rfl, rfl, rfl, Lib.hid (by rw [Nat.div_eq_of_lt hX.out, Nat.zero_mod]; exact Hal.nil _ _), Lib.hid (by rw [Nat.sub_self, dg_zero, put_nil]; exact own), Lib.hid bel⟩
  case round =>
    clear own bel
    obtain ⟨k, n1, c1, z, A1, hk, rfl, hz, rfl, hr, hown, hbel⟩ := hrel
    by_cases h0 : k = 0
    · subst h0
      obtain rfl : z = -1 := by omega
      clear hz
      have own := hown.out
      rw [Nat.zero_add, Nat.sub_zero, Nat.pow_zero, Nat.div_one, put_full (by rw [dg_len, dg_len])] at own
      obtain ⟨N, hN⟩ : ∃ N, Hid (N = nlen 65536 (X / Y)) := ⟨_, rfl⟩
      have ct := rtrim_any (some ⟨w.heap.size, 0, none⟩) n n (X / Y) N HQn hN (Nat.le_refl _) (by omega) wr own.all
      have HO := Lib.hid own
      clear own
      go_wp2_with (go_at_call 60; refine ct.mono ?_; rintro e w' ⟨rfl, rfl⟩)
      go_ret2
      have hr2 := hr.out
      rw [Nat.pow_zero, Nat.div_one] at hr2
      exact ⟨some ⟨w.heap.size, 0, none⟩, N, n, A1, n1, c1, rfl, ⟨hN.out, by rw [hN.out]; exact nlen_le (by omega) HQn.out, cel_less HO.out.all (by rw [hN.out]; exact nlen_le (by omega) HQn.out)⟩, hr2, hbel.out⟩
    · obtain ⟨i, rfl⟩ : ∃ i, k = i + 1 := ⟨k - 1, by omega⟩
      have hin : i < n := by omega
      obtain rfl : z = (i : Int) := by omega
      clear hz
      obtain ⟨U, hU⟩ : ∃ U, Hid (U = X / 65536 ^ i) := ⟨_, rfl⟩
      have HR : Hid (Hal wr A1 n1 c1 (U / 2 ^ 16 % Y)) := Lib.hid (by rw [hU.out, bit_top]; exact hr.out)
      obtain ⟨zs, hzs⟩ : ∃ zs, Hid (zs = put (dg 65536 n 0) (0 + (i + 1)) (dg 65536 (n - (i + 1)) (X / Y / 65536 ^ (i + 1)))) := ⟨_, rfl⟩
      have hlen : Hid (zs.length = n) := Lib.hid (by rw [hzs.out, put_len (by rw [dg_len, dg_len]; omega), dg_len])
      have HO : Hid (Own .i64 wr w.heap.size (zs.set i ((U / 2 ^ 16 / Y % 2 ^ (16 - 16)) * 2 ^ 16))) := Lib.hid (by
        have e1 : (U / 2 ^ 16 / Y % 2 ^ (16 - 16)) * 2 ^ 16 = 0 := by rw [Nat.sub_self, Nat.pow_zero, Nat.mod_one, Nat.zero_mul]
        have e2 : at0 zs i = 0 := by rw [hzs.out, put_at (by rw [dg_len, dg_len]; omega), if_neg (by omega), dg_of_zero]; simp [at0, List.getD, hin]
        have e3 : zs.set i 0 = zs := by
          apply ext0 (by simp)
          intro j hj
          rw [at0_set _ _ _ _ (by rw [hlen.out]; exact hin)]
          by_cases e : j = i
          · rw [if_pos e, e, e2]
          · rw [if_neg e]
        rw [e1, e3, hzs.out]; exact hown.out)
      clear hr hown h0
      go_wp2_with fail
      obtain ⟨wo, hwo⟩ : ∃ wo : World, wo = wr := ⟨_, rfl⟩
      rw [← hwo]
      rw [← hwo] at HR HO hbel
      clear hwo
      go_loopw [7, 9] (fun s bt wr => ∃ (T n1 c1 b : Nat) (A1 : Option Addr), T ≤ 16 ∧ bt = .int .i64 (b : Int) ∧ Hid (b = 2 ^ T / 2) ∧ s = .slice A1 n1 c1 ∧ Hid (Hal wr A1 n1 c1 (U / 2 ^ T % Y)) ∧
          Hid (Own .i64 wr w.heap.size (zs.set i ((U / 2 ^ T / Y % 2 ^ (16 - T)) * 2 ^ T))) ∧ Hid (Below w.heap.size w wr)) (fun _ bt _ => (intOf bt).toNat)
      case atStart => exact ⟨16, n1, c1, 32768, A1, by omega, rfl, Lib.hid rfl, rfl, HR, HO, hbel⟩
      case round =>
        clear HR HO hbel
        obtain ⟨T, n1, c1, b, A1, hT, rfl, hb, rfl, HR, HO, HB⟩ := hrel
        by_cases hT0 : T = 0
        · subst hT0
          have hb0 : b = 0 := hb.out
          subst hb0
          have HR2 : Hid (Hal wr A1 n1 c1 (X / 65536 ^ i % Y)) := Lib.hid (by have := HR.out; rwa [Nat.pow_zero, Nat.div_one, hU.out] at this)
          have HO2 : Hid (Own .i64 wr w.heap.size (put (dg 65536 n 0) (0 + i) (dg 65536 (n - i) (X / Y / 65536 ^ i)))) := Lib.hid (by
            have := HO.out
            rw [Nat.pow_zero, Nat.div_one, Nat.mul_one, Nat.sub_zero, hzs.out, hU.out] at this
            rw [← put_downH (zs := dg 65536 n 0) (o := 0) (n := n) (lo := X / 65536 ^ i / Y % 2 ^ 16) hin (by rw [dg_len]; omega) (by rw [show (2 : Nat) ^ 16 = 65536 by rfl, Nat.div_div_eq_div_mul, Nat.div_div_eq_div_mul, Nat.mul_comm]), Nat.zero_add i]
            exact this)
          go_wp2_with fail
          go_roundw
          case rel => exact ⟨i, n1, c1, _, A1, by omega, rfl, by omega, rfl, HR2, HO2, HB⟩
          case measure => simp [intOf]
        · obtain ⟨t, rfl⟩ : ∃ t, T = t + 1 := ⟨T - 1, by omega⟩
          have ht : t < 16 := by omega
          have hbt : Hid (b = 2 ^ t) := Lib.hid (hb.out.trans bit_half)
          have hb0 : 0 < b := by rw [hbt.out]; exact Nat.pow_pos (by omega)
          have hb1 : b ≤ 32768 := by rw [hbt.out]; exact bit_le ht
          obtain ⟨ad, off, rfl, hc⟩ := (HI.out.below HB.out).at_ (k := i) (by rw [dg_len]; exact hin)
          rw [dg_at hin] at hc
          obtain ⟨x, hx⟩ : ∃ x, x = X / 65536 ^ i % 65536 := ⟨_, rfl⟩
          rw [← hx] at hc
          have hx4 : x < 65536 := by rw [hx]; exact Nat.mod_lt _ (by omega)
          obtain ⟨z, hz⟩ : ∃ z, z = x / b := ⟨_, rfl⟩
          obtain ⟨dd, hdz⟩ : ∃ dd, dd = z % 2 := ⟨_, rfl⟩
          have e1 : (x : Int) / (b : Int) = (z : Int) := by rw [hz, Int.natCast_ediv]
          have e2 : (z : Int) % 2 = (dd : Int) := by omega
          have hzb : z ≤ 65536 := by rw [hz]; exact Nat.le_trans (Nat.div_le_self _ _) (by omega)
          have hdd : Hid (dd = U / 2 ^ t % 2) := Lib.hid (by rw [hdz, hz, hx, hbt.out, hU.out]; exact bit_of ht)
          have hd2 : dd < 2 := by omega
          obtain ⟨b2, hb2e⟩ : ∃ b2, b2 = b / 2 := ⟨_, rfl⟩
          have e3 : (b : Int) / 2 = (b2 : Int) := by omega
          have hb2 : Hid (b2 = 2 ^ t / 2) := Lib.hid (by rw [hb2e, hbt.out])
          have hb2l : b2 < b := by omega
          obtain ⟨R, hR⟩ : ∃ R, Hid (R = U / 2 ^ (t + 1) % Y) := ⟨_, rfl⟩
          obtain ⟨q0, hq0⟩ : ∃ q0, Hid (q0 = U / 2 ^ (t + 1) / Y % 2 ^ (16 - (t + 1)) * 2 ^ (t + 1)) := ⟨_, rfl⟩
          rw [← hR.out] at HR
          rw [← hq0.out] at HO
          have hRY : R < Y := by rw [hR.out]; exact Nat.mod_lt _ hY0.out
          have hqb : q0 < 65536 := by
            have := quo_bd (U / 2 ^ (t + 1)) Y (t + 1) hT
            rw [← hq0.out] at this; exact this
          obtain ⟨q1, hq1⟩ : ∃ q1, q1 = q0 + b := ⟨_, rfl⟩
          have e4 : (q0 : Int) + (b : Int) = (q1 : Int) := by omega
          have hq1b : q1 < 131072 := by omega
          have HQ1 := Lib.hid hq1
          have HRlt : Hid (R < 65536 ^ n1) := Lib.hid HR.out.lt
          have l1 : Hid (n1 ≤ 900) := Lib.hid (by rw [HR.out.1]; exact Nat.le_trans (nlen_mono (by omega) (Nat.le_of_lt hRY)) (by rw [← hY.out]; exact hm))
          have H2Y : 2 * R + 1 < 65536 ^ (m + 1) := by rw [Nat.pow_succ]; have := HYm.out; omega
          have HL2 : Hid (nlen 65536 (2 * R) ≤ 902) := Lib.hid (Nat.le_trans (nlen_le (by omega) (show 2 * R < 65536 ^ (m + 1) by omega)) (by omega))
          have HL3 : Hid (nlen 65536 (2 * R + 1) ≤ 903) := Lib.hid (Nat.le_trans (nlen_le (by omega) H2Y) (by omega))
          have HONE : Hid (1 < 65536 ^ 1) := Lib.hid (by omega)
          have HJw := Lib.hid (HJ.out.below HB.out)
          have i0 : (0 : Int) ≤ (i : Int) := by omega
          have i1 : (i : Int) < (n : Int) := by omega
          have HRY := Lib.hid hRY
          have HCW : Hid (∀ w', Below w.heap.size w w' → w'.cell? ⟨ad, off + i, none⟩ = some (.int .i64 (x : Int))) := Lib.hid fun w' hb => by
            have h1 := cel_cell (HI.out.below hb) (k := i) (by rw [dg_len]; exact hin)
            rw [dg_at hin, ← hx] at h1; exact h1
          clear hx hz hdz hb2e H2Y hT0 hq1
          by_cases hdc : dd = 0
          · have hde : dd = 0 := hdc
            subst hdc
            by_cases hcase : Y ≤ 2 * R
            ·
              obtain ⟨s1, s2, s3⟩ := bit_step (U := U) (Y := Y) (t := t) (d := 0) (e := 1) hY0.out ht hdd.out (by rw [← hR.out]; exact (if_pos hcase).symm)
              rw [← hR.out] at s1 s3
              rw [← hq0.out] at s2
              have e2 : (z : Int) % 2 = 0 := e2
              have S1 := Lib.hid s1
              have S2 := Lib.hid s2
              obtain ⟨C, hC, hC0⟩ : ∃ C, Hid (C = cmpI (2 * R) Y) ∧ 0 ≤ C := ⟨cmpI (2 * R) Y, rfl, by unfold cmpI; rw [if_neg (by omega)]; split <;> omega⟩
              have hle : Hid (Y ≤ 2 * R) := Lib.hid hcase
              clear s1 s2 s3 hcase hde
              go_wp2_with (first
                | (go_at_call 43; ((with_reducible refine (radd_any A1 A1 n1 c1 n1 c1 R R HRlt HRlt (by have := l1.out; omega) (by have := l1.out; omega) wr (hal_cel HR.out) (hal_cel HR.out)).mono ?_); rintro e w3 ⟨A3, n3, c3, rfl, hh, _, hb2⟩; rw [← Nat.two_mul] at hh; have H3 := Lib.hid hh; have B3 := Lib.hid (below_on HB.out hb2); have O3 := Lib.hid (HO.out.below hb2); have J3 := Lib.hid (HJw.out.below hb2); have l3 : Hid (n3 ≤ 902) := Lib.hid (by rw [H3.out.1]; exact HL2.out); have hc3 := HCW.out _ B3.out; clear hh hb2))
                | (go_at_call 67; (with_reducible refine (rcmp_any A3 D n3 c3 m d (2 * R) Y C (Lib.hid H3.out.lt) HYm ⟨(hal_len H3.out).symm, hY.out.symm⟩ hC (by have := l3.out; omega) (by omega) w3 (hal_cel H3.out) J3.out).mono ?_); rintro e w' ⟨rfl, kk, rfl⟩)
                | (go_at_call 68; (with_reducible refine (rsub_any A3 D n3 c3 m d (2 * R) Y (Lib.hid H3.out.lt) HYm hle (by have := l3.out; omega) (by omega) _ ((hal_cel H3.out).drewN kk) (J3.out.drewN kk)).mono ?_); rintro e w4 ⟨A4, n4, c4, rfl, hh, hnw, hb2⟩; have F4 := Lib.hid (hnw.far (O3.out.drewN kk).lt); have H4 := Lib.hid hh; have B4 := Lib.hid (below_on (bel_drewN B3.out kk) hb2); have O4 := Lib.hid ((O3.out.drewN kk).below hb2); have oc := O4.out.cell (j := i) (by rw [List.length_set, hlen.out]; exact hin); have of := O4.out.frozen i; rw [at0_set _ _ _ _ (by rw [hlen.out]; exact hin), if_pos rfl] at oc; clear hh hnw hb2))
              go_roundw
              case rel =>
                exact ⟨t, n4, c4, b2, A4, by omega, rfl, hb2, rfl, Lib.hid (by rw [← S1.out, Nat.one_mul]; exact hal_set H4.out F4.out _), Lib.hid (by rw [← S2.out, Nat.one_mul, ← hbt.out, ← HQ1.out, ← List.set_set (l := zs) (i := i) (a := q0) (b := q1)]; exact O4.out.set_ (by rw [List.length_set, hlen.out]; exact hin)), Lib.hid (B4.out.setCell (Nat.le_refl _) _)⟩
              case measure => simp [intOf]; omega
            ·
              obtain ⟨s1, s2, s3⟩ := bit_step (U := U) (Y := Y) (t := t) (d := 0) (e := 0) hY0.out ht hdd.out (by rw [← hR.out]; exact (if_neg (by omega)).symm)
              rw [← hR.out] at s1 s3
              rw [← hq0.out] at s2
              have e2 : (z : Int) % 2 = 0 := e2
              have S1 := Lib.hid s1
              have S2 := Lib.hid s2
              obtain ⟨C, hC, hC0⟩ : ∃ C, Hid (C = cmpI (2 * R) Y) ∧ C < 0 := ⟨-1, Lib.hid (cmpI_lt (by omega)).symm, by omega⟩
              clear s1 s2 s3 hcase hde
              go_wp2_with (first
                | (go_at_call 43; ((with_reducible refine (radd_any A1 A1 n1 c1 n1 c1 R R HRlt HRlt (by have := l1.out; omega) (by have := l1.out; omega) wr (hal_cel HR.out) (hal_cel HR.out)).mono ?_); rintro e w3 ⟨A3, n3, c3, rfl, hh, _, hb2⟩; rw [← Nat.two_mul] at hh; have H3 := Lib.hid hh; have B3 := Lib.hid (below_on HB.out hb2); have O3 := Lib.hid (HO.out.below hb2); have J3 := Lib.hid (HJw.out.below hb2); have l3 : Hid (n3 ≤ 902) := Lib.hid (by rw [H3.out.1]; exact HL2.out); have hc3 := HCW.out _ B3.out; clear hh hb2))
                | (go_at_call 67; (with_reducible refine (rcmp_any A3 D n3 c3 m d (2 * R) Y C (Lib.hid H3.out.lt) HYm ⟨(hal_len H3.out).symm, hY.out.symm⟩ hC (by have := l3.out; omega) (by omega) w3 (hal_cel H3.out) J3.out).mono ?_); rintro e w' ⟨rfl, kk, rfl⟩))
              go_roundw
              case rel =>
                exact ⟨t, n3, c3, b2, A3, by omega, rfl, hb2, rfl, Lib.hid (by rw [← S1.out, Nat.zero_mul, Nat.sub_zero]; exact ⟨H3.out.1, H3.out.2.1, (hal_cel H3.out).drewN _⟩), Lib.hid (by rw [← S2.out, Nat.zero_mul, Nat.add_zero]; exact O3.out.drewN _), Lib.hid (bel_drewN B3.out _)⟩
              case measure => simp [intOf]; omega
          · obtain rfl : dd = 1 := by omega
            by_cases hcase : Y ≤ 2 * R + 1
            ·
              obtain ⟨s1, s2, s3⟩ := bit_step (U := U) (Y := Y) (t := t) (d := 1) (e := 1) hY0.out ht hdd.out (by rw [← hR.out]; exact (if_pos hcase).symm)
              rw [← hR.out] at s1 s3
              rw [← hq0.out] at s2
              have e2 : (z : Int) % 2 = 1 := e2
              have S1 := Lib.hid s1
              have S2 := Lib.hid s2
              obtain ⟨C, hC, hC0⟩ : ∃ C, Hid (C = cmpI (2 * R + 1) Y) ∧ 0 ≤ C := ⟨cmpI (2 * R + 1) Y, rfl, by unfold cmpI; rw [if_neg (by omega)]; split <;> omega⟩
              have hle : Hid (Y ≤ 2 * R + 1) := Lib.hid hcase
              clear s1 s2 s3 hcase hdc
              go_wp2_with (first
                | (go_at_call 43; first
                  | ((with_reducible refine (radd_any A1 A1 n1 c1 n1 c1 R R HRlt HRlt (by have := l1.out; omega) (by have := l1.out; omega) wr (hal_cel HR.out) (hal_cel HR.out)).mono ?_); rintro e w2 ⟨A2, n2, c2, rfl, hh, _, hb2⟩; rw [← Nat.two_mul] at hh; have H2 := Lib.hid hh; have B2 := Lib.hid (below_on HB.out hb2); have O2 := Lib.hid (HO.out.below hb2); have J2 := Lib.hid (HJw.out.below hb2); have l2 : Hid (n2 ≤ 902) := Lib.hid (by rw [H2.out.1]; exact HL2.out); have hc2 := HCW.out _ B2.out; clear hh hb2)
                  | ((with_reducible refine (radd_any A2 (some ⟨w2.heap.size, 0, none⟩) n2 c2 1 1 (2 * R) 1 (Lib.hid H2.out.lt) HONE (by have := l2.out; omega) (by omega) (w2.alloc _) ((hal_cel H2.out).alloc _) (cel_one w2 _)).mono ?_); rintro e w3 ⟨A3, n3, c3, rfl, hh, _, hb2⟩; have hb3 := below_on (below_new w2 _) hb2; have H3 := Lib.hid hh; have B3 := Lib.hid (below_on B2.out hb3); have O3 := Lib.hid (O2.out.below hb3); have J3 := Lib.hid (J2.out.below hb3); have l3 : Hid (n3 ≤ 903) := Lib.hid (by rw [H3.out.1]; exact HL3.out); clear hh hb2 hb3))
                | (go_at_call 67; (with_reducible refine (rcmp_any A3 D n3 c3 m d (2 * R + 1) Y C (Lib.hid H3.out.lt) HYm ⟨(hal_len H3.out).symm, hY.out.symm⟩ hC (by have := l3.out; omega) (by omega) w3 (hal_cel H3.out) J3.out).mono ?_); rintro e w' ⟨rfl, kk, rfl⟩)
                | (go_at_call 68; (with_reducible refine (rsub_any A3 D n3 c3 m d (2 * R + 1) Y (Lib.hid H3.out.lt) HYm hle (by have := l3.out; omega) (by omega) _ ((hal_cel H3.out).drewN kk) (J3.out.drewN kk)).mono ?_); rintro e w4 ⟨A4, n4, c4, rfl, hh, hnw, hb2⟩; have F4 := Lib.hid (hnw.far (O3.out.drewN kk).lt); have H4 := Lib.hid hh; have B4 := Lib.hid (below_on (bel_drewN B3.out kk) hb2); have O4 := Lib.hid ((O3.out.drewN kk).below hb2); have oc := O4.out.cell (j := i) (by rw [List.length_set, hlen.out]; exact hin); have of := O4.out.frozen i; rw [at0_set _ _ _ _ (by rw [hlen.out]; exact hin), if_pos rfl] at oc; clear hh hnw hb2))
              go_roundw
              case rel =>
                exact ⟨t, n4, c4, b2, A4, by omega, rfl, hb2, rfl, Lib.hid (by rw [← S1.out, Nat.one_mul]; exact hal_set H4.out F4.out _), Lib.hid (by rw [← S2.out, Nat.one_mul, ← hbt.out, ← HQ1.out, ← List.set_set (l := zs) (i := i) (a := q0) (b := q1)]; exact O4.out.set_ (by rw [List.length_set, hlen.out]; exact hin)), Lib.hid (B4.out.setCell (Nat.le_refl _) _)⟩
              case measure => simp [intOf]; omega
            ·
              obtain ⟨s1, s2, s3⟩ := bit_step (U := U) (Y := Y) (t := t) (d := 1) (e := 0) hY0.out ht hdd.out (by rw [← hR.out]; exact (if_neg (by omega)).symm)
              rw [← hR.out] at s1 s3
              rw [← hq0.out] at s2
              have e2 : (z : Int) % 2 = 1 := e2
              have S1 := Lib.hid s1
              have S2 := Lib.hid s2
              obtain ⟨C, hC, hC0⟩ : ∃ C, Hid (C = cmpI (2 * R + 1) Y) ∧ C < 0 := ⟨-1, Lib.hid (cmpI_lt (by omega)).symm, by omega⟩
              clear s1 s2 s3 hcase hdc
              go_wp2_with (first
                | (go_at_call 43; first
                  | ((with_reducible refine (radd_any A1 A1 n1 c1 n1 c1 R R HRlt HRlt (by have := l1.out; omega) (by have := l1.out; omega) wr (hal_cel HR.out) (hal_cel HR.out)).mono ?_); rintro e w2 ⟨A2, n2, c2, rfl, hh, _, hb2⟩; rw [← Nat.two_mul] at hh; have H2 := Lib.hid hh; have B2 := Lib.hid (below_on HB.out hb2); have O2 := Lib.hid (HO.out.below hb2); have J2 := Lib.hid (HJw.out.below hb2); have l2 : Hid (n2 ≤ 902) := Lib.hid (by rw [H2.out.1]; exact HL2.out); have hc2 := HCW.out _ B2.out; clear hh hb2)
                  | ((with_reducible refine (radd_any A2 (some ⟨w2.heap.size, 0, none⟩) n2 c2 1 1 (2 * R) 1 (Lib.hid H2.out.lt) HONE (by have := l2.out; omega) (by omega) (w2.alloc _) ((hal_cel H2.out).alloc _) (cel_one w2 _)).mono ?_); rintro e w3 ⟨A3, n3, c3, rfl, hh, _, hb2⟩; have hb3 := below_on (below_new w2 _) hb2; have H3 := Lib.hid hh; have B3 := Lib.hid (below_on B2.out hb3); have O3 := Lib.hid (O2.out.below hb3); have J3 := Lib.hid (J2.out.below hb3); have l3 : Hid (n3 ≤ 903) := Lib.hid (by rw [H3.out.1]; exact HL3.out); clear hh hb2 hb3))
                | (go_at_call 67; (with_reducible refine (rcmp_any A3 D n3 c3 m d (2 * R + 1) Y C (Lib.hid H3.out.lt) HYm ⟨(hal_len H3.out).symm, hY.out.symm⟩ hC (by have := l3.out; omega) (by omega) w3 (hal_cel H3.out) J3.out).mono ?_); rintro e w' ⟨rfl, kk, rfl⟩))
              go_roundw
              case rel =>
                exact ⟨t, n3, c3, b2, A3, by omega, rfl, hb2, rfl, Lib.hid (by rw [← S1.out, Nat.zero_mul, Nat.sub_zero]; exact ⟨H3.out.1, H3.out.2.1, (hal_cel H3.out).drewN _⟩), Lib.hid (by rw [← S2.out, Nat.zero_mul, Nat.add_zero]; exact O3.out.drewN _), Lib.hid (bel_drewN B3.out _)⟩
              case measure => simp [intOf]; omega
end Go.Proofs.Ytjblfmgiafdefaa.natW

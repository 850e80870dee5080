/-
  Contracts of addTimes, subtract, shiftRight, takeChunk of nat: they write the list that they are given.
-/
import Derived.Test.YtjblfmgiafdefaaNatB
namespace Go.Proofs.Ytjblfmgiafdefaa.natC
open Go.RowKit
open Go.Proofs.Ytjblfmgiafdefaa.natM Go.Proofs.Ytjblfmgiafdefaa.natA Go.Proofs.Ytjblfmgiafdefaa.natB
set_option linter.unusedVariables false

theorem and_mask (N : Nat) (h : N < 18446744073709551616) : bits .and .u64 (N : Int) 4294967295 = ((N % 4294967296 : Nat) : Int) := by
  have := bits_and_u64_nat N 4294967295 h (by omega)
  rw [show ((4294967295 : Nat) : Int) = 4294967295 by rfl] at this
  rw [this, Nat.and_two_pow_sub_one_eq_mod N 32]
theorem win_put {zs ys : List Nat} {o k n : Nat} (hk : ys.length = k) (hkn : k < n) (ho : o + n ≤ zs.length) : at0 (put zs o ys) (o + k) = at0 zs (o + k) := by
  rw [put_at (by omega), if_neg (by omega)]
theorem put_next {zs : List Nat} {o k n v lo : Nat} (hkn : k < n) (ho : o + n ≤ zs.length) (hlo : lo = v / 4294967296 ^ k % 4294967296) :
    (put zs o (dg 4294967296 k v)).set (o + k) lo = put zs o (dg 4294967296 (k + 1) v) := by
  have := put_snoc (zs := zs) (ys := dg 4294967296 k v) (o := o) (x := lo) (by rw [dg_len]; omega)
  rw [dg_len] at this
  rw [this, dg_snoc, hlo]
theorem dig_out {Y m k : Nat} (h : Y < 4294967296 ^ m) (hk : m ≤ k) : Y / 4294967296 ^ k % 4294967296 = 0 := by
  have : (4294967296 : Nat) ^ m ≤ 4294967296 ^ k := Nat.pow_le_pow_right (by omega) hk
  rw [Nat.div_eq_of_lt (by omega)]
theorem ret_none {e e' : Ending} (h : e = e') : e = e' := h

theorem add_round {X Y f k cc x y : Nat} (hx : x = X / 4294967296 ^ k % 4294967296) (hy : y = Y / 4294967296 ^ k % 4294967296) (hc : cc ≤ f) (hf : f < 4294967296)
    (h : (X + f * (Y % 4294967296 ^ k)) / 4294967296 ^ k = cc + X / 4294967296 ^ k) :
    ∃ s p N lo c2 : Nat, (x : Int) + (cc : Int) = (s : Int) ∧ (y : Int) * (f : Int) = (p : Int) ∧ (s : Int) + (p : Int) = (N : Int) ∧ bits .and .u64 (N : Int) 4294967295 = (lo : Int) ∧ (N : Int) / 4294967296 = (c2 : Int) ∧
      s < 18446744073709551616 ∧ p < 18446744073709551616 ∧ N < 18446744073709551616 ∧ lo < 4294967296 ∧ c2 < 4294967296 ∧ x < 4294967296 ∧ y < 4294967296 ∧ lo = (X + f * Y) / 4294967296 ^ k % 4294967296 ∧ c2 ≤ f ∧
      (X + f * (Y % 4294967296 ^ (k + 1))) / 4294967296 ^ (k + 1) = c2 + X / 4294967296 ^ (k + 1) ∧ (y = 0 → N = s) := by
  have hx2 : x < 4294967296 := by rw [hx]; exact Nat.mod_lt _ (by omega)
  have hy2 : y < 4294967296 := by rw [hy]; exact Nat.mod_lt _ (by omega)
  have hb := step_bd (f := f) hx2 hc hf hy2
  obtain ⟨h1, h2⟩ := carry_step (B := 4294967296) (n := x + cc + f * y) (by omega) h (by rw [hx, hy])
  have h3 := carry_le (Nat.mod_lt Y (Nat.pow_pos (n := k + 1) (show 0 < 4294967296 by omega))) h2
  have hyf : y * f = f * y := Nat.mul_comm _ _
  have hyi : (y : Int) * (f : Int) = ((f * y : Nat) : Int) := by rw [← Int.natCast_mul, hyf]
  refine ⟨x + cc, f * y, x + cc + f * y, (x + cc + f * y) % 4294967296, (x + cc + f * y) / 4294967296, by omega, hyi, by omega, and_mask _ (by omega), by omega, by omega, by omega, by omega, Nat.mod_lt _ (by omega), by omega, hx2, hy2, h1.symm, h3, h2, fun e => by subst e; omega⟩

set_option maxHeartbeats 2000000 in
theorem addT_any (g o n cx m cy f X Y : Nat) (A : Option Addr) (zs : List Nat) (hoz : o + n ≤ zs.length) (hwin : Hid (∀ j, j < n → at0 zs (o + j) = X / 4294967296 ^ j % 4294967296)) (hY : Hid (Y < 4294967296 ^ m)) (hf : f < 4294967296)
    (hn : n ≤ 9223372036854775807) (hm : m ≤ 9223372036854775807) (w : World) (hx : Own .u32 w g zs) (hI : Cel .u32 w A (dg 4294967296 m Y)) (hF : Far A m g) :
    Calls Try.prog 47 #[.slice (some ⟨g, o, none⟩) n cx, .slice A m cy, .int .u32 (f : Int)] w fun e w' => e = .returned (.tuple #[]) ∧ Own .u32 w' g (put zs o (dg 4294967296 n (X + f * Y))) ∧ w.grownBy w' (some g) := by
  have HI := Lib.hid hI
  have HF := Lib.hid hF
  have HX := Lib.hid hx
  clear hI hF hx
  go_enter Try.func47, Try.ntmps47
  go_wp2
  go_loopw [6, 11] (fun c i wr => ∃ k cc : Nat, k ≤ n ∧ c = .int .u64 (cc : Int) ∧ i = .int .i64 (k : Int) ∧ cc ≤ f ∧ Hid ((X + f * (Y % 4294967296 ^ k)) / 4294967296 ^ k = cc + X / 4294967296 ^ k) ∧ Own .u32 wr g (put zs o (dg 4294967296 k (X + f * Y))) ∧ w.grownBy wr (some g)) (fun _ i _ => n - (intOf i).toNat)
  case atStart => exact ⟨0, 0, by omega, rfl, rfl, by omega, Lib.hid (carry_zero _ _ _ _), by rw [dg_zero, put_nil]; exact HX.out, grown_refl _ _⟩
  case round =>
    obtain ⟨k, cc, hk, rfl, rfl, hcf, hq, own, gr⟩ := hrel
    by_cases hlt : k < n
    · have hlen : (put zs o (dg 4294967296 k (X + f * Y))).length = zs.length := put_len (by rw [dg_len]; omega)
      have hc := own.cell (j := o + k) (by rw [hlen]; omega)
      have hfz := own.frozen (o + k)
      rw [win_put (n := n) (dg_len _ _ _) hlt hoz, hwin.out k hlt] at hc
      have HO := Lib.hid (own.set_ (j := o + k) (x := (X + f * Y) / 4294967296 ^ k % 4294967296) (by rw [hlen]; omega))
      have HG := Lib.hid gr
      have hcel := HI.out.grown gr (by rw [dg_len]; exact HF.out)
      obtain ⟨x, hxe⟩ : ∃ x, x = X / 4294967296 ^ k % 4294967296 := ⟨_, rfl⟩
      obtain ⟨y, hye⟩ : ∃ y, y = Y / 4294967296 ^ k % 4294967296 := ⟨_, rfl⟩
      obtain ⟨s, p, N, lo, c2, e1, e2, e3, e4, e5, b1, b2, b3, b4, b5, b6, b7, l1, l2, l3, l4⟩ := add_round hxe hye hcf hf hq.out
      rw [← hxe] at hc
      rw [← l1, put_next (n := n) hlt hoz l1] at HO
      have HQ := Lib.hid l3
      have i0 : (0 : Int) ≤ (k : Int) := by omega
      have i1 : (k : Int) < (n : Int) := by omega
      by_cases hkm : k < m
      · obtain ⟨b, off, rfl, hy⟩ := hcel.at_ (k := k) (by rw [dg_len]; omega)
        rw [dg_at hkm, ← hye] at hy
        clear own gr hcel hq hxe hye l1 l3 l4 hlen
        go_wp2
        go_roundw
        case rel => exact ⟨k + 1, c2, by omega, rfl, by go_num, l2, HQ, HO.out, grown_set HG.out (.inl rfl) _⟩
        case measure => simp [intOf]; omega
      · have hy0 : y = 0 := by rw [hye]; exact dig_out hY.out (by omega)
        have hNs := l4 hy0
        subst hNs
        clear own gr hcel hq hxe hye l1 l3 l4 hlen e2 e3 hy0
        go_wp2
        go_roundw
        case rel => exact ⟨k + 1, c2, by omega, rfl, by go_num, l2, HQ, HO.out, grown_set HG.out (.inl rfl) _⟩
        case measure => simp [intOf]; omega
    · have e : k = n := by omega
      subst e
      have HO := Lib.hid own
      have HG := Lib.hid gr
      clear own gr
      go_wp2
      go_end0
      exact ⟨rfl, HO.out, HG.out⟩
/-! ### subtract -/
theorem sub_round {X Y D k b x y : Nat} (hx : x = X / 4294967296 ^ k % 4294967296) (hy : y = Y / 4294967296 ^ k % 4294967296) (hD : D + Y = X) (hb : b ≤ 1)
    (h : X % 4294967296 ^ k + b * 4294967296 ^ k = D % 4294967296 ^ k + Y % 4294967296 ^ k) :
    ∃ t u N lo q b2 : Nat, (b : Int) + (y : Int) = (t : Int) ∧ (x : Int) + 4294967296 = (u : Int) ∧ (u : Int) - (t : Int) = (N : Int) ∧ bits .and .u64 (N : Int) 4294967295 = (lo : Int) ∧ (N : Int) / 4294967296 = (q : Int) ∧ 1 - (q : Int) = (b2 : Int) ∧
      t < 18446744073709551616 ∧ u < 18446744073709551616 ∧ N < 18446744073709551616 ∧ lo < 4294967296 ∧ q ≤ 1 ∧ b2 ≤ 1 ∧ x < 4294967296 ∧ y < 4294967296 ∧ lo = D / 4294967296 ^ k % 4294967296 ∧
      X % 4294967296 ^ (k + 1) + b2 * 4294967296 ^ (k + 1) = D % 4294967296 ^ (k + 1) + Y % 4294967296 ^ (k + 1) ∧ (y = 0 → t = b) := by
  have hx2 : x < 4294967296 := by rw [hx]; exact Nat.mod_lt _ (by omega)
  have hy2 : y < 4294967296 := by rw [hy]; exact Nat.mod_lt _ (by omega)
  obtain ⟨h1, h2, h3⟩ := borrow_step (B := 4294967296) (n := x + 4294967296 - (b + y)) (by omega) hD hb h (by rw [hx, hy])
  refine ⟨b + y, x + 4294967296, x + 4294967296 - (b + y), (x + 4294967296 - (b + y)) % 4294967296, (x + 4294967296 - (b + y)) / 4294967296, 1 - (x + 4294967296 - (b + y)) / 4294967296, by omega, by omega, by omega, and_mask _ (by omega), by omega, by omega, by omega, by omega, by omega,
    Nat.mod_lt _ (by omega), h2, by omega, hx2, hy2, h1.symm, h3, fun e => by omega⟩

set_option maxHeartbeats 2000000 in
theorem subT_any (g o n cx m cy X Y : Nat) (A : Option Addr) (zs : List Nat) (hoz : o + n ≤ zs.length) (hwin : Hid (∀ j, j < n → at0 zs (o + j) = X / 4294967296 ^ j % 4294967296)) (hY : Hid (Y < 4294967296 ^ m)) (hYX : Hid (Y ≤ X))
    (hn : n ≤ 9223372036854775807) (hm : m ≤ 9223372036854775807) (w : World) (hx : Own .u32 w g zs) (hI : Cel .u32 w A (dg 4294967296 m Y)) (hF : Far A m g) :
    Calls Try.prog 72 #[.slice (some ⟨g, o, none⟩) n cx, .slice A m cy] w fun e w' => e = .returned (.tuple #[]) ∧ Own .u32 w' g (put zs o (dg 4294967296 n (X - Y))) ∧ w.grownBy w' (some g) := by
  obtain ⟨D, hD⟩ : ∃ D, D = X - Y := ⟨_, rfl⟩
  have HD : Hid (D + Y = X) := Lib.hid (by have := hYX.out; omega)
  rw [← hD]
  have HI := Lib.hid hI
  have HF := Lib.hid hF
  have HX := Lib.hid hx
  clear hI hF hx hD
  go_enter Try.func72, Try.ntmps72
  go_wp2
  go_loopw [4, 10] (fun c i wr => ∃ k b : Nat, k ≤ n ∧ c = .int .u64 (b : Int) ∧ i = .int .i64 (k : Int) ∧ b ≤ 1 ∧ Hid (X % 4294967296 ^ k + b * 4294967296 ^ k = D % 4294967296 ^ k + Y % 4294967296 ^ k) ∧ Own .u32 wr g (put zs o (dg 4294967296 k D)) ∧ w.grownBy wr (some g)) (fun _ i _ => n - (intOf i).toNat)
  case atStart => exact ⟨0, 0, by omega, rfl, rfl, by omega, Lib.hid (borrow_zero _ _ _ _), by rw [dg_zero, put_nil]; exact HX.out, grown_refl _ _⟩
  case round =>
    obtain ⟨k, bb, hk, rfl, rfl, hcf, hq, own, gr⟩ := hrel
    by_cases hlt : k < n
    · have hlen : (put zs o (dg 4294967296 k D)).length = zs.length := put_len (by rw [dg_len]; omega)
      have hc := own.cell (j := o + k) (by rw [hlen]; omega)
      have hfz := own.frozen (o + k)
      rw [win_put (n := n) (dg_len _ _ _) hlt hoz, hwin.out k hlt] at hc
      have HO := Lib.hid (own.set_ (j := o + k) (x := D / 4294967296 ^ k % 4294967296) (by rw [hlen]; omega))
      have HG := Lib.hid gr
      have hcel := HI.out.grown gr (by rw [dg_len]; exact HF.out)
      obtain ⟨x, hxe⟩ : ∃ x, x = X / 4294967296 ^ k % 4294967296 := ⟨_, rfl⟩
      obtain ⟨y, hye⟩ : ∃ y, y = Y / 4294967296 ^ k % 4294967296 := ⟨_, rfl⟩
      obtain ⟨t, u, N, lo, q, b2, e1, e2, e3, e4, e5, e6, b1, b3, b4, b5, b6, b7, b8, b9, l1, l3, l4⟩ := sub_round hxe hye HD.out hcf hq.out
      rw [← hxe] at hc
      rw [← l1, put_next (n := n) hlt hoz l1] at HO
      have HQ := Lib.hid l3
      have i0 : (0 : Int) ≤ (k : Int) := by omega
      have i1 : (k : Int) < (n : Int) := by omega
      by_cases hkm : k < m
      · obtain ⟨b, off, rfl, hy⟩ := hcel.at_ (k := k) (by rw [dg_len]; omega)
        rw [dg_at hkm, ← hye] at hy
        clear own gr hcel hq hxe hye l1 l3 l4 hlen
        go_wp2
        go_roundw
        case rel => exact ⟨k + 1, b2, by omega, rfl, by go_num, b7, HQ, HO.out, grown_set HG.out (.inl rfl) _⟩
        case measure => simp [intOf]; omega
      · have hy0 : y = 0 := by rw [hye]; exact dig_out hY.out (by omega)
        have hNs := l4 hy0
        subst hNs
        clear own gr hcel hq hxe hye l1 l3 l4 hlen e1 hy0
        go_wp2
        go_roundw
        case rel => exact ⟨k + 1, b2, by omega, rfl, by go_num, b7, HQ, HO.out, grown_set HG.out (.inl rfl) _⟩
        case measure => simp [intOf]; omega
    · have e : k = n := by omega
      subst e
      have HO := Lib.hid own
      have HG := Lib.hid gr
      clear own gr
      go_wp2
      go_end0
      exact ⟨rfl, HO.out, HG.out⟩

/-! ### shiftRight -/
theorem put_down {zs : List Nat} {o j n v lo : Nat} (hkn : j < n) (ho : o + n ≤ zs.length) (hlo : lo = v / 4294967296 ^ j % 4294967296) :
    (put zs (o + (j + 1)) (dg 4294967296 (n - (j + 1)) (v / 4294967296 ^ (j + 1)))).set (o + j) lo = put zs (o + j) (dg 4294967296 (n - j) (v / 4294967296 ^ j)) := by
  have := put_cons (zs := zs) (ys := dg 4294967296 (n - (j + 1)) (v / 4294967296 ^ (j + 1))) (o := o + j) (x := lo) (by rw [dg_len]; omega)
  rw [show o + (j + 1) = o + j + 1 by omega, this, dg_cons hkn, hlo]
theorem two_pow_s (s : Nat) (h : s ≤ 31) : ∃ T, 4294967296 = 2 ^ s * T ∧ 0 < 2 ^ s ∧ 2 ^ s ≤ 2147483648 := by
  refine ⟨2 ^ (32 - s), ?_, Nat.pow_pos (by omega), ?_⟩
  · rw [← Nat.pow_add, show s + (32 - s) = 32 by omega]
  · exact Nat.le_trans (Nat.pow_le_pow_right (show 0 < 2 by omega) h) (by decide)
theorem or_word (h x : Nat) (hh : h < 4294967296) (hx : x < 4294967296) : bits .or .u64 ((h * 4294967296 : Nat) : Int) (x : Int) = ((h * 4294967296 + x : Nat) : Int) := by
  rw [bits_or_u64_nat (h * 4294967296) x (by omega) (by omega)]
  rw [Nat.mul_comm h, show (4294967296 : Nat) = 2 ^ 32 by rfl, Nat.two_pow_add_eq_or_of_lt (by simpa using hx)]
theorem shr_round {X j s h x : Nat} (hs : s ≤ 31) (hh : h = X / 4294967296 ^ (j + 1) % 4294967296) (hx : x = X / 4294967296 ^ j % 4294967296) :
    ∃ H N M lo : Nat, (h : Int) * 4294967296 = (H : Int) ∧ bits .or .u64 (H : Int) (x : Int) = (N : Int) ∧ (N : Int) / 2 ^ s = (M : Int) ∧ bits .and .u64 (M : Int) 4294967295 = (lo : Int) ∧
      H < 18446744073709551616 ∧ N < 18446744073709551616 ∧ M < 18446744073709551616 ∧ lo < 4294967296 ∧ x < 4294967296 ∧ h < 4294967296 ∧ lo = X / 2 ^ s / 4294967296 ^ j % 4294967296 := by
  have hx2 : x < 4294967296 := by rw [hx]; exact Nat.mod_lt _ (by omega)
  have hh2 : h < 4294967296 := by rw [hh]; exact Nat.mod_lt _ (by omega)
  obtain ⟨T, hT, hp, hp2⟩ := two_pow_s s hs
  have hM : (h * 4294967296 + x) / 2 ^ s ≤ h * 4294967296 + x := Nat.div_le_self _ _
  have e := shr_step (B := 4294967296) (X := X) (i := j) hp hT
  rw [← hh, ← hx] at e
  refine ⟨h * 4294967296, h * 4294967296 + x, (h * 4294967296 + x) / 2 ^ s, (h * 4294967296 + x) / 2 ^ s % 4294967296, by omega, or_word h x hh2 hx2, ?_, and_mask _ (by omega), by omega, by omega, by omega, Nat.mod_lt _ (by omega), hx2, hh2, e⟩
  rw [Int.natCast_ediv, Int.natCast_pow]; rfl

set_option maxHeartbeats 2000000 in
theorem shr_any (g o n c s X : Nat) (zs : List Nat) (hoz : o + n ≤ zs.length) (hwin : Hid (∀ j, j < n → at0 zs (o + j) = X / 4294967296 ^ j % 4294967296)) (hX : Hid (X < 4294967296 ^ n)) (hs : s ≤ 31)
    (hn : n ≤ 9223372036854775807) (w : World) (hx : Own .u32 w g zs) :
    Calls Try.prog 66 #[.slice (some ⟨g, o, none⟩) n c, .int .i64 (s : Int)] w fun e w' => e = .returned (.tuple #[]) ∧ Own .u32 w' g (put zs o (dg 4294967296 n (X / 2 ^ s))) ∧ w.grownBy w' (some g) := by
  have HX := Lib.hid hx
  clear hx
  go_enter Try.func66, Try.ntmps66
  go_wp2
  go_loopw [4, 5] (fun h i wr => ∃ k hh : Nat, k ≤ n ∧ h = .int .u64 (hh : Int) ∧ i = .int .i64 ((k : Int) - 1) ∧ Hid (hh = X / 4294967296 ^ k % 4294967296) ∧ Own .u32 wr g (put zs (o + k) (dg 4294967296 (n - k) (X / 2 ^ s / 4294967296 ^ k))) ∧ w.grownBy wr (some g)) (fun _ i _ => (intOf i + 1).toNat)
  case atStart => exact ⟨n, 0, by omega, rfl, rfl, Lib.hid (by rw [Nat.div_eq_of_lt hX.out]), by rw [Nat.sub_self, dg_zero, put_nil]; exact HX.out, grown_refl _ _⟩
  case round =>
    obtain ⟨k, hh, hk, rfl, rfl, hq, own, gr⟩ := hrel
    by_cases h0 : k = 0
    · subst h0
      have HO := Lib.hid own
      have HG := Lib.hid gr
      clear own gr
      go_wp2
      go_end0
      refine ⟨rfl, ?_, HG.out⟩
      have := HO.out
      rwa [Nat.add_zero, Nat.sub_zero, Nat.pow_zero, Nat.div_one] at this
    · obtain ⟨j, rfl⟩ : ∃ j, k = j + 1 := ⟨k - 1, by omega⟩
      have hlen : (put zs (o + (j + 1)) (dg 4294967296 (n - (j + 1)) (X / 2 ^ s / 4294967296 ^ (j + 1)))).length = zs.length := put_len (by rw [dg_len]; omega)
      have hc := own.cell (j := o + j) (by rw [hlen]; omega)
      have hfz := own.frozen (o + j)
      rw [put_at (by rw [dg_len]; omega), if_neg (by omega), hwin.out j (by omega)] at hc
      have HO := Lib.hid (own.set_ (j := o + j) (x := X / 2 ^ s / 4294967296 ^ j % 4294967296) (by rw [hlen]; omega))
      have HG := Lib.hid gr
      obtain ⟨x, hxe⟩ : ∃ x, x = X / 4294967296 ^ j % 4294967296 := ⟨_, rfl⟩
      obtain ⟨H, N, M, lo, e1, e2, e3, e4, b1, b2, b3, b4, b5, b6, l1⟩ := shr_round hs hq.out hxe
      rw [← hxe] at hc
      rw [← l1, put_down (n := n) (by omega) hoz l1] at HO
      have HQ := Lib.hid hxe
      have i0 : (0 : Int) ≤ (j : Int) := by omega
      have i1 : (j : Int) < (n : Int) := by omega
      have ej : (((j + 1 : Nat) : Int) - 1) = (j : Int) := by omega
      clear own gr hq hxe l1 hlen h0
      go_wp2
      go_roundw
      case rel => exact ⟨j, x, by omega, rfl, rfl, HQ, HO.out, grown_set HG.out (.inl rfl) _⟩
      case measure => simp [intOf]
end Go.Proofs.Ytjblfmgiafdefaa.natC

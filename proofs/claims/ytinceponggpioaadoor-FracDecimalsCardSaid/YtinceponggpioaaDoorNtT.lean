/-
  Contract of nat.takeChunk.
-/
import Derived.Test.YtinceponggpioaaDoorNatC
namespace Go.Proofs.YtinceponggpioaaDoor.ntT
open Go.RowKit
open Go.Proofs.YtinceponggpioaaDoor.natM Go.Proofs.YtinceponggpioaaDoor.natA Go.Proofs.YtinceponggpioaaDoor.natB Go.Proofs.YtinceponggpioaaDoor.natC
set_option linter.unusedVariables false
theorem chunk_round {X j h x : Nat} (hh : h = X / 4294967296 ^ (j + 1) % 1000000000) (hx : x = X / 4294967296 ^ j % 4294967296) :
    ∃ H N M r : Nat, (h : Int) * 4294967296 = (H : Int) ∧ bits .or .u64 (H : Int) (x : Int) = (N : Int) ∧ (N : Int) / 1000000000 = (M : Int) ∧ (N : Int) % 1000000000 = (r : Int) ∧
      H < 18446744073709551616 ∧ N < 18446744073709551616 ∧ M < 4294967296 ∧ x < 4294967296 ∧ r < 1000000000 ∧ M = X / 1000000000 / 4294967296 ^ j % 4294967296 ∧ r = X / 4294967296 ^ j % 1000000000 := by
  have hx2 : x < 4294967296 := by rw [hx]; exact Nat.mod_lt _ (by omega)
  have hh2 : h < 1000000000 := by rw [hh]; exact Nat.mod_lt _ (by omega)
  have e := chunk_step (B := 4294967296) (X := X) (c := 1000000000) (i := j) (by omega) (by omega)
  have e1 : (h * 4294967296 + x) / 1000000000 = X / 1000000000 / 4294967296 ^ j % 4294967296 := by rw [hh, hx]; exact e.1
  have e2 : (h * 4294967296 + x) % 1000000000 = X / 4294967296 ^ j % 1000000000 := by rw [hh, hx]; exact e.2
  clear e hh hx
  have hM : (h * 4294967296 + x) / 1000000000 < 4294967296 := by omega
  exact ⟨h * 4294967296, h * 4294967296 + x, (h * 4294967296 + x) / 1000000000, (h * 4294967296 + x) % 1000000000, by omega, or_word h x (by omega) hx2, by omega, by omega, by omega, by omega, hM, hx2, Nat.mod_lt _ (by omega), e1, e2⟩
set_option maxRecDepth 4000 in
set_option maxHeartbeats 2000000 in
theorem tchunk_any (g n c X : Nat) (hX : Hid (X < 4294967296 ^ n)) (hn : n ≤ 9223372036854775807) (w : World) (hx : Own .u32 w g (dg 4294967296 n X)) :
    Calls Tryd.prog 72 #[.slice (some ⟨g, 0, none⟩) n c] w fun e w' => e = .returned (.int .u32 ((X % 1000000000 : Nat) : Int)) ∧ Own .u32 w' g (dg 4294967296 n (X / 1000000000)) ∧ w.grownBy w' (some g) := by
  have HX := Lib.hid hx
  clear hx
  go_enter Tryd.func72, Tryd.ntmps72
  go_wp2
  go_loopw [3, 4] (fun h i wr => ∃ k hh : Nat, k ≤ n ∧ h = .int .u64 (hh : Int) ∧ i = .int .i64 ((k : Int) - 1) ∧ Hid (hh = X / 4294967296 ^ k % 1000000000) ∧ Own .u32 wr g (put (dg 4294967296 n X) (0 + k) (dg 4294967296 (n - k) (X / 1000000000 / 4294967296 ^ k))) ∧ w.grownBy wr (some g)) (fun _ i _ => (intOf i + 1).toNat)
  case atStart => exact ⟨n, 0, by omega, rfl, rfl, Lib.hid (by rw [Nat.div_eq_of_lt hX.out]), by rw [Nat.sub_self, dg_zero, put_nil]; exact HX.out, grown_refl _ _⟩
  case round =>
    obtain ⟨k, hh, hk, rfl, rfl, hq, own, gr⟩ := hrel
    by_cases h0 : k = 0
    · subst h0
      have HO := Lib.hid own
      have HG := Lib.hid gr
      have hb : hh < 1000000000 := by rw [hq.out]; exact Nat.mod_lt _ (by omega)
      have HQ : Hid (X % 1000000000 = hh) := Lib.hid (by rw [hq.out, Nat.pow_zero, Nat.div_one])
      clear own gr hq
      go_wp2
      rw [HQ.out]
      go_ret
      refine ⟨rfl, ?_, HG.out⟩
      have := HO.out
      rw [Nat.add_zero, Nat.sub_zero, Nat.pow_zero, Nat.div_one, put_full (by rw [dg_len, dg_len])] at this
      exact this
    · obtain ⟨j, rfl⟩ : ∃ j, k = j + 1 := ⟨k - 1, by omega⟩
      have hlen : (put (dg 4294967296 n X) (0 + (j + 1)) (dg 4294967296 (n - (j + 1)) (X / 1000000000 / 4294967296 ^ (j + 1)))).length = n := (put_len (by rw [dg_len, dg_len]; omega)).trans (dg_len _ _ _)
      have hc := own.cell (j := 0 + j) (by rw [hlen]; omega)
      have hfz := own.frozen (0 + j)
      rw [put_at (by rw [dg_len, dg_len]; omega), if_neg (by omega), Nat.zero_add, dg_at (by omega)] at hc
      have HO := Lib.hid (own.set_ (j := 0 + j) (x := X / 1000000000 / 4294967296 ^ j % 4294967296) (by rw [hlen]; omega))
      have HG := Lib.hid gr
      obtain ⟨x, hxe⟩ : ∃ x, x = X / 4294967296 ^ j % 4294967296 := ⟨_, rfl⟩
      obtain ⟨H, N, M, r, e1, e2, e3, e4, b1, b2, b3, b4, b5, l1, l2⟩ := chunk_round hq.out hxe
      rw [← hxe] at hc
      rw [← l1, put_down (n := n) (by omega) (by rw [dg_len]; omega) l1] at HO
      rw [Nat.zero_add] at hfz
      rw [Nat.zero_add] at HO
      have HQ := Lib.hid l2
      have i0 : (0 : Int) ≤ (j : Int) := by omega
      have i1 : (j : Int) < (n : Int) := by omega
      have ej : (((j + 1 : Nat) : Int) - 1) = (j : Int) := by omega
      clear own gr hq hxe l1 l2 hlen h0
      go_wp2
      go_roundw
      case rel => exact ⟨j, r, by omega, by rw [e4], rfl, HQ, by rw [Nat.zero_add]; exact HO.out, grown_set HG.out (.inl rfl) _⟩
      case measure => simp [intOf]
end Go.Proofs.YtinceponggpioaaDoor.ntT

/-
  The laws DigestHexes, DigestParses, DigestAppends: each call returns true; new memory alone.
-/
import Derived.Test.YthnbddacglfldaaDoorDgW
namespace Go.Proofs.YthnbddacglfldaaDoor.dgN
open Go.RowKit
open Go.Proofs.YthnbddacglfldaaDoor.dgM Go.Proofs.YthnbddacglfldaaDoor.dgA Go.Proofs.YthnbddacglfldaaDoor.dgB Go.Proofs.YthnbddacglfldaaDoor.dgC Go.Proofs.YthnbddacglfldaaDoor.dgX Go.Proofs.YthnbddacglfldaaDoor.dgP Go.Proofs.YthnbddacglfldaaDoor.dgH Go.Proofs.YthnbddacglfldaaDoor.dgW
set_option linter.unusedVariables false

set_option maxRecDepth 10000 in
set_option maxHeartbeats 400000 in
theorem hexes (x : Nat) (hx : x < A64) (w : World) (hR : Rnd w) (hD : Dig w) :
    Calls Tryd.prog 9 #[.int .u64 (x : Int)] w fun e w' => e = .returned (.bool true) ∧ Below w.heap.size w w' := by
  have K0 := Kg.start hR hD
  clear hR hD
  obtain ⟨S, hS⟩ : ∃ S : ByteArray, S.data.toList = hl x 16 := ⟨⟨(hl x 16).toArray⟩, rfl⟩
  have h16 : S.size = 16 := by rw [← size_len, hS, hl_len]
  have hf : hf S := ⟨h16, by rw [hS]; exact hl_is x 16⟩
  have c1 := fun w h => hex_any x hx S (Lib.hid hS) w h
  have c2 := fun w => rhex_any x hx S (Lib.hid hS) w
  have c3 : ∀ w, Calls Tryd.prog 23 #[.string S] w fun e w' => e = .returned (.tuple #[.int .u64 (x : Int), .int .i64 0]) ∧ w = w' := fun w => ph_any S (by rw [h16]; omega) x 0 (Lib.hid (.inl ⟨hf, by rw [hS, pv_hex hx], rfl⟩)) w
  clear hS hx hf
  go_enter Tryd.func9, Tryd.ntmps9
  go_wp2_with (first
    | (go_at_call 22; (with_reducible refine (c1 _ K0.dig).mono ?_); rintro e w1 ⟨rfl, b1⟩; have K1 := K0.on b1; clear b1)
    | (go_at_call 23; (with_reducible refine (c3 _).mono ?_); rintro e w' ⟨rfl, rfl⟩)
    | (go_at_call 24; (with_reducible refine (c2 _).mono ?_); rintro e w2 ⟨rfl, b2⟩; have K2 := K1.on b2; clear b2)
    | (go_at_call 11; (with_reducible refine (awake_any _ _ K2).mono ?_); rintro e w9 ⟨rfl, K9⟩))
  go_ret
  exact ⟨rfl, K9.bel⟩

set_option maxRecDepth 10000 in
set_option maxHeartbeats 400000 in
theorem parses (s : ByteArray) (hs : s.size ≤ 281474976710656) (w : World) (hR : Rnd w) (hD : Dig w) :
    Calls Tryd.prog 10 #[.string s] w fun e w' => e = .returned (.bool true) ∧ Below w.heap.size w w' := by
  have K0 := Kg.start hR hD
  clear hR hD
  by_cases h : 2000 < s.size
  · have t : (2000 : Int) < (s.size : Int) := by omega
    clear h
    go_enter Tryd.func10, Tryd.ntmps10
    go_wp2_with (go_at_call 11; (with_reducible refine (awake_any _ _ K0).mono ?_); rintro e w9 ⟨rfl, K9⟩)
    go_ret
    exact ⟨rfl, K9.bel⟩
  have t : ¬ (2000 : Int) < (s.size : Int) := by omega
  clear h
  by_cases hh : hf s
  · obtain ⟨V, hV⟩ : ∃ V, V = pv 0 s.data.toList := ⟨_, rfl⟩
    have bV : V < A64 := by rw [hV]; exact pv_small hh
    have c1 : ∀ w, Calls Tryd.prog 23 #[.string s] w fun e w' => e = .returned (.tuple #[.int .u64 (V : Int), .int .i64 0]) ∧ w = w' := fun w => ph_any s hs V 0 (Lib.hid (.inl ⟨hh, hV, rfl⟩)) w
    have c2 : ∀ w, Calls Tryd.prog 25 #[.string s] w fun e w' => e = .returned (.tuple #[.int .u64 (V : Int), .int .i64 0]) ∧ w = w' := fun w => rph_any s hs V 0 (Lib.hid (.inl ⟨hh, hV, rfl⟩)) w
    have c3 := fun w h => hex_any V bV s (Lib.hid (by rw [hV, hex_back hh])) w h
    clear hV bV hh
    go_enter Tryd.func10, Tryd.ntmps10
    go_wp2_with (first
      | (go_at_call 23; (with_reducible refine (c1 _).mono ?_); rintro e w' ⟨rfl, rfl⟩)
      | (go_at_call 25; (with_reducible refine (c2 _).mono ?_); rintro e w' ⟨rfl, rfl⟩)
      | (go_at_call 22; (with_reducible refine (c3 _ K0.dig).mono ?_); rintro e w1 ⟨rfl, b1⟩; have K1 := K0.on b1; clear b1)
      | (go_at_call 11; (with_reducible refine (awake_any _ _ K1).mono ?_); rintro e w9 ⟨rfl, K9⟩))
    go_ret
    exact ⟨rfl, K9.bel⟩
  · have c1 : ∀ w, Calls Tryd.prog 23 #[.string s] w fun e w' => e = .returned (.tuple #[.int .u64 0, .int .i64 1]) ∧ w = w' := fun w => ph_any s hs 0 1 (Lib.hid (.inr ⟨hh, rfl, rfl⟩)) w
    have c2 : ∀ w, Calls Tryd.prog 25 #[.string s] w fun e w' => e = .returned (.tuple #[.int .u64 0, .int .i64 1]) ∧ w = w' := fun w => rph_any s hs 0 1 (Lib.hid (.inr ⟨hh, rfl, rfl⟩)) w
    clear hh
    go_enter Tryd.func10, Tryd.ntmps10
    go_wp2_with (first
      | (go_at_call 23; (with_reducible refine (c1 _).mono ?_); rintro e w' ⟨rfl, rfl⟩)
      | (go_at_call 25; (with_reducible refine (c2 _).mono ?_); rintro e w' ⟨rfl, rfl⟩)
      | (go_at_call 11; (with_reducible refine (awake_any _ _ K0).mono ?_); rintro e w9 ⟨rfl, K9⟩))
    go_ret
    exact ⟨rfl, K9.bel⟩

/-! ### a text in two parts -/
/-- a byte made into a string -/
theorem conv1 (W : World) (c : UInt8) :
    (convert 26 9 (.slice (some ⟨W.heap.size, 0, none⟩) 1 1)).run Tryd.prog (W.alloc (.cells #[.int .u8 (c.toNat : Int)] 5)) =
      .ok (.string ⟨#[c]⟩) (W.alloc (.cells #[.int .u8 (c.toNat : Int)] 5)) := by
  have := run_convert_bytes_back (P := Tryd.prog) (W.alloc (.cells #[.int .u8 (c.toNat : Int)] 5)) 26 9 5 ⟨W.heap.size, 0, none⟩ 1 [c] Tryd.underlying26 Tryd.underlying5 Tryd.underlying9 (fun j hj => by
    match j, hj with
    | 0, _ => simp [Addr.add, World.cell?_alloc_new])
  exact this
theorem sm_one (s : ByteArray) (c : UInt8) : sm s0 (s ++ ⟨#[c]⟩ : ByteArray).data.toList = (sm s0 s.data.toList ^^^ c.toNat) * 1099511628211 % A64 := by
  rw [app_list]; exact sm_snoc _ _ _
theorem sm_two (s t : ByteArray) : sm s0 (s ++ t).data.toList = sm (sm s0 s.data.toList) t.data.toList := by
  rw [app_list]; exact sm_append _ _ _
theorem smt_take (x : Nat) (s : ByteArray) (k : Nat) (h : k < s.size) : sm x (s.data.toList.take (k + 1)) = (sm x (s.data.toList.take k) ^^^ s[k].toNat) * 1099511628211 % A64 := by
  rw [List.take_add_one]
  have e : s.data.toList[k]? = some s[k] := by
    rw [Array.getElem?_toList]
    exact Array.getElem?_eq_getElem h
  rw [e]
  exact sm_snoc _ _ _
theorem app_size (a b : ByteArray) : (a ++ b).size = a.size + b.size := by rw [← size_len, app_list, List.length_append, size_len, size_len]
set_option maxRecDepth 10000 in
set_option maxHeartbeats 400000 in
theorem appends_early (s t : ByteArray) (c : UInt8) (hs : s.size ≤ 281474976710656) (ht : t.size ≤ 281474976710656) (h : 2000 < s.size ∨ 2000 < t.size) (w : World) (hR : Rnd w) (hD : Dig w) :
    Calls Tryd.prog 4 #[.string s, .string t, .int .u8 (c.toNat : Int)] w fun e w' => e = .returned (.bool true) ∧ Below w.heap.size w w' := by
  have K0 := Kg.start hR hD
  clear hR hD
  by_cases h1 : 2000 < s.size
  · have t1 : (2000 : Int) < (s.size : Int) := by omega
    clear h h1
    go_enter Tryd.func4, Tryd.ntmps4
    go_wp2_with (go_at_call 11; (with_reducible refine (awake_any _ _ K0).mono ?_); rintro e w9 ⟨rfl, K9⟩)
    go_ret
    exact ⟨rfl, K9.bel⟩
  · have t1 : ¬ (2000 : Int) < (s.size : Int) := by omega
    have t2 : (2000 : Int) < (t.size : Int) := by omega
    clear h h1
    go_enter Tryd.func4, Tryd.ntmps4
    go_wp2_with (go_at_call 11; (with_reducible refine (awake_any _ _ K0).mono ?_); rintro e w9 ⟨rfl, K9⟩)
    go_ret
    exact ⟨rfl, K9.bel⟩
set_option maxRecDepth 10000 in
set_option maxHeartbeats 400000 in
theorem appends_in (s t : ByteArray) (c : UInt8) (hs : s.size ≤ 2000) (ht : t.size ≤ 2000) (w : World) (hR : Rnd w) (hD : Dig w) :
    Calls Tryd.prog 4 #[.string s, .string t, .int .u8 (c.toNat : Int)] w fun e w' => e = .returned (.bool true) ∧ Below w.heap.size w w' := by
  have K0 := Kg.start hR hD
  have K1 := K0.on ((Below.refl _ w).alloc (Nat.le_refl _) (.cells #[.int .u8 (c.toNat : Int)] 5))
  clear hR hD
  have t1 : ¬ (2000 : Int) < (s.size : Int) := by omega
  have t2 : ¬ (2000 : Int) < (t.size : Int) := by omega
  obtain ⟨z, hz⟩ : ∃ z, z = sm s0 s.data.toList := ⟨_, rfl⟩
  have bz : z < A64 := by rw [hz]; exact sm_lt s0_lt _
  have z1 : (⟨#[c]⟩ : ByteArray).size = 1 := rfl
  have z2 := app_size s ⟨#[c]⟩
  have z3 := app_size s t
  have c1 := fun w => sum_any (s ++ ⟨#[c]⟩) ((z ^^^ c.toNat) * 1099511628211 % A64) (Lib.hid (by rw [sm_one, hz])) (by omega) w
  have c2 := fun w => sum_any s z (Lib.hid hz) (by omega) w
  have c3 := fun w => sum_any (s ++ t) _ (Lib.hid rfl) (by omega) w
  have HT : Hid (sm s0 (s ++ t).data.toList = sm z t.data.toList) := Lib.hid (by rw [sm_two, hz])
  have cv := conv1 w c
  have x1 := xor_fact bz (u8_lt c)
  have x0 : IntKind.u64.wrap (c.toNat : Int) = (c.toNat : Int) := u64_id (u8_lt _)
  have x2 : IntKind.u64.wrap (((z ^^^ c.toNat : Nat) : Int) * 1099511628211) = (((z ^^^ c.toNat) * 1099511628211 % A64 : Nat) : Int) := mul_fact
  generalize (z ^^^ c.toNat) * 1099511628211 % A64 = y1 at *
  generalize z ^^^ c.toNat = y2 at *
  generalize sm s0 (s ++ t).data.toList = R at *
  clear hz
  go_enter Tryd.func4, Tryd.ntmps4
  go_wp2_with (go_at_call 12; first
    | ((with_reducible refine (c1 _).mono ?_); rintro e w' ⟨rfl, rfl⟩)
    | ((with_reducible refine (c2 _).mono ?_); rintro e w' ⟨rfl, rfl⟩))
  go_loop [7, 8] (fun s7 s8 => ∃ k v : Nat, k ≤ t.size ∧ s8 = .int .i64 (k : Int) ∧ s7 = .int .u64 (v : Int) ∧ v < A64 ∧ Hid (v = sm z (t.data.toList.take k))) (fun _ s8 => t.size - (intOf s8).toNat)
  case atStart => exact ⟨0, z, by omega, rfl, rfl, bz, Lib.hid rfl⟩
  case round =>
    obtain ⟨k, v, hk, rfl, rfl, hv, HV⟩ := hrel
    by_cases hlt : k < t.size
    · have hst := smt_take z t k hlt
      rw [← HV.out] at hst
      have x1 := xor_fact hv (u8_lt t[k])
      have x0 : IntKind.u64.wrap (t[k].toNat : Int) = (t[k].toNat : Int) := u64_id (u8_lt _)
      have x2 : IntKind.u64.wrap (((v ^^^ t[k].toNat : Nat) : Int) * 1099511628211) = (((v ^^^ t[k].toNat) * 1099511628211 % A64 : Nat) : Int) := mul_fact
      have HV2 : Hid ((v ^^^ t[k].toNat) * 1099511628211 % A64 = sm z (t.data.toList.take (k + 1))) := Lib.hid hst.symm
      have b2 : (v ^^^ t[k].toNat) * 1099511628211 % A64 < A64 := Nat.mod_lt _ (by decide)
      clear hst HV
      generalize (v ^^^ t[k].toNat) * 1099511628211 % A64 = u at *
      generalize v ^^^ t[k].toNat = y at *
      go_wp2_with fail
      go_round
      case rel => exact ⟨k + 1, u, by omega, by go_num, rfl, b2, HV2⟩
      case measure => simp [intOf]; omega
    · obtain rfl : k = t.size := by omega
      obtain rfl : v = R := by rw [HT.out, HV.out, take_all]
      go_wp2_with (first
        | (go_at_call 12; (with_reducible refine (c3 _).mono ?_); rintro e w' ⟨rfl, rfl⟩)
        | (go_at_call 11; (with_reducible refine (awake_any _ _ K1).mono ?_); rintro e w9 ⟨rfl, K9⟩))
      go_ret
      exact ⟨rfl, K9.bel⟩
theorem appends (s t : ByteArray) (c : UInt8) (hs : s.size ≤ 281474976710656) (ht : t.size ≤ 281474976710656) (w : World) (hR : Rnd w) (hD : Dig w) :
    Calls Tryd.prog 4 #[.string s, .string t, .int .u8 (c.toNat : Int)] w fun e w' => e = .returned (.bool true) ∧ Below w.heap.size w w' := by
  by_cases h : 2000 < s.size ∨ 2000 < t.size
  · exact appends_early s t c hs ht h w hR hD
  · exact appends_in s t c (by omega) (by omega) w hR hD
end Go.Proofs.YthnbddacglfldaaDoor.dgN

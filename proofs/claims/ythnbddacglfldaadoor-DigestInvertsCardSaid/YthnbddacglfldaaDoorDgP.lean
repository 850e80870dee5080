/-
  Contracts of digest.valueOf, digest.ParseHex and of the reference's ParseHex; the world is as it was.
-/
import Derived.Test.YthnbddacglfldaaDoorDgA
import Derived.Test.YthnbddacglfldaaDoorDgX
namespace Go.Proofs.YthnbddacglfldaaDoor.dgP
open Go.RowKit
open Go.Proofs.YthnbddacglfldaaDoor.dgM Go.Proofs.YthnbddacglfldaaDoor.dgA Go.Proofs.YthnbddacglfldaaDoor.dgX
set_option linter.unusedVariables false

theorem val_yes (c V : Nat) (h : 48 ≤ c ∧ c ≤ 57 ∧ V = c - 48 ∨ 97 ≤ c ∧ c ≤ 102 ∧ V = c - 87) (w : World) :
    Calls Tryd.prog 29 #[.int .u8 (c : Int)] w fun e w' => e = .returned (.tuple #[.int .u64 (V : Int), .bool true]) ∧ w = w' := by
  rcases h with ⟨h0, h1, rfl⟩ | ⟨h0, h1, rfl⟩
  · have t0 : (48 : Int) ≤ (c : Int) := by omega
    have t1 : (c : Int) ≤ 57 := by omega
    have e : (c : Int) - 48 = ((c - 48 : Nat) : Int) := by omega
    have b : c - 48 ≤ 9 := by omega
    clear h0 h1
    generalize c - 48 = v at *
    go_enter Tryd.func29, Tryd.ntmps29
    go_wp2_with fail
    go_ret2
    exact ⟨rfl, rfl⟩
  · have t0 : (48 : Int) ≤ (c : Int) := by omega
    have t1 : ¬ ((c : Int) ≤ 57) := by omega
    have t2 : (97 : Int) ≤ (c : Int) := by omega
    have t3 : (c : Int) ≤ 102 := by omega
    have e : (c : Int) - 97 = ((c - 97 : Nat) : Int) := by omega
    have b : c - 97 ≤ 5 := by omega
    have e2 : ((c - 97 : Nat) : Int) + 10 = ((c - 87 : Nat) : Int) := by omega
    clear h0 h1
    generalize c - 97 = v at *
    generalize c - 87 = u at *
    go_enter Tryd.func29, Tryd.ntmps29
    go_wp2_with fail
    go_ret2
    exact ⟨rfl, rfl⟩
theorem val_no (c : Nat) (h : ¬ (48 ≤ c ∧ c ≤ 57 ∨ 97 ≤ c ∧ c ≤ 102)) (w : World) :
    Calls Tryd.prog 29 #[.int .u8 (c : Int)] w fun e w' => e = .returned (.tuple #[.int .u64 0, .bool false]) ∧ w = w' := by
  by_cases t0 : (48 : Int) ≤ (c : Int)
  · have t1 : ¬ ((c : Int) ≤ 57) := by omega
    by_cases t2 : (97 : Int) ≤ (c : Int)
    · have t3 : ¬ ((c : Int) ≤ 102) := by omega
      clear h
      go_enter Tryd.func29, Tryd.ntmps29
      go_wp2_with fail
      go_ret2
      exact ⟨rfl, rfl⟩
    · clear h
      go_enter Tryd.func29, Tryd.ntmps29
      go_wp2_with fail
      go_ret2
      exact ⟨rfl, rfl⟩
  · have t2 : ¬ ((97 : Int) ≤ (c : Int)) := by omega
    clear h
    go_enter Tryd.func29, Tryd.ntmps29
    go_wp2_with fail
    go_ret2
    exact ⟨rfl, rfl⟩
theorem val_is (c : UInt8) (V : Nat) (h : isH c = true) (hV : Hid (V = hv c)) (w : World) :
    Calls Tryd.prog 29 #[.int .u8 (c.toNat : Int)] w fun e w' => e = .returned (.tuple #[.int .u64 (V : Int), .bool true]) ∧ w = w' := by
  have h' := of_decide_eq_true h
  refine val_yes c.toNat V ?_ w
  rw [hV.out]
  unfold hv
  split <;> omega
theorem val_not (c : UInt8) (h : isH c = false) (w : World) :
    Calls Tryd.prog 29 #[.int .u8 (c.toNat : Int)] w fun e w' => e = .returned (.tuple #[.int .u64 0, .bool false]) ∧ w = w' :=
  val_no c.toNat (of_decide_eq_false h) w

/-! ### ParseHex -/
theorem ph_size (s : ByteArray) (h : s.size ≠ 16) (hs : s.size ≤ 281474976710656) (w : World) :
    Calls Tryd.prog 23 #[.string s] w fun e w' => e = .returned (.tuple #[.int .u64 0, .int .i64 1]) ∧ w = w' := by
  have t : ((s.size : Int) != 16) = true := by simp; omega
  clear h
  go_enter Tryd.func23, Tryd.ntmps23
  go_wp2_with fail
  go_ret2
  exact ⟨rfl, rfl⟩
theorem rph_size (s : ByteArray) (h : s.size ≠ 16) (hs : s.size ≤ 281474976710656) (w : World) :
    Calls Tryd.prog 25 #[.string s] w fun e w' => e = .returned (.tuple #[.int .u64 0, .int .i64 1]) ∧ w = w' := by
  have t : ((s.size : Int) != 16) = true := by simp; omega
  clear h
  go_enter Tryd.func25, Tryd.ntmps25
  go_wp2_with fail
  go_ret2
  exact ⟨rfl, rfl⟩
theorem or_u64 (a b : Nat) (ha : a < 18446744073709551616) (hb : b < 18446744073709551616) : bits .or .u64 (a : Int) (b : Int) = ((a ||| b : Nat) : Int) := by
  have hx : a ||| b < 2 ^ 64 := Nat.or_lt_two_pow (by omega) (by omega)
  have h1 : (BitVec.ofInt 64 (a : Int)).toNat = a := by
    rw [BitVec.ofInt_natCast, BitVec.toNat_ofNat]; exact Nat.mod_eq_of_lt (by omega)
  have h2 : (BitVec.ofInt 64 (b : Int)).toNat = b := by
    rw [BitVec.ofInt_natCast, BitVec.toNat_ofNat]; exact Nat.mod_eq_of_lt (by omega)
  show IntKind.u64.wrap ((BitVec.ofInt 64 (a : Int) ||| BitVec.ofInt 64 (b : Int)).toNat : Int) = _
  rw [BitVec.toNat_or, h1, h2, IntKind.wrap_u64]
  omega
theorem or_fact {a b : Nat} (hb : b < 16) (ha : a < 1152921504606846976) : bits .or .u64 ((a : Int) * 16) (b : Int) = ((16 * a + b : Nat) : Int) := by
  have e : (a : Int) * 16 = ((16 * a : Nat) : Int) := by omega
  rw [e, or_u64 _ _ (by omega) (by omega)]
  have h := Nat.two_pow_add_eq_or_of_lt (i := 4) (b := b) (by omega) a
  have h' : 16 * a + b = 16 * a ||| b := h
  rw [h']

set_option maxHeartbeats 400000 in
theorem ph_full (s : ByteArray) (h : s.size = 16) (V E : Nat) (hO : Hid (hf s ∧ V = pv 0 s.data.toList ∧ E = 0 ∨ ¬ hf s ∧ V = 0 ∧ E = 1)) (w : World) :
    Calls Tryd.prog 23 #[.string s] w fun e w' => e = .returned (.tuple #[.int .u64 (V : Int), .int .i64 (E : Int)]) ∧ w = w' := by
  have t : ((s.size : Int) != 16) = false := by simp; omega
  have hs : (s.size : Int) = 16 := by omega
  go_enter Tryd.func23, Tryd.ntmps23
  go_wp2_with fail
  go_loop [4, 5, 6, 7, 13] (fun s4 s5 s6 s7 s13 => ∃ k v : Nat, k ≤ 16 ∧ s13 = .int .i64 (k : Int) ∧ s4 = .int .u64 (v : Int) ∧ Hid (v = pv 0 (s.data.toList.take k) ∧ (s.data.toList.take k).all isH = true)) (fun _ _ _ _ s13 => 16 - (intOf s13).toNat)
  case atStart => exact ⟨0, 0, by omega, rfl, rfl, Lib.hid ⟨rfl, rfl⟩⟩
  case round =>
    obtain ⟨k, v, hk, rfl, rfl, HV⟩ := hrel
    by_cases hlt : k < 16
    · have hlt' : k < s.size := by omega
      cases hc : isH s[k] with
      | true =>
        have bv : v < 1152921504606846976 := by
          rw [HV.out.1]
          exact small_of (take_lt s k (by omega) HV.out.2) (by omega)
        have cv := fun w => val_is s[k] (hv s[k]) hc (Lib.hid rfl) w
        have bd := hv_lt hc
        have hst := pv_take s k hlt'
        have HV2 : Hid (16 * v + hv s[k] = pv 0 (s.data.toList.take (k + 1)) ∧ (s.data.toList.take (k + 1)).all isH = true) := Lib.hid ⟨by rw [hst, HV.out.1], all_more s k hlt' HV.out.2 hc⟩
        have e1 := or_fact (a := v) (b := hv s[k]) bd bv
        clear hc hst HV
        generalize hv s[k] = d at *
        go_wp2_with (go_at_call 29; (with_reducible refine (cv _).mono ?_); rintro e w' ⟨rfl, rfl⟩)
        go_round
        case rel => exact ⟨k + 1, 16 * v + d, by omega, by go_num, rfl, HV2⟩
        case measure => simp [intOf]; omega
      | false =>
        have hn := not_at k hlt' hc
        obtain ⟨rfl, rfl⟩ : V = 0 ∧ E = 1 := by
          rcases hO.out with ⟨a, _⟩ | ⟨_, a⟩
          · exact absurd a hn
          · exact a
        have cv := fun w => val_not s[k] hc w
        go_wp2_with (go_at_call 29; (with_reducible refine (cv _).mono ?_); rintro e w' ⟨rfl, rfl⟩)
        go_ret2
        exact ⟨rfl, rfl⟩
    · obtain rfl : k = 16 := by omega
      obtain ⟨rfl, rfl⟩ : V = v ∧ E = 0 := by
        have tk : s.data.toList.take 16 = s.data.toList := by rw [← h]; exact take_all s
        have hV := HV.out
        rw [tk] at hV
        rcases hO.out with ⟨_, a, b⟩ | ⟨a, _⟩
        · exact ⟨a.trans hV.1.symm, b⟩
        · exact absurd ⟨h, hV.2⟩ a
      go_wp2_with fail
      go_ret2
      exact ⟨rfl, rfl⟩

set_option maxHeartbeats 400000 in
theorem rph_full (s : ByteArray) (h : s.size = 16) (V E : Nat) (hO : Hid (hf s ∧ V = pv 0 s.data.toList ∧ E = 0 ∨ ¬ hf s ∧ V = 0 ∧ E = 1)) (w : World) :
    Calls Tryd.prog 25 #[.string s] w fun e w' => e = .returned (.tuple #[.int .u64 (V : Int), .int .i64 (E : Int)]) ∧ w = w' := by
  have t : ((s.size : Int) != 16) = false := by simp; omega
  have hs : (s.size : Int) = 16 := by omega
  go_enter Tryd.func25, Tryd.ntmps25
  go_wp2_with fail
  go_loop [4, 5, 6, 17, 30] (fun s4 s5 s6 s17 s30 => ∃ k v : Nat, k ≤ 16 ∧ s5 = .int .i64 (k : Int) ∧ s4 = .int .u64 (v : Int) ∧ Hid (v = pv 0 (s.data.toList.take k) ∧ (s.data.toList.take k).all isH = true)) (fun _ s5 _ _ _ => 16 - (intOf s5).toNat)
  case atStart => exact ⟨0, 0, by omega, rfl, rfl, Lib.hid ⟨rfl, rfl⟩⟩
  case round =>
    obtain ⟨k, v, hk, rfl, rfl, HV⟩ := hrel
    by_cases hlt : k < 16
    · have hlt' : k < s.size := by omega
      cases hc : isH s[k] with
      | true =>
        have bv : v < 1152921504606846976 := by
          rw [HV.out.1]
          exact small_of (take_lt s k (by omega) HV.out.2) (by omega)
        have hc' := of_decide_eq_true hc
        have hst := pv_take s k hlt'
        have HV2 : Hid (16 * v + hv s[k] = pv 0 (s.data.toList.take (k + 1)) ∧ (s.data.toList.take (k + 1)).all isH = true) := Lib.hid ⟨by rw [hst, HV.out.1], all_more s k hlt' HV.out.2 hc⟩
        have hd : hv s[k] = if s[k].toNat ≤ 57 then s[k].toNat - 48 else s[k].toNat - 87 := rfl
        clear hc hst HV
        generalize hv s[k] = d at *
        by_cases c1 : s[k].toNat ≤ 57
        · rw [if_pos c1] at hd
          have t0 : (48 : Int) ≤ (s[k].toNat : Int) := by omega
          have t1 : (s[k].toNat : Int) ≤ 57 := by omega
          have e1 : (s[k].toNat : Int) - 48 = (d : Int) := by omega
          have bd : d ≤ 9 := by omega
          have e2 : 16 * (v : Int) + (d : Int) = ((16 * v + d : Nat) : Int) := by omega
          clear hc' hd c1
          obtain ⟨u, hu⟩ : ∃ u, u = 16 * v + d := ⟨_, rfl⟩
          rw [← hu] at e2 HV2
          clear hu
          go_wp2_with fail
          go_round
          case rel => exact ⟨k + 1, u, by omega, by go_num, rfl, HV2⟩
          case measure => simp [intOf]; omega
        · rw [if_neg c1] at hd
          have t0 : (48 : Int) ≤ (s[k].toNat : Int) := by omega
          have t1 : ¬ ((s[k].toNat : Int) ≤ 57) := by omega
          have t2 : (97 : Int) ≤ (s[k].toNat : Int) := by omega
          have t3 : (s[k].toNat : Int) ≤ 102 := by omega
          have e1 : (s[k].toNat : Int) - 97 = ((d - 10 : Nat) : Int) := by omega
          have bd : d - 10 ≤ 5 := by omega
          have e2 : 16 * (v : Int) + ((d - 10 : Nat) : Int) + 10 = ((16 * v + d : Nat) : Int) := by omega
          clear hc' hd c1
          obtain ⟨u, hu⟩ : ∃ u, u = 16 * v + d := ⟨_, rfl⟩
          rw [← hu] at e2 HV2
          clear hu
          generalize d - 10 = g at *
          go_wp2_with fail
          go_round
          case rel => exact ⟨k + 1, u, by omega, by go_num, rfl, HV2⟩
          case measure => simp [intOf]; omega
      | false =>
        have hn := not_at k hlt' hc
        obtain ⟨rfl, rfl⟩ : V = 0 ∧ E = 1 := by
          rcases hO.out with ⟨a, _⟩ | ⟨_, a⟩
          · exact absurd a hn
          · exact a
        have hc' := of_decide_eq_false hc
        clear hc HV hn
        by_cases t0 : (48 : Int) ≤ (s[k].toNat : Int)
        · have t1 : ¬ ((s[k].toNat : Int) ≤ 57) := by omega
          by_cases t2 : (97 : Int) ≤ (s[k].toNat : Int)
          · have t3 : ¬ ((s[k].toNat : Int) ≤ 102) := by omega
            clear hc'
            go_wp2_with fail
            go_ret2
            exact ⟨rfl, rfl⟩
          · clear hc'
            go_wp2_with fail
            go_ret2
            exact ⟨rfl, rfl⟩
        · have t2 : ¬ ((97 : Int) ≤ (s[k].toNat : Int)) := by omega
          clear hc'
          go_wp2_with fail
          go_ret2
          exact ⟨rfl, rfl⟩
    · obtain rfl : k = 16 := by omega
      obtain ⟨rfl, rfl⟩ : V = v ∧ E = 0 := by
        have tk : s.data.toList.take 16 = s.data.toList := by rw [← h]; exact take_all s
        have hV := HV.out
        rw [tk] at hV
        rcases hO.out with ⟨_, a, b⟩ | ⟨a, _⟩
        · exact ⟨a.trans hV.1.symm, b⟩
        · exact absurd ⟨h, hV.2⟩ a
      go_wp2_with fail
      go_ret2
      exact ⟨rfl, rfl⟩

/-- what both answer to any text -/
theorem ph_any (s : ByteArray) (hs : s.size ≤ 281474976710656) (V E : Nat) (hO : Hid (hf s ∧ V = pv 0 s.data.toList ∧ E = 0 ∨ ¬ hf s ∧ V = 0 ∧ E = 1)) (w : World) :
    Calls Tryd.prog 23 #[.string s] w fun e w' => e = .returned (.tuple #[.int .u64 (V : Int), .int .i64 (E : Int)]) ∧ w = w' := by
  by_cases h : s.size = 16
  · exact ph_full s h V E hO w
  · obtain ⟨rfl, rfl⟩ : V = 0 ∧ E = 1 := by
      rcases hO.out with ⟨a, _⟩ | ⟨_, a⟩
      · exact absurd a.1 h
      · exact a
    exact ph_size s h hs w
theorem rph_any (s : ByteArray) (hs : s.size ≤ 281474976710656) (V E : Nat) (hO : Hid (hf s ∧ V = pv 0 s.data.toList ∧ E = 0 ∨ ¬ hf s ∧ V = 0 ∧ E = 1)) (w : World) :
    Calls Tryd.prog 25 #[.string s] w fun e w' => e = .returned (.tuple #[.int .u64 (V : Int), .int .i64 (E : Int)]) ∧ w = w' := by
  by_cases h : s.size = 16
  · exact rph_full s h V E hO w
  · obtain ⟨rfl, rfl⟩ : V = 0 ∧ E = 1 := by
      rcases hO.out with ⟨a, _⟩ | ⟨_, a⟩
      · exact absurd a.1 h
      · exact a
    exact rph_size s h hs w
end Go.Proofs.YthnbddacglfldaaDoor.dgP

/-
  The laws DigestSums, DigestMixes, DigestInverts, DigestKeyed, DigestHexes, DigestParses: each call returns true; new memory alone.
-/
import Derived.Test.YthnbddacglfldaaDoorDgW
namespace Go.Proofs.YthnbddacglfldaaDoor.dgL
open Go.RowKit
open Go.Proofs.YthnbddacglfldaaDoor.dgM Go.Proofs.YthnbddacglfldaaDoor.dgA Go.Proofs.YthnbddacglfldaaDoor.dgB Go.Proofs.YthnbddacglfldaaDoor.dgC Go.Proofs.YthnbddacglfldaaDoor.dgX Go.Proofs.YthnbddacglfldaaDoor.dgP Go.Proofs.YthnbddacglfldaaDoor.dgH Go.Proofs.YthnbddacglfldaaDoor.dgW
set_option linter.unusedVariables false

set_option maxRecDepth 10000 in
set_option maxHeartbeats 400000 in
theorem sums (s : ByteArray) (hs : s.size ≤ 281474976710656) (w : World) (hR : Rnd w) (hD : Dig w) :
    Calls Tryd.prog 3 #[.string s] w fun e w' => e = .returned (.bool true) ∧ Below w.heap.size w w' := by
  have K0 := Kg.start hR hD
  clear hR hD
  by_cases h : 5000 < s.size
  · have t : (5000 : Int) < (s.size : Int) := by omega
    clear h
    go_enter Tryd.func3, Tryd.ntmps3
    go_wp2_with (go_at_call 11; (with_reducible refine (awake_any _ _ K0).mono ?_); rintro e w9 ⟨rfl, K9⟩)
    go_ret
    exact ⟨rfl, K9.bel⟩
  · have t : ¬ (5000 : Int) < (s.size : Int) := by omega
    clear h
    have c1 := fun w => sum_any s _ (Lib.hid rfl) hs w
    have c2 := fun w => rsum_any s _ (Lib.hid rfl) hs w
    generalize sm s0 s.data.toList = z at *
    go_enter Tryd.func3, Tryd.ntmps3
    go_wp2_with (first
      | (go_at_call 12; (with_reducible refine (c1 _).mono ?_); rintro e w' ⟨rfl, rfl⟩)
      | (go_at_call 13; (with_reducible refine (c2 _).mono ?_); rintro e w' ⟨rfl, rfl⟩)
      | (go_at_call 11; (with_reducible refine (awake_any _ _ K0).mono ?_); rintro e w9 ⟨rfl, K9⟩))
    go_ret
    exact ⟨rfl, K9.bel⟩

set_option maxRecDepth 10000 in
set_option maxHeartbeats 400000 in
theorem mixes (x : Nat) (hx : x < A64) (w : World) (hR : Rnd w) (hD : Dig w) :
    Calls Tryd.prog 5 #[.int .u64 (x : Int)] w fun e w' => e = .returned (.bool true) ∧ Below w.heap.size w w' := by
  have K0 := Kg.start hR hD
  clear hR hD
  have c1 := fun w h => mix_any x _ hx (Lib.hid rfl) w h
  have c2 := fun w => rmix_any x _ hx (Lib.hid rfl) w
  have c3 := fun w h => unmix_any x _ hx (Lib.hid rfl) w h
  have c4 := fun w => runmix_any x _ hx (Lib.hid rfl) w
  generalize mx x = y at *
  generalize ux x = z at *
  clear hx
  go_enter Tryd.func5, Tryd.ntmps5
  go_wp2_with (first
    | (go_at_call 14; (with_reducible refine (c1 _ K0.rnd).mono ?_); rintro e w1 ⟨rfl, b1⟩; have K1 := K0.drawn b1; clear b1)
    | (go_at_call 15; (with_reducible refine (c2 _).mono ?_); rintro e w' ⟨rfl, rfl⟩)
    | (go_at_call 16; (with_reducible refine (c3 _ K1.rnd).mono ?_); rintro e w2 ⟨rfl, b2⟩; have K2 := K1.drawn b2; clear b2)
    | (go_at_call 17; (with_reducible refine (c4 _).mono ?_); rintro e w' ⟨rfl, rfl⟩)
    | (go_at_call 11; (with_reducible refine (awake_any _ _ K2).mono ?_); rintro e w9 ⟨rfl, K9⟩))
  go_ret
  exact ⟨rfl, K9.bel⟩

/-- two numbers' test -/
theorem same_num {a b c d : Nat} (h : a = b ↔ c = d) : (((a : Int) == (b : Int)) == ((c : Int) == (d : Int))) = true := by
  by_cases hc : c = d
  · have ha := h.2 hc
    subst ha; subst hc; simp
  · have ha : ¬ a = b := fun x => hc (h.1 x)
    have e1 : ((a : Int) == (b : Int)) = false := by rw [beq_eq_false_iff_ne]; exact fun x => ha (Int.ofNat.inj x)
    have e2 : ((c : Int) == (d : Int)) = false := by rw [beq_eq_false_iff_ne]; exact fun x => hc (Int.ofNat.inj x)
    rw [e1, e2]; rfl
set_option maxRecDepth 10000 in
set_option maxHeartbeats 400000 in
theorem inverts (x y : Nat) (hx : x < A64) (hy : y < A64) (w : World) (hR : Rnd w) (hD : Dig w) :
    Calls Tryd.prog 6 #[.int .u64 (x : Int), .int .u64 (y : Int)] w fun e w' => e = .returned (.bool true) ∧ Below w.heap.size w w' := by
  have K0 := Kg.start hR hD
  clear hR hD
  have c1 := fun w h => mix_any x _ hx (Lib.hid rfl) w h
  have c2 := fun w h => unmix_any (mx x) x (mx_lt hx) (Lib.hid (ux_mx hx).symm) w h
  have c3 := fun w h => unmix_any x _ hx (Lib.hid rfl) w h
  have c4 := fun w h => mix_any (ux x) x (ux_lt hx) (Lib.hid (mx_ux hx).symm) w h
  have c5 := fun w h => mix_any y _ hy (Lib.hid rfl) w h
  have ht := same_num (a := mx x) (b := mx y) (c := x) (d := y) ⟨fun h => mx_inj hx hy h, fun h => by rw [h]⟩
  generalize mx x = p at *
  generalize mx y = q at *
  generalize ux x = r at *
  clear hx hy
  go_enter Tryd.func6, Tryd.ntmps6
  go_wp2_with (first
    | (go_at_call 14; first
      | ((with_reducible refine (c1 _ K0.rnd).mono ?_); rintro e w1 ⟨rfl, b1⟩; have K1 := K0.drawn b1; clear b1)
      | ((with_reducible refine (c4 _ K3.rnd).mono ?_); rintro e w4 ⟨rfl, b4⟩; have K4 := K3.drawn b4; clear b4)
      | ((with_reducible refine (c1 _ K4.rnd).mono ?_); rintro e w5 ⟨rfl, b5⟩; have K5 := K4.drawn b5; clear b5)
      | ((with_reducible refine (c5 _ K5.rnd).mono ?_); rintro e w6 ⟨rfl, b6⟩; have K6 := K5.drawn b6; clear b6))
    | (go_at_call 16; first
      | ((with_reducible refine (c2 _ K1.rnd).mono ?_); rintro e w2 ⟨rfl, b2⟩; have K2 := K1.drawn b2; clear b2)
      | ((with_reducible refine (c3 _ K2.rnd).mono ?_); rintro e w3 ⟨rfl, b3⟩; have K3 := K2.drawn b3; clear b3))
    | (go_at_call 11; (with_reducible refine (awake_any _ _ K6).mono ?_); rintro e w9 ⟨rfl, K9⟩))
  go_ret
  exact ⟨rfl, K9.bel⟩

set_option maxRecDepth 10000 in
set_option maxHeartbeats 400000 in
theorem keyed (x : Nat) (hx : x < A64) (s : ByteArray) (hs : s.size ≤ 281474976710656) (w : World) (hR : Rnd w) (hD : Dig w) :
    Calls Tryd.prog 7 #[.int .u64 (x : Int), .string s] w fun e w' => e = .returned (.bool true) ∧ Below w.heap.size w w' := by
  have K0 := Kg.start hR hD
  clear hR hD
  by_cases h : 2000 < s.size
  · have t : (2000 : Int) < (s.size : Int) := by omega
    clear h
    go_enter Tryd.func7, Tryd.ntmps7
    go_wp2_with (go_at_call 11; (with_reducible refine (awake_any _ _ K0).mono ?_); rintro e w9 ⟨rfl, K9⟩)
    go_ret
    exact ⟨rfl, K9.bel⟩
  · have t : ¬ (2000 : Int) < (s.size : Int) := by omega
    clear h
    have c1 := fun w h => keyed_any x _ _ hx s (Lib.hid rfl) (Lib.hid rfl) hs w h
    have c2 := fun w => rkeyed_any x _ _ hx s (Lib.hid rfl) (Lib.hid rfl) hs w
    have c3 := fun w h => chain_any x _ _ hx s (Lib.hid rfl) (Lib.hid rfl) hs w h
    have c4 := fun w => rchain_any x _ _ hx s (Lib.hid rfl) (Lib.hid rfl) hs w
    generalize kd x (sm s0 s.data.toList) = y at *
    generalize ch x (sm s0 s.data.toList) = z at *
    clear hx
    go_enter Tryd.func7, Tryd.ntmps7
    go_wp2_with (first
      | (go_at_call 18; first
        | ((with_reducible refine (c1 _ K0.rnd).mono ?_); rintro e w1 ⟨rfl, b1⟩; have K1 := K0.drawn b1; clear b1))
      | (go_at_call 19; first
        | ((with_reducible refine (c2 _).mono ?_); rintro e w' ⟨rfl, rfl⟩))
      | (go_at_call 20; first
        | ((with_reducible refine (c3 _ K1.rnd).mono ?_); rintro e w2 ⟨rfl, b2⟩; have K2 := K1.drawn b2; clear b2))
      | (go_at_call 21; first
        | ((with_reducible refine (c4 _).mono ?_); rintro e w' ⟨rfl, rfl⟩))
      | (go_at_call 11; (with_reducible refine (awake_any _ _ K2).mono ?_); rintro e w9 ⟨rfl, K9⟩))
    go_ret
    exact ⟨rfl, K9.bel⟩

theorem num_test {a b : Nat} {p : Bool} (h : a = b ↔ p = true) : ((a : Int) == (b : Int)) = p := by
  cases p with
  | true => rw [beq_iff_eq, h.2 rfl]
  | false => rw [beq_eq_false_iff_ne]; exact fun x => Bool.noConfusion (h.1 (Int.ofNat.inj x))
theorem xor_canc {a b z : Nat} (h : a ^^^ z = b ^^^ z) : a = b := by
  apply Nat.eq_of_testBit_eq
  intro i
  have := congrArg (fun n => Nat.testBit n i) h
  simp only [Nat.testBit_xor] at this
  cases e : a.testBit i <;> cases f : b.testBit i <;> cases g : z.testBit i <;> simp_all
theorem xor_canc2 {a b z : Nat} (h : z ^^^ a = z ^^^ b) : a = b := xor_canc (z := z) (by rw [Nat.xor_comm a, Nat.xor_comm b]; exact h)
theorem kd_key {k o z : Nat} (hk : k < A64) (ho : o < A64) (hz : z < A64) : kd k z = kd o z ↔ k = o :=
  ⟨fun h => mx_inj hk ho (xor_canc (mx_inj (xor_lt (mx_lt hk) hz) (xor_lt (mx_lt ho) hz) h)), fun h => by rw [h]⟩
theorem kd_sum {k z y : Nat} (hk : k < A64) (hz : z < A64) (hy : y < A64) : kd k z = kd k y ↔ z = y :=
  ⟨fun h => xor_canc2 (mx_inj (xor_lt (mx_lt hk) hz) (xor_lt (mx_lt hk) hy) h), fun h => by rw [h]⟩
theorem add_canc {a b z : Nat} (ha : a < A64) (hb : b < A64) (h : (a + z) % A64 = (b + z) % A64) : a = b := by
  simp only [A64] at ha hb h
  omega
theorem add_canc2 {a b z : Nat} (ha : a < A64) (hb : b < A64) (h : (z + a) % A64 = (z + b) % A64) : a = b := by
  simp only [A64] at ha hb h
  omega
theorem ch_key {k o z : Nat} (hk : k < A64) (ho : o < A64) : ch k z = ch o z ↔ k = o :=
  ⟨fun h => add_canc hk ho (mx_inj (Nat.mod_lt _ (by decide)) (Nat.mod_lt _ (by decide)) h), fun h => by rw [h]⟩
theorem ch_sum {k z y : Nat} (hz : z < A64) (hy : y < A64) : ch k z = ch k y ↔ z = y :=
  ⟨fun h => add_canc2 hz hy (mx_inj (Nat.mod_lt _ (by decide)) (Nat.mod_lt _ (by decide)) h), fun h => by rw [h]⟩
set_option maxRecDepth 10000 in
set_option maxHeartbeats 1000000 in
theorem keys (x y : Nat) (hx : x < A64) (hy : y < A64) (s t : ByteArray) (hs : s.size ≤ 281474976710656) (ht : t.size ≤ 281474976710656) (w : World) (hR : Rnd w) (hD : Dig w) :
    Calls Tryd.prog 8 #[.int .u64 (x : Int), .int .u64 (y : Int), .string s, .string t] w fun e w' => e = .returned (.bool true) ∧ Below w.heap.size w w' := by
  have K0 := Kg.start hR hD
  clear hR hD
  by_cases h : 2000 < s.size
  · have t1 : (2000 : Int) < (s.size : Int) := by omega
    clear h
    go_enter Tryd.func8, Tryd.ntmps8
    go_wp2_with (go_at_call 11; (with_reducible refine (awake_any _ _ K0).mono ?_); rintro e w9 ⟨rfl, K9⟩)
    go_ret
    exact ⟨rfl, K9.bel⟩
  by_cases h2 : 2000 < t.size
  · have t1 : ¬ (2000 : Int) < (s.size : Int) := by omega
    have t2 : (2000 : Int) < (t.size : Int) := by omega
    clear h h2
    go_enter Tryd.func8, Tryd.ntmps8
    go_wp2_with (go_at_call 11; (with_reducible refine (awake_any _ _ K0).mono ?_); rintro e w9 ⟨rfl, K9⟩)
    go_ret
    exact ⟨rfl, K9.bel⟩
  have t1 : ¬ (2000 : Int) < (s.size : Int) := by omega
  have t2 : ¬ (2000 : Int) < (t.size : Int) := by omega
  clear h h2
  obtain ⟨z, hz⟩ : ∃ z, z = sm s0 s.data.toList := ⟨_, rfl⟩
  obtain ⟨u, hu⟩ : ∃ u, u = sm s0 t.data.toList := ⟨_, rfl⟩
  have bz : z < A64 := by rw [hz]; exact sm_lt s0_lt _
  have bu : u < A64 := by rw [hu]; exact sm_lt s0_lt _
  have c1 := fun w => sum_any s z (Lib.hid hz) hs w
  have c2 := fun w => sum_any t u (Lib.hid hu) ht w
  have k1 := fun w h => keyed_any x z _ hx s (Lib.hid hz) (Lib.hid rfl) hs w h
  have k2 := fun w h => keyed_any y z _ hy s (Lib.hid hz) (Lib.hid rfl) hs w h
  have k3 := fun w h => keyed_any x u _ hx t (Lib.hid hu) (Lib.hid rfl) ht w h
  have d1 := fun w h => chain_any x z _ hx s (Lib.hid hz) (Lib.hid rfl) hs w h
  have d2 := fun w h => chain_any y z _ hy s (Lib.hid hz) (Lib.hid rfl) hs w h
  have d3 := fun w h => chain_any x u _ hx t (Lib.hid hu) (Lib.hid rfl) ht w h
  obtain ⟨p, hp⟩ : ∃ p : Bool, x = y ↔ p = true := ⟨decide (x = y), by simp⟩
  obtain ⟨q, hq⟩ : ∃ q : Bool, z = u ↔ q = true := ⟨decide (z = u), by simp⟩
  have f0 := num_test hp
  have f1 := num_test ((kd_key hx hy bz).trans hp)
  have f2 := num_test ((ch_key (z := z) hx hy).trans hp)
  have f5 := num_test hq
  have f3 := num_test ((kd_sum hx bz bu).trans hq)
  have f4 := num_test ((ch_sum (k := x) bz bu).trans hq)
  clear hp hq
  generalize kd x z = A at *
  generalize kd y z = B at *
  generalize kd x u = C at *
  generalize ch x z = D at *
  generalize ch y z = E at *
  generalize ch x u = F at *
  clear hz hu bz bu hx hy
  cases p <;> cases q
  all_goals
      go_enter Tryd.func8, Tryd.ntmps8
      go_wp2_with (first
        | (go_at_call 18; first
            | ((with_reducible refine (k1 _ K0.rnd).mono ?_); rintro e w1 ⟨rfl, b1⟩; have K1 := K0.drawn b1; clear b1)
            | ((with_reducible refine (k2 _ K1.rnd).mono ?_); rintro e w2 ⟨rfl, b2⟩; have K2 := K1.drawn b2; clear b2)
            | ((with_reducible refine (k1 _ K4.rnd).mono ?_); rintro e w5 ⟨rfl, b5⟩; have K5 := K4.drawn b5; clear b5)
            | ((with_reducible refine (k3 _ K5.rnd).mono ?_); rintro e w6 ⟨rfl, b6⟩; have K6 := K5.drawn b6; clear b6))
        | (go_at_call 20; first
            | ((with_reducible refine (d1 _ K2.rnd).mono ?_); rintro e w3 ⟨rfl, b3⟩; have K3 := K2.drawn b3; clear b3)
            | ((with_reducible refine (d2 _ K3.rnd).mono ?_); rintro e w4 ⟨rfl, b4⟩; have K4 := K3.drawn b4; clear b4)
            | ((with_reducible refine (d1 _ K6.rnd).mono ?_); rintro e w7 ⟨rfl, b7⟩; have K7 := K6.drawn b7; clear b7)
            | ((with_reducible refine (d3 _ K7.rnd).mono ?_); rintro e w8 ⟨rfl, b8⟩; have K8 := K7.drawn b8; clear b8))
        | (go_at_call 12; first
            | ((with_reducible refine (c1 _).mono ?_); rintro e w' ⟨rfl, rfl⟩)
            | ((with_reducible refine (c2 _).mono ?_); rintro e w' ⟨rfl, rfl⟩))
        | (go_at_call 11; (with_reducible refine (awake_any _ _ K8).mono ?_); rintro e w9 ⟨rfl, K9⟩))
      go_ret
      exact ⟨rfl, K9.bel⟩
end Go.Proofs.YthnbddacglfldaaDoor.dgL

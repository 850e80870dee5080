/-
  Contracts of Same of the reference, and of the laws' of, short, brief.
-/
import Derived.Test.YtinceponggpioaaDoorFrD
namespace Go.Proofs.YtinceponggpioaaDoor.frX
open Go.RowKit
open Go.Proofs.YtinceponggpioaaDoor.natM Go.Proofs.YtinceponggpioaaDoor.natA Go.Proofs.YtinceponggpioaaDoor.natB Go.Proofs.YtinceponggpioaaDoor.natC Go.Proofs.YtinceponggpioaaDoor.natD Go.Proofs.YtinceponggpioaaDoor.natE Go.Proofs.YtinceponggpioaaDoor.natF Go.Proofs.YtinceponggpioaaDoor.natG Go.Proofs.YtinceponggpioaaDoor.natX Go.Proofs.YtinceponggpioaaDoor.natUi Go.Proofs.YtinceponggpioaaDoor.frM Go.Proofs.YtinceponggpioaaDoor.frA Go.Proofs.YtinceponggpioaaDoor.frB Go.Proofs.YtinceponggpioaaDoor.frC Go.Proofs.YtinceponggpioaaDoor.frD
set_option linter.unusedVariables false

theorem low_step {B X Y k : Nat} (h : X % B ^ k = Y % B ^ k) (hd : X / B ^ k % B = Y / B ^ k % B) : X % B ^ (k + 1) = Y % B ^ (k + 1) := by
  rw [Nat.pow_succ, Nat.mod_mul, Nat.mod_mul, h, hd]
set_option maxRecDepth 4000 in
set_option maxHeartbeats 2000000 in
theorem same_len (A D : Option Addr) (n c m d : Nat) (h : n ≠ m) (hn : n ≤ 9223372036854775807) (hm : m ≤ 9223372036854775807) (w : World) :
    Calls Tryd.prog 38 #[.slice A n c, .slice D m d] w fun e w' => e = .returned (.bool false) ∧ Below w.heap.size w w' := by
  have h2 : ((n : Int) != (m : Int)) = true := by simp; omega
  go_enter Tryd.func38, Tryd.ntmps38
  go_wp2
  go_ret
  exact ⟨rfl, Below.refl _ _⟩
set_option maxRecDepth 4000 in
set_option maxHeartbeats 2000000 in
theorem same_num (A D : Option Addr) (n c d X Y : Nat) (R : Bool) (hX : Hid (X < 4294967296 ^ n)) (hY : Hid (Y < 4294967296 ^ n)) (hR : Hid (R = decide (X = Y))) (hn : n ≤ 9223372036854775807) (w : World) (hI : Cel .u32 w A (dg 4294967296 n X)) (hJ : Cel .u32 w D (dg 4294967296 n Y)) :
    Calls Tryd.prog 38 #[.slice A n c, .slice D n d] w fun e w' => e = .returned (.bool R) ∧ Below w.heap.size w w' := by
  have HI := Lib.hid hI
  have HJ := Lib.hid hJ
  clear hI hJ
  go_enter Tryd.func38, Tryd.ntmps38
  go_wp2_with fail
  go_loopw [5] (fun i wr => ∃ k : Nat, k ≤ n ∧ i = .int .i64 (k : Int) ∧ Hid (X % 4294967296 ^ k = Y % 4294967296 ^ k) ∧ Hid (Below w.heap.size w wr)) (fun i _ => n - (intOf i).toNat)
  case atStart => exact ⟨0, by omega, rfl, Lib.hid (by simp [Nat.mod_one]), Lib.hid (Below.refl _ _)⟩
  case round =>
    obtain ⟨k, hk, rfl, hq, hbel⟩ := hrel
    by_cases hlt : k < n
    · obtain ⟨b, off, rfl, hc⟩ := (HI.out.below hbel.out).at_ (k := k) (by rw [dg_len]; exact hlt)
      obtain ⟨b2, off2, rfl, hc2⟩ := (HJ.out.below hbel.out).at_ (k := k) (by rw [dg_len]; exact hlt)
      rw [dg_at hlt] at hc hc2
      obtain ⟨x, hx⟩ : ∃ x, x = X / 4294967296 ^ k % 4294967296 := ⟨_, rfl⟩
      obtain ⟨y, hy⟩ : ∃ x, x = Y / 4294967296 ^ k % 4294967296 := ⟨_, rfl⟩
      rw [← hx] at hc
      rw [← hy] at hc2
      have i0 : (0 : Int) ≤ (k : Int) := by omega
      have i1 : (k : Int) < (n : Int) := by omega
      by_cases hxy : x = y
      · have hq2 := Lib.hid (low_step hq.out (by rw [← hx, ← hy, hxy]))
        subst hxy
        clear hx hy hq
        go_wp2_with fail
        go_quiet (fail)
        go_wp2_with fail
        go_roundw
        case rel => exact ⟨k + 1, by omega, by go_num, hq2, Lib.hid (bel_drewN hbel.out _)⟩
        case measure => simp [intOf]; omega
      · have hne : X ≠ Y := fun e => hxy (by rw [hx, hy, e])
        obtain rfl : R = false := by rw [hR.out, decide_eq_false hne]
        have hxy' : ((x : Int) != (y : Int)) = true := by simp; omega
        clear hx hy hq hxy hne hR
        go_wp2_with fail
        go_quiet (fail)
        go_wp2_with fail
        go_ret
        exact ⟨rfl, bel_drewN hbel.out _⟩
    · have e : k = n := by omega
      subst e
      have hXY : X = Y := by
        have := hq.out
        rwa [Nat.mod_eq_of_lt hX.out, Nat.mod_eq_of_lt hY.out] at this
      obtain rfl : R = true := by rw [hR.out, decide_eq_true hXY]
      clear hR hXY hq
      go_wp2_with fail
      go_ret
      exact ⟨rfl, hbel.out⟩
theorem same_any (A D : Option Addr) (n c m d X Y : Nat) (R : Bool) (hX : Hid (X < 4294967296 ^ n)) (hY : Hid (Y < 4294967296 ^ m)) (hR : Hid (R = (decide (n = m) && decide (X = Y)))) (hn : n ≤ 9223372036854775807) (hm : m ≤ 9223372036854775807) (w : World) (hI : Cel .u32 w A (dg 4294967296 n X)) (hJ : Cel .u32 w D (dg 4294967296 m Y)) :
    Calls Tryd.prog 38 #[.slice A n c, .slice D m d] w fun e w' => e = .returned (.bool R) ∧ Below w.heap.size w w' := by
  by_cases h : n = m
  · subst h
    exact same_num A D n c d X Y R hX hY (Lib.hid (by rw [hR.out]; simp)) hn w hI hJ
  · obtain rfl : R = false := by rw [hR.out, decide_eq_false h]; rfl
    exact same_len A D n c m d h hn hm w
/-- are two fractions the same, limb by limb -/
def smB (n X m Y n2 Z m2 W : Nat) : Bool := (decide (n = n2) && decide (X = Z)) && (decide (m = m2) && decide (Y = W))
set_option maxRecDepth 4000 in
set_option maxHeartbeats 2000000 in
theorem sm_any (A B A2 B2 : Option Addr) (n c m d n2 c2 m2 d2 X Y Z W : Nat) (R : Bool) (hX : Hid (X < 4294967296 ^ n)) (hY : Hid (Y < 4294967296 ^ m)) (hZ : Hid (Z < 4294967296 ^ n2)) (hW : Hid (W < 4294967296 ^ m2))
    (j1 : n ≤ 9223372036854775807) (j2 : m ≤ 9223372036854775807) (j3 : n2 ≤ 9223372036854775807) (j4 : m2 ≤ 9223372036854775807) (hR : Hid (R = smB n X m Y n2 Z m2 W)) (w : World)
    (h1 : Cel .u32 w A (dg 4294967296 n X)) (h2 : Cel .u32 w B (dg 4294967296 m Y)) (h3 : Cel .u32 w A2 (dg 4294967296 n2 Z)) (h4 : Cel .u32 w B2 (dg 4294967296 m2 W)) :
    Calls Tryd.prog 15 #[.agg #[.slice A n c, .slice B m d], .agg #[.slice A2 n2 c2, .slice B2 m2 d2]] w fun e w' => e = .returned (.bool R) ∧ Below w.heap.size w w' := by
  have S0 := Lib.hid ((((Kp.start w).addc h4).addc h3).addc h2 |>.addc h1)
  clear h1 h2 h3 h4
  have hr := hR.out
  unfold smB at hr
  clear hR
  obtain ⟨a, ha⟩ : ∃ a, Hid (a = (decide (n = n2) && decide (X = Z))) := ⟨_, Lib.hid rfl⟩
  obtain ⟨b, hb⟩ : ∃ a, Hid (a = (decide (m = m2) && decide (Y = W))) := ⟨_, Lib.hid rfl⟩
  rw [← ha.out, ← hb.out] at hr
  have c1 := fun w h1 h2 => same_any A A2 n c n2 c2 X Z a hX hZ ha j1 j3 w h1 h2
  have c2' := fun w h1 h2 => same_any B B2 m d m2 d2 Y W b hY hW hb j2 j4 w h1 h2
  clear hX hY hZ hW ha hb
  cases a with
  | false =>
    obtain rfl : R = false := hr
    clear c2'
    go_enter Tryd.func15, Tryd.ntmps15
    go_wp2_with (first
      | (go_at_call 38; (with_reducible refine (c1 _ (S0.out.al2 _ _ _ _).c0 (S0.out.al2 _ _ _ _).c2).mono ?_); rintro e w1 ⟨rfl, hb⟩; have S1 := Lib.hid ((S0.out.al2 _ _ _ _).below hb); clear hb))
    go_ret
    exact ⟨rfl, S1.out.bel⟩
  | true =>
    obtain rfl : R = b := hr
    go_enter Tryd.func15, Tryd.ntmps15
    go_wp2_with (first
      | (go_at_call 38; first
        | ((with_reducible refine (c1 _ (S0.out.al2 _ _ _ _).c0 (S0.out.al2 _ _ _ _).c2).mono ?_); rintro e w1 ⟨rfl, hb⟩; have S1 := Lib.hid ((S0.out.al2 _ _ _ _).below hb); have x1 := S1.out.b0.snd; have x2 := S1.out.b1.snd; clear hb)
        | ((with_reducible refine (c2' _ S1.out.c1 S1.out.c3).mono ?_); rintro e w2 ⟨rfl, hb⟩; have S2 := Lib.hid (S1.out.below hb); clear hb)))
    go_ret
    exact ⟨rfl, S2.out.bel⟩

/-! ### of, short, brief -/
def OfF (x y : Nat) (w : World) (e : Ending) (w' : World) : Prop := ∃ A n c B m d, e = .returned (.agg #[.slice A n c, .slice B m d]) ∧ Num w' A n c x ∧ Num w' B m d y ∧ Below w.heap.size w w'
theorem num_one {w : World} {g x : Nat} (h0 : 0 < x) (h1 : x < 4294967296) (hb : Bk w g #[.int .u32 (x : Int)]) : Num w (some ⟨g, 0, none⟩) 1 1 x := by
  have hl : nlen 4294967296 x = 1 := nlen_eq (n := 0) (by omega) (by omega) (by omega)
  refine ⟨hl.symm, Nat.le_refl _, fun hp => ⟨g, 0, rfl, fun j y hy => ?_⟩⟩
  have hj := lt_of_some hy
  rw [dg_len] at hj
  obtain rfl : j = 0 := by omega
  rw [Nat.zero_add, hb.one]
  have : y = x := by
    have h2 := hy
    rw [dg_snoc] at h2
    simp [dg_zero] at h2
    rw [← h2, Nat.mod_eq_of_lt h1]
  rw [this]
set_option maxRecDepth 4000 in
set_option maxHeartbeats 2000000 in
theorem ofl_zero (y : Nat) (h0 : 0 < y) (h1 : y < 4294967296) (w : World) : Calls Tryd.prog 31 #[.int .u32 0, .int .u32 (y : Int)] w (OfF 0 y w) := by
  go_enter Tryd.func31, Tryd.ntmps31
  go_wp2_with fail
  have q0 := bk_n0 w (Obj.cells #[.int .u32 (y : Int)] 43) (Obj.cells #[.slice none 0 0, .slice (some ⟨w.heap.size + 1, 0, none⟩) 1 1] 28) #[.slice none 0 0, .slice (some ⟨w.heap.size + 1, 0, none⟩) 1 1] 28
  refine bodyPost_ret (v := .agg #[.slice none 0 0, .slice (some ⟨w.heap.size + 1, 0, none⟩) 1 1]) (by simp [results, Tryd.results31, go_sem, q0.fst, q0.snd]) rfl ?_
  exact ⟨none, 0, 0, _, 1, 1, rfl, Num.nil _, num_one h0 h1 (bk_n1 _ _ _ _ _), below_three _ _ _ _⟩
set_option maxRecDepth 4000 in
set_option maxHeartbeats 2000000 in
theorem ofl_pos (x y : Nat) (hx0 : 0 < x) (hx1 : x < 4294967296) (h0 : 0 < y) (h1 : y < 4294967296) (w : World) : Calls Tryd.prog 31 #[.int .u32 (x : Int), .int .u32 (y : Int)] w (OfF x y w) := by
  have hx : ((x : Int) != 0) = true := by simp; omega
  go_enter Tryd.func31, Tryd.ntmps31
  go_wp2_with fail
  have q0 := (bk_n0 w (Obj.cells #[.int .u32 (y : Int)] 43) (Obj.cells #[.slice (some ⟨w.heap.size + 1 + 1 + 1, 0, none⟩) 1 1, .slice (some ⟨w.heap.size + 1, 0, none⟩) 1 1] 28) #[.slice (some ⟨w.heap.size + 1 + 1 + 1, 0, none⟩) 1 1, .slice (some ⟨w.heap.size + 1, 0, none⟩) 1 1] 28).alloc (Obj.cells #[.int .u32 (x : Int)] 43)
  refine bodyPost_ret (v := .agg #[.slice (some ⟨w.heap.size + 1 + 1 + 1, 0, none⟩) 1 1, .slice (some ⟨w.heap.size + 1, 0, none⟩) 1 1]) (by simp [results, Tryd.results31, go_sem, q0.fst, q0.snd]) rfl ?_
  exact ⟨_, 1, 1, _, 1, 1, rfl, num_one hx0 hx1 (Bk.n3 _ _ _ _ _ _), num_one h0 h1 ((bk_n1 _ _ _ _ _).alloc _), below_four _ _ _ _ _⟩
set_option maxRecDepth 4000 in
set_option maxHeartbeats 1000000 in
theorem short_yes (A : Option Addr) (n c : Nat) (k : Int) (h : (n : Int) ≤ k) (w : World) : Calls Tryd.prog 11 #[.agg #[.slice A n c], .int .i64 k] w fun e w' => e = .returned (.bool true) ∧ Below w.heap.size w w' := by
  go_enter Tryd.func11, Tryd.ntmps11
  go_wp2
  go_ret
  exact ⟨rfl, below_new _ _⟩
set_option maxRecDepth 4000 in
set_option maxHeartbeats 1000000 in
theorem short_no (A : Option Addr) (n c : Nat) (k : Int) (h : k < (n : Int)) (w : World) : Calls Tryd.prog 11 #[.agg #[.slice A n c], .int .i64 k] w fun e w' => e = .returned (.bool false) ∧ Below w.heap.size w w' := by
  have h2 : decide ((n : Int) ≤ k) = false := by rw [decide_eq_false_iff_not]; omega
  go_enter Tryd.func11, Tryd.ntmps11
  go_wp2
  go_ret
  exact ⟨rfl, below_new _ _⟩
set_option maxRecDepth 4000 in
set_option maxHeartbeats 1000000 in
theorem brief_yes (A B : Option Addr) (n c m d : Nat) (k : Int) (h : (n : Int) ≤ k) (h2 : (m : Int) ≤ k) (w : World) : Calls Tryd.prog 19 #[.agg #[.slice A n c, .slice B m d], .int .i64 k] w fun e w' => e = .returned (.bool true) ∧ Below w.heap.size w w' := by
  have S := Lib.hid ((Kp.start w).al1 #[.slice A n c, .slice B m d] 28)
  have c1 := short_yes A n c k h
  have c2 := short_yes B m d k h2
  clear h h2
  go_enter Tryd.func19, Tryd.ntmps19
  go_wp2_with (first
    | (go_at_call 11; first
      | ((with_reducible refine (c1 _).mono ?_); rintro e w1 ⟨rfl, hb⟩; have S1 := Lib.hid (S.out.below hb); have x1 := S1.out.b0.snd; clear hb)
      | ((with_reducible refine (c2 _).mono ?_); rintro e w2 ⟨rfl, hb⟩; have S2 := Lib.hid (S1.out.below hb); clear hb)))
  go_ret
  exact ⟨rfl, S2.out.bel⟩
set_option maxRecDepth 4000 in
set_option maxHeartbeats 1000000 in
theorem brief_no (A B : Option Addr) (n c m d : Nat) (k : Int) (h : ¬ ((n : Int) ≤ k ∧ (m : Int) ≤ k)) (w : World) : Calls Tryd.prog 19 #[.agg #[.slice A n c, .slice B m d], .int .i64 k] w fun e w' => e = .returned (.bool false) ∧ Below w.heap.size w w' := by
  have S := Lib.hid ((Kp.start w).al1 #[.slice A n c, .slice B m d] 28)
  by_cases h1 : (n : Int) ≤ k
  · have c1 := short_yes A n c k h1
    have c2 := short_no B m d k (by omega)
    clear h h1
    go_enter Tryd.func19, Tryd.ntmps19
    go_wp2_with (first
      | (go_at_call 11; first
        | ((with_reducible refine (c1 _).mono ?_); rintro e w1 ⟨rfl, hb⟩; have S1 := Lib.hid (S.out.below hb); have x1 := S1.out.b0.snd; clear hb)
        | ((with_reducible refine (c2 _).mono ?_); rintro e w2 ⟨rfl, hb⟩; have S2 := Lib.hid (S1.out.below hb); clear hb)))
    go_ret
    exact ⟨rfl, S2.out.bel⟩
  · have c1 := short_no A n c k (by omega)
    clear h h1
    go_enter Tryd.func19, Tryd.ntmps19
    go_wp2_with (first
      | (go_at_call 11; (with_reducible refine (c1 _).mono ?_); rintro e w1 ⟨rfl, hb⟩; have S1 := Lib.hid (S.out.below hb); clear hb))
    go_ret
    exact ⟨rfl, S1.out.bel⟩
end Go.Proofs.YtinceponggpioaaDoor.frX

/-
  The laws of fractions: what is made.
-/
import Derived.Test.YtinceponggpioaaDoorFrV
import Derived.Test.YtinceponggpioaaDoorFrY
namespace Go.Proofs.YtinceponggpioaaDoor.frL
open Go.RowKit
open Go.Proofs.YtinceponggpioaaDoor.natM Go.Proofs.YtinceponggpioaaDoor.natA Go.Proofs.YtinceponggpioaaDoor.natB Go.Proofs.YtinceponggpioaaDoor.natF Go.Proofs.YtinceponggpioaaDoor.natG Go.Proofs.YtinceponggpioaaDoor.natX Go.Proofs.YtinceponggpioaaDoor.natUi Go.Proofs.YtinceponggpioaaDoor.frM Go.Proofs.YtinceponggpioaaDoor.frA Go.Proofs.YtinceponggpioaaDoor.frB Go.Proofs.YtinceponggpioaaDoor.frC Go.Proofs.YtinceponggpioaaDoor.frD Go.Proofs.YtinceponggpioaaDoor.frE Go.Proofs.YtinceponggpioaaDoor.frI Go.Proofs.YtinceponggpioaaDoor.frR Go.Proofs.YtinceponggpioaaDoor.frS Go.Proofs.YtinceponggpioaaDoor.frV Go.Proofs.YtinceponggpioaaDoor.ntF Go.Proofs.YtinceponggpioaaDoor.frX Go.Proofs.YtinceponggpioaaDoor.frY
set_option linter.unusedVariables false

/-- both parts have at most 64 limbs -/
def small (r : Ans) : Prop := nlen 4294967296 r.2.1 ≤ 64 ∧ nlen 4294967296 r.2.2 ≤ 64
theorem small_no (e : Int) : small (no e) := ⟨by show nlen 4294967296 0 ≤ 64; rw [nlen_zero]; omega, by show nlen 4294967296 0 ≤ 64; rw [nlen_zero]; omega⟩
theorem small_rd {X Y : Nat} (h : nlen 4294967296 X ≤ 64) (h2 : nlen 4294967296 Y ≤ 64) : small (rd X Y) :=
  ⟨Nat.le_trans (nlen_mono (by omega) (Nat.div_le_self _ _)) h, Nat.le_trans (nlen_mono (by omega) (Nat.div_le_self _ _)) h2⟩
theorem val_len {n X : Nat} (h : valB n X = true) : nlen 4294967296 X ≤ 64 := by have := valB_iff.1 h; omega
theorem small_mk (n X m Y : Nat) : small (mkA (valB n X) (valB m Y) X Y) := by
  unfold mkA
  cases ha : valB n X with
  | false => exact small_no 2
  | true =>
    cases hb : valB m Y with
    | false => exact small_no 2
    | true =>
      by_cases h0 : Y = 0
      · simp only [Bool.and_self, if_true, h0]; exact small_no 10
      · simp only [Bool.and_self, if_true, h0, if_false]; exact small_rd (val_len ha) (val_len hb)
theorem small_of (x y : Int) (hx : x ≤ 9223372036854775807) (hy : y ≤ 9223372036854775807) : small (ofA x y) := by
  unfold ofA
  by_cases h : x < 0 ∨ y < 0
  · rw [if_pos h]; exact small_no 2
  · rw [if_neg h]
    unfold mkA
    simp only [Bool.and_self, if_true]
    split
    · exact small_no 10
    · exact small_rd (Nat.le_trans (len_word (by omega)) (by omega)) (Nat.le_trans (len_word (by omega)) (by omega))
theorem big_len {v : Nat} (h : big v = false) : nlen 4294967296 v ≤ 64 := big_iff.1 h
theorem small_mul (a b : Bool) (X Y Z W : Nat) : small (mulA a b X Y Z W) := by
  unfold mulA
  split
  · split
    · exact small_no 9
    · rename_i h
      simp only [Bool.or_eq_true, not_or, Bool.not_eq_true] at h
      exact small_rd (big_len h.1) (big_len h.2)
  · exact small_no 2
theorem small_div (a b : Bool) (X Y Z W : Nat) : small (divA a b X Y Z W) := by
  unfold divA
  split
  · split
    · exact small_no 10
    · split
      · exact small_no 9
      · rename_i h
        simp only [Bool.or_eq_true, not_or, Bool.not_eq_true] at h
        exact small_rd (big_len h.1) (big_len h.2)
  · exact small_no 2
theorem small_add (a b : Bool) (X Y Z W : Nat) : small (addA a b X Y Z W) := by
  unfold addA
  split
  · split
    · exact small_no 9
    · rename_i h
      simp only [Bool.or_eq_true, not_or, Bool.not_eq_true] at h
      exact small_rd (big_len h.2) (big_len h.1.2)
  · exact small_no 2
theorem small_sub (a b : Bool) (X Y Z W : Nat) : small (subA a b X Y Z W) := by
  unfold subA
  split
  · split
    · exact small_no 9
    · rename_i h
      simp only [Bool.or_eq_true, not_or, Bool.not_eq_true] at h
      exact small_rd (Nat.le_trans (nlen_mono (by omega) (Nat.sub_le _ _)) (big_len h.1.1)) (big_len h.2)
  · exact small_no 2
theorem same_ok {L M N D : Nat} (hL : L = nlen 4294967296 N) (hM : M = nlen 4294967296 D) (h1 : L ≤ 64) (h2 : M ≤ 64) (A : Option Addr) (c : Nat) (B : Option Addr) (d : Nat) (A2 : Option Addr) (c2 : Nat) (B2 : Option Addr) (d2 : Nat) (w : World) (q1 : Cel .u32 w A (dg 4294967296 L N)) (q2 : Cel .u32 w B (dg 4294967296 M D)) (q3 : Cel .u32 w A2 (dg 4294967296 L N)) (q4 : Cel .u32 w B2 (dg 4294967296 M D)) :
    Calls Tryd.prog 15 #[.agg #[.slice A L c, .slice B M d], .agg #[.slice A2 L c2, .slice B2 M d2]] w fun e w' => e = .returned (.bool true) ∧ Below w.heap.size w w' :=
  have hN : Hid (N < 4294967296 ^ L) := Lib.hid (by rw [hL]; exact nlen_lt (by omega) N)
  have hD : Hid (D < 4294967296 ^ M) := Lib.hid (by rw [hM]; exact nlen_lt (by omega) D)
  sm_any A B A2 B2 L c M d L c2 M d2 N D N D true hN hD hN hD (by omega) (by omega) (by omega) (by omega) (Lib.hid (by unfold smB; simp)) w q1 q2 q3 q4
theorem val_nl {V : Nat} (h : nlen 4294967296 V ≤ 64) : valB (nlen 4294967296 V) V = true := valB_iff.2 ⟨h, rfl⟩
set_option maxRecDepth 4000 in
set_option maxHeartbeats 4000000 in
theorem makes_any (A D : Option Addr) (n c m d X Y : Nat) (hX : Hid (X < 4294967296 ^ n)) (hY : Hid (Y < 4294967296 ^ m)) (i1 : n ≤ c) (i2 : m ≤ d) (j1 : n ≤ 9223372036854775807) (j2 : m ≤ 9223372036854775807) (w : World) (htab : Tab w) (hI : Cel .u32 w A (dg 4294967296 n X)) (hJ : Cel .u32 w D (dg 4294967296 m Y)) :
    Calls Tryd.prog 3 #[.agg #[.slice A n c], .agg #[.slice D m d]] w fun e w' => e = .returned (.bool true) ∧ Below w.heap.size w w' := by
  have S0 := Lib.hid (((Kp.start w).addc hJ).addc hI)
  have HT := Lib.hid htab
  clear hI hJ htab
  have kw := awake_any
  by_cases hn : (n : Int) ≤ 70
  · have s1 := short_yes A n c 70 hn
    by_cases hm : (m : Int) ≤ 70
    · have s2 := short_yes D m d 70 hm
      obtain ⟨⟨E, N, P⟩, hrE⟩ : ∃ r : Ans, r = mkA (valB n X) (valB m Y) X Y := ⟨_, rfl⟩
      have hsE : small (E, N, P) := by rw [hrE]; exact small_mk _ _ _ _
      obtain ⟨L, hL⟩ : ∃ k, k = nlen 4294967296 N := ⟨_, rfl⟩
      obtain ⟨M, hM⟩ : ∃ k, k = nlen 4294967296 P := ⟨_, rfl⟩
      have lE : L ≤ 64 ∧ M ≤ 64 := by rw [hL, hM]; exact hsE
      have k1 : ∀ w, Cel .u32 w A (dg 4294967296 n X) → Cel .u32 w D (dg 4294967296 m Y) → Calls Tryd.prog 13 #[.agg #[.slice A n c], .agg #[.slice D m d]] w (FrC E L M N P w) := fun w h1 h2 => (make_any A D n c m d X Y hX hY i1 i2 j1 j2 w h1 h2).mono fun e w' hh => frc hrE.symm hL.symm hM.symm hh
      have k2 : ∀ w, Cel .u32 w A (dg 4294967296 n X) → Cel .u32 w D (dg 4294967296 m Y) → Calls Tryd.prog 14 #[.agg #[.slice A n c], .agg #[.slice D m d]] w (FrC E L M N P w) := fun w h1 h2 => (rmake_any A D n c m d X Y hX hY j1 j2 w h1 h2).mono fun e w' hh => frc hrE.symm hL.symm hM.symm hh
      have k3 := same_ok hL hM lE.1 lE.2
      clear hX hY i1 i2 hrE hsE hL hM hn hm
      go_enter Tryd.func3, Tryd.ntmps3
      go_wp2_with (first
        | (go_at_call 11; first
          | ((with_reducible refine (s1 _).mono ?_); rintro e w1 ⟨rfl, hb⟩; have K1 := Lib.hid ((S0.out.al2 _ _ _ _).below hb); have yb3one := K1.out.b0.one; clear hb)
          | ((with_reducible refine (s2 _).mono ?_); rintro e w2 ⟨rfl, hb⟩; have K2 := Lib.hid (K1.out.below hb); clear yb3one; have yb2one := K2.out.b1.one; have yb3one := K2.out.b0.one; clear hb))
        | (go_at_call 13; first
          | ((with_reducible refine (k1 _ K2.out.c0 K2.out.c1).mono ?_); rintro e w3 ⟨Af, cf, Bf, df, rfl, Hf, qf, hb⟩; have K3 := Lib.hid (((K2.out.below hb).addc qf.2).addc qf.1); clear yb2one yb3one; have yb2one := fun o0 => (K3.out.alloc o0).b1.one; have yb3one := fun o0 => (K3.out.alloc o0).b0.one; clear hb qf))
        | (go_at_call 14; first
          | ((with_reducible refine (k2 _ (K3.out.al1 _ _).c2 (K3.out.al1 _ _).c3).mono ?_); rintro e w4 ⟨Ag, cg, Bg, dg, rfl, Hg, qg, hb⟩; have K4 := Lib.hid ((((K3.out.al1 _ _).below hb).addc qg.2).addc qg.1); clear yb2one yb3one; have yffst := fun o0 => (K4.out.alloc o0).b0.fst; have yfsnd := fun o0 => (K4.out.alloc o0).b0.snd; clear hb qg))
        | (go_at_call 15; first
          | ((with_reducible refine (k3 _ _ _ _ _ _ _ _ _ (K4.out.al1 _ _).c2 (K4.out.al1 _ _).c3 (K4.out.al1 _ _).c0 (K4.out.al1 _ _).c1).mono ?_); rintro e w5 ⟨rfl, hb⟩; have K5 := Lib.hid ((K4.out.al1 _ _).below hb); clear yffst yfsnd; clear hb))
        | (go_at_call 12; first
          | ((with_reducible refine (kw _ (tab_on HT.out K5.out.bel)).mono ?_); rintro e w6 ⟨rfl, hb⟩; have K6 := Lib.hid (K5.out.below hb); clear hb)))
      go_ret
      exact ⟨rfl, K6.out.bel⟩
    · have s2 := short_no D m d 70 (by omega)
      clear hX hY i1 i2 j1 j2 hn hm
      go_enter Tryd.func3, Tryd.ntmps3
      go_wp2_with (first
        | (go_at_call 11; first
          | ((with_reducible refine (s1 _).mono ?_); rintro e w1 ⟨rfl, hb⟩; have K1 := Lib.hid ((S0.out.al2 _ _ _ _).below hb); have yb3one := K1.out.b0.one; clear hb)
          | ((with_reducible refine (s2 _).mono ?_); rintro e w2 ⟨rfl, hb⟩; have K2 := Lib.hid (K1.out.below hb); clear yb3one; clear hb))
        | (go_at_call 12; first
          | ((with_reducible refine (kw _ (tab_on HT.out K2.out.bel)).mono ?_); rintro e w3 ⟨rfl, hb⟩; have K3 := Lib.hid (K2.out.below hb); clear hb)))
      go_ret
      exact ⟨rfl, K3.out.bel⟩
  · have s1 := short_no A n c 70 (by omega)
    clear hX hY i1 i2 j1 j2 hn
    go_enter Tryd.func3, Tryd.ntmps3
    go_wp2_with (first
      | (go_at_call 11; first
        | ((with_reducible refine (s1 _).mono ?_); rintro e w1 ⟨rfl, hb⟩; have K1 := Lib.hid ((S0.out.al2 _ _ _ _).below hb); clear hb))
      | (go_at_call 12; first
        | ((with_reducible refine (kw _ (tab_on HT.out K1.out.bel)).mono ?_); rintro e w2 ⟨rfl, hb⟩; have K2 := Lib.hid (K1.out.below hb); clear hb)))
    go_ret
    exact ⟨rfl, K2.out.bel⟩
theorem fr_of_low {N D : Nat} (h : Low N D) (h1 : nlen 4294967296 N ≤ 64) (h2 : nlen 4294967296 D ≤ 64) : true = frB (nlen 4294967296 N) N (nlen 4294967296 D) D := by
  unfold frB
  rw [val_nl h1, val_nl h2, decide_eq_true h.1, h.2]; rfl
theorem of_low {x y : Int} {N D : Nat} (h : ofA x y = (0, N, D)) : Low N D := by
  unfold ofA at h
  by_cases hn : x < 0 ∨ y < 0
  · rw [if_pos hn] at h; cases h
  · rw [if_neg hn] at h
    unfold mkA at h
    simp only [Bool.and_self, if_true] at h
    by_cases h0 : y.toNat = 0
    · rw [if_pos h0] at h; cases h
    · rw [if_neg h0] at h
      unfold rd at h
      injection h with h1 h2
      injection h2 with h2 h3
      rw [← h2, ← h3]
      exact rd_low (by omega)
set_option maxRecDepth 4000 in
set_option maxHeartbeats 4000000 in
theorem ofs_any (x y : Int) (hx : x ≤ 9223372036854775807) (hy : y ≤ 9223372036854775807) (w : World) (htab : Tab w) :
    Calls Tryd.prog 4 #[.int .i64 x, .int .i64 y] w fun e w' => e = .returned (.bool true) ∧ Below w.heap.size w w' := by
  have S0 := Lib.hid (Kp.start w)
  have HT := Lib.hid htab
  clear htab
  have kw := awake_any
  obtain ⟨⟨E, N, P⟩, hrE⟩ : ∃ r : Ans, r = ofA x y := ⟨_, rfl⟩
  have hsE : small (E, N, P) := by rw [hrE]; exact small_of _ _ hx hy
  obtain ⟨L, hL⟩ : ∃ k, k = nlen 4294967296 N := ⟨_, rfl⟩
  obtain ⟨M, hM⟩ : ∃ k, k = nlen 4294967296 P := ⟨_, rfl⟩
  have lE : L ≤ 64 ∧ M ≤ 64 := by rw [hL, hM]; exact hsE
  have k1 : ∀ w, Calls Tryd.prog 16 #[.int .i64 x, .int .i64 y] w (FrC E L M N P w) := fun w => (fof_any x y hx hy w).mono fun e w' hh => frc hrE.symm hL.symm hM.symm hh
  have k2 : ∀ w, Calls Tryd.prog 17 #[.int .i64 x, .int .i64 y] w (FrC E L M N P w) := fun w => (rfof_any x y hx hy w).mono fun e w' hh => frc hrE.symm hL.symm hM.symm hh
  have k3 := same_ok hL hM lE.1 lE.2
  have hN : Hid (N < 4294967296 ^ L) := Lib.hid (by rw [hL]; exact nlen_lt (by omega) N)
  have hD : Hid (P < 4294967296 ^ M) := Lib.hid (by rw [hM]; exact nlen_lt (by omega) P)
  by_cases he : E = 0
  · subst he
    have hv := fr_of_low (of_low hrE.symm) hsE.1 hsE.2
    rw [← hL, ← hM] at hv
    have k4 := fun A c B d w h h1 h2 => vd_any A B L c M d N P true hN hD (And.left h) (And.right h) (by omega) (by omega) (Lib.hid hv) w h1 h2
    clear hrE hsE hL hM hv hN hD
    go_enter Tryd.func4, Tryd.ntmps4
    go_wp2_with (first
      | (go_at_call 16; first
        | ((with_reducible refine (k1 _).mono ?_); rintro e w1 ⟨Af, cf, Bf, df, rfl, Hf, qf, hb⟩; have K1 := Lib.hid (((S0.out.below hb).addc qf.2).addc qf.1); clear hb qf))
      | (go_at_call 17; first
        | ((with_reducible refine (k2 _).mono ?_); rintro e w2 ⟨Ag, cg, Bg, dg, rfl, Hg, qg, hb⟩; have K2 := Lib.hid ((((K1.out.al1 _ _).below hb).addc qg.2).addc qg.1); have yffst := fun o0 => (K2.out.alloc o0).b0.fst; have yfsnd := fun o0 => (K2.out.alloc o0).b0.snd; clear hb qg))
      | (go_at_call 15; first
        | ((with_reducible refine (k3 _ _ _ _ _ _ _ _ _ (K2.out.al1 _ _).c2 (K2.out.al1 _ _).c3 (K2.out.al1 _ _).c0 (K2.out.al1 _ _).c1).mono ?_); rintro e w3 ⟨rfl, hb⟩; have K3 := Lib.hid ((K2.out.al1 _ _).below hb); clear yffst yfsnd; have yffst := K3.out.b1.fst; have yfsnd := K3.out.b1.snd; clear hb))
      | (go_at_call 18; first
        | ((with_reducible refine (k4 _ _ _ _ _ Hf K3.out.c2 K3.out.c3).mono ?_); rintro e w4 ⟨rfl, hb⟩; have K4 := Lib.hid (K3.out.below hb); clear yffst yfsnd; clear hb))
      | (go_at_call 12; first
        | ((with_reducible refine (kw _ (tab_on HT.out K4.out.bel)).mono ?_); rintro e w5 ⟨rfl, hb⟩; have K5 := Lib.hid (K4.out.below hb); clear hb)))
    go_ret
    exact ⟨rfl, K5.out.bel⟩
  · have he2 : (E != 0) = true := by rw [bne_iff_ne]; exact he
    clear hrE hsE hL hM hN hD he
    go_enter Tryd.func4, Tryd.ntmps4
    go_wp2_with (first
      | (go_at_call 16; first
        | ((with_reducible refine (k1 _).mono ?_); rintro e w1 ⟨Af, cf, Bf, df, rfl, Hf, qf, hb⟩; have K1 := Lib.hid (((S0.out.below hb).addc qf.2).addc qf.1); clear hb qf))
      | (go_at_call 17; first
        | ((with_reducible refine (k2 _).mono ?_); rintro e w2 ⟨Ag, cg, Bg, dg, rfl, Hg, qg, hb⟩; have K2 := Lib.hid ((((K1.out.al1 _ _).below hb).addc qg.2).addc qg.1); have yffst := fun o0 => (K2.out.alloc o0).b0.fst; have yfsnd := fun o0 => (K2.out.alloc o0).b0.snd; clear hb qg))
      | (go_at_call 15; first
        | ((with_reducible refine (k3 _ _ _ _ _ _ _ _ _ (K2.out.al1 _ _).c2 (K2.out.al1 _ _).c3 (K2.out.al1 _ _).c0 (K2.out.al1 _ _).c1).mono ?_); rintro e w3 ⟨rfl, hb⟩; have K3 := Lib.hid ((K2.out.al1 _ _).below hb); clear yffst yfsnd; clear hb))
      | (go_at_call 12; first
        | ((with_reducible refine (kw _ (tab_on HT.out K3.out.bel)).mono ?_); rintro e w4 ⟨rfl, hb⟩; have K4 := Lib.hid (K3.out.below hb); clear hb)))
    go_ret
    exact ⟨rfl, K4.out.bel⟩
set_option maxRecDepth 4000 in
set_option maxHeartbeats 4000000 in
theorem compares_any (A B A2 B2 : Option Addr) (n c m d n2 c2 m2 d2 X Y Z W : Nat) (hX : Hid (X < 4294967296 ^ n)) (hY : Hid (Y < 4294967296 ^ m)) (hZ : Hid (Z < 4294967296 ^ n2)) (hW : Hid (W < 4294967296 ^ m2))
    (i1 : n ≤ c) (i2 : m ≤ d) (i3 : n2 ≤ c2) (i4 : m2 ≤ d2) (j1 : n ≤ 9223372036854775807) (j2 : m ≤ 9223372036854775807) (j3 : n2 ≤ 9223372036854775807) (j4 : m2 ≤ 9223372036854775807) (w : World) (htab : Tab w)
    (h1 : Cel .u32 w A (dg 4294967296 n X)) (h2 : Cel .u32 w B (dg 4294967296 m Y)) (h3 : Cel .u32 w A2 (dg 4294967296 n2 Z)) (h4 : Cel .u32 w B2 (dg 4294967296 m2 W)) :
    Calls Tryd.prog 5 #[.agg #[.slice A n c, .slice B m d], .agg #[.slice A2 n2 c2, .slice B2 m2 d2]] w fun e w' => e = .returned (.bool true) ∧ Below w.heap.size w w' := by
  have S0 := Lib.hid ((((Kp.start w).addc h4).addc h3).addc h2 |>.addc h1)
  have HT := Lib.hid htab
  clear h1 h2 h3 h4 htab
  have kw := awake_any
  by_cases hn : (n : Int) ≤ 70 ∧ (m : Int) ≤ 70
  · have s1 := brief_yes A B n c m d 70 hn.1 hn.2
    by_cases hm : (n2 : Int) ≤ 70 ∧ (m2 : Int) ≤ 70
    · have s2 := brief_yes A2 B2 n2 c2 m2 d2 70 hm.1 hm.2
      obtain ⟨a, ha⟩ : ∃ a, Hid (a = frB n X m Y) := ⟨_, Lib.hid rfl⟩
      obtain ⟨b, hb⟩ : ∃ a, Hid (a = frB n2 Z m2 W) := ⟨_, Lib.hid rfl⟩
      obtain ⟨C, hC⟩ : ∃ C, Hid (C = fcV (frB n X m Y) (frB n2 Z m2 W) X Y Z W) := ⟨_, Lib.hid rfl⟩
      have k1 := fun w h1 h2 => vd_any A B n c m d X Y a hX hY i1 i2 j1 j2 ha w h1 h2
      have k2 := fun w h1 h2 => rvd_any A B n c m d X Y hX hY a j1 j2 ha w h1 h2
      have k3 := fun w h1 h2 => vd_any A2 B2 n2 c2 m2 d2 Z W b hZ hW i3 i4 j3 j4 hb w h1 h2
      have k4 := fun w h1 h2 => rvd_any A2 B2 n2 c2 m2 d2 Z W hZ hW b j3 j4 hb w h1 h2
      have k5 := fun w h1 h2 h3 h4 => fcmp_any A B A2 B2 n c m d n2 c2 m2 d2 X Y Z W C hX hY hZ hW i1 i2 i3 i4 j1 j2 j3 j4 hC w h1 h2 h3 h4
      have k6 := fun w h1 h2 h3 h4 => rfcmp_any A B A2 B2 n c m d n2 c2 m2 d2 X Y Z W C hX hY hZ hW j1 j2 j3 j4 hC w h1 h2 h3 h4
      clear hX hY hZ hW i1 i2 i3 i4 ha hb hC hn hm
      go_enter Tryd.func5, Tryd.ntmps5
      go_wp2_with (first
        | (go_at_call 19; first
          | ((with_reducible refine (s1 _).mono ?_); rintro e w1 ⟨rfl, hb⟩; have K1 := Lib.hid ((S0.out.al2 _ _ _ _).below hb); have yb3fst := K1.out.b0.fst; have yb3snd := K1.out.b0.snd; clear hb)
          | ((with_reducible refine (s2 _).mono ?_); rintro e w2 ⟨rfl, hb⟩; have K2 := Lib.hid (K1.out.below hb); clear yb3fst yb3snd; have yb2fst := K2.out.b1.fst; have yb2snd := K2.out.b1.snd; have yb3fst := K2.out.b0.fst; have yb3snd := K2.out.b0.snd; clear hb)))
      go_region_held3 (fun w' => w'.cell? ⟨w.heap.size, 0, none⟩ = some (.slice A n c) ∧ w'.cell? ⟨w.heap.size, 1, none⟩ = some (.slice B m d) ∧ w'.cell? ⟨w.heap.size + 1, 0, none⟩ = some (.slice A2 n2 c2) ∧ w'.cell? ⟨w.heap.size + 1, 1, none⟩ = some (.slice B2 m2 d2)) (go_keep)
        (first
          | (go_at_call 18; first
            | ((with_reducible refine (k1 _ K2.out.drew.c0 K2.out.drew.c1).mono ?_); rintro e w3 ⟨rfl, hb⟩; have K3 := Lib.hid (K2.out.drew.below hb); clear yb2fst yb2snd yb3fst yb3snd; have yb2fst := K3.out.b1.fst; have yb2snd := K3.out.b1.snd; have yb3fst := K3.out.b0.fst; have yb3snd := K3.out.b0.snd; clear hb)
            | ((with_reducible refine (k3 _ K4.out.c2 K4.out.c3).mono ?_); rintro e w5 ⟨rfl, hb⟩; have K5 := Lib.hid (K4.out.below hb); clear yb2fst yb2snd yb3fst yb3snd; have yb2fst := K5.out.b1.fst; have yb2snd := K5.out.b1.snd; have yb3fst := K5.out.b0.fst; have yb3snd := K5.out.b0.snd; clear hb))
          | (go_at_call 20; first
            | ((with_reducible refine (k2 _ K3.out.c0 K3.out.c1).mono ?_); rintro e w4 ⟨rfl, hb⟩; have K4 := Lib.hid (K3.out.below hb); clear yb2fst yb2snd yb3fst yb3snd; have yb2fst := K4.out.b1.fst; have yb2snd := K4.out.b1.snd; have yb3fst := K4.out.b0.fst; have yb3snd := K4.out.b0.snd; clear hb)
            | ((with_reducible refine (k4 _ K5.out.c2 K5.out.c3).mono ?_); rintro e w6 ⟨rfl, hb⟩; have K6 := Lib.hid (K5.out.below hb); clear yb2fst yb2snd yb3fst yb3snd; have yb2fst := K6.out.b1.fst; have yb2snd := K6.out.b1.snd; have yb3fst := K6.out.b0.fst; have yb3snd := K6.out.b0.snd; clear hb))
          | (go_at_call 21; first
            | ((with_reducible refine (k5 _ K6.out.c0 K6.out.c1 K6.out.c2 K6.out.c3).mono ?_); rintro e w7 ⟨rfl, hb⟩; have K7 := Lib.hid (K6.out.below hb); clear yb2fst yb2snd yb3fst yb3snd; have yb2fst := K7.out.b1.fst; have yb2snd := K7.out.b1.snd; have yb3fst := K7.out.b0.fst; have yb3snd := K7.out.b0.snd; clear hb))
          | (go_at_call 22; first
            | ((with_reducible refine (k6 _ K7.out.c0 K7.out.c1 K7.out.c2 K7.out.c3).mono ?_); rintro e w8 ⟨rfl, hb⟩; have K8 := Lib.hid (K7.out.below hb); clear yb2fst yb2snd yb3fst yb3snd; have yb2fst := K8.out.b1.fst; have yb2snd := K8.out.b1.snd; have yb3fst := K8.out.b0.fst; have yb3snd := K8.out.b0.snd; clear hb))
          | (go_at_call 12; first
            | ((with_reducible refine (kw _ (tab_on HT.out K8.out.bel)).mono ?_); rintro e w9 ⟨rfl, hb⟩; have K9 := Lib.hid (K8.out.below hb); clear yb2fst yb2snd yb3fst yb3snd; have yb2fst := K9.out.b1.fst; have yb2snd := K9.out.b1.snd; have yb3fst := K9.out.b0.fst; have yb3snd := K9.out.b0.snd; clear hb)))
      go_wp2_with fail
      all_goals go_ret
      all_goals exact ⟨rfl, K9.out.bel⟩
    · have s2 := brief_no A2 B2 n2 c2 m2 d2 70 hm
      clear hX hY hZ hW i1 i2 i3 i4 j1 j2 j3 j4 hn hm
      go_enter Tryd.func5, Tryd.ntmps5
      go_wp2_with (first
        | (go_at_call 19; first
          | ((with_reducible refine (s1 _).mono ?_); rintro e w1 ⟨rfl, hb⟩; have K1 := Lib.hid ((S0.out.al2 _ _ _ _).below hb); have yb3fst := K1.out.b0.fst; have yb3snd := K1.out.b0.snd; clear hb)
          | ((with_reducible refine (s2 _).mono ?_); rintro e w2 ⟨rfl, hb⟩; have K2 := Lib.hid (K1.out.below hb); clear yb3fst yb3snd; clear hb))
        | (go_at_call 12; first
          | ((with_reducible refine (kw _ (tab_on HT.out K2.out.bel)).mono ?_); rintro e w3 ⟨rfl, hb⟩; have K3 := Lib.hid (K2.out.below hb); clear hb)))
      go_ret
      exact ⟨rfl, K3.out.bel⟩
  · have s1 := brief_no A B n c m d 70 hn
    clear hX hY hZ hW i1 i2 i3 i4 j1 j2 j3 j4 hn
    go_enter Tryd.func5, Tryd.ntmps5
    go_wp2_with (first
      | (go_at_call 19; first
        | ((with_reducible refine (s1 _).mono ?_); rintro e w1 ⟨rfl, hb⟩; have K1 := Lib.hid ((S0.out.al2 _ _ _ _).below hb); clear hb))
      | (go_at_call 12; first
        | ((with_reducible refine (kw _ (tab_on HT.out K1.out.bel)).mono ?_); rintro e w2 ⟨rfl, hb⟩; have K2 := Lib.hid (K1.out.below hb); clear hb)))
    go_ret
    exact ⟨rfl, K2.out.bel⟩
set_option maxRecDepth 4000 in
set_option maxHeartbeats 4000000 in
theorem muls_any (A B A2 B2 : Option Addr) (n c m d n2 c2 m2 d2 X Y Z W : Nat) (hX : Hid (X < 4294967296 ^ n)) (hY : Hid (Y < 4294967296 ^ m)) (hZ : Hid (Z < 4294967296 ^ n2)) (hW : Hid (W < 4294967296 ^ m2))
    (i1 : n ≤ c) (i2 : m ≤ d) (i3 : n2 ≤ c2) (i4 : m2 ≤ d2) (j1 : n ≤ 9223372036854775807) (j2 : m ≤ 9223372036854775807) (j3 : n2 ≤ 9223372036854775807) (j4 : m2 ≤ 9223372036854775807) (w : World) (htab : Tab w)
    (h1 : Cel .u32 w A (dg 4294967296 n X)) (h2 : Cel .u32 w B (dg 4294967296 m Y)) (h3 : Cel .u32 w A2 (dg 4294967296 n2 Z)) (h4 : Cel .u32 w B2 (dg 4294967296 m2 W)) :
    Calls Tryd.prog 6 #[.agg #[.slice A n c, .slice B m d], .agg #[.slice A2 n2 c2, .slice B2 m2 d2]] w fun e w' => e = .returned (.bool true) ∧ Below w.heap.size w w' := by
  have S0 := Lib.hid ((((Kp.start w).addc h4).addc h3).addc h2 |>.addc h1)
  have HT := Lib.hid htab
  clear h1 h2 h3 h4 htab
  have kw := awake_any
  by_cases hn : (n : Int) ≤ 70 ∧ (m : Int) ≤ 70
  · have s1 := brief_yes A B n c m d 70 hn.1 hn.2
    by_cases hm : (n2 : Int) ≤ 70 ∧ (m2 : Int) ≤ 70
    · have s2 := brief_yes A2 B2 n2 c2 m2 d2 70 hm.1 hm.2
      obtain ⟨⟨E, N, P⟩, hrE⟩ : ∃ r : Ans, r = mulA (frB n X m Y) (frB n2 Z m2 W) X Y Z W := ⟨_, rfl⟩
      have hsE : small (E, N, P) := by rw [hrE]; exact small_mul _ _ _ _ _ _
      obtain ⟨L, hL⟩ : ∃ k, k = nlen 4294967296 N := ⟨_, rfl⟩
      obtain ⟨M, hM⟩ : ∃ k, k = nlen 4294967296 P := ⟨_, rfl⟩
      have lE : L ≤ 64 ∧ M ≤ 64 := by rw [hL, hM]; exact hsE
      obtain ⟨⟨E2, N2, P2⟩, hrE2⟩ : ∃ r : Ans, r = divA (frB n X m Y) (frB n2 Z m2 W) X Y Z W := ⟨_, rfl⟩
      have hsE2 : small (E2, N2, P2) := by rw [hrE2]; exact small_div _ _ _ _ _ _
      obtain ⟨L2, hL2⟩ : ∃ k, k = nlen 4294967296 N2 := ⟨_, rfl⟩
      obtain ⟨M2, hM2⟩ : ∃ k, k = nlen 4294967296 P2 := ⟨_, rfl⟩
      have lE2 : L2 ≤ 64 ∧ M2 ≤ 64 := by rw [hL2, hM2]; exact hsE2
      have k1 : ∀ w, Cel .u32 w A (dg 4294967296 n X) → Cel .u32 w B (dg 4294967296 m Y) → Cel .u32 w A2 (dg 4294967296 n2 Z) → Cel .u32 w B2 (dg 4294967296 m2 W) → Calls Tryd.prog 23 #[.agg #[.slice A n c, .slice B m d], .agg #[.slice A2 n2 c2, .slice B2 m2 d2]] w (FrC E L M N P w) := fun w h1 h2 h3 h4 => (fmul_any A B A2 B2 n c m d n2 c2 m2 d2 X Y Z W hX hY hZ hW i1 i2 i3 i4 j1 j2 j3 j4 w h1 h2 h3 h4).mono fun e w' hh => frc hrE.symm hL.symm hM.symm hh
      have k2 : ∀ w, Cel .u32 w A (dg 4294967296 n X) → Cel .u32 w B (dg 4294967296 m Y) → Cel .u32 w A2 (dg 4294967296 n2 Z) → Cel .u32 w B2 (dg 4294967296 m2 W) → Calls Tryd.prog 24 #[.agg #[.slice A n c, .slice B m d], .agg #[.slice A2 n2 c2, .slice B2 m2 d2]] w (FrC E L M N P w) := fun w h1 h2 h3 h4 => (rfmul_any A B A2 B2 n c m d n2 c2 m2 d2 X Y Z W hX hY hZ hW j1 j2 j3 j4 w h1 h2 h3 h4).mono fun e w' hh => frc hrE.symm hL.symm hM.symm hh
      have k3 : ∀ w, Cel .u32 w A (dg 4294967296 n X) → Cel .u32 w B (dg 4294967296 m Y) → Cel .u32 w A2 (dg 4294967296 n2 Z) → Cel .u32 w B2 (dg 4294967296 m2 W) → Calls Tryd.prog 25 #[.agg #[.slice A n c, .slice B m d], .agg #[.slice A2 n2 c2, .slice B2 m2 d2]] w (FrC E2 L2 M2 N2 P2 w) := fun w h1 h2 h3 h4 => (fdiv_any A B A2 B2 n c m d n2 c2 m2 d2 X Y Z W hX hY hZ hW i1 i2 i3 i4 j1 j2 j3 j4 w h1 h2 h3 h4).mono fun e w' hh => frc hrE2.symm hL2.symm hM2.symm hh
      have k4 : ∀ w, Cel .u32 w A (dg 4294967296 n X) → Cel .u32 w B (dg 4294967296 m Y) → Cel .u32 w A2 (dg 4294967296 n2 Z) → Cel .u32 w B2 (dg 4294967296 m2 W) → Calls Tryd.prog 26 #[.agg #[.slice A n c, .slice B m d], .agg #[.slice A2 n2 c2, .slice B2 m2 d2]] w (FrC E2 L2 M2 N2 P2 w) := fun w h1 h2 h3 h4 => (rfdiv_any A B A2 B2 n c m d n2 c2 m2 d2 X Y Z W hX hY hZ hW j1 j2 j3 j4 w h1 h2 h3 h4).mono fun e w' hh => frc hrE2.symm hL2.symm hM2.symm hh
      have k5 := same_ok hL hM lE.1 lE.2
      have k6 := same_ok hL2 hM2 lE2.1 lE2.2
      clear hX hY hZ hW i1 i2 i3 i4 hrE hsE hL hM hrE2 hsE2 hL2 hM2 hn hm
      go_enter Tryd.func6, Tryd.ntmps6
      go_wp2_with (first
        | (go_at_call 19; first
          | ((with_reducible refine (s1 _).mono ?_); rintro e w1 ⟨rfl, hb⟩; have K1 := Lib.hid ((S0.out.al2 _ _ _ _).below hb); have yb3fst := K1.out.b0.fst; have yb3snd := K1.out.b0.snd; clear hb)
          | ((with_reducible refine (s2 _).mono ?_); rintro e w2 ⟨rfl, hb⟩; have K2 := Lib.hid (K1.out.below hb); clear yb3fst yb3snd; have yb2fst := K2.out.b1.fst; have yb2snd := K2.out.b1.snd; have yb3fst := K2.out.b0.fst; have yb3snd := K2.out.b0.snd; clear hb))
        | (go_at_call 23; first
          | ((with_reducible refine (k1 _ K2.out.c0 K2.out.c1 K2.out.c2 K2.out.c3).mono ?_); rintro e w3 ⟨Af, cf, Bf, df, rfl, Hf, qf, hb⟩; have K3 := Lib.hid (((K2.out.below hb).addc qf.2).addc qf.1); clear yb2fst yb2snd yb3fst yb3snd; have yb2fst := fun o0 => (K3.out.alloc o0).b1.fst; have yb2snd := fun o0 => (K3.out.alloc o0).b1.snd; have yb3fst := fun o0 => (K3.out.alloc o0).b0.fst; have yb3snd := fun o0 => (K3.out.alloc o0).b0.snd; clear hb qf))
        | (go_at_call 24; first
          | ((with_reducible refine (k2 _ (K3.out.al1 _ _).c2 (K3.out.al1 _ _).c3 (K3.out.al1 _ _).c4 (K3.out.al1 _ _).c5).mono ?_); rintro e w4 ⟨Ag, cg, Bg, dg, rfl, Hg, qg, hb⟩; have K4 := Lib.hid ((((K3.out.al1 _ _).below hb).addc qg.2).addc qg.1); clear yb2fst yb2snd yb3fst yb3snd; have yb2fst := fun o0 => (K4.out.alloc o0).b2.fst; have yb2snd := fun o0 => (K4.out.alloc o0).b2.snd; have yb3fst := fun o0 => (K4.out.alloc o0).b1.fst; have yb3snd := fun o0 => (K4.out.alloc o0).b1.snd; clear hb qg))
        | (go_at_call 25; first
          | ((with_reducible refine (k3 _ (K4.out.al1 _ _).c4 (K4.out.al1 _ _).c5 (K4.out.al1 _ _).c6 (K4.out.al1 _ _).c7).mono ?_); rintro e w5 ⟨Ap, cp, Bp, dp, rfl, Hp, qp, hb⟩; have K5 := Lib.hid ((((K4.out.al1 _ _).below hb).addc qp.2).addc qp.1); clear yb2fst yb2snd yb3fst yb3snd; have yb2fst := fun o0 => (K5.out.alloc o0).b3.fst; have yb2snd := fun o0 => (K5.out.alloc o0).b3.snd; have yb3fst := fun o0 => (K5.out.alloc o0).b2.fst; have yb3snd := fun o0 => (K5.out.alloc o0).b2.snd; clear hb qp))
        | (go_at_call 26; first
          | ((with_reducible refine (k4 _ (K5.out.al1 _ _).c6 (K5.out.al1 _ _).c7 (K5.out.al1 _ _).c8 (K5.out.al1 _ _).c9).mono ?_); rintro e w6 ⟨Aq, cq, Bq, dq, rfl, Hq, qq, hb⟩; have K6 := Lib.hid ((((K5.out.al1 _ _).below hb).addc qq.2).addc qq.1); clear yb2fst yb2snd yb3fst yb3snd; have yffst := fun o0 => (K6.out.alloc o0).b2.fst; have yfsnd := fun o0 => (K6.out.alloc o0).b2.snd; have ygfst := fun o0 => (K6.out.alloc o0).b1.fst; have ygsnd := fun o0 => (K6.out.alloc o0).b1.snd; clear hb qq))
        | (go_at_call 15; first
          | ((with_reducible refine (k5 _ _ _ _ _ _ _ _ _ (K6.out.al1 _ _).c6 (K6.out.al1 _ _).c7 (K6.out.al1 _ _).c4 (K6.out.al1 _ _).c5).mono ?_); rintro e w7 ⟨rfl, hb⟩; have K7 := Lib.hid ((K6.out.al1 _ _).below hb); clear yffst yfsnd ygfst ygsnd; have ypfst := K7.out.b1.fst; have ypsnd := K7.out.b1.snd; have yqfst := K7.out.b0.fst; have yqsnd := K7.out.b0.snd; clear hb)
          | ((with_reducible refine (k6 _ _ _ _ _ _ _ _ _ K7.out.c2 K7.out.c3 K7.out.c0 K7.out.c1).mono ?_); rintro e w8 ⟨rfl, hb⟩; have K8 := Lib.hid (K7.out.below hb); clear ypfst ypsnd yqfst yqsnd; clear hb))
        | (go_at_call 12; first
          | ((with_reducible refine (kw _ (tab_on HT.out K8.out.bel)).mono ?_); rintro e w9 ⟨rfl, hb⟩; have K9 := Lib.hid (K8.out.below hb); clear hb)))
      go_ret
      exact ⟨rfl, K9.out.bel⟩
    · have s2 := brief_no A2 B2 n2 c2 m2 d2 70 hm
      clear hX hY hZ hW i1 i2 i3 i4 j1 j2 j3 j4 hn hm
      go_enter Tryd.func6, Tryd.ntmps6
      go_wp2_with (first
        | (go_at_call 19; first
          | ((with_reducible refine (s1 _).mono ?_); rintro e w1 ⟨rfl, hb⟩; have K1 := Lib.hid ((S0.out.al2 _ _ _ _).below hb); have yb3fst := K1.out.b0.fst; have yb3snd := K1.out.b0.snd; clear hb)
          | ((with_reducible refine (s2 _).mono ?_); rintro e w2 ⟨rfl, hb⟩; have K2 := Lib.hid (K1.out.below hb); clear yb3fst yb3snd; clear hb))
        | (go_at_call 12; first
          | ((with_reducible refine (kw _ (tab_on HT.out K2.out.bel)).mono ?_); rintro e w3 ⟨rfl, hb⟩; have K3 := Lib.hid (K2.out.below hb); clear hb)))
      go_ret
      exact ⟨rfl, K3.out.bel⟩
  · have s1 := brief_no A B n c m d 70 hn
    clear hX hY hZ hW i1 i2 i3 i4 j1 j2 j3 j4 hn
    go_enter Tryd.func6, Tryd.ntmps6
    go_wp2_with (first
      | (go_at_call 19; first
        | ((with_reducible refine (s1 _).mono ?_); rintro e w1 ⟨rfl, hb⟩; have K1 := Lib.hid ((S0.out.al2 _ _ _ _).below hb); clear hb))
      | (go_at_call 12; first
        | ((with_reducible refine (kw _ (tab_on HT.out K1.out.bel)).mono ?_); rintro e w2 ⟨rfl, hb⟩; have K2 := Lib.hid (K1.out.below hb); clear hb)))
    go_ret
    exact ⟨rfl, K2.out.bel⟩
end Go.Proofs.YtinceponggpioaaDoor.frL

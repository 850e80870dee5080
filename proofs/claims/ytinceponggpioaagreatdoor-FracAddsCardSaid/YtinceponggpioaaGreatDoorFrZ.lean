/-
  The law FracAdds.
-/
import Derived.Test.YtinceponggpioaaGreatDoorFrL
import Derived.Test.YtinceponggpioaaGreatDoorFrW
import Derived.Test.YtinceponggpioaaGreatDoorFrH
namespace Go.Proofs.YtinceponggpioaaGreatDoor.frZ
open Go.RowKit
open Go.Proofs.YtinceponggpioaaGreatDoor.natM Go.Proofs.YtinceponggpioaaGreatDoor.natA Go.Proofs.YtinceponggpioaaGreatDoor.natB Go.Proofs.YtinceponggpioaaGreatDoor.natF Go.Proofs.YtinceponggpioaaGreatDoor.natG Go.Proofs.YtinceponggpioaaGreatDoor.natX Go.Proofs.YtinceponggpioaaGreatDoor.natUi Go.Proofs.YtinceponggpioaaGreatDoor.frM Go.Proofs.YtinceponggpioaaGreatDoor.frA Go.Proofs.YtinceponggpioaaGreatDoor.frB Go.Proofs.YtinceponggpioaaGreatDoor.frC Go.Proofs.YtinceponggpioaaGreatDoor.frD Go.Proofs.YtinceponggpioaaGreatDoor.frE Go.Proofs.YtinceponggpioaaGreatDoor.frI Go.Proofs.YtinceponggpioaaGreatDoor.frR Go.Proofs.YtinceponggpioaaGreatDoor.frS Go.Proofs.YtinceponggpioaaGreatDoor.frV Go.Proofs.YtinceponggpioaaGreatDoor.ntF Go.Proofs.YtinceponggpioaaGreatDoor.frX Go.Proofs.YtinceponggpioaaGreatDoor.frY Go.Proofs.YtinceponggpioaaGreatDoor.frG Go.Proofs.YtinceponggpioaaGreatDoor.frH Go.Proofs.YtinceponggpioaaGreatDoor.frL Go.Proofs.YtinceponggpioaaGreatDoor.frW
set_option linter.unusedVariables false

set_option maxRecDepth 4000 in
set_option maxHeartbeats 4000000 in
theorem adds_any (A B A2 B2 : Option Addr) (n c m d n2 c2 m2 d2 X Y Z W : Nat) (hX : Hid (X < 4294967296 ^ n)) (hY : Hid (Y < 4294967296 ^ m)) (hZ : Hid (Z < 4294967296 ^ n2)) (hW : Hid (W < 4294967296 ^ m2))
    (i1 : n ≤ c) (i2 : m ≤ d) (i3 : n2 ≤ c2) (i4 : m2 ≤ d2) (j1 : n ≤ 9223372036854775807) (j2 : m ≤ 9223372036854775807) (j3 : n2 ≤ 9223372036854775807) (j4 : m2 ≤ 9223372036854775807) (w : World) (htab : Tab w)
    (h1 : Cel .u32 w A (dg 4294967296 n X)) (h2 : Cel .u32 w B (dg 4294967296 m Y)) (h3 : Cel .u32 w A2 (dg 4294967296 n2 Z)) (h4 : Cel .u32 w B2 (dg 4294967296 m2 W)) :
    Calls Tryz.prog 3 #[.agg #[.slice A n c, .slice B m d], .agg #[.slice A2 n2 c2, .slice B2 m2 d2]] w fun e w' => e = .returned (.bool true) ∧ Below w.heap.size w w' := by
  have S0 := Lib.hid ((((Kp.start w).addc h4).addc h3).addc h2 |>.addc h1)
  have HT := Lib.hid htab
  clear h1 h2 h3 h4 htab
  have kw := awake_any
  by_cases hn : (n : Int) ≤ 70 ∧ (m : Int) ≤ 70
  · have s1 := brief_yes A B n c m d 70 hn.1 hn.2
    by_cases hm : (n2 : Int) ≤ 70 ∧ (m2 : Int) ≤ 70
    · have s2 := brief_yes A2 B2 n2 c2 m2 d2 70 hm.1 hm.2
      obtain ⟨⟨E, N, P⟩, hrE⟩ : ∃ r : Ans, r = addA (frB n X m Y) (frB n2 Z m2 W) X Y Z W := ⟨_, rfl⟩
      have hsE : small (E, N, P) := by rw [hrE]; exact small_add _ _ _ _ _ _
      obtain ⟨L, hL⟩ : ∃ k, k = nlen 4294967296 N := ⟨_, rfl⟩
      obtain ⟨M, hM⟩ : ∃ k, k = nlen 4294967296 P := ⟨_, rfl⟩
      have lE : L ≤ 64 ∧ M ≤ 64 := by rw [hL, hM]; exact hsE
      obtain ⟨⟨E2, N2, P2⟩, hrE2⟩ : ∃ r : Ans, r = subA (frB n X m Y) (frB n2 Z m2 W) X Y Z W := ⟨_, rfl⟩
      have hsE2 : small (E2, N2, P2) := by rw [hrE2]; exact small_sub _ _ _ _ _ _
      obtain ⟨L2, hL2⟩ : ∃ k, k = nlen 4294967296 N2 := ⟨_, rfl⟩
      obtain ⟨M2, hM2⟩ : ∃ k, k = nlen 4294967296 P2 := ⟨_, rfl⟩
      have lE2 : L2 ≤ 64 ∧ M2 ≤ 64 := by rw [hL2, hM2]; exact hsE2
      have k1 : ∀ w, Cel .u32 w A (dg 4294967296 n X) → Cel .u32 w B (dg 4294967296 m Y) → Cel .u32 w A2 (dg 4294967296 n2 Z) → Cel .u32 w B2 (dg 4294967296 m2 W) → Calls Tryz.prog 6 #[.agg #[.slice A n c, .slice B m d], .agg #[.slice A2 n2 c2, .slice B2 m2 d2]] w (FrC E L M N P w) := fun w h1 h2 h3 h4 => (fadd_any A B A2 B2 n c m d n2 c2 m2 d2 X Y Z W hX hY hZ hW i1 i2 i3 i4 j1 j2 j3 j4 w h1 h2 h3 h4).mono fun e w' hh => frc hrE.symm hL.symm hM.symm hh
      have k2 : ∀ w, Cel .u32 w A (dg 4294967296 n X) → Cel .u32 w B (dg 4294967296 m Y) → Cel .u32 w A2 (dg 4294967296 n2 Z) → Cel .u32 w B2 (dg 4294967296 m2 W) → Calls Tryz.prog 7 #[.agg #[.slice A n c, .slice B m d], .agg #[.slice A2 n2 c2, .slice B2 m2 d2]] w (FrC E L M N P w) := fun w h1 h2 h3 h4 => (rfadd_any A B A2 B2 n c m d n2 c2 m2 d2 X Y Z W hX hY hZ hW j1 j2 j3 j4 w h1 h2 h3 h4).mono fun e w' hh => frc hrE.symm hL.symm hM.symm hh
      have k3 : ∀ w, Cel .u32 w A (dg 4294967296 n X) → Cel .u32 w B (dg 4294967296 m Y) → Cel .u32 w A2 (dg 4294967296 n2 Z) → Cel .u32 w B2 (dg 4294967296 m2 W) → Calls Tryz.prog 8 #[.agg #[.slice A n c, .slice B m d], .agg #[.slice A2 n2 c2, .slice B2 m2 d2]] w (FrC E2 L2 M2 N2 P2 w) := fun w h1 h2 h3 h4 => (fsub_any A B A2 B2 n c m d n2 c2 m2 d2 X Y Z W hX hY hZ hW i1 i2 i3 i4 j1 j2 j3 j4 w h1 h2 h3 h4).mono fun e w' hh => frc hrE2.symm hL2.symm hM2.symm hh
      have k4 : ∀ w, Cel .u32 w A (dg 4294967296 n X) → Cel .u32 w B (dg 4294967296 m Y) → Cel .u32 w A2 (dg 4294967296 n2 Z) → Cel .u32 w B2 (dg 4294967296 m2 W) → Calls Tryz.prog 9 #[.agg #[.slice A n c, .slice B m d], .agg #[.slice A2 n2 c2, .slice B2 m2 d2]] w (FrC E2 L2 M2 N2 P2 w) := fun w h1 h2 h3 h4 => (rfsub_any A B A2 B2 n c m d n2 c2 m2 d2 X Y Z W hX hY hZ hW j1 j2 j3 j4 w h1 h2 h3 h4).mono fun e w' hh => frc hrE2.symm hL2.symm hM2.symm hh
      have k5 := same_ok hL hM lE.1 lE.2
      have k6 := same_ok hL2 hM2 lE2.1 lE2.2
      clear hX hY hZ hW i1 i2 i3 i4 hrE hsE hL hM hrE2 hsE2 hL2 hM2 hn hm
      go_enter Tryz.func3, Tryz.ntmps3
      go_wp2_with (first
        | (go_at_call 4; first
          | ((with_reducible refine (s1 _).mono ?_); rintro e w1 ⟨rfl, hb⟩; have K1 := Lib.hid ((S0.out.al2 _ _ _ _).below hb); have yb3fst := K1.out.b0.fst; have yb3snd := K1.out.b0.snd; clear hb)
          | ((with_reducible refine (s2 _).mono ?_); rintro e w2 ⟨rfl, hb⟩; have K2 := Lib.hid (K1.out.below hb); clear yb3fst yb3snd; have yb2fst := K2.out.b1.fst; have yb2snd := K2.out.b1.snd; have yb3fst := K2.out.b0.fst; have yb3snd := K2.out.b0.snd; clear hb))
        | (go_at_call 6; first
          | ((with_reducible refine (k1 _ K2.out.c0 K2.out.c1 K2.out.c2 K2.out.c3).mono ?_); rintro e w3 ⟨Af, cf, Bf, df, rfl, Hf, qf, hb⟩; have K3 := Lib.hid (((K2.out.below hb).addc qf.2).addc qf.1); clear yb2fst yb2snd yb3fst yb3snd; have yb2fst := fun o0 => (K3.out.alloc o0).b1.fst; have yb2snd := fun o0 => (K3.out.alloc o0).b1.snd; have yb3fst := fun o0 => (K3.out.alloc o0).b0.fst; have yb3snd := fun o0 => (K3.out.alloc o0).b0.snd; clear hb qf))
        | (go_at_call 7; first
          | ((with_reducible refine (k2 _ (K3.out.al1 _ _).c2 (K3.out.al1 _ _).c3 (K3.out.al1 _ _).c4 (K3.out.al1 _ _).c5).mono ?_); rintro e w4 ⟨Ag, cg, Bg, dg, rfl, Hg, qg, hb⟩; have K4 := Lib.hid ((((K3.out.al1 _ _).below hb).addc qg.2).addc qg.1); clear yb2fst yb2snd yb3fst yb3snd; have yb2fst := fun o0 => (K4.out.alloc o0).b2.fst; have yb2snd := fun o0 => (K4.out.alloc o0).b2.snd; have yb3fst := fun o0 => (K4.out.alloc o0).b1.fst; have yb3snd := fun o0 => (K4.out.alloc o0).b1.snd; clear hb qg))
        | (go_at_call 8; first
          | ((with_reducible refine (k3 _ (K4.out.al1 _ _).c4 (K4.out.al1 _ _).c5 (K4.out.al1 _ _).c6 (K4.out.al1 _ _).c7).mono ?_); rintro e w5 ⟨Ap, cp, Bp, dp, rfl, Hp, qp, hb⟩; have K5 := Lib.hid ((((K4.out.al1 _ _).below hb).addc qp.2).addc qp.1); clear yb2fst yb2snd yb3fst yb3snd; have yb2fst := fun o0 => (K5.out.alloc o0).b3.fst; have yb2snd := fun o0 => (K5.out.alloc o0).b3.snd; have yb3fst := fun o0 => (K5.out.alloc o0).b2.fst; have yb3snd := fun o0 => (K5.out.alloc o0).b2.snd; clear hb qp))
        | (go_at_call 9; first
          | ((with_reducible refine (k4 _ (K5.out.al1 _ _).c6 (K5.out.al1 _ _).c7 (K5.out.al1 _ _).c8 (K5.out.al1 _ _).c9).mono ?_); rintro e w6 ⟨Aq, cq, Bq, dq, rfl, Hq, qq, hb⟩; have K6 := Lib.hid ((((K5.out.al1 _ _).below hb).addc qq.2).addc qq.1); clear yb2fst yb2snd yb3fst yb3snd; have yffst := fun o0 => (K6.out.alloc o0).b2.fst; have yfsnd := fun o0 => (K6.out.alloc o0).b2.snd; have ygfst := fun o0 => (K6.out.alloc o0).b1.fst; have ygsnd := fun o0 => (K6.out.alloc o0).b1.snd; clear hb qq))
        | (go_at_call 10; first
          | ((with_reducible refine (k5 _ _ _ _ _ _ _ _ _ (K6.out.al1 _ _).c6 (K6.out.al1 _ _).c7 (K6.out.al1 _ _).c4 (K6.out.al1 _ _).c5).mono ?_); rintro e w7 ⟨rfl, hb⟩; have K7 := Lib.hid ((K6.out.al1 _ _).below hb); clear yffst yfsnd ygfst ygsnd; have ypfst := K7.out.b1.fst; have ypsnd := K7.out.b1.snd; have yqfst := K7.out.b0.fst; have yqsnd := K7.out.b0.snd; clear hb)
          | ((with_reducible refine (k6 _ _ _ _ _ _ _ _ _ K7.out.c2 K7.out.c3 K7.out.c0 K7.out.c1).mono ?_); rintro e w8 ⟨rfl, hb⟩; have K8 := Lib.hid (K7.out.below hb); clear ypfst ypsnd yqfst yqsnd; clear hb))
        | (go_at_call 5; first
          | ((with_reducible refine (kw _ (tab_on HT.out K8.out.bel)).mono ?_); rintro e w9 ⟨rfl, hb⟩; have K9 := Lib.hid (K8.out.below hb); clear hb)))
      go_ret
      exact ⟨rfl, K9.out.bel⟩
    · have s2 := brief_no A2 B2 n2 c2 m2 d2 70 hm
      clear hX hY hZ hW i1 i2 i3 i4 j1 j2 j3 j4 hn hm
      go_enter Tryz.func3, Tryz.ntmps3
      go_wp2_with (first
        | (go_at_call 4; first
          | ((with_reducible refine (s1 _).mono ?_); rintro e w1 ⟨rfl, hb⟩; have K1 := Lib.hid ((S0.out.al2 _ _ _ _).below hb); have yb3fst := K1.out.b0.fst; have yb3snd := K1.out.b0.snd; clear hb)
          | ((with_reducible refine (s2 _).mono ?_); rintro e w2 ⟨rfl, hb⟩; have K2 := Lib.hid (K1.out.below hb); clear yb3fst yb3snd; clear hb))
        | (go_at_call 5; first
          | ((with_reducible refine (kw _ (tab_on HT.out K2.out.bel)).mono ?_); rintro e w3 ⟨rfl, hb⟩; have K3 := Lib.hid (K2.out.below hb); clear hb)))
      go_ret
      exact ⟨rfl, K3.out.bel⟩
  · have s1 := brief_no A B n c m d 70 hn
    clear hX hY hZ hW i1 i2 i3 i4 j1 j2 j3 j4 hn
    go_enter Tryz.func3, Tryz.ntmps3
    go_wp2_with (first
      | (go_at_call 4; first
        | ((with_reducible refine (s1 _).mono ?_); rintro e w1 ⟨rfl, hb⟩; have K1 := Lib.hid ((S0.out.al2 _ _ _ _).below hb); clear hb))
      | (go_at_call 5; first
        | ((with_reducible refine (kw _ (tab_on HT.out K1.out.bel)).mono ?_); rintro e w2 ⟨rfl, hb⟩; have K2 := Lib.hid (K1.out.below hb); clear hb)))
    go_ret
    exact ⟨rfl, K2.out.bel⟩
end Go.Proofs.YtinceponggpioaaGreatDoor.frZ

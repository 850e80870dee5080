/-
  The contract of Decimal of the reference.
-/
import Derived.Test.YtinceponggpioaaDoorFrV
import Derived.Test.YtinceponggpioaaDoorFrI
import Derived.Test.YtinceponggpioaaDoorFrJ
import Derived.Test.YtinceponggpioaaDoorNtG
namespace Go.Proofs.YtinceponggpioaaDoor.frJa
open Go.RowKit
open Go.Proofs.YtinceponggpioaaDoor.natM Go.Proofs.YtinceponggpioaaDoor.natA Go.Proofs.YtinceponggpioaaDoor.natB Go.Proofs.YtinceponggpioaaDoor.natC Go.Proofs.YtinceponggpioaaDoor.natD Go.Proofs.YtinceponggpioaaDoor.natE Go.Proofs.YtinceponggpioaaDoor.natF Go.Proofs.YtinceponggpioaaDoor.natG Go.Proofs.YtinceponggpioaaDoor.natH Go.Proofs.YtinceponggpioaaDoor.natI Go.Proofs.YtinceponggpioaaDoor.natJ Go.Proofs.YtinceponggpioaaDoor.natX Go.Proofs.YtinceponggpioaaDoor.natUi Go.Proofs.YtinceponggpioaaDoor.frM Go.Proofs.YtinceponggpioaaDoor.frA Go.Proofs.YtinceponggpioaaDoor.frB Go.Proofs.YtinceponggpioaaDoor.frC Go.Proofs.YtinceponggpioaaDoor.frD Go.Proofs.YtinceponggpioaaDoor.frTx Go.Proofs.YtinceponggpioaaDoor.ntF Go.Proofs.YtinceponggpioaaDoor.ntM Go.Proofs.YtinceponggpioaaDoor.ntG Go.Proofs.YtinceponggpioaaDoor.frR Go.Proofs.YtinceponggpioaaDoor.frV Go.Proofs.YtinceponggpioaaDoor.frI Go.Proofs.YtinceponggpioaaDoor.frJ
set_option linter.unusedVariables false

set_option maxRecDepth 4000 in
set_option maxHeartbeats 8000000 in
theorem rdec_ok (A B : Option Addr) (n c m d X Y p : Nat) (hX : Hid (X < 4294967296 ^ n)) (hY : Hid (Y < 4294967296 ^ m)) (v1 : Hid (valB n X = true)) (v2 : Hid (valB m Y = true)) (hv : Hid (frB n X m Y = true)) (hy : 0 < Y) (hp : p ≤ 18) (hbig : nlen 4294967296 (X * 10 ^ p) ≤ 64)
    (w : World) (h1 : Cel .u32 w A (dg 4294967296 n X)) (h2 : Cel .u32 w B (dg 4294967296 m Y)) :
    Calls Tryd.prog 28 #[.agg #[.slice A n c, .slice B m d], .int .i64 (p : Int)] w (TxP (decT (X * 10 ^ p / Y) p) 0 w) := by
  have S0 := Lib.hid (((Kp.start w).addc h2).addc h1)
  clear h1 h2
  have j1 := (valB_iff.1 v1.out).1
  have j2 := (valB_iff.1 v2.out).1
  have c1 := fun w h1 h2 => rvd_any A B n c m d X Y hX hY true (by omega) (by omega) (Lib.hid hv.out.symm) w h1 h2
  obtain ⟨T, hT⟩ : ∃ T, T = 10 ^ p := ⟨_, rfl⟩
  have hT64 : T < 18446744073709551616 := by
    have : 10 ^ p ≤ 10 ^ 18 := Nat.pow_le_pow_right (by omega) hp
    omega
  have hT0 : 0 < T := by rw [hT]; exact Nat.pow_pos (by omega)
  rw [← hT] at hbig ⊢
  obtain ⟨V, hV⟩ : ∃ V, V = X * T := ⟨_, rfl⟩
  rw [← hV] at hbig ⊢
  obtain ⟨kT, hkT⟩ : ∃ k, k = nlen 4294967296 T := ⟨_, rfl⟩
  have vT : valB kT T = true := valB_iff.2 ⟨by rw [hkT]; exact Nat.le_trans (len_word hT64) (by omega), hkT.symm⟩
  have co := fun w => rof_any T hT64 w
  have cm := rmul_ok v1.out vT hV hbig
  obtain ⟨kV, hkV⟩ : ∃ k, k = nlen 4294967296 V := ⟨_, rfl⟩
  have vV : valB kV V = true := valB_iff.2 ⟨by omega, hkV.symm⟩
  obtain ⟨Q, hQ⟩ : ∃ Q, Q = V / Y := ⟨_, rfl⟩
  obtain ⟨R, hR⟩ : ∃ Q, Q = V % Y := ⟨_, rfl⟩
  rw [← hQ]
  have cd := rdiv_kit vV v2.out hy hQ hR
  have vQ := val_le (V := Q) vV (by rw [hQ]; exact Nat.div_le_self _ _)
  obtain ⟨kQ, hkQ⟩ : ∃ k, k = nlen 4294967296 Q := ⟨_, rfl⟩
  rw [← hkQ] at vQ
  obtain ⟨U, hU⟩ : ∃ U, U = Q / T := ⟨_, rfl⟩
  obtain ⟨R2, hR2⟩ : ∃ U, U = Q % T := ⟨_, rfl⟩
  have ce := rdiv_kit vQ vT hT0 hU hR2
  have vU := val_le (V := U) vQ (by rw [hU]; exact Nat.div_le_self _ _)
  have vR := val_le (V := R2) vQ (by rw [hR2]; exact Nat.mod_le _ _)
  obtain ⟨kU, hkU⟩ : ∃ k, k = nlen 4294967296 U := ⟨_, rfl⟩
  obtain ⟨kR, hkR⟩ : ∃ k, k = nlen 4294967296 R2 := ⟨_, rfl⟩
  rw [← hkU] at vU
  rw [← hkR] at vR
  have cf := fun A c w hI => rformat_any A kQ c Q (Lib.hid (val_lt vQ)) (by have := (valB_iff.1 vQ).1; omega) w hI
  have cu := fun A c w hI => rformat_any A kU c U (Lib.hid (val_lt vU)) (by have := (valB_iff.1 vU).1; omega) w hI
  have cr := fun A c w hI => rformat_any A kR c R2 (Lib.hid (val_lt vR)) (by have := (valB_iff.1 vR).1; omega) w hI
  rw [fmt_yes vQ] at cf
  rw [fmt_yes vU] at cu
  rw [fmt_yes vR] at cr
  have hLU := dec_620 vU
  obtain ⟨TX, hTX⟩ : ∃ TX, Hid (TX = decT Q p) := ⟨_, Lib.hid rfl⟩
  rw [← hTX.out]
  have HRT := Lib.hid (show R2 < 10 ^ p by rw [hR2, ← hT]; exact Nat.mod_lt _ hT0)
  have HTX2 : Hid (0 < p → TX = Lib.decDigits U ++ [46] ++ padp p R2) := Lib.hid fun h => by
    rw [hTX.out]; unfold decT; rw [if_neg (by omega), ← hT, ← hU, ← hR2]
  have HKT := Lib.hid hkT
  have HKV := Lib.hid hkV
  have HKQ := Lib.hid hkQ
  have HKU := Lib.hid hkU
  have HKR := Lib.hid hkR
  have HT10 := Lib.hid hT
  clear vQ vV vU vR hQ hR hU hR2 hkQ hkV hkT hkU hkR vT hV hbig hT hX hY v1 v2 hv hy hT0
  go_enter Tryd.func28, Tryd.ntmps28
  go_wp2_with (go_at_call 20; (with_reducible refine (c1 _ (S0.out.al1 _ _).c0 (S0.out.al1 _ _).c1).mono ?_); rintro e w1 ⟨rfl, hb⟩; have S1 := Lib.hid ((S0.out.al1 _ _).below hb); clear hb)
  go_loopw [6, 7] (fun s i wr => ∃ k t : Nat, k ≤ p ∧ i = .int .i64 (k : Int) ∧ s = .int .u64 (t : Int) ∧ Hid (t = 10 ^ k) ∧ wr = w1) (fun _ i _ => p - (intOf i).toNat)
  case atStart => exact ⟨0, 1, by omega, rfl, rfl, Lib.hid rfl, rfl⟩
  case round =>
    obtain ⟨k, t, hk, rfl, rfl, ht, rfl⟩ := hrel
    by_cases hlt : k < p
    · obtain ⟨t2, e1, e2, e3⟩ := ten_step hlt hp ht.out
      have H2 := Lib.hid e2
      clear e2 ht
      have e1' : (10 : Int) * (t : Int) = (t2 : Int) := by omega
      have w1 : IntKind.u64.wrap (t2 : Int) = (t2 : Int) := IntWalk.u64_in _ (by omega)
      go_wp2_with fail
      go_roundw
      case rel => exact ⟨k + 1, t2, by omega, by go_num, rfl, H2, by first | trivial | rfl⟩
      case measure => simp [intOf]; omega
    · obtain rfl : k = p := by omega
      obtain rfl : t = T := by rw [ht.out, HT10.out]
      clear ht hlt hk
      go_upto_region 8 with fail
      have x1 := S1.out.b0.fst
      have l0 := S1.out.b0.lt
      have ne1 := World.new_ne wr _ x1
      go_cut [8, 9] from 18 (fun s7 s8 wx => ∃ (p7 : Nat) (A5 A6 : Option Addr) (c6 : Nat), s7 = .pointer (some ⟨p7, 0, none⟩) ∧ s8 = .int .i64 0 ∧ Hid (Kp w [(A6, kV, V), (A5, kT, t), (A, n, X), (B, m, Y)] [(w.heap.size, #[.slice A n c, .slice B m d]), (p7, #[.slice A6 kV c6])] wx))
      case first =>
        go_region_held3 (fun w' => w'.cell? ⟨w.heap.size, 0, none⟩ = some (.slice A n c)) (go_keep)
          (first
            | (go_at_call 40; first
              | ((with_reducible refine (co _).mono ?_); rintro e w5 ⟨A5, n5, c5, rfl, q, hb⟩; obtain ⟨z, q2⟩ := num_at HKT.out q; subst z; have S5 := Lib.hid ((S1.out.drew.below hb).addc q2); have x5 := S5.out.b0.fst; have ne5 := World.new_ne w5 _ x5; clear hb q q2)
              | ((with_reducible refine (co _).mono ?_); rintro e w5 ⟨A5, n5, c5, rfl, q, hb⟩; obtain ⟨z, q2⟩ := num_at HKT.out q; subst z; have S5b := Lib.hid (((S1.out.al1 _ _).drew.below hb).addc q2); have x5 := S5b.out.b1.fst; clear hb q q2))
            | (go_at_call 48; first
              | ((with_reducible refine (cm _ _ _ _ _ S5.out.c1 S5.out.c0).mono ?_); rintro e w6 ⟨A6, n6, c6, rfl, q, hb⟩; obtain ⟨z, q2⟩ := num_at HKV.out q; subst z; have S6 := Lib.hid ((S5.out.below hb).addc q2); have x6 := S6.out.b0.fst; have ne6 := World.new_ne w6 _ x6; clear hb q q2)
              | ((with_reducible refine (cm _ _ _ _ _ (S5.out.al1 _ _).c1 (S5.out.al1 _ _).c0).mono ?_); rintro e w6 ⟨A6, n6, c6, rfl, q, hb⟩; obtain ⟨z, q2⟩ := num_at HKV.out q; subst z; have S6 := Lib.hid (((S5.out.al1 _ _).below hb).addc q2); have x6 := S6.out.b1.fst; have y6 := S6.out.b0.one; have f6 := S6.out.b0.free 0; have ne6 : w5.heap.size ≠ w.heap.size := Ne.symm (Nat.ne_of_lt S5.out.b0.lt); clear hb q q2)
              | ((with_reducible refine (cm _ _ _ _ _ S5b.out.c1 S5b.out.c0).mono ?_); rintro e w6 ⟨A6, n6, c6, rfl, q, hb⟩; obtain ⟨z, q2⟩ := num_at HKV.out q; subst z; have S6 := Lib.hid ((S5b.out.below hb).addc q2); have x6 := S6.out.b1.fst; have y6 := S6.out.b0.one; have f6 := S6.out.b0.free 0; have ne6 : wr.heap.size ≠ w.heap.size := Ne.symm (Nat.ne_of_lt l0); clear hb q q2)))
        all_goals go_wp2_with fail
        all_goals go_meet
        all_goals first
          | exact ⟨_, A5, A6, c6, rfl, rfl, Lib.hid (kp_swap (S6.out.al1 _ _))⟩
          | exact ⟨_, A5, A6, c6, rfl, rfl, Lib.hid (kp_set S6.out S5.out.bel.size (one_ne (Ne.symm ne6)) _)⟩
          | exact ⟨_, A5, A6, c6, rfl, rfl, Lib.hid (kp_set S6.out S1.out.bel.size (one_ne (Ne.symm ne6)) _)⟩
      case rest =>
        obtain ⟨p7, A5, A6, c6, rfl, rfl, hk⟩ := hcut
        clear S1 S0 x1 l0 ne1 cm c1
        have x1 := hk.out.b0.snd
        have x2 := hk.out.b1.one
        go_upto_region 14 with (go_at_call 52; (with_reducible refine (cd _ _ _ _ _ hk.out.c0 hk.out.c3).mono ?_); rintro e w7 ⟨A7, n7', c7, A8, n8, c8, rfl, q, q', hb⟩; obtain ⟨z, q2⟩ := num_at HKQ.out q; subst z; have S7 := Lib.hid ((hk.out.below hb).addc q2); clear hb q q' q2)
        obtain ⟨W, hW⟩ : ∃ W, (w7.alloc (Obj.cells #[.slice A7 kQ c7] 24)).alloc (Obj.cells #[.slice A8 n8 c8] 24) = W := ⟨_, rfl⟩
        obtain ⟨p10, hp10⟩ : ∃ g, g = w7.heap.size := ⟨_, rfl⟩
        have KW : Hid (Kp w [(A7, kQ, Q), (A6, kV, V), (A5, kT, t), (A, n, X), (B, m, Y)] [(p10, #[.slice A7 kQ c7])] W) := Lib.hid (by
          rw [← hW, hp10]
          have := (S7.out.al2 #[.slice A7 kQ c7] #[.slice A8 n8 c8] 24 24)
          exact ⟨this.bel, this.cel, fun x hx => by simp at hx; subst hx; exact this.b1⟩)
        rw [hW, ← hp10]
        clear hW hp10 S7 hk x1 x2
        have x7 := KW.out.b0.one
        have lp := KW.out.b0.lt
        have kwl := KW.out.bel.size
        have n1 : W.heap.size ≠ p10 := by simp at lp; omega
        have n2 : W.heap.size + 1 ≠ p10 := by simp at lp; omega
        go_cut [13, 14, 15] from 18 (fun s13 s14 s15 wx => ∃ (p13 p14 : Nat) (A10 A11 : Option Addr) (c10 c11 : Nat), s13 = .pointer (some ⟨p13, 0, none⟩) ∧ s14 = .pointer (some ⟨p14, 0, none⟩) ∧ s15 = .int .i64 0 ∧ Hid (Kp w [(A10, kU, U), (A11, kR, R2), (A7, kQ, Q)] [(p13, #[.slice A10 kU c10]), (p14, #[.slice A11 kR c11]), (p10, #[.slice A7 kQ c7])] wx))
        case first =>
          go_region_held3 (fun w' => w'.cell? ⟨p10, 0, none⟩ = some (.slice A7 kQ c7)) (first | (simp (maxDischargeDepth := 9) [*, World.cell?_alloc_some, World.cell?_setCell_far]; done) | (simp (maxDischargeDepth := 9) [*]; done))
            (first
            | (go_at_call 40; first
              | ((with_reducible refine (co _).mono ?_); rintro e w9 ⟨A9, n9, c9, rfl, q, hb⟩; obtain ⟨z, q2⟩ := num_at HKT.out q; subst z; have Z0 := Lib.hid ((KW.out.drew.below hb).addc q2); have x9 := Z0.out.b0.one; have l9 := Z0.out.b0.lt; have n3 : w9.heap.size ≠ p10 := (by simp at l9; omega); have n4 : w9.heap.size + 1 ≠ p10 := (by simp at l9; omega); have zl := Z0.out.bel.size; clear hb q q2 l9)
              | ((with_reducible refine (co _).mono ?_); rintro e w9 ⟨A9, n9, c9, rfl, q, hb⟩; obtain ⟨z, q2⟩ := num_at HKT.out q; subst z; have Z1 := Lib.hid (((KW.out.al1 _ _).drew.below hb).addc q2); have x9 := Z1.out.b1.one; have l9 := Z1.out.b1.lt; have n3 : w9.heap.size ≠ p10 := (by simp at l9; omega); have n4 : w9.heap.size + 1 ≠ p10 := (by simp at l9; omega); have m9 := Z1.out.b0.lt; have n5 : W.heap.size ≠ w9.heap.size := (by simp at m9; omega); have n6 := Ne.symm n5; clear m9; have zl := Z1.out.bel.size; clear hb q q2 l9)
              | ((with_reducible refine (co _).mono ?_); rintro e w9 ⟨A9, n9, c9, rfl, q, hb⟩; obtain ⟨z, q2⟩ := num_at HKT.out q; subst z; have Z2 := Lib.hid (((KW.out.al2 _ _ _ _).drew.below hb).addc q2); have x9 := Z2.out.b2.one; have l9 := Z2.out.b2.lt; have n3 : w9.heap.size ≠ p10 := (by simp at l9; omega); have n4 : w9.heap.size + 1 ≠ p10 := (by simp at l9; omega); have zl := Z2.out.bel.size; clear hb q q2 l9))
            | (go_at_call 52; first
              | ((with_reducible refine (ce _ _ _ _ _ Z0.out.c1 Z0.out.c0).mono ?_); rintro e w10 ⟨A10, n10, c10, A11, n11, c11, rfl, q, q', hb⟩; obtain ⟨z, q2⟩ := num_at HKU.out q; subst z; obtain ⟨z, q3⟩ := num_at HKR.out q'; subst z; have V := Lib.hid (((Z0.out.below hb).addc q3).addc q2); have x10 := V.out.b0.one; have l10 := V.out.b0.lt; have n7 : w10.heap.size ≠ p10 := (by simp at l10; omega); have n8 : w10.heap.size + 1 ≠ p10 := (by simp at l10; omega); have vl := V.out.bel.size; clear hb q q' q2 q3 l10)
              | ((with_reducible refine (ce _ _ _ _ _ (Z0.out.al1 _ _).c1 (Z0.out.al1 _ _).c0).mono ?_); rintro e w10 ⟨A10, n10, c10, A11, n11, c11, rfl, q, q', hb⟩; obtain ⟨z, q2⟩ := num_at HKU.out q; subst z; obtain ⟨z, q3⟩ := num_at HKR.out q'; subst z; have V := Lib.hid ((((Z0.out.al1 _ _).below hb).addc q3).addc q2); have y0 := V.out.b0.one; have f0 := V.out.b0.free 0; have yo0 := fun o => (V.out.alloc o).b0.one; have fo0 := fun o => (V.out.alloc o).b0.free 0; have nl0 := Nat.ne_of_lt V.out.b0.lt; have nr0 := Ne.symm nl0; have x10 := V.out.b1.one; have l10 := V.out.b1.lt; have n7 : w10.heap.size ≠ p10 := (by simp at l10; omega); have n8 : w10.heap.size + 1 ≠ p10 := (by simp at l10; omega); have vl := V.out.bel.size; clear hb q q' q2 q3 l10)
              | ((with_reducible refine (ce _ _ _ _ _ (Z0.out.al2 _ _ _ _).c1 (Z0.out.al2 _ _ _ _).c0).mono ?_); rintro e w10 ⟨A10, n10, c10, A11, n11, c11, rfl, q, q', hb⟩; obtain ⟨z, q2⟩ := num_at HKU.out q; subst z; obtain ⟨z, q3⟩ := num_at HKR.out q'; subst z; have V := Lib.hid ((((Z0.out.al2 _ _ _ _).below hb).addc q3).addc q2); have y0 := V.out.b0.one; have f0 := V.out.b0.free 0; have yo0 := fun o => (V.out.alloc o).b0.one; have fo0 := fun o => (V.out.alloc o).b0.free 0; have nl0 := Nat.ne_of_lt V.out.b0.lt; have nr0 := Ne.symm nl0; have y1 := V.out.b1.one; have f1 := V.out.b1.free 0; have yo1 := fun o => (V.out.alloc o).b1.one; have fo1 := fun o => (V.out.alloc o).b1.free 0; have nl1 := Nat.ne_of_lt V.out.b1.lt; have nr1 := Ne.symm nl1; have x10 := V.out.b2.one; have l10 := V.out.b2.lt; have n7 : w10.heap.size ≠ p10 := (by simp at l10; omega); have n8 : w10.heap.size + 1 ≠ p10 := (by simp at l10; omega); have vl := V.out.bel.size; clear hb q q' q2 q3 l10)
              | ((with_reducible refine (ce _ _ _ _ _ Z1.out.c1 Z1.out.c0).mono ?_); rintro e w10 ⟨A10, n10, c10, A11, n11, c11, rfl, q, q', hb⟩; obtain ⟨z, q2⟩ := num_at HKU.out q; subst z; obtain ⟨z, q3⟩ := num_at HKR.out q'; subst z; have V := Lib.hid (((Z1.out.below hb).addc q3).addc q2); have y0 := V.out.b0.one; have f0 := V.out.b0.free 0; have yo0 := fun o => (V.out.alloc o).b0.one; have fo0 := fun o => (V.out.alloc o).b0.free 0; have nl0 := Nat.ne_of_lt V.out.b0.lt; have nr0 := Ne.symm nl0; have x10 := V.out.b1.one; have l10 := V.out.b1.lt; have n7 : w10.heap.size ≠ p10 := (by simp at l10; omega); have n8 : w10.heap.size + 1 ≠ p10 := (by simp at l10; omega); have vl := V.out.bel.size; clear hb q q' q2 q3 l10)
              | ((with_reducible refine (ce _ _ _ _ _ (Z1.out.al1 _ _).c1 (Z1.out.al1 _ _).c0).mono ?_); rintro e w10 ⟨A10, n10, c10, A11, n11, c11, rfl, q, q', hb⟩; obtain ⟨z, q2⟩ := num_at HKU.out q; subst z; obtain ⟨z, q3⟩ := num_at HKR.out q'; subst z; have V := Lib.hid ((((Z1.out.al1 _ _).below hb).addc q3).addc q2); have y0 := V.out.b0.one; have f0 := V.out.b0.free 0; have yo0 := fun o => (V.out.alloc o).b0.one; have fo0 := fun o => (V.out.alloc o).b0.free 0; have nl0 := Nat.ne_of_lt V.out.b0.lt; have nr0 := Ne.symm nl0; have y1 := V.out.b1.one; have f1 := V.out.b1.free 0; have yo1 := fun o => (V.out.alloc o).b1.one; have fo1 := fun o => (V.out.alloc o).b1.free 0; have nl1 := Nat.ne_of_lt V.out.b1.lt; have nr1 := Ne.symm nl1; have x10 := V.out.b2.one; have l10 := V.out.b2.lt; have n7 : w10.heap.size ≠ p10 := (by simp at l10; omega); have n8 : w10.heap.size + 1 ≠ p10 := (by simp at l10; omega); have vl := V.out.bel.size; clear hb q q' q2 q3 l10)
              | ((with_reducible refine (ce _ _ _ _ _ Z2.out.c1 Z2.out.c0).mono ?_); rintro e w10 ⟨A10, n10, c10, A11, n11, c11, rfl, q, q', hb⟩; obtain ⟨z, q2⟩ := num_at HKU.out q; subst z; obtain ⟨z, q3⟩ := num_at HKR.out q'; subst z; have V := Lib.hid (((Z2.out.below hb).addc q3).addc q2); have y0 := V.out.b0.one; have f0 := V.out.b0.free 0; have yo0 := fun o => (V.out.alloc o).b0.one; have fo0 := fun o => (V.out.alloc o).b0.free 0; have nl0 := Nat.ne_of_lt V.out.b0.lt; have nr0 := Ne.symm nl0; have y1 := V.out.b1.one; have f1 := V.out.b1.free 0; have yo1 := fun o => (V.out.alloc o).b1.one; have fo1 := fun o => (V.out.alloc o).b1.free 0; have nl1 := Nat.ne_of_lt V.out.b1.lt; have nr1 := Ne.symm nl1; have x10 := V.out.b2.one; have l10 := V.out.b2.lt; have n7 : w10.heap.size ≠ p10 := (by simp at l10; omega); have n8 : w10.heap.size + 1 ≠ p10 := (by simp at l10; omega); have vl := V.out.bel.size; clear hb q q' q2 q3 l10)))
          all_goals go_wp2_with fail
          all_goals go_meet
          all_goals first
            | exact ⟨_, _, A10, A11, c10, c11, rfl, rfl, rfl, Lib.hid (end1 V.out _ _ _)⟩
            | exact ⟨_, _, A10, A11, c10, c11, rfl, rfl, rfl, Lib.hid (end2 V.out _ _ _)⟩
            | exact ⟨_, _, A10, A11, c10, c11, rfl, rfl, rfl, Lib.hid (end4 V.out (by omega) (by omega) (by omega) (by omega) (by omega) _ _)⟩
            | exact ⟨_, _, A10, A11, c10, c11, rfl, rfl, rfl, Lib.hid (end4s V.out (by omega) (by omega) (by omega) (by omega) (by omega) _ _)⟩
            | exact ⟨_, _, A10, A11, c10, c11, rfl, rfl, rfl, Lib.hid (end3 V.out (by omega) (by omega) _ _ _)⟩
            | exact ⟨_, _, A10, A11, c10, c11, rfl, rfl, rfl, Lib.hid (end5 V.out (by omega) (by omega) _ _ _)⟩
        case rest =>
          obtain ⟨p13, p14, A10, A11, c10, c11, rfl, rfl, rfl, hk⟩ := hcut
          clear KW x7 lp n1 n2 kwl co ce
          have x13 := hk.out.b0.one
          have x14 := hk.out.b1.one
          have x10 := hk.out.b2.one
          obtain ⟨LQ, hLQ⟩ : ∃ L, Hid (L = Lib.decDigits Q) := ⟨_, Lib.hid rfl⟩
          obtain ⟨LR, hLR⟩ : ∃ L, Hid (L = Lib.decDigits R2) := ⟨_, Lib.hid rfl⟩
          obtain ⟨LU, hLU2⟩ : ∃ L, Hid (L = Lib.decDigits U) := ⟨_, Lib.hid rfl⟩
          rw [← hLQ.out] at cf
          rw [← hLR.out] at cr
          rw [← hLU2.out] at cu hLU
          by_cases hp0 : k = 0
          · subst hp0
            have HX := Lib.hid (show TX = LQ from hTX.out.trans hLQ.out.symm)
            go_wp2_with (go_at_call 53; (with_reducible refine (cf _ _ _ hk.out.c2).mono ?_); rintro e w12 ⟨rfl, hb⟩; have S12 := Lib.hid (hk.out.below hb); clear hb)
            go_ret2
            exact ⟨by rw [HX.out]; rfl, S12.out.bel⟩
          · have hk0 : 0 < k := by omega
            have HX := Lib.hid (HTX2.out hk0)
            have hle := dec_len HRT.out hk0
            rw [← hLR.out] at hle
            have hLR0 : LR.length ≤ k := by omega
            clear hle
            go_wp2_with (go_at_call 53; (with_reducible refine (cr _ _ _ hk.out.c1).mono ?_); rintro e w12 ⟨rfl, hb⟩; have S12 := Lib.hid (hk.out.below hb); have x13 := S12.out.b0.one; clear hb)
            go_loopw [16, 17] (fun s i wr => ∃ (j : Nat) (bs : ByteArray), j ≤ 18 ∧ j + LR.length ≤ k ∧ i = .int .i64 (j : Int) ∧ s = .string bs ∧ Hid (bs.data.toList = List.replicate j 48 ++ LR) ∧ wr = w12) (fun _ i _ => 18 - (intOf i).toNat)
            case atStart => exact ⟨0, _, by omega, by omega, rfl, rfl, Lib.hid (by simp), rfl⟩
            case round =>
              obtain ⟨j, bs, hj18, hjk, rfl, rfl, hbs, rfl⟩ := hrel
              have hsz : bs.size = j + LR.length := by rw [numT.size_len bs, hbs.out, List.length_append, List.length_replicate]
              by_cases hlt : bs.size < k
              · have hj : j < 18 := by omega
                have hB2 := Lib.hid (show ((⟨#[48]⟩ : ByteArray) ++ bs).data.toList = List.replicate (j + 1) 48 ++ LR by rw [ByteArray.data_append, Array.toList_append, hbs.out, List.replicate_succ]; rfl)
                clear hbs
                go_wp2_with fail
                go_roundw
                case rel => exact ⟨j + 1, _, by omega, by omega, by go_num, rfl, hB2, by first | trivial | rfl⟩
                case measure => simp [intOf]; omega
              · have hjL : j = k - LR.length := by omega
                have HP := Lib.hid (show bs.data.toList = padp k R2 by rw [hbs.out, hjL, hLR.out]; rfl)
                clear hbs hjL
                by_cases hj : j < 18
                all_goals
                  go_wp2_with (go_at_call 53; (with_reducible refine (cu _ _ _ S12.out.c0).mono ?_); rintro e w13 ⟨rfl, hb⟩; have S13 := Lib.hid (S12.out.below hb); clear hb)
                  go_ret2
                  exact ⟨tup_str (by rw [HX.out, hLU2.out, ByteArray.data_append, Array.toList_append, ByteArray.data_append, Array.toList_append, HP.out]), S13.out.bel⟩
end Go.Proofs.YtinceponggpioaaDoor.frJa

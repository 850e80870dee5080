/-
  The laws of order and of lowest terms.
-/
import Derived.Test.YtinceponggpioaaDoorFrN
namespace Go.Proofs.YtinceponggpioaaDoor.frO
open Go.RowKit
open Go.Proofs.YtinceponggpioaaDoor.natM Go.Proofs.YtinceponggpioaaDoor.natA Go.Proofs.YtinceponggpioaaDoor.natB Go.Proofs.YtinceponggpioaaDoor.natF Go.Proofs.YtinceponggpioaaDoor.natG Go.Proofs.YtinceponggpioaaDoor.natX Go.Proofs.YtinceponggpioaaDoor.natUi Go.Proofs.YtinceponggpioaaDoor.frM Go.Proofs.YtinceponggpioaaDoor.frA Go.Proofs.YtinceponggpioaaDoor.frB Go.Proofs.YtinceponggpioaaDoor.frC Go.Proofs.YtinceponggpioaaDoor.frD Go.Proofs.YtinceponggpioaaDoor.frE Go.Proofs.YtinceponggpioaaDoor.frI Go.Proofs.YtinceponggpioaaDoor.frR Go.Proofs.YtinceponggpioaaDoor.frS Go.Proofs.YtinceponggpioaaDoor.frV Go.Proofs.YtinceponggpioaaDoor.ntF Go.Proofs.YtinceponggpioaaDoor.frX Go.Proofs.YtinceponggpioaaDoor.frY Go.Proofs.YtinceponggpioaaDoor.frG Go.Proofs.YtinceponggpioaaDoor.frH Go.Proofs.YtinceponggpioaaDoor.frL Go.Proofs.YtinceponggpioaaDoor.frN
set_option linter.unusedVariables false

theorem kp_drop2 {w0 w : World} {cs : List (Option Addr × Nat × Nat)} {bs : List (Nat × Array Value)} {x0 x1 x2 x3 : Option Addr × Nat × Nat} (h : Kp w0 (x0 :: x1 :: x2 :: x3 :: cs) bs w) : Kp w0 (x0 :: x1 :: cs) bs w :=
  ⟨h.bel, fun x hx => h.cel x (by simp only [List.mem_cons] at hx ⊢; rcases hx with hx | hx | hx <;> simp [hx]), h.blk⟩
theorem kp_al4 {w0 w : World} {cs : List (Option Addr × Nat × Nat)} {bs : List (Nat × Array Value)} (h : Kp w0 cs bs w) (v v2 v3 v4 : Array Value) (T T2 T3 T4 : TypeId) : Kp w0 cs ((w.heap.size + 1 + 1 + 1, v4) :: (w.heap.size + 1 + 1, v3) :: (w.heap.size + 1, v2) :: (w.heap.size, v) :: bs) ((((w.alloc (.cells v T)).alloc (.cells v2 T2)).alloc (.cells v3 T3)).alloc (.cells v4 T4)) := (h.al3 v v2 v3 T T2 T3).al (by simp) v4 T4
theorem cmpQ_three (r s : Rat) : ∃ (C C2 : Int) (R : Bool), Hid (C = cmpQ r s) ∧ Hid (C2 = cmpQ s r) ∧ Hid (R = true ↔ r = s) ∧ ((C = -1 ∧ C2 = 1 ∧ R = false) ∨ (C = 0 ∧ C2 = 0 ∧ R = true) ∨ (C = 1 ∧ C2 = -1 ∧ R = false)) := by
  refine ⟨cmpQ r s, cmpQ s r, decide (r = s), Lib.hid rfl, Lib.hid rfl, Lib.hid (by simp), ?_⟩
  have ha := cmpQ_anti s r
  by_cases e : r = s
  · have h0 := cmpQ_zero.2 e
    right; left
    exact ⟨h0, by rw [ha, h0]; rfl, by simp [e]⟩
  · have h0 := mt cmpQ_zero.1 e
    rw [ha]
    unfold cmpQ at h0 ⊢
    by_cases h : r < s
    · left; simp [h, e]
    · by_cases h2 : s < r
      · right; right; simp [h, h2, e]
      · simp [h, h2] at h0
set_option maxRecDepth 4000 in
set_option maxHeartbeats 8000000 in
theorem orders_any (Aa : Option Addr) (La ca Na : Nat) (Ba : Option Addr) (Ma da Da : Nat) (Ab : Option Addr) (Lb cb Nb : Nat) (Bb : Option Addr) (Mb db Db : Nat) (Ae : Option Addr) (Le ce Ne : Nat) (Be : Option Addr) (Me de De : Nat) (hNa : Hid (Na < 4294967296 ^ La)) (hDa : Hid (Da < 4294967296 ^ Ma)) (ia : La ≤ ca) (iia : Ma ≤ da) (ja : La ≤ 9223372036854775807) (jja : Ma ≤ 9223372036854775807) (hNb : Hid (Nb < 4294967296 ^ Lb)) (hDb : Hid (Db < 4294967296 ^ Mb)) (ib : Lb ≤ cb) (iib : Mb ≤ db) (jb : Lb ≤ 9223372036854775807) (jjb : Mb ≤ 9223372036854775807) (hNe : Hid (Ne < 4294967296 ^ Le)) (hDe : Hid (De < 4294967296 ^ Me)) (ie : Le ≤ ce) (iie : Me ≤ de) (je : Le ≤ 9223372036854775807) (jje : Me ≤ 9223372036854775807) (w : World) (htab : Tab w)
    (ha1 : Cel .u32 w Aa (dg 4294967296 La Na)) (ha2 : Cel .u32 w Ba (dg 4294967296 Ma Da)) (hb1 : Cel .u32 w Ab (dg 4294967296 Lb Nb)) (hb2 : Cel .u32 w Bb (dg 4294967296 Mb Db)) (he1 : Cel .u32 w Ae (dg 4294967296 Le Ne)) (he2 : Cel .u32 w Be (dg 4294967296 Me De)) :
    Calls Tryd.prog 9 #[.agg #[.slice Aa La ca, .slice Ba Ma da], .agg #[.slice Ab Lb cb, .slice Bb Mb db], .agg #[.slice Ae Le ce, .slice Be Me de]] w fun e w' => e = .returned (.bool true) ∧ Below w.heap.size w w' := by
  have S0 := Lib.hid ((((((((Kp.start w).addc he2).addc he1).addc hb2).addc hb1).addc ha2).addc ha1))
  clear ha1 ha2 hb1 hb2 he1 he2
  have HT := Lib.hid htab
  clear htab
  have kw := awake_any
  by_cases na : (La : Int) ≤ 8 ∧ (Ma : Int) ≤ 8
  · have sa := brief_yes Aa Ba La ca Ma da 8 na.1 na.2
    by_cases nb : (Lb : Int) ≤ 8 ∧ (Mb : Int) ≤ 8
    · have sb := brief_yes Ab Bb Lb cb Mb db 8 nb.1 nb.2
      by_cases ne : (Le : Int) ≤ 8 ∧ (Me : Int) ≤ 8
      · have se := brief_yes Ae Be Le ce Me de 8 ne.1 ne.2
        obtain ⟨va, hva⟩ : ∃ v, Hid (v = frB La Na Ma Da) := ⟨_, Lib.hid rfl⟩
        obtain ⟨vb, hvb⟩ : ∃ v, Hid (v = frB Lb Nb Mb Db) := ⟨_, Lib.hid rfl⟩
        obtain ⟨ve, hve⟩ : ∃ v, Hid (v = frB Le Ne Me De) := ⟨_, Lib.hid rfl⟩
        have ka := fun w h1 h2 => vd_any Aa Ba La ca Ma da Na Da va hNa hDa ia iia ja jja hva w h1 h2
        have kb := fun w h1 h2 => vd_any Ab Bb Lb cb Mb db Nb Db vb hNb hDb ib iib jb jjb hvb w h1 h2
        have ke := fun w h1 h2 => vd_any Ae Be Le ce Me de Ne De ve hNe hDe ie iie je jje hve w h1 h2
        by_cases xa : va = false
        · subst xa
          clear hNa hDa ia iia ja jja hNb hDb ib iib jb jjb hNe hDe ie iie je jje na nb ne hva
          go_enter Tryd.func9, Tryd.ntmps9
          go_wp2_with (first
            | (go_at_call 19; first
              | ((with_reducible refine (sa _).mono ?_); rintro e w1 ⟨rfl, hb⟩; have K1 := Lib.hid ((S0.out.al3 _ _ _ _ _ _).below hb); have ybfst := K1.out.b1.fst; have ybsnd := K1.out.b1.snd; clear hb)
              | ((with_reducible refine (sb _).mono ?_); rintro e w2 ⟨rfl, hb⟩; have K2 := Lib.hid (K1.out.below hb); clear ybfst ybsnd; have yefst := K2.out.b0.fst; have yesnd := K2.out.b0.snd; clear hb)
              | ((with_reducible refine (se _).mono ?_); rintro e w3 ⟨rfl, hb⟩; have K3 := Lib.hid (K2.out.below hb); clear yefst yesnd; have yafst := K3.out.b2.fst; have yasnd := K3.out.b2.snd; clear hb))
            | (go_at_call 18; first
              | ((with_reducible refine (ka _ K3.out.c0 K3.out.c1).mono ?_); rintro e w4 ⟨rfl, hb⟩; have K4 := Lib.hid (K3.out.below hb); clear yafst yasnd; clear hb))
            | (go_at_call 12; first
              | ((with_reducible refine (kw _ (tab_on HT.out K4.out.bel)).mono ?_); rintro e w5 ⟨rfl, hb⟩; have K5 := Lib.hid (K4.out.below hb); clear hb)))
          go_ret
          exact ⟨rfl, K5.out.bel⟩
        obtain rfl : va = true := by cases va; exact absurd rfl xa; rfl
        clear xa
        by_cases xb : vb = false
        · subst xb
          clear hNa hDa ia iia ja jja hNb hDb ib iib jb jjb hNe hDe ie iie je jje na nb ne hvb
          go_enter Tryd.func9, Tryd.ntmps9
          go_wp2_with (first
            | (go_at_call 19; first
              | ((with_reducible refine (sa _).mono ?_); rintro e w1 ⟨rfl, hb⟩; have K1 := Lib.hid ((S0.out.al3 _ _ _ _ _ _).below hb); have ybfst := K1.out.b1.fst; have ybsnd := K1.out.b1.snd; clear hb)
              | ((with_reducible refine (sb _).mono ?_); rintro e w2 ⟨rfl, hb⟩; have K2 := Lib.hid (K1.out.below hb); clear ybfst ybsnd; have yefst := K2.out.b0.fst; have yesnd := K2.out.b0.snd; clear hb)
              | ((with_reducible refine (se _).mono ?_); rintro e w3 ⟨rfl, hb⟩; have K3 := Lib.hid (K2.out.below hb); clear yefst yesnd; have yafst := K3.out.b2.fst; have yasnd := K3.out.b2.snd; clear hb))
            | (go_at_call 18; first
              | ((with_reducible refine (ka _ K3.out.c0 K3.out.c1).mono ?_); rintro e w4 ⟨rfl, hb⟩; have K4 := Lib.hid (K3.out.below hb); clear yafst yasnd; have ybfst := K4.out.b1.fst; have ybsnd := K4.out.b1.snd; clear hb)
              | ((with_reducible refine (kb _ K4.out.c2 K4.out.c3).mono ?_); rintro e w5 ⟨rfl, hb⟩; have K5 := Lib.hid (K4.out.below hb); clear ybfst ybsnd; clear hb))
            | (go_at_call 12; first
              | ((with_reducible refine (kw _ (tab_on HT.out K5.out.bel)).mono ?_); rintro e w6 ⟨rfl, hb⟩; have K6 := Lib.hid (K5.out.below hb); clear hb)))
          go_ret
          exact ⟨rfl, K6.out.bel⟩
        obtain rfl : vb = true := by cases vb; exact absurd rfl xb; rfl
        clear xb
        by_cases xe : ve = false
        · subst xe
          clear hNa hDa ia iia ja jja hNb hDb ib iib jb jjb hNe hDe ie iie je jje na nb ne hve
          go_enter Tryd.func9, Tryd.ntmps9
          go_wp2_with (first
            | (go_at_call 19; first
              | ((with_reducible refine (sa _).mono ?_); rintro e w1 ⟨rfl, hb⟩; have K1 := Lib.hid ((S0.out.al3 _ _ _ _ _ _).below hb); have ybfst := K1.out.b1.fst; have ybsnd := K1.out.b1.snd; clear hb)
              | ((with_reducible refine (sb _).mono ?_); rintro e w2 ⟨rfl, hb⟩; have K2 := Lib.hid (K1.out.below hb); clear ybfst ybsnd; have yefst := K2.out.b0.fst; have yesnd := K2.out.b0.snd; clear hb)
              | ((with_reducible refine (se _).mono ?_); rintro e w3 ⟨rfl, hb⟩; have K3 := Lib.hid (K2.out.below hb); clear yefst yesnd; have yafst := K3.out.b2.fst; have yasnd := K3.out.b2.snd; clear hb))
            | (go_at_call 18; first
              | ((with_reducible refine (ka _ K3.out.c0 K3.out.c1).mono ?_); rintro e w4 ⟨rfl, hb⟩; have K4 := Lib.hid (K3.out.below hb); clear yafst yasnd; have ybfst := K4.out.b1.fst; have ybsnd := K4.out.b1.snd; clear hb)
              | ((with_reducible refine (kb _ K4.out.c2 K4.out.c3).mono ?_); rintro e w5 ⟨rfl, hb⟩; have K5 := Lib.hid (K4.out.below hb); clear ybfst ybsnd; have yefst := K5.out.b0.fst; have yesnd := K5.out.b0.snd; clear hb)
              | ((with_reducible refine (ke _ K5.out.c4 K5.out.c5).mono ?_); rintro e w6 ⟨rfl, hb⟩; have K6 := Lib.hid (K5.out.below hb); clear yefst yesnd; clear hb))
            | (go_at_call 12; first
              | ((with_reducible refine (kw _ (tab_on HT.out K6.out.bel)).mono ?_); rintro e w7 ⟨rfl, hb⟩; have K7 := Lib.hid (K6.out.below hb); clear hb)))
          go_ret
          exact ⟨rfl, K7.out.bel⟩
        obtain rfl : ve = true := by cases ve; exact absurd rfl xe; rfl
        clear xe
        obtain ⟨ra, Ga⟩ : ∃ r, Hid (Gf La Ma Na Da ca da r 8) := ⟨_, Lib.hid (gf_arg hva.out.symm ia iia (by omega) (by omega))⟩
        obtain ⟨rb, Gb⟩ : ∃ r, Hid (Gf Lb Mb Nb Db cb db r 8) := ⟨_, Lib.hid (gf_arg hvb.out.symm ib iib (by omega) (by omega))⟩
        obtain ⟨re, Ge⟩ : ∃ r, Hid (Gf Le Me Ne De ce de r 8) := ⟨_, Lib.hid (gf_arg hve.out.symm ie iie (by omega) (by omega))⟩
        clear hNa hDa ia iia ja jja hNb hDb ib iib jb jjb hNe hDe ie iie je jje na nb ne hva hvb hve
        obtain ⟨C, C2, R, E1, E2, E3, hh⟩ := cmpQ_three ra rb
        have E4 := Lib.hid (E1.out.trans (cmpQ_add ra rb re).symm)
        have E5 := Lib.hid (cmpQ_self ra).symm
        have k7 := fun A B A2 B2 w h1 h2 h3 h4 => sameQ R Ga.out Gb.out (by omega) (by omega) E3.out A B A2 B2 w h1 h2 h3 h4
        clear E3
        rcases hh with ⟨rfl, rfl, rfl⟩ | ⟨rfl, rfl, rfl⟩ | ⟨rfl, rfl, rfl⟩
        all_goals
          go_enter Tryd.func9, Tryd.ntmps9
          go_wp2_with (first
            | (go_at_call 19; first
              | ((with_reducible refine (sa _).mono ?_); rintro e w1 ⟨rfl, hb⟩; have K1 := Lib.hid ((S0.out.al3 _ _ _ _ _ _).below hb); have ybfst := K1.out.b1.fst; have ybsnd := K1.out.b1.snd; clear hb)
              | ((with_reducible refine (sb _).mono ?_); rintro e w2 ⟨rfl, hb⟩; have K2 := Lib.hid (K1.out.below hb); clear ybfst ybsnd; have yefst := K2.out.b0.fst; have yesnd := K2.out.b0.snd; clear hb)
              | ((with_reducible refine (se _).mono ?_); rintro e w3 ⟨rfl, hb⟩; have K3 := Lib.hid (K2.out.below hb); clear yefst yesnd; have yafst := K3.out.b2.fst; have yasnd := K3.out.b2.snd; clear hb))
            | (go_at_call 18; first
              | ((with_reducible refine (ka _ K3.out.c0 K3.out.c1).mono ?_); rintro e w4 ⟨rfl, hb⟩; have K4 := Lib.hid (K3.out.below hb); clear yafst yasnd; have ybfst := K4.out.b1.fst; have ybsnd := K4.out.b1.snd; clear hb)
              | ((with_reducible refine (kb _ K4.out.c2 K4.out.c3).mono ?_); rintro e w5 ⟨rfl, hb⟩; have K5 := Lib.hid (K4.out.below hb); clear ybfst ybsnd; have yefst := K5.out.b0.fst; have yesnd := K5.out.b0.snd; clear hb)
              | ((with_reducible refine (ke _ K5.out.c4 K5.out.c5).mono ?_); rintro e w6 ⟨rfl, hb⟩; have K6 := Lib.hid (K5.out.below hb); clear yefst yesnd; have yafst := K6.out.b2.fst; have yasnd := K6.out.b2.snd; have ybfst := K6.out.b1.fst; have ybsnd := K6.out.b1.snd; clear hb))
            | (go_at_call 21; first
              | ((with_reducible refine (cmpJ _ Ga.out Gb.out (by omega) (by omega) E1.out _ _ _ _ _ K6.out.c0 K6.out.c1 K6.out.c2 K6.out.c3).mono ?_); rintro e w7 ⟨rfl, hb⟩; have K7 := Lib.hid (K6.out.below hb); clear yafst yasnd ybfst ybsnd; have yafst := K7.out.b2.fst; have yasnd := K7.out.b2.snd; have yefst := K7.out.b0.fst; have yesnd := K7.out.b0.snd; clear hb)
              | ((with_reducible refine (cmpJ _ Gb.out Ga.out (by omega) (by omega) E2.out _ _ _ _ _ (K9.out.al1 _ _).c6 (K9.out.al1 _ _).c7 (K9.out.al1 _ _).c4 (K9.out.al1 _ _).c5).mono ?_); rintro e w10 ⟨rfl, hb⟩; have K10 := Lib.hid ((K9.out.al1 _ _).below hb); clear ybfst ybsnd yafst yasnd; have yafst := K10.out.b4.fst; have yasnd := K10.out.b4.snd; have ybfst := K10.out.b3.fst; have ybsnd := K10.out.b3.snd; clear hb)
              | ((with_reducible refine (cmpJ _ Gx.out Gy.out (by omega) (by omega) E4.out _ _ _ _ _ K11.out.c2 K11.out.c3 K11.out.c0 K11.out.c1).mono ?_); rintro e w12 ⟨rfl, hb⟩; have K12 := Lib.hid (K11.out.below hb); clear yxfst yxsnd yyfst yysnd; have yafst := K12.out.b4.fst; have yasnd := K12.out.b4.snd; clear hb)
              | ((with_reducible refine (cmpJ _ Ga.out Ga.out (by omega) (by omega) E5.out _ _ _ _ _ K12.out.c4 K12.out.c5 K12.out.c4 K12.out.c5).mono ?_); rintro e w13 ⟨rfl, hb⟩; have K13 := Lib.hid (K12.out.below hb); clear yafst yasnd; clear hb))
            | (go_at_call 29; first
              | ((with_reducible refine (addI Ga.out Ge.out (by omega) _ _ _ _ _ K7.out.c0 K7.out.c1 K7.out.c4 K7.out.c5).mono ?_); rintro e w8 ⟨Lx, Mx, Nx, Dx, Ax, cx, Bx, dx, rfl, Gx, qx, hb⟩; have K8 := Lib.hid (((K7.out.below hb).addc qx.2).addc qx.1); clear yafst yasnd yefst yesnd; have ybfst := fun o0 => (K8.out.alloc o0).b1.fst; have ybsnd := fun o0 => (K8.out.alloc o0).b1.snd; have yefst := fun o0 => (K8.out.alloc o0).b0.fst; have yesnd := fun o0 => (K8.out.alloc o0).b0.snd; clear hb qx)
              | ((with_reducible refine (addI Gb.out Ge.out (by omega) _ _ _ _ _ (K8.out.al1 _ _).c4 (K8.out.al1 _ _).c5 (K8.out.al1 _ _).c6 (K8.out.al1 _ _).c7).mono ?_); rintro e w9 ⟨Ly, My, Ny, Dy, Ay, cy, By, dy, rfl, Gy, qy, hb⟩; have K9 := Lib.hid ((((K8.out.al1 _ _).below hb).addc qy.2).addc qy.1); clear ybfst ybsnd yefst yesnd; have ybfst := fun o0 => (K9.out.alloc o0).b2.fst; have ybsnd := fun o0 => (K9.out.alloc o0).b2.snd; have yafst := fun o0 => (K9.out.alloc o0).b3.fst; have yasnd := fun o0 => (K9.out.alloc o0).b3.snd; clear hb qy))
            | (go_at_call 15; first
              | ((with_reducible refine (k7 _ _ _ _ _ K10.out.c4 K10.out.c5 K10.out.c6 K10.out.c7).mono ?_); rintro e w11 ⟨rfl, hb⟩; have K11 := Lib.hid (K10.out.below hb); clear yafst yasnd ybfst ybsnd; have yxfst := K11.out.b1.fst; have yxsnd := K11.out.b1.snd; have yyfst := K11.out.b0.fst; have yysnd := K11.out.b0.snd; clear hb))
            | (go_at_call 12; first
              | ((with_reducible refine (kw _ (tab_on HT.out K13.out.bel)).mono ?_); rintro e w14 ⟨rfl, hb⟩; have K14 := Lib.hid (K13.out.below hb); clear hb)))
          go_ret
          exact ⟨rfl, K14.out.bel⟩
      · have se := brief_no Ae Be Le ce Me de 8 ne
        clear hNa hDa ia iia ja jja hNb hDb ib iib jb jjb hNe hDe ie iie je jje na nb ne
        go_enter Tryd.func9, Tryd.ntmps9
        go_wp2_with (first
          | (go_at_call 19; first
            | ((with_reducible refine (sa _).mono ?_); rintro e w1 ⟨rfl, hb⟩; have K1 := Lib.hid ((S0.out.al3 _ _ _ _ _ _).below hb); have ybfst := K1.out.b1.fst; have ybsnd := K1.out.b1.snd; clear hb)
            | ((with_reducible refine (sb _).mono ?_); rintro e w2 ⟨rfl, hb⟩; have K2 := Lib.hid (K1.out.below hb); clear ybfst ybsnd; have yefst := K2.out.b0.fst; have yesnd := K2.out.b0.snd; clear hb)
            | ((with_reducible refine (se _).mono ?_); rintro e w3 ⟨rfl, hb⟩; have K3 := Lib.hid (K2.out.below hb); clear yefst yesnd; clear hb))
          | (go_at_call 12; first
            | ((with_reducible refine (kw _ (tab_on HT.out K3.out.bel)).mono ?_); rintro e w4 ⟨rfl, hb⟩; have K4 := Lib.hid (K3.out.below hb); clear hb)))
        go_ret
        exact ⟨rfl, K4.out.bel⟩
    · have sb := brief_no Ab Bb Lb cb Mb db 8 nb
      clear hNa hDa ia iia ja jja hNb hDb ib iib jb jjb hNe hDe ie iie je jje na nb
      go_enter Tryd.func9, Tryd.ntmps9
      go_wp2_with (first
        | (go_at_call 19; first
          | ((with_reducible refine (sa _).mono ?_); rintro e w1 ⟨rfl, hb⟩; have K1 := Lib.hid ((S0.out.al3 _ _ _ _ _ _).below hb); have ybfst := K1.out.b1.fst; have ybsnd := K1.out.b1.snd; clear hb)
          | ((with_reducible refine (sb _).mono ?_); rintro e w2 ⟨rfl, hb⟩; have K2 := Lib.hid (K1.out.below hb); clear ybfst ybsnd; clear hb))
        | (go_at_call 12; first
          | ((with_reducible refine (kw _ (tab_on HT.out K2.out.bel)).mono ?_); rintro e w3 ⟨rfl, hb⟩; have K3 := Lib.hid (K2.out.below hb); clear hb)))
      go_ret
      exact ⟨rfl, K3.out.bel⟩
  · have sa := brief_no Aa Ba La ca Ma da 8 na
    clear hNa hDa ia iia ja jja hNb hDb ib iib jb jjb hNe hDe ie iie je jje na
    go_enter Tryd.func9, Tryd.ntmps9
    go_wp2_with (first
      | (go_at_call 19; first
        | ((with_reducible refine (sa _).mono ?_); rintro e w1 ⟨rfl, hb⟩; have K1 := Lib.hid ((S0.out.al3 _ _ _ _ _ _).below hb); clear hb))
      | (go_at_call 12; first
        | ((with_reducible refine (kw _ (tab_on HT.out K1.out.bel)).mono ?_); rintro e w2 ⟨rfl, hb⟩; have K2 := Lib.hid (K1.out.below hb); clear hb)))
    go_ret
    exact ⟨rfl, K2.out.bel⟩
theorem rd_mul {N D K : Nat} (h : 0 < K) : rd (N * K) (D * K) = rd N D := by
  unfold rd
  rw [Nat.gcd_mul_right, Nat.mul_div_mul_right _ _ h, Nat.mul_div_mul_right _ _ h]
theorem ofA_rd {N D : Nat} (h : 0 < D) : ofA (N : Int) (D : Int) = rd N D := by
  unfold ofA
  rw [if_neg (by omega)]
  unfold mkA
  simp [show D ≠ 0 by omega]
set_option maxRecDepth 4000 in
set_option maxHeartbeats 4000000 in
theorem lowest_any (x y z : Int) (hx : x ≤ 9223372036854775807) (hy : y ≤ 9223372036854775807) (w : World) (htab : Tab w) :
    Calls Tryd.prog 10 #[.int .i64 x, .int .i64 y, .int .i64 z] w fun e w' => e = .returned (.bool true) ∧ Below w.heap.size w w' := by
  have S0 := Lib.hid (Kp.start w)
  have HT := Lib.hid htab
  clear htab
  have kw := awake_any
  by_cases g0 : x < 0
  · clear hx hy
    go_enter Tryd.func10, Tryd.ntmps10
    go_wp2_with (first
      | (go_at_call 12; first
        | ((with_reducible refine (kw _ (tab_on HT.out S0.out.bel)).mono ?_); rintro e w1 ⟨rfl, hb⟩; have K1 := Lib.hid (S0.out.below hb); clear hb)))
    go_ret
    exact ⟨rfl, K1.out.bel⟩
  by_cases g1 : 2147483647 < x
  · clear hx hy
    go_enter Tryd.func10, Tryd.ntmps10
    go_wp2_with (first
      | (go_at_call 12; first
        | ((with_reducible refine (kw _ (tab_on HT.out S0.out.bel)).mono ?_); rintro e w1 ⟨rfl, hb⟩; have K1 := Lib.hid (S0.out.below hb); clear hb)))
    go_ret
    exact ⟨rfl, K1.out.bel⟩
  by_cases g2 : y < 1
  · clear hx hy
    go_enter Tryd.func10, Tryd.ntmps10
    go_wp2_with (first
      | (go_at_call 12; first
        | ((with_reducible refine (kw _ (tab_on HT.out S0.out.bel)).mono ?_); rintro e w1 ⟨rfl, hb⟩; have K1 := Lib.hid (S0.out.below hb); clear hb)))
    go_ret
    exact ⟨rfl, K1.out.bel⟩
  by_cases g3 : 2147483647 < y
  · clear hx hy
    go_enter Tryd.func10, Tryd.ntmps10
    go_wp2_with (first
      | (go_at_call 12; first
        | ((with_reducible refine (kw _ (tab_on HT.out S0.out.bel)).mono ?_); rintro e w1 ⟨rfl, hb⟩; have K1 := Lib.hid (S0.out.below hb); clear hb)))
    go_ret
    exact ⟨rfl, K1.out.bel⟩
  by_cases g4 : z < 1
  · clear hx hy
    go_enter Tryd.func10, Tryd.ntmps10
    go_wp2_with (first
      | (go_at_call 12; first
        | ((with_reducible refine (kw _ (tab_on HT.out S0.out.bel)).mono ?_); rintro e w1 ⟨rfl, hb⟩; have K1 := Lib.hid (S0.out.below hb); clear hb)))
    go_ret
    exact ⟨rfl, K1.out.bel⟩
  by_cases g5 : 2147483647 < z
  · clear hx hy
    go_enter Tryd.func10, Tryd.ntmps10
    go_wp2_with (first
      | (go_at_call 12; first
        | ((with_reducible refine (kw _ (tab_on HT.out S0.out.bel)).mono ?_); rintro e w1 ⟨rfl, hb⟩; have K1 := Lib.hid (S0.out.below hb); clear hb)))
    go_ret
    exact ⟨rfl, K1.out.bel⟩
  obtain ⟨X, rfl⟩ := Int.eq_ofNat_of_zero_le (show 0 ≤ x by omega)
  obtain ⟨Y, rfl⟩ := Int.eq_ofNat_of_zero_le (show 0 ≤ y by omega)
  obtain ⟨Z, rfl⟩ := Int.eq_ofNat_of_zero_le (show 0 ≤ z by omega)
  have p1 : X * Z ≤ 2147483647 * 2147483647 := Nat.mul_le_mul (by omega) (by omega)
  have p2 : Y * Z ≤ 2147483647 * 2147483647 := Nat.mul_le_mul (by omega) (by omega)
  have wx : IntKind.i64.wrap ((X : Int) * (Z : Int)) = ((X * Z : Nat) : Int) := by rw [← Int.natCast_mul]; exact IntWalk.i64_in _ (by omega)
  have wy : IntKind.i64.wrap ((Y : Int) * (Z : Int)) = ((Y * Z : Nat) : Int) := by rw [← Int.natCast_mul]; exact IntWalk.i64_in _ (by omega)
  have er : ofA ((X * Z : Nat) : Int) ((Y * Z : Nat) : Int) = ofA (X : Int) (Y : Int) := by rw [ofA_rd (Nat.mul_pos (by omega) (by omega)), ofA_rd (by omega), rd_mul (by omega)]
  have k0 := fof_any ((X * Z : Nat) : Int) ((Y * Z : Nat) : Int) (by omega) (by omega)
  rw [er] at k0
  obtain ⟨⟨E, N, P⟩, hrE⟩ : ∃ r : Ans, r = ofA (X : Int) (Y : Int) := ⟨_, rfl⟩
  have hsE : small (E, N, P) := by rw [hrE]; exact small_of _ _ (by omega) (by omega)
  obtain ⟨L, hL⟩ : ∃ k, k = nlen 4294967296 N := ⟨_, rfl⟩
  obtain ⟨M, hM⟩ : ∃ k, k = nlen 4294967296 P := ⟨_, rfl⟩
  have lE : L ≤ 64 ∧ M ≤ 64 := by rw [hL, hM]; exact hsE
  have e0 := hrE
  rw [ofA_rd (by omega)] at e0
  unfold rd at e0
  injection e0 with e1 e2
  injection e2 with e2 e3
  have k1 : ∀ x y : Int, x = (X : Int) → y = (Y : Int) → ∀ w, Calls Tryd.prog 16 #[.int .i64 x, .int .i64 y] w (FrC 0 L M N P w) := fun x y hx hy w => by rw [hx, hy]; exact (fof_any _ _ (by omega) (by omega) w).mono fun e w' hh => frc (hrE.symm.trans (by rw [e1])) hL.symm hM.symm hh
  have k2 : ∀ x y : Int, x = (X : Int) * (Z : Int) → y = (Y : Int) * (Z : Int) → ∀ w, Calls Tryd.prog 16 #[.int .i64 x, .int .i64 y] w (FrC 0 L M N P w) := fun x y hx hy w => by rw [hx, hy, ← Int.natCast_mul, ← Int.natCast_mul]; exact (k0 w).mono fun e w' hh => frc (hrE.symm.trans (by rw [e1])) hL.symm hM.symm hh
  have k3 := same_ok hL hM lE.1 lE.2
  have hN : Hid (N < 4294967296 ^ L) := Lib.hid (by rw [hL]; exact nlen_lt (by omega) N)
  have hD : Hid (P < 4294967296 ^ M) := Lib.hid (by rw [hM]; exact nlen_lt (by omega) P)
  subst e1
  have hv := fr_of_low (of_low hrE.symm) hsE.1 hsE.2
  rw [← hL, ← hM] at hv
  have k4 := fun A c B d w h h1 h2 => vd_any A B L c M d N P true hN hD (And.left h) (And.right h) (by omega) (by omega) (Lib.hid hv) w h1 h2
  have zl : ((L : Int) = 0 ∧ (X : Int) = 0 ∧ L = 0 ∧ X = 0) ∨ ((L : Int) ≠ 0 ∧ (X : Int) ≠ 0 ∧ ((L : Int) == 0) = false ∧ ((X : Int) == 0) = false) := by
    by_cases h : X = 0
    · left
      subst h
      rw [hL, e2]
      simp [nlen_zero]
    · right
      have hp : 0 < N := by rw [e2]; exact Nat.div_pos (Nat.gcd_le_left _ (by omega)) (Nat.gcd_pos_of_pos_left _ (by omega))
      have := nlen_pos (B := 4294967296) (by omega) hp
      have a1 : (L : Int) ≠ 0 := by omega
      have a2 : (X : Int) ≠ 0 := by omega
      exact ⟨a1, a2, by simpa using a1, by simpa using a2⟩
  clear hrE hsE hL hM hv hN hD e2 e3 er k0 p1 p2 hx hy lE
  rcases zl with ⟨z1, z2, -, -⟩ | ⟨z1, z2, z3, z4⟩
  all_goals
    go_enter Tryd.func10, Tryd.ntmps10
    go_wp2_with (first
      | (go_at_call 16; first
        | ((with_reducible refine (k1 _ _ (by omega) rfl _).mono ?_); rintro e w1 ⟨Af, cf, Bf, df, rfl, Hf, qf, hb⟩; have K1 := Lib.hid (((S0.out.below hb).addc qf.2).addc qf.1); clear hb qf)
        | ((with_reducible refine (k2 _ _ (by first | rfl | simp [z2]) rfl _).mono ?_); rintro e w2 ⟨Ag, cg, Bg, dg, rfl, Hg, qg, hb⟩; have K2 := Lib.hid ((((K1.out.al1 _ _).below hb).addc qg.2).addc qg.1); have yffst := fun o0 => (K2.out.alloc o0).b0.fst; have yfsnd := fun o0 => (K2.out.alloc o0).b0.snd; clear hb qg))
      | (go_at_call 15; first
        | ((with_reducible refine (k3 _ _ _ _ _ _ _ _ _ (K2.out.al1 _ _).c2 (K2.out.al1 _ _).c3 (K2.out.al1 _ _).c0 (K2.out.al1 _ _).c1).mono ?_); rintro e w3 ⟨rfl, hb⟩; have K3 := Lib.hid ((K2.out.al1 _ _).below hb); clear yffst yfsnd; have yffst := K3.out.b1.fst; have yfsnd := K3.out.b1.snd; clear hb))
      | (go_at_call 18; first
        | ((with_reducible refine (k4 _ _ _ _ _ Hf K3.out.c2 K3.out.c3).mono ?_); rintro e w4 ⟨rfl, hb⟩; have K4 := Lib.hid (K3.out.below hb); clear yffst yfsnd; have yffst := K4.out.b1.fst; have yfsnd := K4.out.b1.snd; clear hb))
      | (go_at_call 12; first
        | ((with_reducible refine (kw _ (tab_on HT.out K4.out.bel)).mono ?_); rintro e w5 ⟨rfl, hb⟩; have K5 := Lib.hid (K4.out.below hb); clear yffst yfsnd; clear hb)))
    go_ret
    exact ⟨rfl, K5.out.bel⟩
end Go.Proofs.YtinceponggpioaaDoor.frO

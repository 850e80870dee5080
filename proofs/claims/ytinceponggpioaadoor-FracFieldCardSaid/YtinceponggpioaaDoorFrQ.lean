/-
  The law of addition.
-/
import Derived.Test.YtinceponggpioaaDoorFrP
namespace Go.Proofs.YtinceponggpioaaDoor.frQ
open Go.RowKit
open Go.Proofs.YtinceponggpioaaDoor.natM Go.Proofs.YtinceponggpioaaDoor.natA Go.Proofs.YtinceponggpioaaDoor.natB Go.Proofs.YtinceponggpioaaDoor.natF Go.Proofs.YtinceponggpioaaDoor.natG Go.Proofs.YtinceponggpioaaDoor.natX Go.Proofs.YtinceponggpioaaDoor.natUi Go.Proofs.YtinceponggpioaaDoor.frM Go.Proofs.YtinceponggpioaaDoor.frA Go.Proofs.YtinceponggpioaaDoor.frB Go.Proofs.YtinceponggpioaaDoor.frC Go.Proofs.YtinceponggpioaaDoor.frD Go.Proofs.YtinceponggpioaaDoor.frE Go.Proofs.YtinceponggpioaaDoor.frI Go.Proofs.YtinceponggpioaaDoor.frR Go.Proofs.YtinceponggpioaaDoor.frS Go.Proofs.YtinceponggpioaaDoor.frV Go.Proofs.YtinceponggpioaaDoor.ntF Go.Proofs.YtinceponggpioaaDoor.frX Go.Proofs.YtinceponggpioaaDoor.frY Go.Proofs.YtinceponggpioaaDoor.frG Go.Proofs.YtinceponggpioaaDoor.frH Go.Proofs.YtinceponggpioaaDoor.frL Go.Proofs.YtinceponggpioaaDoor.frN Go.Proofs.YtinceponggpioaaDoor.frP
set_option linter.unusedVariables false

set_option maxRecDepth 4000 in
set_option maxHeartbeats 8000000 in
theorem field_any (Aa : Option Addr) (La ca Na : Nat) (Ba : Option Addr) (Ma da Da : Nat) (Ab : Option Addr) (Lb cb Nb : Nat) (Bb : Option Addr) (Mb db Db : Nat) (Ae : Option Addr) (Le ce Ne : Nat) (Be : Option Addr) (Me de De : Nat) (hNa : Hid (Na < 4294967296 ^ La)) (hDa : Hid (Da < 4294967296 ^ Ma)) (ia : La ≤ ca) (iia : Ma ≤ da) (ja : La ≤ 9223372036854775807) (jja : Ma ≤ 9223372036854775807) (hNb : Hid (Nb < 4294967296 ^ Lb)) (hDb : Hid (Db < 4294967296 ^ Mb)) (ib : Lb ≤ cb) (iib : Mb ≤ db) (jb : Lb ≤ 9223372036854775807) (jjb : Mb ≤ 9223372036854775807) (hNe : Hid (Ne < 4294967296 ^ Le)) (hDe : Hid (De < 4294967296 ^ Me)) (ie : Le ≤ ce) (iie : Me ≤ de) (je : Le ≤ 9223372036854775807) (jje : Me ≤ 9223372036854775807) (w : World) (htab : Tab w)
    (ha1 : Cel .u32 w Aa (dg 4294967296 La Na)) (ha2 : Cel .u32 w Ba (dg 4294967296 Ma Da)) (hb1 : Cel .u32 w Ab (dg 4294967296 Lb Nb)) (hb2 : Cel .u32 w Bb (dg 4294967296 Mb Db)) (he1 : Cel .u32 w Ae (dg 4294967296 Le Ne)) (he2 : Cel .u32 w Be (dg 4294967296 Me De)) :
    Calls Tryd.prog 8 #[.agg #[.slice Aa La ca, .slice Ba Ma da], .agg #[.slice Ab Lb cb, .slice Bb Mb db], .agg #[.slice Ae Le ce, .slice Be Me de]] w fun e w' => e = .returned (.bool true) ∧ Below w.heap.size w w' := by
  have S0 := Lib.hid ((((((((Kp.start w).addc he2).addc he1).addc hb2).addc hb1).addc ha2).addc ha1))
  clear ha1 ha2 hb1 hb2 he1 he2
  have HT := Lib.hid htab
  clear htab
  have kw := awake_any
  by_cases na : (La : Int) ≤ 8 ∧ (Ma : Int) ≤ 8
  · have sa := brief_yes Aa Ba La ca Ma da 8 na.1 na.2
    by_cases nb : (Lb : Int) ≤ 8 ∧ (Mb : Int) ≤ 8
    · have sb := brief_yes Ab Bb Lb cb Mb db 8 nb.1 nb.2
      by_cases ne : (Le : Int) ≤ 8 ∧ (Me : Int) ≤ 8
      · have se := brief_yes Ae Be Le ce Me de 8 ne.1 ne.2
        obtain ⟨va, hva⟩ : ∃ v, Hid (v = frB La Na Ma Da) := ⟨_, Lib.hid rfl⟩
        obtain ⟨vb, hvb⟩ : ∃ v, Hid (v = frB Lb Nb Mb Db) := ⟨_, Lib.hid rfl⟩
        obtain ⟨ve, hve⟩ : ∃ v, Hid (v = frB Le Ne Me De) := ⟨_, Lib.hid rfl⟩
        have ka := fun w h1 h2 => vd_any Aa Ba La ca Ma da Na Da va hNa hDa ia iia ja jja hva w h1 h2
        have kb := fun w h1 h2 => vd_any Ab Bb Lb cb Mb db Nb Db vb hNb hDb ib iib jb jjb hvb w h1 h2
        have ke := fun w h1 h2 => vd_any Ae Be Le ce Me de Ne De ve hNe hDe ie iie je jje hve w h1 h2
        by_cases xa : va = false
        · subst xa
          clear hNa hDa ia iia ja jja hNb hDb ib iib jb jjb hNe hDe ie iie je jje na nb ne hva
          go_enter Tryd.func8, Tryd.ntmps8
          go_wp2_with (first
            | (go_at_call 19; first
              | ((with_reducible refine (sa _).mono ?_); rintro e w1 ⟨rfl, hb⟩; have K1 := Lib.hid ((S0.out.al3 _ _ _ _ _ _).below hb); have ybfst := K1.out.b1.fst; have ybsnd := K1.out.b1.snd; clear hb)
              | ((with_reducible refine (sb _).mono ?_); rintro e w2 ⟨rfl, hb⟩; have K2 := Lib.hid (K1.out.below hb); clear ybfst ybsnd; have yefst := K2.out.b0.fst; have yesnd := K2.out.b0.snd; clear hb)
              | ((with_reducible refine (se _).mono ?_); rintro e w3 ⟨rfl, hb⟩; have K3 := Lib.hid (K2.out.below hb); clear yefst yesnd; have yafst := K3.out.b2.fst; have yasnd := K3.out.b2.snd; clear hb))
            | (go_at_call 18; first
              | ((with_reducible refine (ka _ K3.out.c0 K3.out.c1).mono ?_); rintro e w4 ⟨rfl, hb⟩; have K4 := Lib.hid (K3.out.below hb); clear yafst yasnd; clear hb))
            | (go_at_call 12; first
              | ((with_reducible refine (kw _ (tab_on HT.out K4.out.bel)).mono ?_); rintro e w5 ⟨rfl, hb⟩; have K5 := Lib.hid (K4.out.below hb); clear hb)))
          go_ret
          exact ⟨rfl, K5.out.bel⟩
        obtain rfl : va = true := by cases va; exact absurd rfl xa; rfl
        clear xa
        by_cases xb : vb = false
        · subst xb
          clear hNa hDa ia iia ja jja hNb hDb ib iib jb jjb hNe hDe ie iie je jje na nb ne hvb
          go_enter Tryd.func8, Tryd.ntmps8
          go_wp2_with (first
            | (go_at_call 19; first
              | ((with_reducible refine (sa _).mono ?_); rintro e w1 ⟨rfl, hb⟩; have K1 := Lib.hid ((S0.out.al3 _ _ _ _ _ _).below hb); have ybfst := K1.out.b1.fst; have ybsnd := K1.out.b1.snd; clear hb)
              | ((with_reducible refine (sb _).mono ?_); rintro e w2 ⟨rfl, hb⟩; have K2 := Lib.hid (K1.out.below hb); clear ybfst ybsnd; have yefst := K2.out.b0.fst; have yesnd := K2.out.b0.snd; clear hb)
              | ((with_reducible refine (se _).mono ?_); rintro e w3 ⟨rfl, hb⟩; have K3 := Lib.hid (K2.out.below hb); clear yefst yesnd; have yafst := K3.out.b2.fst; have yasnd := K3.out.b2.snd; clear hb))
            | (go_at_call 18; first
              | ((with_reducible refine (ka _ K3.out.c0 K3.out.c1).mono ?_); rintro e w4 ⟨rfl, hb⟩; have K4 := Lib.hid (K3.out.below hb); clear yafst yasnd; have ybfst := K4.out.b1.fst; have ybsnd := K4.out.b1.snd; clear hb)
              | ((with_reducible refine (kb _ K4.out.c2 K4.out.c3).mono ?_); rintro e w5 ⟨rfl, hb⟩; have K5 := Lib.hid (K4.out.below hb); clear ybfst ybsnd; clear hb))
            | (go_at_call 12; first
              | ((with_reducible refine (kw _ (tab_on HT.out K5.out.bel)).mono ?_); rintro e w6 ⟨rfl, hb⟩; have K6 := Lib.hid (K5.out.below hb); clear hb)))
          go_ret
          exact ⟨rfl, K6.out.bel⟩
        obtain rfl : vb = true := by cases vb; exact absurd rfl xb; rfl
        clear xb
        by_cases xe : ve = false
        · subst xe
          clear hNa hDa ia iia ja jja hNb hDb ib iib jb jjb hNe hDe ie iie je jje na nb ne hve
          go_enter Tryd.func8, Tryd.ntmps8
          go_wp2_with (first
            | (go_at_call 19; first
              | ((with_reducible refine (sa _).mono ?_); rintro e w1 ⟨rfl, hb⟩; have K1 := Lib.hid ((S0.out.al3 _ _ _ _ _ _).below hb); have ybfst := K1.out.b1.fst; have ybsnd := K1.out.b1.snd; clear hb)
              | ((with_reducible refine (sb _).mono ?_); rintro e w2 ⟨rfl, hb⟩; have K2 := Lib.hid (K1.out.below hb); clear ybfst ybsnd; have yefst := K2.out.b0.fst; have yesnd := K2.out.b0.snd; clear hb)
              | ((with_reducible refine (se _).mono ?_); rintro e w3 ⟨rfl, hb⟩; have K3 := Lib.hid (K2.out.below hb); clear yefst yesnd; have yafst := K3.out.b2.fst; have yasnd := K3.out.b2.snd; clear hb))
            | (go_at_call 18; first
              | ((with_reducible refine (ka _ K3.out.c0 K3.out.c1).mono ?_); rintro e w4 ⟨rfl, hb⟩; have K4 := Lib.hid (K3.out.below hb); clear yafst yasnd; have ybfst := K4.out.b1.fst; have ybsnd := K4.out.b1.snd; clear hb)
              | ((with_reducible refine (kb _ K4.out.c2 K4.out.c3).mono ?_); rintro e w5 ⟨rfl, hb⟩; have K5 := Lib.hid (K4.out.below hb); clear ybfst ybsnd; have yefst := K5.out.b0.fst; have yesnd := K5.out.b0.snd; clear hb)
              | ((with_reducible refine (ke _ K5.out.c4 K5.out.c5).mono ?_); rintro e w6 ⟨rfl, hb⟩; have K6 := Lib.hid (K5.out.below hb); clear yefst yesnd; clear hb))
            | (go_at_call 12; first
              | ((with_reducible refine (kw _ (tab_on HT.out K6.out.bel)).mono ?_); rintro e w7 ⟨rfl, hb⟩; have K7 := Lib.hid (K6.out.below hb); clear hb)))
          go_ret
          exact ⟨rfl, K7.out.bel⟩
        obtain rfl : ve = true := by cases ve; exact absurd rfl xe; rfl
        clear xe
        obtain ⟨ra, Ga⟩ : ∃ r, Hid (Gf La Ma Na Da ca da r 8) := ⟨_, Lib.hid (gf_arg hva.out.symm ia iia (by omega) (by omega))⟩
        obtain ⟨rb, Gb⟩ : ∃ r, Hid (Gf Lb Mb Nb Db cb db r 8) := ⟨_, Lib.hid (gf_arg hvb.out.symm ib iib (by omega) (by omega))⟩
        obtain ⟨re, Ge⟩ : ∃ r, Hid (Gf Le Me Ne De ce de r 8) := ⟨_, Lib.hid (gf_arg hve.out.symm ie iie (by omega) (by omega))⟩
        clear hNa hDa ia iia ja jja hNb hDb ib iib jb jjb hNe hDe ie iie je jje na nb ne hva hvb hve
        have E1 := Lib.hid (Rat.add_comm ra rb)
        have E2 := Lib.hid (Rat.add_assoc ra rb re)
        have E3 := Lib.hid (show ra + rb - rb = ra from Rat.add_sub_cancel)
        have E4 := Lib.hid (Rat.add_zero ra)
        have hle := Lib.hid (Ga.out.le rb)
        go_enter Tryd.func8, Tryd.ntmps8
        go_upto_region 9 with (first
          | (go_at_call 19; first
            | ((with_reducible refine (sa _).mono ?_); rintro e w1 ⟨rfl, hb⟩; have K1 := Lib.hid ((S0.out.al3 _ _ _ _ _ _).below hb); have ybfst := K1.out.b1.fst; have ybsnd := K1.out.b1.snd; clear hb)
            | ((with_reducible refine (sb _).mono ?_); rintro e w2 ⟨rfl, hb⟩; have K2 := Lib.hid (K1.out.below hb); clear ybfst ybsnd; have yefst := K2.out.b0.fst; have yesnd := K2.out.b0.snd; clear hb)
            | ((with_reducible refine (se _).mono ?_); rintro e w3 ⟨rfl, hb⟩; have K3 := Lib.hid (K2.out.below hb); clear yefst yesnd; have yafst := K3.out.b2.fst; have yasnd := K3.out.b2.snd; clear hb))
          | (go_at_call 18; first
            | ((with_reducible refine (ka _ K3.out.c0 K3.out.c1).mono ?_); rintro e w4 ⟨rfl, hb⟩; have K4 := Lib.hid (K3.out.below hb); clear yafst yasnd; have ybfst := K4.out.b1.fst; have ybsnd := K4.out.b1.snd; clear hb)
            | ((with_reducible refine (kb _ K4.out.c2 K4.out.c3).mono ?_); rintro e w5 ⟨rfl, hb⟩; have K5 := Lib.hid (K4.out.below hb); clear ybfst ybsnd; have yefst := K5.out.b0.fst; have yesnd := K5.out.b0.snd; clear hb)
            | ((with_reducible refine (ke _ K5.out.c4 K5.out.c5).mono ?_); rintro e w6 ⟨rfl, hb⟩; have K6 := Lib.hid (K5.out.below hb); clear yefst yesnd; have yafst := K6.out.b2.fst; have yasnd := K6.out.b2.snd; have ybfst := K6.out.b1.fst; have ybsnd := K6.out.b1.snd; clear hb))
          | (go_at_call 29; first
            | ((with_reducible refine (addI Ga.out Gb.out (by omega) _ _ _ _ _ K6.out.c0 K6.out.c1 K6.out.c2 K6.out.c3).mono ?_); rintro e w7 ⟨Lu1, Mu1, Nu1, Du1, Au1, cu1, Bu1, du1, rfl, Gu1, qu1, hb⟩; have K7 := Lib.hid (((K6.out.below hb).addc qu1.2).addc qu1.1); clear yafst yasnd ybfst ybsnd; have ybfst := fun o0 => (K7.out.alloc o0).b1.fst; have ybsnd := fun o0 => (K7.out.alloc o0).b1.snd; have yafst := fun o0 => (K7.out.alloc o0).b2.fst; have yasnd := fun o0 => (K7.out.alloc o0).b2.snd; clear hb qu1)
            | ((with_reducible refine (addI Gb.out Ga.out (by omega) _ _ _ _ _ (K7.out.al1 _ _).c4 (K7.out.al1 _ _).c5 (K7.out.al1 _ _).c2 (K7.out.al1 _ _).c3).mono ?_); rintro e w8 ⟨Lu2, Mu2, Nu2, Du2, Au2, cu2, Bu2, du2, rfl, Gu2, qu2, hb⟩; have K8 := Lib.hid ((((K7.out.al1 _ _).below hb).addc qu2.2).addc qu2.1); clear ybfst ybsnd yafst yasnd; have ybfst := fun o0 => (K8.out.alloc o0).b2.fst; have ybsnd := fun o0 => (K8.out.alloc o0).b2.snd; have yefst := fun o0 => (K8.out.alloc o0).b1.fst; have yesnd := fun o0 => (K8.out.alloc o0).b1.snd; clear hb qu2)
            | ((with_reducible refine (addI Gb.out Ge.out (by omega) _ _ _ _ _ (K8.out.al1 _ _).c6 (K8.out.al1 _ _).c7 (K8.out.al1 _ _).c8 (K8.out.al1 _ _).c9).mono ?_); rintro e w9 ⟨Lu3, Mu3, Nu3, Du3, Au3, cu3, Bu3, du3, rfl, Gu3, qu3, hb⟩; have K9 := Lib.hid ((((K8.out.al1 _ _).below hb).addc qu3.2).addc qu3.1); clear ybfst ybsnd yefst yesnd; have yu1fst := fun o0 => (K9.out.alloc o0).b1.fst; have yu1snd := fun o0 => (K9.out.alloc o0).b1.snd; have yefst := fun o0 => (K9.out.alloc o0).b2.fst; have yesnd := fun o0 => (K9.out.alloc o0).b2.snd; clear hb qu3)
            | ((with_reducible refine (addI Gu1.out Ge.out (by omega) _ _ _ _ _ (K9.out.al1 _ _).c4 (K9.out.al1 _ _).c5 (K9.out.al1 _ _).c10 (K9.out.al1 _ _).c11).mono ?_); rintro e w10 ⟨Lu4, Mu4, Nu4, Du4, Au4, cu4, Bu4, du4, rfl, Gu4, qu4, hb⟩; have K10 := Lib.hid ((((K9.out.al1 _ _).below hb).addc qu4.2).addc qu4.1); clear yu1fst yu1snd yefst yesnd; have yafst := fun o0 => (K10.out.alloc o0).b5.fst; have yasnd := fun o0 => (K10.out.alloc o0).b5.snd; have yu3fst := fun o0 => (K10.out.alloc o0).b0.fst; have yu3snd := fun o0 => (K10.out.alloc o0).b0.snd; clear hb qu4)
            | ((with_reducible refine (addI Ga.out Gu3.out (by omega) _ _ _ _ _ (K10.out.al1 _ _).c8 (K10.out.al1 _ _).c9 (K10.out.al1 _ _).c2 (K10.out.al1 _ _).c3).mono ?_); rintro e w11 ⟨Lu5, Mu5, Nu5, Du5, Au5, cu5, Bu5, du5, rfl, Gu5, qu5, hb⟩; have K11 := Lib.hid ((((K10.out.al1 _ _).below hb).addc qu5.2).addc qu5.1); clear yafst yasnd yu3fst yu3snd; have yu1fst := fun o0 => (K11.out.alloc o0).b3.fst; have yu1snd := fun o0 => (K11.out.alloc o0).b3.snd; have ybfst := fun o0 => (K11.out.alloc o0).b5.fst; have ybsnd := fun o0 => (K11.out.alloc o0).b5.snd; clear hb qu5))
          | (go_at_call 30; first
            | ((with_reducible refine (subI Gu1.out Gb.out (by omega) hle.out _ _ _ _ _ (K11.out.al1 _ _).c8 (K11.out.al1 _ _).c9 (K11.out.al1 _ _).c12 (K11.out.al1 _ _).c13).mono ?_); rintro e w12 ⟨Lu6, Mu6, Nu6, Du6, Au6, cu6, Bu6, du6, rfl, Gu6, qu6, hb⟩; have K12 := Lib.hid ((((K11.out.al1 _ _).below hb).addc qu6.2).addc qu6.1); clear yu1fst yu1snd ybfst ybsnd; clear hb qu6)))
        obtain ⟨Wx, hWx⟩ : ∃ Wx, w12.alloc (Obj.cells #[.slice Au6 Lu6 cu6, .slice Bu6 Mu6 du6] 28) = Wx := ⟨_, rfl⟩
        have KX := Lib.hid (K12.out.al1 #[.slice Au6 Lu6 cu6, .slice Bu6 Mu6 du6] 28)
        rw [hWx] at KX
        rw [hWx]
        clear hWx
        have x1 := KX.out.b8.fst
        have x2 := KX.out.b8.snd
        have ne1 := World.new_ne Wx _ x1
        have low1 := KX.out.bel.size
        go_cut [19, 20] from 21 (fun s1 s2 wx => ∃ (pz Lu7 Mu7 Nu7 Du7 : Nat) (Au7 : Option Addr) (cu7 : Nat) (Bu7 : Option Addr) (du7 : Nat), s1 = .pointer (some ⟨pz, 0, none⟩) ∧ s2 = .int .i64 0 ∧ Hid (Gf Lu7 Mu7 Nu7 Du7 cu7 du7 (ra + 0) (8 + 1 + 1)) ∧
            Hid (Kp w [(Au7, Lu7, Nu7), (Bu7, Mu7, Du7), (Au6, Lu6, Nu6), (Bu6, Mu6, Du6), (Au5, Lu5, Nu5), (Bu5, Mu5, Du5), (Au4, Lu4, Nu4), (Bu4, Mu4, Du4), (Au3, Lu3, Nu3), (Bu3, Mu3, Du3), (Au2, Lu2, Nu2), (Bu2, Mu2, Du2), (Au1, Lu1, Nu1), (Bu1, Mu1, Du1), (Aa, La, Na), (Ba, Ma, Da), (Ab, Lb, Nb), (Bb, Mb, Db), (Ae, Le, Ne), (Be, Me, De)] [(w12.heap.size, #[.slice Au6 Lu6 cu6, .slice Bu6 Mu6 du6]), (w11.heap.size, #[.slice Au5 Lu5 cu5, .slice Bu5 Mu5 du5]), (w10.heap.size, #[.slice Au4 Lu4 cu4, .slice Bu4 Mu4 du4]), (w9.heap.size, #[.slice Au3 Lu3 cu3, .slice Bu3 Mu3 du3]), (w8.heap.size, #[.slice Au2 Lu2 cu2, .slice Bu2 Mu2 du2]), (w7.heap.size, #[.slice Au1 Lu1 cu1, .slice Bu1 Mu1 du1]), (w.heap.size + 1 + 1, #[.slice Ae Le ce, .slice Be Me de]), (w.heap.size + 1, #[.slice Ab Lb cb, .slice Bb Mb db]), (w.heap.size, #[.slice Aa La ca, .slice Ba Ma da]), (pz, #[.slice Au7 Lu7 cu7, .slice Bu7 Mu7 du7])] wx))
        case first =>
          go_region_held3 (fun w' => w'.cell? ⟨w.heap.size, 0, none⟩ = some (.slice Aa La ca) ∧ w'.cell? ⟨w.heap.size, 1, none⟩ = some (.slice Ba Ma da)) (go_keep)
            (first
              | (go_at_call 31; first
                | ((with_reducible refine (k_0_1 _).mono ?_); rintro e wa ⟨Ao, co, Bo, do', rfl, Ho, qo, hb⟩; have Z := Lib.hid (((KX.out.drew.below hb).addc qo.2).addc qo.1); have z1 := Z.out.b8.fst; have z2 := Z.out.b8.snd; have ne5 := World.new_ne wa _ z1; have low2 := Z.out.bel.size; clear hb qo)
                | ((with_reducible refine (k_0_1 _).mono ?_); rintro e wa ⟨Ao, co, Bo, do', rfl, Ho, qo, hb⟩; have Zb := Lib.hid ((((KX.out.al1 _ _).drew.below hb).addc qo.2).addc qo.1); have z1 := Zb.out.b9.fst; have z2 := Zb.out.b9.snd; clear hb qo))
              | (go_at_call 29; first
                | ((with_reducible refine (addI Ga.out (g01 Ho) (by omega) _ _ _ _ _ Z.out.c14 Z.out.c15 Z.out.c0 Z.out.c1).mono ?_); rintro e wb ⟨Lu7, Mu7, Nu7, Du7, Au7, cu7, Bu7, du7, rfl, Gu7, qu7, hb⟩; have V := Lib.hid (((Z.out.below hb).addc qu7.2).addc qu7.1); have y1 := V.out.b8.fst; have y2 := V.out.b8.snd; have ne6 := World.new_ne wb _ y1; clear hb qu7)
                | ((with_reducible refine (addI Ga.out (g01 Ho) (by omega) _ _ _ _ _ (Z.out.al1 _ _).c14 (Z.out.al1 _ _).c15 (Z.out.al1 _ _).c0 (Z.out.al1 _ _).c1).mono ?_); rintro e wb ⟨Lu7, Mu7, Nu7, Du7, Au7, cu7, Bu7, du7, rfl, Gu7, qu7, hb⟩; have V := Lib.hid ((((Z.out.al1 _ _).below hb).addc qu7.2).addc qu7.1); have y1 := V.out.b9.fst; have y2 := V.out.b9.snd; have u1 := V.out.b0.fst; have u2 := V.out.b0.snd; have g1 := V.out.b0.free 0; have g2 := V.out.b0.free 1; have ne6 := ne5; clear hb qu7)
                | ((with_reducible refine (addI Ga.out (g01 Ho) (by omega) _ _ _ _ _ Zb.out.c14 Zb.out.c15 Zb.out.c0 Zb.out.c1).mono ?_); rintro e wb ⟨Lu7, Mu7, Nu7, Du7, Au7, cu7, Bu7, du7, rfl, Gu7, qu7, hb⟩; have V := Lib.hid (((Zb.out.below hb).addc qu7.2).addc qu7.1); have y1 := V.out.b9.fst; have y2 := V.out.b9.snd; have u1 := V.out.b0.fst; have u2 := V.out.b0.snd; have g1 := V.out.b0.free 0; have g2 := V.out.b0.free 1; have ne6 := ne1; clear hb qu7)))
          all_goals go_wp2_with fail
          all_goals go_meet
          all_goals first
            | exact ⟨_, Lu7, Mu7, Nu7, Du7, Au7, cu7, Bu7, du7, rfl, rfl, Gu7, Lib.hid (kp_rot (kp_drop2 V.out |>.al1 _ _))⟩
            | exact ⟨_, Lu7, Mu7, Nu7, Du7, Au7, cu7, Bu7, du7, rfl, rfl, Gu7, Lib.hid (kp_set2 (kp_drop2 V.out) low2 (kp_lt Z.out) _ _)⟩
            | exact ⟨_, Lu7, Mu7, Nu7, Du7, Au7, cu7, Bu7, du7, rfl, rfl, Gu7, Lib.hid (kp_set2 (kp_drop2 V.out) low1 (kp_lt KX.out) _ _)⟩
        case rest =>
          obtain ⟨pz, Lu7, Mu7, Nu7, Du7, Au7, cu7, Bu7, du7, rfl, rfl, Gu7, KC⟩ := hcut
          clear x1 x2 ne1 low1 KX
          have yu1fst := KC.out.b5.fst
          have yu1snd := KC.out.b5.snd
          have yu2fst := KC.out.b4.fst
          have yu2snd := KC.out.b4.snd
          go_wp2_with (first
            | (go_at_call 15; first
              | ((with_reducible refine (sameI Gu1.out Gu2.out (by omega) (by omega) E1.out _ _ _ _ _ KC.out.c12 KC.out.c13 KC.out.c10 KC.out.c11).mono ?_); rintro e w13 ⟨rfl, hb⟩; have K13 := Lib.hid (KC.out.below hb); clear yu1fst yu1snd yu2fst yu2snd; have yu4fst := K13.out.b2.fst; have yu4snd := K13.out.b2.snd; have yu5fst := K13.out.b1.fst; have yu5snd := K13.out.b1.snd; clear hb)
              | ((with_reducible refine (sameI Gu4.out Gu5.out (by omega) (by omega) E2.out _ _ _ _ _ K13.out.c6 K13.out.c7 K13.out.c4 K13.out.c5).mono ?_); rintro e w14 ⟨rfl, hb⟩; have K14 := Lib.hid (K13.out.below hb); clear yu4fst yu4snd yu5fst yu5snd; have yu6fst := K14.out.b0.fst; have yu6snd := K14.out.b0.snd; have yafst := K14.out.b8.fst; have yasnd := K14.out.b8.snd; clear hb)
              | ((with_reducible refine (sameI Gu6.out Ga.out (by omega) (by omega) E3.out _ _ _ _ _ K14.out.c2 K14.out.c3 K14.out.c14 K14.out.c15).mono ?_); rintro e w15 ⟨rfl, hb⟩; have K15 := Lib.hid (K14.out.below hb); clear yu6fst yu6snd yafst yasnd; have yu7fst := K15.out.b9.fst; have yu7snd := K15.out.b9.snd; have yafst := K15.out.b8.fst; have yasnd := K15.out.b8.snd; clear hb)
              | ((with_reducible refine (sameI Gu7.out Ga.out (by omega) (by omega) E4.out _ _ _ _ _ K15.out.c0 K15.out.c1 K15.out.c14 K15.out.c15).mono ?_); rintro e w16 ⟨rfl, hb⟩; have K16 := Lib.hid (K15.out.below hb); clear yu7fst yu7snd yafst yasnd; have yafst := K16.out.b8.fst; have yasnd := K16.out.b8.snd; have ybfst := K16.out.b7.fst; have ybsnd := K16.out.b7.snd; have yefst := K16.out.b6.fst; have yesnd := K16.out.b6.snd; have yu3fst := K16.out.b3.fst; have yu3snd := K16.out.b3.snd; clear hb))
            | (go_at_call 32; first
              | ((with_reducible refine (products_any ra rb re _ _ _ _ _ _ _ _ _ _ _ _ _ _ _ _ _ _ _ _ _ _ _ _ _ _ _ _ _ _ _ _ Ga Gb Ge Gu3 _ K16.out.c14 K16.out.c15 K16.out.c16 K16.out.c17 K16.out.c18 K16.out.c19 K16.out.c8 K16.out.c9).mono ?_); rintro e w17 ⟨rfl, hb⟩; have K17 := Lib.hid (K16.out.below hb); clear yafst yasnd ybfst ybsnd yefst yesnd yu3fst yu3snd; clear hb))
            | (go_at_call 12; first
              | ((with_reducible refine (kw _ (tab_on HT.out K17.out.bel)).mono ?_); rintro e w18 ⟨rfl, hb⟩; have K18 := Lib.hid (K17.out.below hb); clear hb)))
          go_ret
          exact ⟨rfl, K18.out.bel⟩
      · have se := brief_no Ae Be Le ce Me de 8 ne
        clear hNa hDa ia iia ja jja hNb hDb ib iib jb jjb hNe hDe ie iie je jje na nb ne
        go_enter Tryd.func8, Tryd.ntmps8
        go_wp2_with (first
          | (go_at_call 19; first
            | ((with_reducible refine (sa _).mono ?_); rintro e w1 ⟨rfl, hb⟩; have K1 := Lib.hid ((S0.out.al3 _ _ _ _ _ _).below hb); have ybfst := K1.out.b1.fst; have ybsnd := K1.out.b1.snd; clear hb)
            | ((with_reducible refine (sb _).mono ?_); rintro e w2 ⟨rfl, hb⟩; have K2 := Lib.hid (K1.out.below hb); clear ybfst ybsnd; have yefst := K2.out.b0.fst; have yesnd := K2.out.b0.snd; clear hb)
            | ((with_reducible refine (se _).mono ?_); rintro e w3 ⟨rfl, hb⟩; have K3 := Lib.hid (K2.out.below hb); clear yefst yesnd; clear hb))
          | (go_at_call 12; first
            | ((with_reducible refine (kw _ (tab_on HT.out K3.out.bel)).mono ?_); rintro e w4 ⟨rfl, hb⟩; have K4 := Lib.hid (K3.out.below hb); clear hb)))
        go_ret
        exact ⟨rfl, K4.out.bel⟩
    · have sb := brief_no Ab Bb Lb cb Mb db 8 nb
      clear hNa hDa ia iia ja jja hNb hDb ib iib jb jjb hNe hDe ie iie je jje na nb
      go_enter Tryd.func8, Tryd.ntmps8
      go_wp2_with (first
        | (go_at_call 19; first
          | ((with_reducible refine (sa _).mono ?_); rintro e w1 ⟨rfl, hb⟩; have K1 := Lib.hid ((S0.out.al3 _ _ _ _ _ _).below hb); have ybfst := K1.out.b1.fst; have ybsnd := K1.out.b1.snd; clear hb)
          | ((with_reducible refine (sb _).mono ?_); rintro e w2 ⟨rfl, hb⟩; have K2 := Lib.hid (K1.out.below hb); clear ybfst ybsnd; clear hb))
        | (go_at_call 12; first
          | ((with_reducible refine (kw _ (tab_on HT.out K2.out.bel)).mono ?_); rintro e w3 ⟨rfl, hb⟩; have K3 := Lib.hid (K2.out.below hb); clear hb)))
      go_ret
      exact ⟨rfl, K3.out.bel⟩
  · have sa := brief_no Aa Ba La ca Ma da 8 na
    clear hNa hDa ia iia ja jja hNb hDb ib iib jb jjb hNe hDe ie iie je jje na
    go_enter Tryd.func8, Tryd.ntmps8
    go_wp2_with (first
      | (go_at_call 19; first
        | ((with_reducible refine (sa _).mono ?_); rintro e w1 ⟨rfl, hb⟩; have K1 := Lib.hid ((S0.out.al3 _ _ _ _ _ _).below hb); clear hb))
      | (go_at_call 12; first
        | ((with_reducible refine (kw _ (tab_on HT.out K1.out.bel)).mono ?_); rintro e w2 ⟨rfl, hb⟩; have K2 := Lib.hid (K1.out.below hb); clear hb)))
    go_ret
    exact ⟨rfl, K2.out.bel⟩
end Go.Proofs.YtinceponggpioaaDoor.frQ

/-
  The law FracDecimals.
-/
import Derived.Test.YtinceponggpioaaDoorFrJa
import Derived.Test.YtinceponggpioaaDoorFrY
namespace Go.Proofs.YtinceponggpioaaDoor.frJb
open Go.RowKit
open Go.Proofs.YtinceponggpioaaDoor.natM Go.Proofs.YtinceponggpioaaDoor.natA Go.Proofs.YtinceponggpioaaDoor.natB Go.Proofs.YtinceponggpioaaDoor.natF Go.Proofs.YtinceponggpioaaDoor.natG Go.Proofs.YtinceponggpioaaDoor.natX Go.Proofs.YtinceponggpioaaDoor.natUi Go.Proofs.YtinceponggpioaaDoor.frM Go.Proofs.YtinceponggpioaaDoor.frA Go.Proofs.YtinceponggpioaaDoor.frB Go.Proofs.YtinceponggpioaaDoor.frC Go.Proofs.YtinceponggpioaaDoor.frD Go.Proofs.YtinceponggpioaaDoor.frE Go.Proofs.YtinceponggpioaaDoor.frI Go.Proofs.YtinceponggpioaaDoor.frR Go.Proofs.YtinceponggpioaaDoor.frS Go.Proofs.YtinceponggpioaaDoor.frV Go.Proofs.YtinceponggpioaaDoor.ntF Go.Proofs.YtinceponggpioaaDoor.frX Go.Proofs.YtinceponggpioaaDoor.frY Go.Proofs.YtinceponggpioaaDoor.frJ Go.Proofs.YtinceponggpioaaDoor.frJa
set_option linter.unusedVariables false

theorem rdec_any (A B : Option Addr) (n c m d X Y : Nat) (p : Int) (hX : Hid (X < 4294967296 ^ n)) (hY : Hid (Y < 4294967296 ^ m)) (j1 : n ≤ 9223372036854775807) (j2 : m ≤ 9223372036854775807)
    (w : World) (h1 : Cel .u32 w A (dg 4294967296 n X)) (h2 : Cel .u32 w B (dg 4294967296 m Y)) :
    Calls Tryd.prog 28 #[.agg #[.slice A n c, .slice B m d], .int .i64 p] w (TxP (dcA (frB n X m Y) X Y p).1 (dcA (frB n X m Y) X Y p).2 w) := by
  unfold dcA
  by_cases hno : frB n X m Y = false ∨ p < 0 ∨ 18 < p
  · rw [if_pos hno]
    exact rdec_no A B n c m d X Y p (frB n X m Y) hX hY j1 j2 (Lib.hid rfl) hno w h1 h2
  · rw [if_neg hno]
    have hv : frB n X m Y = true := by
      cases h : frB n X m Y with
      | true => rfl
      | false => exact absurd (.inl h) hno
    obtain ⟨v1, v2, l⟩ := fr_low hv
    obtain ⟨q, rfl⟩ := Int.eq_ofNat_of_zero_le (show 0 ≤ p by omega)
    rw [Int.toNat_natCast]
    by_cases hb : nlen 4294967296 (X * 10 ^ q) ≤ 64
    · rw [big_no hb, if_neg (by simp)]
      exact rdec_ok A B n c m d X Y q hX hY (Lib.hid v1) (Lib.hid v2) (Lib.hid hv) l.1 (by omega) hb w h1 h2
    · rw [big_yes (by omega), if_pos rfl]
      exact rdec_big A B n c m d X Y q hX hY (Lib.hid v1) (Lib.hid v2) (Lib.hid hv) l.1 (by omega) (by omega) w h1 h2
set_option maxRecDepth 4000 in
set_option maxHeartbeats 4000000 in
theorem decimals_any (A B : Option Addr) (n c m d X Y : Nat) (p : Int) (hX : Hid (X < 4294967296 ^ n)) (hY : Hid (Y < 4294967296 ^ m)) (i1 : n ≤ c) (i2 : m ≤ d) (j1 : n ≤ 9223372036854775807) (j2 : m ≤ 9223372036854775807)
    (w : World) (htab : Tab w) (h1 : Cel .u32 w A (dg 4294967296 n X)) (h2 : Cel .u32 w B (dg 4294967296 m Y)) :
    Calls Tryd.prog 7 #[.agg #[.slice A n c, .slice B m d], .int .i64 p] w fun e w' => e = .returned (.bool true) ∧ Below w.heap.size w w' := by
  have S0 := Lib.hid (((Kp.start w).addc h2).addc h1)
  have HT := Lib.hid htab
  clear h1 h2 htab
  have kw := awake_any
  by_cases hn : (n : Int) ≤ 70 ∧ (m : Int) ≤ 70
  · have s1 := brief_yes A B n c m d 70 hn.1 hn.2
    obtain ⟨⟨t, E⟩, hr⟩ : ∃ r, r = dcA (frB n X m Y) X Y p := ⟨_, rfl⟩
    have k1 : ∀ w, Tab w → Cel .u32 w A (dg 4294967296 n X) → Cel .u32 w B (dg 4294967296 m Y) → Calls Tryd.prog 27 #[.agg #[.slice A n c, .slice B m d], .int .i64 p] w (TxP t E w) := fun w ht h1 h2 => by
      have := fdec_any A B n c m d X Y p hX hY i1 i2 j1 j2 w ht h1 h2
      rwa [← hr] at this
    have k2 : ∀ w, Cel .u32 w A (dg 4294967296 n X) → Cel .u32 w B (dg 4294967296 m Y) → Calls Tryd.prog 28 #[.agg #[.slice A n c, .slice B m d], .int .i64 p] w (TxP t E w) := fun w h1 h2 => by
      have := rdec_any A B n c m d X Y p hX hY j1 j2 w h1 h2
      rwa [← hr] at this
    clear hX hY i1 i2 j1 j2 hr hn
    go_enter Tryd.func7, Tryd.ntmps7
    go_wp2_with (first
      | (go_at_call 19; first
        | ((with_reducible refine (s1 _).mono ?_); rintro e w1 ⟨rfl, hb⟩; have K1 := Lib.hid ((S0.out.al1 _ _).below hb); have ybfst := K1.out.b0.fst; have ybsnd := K1.out.b0.snd; clear hb))
      | (go_at_call 27; first
        | ((with_reducible refine (k1 _ (tab_on HT.out K1.out.bel) K1.out.c0 K1.out.c1).mono ?_); rintro e w2 ⟨rfl, hb⟩; have K2 := Lib.hid (K1.out.below hb); clear ybfst ybsnd; have ybfst := K2.out.b0.fst; have ybsnd := K2.out.b0.snd; clear hb))
      | (go_at_call 28; first
        | ((with_reducible refine (k2 _ K2.out.c0 K2.out.c1).mono ?_); rintro e w3 ⟨rfl, hb⟩; have K3 := Lib.hid (K2.out.below hb); clear ybfst ybsnd; clear hb))
      | (go_at_call 12; first
        | ((with_reducible refine (kw _ (tab_on HT.out K3.out.bel)).mono ?_); rintro e w4 ⟨rfl, hb⟩; have K4 := Lib.hid (K3.out.below hb); clear hb)))
    go_ret
    exact ⟨rfl, K4.out.bel⟩
  · have s1 := brief_no A B n c m d 70 hn
    clear hX hY i1 i2 j1 j2 hn
    go_enter Tryd.func7, Tryd.ntmps7
    go_wp2_with (first
      | (go_at_call 19; first
        | ((with_reducible refine (s1 _).mono ?_); rintro e w1 ⟨rfl, hb⟩; have K1 := Lib.hid ((S0.out.al1 _ _).below hb); clear hb))
      | (go_at_call 12; first
        | ((with_reducible refine (kw _ (tab_on HT.out K1.out.bel)).mono ?_); rintro e w2 ⟨rfl, hb⟩; have K2 := Lib.hid (K1.out.below hb); clear hb)))
    go_ret
    exact ⟨rfl, K2.out.bel⟩
end Go.Proofs.YtinceponggpioaaDoor.frJb

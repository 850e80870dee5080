/-
  Operations on fractions, by their values.
-/
import Derived.Test.YtinceponggpioaaDoorFrL
import Derived.Test.YtinceponggpioaaDoorFrH
namespace Go.Proofs.YtinceponggpioaaDoor.frN
open Go.RowKit
open Go.Proofs.YtinceponggpioaaDoor.natM Go.Proofs.YtinceponggpioaaDoor.natA Go.Proofs.YtinceponggpioaaDoor.natB Go.Proofs.YtinceponggpioaaDoor.natF Go.Proofs.YtinceponggpioaaDoor.natG Go.Proofs.YtinceponggpioaaDoor.natX Go.Proofs.YtinceponggpioaaDoor.natUi Go.Proofs.YtinceponggpioaaDoor.frM Go.Proofs.YtinceponggpioaaDoor.frA Go.Proofs.YtinceponggpioaaDoor.frB Go.Proofs.YtinceponggpioaaDoor.frC Go.Proofs.YtinceponggpioaaDoor.frD Go.Proofs.YtinceponggpioaaDoor.frE Go.Proofs.YtinceponggpioaaDoor.frI Go.Proofs.YtinceponggpioaaDoor.frR Go.Proofs.YtinceponggpioaaDoor.frS Go.Proofs.YtinceponggpioaaDoor.frV Go.Proofs.YtinceponggpioaaDoor.ntF Go.Proofs.YtinceponggpioaaDoor.frX Go.Proofs.YtinceponggpioaaDoor.frY Go.Proofs.YtinceponggpioaaDoor.frG Go.Proofs.YtinceponggpioaaDoor.frH Go.Proofs.YtinceponggpioaaDoor.frL
set_option linter.unusedVariables false

/-- what is known of a valid fraction in memory -/
def Gf (L M N D c d : Nat) (r : Rat) (k : Nat) : Prop := L = nlen 4294967296 N ∧ M = nlen 4294967296 D ∧ (L ≤ c ∧ M ≤ d) ∧ Is N D r k
theorem Gf.n {L M N D c d k : Nat} {r : Rat} (g : Gf L M N D c d r k) : Hid (N < 4294967296 ^ L) := Lib.hid (by rw [g.1]; exact nlen_lt (by omega) N)
theorem Gf.d {L M N D c d k : Nat} {r : Rat} (g : Gf L M N D c d r k) : Hid (D < 4294967296 ^ M) := Lib.hid (by rw [g.2.1]; exact nlen_lt (by omega) D)
theorem Gf.b {L M N D c d k : Nat} {r : Rat} (g : Gf L M N D c d r k) (hk : k ≤ 64) : L ≤ 64 ∧ M ≤ 64 := ⟨by rw [g.1]; exact len_of g.2.2.2.num hk, by rw [g.2.1]; exact len_of g.2.2.2.den hk⟩
theorem Gf.v {L M N D c d k : Nat} {r : Rat} (g : Gf L M N D c d r k) (hk : k ≤ 64) : frB L N M D = true := by
  have h1 := len_of g.2.2.2.num hk
  have h2 := len_of g.2.2.2.den hk
  rw [g.1, g.2.1]
  exact (fr_of_low g.2.2.2.low h1 h2).symm
def FrI (r : Rat) (k : Nat) (w : World) (e : Ending) (w' : World) : Prop :=
  ∃ L M N D A c B d, e = .returned (.tuple #[.agg #[.slice A L c, .slice B M d], .int .i64 0]) ∧ Hid (Gf L M N D c d r k) ∧ Fq w' A L N B M D ∧ Below w.heap.size w w'
theorem fri {r : Ans} {N D k : Nat} {t : Rat} (hr : r = (0, N, D)) (hi : Is N D t k) {w w' : World} {e : Ending} (h : FrP r w e w') : FrI t k w e w' := by
  subst hr
  obtain ⟨A, n, c, B, m, d, he, h1, h2, hb⟩ := h
  exact ⟨n, m, N, D, A, c, B, d, he, Lib.hid ⟨h1.1, h2.1, ⟨h1.2.1, h2.2.1⟩, hi⟩, ⟨h1.2.2, h2.2.2⟩, hb⟩
section
variable {L M N D c d k L2 M2 N2 D2 c2 d2 j : Nat} {r t : Rat}
theorem addI (g : Gf L M N D c d r k) (g2 : Gf L2 M2 N2 D2 c2 d2 t j) (hk : k + j + 1 ≤ 64) (A B A2 B2 : Option Addr) (w : World) (h1 : Cel .u32 w A (dg 4294967296 L N)) (h2 : Cel .u32 w B (dg 4294967296 M D)) (h3 : Cel .u32 w A2 (dg 4294967296 L2 N2)) (h4 : Cel .u32 w B2 (dg 4294967296 M2 D2)) :
    Calls Tryd.prog 29 #[.agg #[.slice A L c, .slice B M d], .agg #[.slice A2 L2 c2, .slice B2 M2 d2]] w (FrI (r + t) (k + j + 1) w) := by
  have b1 := g.b (by omega)
  have b2 := g2.b (by omega)
  obtain ⟨P, Q, e1, hi⟩ := is_add g.2.2.2 g2.2.2.2 (by omega)
  have := fadd_any A B A2 B2 L c M d L2 c2 M2 d2 N D N2 D2 g.n g.d g2.n g2.d g.2.2.1.1 g.2.2.1.2 g2.2.2.1.1 g2.2.2.1.2 (by omega) (by omega) (by omega) (by omega) w h1 h2 h3 h4
  rw [g.v (by omega), g2.v (by omega)] at this
  exact this.mono fun e w' hh => fri e1 hi hh
theorem mulI (g : Gf L M N D c d r k) (g2 : Gf L2 M2 N2 D2 c2 d2 t j) (hk : k + j ≤ 64) (A B A2 B2 : Option Addr) (w : World) (h1 : Cel .u32 w A (dg 4294967296 L N)) (h2 : Cel .u32 w B (dg 4294967296 M D)) (h3 : Cel .u32 w A2 (dg 4294967296 L2 N2)) (h4 : Cel .u32 w B2 (dg 4294967296 M2 D2)) :
    Calls Tryd.prog 23 #[.agg #[.slice A L c, .slice B M d], .agg #[.slice A2 L2 c2, .slice B2 M2 d2]] w (FrI (r * t) (k + j) w) := by
  have b1 := g.b (by omega)
  have b2 := g2.b (by omega)
  obtain ⟨P, Q, e1, hi⟩ := is_mul g.2.2.2 g2.2.2.2 (by omega)
  have := fmul_any A B A2 B2 L c M d L2 c2 M2 d2 N D N2 D2 g.n g.d g2.n g2.d g.2.2.1.1 g.2.2.1.2 g2.2.2.1.1 g2.2.2.1.2 (by omega) (by omega) (by omega) (by omega) w h1 h2 h3 h4
  rw [g.v (by omega), g2.v (by omega)] at this
  exact this.mono fun e w' hh => fri e1 hi hh
theorem subI (g : Gf L M N D c d r k) (g2 : Gf L2 M2 N2 D2 c2 d2 t j) (hk : k + j ≤ 64) (hle : t ≤ r) (A B A2 B2 : Option Addr) (w : World) (h1 : Cel .u32 w A (dg 4294967296 L N)) (h2 : Cel .u32 w B (dg 4294967296 M D)) (h3 : Cel .u32 w A2 (dg 4294967296 L2 N2)) (h4 : Cel .u32 w B2 (dg 4294967296 M2 D2)) :
    Calls Tryd.prog 30 #[.agg #[.slice A L c, .slice B M d], .agg #[.slice A2 L2 c2, .slice B2 M2 d2]] w (FrI (r - t) (k + j) w) := by
  have b1 := g.b (by omega)
  have b2 := g2.b (by omega)
  obtain ⟨P, Q, e1, hi⟩ := is_sub g.2.2.2 g2.2.2.2 (by omega) hle
  have := fsub_any A B A2 B2 L c M d L2 c2 M2 d2 N D N2 D2 g.n g.d g2.n g2.d g.2.2.1.1 g.2.2.1.2 g2.2.2.1.1 g2.2.2.1.2 (by omega) (by omega) (by omega) (by omega) w h1 h2 h3 h4
  rw [g.v (by omega), g2.v (by omega)] at this
  exact this.mono fun e w' hh => fri e1 hi hh
theorem divI (g : Gf L M N D c d r k) (g2 : Gf L2 M2 N2 D2 c2 d2 t j) (hk : k + j ≤ 64) (hz : 0 < N2) (A B A2 B2 : Option Addr) (w : World) (h1 : Cel .u32 w A (dg 4294967296 L N)) (h2 : Cel .u32 w B (dg 4294967296 M D)) (h3 : Cel .u32 w A2 (dg 4294967296 L2 N2)) (h4 : Cel .u32 w B2 (dg 4294967296 M2 D2)) :
    Calls Tryd.prog 25 #[.agg #[.slice A L c, .slice B M d], .agg #[.slice A2 L2 c2, .slice B2 M2 d2]] w (FrI (r * t⁻¹) (k + j) w) := by
  have b1 := g.b (by omega)
  have b2 := g2.b (by omega)
  obtain ⟨P, Q, e1, hi⟩ := is_div g.2.2.2 g2.2.2.2 (by omega) hz
  have := fdiv_any A B A2 B2 L c M d L2 c2 M2 d2 N D N2 D2 g.n g.d g2.n g2.d g.2.2.1.1 g.2.2.1.2 g2.2.2.1.1 g2.2.2.1.2 (by omega) (by omega) (by omega) (by omega) w h1 h2 h3 h4
  rw [g.v (by omega), g2.v (by omega)] at this
  exact this.mono fun e w' hh => fri e1 hi hh
theorem sameI (g : Gf L M N D c d r k) (g2 : Gf L2 M2 N2 D2 c2 d2 t j) (hk : k ≤ 64) (hj : j ≤ 64) (e : r = t) (A B A2 B2 : Option Addr) (w : World) (h1 : Cel .u32 w A (dg 4294967296 L N)) (h2 : Cel .u32 w B (dg 4294967296 M D)) (h3 : Cel .u32 w A2 (dg 4294967296 L2 N2)) (h4 : Cel .u32 w B2 (dg 4294967296 M2 D2)) :
    Calls Tryd.prog 15 #[.agg #[.slice A L c, .slice B M d], .agg #[.slice A2 L2 c2, .slice B2 M2 d2]] w fun e w' => e = .returned (.bool true) ∧ Below w.heap.size w w' := by
  have b1 := g.b hk
  have b2 := g2.b hj
  obtain ⟨rfl, rfl⟩ := is_eq g.2.2.2 g2.2.2.2 e
  exact sm_any A B A2 B2 L c M d L2 c2 M2 d2 N D N D true g.n g.d g2.n g2.d (by omega) (by omega) (by omega) (by omega) (Lib.hid (by unfold smB; simp [g.1, g2.1, g.2.1, g2.2.1])) w h1 h2 h3 h4
/-- the same limbs exactly if the same value -/
theorem sameQ (R : Bool) (g : Gf L M N D c d r k) (g2 : Gf L2 M2 N2 D2 c2 d2 t j) (hk : k ≤ 64) (hj : j ≤ 64) (hR : (R = true ↔ r = t)) (A B A2 B2 : Option Addr) (w : World) (h1 : Cel .u32 w A (dg 4294967296 L N)) (h2 : Cel .u32 w B (dg 4294967296 M D)) (h3 : Cel .u32 w A2 (dg 4294967296 L2 N2)) (h4 : Cel .u32 w B2 (dg 4294967296 M2 D2)) :
    Calls Tryd.prog 15 #[.agg #[.slice A L c, .slice B M d], .agg #[.slice A2 L2 c2, .slice B2 M2 d2]] w fun e w' => e = .returned (.bool R) ∧ Below w.heap.size w w' := by
  have b1 := g.b hk
  have b2 := g2.b hj
  refine sm_any A B A2 B2 L c M d L2 c2 M2 d2 N D N2 D2 R g.n g.d g2.n g2.d (by omega) (by omega) (by omega) (by omega) (Lib.hid ?_) w h1 h2 h3 h4
  unfold smB
  cases R with
  | true =>
    obtain ⟨rfl, rfl⟩ := is_eq g.2.2.2 g2.2.2.2 (hR.1 rfl)
    simp [g.1, g2.1, g.2.1, g2.2.1]
  | false =>
    symm
    rw [Bool.eq_false_iff]
    intro hc
    simp only [Bool.and_eq_true, decide_eq_true_eq] at hc
    have e : r = t := by rw [← g.2.2.2.val, ← g2.2.2.2.val, hc.1.2, hc.2.2]
    have := hR.2 e
    cases this
theorem cmpJ (C : Int) (g : Gf L M N D c d r k) (g2 : Gf L2 M2 N2 D2 c2 d2 t j) (hk : k ≤ 64) (hj : j ≤ 64) (hC : C = cmpQ r t) (A B A2 B2 : Option Addr) (w : World) (h1 : Cel .u32 w A (dg 4294967296 L N)) (h2 : Cel .u32 w B (dg 4294967296 M D)) (h3 : Cel .u32 w A2 (dg 4294967296 L2 N2)) (h4 : Cel .u32 w B2 (dg 4294967296 M2 D2)) :
    Calls Tryd.prog 21 #[.agg #[.slice A L c, .slice B M d], .agg #[.slice A2 L2 c2, .slice B2 M2 d2]] w fun e w' => e = .returned (.int .i64 C) ∧ Below w.heap.size w w' := by
  have b1 := g.b hk
  have b2 := g2.b hj
  exact fcmp_any A B A2 B2 L c M d L2 c2 M2 d2 N D N2 D2 C g.n g.d g2.n g2.d g.2.2.1.1 g.2.2.1.2 g2.2.2.1.1 g2.2.2.1.2 (by omega) (by omega) (by omega) (by omega) (Lib.hid (by rw [g.v hk, g2.v hj]; exact hC.trans (is_cmp g.2.2.2 g2.2.2.2).symm)) w h1 h2 h3 h4
theorem div0I (g : Gf L M N D c d r k) (g2 : Gf L2 M2 N2 D2 c2 d2 t j) (hk : k ≤ 64) (hj : j ≤ 64) (hz : N2 = 0) (A B A2 B2 : Option Addr) (w : World) (h1 : Cel .u32 w A (dg 4294967296 L N)) (h2 : Cel .u32 w B (dg 4294967296 M D)) (h3 : Cel .u32 w A2 (dg 4294967296 L2 N2)) (h4 : Cel .u32 w B2 (dg 4294967296 M2 D2)) :
    Calls Tryd.prog 25 #[.agg #[.slice A L c, .slice B M d], .agg #[.slice A2 L2 c2, .slice B2 M2 d2]] w (FrC 10 0 0 0 0 w) := by
  have b1 := g.b hk
  have b2 := g2.b hj
  have := fdiv_any A B A2 B2 L c M d L2 c2 M2 d2 N D N2 D2 g.n g.d g2.n g2.d g.2.2.1.1 g.2.2.1.2 g2.2.2.1.1 g2.2.2.1.2 (by omega) (by omega) (by omega) (by omega) w h1 h2 h3 h4
  rw [g.v hk, g2.v hj] at this
  exact this.mono fun e w' hh => frc (show divA true true N D N2 D2 = (10, 0, 0) by unfold divA; simp [hz, no]) (nlen_zero _) (nlen_zero _) hh
theorem Gf.nn (g : Gf L M N D c d r k) : 0 ≤ r := by rw [← g.2.2.2.val]; exact q_nonneg
theorem Gf.le (g : Gf L M N D c d r k) (t : Rat) : t ≤ r + t := by
  have := g.nn
  have h := Rat.add_le_add_right (c := t) |>.2 this
  rwa [Rat.zero_add] at h
theorem Gf.up (g : Gf L M N D c d r k) (h : k ≤ j) (e : r = t) : Gf L M N D c d t j := ⟨g.1, g.2.1, g.2.2.1, g.2.2.2.low, g.2.2.2.val.trans e, pow_up g.2.2.2.num h, pow_up g.2.2.2.den h⟩
end
theorem g01 {c d : Nat} (h : 0 ≤ c ∧ 1 ≤ d) : Gf 0 1 0 1 c d 0 1 := ⟨(nlen_zero _).symm, (nl (by omega) (by omega)).symm, h, ⟨by omega, rfl⟩, q_zero, by omega, by omega⟩
theorem g11 {c d : Nat} (h : 1 ≤ c ∧ 1 ≤ d) : Gf 1 1 1 1 c d 1 1 := ⟨(nl (by omega) (by omega)).symm, (nl (by omega) (by omega)).symm, h, ⟨by omega, rfl⟩, q_one, by omega, by omega⟩
theorem k_1_1 (w : World) : Calls Tryd.prog 31 #[.int .u32 1, .int .u32 1] w (OfC 1 1 1 1 w) := by
  have h := ofl_pos 1 1 (by omega) (by omega) (by omega) (by omega) w
  exact h.mono fun e w' hh => ofc (nl (by omega) (by omega)) (nl (by omega) (by omega)) hh
theorem gf_arg {n X c m Y d : Nat} (h : frB n X m Y = true) (h1 : n ≤ c) (h2 : m ≤ d) (h3 : n ≤ 8) (h4 : m ≤ 8) : Gf n m X Y c d (q X Y) 8 := by
  obtain ⟨v1, v2, l⟩ := fr_low h
  exact ⟨(valB_iff.1 v1).2.symm, (valB_iff.1 v2).2.symm, ⟨h1, h2⟩, l, rfl, pow_up (val_lt v1) h3, pow_up (val_lt v2) h4⟩
theorem kp_lt {w0 w : World} {cs : List (Option Addr × Nat × Nat)} {bs : List (Nat × Array Value)} (h : Kp w0 cs bs w) : ∀ x ∈ bs, x.1 ≠ w.heap.size := fun x hx => Nat.ne_of_lt (h.blk x hx).lt
theorem kp_rot {w0 w : World} {cs : List (Option Addr × Nat × Nat)} {bs : List (Nat × Array Value)} {y : Nat × Array Value} (h : Kp w0 cs (y :: bs) w) : Kp w0 cs (bs ++ [y]) w :=
  ⟨h.bel, h.cel, fun x hx => by
    rcases List.mem_append.1 hx with hx | hx
    · exact h.blk x (.tail _ hx)
    · simp at hx; subst hx; exact h.b0⟩
theorem kp_set2 {w0 w : World} {cs : List (Option Addr × Nat × Nat)} {bs : List (Nat × Array Value)} {b : Nat} {a1 a2 : Option Addr} {n1 c1 n2 c2 : Nat} (h : Kp w0 cs ((b, #[.slice a1 n1 c1, .slice a2 n2 c2]) :: bs) w) (hl : w0.heap.size ≤ b) (hne : ∀ x ∈ bs, x.1 ≠ b) (u v : Value) :
    Kp w0 cs (bs ++ [(b, #[u, v])]) ((w.setCell ⟨b, 0, none⟩ u).setCell ⟨b, 1, none⟩ v) :=
  ⟨(h.bel.setCell (p := ⟨b, 0, none⟩) hl u).setCell (p := ⟨b, 1, none⟩) hl v, fun x hx => by
    have hf := far_bk (h.cel x hx) h.b0
    exact ((h.cel x hx).set_ (p := ⟨b, 0, none⟩) hf u).set_ (p := ⟨b, 1, none⟩) hf v, fun x hx => by
    rcases List.mem_append.1 hx with hx | hx
    · exact ((h.blk x (.tail _ hx)).far (p := ⟨b, 0, none⟩) (hne x hx) u).far (p := ⟨b, 1, none⟩) (hne x hx) v
    · simp at hx; subst hx; exact (h.b0.set_ 0 u).set_ 1 v⟩
end Go.Proofs.YtinceponggpioaaDoor.frN

/-
  Contracts of DivMod, GCD, Of, Uint of nat.
-/
import Derived.Test.YtjblfmgiafdefaaNatI
namespace Go.Proofs.Ytjblfmgiafdefaa.natJ
open Go.RowKit
open Go.Proofs.Ytjblfmgiafdefaa.natM Go.Proofs.Ytjblfmgiafdefaa.natA Go.Proofs.Ytjblfmgiafdefaa.natB Go.Proofs.Ytjblfmgiafdefaa.natC Go.Proofs.Ytjblfmgiafdefaa.natD Go.Proofs.Ytjblfmgiafdefaa.natE Go.Proofs.Ytjblfmgiafdefaa.natF Go.Proofs.Ytjblfmgiafdefaa.natG Go.Proofs.Ytjblfmgiafdefaa.natH Go.Proofs.Ytjblfmgiafdefaa.natI
set_option linter.unusedVariables false

/-! ### DivMod -/
def DivR (Q R : Nat) (E : Int) (w : World) (e : Ending) (w' : World) : Prop :=
  ∃ A n c A2 n2 c2, e = .returned (.tuple #[.agg #[.slice A n c], .agg #[.slice A2 n2 c2], .int .i64 E]) ∧ Num w' A n c Q ∧ Num w' A2 n2 c2 R ∧ Below w.heap.size w w'
def dE (a b : Bool) (Y : Nat) : Int := if a = true ∧ b = true then (if Y = 0 then 10 else 0) else 2
def dQ (a b : Bool) (X Y : Nat) : Nat := if a = true ∧ b = true ∧ Y ≠ 0 then X / Y else 0
def dR (a b : Bool) (X Y : Nat) : Nat := if a = true ∧ b = true ∧ Y ≠ 0 then X % Y else 0
theorem d_no1 {b : Bool} {X Y : Nat} : dE false b Y = 2 ∧ dQ false b X Y = 0 ∧ dR false b X Y = 0 := ⟨if_neg (by simp), if_neg (by simp), if_neg (by simp)⟩
theorem d_no2 {a : Bool} {X Y : Nat} : dE a false Y = 2 ∧ dQ a false X Y = 0 ∧ dR a false X Y = 0 := ⟨if_neg (by simp), if_neg (by simp), if_neg (by simp)⟩
theorem d_zero {X : Nat} : dE true true 0 = 10 ∧ dQ true true X 0 = 0 ∧ dR true true X 0 = 0 := ⟨rfl, if_neg (by simp), if_neg (by simp)⟩
theorem d_ok {X Y : Nat} (h : 0 < Y) : dE true true Y = 0 ∧ dQ true true X Y = X / Y ∧ dR true true X Y = X % Y := by
  have h2 : Y ≠ 0 := by omega
  unfold dE dQ dR; simp [h2]
theorem set_two {w : World} {b b' : Nat} {v v' : Value} (h : Bx w b v) (h' : Bx w b' v') (hne : b ≠ b') (u u' : Value) :
    ((w.setCell ⟨b, 0, none⟩ u).setCell ⟨b', 0, none⟩ u').cell? ⟨b, 0, none⟩ = some u ∧ ((w.setCell ⟨b, 0, none⟩ u).setCell ⟨b', 0, none⟩ u').cell? ⟨b', 0, none⟩ = some u' := by
  refine ⟨?_, set_same (h'.far (p := ⟨b, 0, none⟩) (Ne.symm hne) u) u'⟩
  have h1 : Bx (w.setCell ⟨b, 0, none⟩ u) b u := by
    obtain ⟨T, h⟩ := h
    exact ⟨T, by simp [World.setCell, Array.getElem?_modify, h]⟩
  exact (h1.far (p := ⟨b', 0, none⟩) hne u').cell
theorem below_two_set {w w1 : World} {b b' : Nat} (h : Below w.heap.size w w1) (h1 : w.heap.size ≤ b) (h2 : w.heap.size ≤ b') (u u' : Value) : Below w.heap.size w ((w1.setCell ⟨b, 0, none⟩ u).setCell ⟨b', 0, none⟩ u') :=
  (h.setCell (p := ⟨b, 0, none⟩) h1 u).setCell (p := ⟨b', 0, none⟩) h2 u'

set_option maxHeartbeats 1000000 in
theorem div_no1 (A D : Option Addr) (n c m d X : Nat) (hX : Hid (X < 4294967296 ^ n)) (hn : n ≤ 9223372036854775807) (ha : Hid (false = valB n X)) (w : World) (hI : Cel .u32 w A (dg 4294967296 n X)) :
    Calls Try.prog 29 #[.agg #[.slice A n c], .agg #[.slice D m d]] w (DivR 0 0 2 w) := by
  have HI := Lib.hid hI
  clear hI
  have cv := fun w hI => valid_any A n c X false hX ha hn w hI
  go_enter Try.func29, Try.ntmps29
  go_wp2_with (go_at_call 46; refine (cv _ (cel_four HI.out _ _ _ _)).mono ?_; rintro e w1 ⟨rfl, hb1⟩; have HB1 := Lib.hid (below_on (below_four _ _ _ _ _) hb1); have XR := Lib.hid ((bx4 _ _ _ _ _ _ _ _ _).2.2.1.below hb1); have XS := Lib.hid ((bx4 _ _ _ _ _ _ _ _ _).2.2.2.below hb1); have xr := XR.out.cell; have fr := XR.out.free; have xs := XS.out.cell; have fs := XS.out.free; clear hb1)
  obtain ⟨y1, y2⟩ := set_two XR.out XS.out (by omega) (.slice none 0 0) (.slice none 0 0)
  refine bodyPost_ret (v := .tuple #[.agg #[.slice none 0 0], .agg #[.slice none 0 0], .int .i64 2]) (by simp [results, Try.results29, go_sem, y1, y2]) rfl ?_
  exact ⟨none, 0, 0, none, 0, 0, rfl, Num.nil _, Num.nil _, below_two_set HB1.out (by omega) (by omega) _ _⟩
set_option maxHeartbeats 1000000 in
theorem div_no2 (A D : Option Addr) (n c m d X Y : Nat) (hX : Hid (X < 4294967296 ^ n)) (hY : Hid (Y < 4294967296 ^ m)) (hn : n ≤ 9223372036854775807) (hm : m ≤ 9223372036854775807) (ha : Hid (true = valB n X)) (hb : Hid (false = valB m Y)) (w : World) (hI : Cel .u32 w A (dg 4294967296 n X)) (hJ : Cel .u32 w D (dg 4294967296 m Y)) :
    Calls Try.prog 29 #[.agg #[.slice A n c], .agg #[.slice D m d]] w (DivR 0 0 2 w) := by
  have HI := Lib.hid hI
  have HJ := Lib.hid hJ
  clear hI hJ
  have cv := fun w hI => valid_any A n c X true hX ha hn w hI
  have cu := fun w hI => valid_any D m d Y false hY hb hm w hI
  go_enter Try.func29, Try.ntmps29
  go_wp2_with (go_at_call 46; first
    | ((with_reducible refine (cv _ (cel_four HI.out _ _ _ _)).mono ?_); rintro e w1 ⟨rfl, hb1⟩; have HB1 := Lib.hid (below_on (below_four _ _ _ _ _) hb1); have HJ1 := Lib.hid ((cel_four HJ.out _ _ _ _).below hb1); have xb := ((bx4 _ _ _ _ _ _ _ _ _).2.1.below hb1).cell; have XR := Lib.hid ((bx4 _ _ _ _ _ _ _ _ _).2.2.1.below hb1); have XS := Lib.hid ((bx4 _ _ _ _ _ _ _ _ _).2.2.2.below hb1); clear hb1)
    | ((with_reducible refine (cu _ HJ1.out).mono ?_); rintro e w2 ⟨rfl, hb2⟩; have HB2 := Lib.hid (below_on HB1.out hb2); have XR2 := Lib.hid (XR.out.below hb2); have XS2 := Lib.hid (XS.out.below hb2); have xr := XR2.out.cell; have fr := XR2.out.free; have xs := XS2.out.cell; have fs := XS2.out.free; clear hb2))
  obtain ⟨y1, y2⟩ := set_two XR2.out XS2.out (by omega) (.slice none 0 0) (.slice none 0 0)
  refine bodyPost_ret (v := .tuple #[.agg #[.slice none 0 0], .agg #[.slice none 0 0], .int .i64 2]) (by simp [results, Try.results29, go_sem, y1, y2]) rfl ?_
  exact ⟨none, 0, 0, none, 0, 0, rfl, Num.nil _, Num.nil _, below_two_set HB2.out (by omega) (by omega) _ _⟩

set_option maxHeartbeats 2000000 in
theorem div_yes (A D : Option Addr) (n c m d X Y : Nat) (hX : Hid (X < 4294967296 ^ n)) (hY : Hid (Y < 4294967296 ^ m)) (ha : Hid (true = valB n X)) (hb : Hid (true = valB m Y)) (w : World) (hI : Cel .u32 w A (dg 4294967296 n X)) (hJ : Cel .u32 w D (dg 4294967296 m Y)) :
    Calls Try.prog 29 #[.agg #[.slice A n c], .agg #[.slice D m d]] w (DivR (dQ true true X Y) (dR true true X Y) (dE true true Y) w) := by
  have hn : n ≤ 64 := (valB_iff.1 ha.out.symm).1
  have hm : m ≤ 64 := (valB_iff.1 hb.out.symm).1
  have HI := Lib.hid hI
  have HJ := Lib.hid hJ
  clear hI hJ
  have cv := fun w hI => valid_any A n c X true hX ha (by omega) w hI
  have cu := fun w hI => valid_any D m d Y true hY hb (by omega) w hI
  by_cases h0 : m = 0
  · have hY0 := zero_of hY.out h0
    subst hY0
    subst h0
    rw [(d_zero (X := X)).1, d_zero.2.1, d_zero.2.2]
    go_enter Try.func29, Try.ntmps29
    go_wp2_with (go_at_call 46; first
      | ((with_reducible refine (cv _ (cel_four HI.out _ _ _ _)).mono ?_); rintro e w1 ⟨rfl, hb1⟩; have HB1 := Lib.hid (below_on (below_four _ _ _ _ _) hb1); have HJ1 := Lib.hid ((cel_four HJ.out _ _ _ _).below hb1); have XB := Lib.hid ((bx4 _ _ _ _ _ _ _ _ _).2.1.below hb1); have xb := XB.out.cell; have XR := Lib.hid ((bx4 _ _ _ _ _ _ _ _ _).2.2.1.below hb1); have XS := Lib.hid ((bx4 _ _ _ _ _ _ _ _ _).2.2.2.below hb1); clear hb1)
      | ((with_reducible refine (cu _ HJ1.out).mono ?_); rintro e w2 ⟨rfl, hb2⟩; have HB2 := Lib.hid (below_on HB1.out hb2); have xb2 := (XB.out.below hb2).cell; have XR2 := Lib.hid (XR.out.below hb2); have XS2 := Lib.hid (XS.out.below hb2); have xr := XR2.out.cell; have fr := XR2.out.free; have xs := XS2.out.cell; have fs := XS2.out.free; clear hb2))
    obtain ⟨y1, y2⟩ := set_two XR2.out XS2.out (by omega) (.slice none 0 0) (.slice none 0 0)
    refine bodyPost_ret (v := .tuple #[.agg #[.slice none 0 0], .agg #[.slice none 0 0], .int .i64 10]) (by simp [results, Try.results29, go_sem, y1, y2]) rfl ?_
    exact ⟨none, 0, 0, none, 0, 0, rfl, Num.nil _, Num.nil _, below_two_set HB2.out (by omega) (by omega) _ _⟩
  · have h0' : ((m : Int) == 0) = false := by simp; omega
    have hYp : Hid (0 < Y) := Lib.hid (by
      apply Decidable.byContradiction; intro hn0
      have e : Y = 0 := by omega
      have := (valB_iff.1 hb.out.symm).2
      rw [e, nlen_zero] at this; omega)
    rw [(d_ok (X := X) hYp.out).1, (d_ok hYp.out).2.1, (d_ok hYp.out).2.2]
    have cd := fun w hI hJ => div_any A D n c m d X Y (Lib.hid (valB_iff.1 ha.out.symm).2.symm) (Lib.hid (valB_iff.1 hb.out.symm).2.symm) hn hYp w hI hJ
    clear h0
    go_enter Try.func29, Try.ntmps29
    go_wp2_with (first
      | (go_at_call 46; first
        | ((with_reducible refine (cv _ (cel_four HI.out _ _ _ _)).mono ?_); rintro e w1 ⟨rfl, hb1⟩; have HB1 := Lib.hid (below_on (below_four _ _ _ _ _) hb1); have HI1 := Lib.hid ((cel_four HI.out _ _ _ _).below hb1); have HJ1 := Lib.hid ((cel_four HJ.out _ _ _ _).below hb1); have XA := Lib.hid ((bx4 _ _ _ _ _ _ _ _ _).1.below hb1); have XB := Lib.hid ((bx4 _ _ _ _ _ _ _ _ _).2.1.below hb1); have xb := XB.out.cell; have XR := Lib.hid ((bx4 _ _ _ _ _ _ _ _ _).2.2.1.below hb1); have XS := Lib.hid ((bx4 _ _ _ _ _ _ _ _ _).2.2.2.below hb1); clear hb1)
        | ((with_reducible refine (cu _ HJ1.out).mono ?_); rintro e w2 ⟨rfl, hb2⟩; have HB2 := Lib.hid (below_on HB1.out hb2); have HI2 := Lib.hid (HI1.out.below hb2); have HJ2 := Lib.hid (HJ1.out.below hb2); have xa2 := (XA.out.below hb2).cell; have xb2 := (XB.out.below hb2).cell; have XR2 := Lib.hid (XR.out.below hb2); have XS2 := Lib.hid (XS.out.below hb2); clear hb2))
      | (go_at_call 49; (with_reducible refine (cd _ HI2.out HJ2.out).mono ?_); rintro e w3 ⟨A1, n1, c1, A2, n2, c2, rfl, hN1, hN2, hw1, hw2, hb3⟩; have HB3 := Lib.hid (below_on HB2.out hb3); have XR3 := Lib.hid (XR2.out.below hb3); have XS3 := Lib.hid (XS2.out.below hb3); have xr := XR3.out.cell; have fr := XR3.out.free; have xs := XS3.out.cell; have fs := XS3.out.free; have N1 := Lib.hid hN1; have N2 := Lib.hid hN2; have W1 := Lib.hid hw1; have W2 := Lib.hid hw2; clear hb3 hN1 hN2 hw1 hw2))
    obtain ⟨y1, y2⟩ := set_two XR3.out XS3.out (by omega) (.slice A1 n1 c1) (.slice A2 n2 c2)
    refine bodyPost_ret (v := .tuple #[.agg #[.slice A1 n1 c1], .agg #[.slice A2 n2 c2], .int .i64 0]) (by simp [results, Try.results29, go_sem, y1, y2]) rfl ?_
    have l1 := XR2.out.lt
    have l2 := XS2.out.lt
    exact ⟨A1, n1, c1, A2, n2, c2, rfl, num_set (num_set N1.out (W1.out.far l1) _) (W1.out.far l2) _, num_set (num_set N2.out (W2.out.far l1) _) (W2.out.far l2) _, below_two_set HB3.out (by omega) (by omega) _ _⟩

def divE (n X m Y : Nat) : Int := dE (valB n X) (valB m Y) Y
def divQ (n X m Y : Nat) : Nat := dQ (valB n X) (valB m Y) X Y
def divR (n X m Y : Nat) : Nat := dR (valB n X) (valB m Y) X Y
theorem divmod_any (A D : Option Addr) (n c m d X Y : Nat) (hX : Hid (X < 4294967296 ^ n)) (hY : Hid (Y < 4294967296 ^ m)) (hn : n ≤ 9223372036854775807) (hm : m ≤ 9223372036854775807) (w : World) (hI : Cel .u32 w A (dg 4294967296 n X)) (hJ : Cel .u32 w D (dg 4294967296 m Y)) :
    Calls Try.prog 29 #[.agg #[.slice A n c], .agg #[.slice D m d]] w (DivR (divQ n X m Y) (divR n X m Y) (divE n X m Y) w) := by
  unfold divQ divR divE
  cases ha : valB n X with
  | false => rw [(d_no1 (X := X) (Y := Y)).1, d_no1.2.1, d_no1.2.2]; exact div_no1 A D n c m d X hX hn (Lib.hid ha.symm) w hI
  | true =>
    cases hb : valB m Y with
    | false => rw [(d_no2 (X := X) (Y := Y)).1, d_no2.2.1, d_no2.2.2]; exact div_no2 A D n c m d X Y hX hY hn hm (Lib.hid ha.symm) (Lib.hid hb.symm) w hI hJ
    | true => exact div_yes A D n c m d X Y hX hY (Lib.hid ha.symm) (Lib.hid hb.symm) w hI hJ

/-! ### GCD -/
def gE (a b : Bool) : Int := if a = true ∧ b = true then 0 else 2
def gV (a b : Bool) (X Y : Nat) : Nat := if a = true ∧ b = true then Nat.gcd X Y else 0
theorem g_no1 {b : Bool} {X Y : Nat} : gE false b = 2 ∧ gV false b X Y = 0 := ⟨if_neg (by simp), if_neg (by simp)⟩
theorem g_no2 {a : Bool} {X Y : Nat} : gE a false = 2 ∧ gV a false X Y = 0 := ⟨if_neg (by simp), if_neg (by simp)⟩
theorem g_ok {X Y : Nat} : gE true true = 0 ∧ gV true true X Y = Nat.gcd X Y := ⟨rfl, if_pos ⟨rfl, rfl⟩⟩

def gcdE (n X m Y : Nat) : Int := gE (valB n X) (valB m Y)
def gcdV (n X m Y : Nat) : Nat := gV (valB n X) (valB m Y) X Y
end Go.Proofs.Ytjblfmgiafdefaa.natJ

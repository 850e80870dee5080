/-
  Contracts of Sub, Mul, DivMod, GCD of nat.
-/
import Derived.Test.YtinceponggpioaaDoorNatG
import Derived.Deep.RegionHeld3
import Derived.Deep.LoopGhost
namespace Go.Proofs.YtinceponggpioaaDoor.natH
open Go.RowKit
open Go.Proofs.YtinceponggpioaaDoor.natM Go.Proofs.YtinceponggpioaaDoor.natA Go.Proofs.YtinceponggpioaaDoor.natB Go.Proofs.YtinceponggpioaaDoor.natC Go.Proofs.YtinceponggpioaaDoor.natD Go.Proofs.YtinceponggpioaaDoor.natE Go.Proofs.YtinceponggpioaaDoor.natF Go.Proofs.YtinceponggpioaaDoor.natG
set_option linter.unusedVariables false

/-! ### Sub -/
set_option maxHeartbeats 1000000 in
theorem sub_no1 (A D : Option Addr) (n c m d X : Nat) (hX : Hid (X < 4294967296 ^ n)) (hn : n ≤ 9223372036854775807) (ha : Hid (false = valB n X)) (w : World) (hI : Cel .u32 w A (dg 4294967296 n X)) :
    Calls Tryd.prog 56 #[.agg #[.slice A n c], .agg #[.slice D m d]] w (ResP 0 2 w) := by
  have HI := Lib.hid hI
  clear hI
  have cv := fun w hI => valid_any A n c X false hX ha hn w hI
  go_enter Tryd.func56, Tryd.ntmps56
  go_wp2_with (go_at_call 57; refine (cv _ (cel_three HI.out _ _ _)).mono ?_; rintro e w1 ⟨rfl, hb1⟩; have HB1 := Lib.hid (below_on (below_three _ _ _ _) hb1); have XR := Lib.hid ((bx3 _ _ _ _ _ _ _).2.2.below hb1); have xr := XR.out.cell; have fr := XR.out.free; clear hb1)
  have xs := set_same XR.out
  refine bodyPost_ret (v := .tuple #[.agg #[.slice none 0 0], .int .i64 2]) (by simp [results, Tryd.results56, go_sem, xs]) rfl ?_
  exact ⟨none, 0, 0, rfl, Num.nil _, HB1.out.setCell (by simp; omega) _⟩
set_option maxHeartbeats 1000000 in
theorem sub_no2 (A D : Option Addr) (n c m d X Y : Nat) (hX : Hid (X < 4294967296 ^ n)) (hY : Hid (Y < 4294967296 ^ m)) (hn : n ≤ 9223372036854775807) (hm : m ≤ 9223372036854775807) (ha : Hid (true = valB n X)) (hb : Hid (false = valB m Y)) (w : World) (hI : Cel .u32 w A (dg 4294967296 n X)) (hJ : Cel .u32 w D (dg 4294967296 m Y)) :
    Calls Tryd.prog 56 #[.agg #[.slice A n c], .agg #[.slice D m d]] w (ResP 0 2 w) := by
  have HI := Lib.hid hI
  have HJ := Lib.hid hJ
  clear hI hJ
  have cv := fun w hI => valid_any A n c X true hX ha hn w hI
  have cu := fun w hI => valid_any D m d Y false hY hb hm w hI
  go_enter Tryd.func56, Tryd.ntmps56
  go_wp2_with (go_at_call 57; first
    | ((with_reducible refine (cv _ (cel_three HI.out _ _ _)).mono ?_); rintro e w1 ⟨rfl, hb1⟩; have HB1 := Lib.hid (below_on (below_three _ _ _ _) hb1); have HJ1 := Lib.hid ((cel_three HJ.out _ _ _).below hb1); have XR := Lib.hid ((bx3 _ _ _ _ _ _ _).2.2.below hb1); have xb := ((bx3 _ _ _ _ _ _ _).2.1.below hb1).cell; clear hb1)
    | ((with_reducible refine (cu _ HJ1.out).mono ?_); rintro e w2 ⟨rfl, hb2⟩; have HB2 := Lib.hid (below_on HB1.out hb2); have XR2 := Lib.hid (XR.out.below hb2); have xr := XR2.out.cell; have fr := XR2.out.free; clear hb2))
  have xs := set_same XR2.out
  refine bodyPost_ret (v := .tuple #[.agg #[.slice none 0 0], .int .i64 2]) (by simp [results, Tryd.results56, go_sem, xs]) rfl ?_
  exact ⟨none, 0, 0, rfl, Num.nil _, HB2.out.setCell (by simp; omega) _⟩

def sE (a b : Bool) (X Y : Nat) : Int := if a = true ∧ b = true ∧ Y ≤ X then 0 else 2
def sV (a b : Bool) (X Y : Nat) : Nat := if a = true ∧ b = true ∧ Y ≤ X then X - Y else 0
theorem s_no1 {b : Bool} {X Y : Nat} : sE false b X Y = 2 ∧ sV false b X Y = 0 := ⟨if_neg (by simp), if_neg (by simp)⟩
theorem s_no2 {a : Bool} {X Y : Nat} : sE a false X Y = 2 ∧ sV a false X Y = 0 := ⟨if_neg (by simp), if_neg (by simp)⟩
theorem s_lt {a b : Bool} {X Y : Nat} (h : X < Y) : sE a b X Y = 2 ∧ sV a b X Y = 0 := ⟨if_neg (by omega), if_neg (by omega)⟩
theorem s_ok {X Y : Nat} (h : Y ≤ X) : sE true true X Y = 0 ∧ sV true true X Y = X - Y := ⟨if_pos ⟨rfl, rfl, h⟩, if_pos ⟨rfl, rfl, h⟩⟩

set_option maxHeartbeats 2000000 in
theorem sub_less (A D : Option Addr) (n c m d X Y : Nat) (hX : Hid (X < 4294967296 ^ n)) (hY : Hid (Y < 4294967296 ^ m)) (ha : Hid (true = valB n X)) (hb : Hid (true = valB m Y)) (h : Hid (X < Y)) (w : World) (hI : Cel .u32 w A (dg 4294967296 n X)) (hJ : Cel .u32 w D (dg 4294967296 m Y)) :
    Calls Tryd.prog 56 #[.agg #[.slice A n c], .agg #[.slice D m d]] w (ResP 0 2 w) := by
  have hn : n ≤ 64 := (valB_iff.1 ha.out.symm).1
  have hm : m ≤ 64 := (valB_iff.1 hb.out.symm).1
  have HI := Lib.hid hI
  have HJ := Lib.hid hJ
  clear hI hJ
  have cv := fun w hI => valid_any A n c X true hX ha (by omega) w hI
  have cu := fun w hI => valid_any D m d Y true hY hb (by omega) w hI
  have cc := fun w hI hJ => compare_any A D n c m d X Y (-1) hX hY (.inr ⟨(valB_iff.1 ha.out.symm).2, (valB_iff.1 hb.out.symm).2⟩) (Lib.hid (cmpI_lt h.out).symm) (by omega) (by omega) w hI hJ
  go_enter Tryd.func56, Tryd.ntmps56
  go_wp2_with (first
    | (go_at_call 57; first
      | ((with_reducible refine (cv _ (cel_three HI.out _ _ _)).mono ?_); rintro e w1 ⟨rfl, hb1⟩; have HB1 := Lib.hid (below_on (below_three _ _ _ _) hb1); have HI1 := Lib.hid ((cel_three HI.out _ _ _).below hb1); have HJ1 := Lib.hid ((cel_three HJ.out _ _ _).below hb1); have XA := Lib.hid ((bx3 _ _ _ _ _ _ _).1.below hb1); have XB := Lib.hid ((bx3 _ _ _ _ _ _ _).2.1.below hb1); have XR := Lib.hid ((bx3 _ _ _ _ _ _ _).2.2.below hb1); have xb := XB.out.cell; clear hb1)
      | ((with_reducible refine (cu _ HJ1.out).mono ?_); rintro e w2 ⟨rfl, hb2⟩; have HB2 := Lib.hid (below_on HB1.out hb2); have HI2 := Lib.hid (HI1.out.below hb2); have HJ2 := Lib.hid (HJ1.out.below hb2); have xa2 := (XA.out.below hb2).cell; have xb2 := (XB.out.below hb2).cell; have XR2 := Lib.hid (XR.out.below hb2); have xr := XR2.out.cell; have fr := XR2.out.free; clear hb2))
    | (go_at_call 61; refine (cc _ HI2.out HJ2.out).mono ?_; rintro e w' ⟨rfl, kk, rfl⟩))
  have xs := set_same (XR2.out.drewN kk)
  refine bodyPost_ret (v := .tuple #[.agg #[.slice none 0 0], .int .i64 2]) (by simp [results, Tryd.results56, go_sem, xs]) rfl ?_
  exact ⟨none, 0, 0, rfl, Num.nil _, (bel_drewN HB2.out _).setCell (by simp; omega) _⟩

set_option maxHeartbeats 400000 in
theorem subT_nil (A : Option Addr) (m cy : Nat) (w : World) : Calls Tryd.prog 82 #[.slice none 0 0, .slice A m cy] w fun e w' => e = .returned (.tuple #[]) ∧ w = w' := by
  go_enter Tryd.func82, Tryd.ntmps82
  go_wp2
  go_loop [4, 10] (fun c i => ∃ b : Nat, c = .int .u64 (b : Int) ∧ i = .int .i64 0) (fun _ _ => 0)
  case atStart => exact ⟨0, rfl, rfl⟩
  case round =>
    obtain ⟨b, rfl, rfl⟩ := hrel
    go_wp2
    go_end0
    exact ⟨rfl, rfl⟩
theorem zero_of {n X : Nat} (h : X < 4294967296 ^ n) (hn : n = 0) : X = 0 := by subst hn; simpa using h
theorem cel_none {K : IntKind} {w : World} {zs : List Nat} (h : Cel K w none zs) : zs.length = 0 := by
  apply Decidable.byContradiction; intro hn
  obtain ⟨_, _, e, _⟩ := h (by omega)
  cases e
theorem sub_nlen {X Y : Nat} (h : nlen 4294967296 X ≤ 64) : nlen 4294967296 (X - Y) ≤ 64 := Nat.le_trans (nlen_mono (by omega) (Nat.sub_le X Y)) h

set_option maxHeartbeats 2000000 in
theorem sub_nil (D : Option Addr) (c m d : Nat) (hb : Hid (true = valB m 0)) (w : World) (hJ : Cel .u32 w D (dg 4294967296 m 0)) :
    Calls Tryd.prog 56 #[.agg #[.slice none 0 c], .agg #[.slice D m d]] w (ResP 0 0 w) := by
  have hm : m ≤ 64 := (valB_iff.1 hb.out.symm).1
  have hY : Hid (0 < 4294967296 ^ m) := Lib.hid (Nat.pow_pos (by omega))
  have hX : Hid (0 < 4294967296 ^ 0) := Lib.hid (Nat.pow_pos (by omega))
  have ha : Hid (true = valB 0 0) := Lib.hid (valB_nil hX.out).symm
  have HJ := Lib.hid hJ
  clear hJ
  have cv := fun w => valid_any none 0 c 0 true hX ha (by omega) w (Cel.nil _ _ _)
  have cu := fun w hI => valid_any D m d 0 true hY hb (by omega) w hI
  have cc := fun w hJ => compare_any none D 0 c m d 0 0 0 hX hY (.inr ⟨(valB_iff.1 ha.out.symm).2, (valB_iff.1 hb.out.symm).2⟩) (Lib.hid (cmpI_eq rfl).symm) (by omega) (by omega) w (Cel.nil _ _ _) hJ
  have cf := fun w => fit_ok none 0 0 0 0 hX (Lib.hid (nlen_zero _).symm) (by omega) (by omega) (by omega) w (Cel.nil _ _ _)
  have cn := clone_nil c
  have cs := subT_nil D m d
  go_enter Tryd.func56, Tryd.ntmps56
  go_wp2_with (first
    | (go_at_call 57; first
      | ((with_reducible refine (cv _).mono ?_); rintro e w1 ⟨rfl, hb1⟩; have HB1 := Lib.hid (below_on (below_three _ _ _ _) hb1); have HJ1 := Lib.hid ((cel_three HJ.out _ _ _).below hb1); have XA := Lib.hid ((bx3 _ _ _ _ _ _ _).1.below hb1); have XB := Lib.hid ((bx3 _ _ _ _ _ _ _).2.1.below hb1); have XR := Lib.hid ((bx3 _ _ _ _ _ _ _).2.2.below hb1); have xb := XB.out.cell; clear hb1)
      | ((with_reducible refine (cu _ HJ1.out).mono ?_); rintro e w2 ⟨rfl, hb2⟩; have HB2 := Lib.hid (below_on HB1.out hb2); have HJ2 := Lib.hid (HJ1.out.below hb2); have xa2 := (XA.out.below hb2).cell; have xb2 := (XB.out.below hb2).cell; have XR2 := Lib.hid (XR.out.below hb2); clear hb2))
    | (go_at_call 61; refine (cc _ HJ2.out).mono ?_; rintro e w' ⟨rfl, kk, rfl⟩)
    | (go_at_call 59; refine (cn _).mono ?_; rintro e w' ⟨rfl, rfl⟩)
    | (go_at_call 82; refine (cs _).mono ?_; rintro e w' ⟨rfl, rfl⟩)
    | (go_at_call 70; refine (cf _).mono ?_; rintro e w3 ⟨rfl, hb3⟩; have XR3 := Lib.hid ((XR2.out.drewN kk).below hb3); have HB3 := Lib.hid (below_on (bel_drewN HB2.out kk) hb3); have xr := XR3.out.cell; have fr := XR3.out.free; clear hb3))
  have xs := set_same XR3.out
  refine bodyPost_ret (v := .tuple #[.agg #[.slice none 0 0], .int .i64 0]) (by simp [results, Tryd.results56, go_sem, xs]) rfl ?_
  exact ⟨none, 0, 0, rfl, Num.nil _, HB3.out.setCell (by simp; omega) _⟩

set_option maxHeartbeats 4000000 in
theorem sub_some (ad : Addr) (D : Option Addr) (n c m d X Y : Nat) (hX : Hid (X < 4294967296 ^ n)) (hY : Hid (Y < 4294967296 ^ m)) (ha : Hid (true = valB n X)) (hb : Hid (true = valB m Y)) (h : Hid (Y ≤ X)) (w : World) (hI : Cel .u32 w (some ad) (dg 4294967296 n X)) (hJ : Cel .u32 w D (dg 4294967296 m Y)) :
    Calls Tryd.prog 56 #[.agg #[.slice (some ad) n c], .agg #[.slice D m d]] w (ResP (X - Y) 0 w) := by
  have hn : n ≤ 64 := (valB_iff.1 ha.out.symm).1
  have hm : m ≤ 64 := (valB_iff.1 hb.out.symm).1
  have HI := Lib.hid hI
  have HJ := Lib.hid hJ
  clear hI hJ
  have cv := fun w hI => valid_any (some ad) n c X true hX ha (by omega) w hI
  have cu := fun w hI => valid_any D m d Y true hY hb (by omega) w hI
  obtain ⟨C, hC, hC0⟩ : ∃ C, Hid (C = cmpI X Y) ∧ 0 ≤ C := ⟨cmpI X Y, rfl, by unfold cmpI; rw [if_neg (by have := h.out; omega)]; split <;> omega⟩
  have cc := fun w hI hJ => compare_any (some ad) D n c m d X Y C hX hY (.inr ⟨(valB_iff.1 ha.out.symm).2, (valB_iff.1 hb.out.symm).2⟩) hC (by omega) (by omega) w hI hJ
  have hXY : X - Y < 4294967296 ^ n := by have := hX.out; omega
  have FT := Lib.hid fun (g cc : Nat) (hcc : n ≤ cc) => fit_any (some ⟨g, 0, none⟩) n cc (X - Y) (Lib.hid hXY) hcc (by omega)
  have h64 : nlen 4294967296 (X - Y) ≤ 64 := sub_nlen (by rw [(valB_iff.1 ha.out.symm).2]; exact hn)
  have HR := Lib.hid (r_ok h64)
  clear hXY h64
  go_enter Tryd.func56, Tryd.ntmps56
  go_wp2_with (first
    | (go_at_call 57; first
      | ((with_reducible refine (cv _ (cel_three HI.out _ _ _)).mono ?_); rintro e w1 ⟨rfl, hb1⟩; have HB1 := Lib.hid (below_on (below_three _ _ _ _) hb1); have HI1 := Lib.hid ((cel_three HI.out _ _ _).below hb1); have HJ1 := Lib.hid ((cel_three HJ.out _ _ _).below hb1); have XA := Lib.hid ((bx3 _ _ _ _ _ _ _).1.below hb1); have XB := Lib.hid ((bx3 _ _ _ _ _ _ _).2.1.below hb1); have XR := Lib.hid ((bx3 _ _ _ _ _ _ _).2.2.below hb1); have xb := XB.out.cell; clear hb1)
      | ((with_reducible refine (cu _ HJ1.out).mono ?_); rintro e w2 ⟨rfl, hb2⟩; have HB2 := Lib.hid (below_on HB1.out hb2); have HI2 := Lib.hid (HI1.out.below hb2); have HJ2 := Lib.hid (HJ1.out.below hb2); have XB2 := Lib.hid (XB.out.below hb2); have xa2 := (XA.out.below hb2).cell; have xb2 := XB2.out.cell; have XR2 := Lib.hid (XR.out.below hb2); have HL := Lib.hid (XR.out.below hb2).lt; clear hb2))
    | (go_at_call 61; refine (cc _ HI2.out HJ2.out).mono ?_; rintro e w' ⟨rfl, kk, rfl⟩)
    | (go_at_call 59; (with_reducible refine (clone_some ad n c X (by omega) _ (HI2.out.drewN kk)).mono ?_); rintro e w3 ⟨g, cp, rfl, hcp, hg, ho, hb3⟩; have HO3 := Lib.hid ho; have HB3 := Lib.hid (below_on (bel_drewN HB2.out kk) hb3); have HJ3 := Lib.hid ((HJ2.out.drewN kk).below hb3); have HG := Lib.hid (show w2.heap.size ≤ g from hg); have XR3 := Lib.hid ((XR2.out.drewN kk).below hb3); have xb3 := ((XB2.out.drewN kk).below hb3).cell; obtain ⟨FA, FN, FE, cf, hf⟩ := FT.out g cp hcp; have HF := Lib.hid hf; clear hb3 ho hg hf)
    | (go_at_call 82; (with_reducible refine (subT_any g 0 n cp m d X Y D (dg 4294967296 n X) (by rw [dg_len]; omega) (Lib.hid fun j hj => by rw [Nat.zero_add, dg_at hj]) hY h (by omega) (by omega) _ HO3.out HJ3.out (by have := HJ2.out.far (g := g) HG.out; rwa [dg_len] at this)).mono ?_); rintro e w4 ⟨rfl, ho, hg⟩; rw [put_full (by rw [dg_len, dg_len])] at ho; have HO4 := Lib.hid ho; have XR4 := Lib.hid (XR3.out.grown hg (by have := HL.out; have := HG.out; simp; omega)); have HB4 := Lib.hid (below_grown HB3.out hg (by have := HG.out; have := HB2.out.size; omega) HB3.out.size); clear ho hg)
    | (go_at_call 70; (with_reducible refine (cf _ HO4.out.all).mono ?_); rintro e w6 ⟨rfl, hb6⟩; have NF := Lib.hid (HF.out.2.2 _ (HO4.out.all.below hb6)); have XR6 := Lib.hid (XR4.out.below hb6); have HB6 := Lib.hid (below_on HB4.out hb6); have xr := XR6.out.cell; have fr := XR6.out.free; clear hb6))
  have xs := set_same XR6.out
  refine bodyPost_ret (v := .tuple #[.agg #[.slice FA FN FN], .int .i64 FE]) (by simp [results, Tryd.results56, go_sem, xs]) rfl ?_
  have NF2 := NF.out
  rw [HR.out.2] at NF2
  exact ⟨FA, FN, FN, by rw [HF.out.1, HR.out.1], num_set NF2 (far_fit HF.out.2.1 rfl (by have := HL.out; have := HG.out; omega)) _, HB6.out.setCell (by simp; omega) _⟩

def subE (n X m Y : Nat) : Int := sE (valB n X) (valB m Y) X Y
def subV (n X m Y : Nat) : Nat := sV (valB n X) (valB m Y) X Y
theorem sub_any (A D : Option Addr) (n c m d X Y : Nat) (hX : Hid (X < 4294967296 ^ n)) (hY : Hid (Y < 4294967296 ^ m)) (hn : n ≤ 9223372036854775807) (hm : m ≤ 9223372036854775807) (w : World) (hI : Cel .u32 w A (dg 4294967296 n X)) (hJ : Cel .u32 w D (dg 4294967296 m Y)) :
    Calls Tryd.prog 56 #[.agg #[.slice A n c], .agg #[.slice D m d]] w (ResP (subV n X m Y) (subE n X m Y) w) := by
  unfold subE subV
  cases ha : valB n X with
  | false => rw [s_no1.1, s_no1.2]; exact sub_no1 A D n c m d X hX hn (Lib.hid ha.symm) w hI
  | true =>
    cases hb : valB m Y with
    | false => rw [s_no2.1, s_no2.2]; exact sub_no2 A D n c m d X Y hX hY hn hm (Lib.hid ha.symm) (Lib.hid hb.symm) w hI hJ
    | true =>
      by_cases h : X < Y
      · rw [(s_lt h).1, (s_lt h).2]; exact sub_less A D n c m d X Y hX hY (Lib.hid ha.symm) (Lib.hid hb.symm) (Lib.hid h) w hI hJ
      · rw [(s_ok (by omega)).1, (s_ok (by omega)).2]
        cases A with
        | some ad => exact sub_some ad D n c m d X Y hX hY (Lib.hid ha.symm) (Lib.hid hb.symm) (Lib.hid (by omega)) w hI hJ
        | none =>
          have hn0 : n = 0 := by have := cel_none hI; rwa [dg_len] at this
          have hX0 := zero_of hX.out hn0
          have hY0 : Y = 0 := by omega
          subst hn0 hX0 hY0
          exact sub_nil D c m d (Lib.hid hb.symm) w hJ
end Go.Proofs.YtinceponggpioaaDoor.natH

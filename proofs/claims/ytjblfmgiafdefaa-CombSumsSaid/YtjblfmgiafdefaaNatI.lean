/-
  Contracts of Mul, DivMod, GCD of nat.
-/
import Derived.Test.YtjblfmgiafdefaaNatH
namespace Go.Proofs.Ytjblfmgiafdefaa.natI
open Go.RowKit
open Go.Proofs.Ytjblfmgiafdefaa.natM Go.Proofs.Ytjblfmgiafdefaa.natA Go.Proofs.Ytjblfmgiafdefaa.natB Go.Proofs.Ytjblfmgiafdefaa.natC Go.Proofs.Ytjblfmgiafdefaa.natD Go.Proofs.Ytjblfmgiafdefaa.natE Go.Proofs.Ytjblfmgiafdefaa.natF Go.Proofs.Ytjblfmgiafdefaa.natG Go.Proofs.Ytjblfmgiafdefaa.natH
set_option linter.unusedVariables false

/-! ### Mul -/
set_option maxHeartbeats 1000000 in
theorem mul_no1 (A D : Option Addr) (n c m d X : Nat) (hX : Hid (X < 4294967296 ^ n)) (hn : n ≤ 9223372036854775807) (ha : Hid (false = valB n X)) (w : World) (hI : Cel .u32 w A (dg 4294967296 n X)) :
    Calls Try.prog 28 #[.agg #[.slice A n c], .agg #[.slice D m d]] w (ResP 0 2 w) := by
  have HI := Lib.hid hI
  clear hI
  have cv := fun w hI => valid_any A n c X false hX ha hn w hI
  go_enter Try.func28, Try.ntmps28
  go_wp2_with (go_at_call 46; refine (cv _ (cel_three HI.out _ _ _)).mono ?_; rintro e w1 ⟨rfl, hb1⟩; have HB1 := Lib.hid (below_on (below_three _ _ _ _) hb1); have XR := Lib.hid ((bx3 _ _ _ _ _ _ _).2.2.below hb1); have xr := XR.out.cell; have fr := XR.out.free; clear hb1)
  have xs := set_same XR.out
  refine bodyPost_ret (v := .tuple #[.agg #[.slice none 0 0], .int .i64 2]) (by simp [results, Try.results28, go_sem, xs]) rfl ?_
  exact ⟨none, 0, 0, rfl, Num.nil _, HB1.out.setCell (by simp; omega) _⟩
set_option maxHeartbeats 1000000 in
theorem mul_no2 (A D : Option Addr) (n c m d X Y : Nat) (hX : Hid (X < 4294967296 ^ n)) (hY : Hid (Y < 4294967296 ^ m)) (hn : n ≤ 9223372036854775807) (hm : m ≤ 9223372036854775807) (ha : Hid (true = valB n X)) (hb : Hid (false = valB m Y)) (w : World) (hI : Cel .u32 w A (dg 4294967296 n X)) (hJ : Cel .u32 w D (dg 4294967296 m Y)) :
    Calls Try.prog 28 #[.agg #[.slice A n c], .agg #[.slice D m d]] w (ResP 0 2 w) := by
  have HI := Lib.hid hI
  have HJ := Lib.hid hJ
  clear hI hJ
  have cv := fun w hI => valid_any A n c X true hX ha hn w hI
  have cu := fun w hI => valid_any D m d Y false hY hb hm w hI
  go_enter Try.func28, Try.ntmps28
  go_wp2_with (go_at_call 46; first
    | ((with_reducible refine (cv _ (cel_three HI.out _ _ _)).mono ?_); rintro e w1 ⟨rfl, hb1⟩; have HB1 := Lib.hid (below_on (below_three _ _ _ _) hb1); have HJ1 := Lib.hid ((cel_three HJ.out _ _ _).below hb1); have XR := Lib.hid ((bx3 _ _ _ _ _ _ _).2.2.below hb1); have xb := ((bx3 _ _ _ _ _ _ _).2.1.below hb1).cell; clear hb1)
    | ((with_reducible refine (cu _ HJ1.out).mono ?_); rintro e w2 ⟨rfl, hb2⟩; have HB2 := Lib.hid (below_on HB1.out hb2); have XR2 := Lib.hid (XR.out.below hb2); have xr := XR2.out.cell; have fr := XR2.out.free; clear hb2))
  have xs := set_same XR2.out
  refine bodyPost_ret (v := .tuple #[.agg #[.slice none 0 0], .int .i64 2]) (by simp [results, Try.results28, go_sem, xs]) rfl ?_
  exact ⟨none, 0, 0, rfl, Num.nil _, HB2.out.setCell (by simp; omega) _⟩

theorem mul_lt {X Y n m : Nat} (hX : X < 4294967296 ^ n) (hY : Y < 4294967296 ^ m) : X * Y < 4294967296 ^ (n + m) := by
  rw [Nat.pow_add]
  rcases Nat.eq_zero_or_pos Y with rfl | h
  · rw [Nat.mul_zero]; exact Nat.mul_pos (Nat.pow_pos (by omega)) (by omega)
  · exact Nat.mul_lt_mul_of_lt_of_le hX (by omega) (by omega)

set_option maxHeartbeats 4000000 in
theorem mul_yes (A D : Option Addr) (n c m d X Y : Nat) (hX : Hid (X < 4294967296 ^ n)) (hY : Hid (Y < 4294967296 ^ m)) (ha : Hid (true = valB n X)) (hb : Hid (true = valB m Y)) (w : World) (hI : Cel .u32 w A (dg 4294967296 n X)) (hJ : Cel .u32 w D (dg 4294967296 m Y)) :
    Calls Try.prog 28 #[.agg #[.slice A n c], .agg #[.slice D m d]] w (ResP (rV true true (X * Y)) (rE true true (X * Y)) w) := by
  have hn : n ≤ 64 := (valB_iff.1 ha.out.symm).1
  have hm : m ≤ 64 := (valB_iff.1 hb.out.symm).1
  have HI := Lib.hid hI
  have HJ := Lib.hid hJ
  clear hI hJ
  have cv := fun w hI => valid_any A n c X true hX ha (by omega) w hI
  have cu := fun w hI => valid_any D m d Y true hY hb (by omega) w hI
  obtain ⟨S, hS⟩ : ∃ S, S = n + m := ⟨_, rfl⟩
  have eS : (n : Int) + (m : Int) = (S : Int) := by omega
  have hmk := make_u32 S (by omega)
  have FT := Lib.hid fun g => fit_any (some ⟨g, 0, none⟩) S S (X * Y) (Lib.hid (by rw [hS]; exact mul_lt hX.out hY.out)) (Nat.le_refl _) (by omega)
  have HS := Lib.hid hS
  have eM : (m : Int) + 1 = ((m + 1 : Nat) : Int) := by omega
  obtain ⟨M, hM⟩ : ∃ M, M = m + 1 := ⟨_, rfl⟩
  rw [← hM] at eM
  have HM := Lib.hid hM
  have hS64 : S ≤ 128 := by omega
  clear hS hM
  go_enter Try.func28, Try.ntmps28
  go_wp2_with (go_at_call 46; first
    | ((with_reducible refine (cv _ (cel_three HI.out _ _ _)).mono ?_); rintro e w1 ⟨rfl, hb1⟩; have HB1 := Lib.hid (below_on (below_three _ _ _ _) hb1); have HI1 := Lib.hid ((cel_three HI.out _ _ _).below hb1); have HJ1 := Lib.hid ((cel_three HJ.out _ _ _).below hb1); have XA := Lib.hid ((bx3 _ _ _ _ _ _ _).1.below hb1); have XB := Lib.hid ((bx3 _ _ _ _ _ _ _).2.1.below hb1); have XR := Lib.hid ((bx3 _ _ _ _ _ _ _).2.2.below hb1); have xb := XB.out.cell; clear hb1)
    | ((with_reducible refine (cu _ HJ1.out).mono ?_); rintro e w2 ⟨rfl, hb2⟩; have HB2 := Lib.hid (below_on HB1.out hb2); have HI2 := Lib.hid (HI1.out.below hb2); have HJ2 := Lib.hid (HJ1.out.below hb2); have xa2 := (XA.out.below hb2).cell; have xa3 := fun o => ((XA.out.below hb2).alloc o).cell; have XB2 := Lib.hid (XB.out.below hb2); have xb2 := XB2.out.cell; have XR2 := Lib.hid (XR.out.below hb2); clear hb2))
  have HL : Hid (w.heap.size + 1 + 1 < w2.heap.size) := Lib.hid XR2.out.lt
  obtain ⟨FA, FN, FE, cf, hf⟩ := FT.out w2.heap.size
  have HF := Lib.hid hf
  obtain ⟨w3, hw3⟩ : ∃ w3, w2.alloc (Obj.cells (List.map (fun x : Nat => Value.int IntKind.u32 (x : Int)) (dg 4294967296 S 0)).toArray 55) = w3 := ⟨_, rfl⟩
  have o3 : Own .u32 w3 w2.heap.size (dg 4294967296 S 0) := by rw [← hw3]; exact Own.new_ .u32 w2 55 _ rfl
  have bel : Below w2.heap.size w2 w3 := by rw [← hw3]; exact below_new _ _
  rw [hw3]
  clear hf FT cv cu XA XB XR xb HB1 HI1 HJ1 hmk hw3 xa2 xa3 xb2
  go_loopw [34] (fun i wr => ∃ k : Nat, k ≤ n ∧ i = .int .i64 (k : Int) ∧ Own .u32 wr w2.heap.size (dg 4294967296 S (X % 4294967296 ^ k * Y)) ∧ Below w2.heap.size w2 wr) (fun i _ => n - (intOf i).toNat)
  case atStart => exact ⟨0, by omega, rfl, by rw [Nat.pow_zero, Nat.mod_one, Nat.zero_mul]; exact o3, bel⟩
  case round =>
    clear o3 bel
    obtain ⟨k, hk, rfl, own, bel⟩ := hrel
    by_cases hlt : k < n
    · have celA := HI2.out.below bel
      have celD := HJ2.out.below bel
      have farD := HJ2.out.far (g := w2.heap.size) (Nat.le_refl _)
      rw [dg_len] at farD
      have xb3 := (XB2.out.below bel).cell
      obtain ⟨b, off, rfl, hc⟩ := celA.at_ (k := k) (by rw [dg_len]; exact hlt)
      rw [dg_at hlt] at hc
      obtain ⟨x, hx⟩ : ∃ x, x = X / 4294967296 ^ k % 4294967296 := ⟨_, rfl⟩
      rw [← hx] at hc
      obtain ⟨r1, r2, r3⟩ := row_step (B := 4294967296) (a := X) (b := Y) (o := k) (m := m) (by omega) hY.out
      rw [← hx] at r1 r3
      rw [← HM.out] at r1
      have hSk : k + M ≤ S := by have := HS.out; have := HM.out; omega
      have hx4 : x < 4294967296 := by rw [hx]; exact Nat.mod_lt _ (by omega)
      have ct := fun q => addT_any w2.heap.size k M M m d x (X % 4294967296 ^ k * Y / 4294967296 ^ k) Y D (dg 4294967296 S (X % 4294967296 ^ k * Y)) (by rw [dg_len]; exact hSk) (Lib.hid fun j hj => by rw [dg_at (by omega), Nat.div_div_eq_div_mul, ← Nat.pow_add]) hY hx4 (by omega) (by omega) (wr.drewN q) (own.drewN q) (celD.drewN q) farD
      rw [put_dg (by omega) hSk r1 (Nat.lt_of_lt_of_le r2 (Nat.pow_le_pow_right (by omega) (by have := HM.out; omega))), r3] at ct
      have CT := Lib.hid ct
      have HB := Lib.hid bel
      obtain ⟨P, hP⟩ : ∃ P, P = k + M := ⟨_, rfl⟩
      have eP : (k : Int) + (M : Int) = (P : Int) := by omega
      have eD : P - k = M := by omega
      have i0 : (0 : Int) ≤ (k : Int) := by omega
      have i1 : (k : Int) < (n : Int) := by omega
      have i2 : k ≤ P := by omega
      have i3 : P ≤ S := by omega
      have i4 : (k : Int) ≤ (P : Int) := by omega
      have i5 : (P : Int) ≤ (S : Int) := by omega
      have i6 : (0 : Int) ≤ (P : Int) := by omega
      have i7 : ¬ P = k := by have := HM.out; omega
      have wP : IntKind.i64.wrap (P : Int) = (P : Int) := IntWalk.i64_in _ (by omega)
      clear own bel celA celD farD hx r1 r2 r3 ct hP hSk
      go_wp2_with fail
      go_region_held3 (fun w' => w'.cell? ⟨w.heap.size + 1, 0, none⟩ = some (.slice D m d)) (go_keep)
        (first | (go_at_call 47; refine (CT.out 1).mono ?_; rintro e w5 ⟨rfl, ho, hg⟩; have HO5 := Lib.hid ho; have HB5 := Lib.hid (below_grown (bel_drewN HB.out _) hg (Nat.le_refl _) HB.out.size); have xb5 := (XB2.out.below HB5.out).cell; clear ho hg))
      go_wp2
      go_roundw
      case rel => exact ⟨k + 1, by omega, by go_num, HO5.out, HB5.out⟩
      case measure => simp [intOf]; omega
    · have e : k = n := by omega
      subst e
      rw [Nat.mod_eq_of_lt hX.out] at own
      have HO := Lib.hid own
      have HB := Lib.hid bel
      clear own bel
      go_wp2_with (go_at_call 48; (with_reducible refine (cf _ HO.out.all).mono ?_); rintro e w6 ⟨rfl, hb6⟩; have NF := Lib.hid (HF.out.2.2 _ (HO.out.all.below hb6)); have XR6 := Lib.hid ((XR2.out.below HB.out).below hb6); have HB6 := Lib.hid (below_on HB2.out (below_on HB.out hb6)); have xr := XR6.out.cell; have fr := XR6.out.free; clear hb6)
      have xs := set_same XR6.out
      refine bodyPost_ret (v := .tuple #[.agg #[.slice FA FN FN], .int .i64 FE]) (by simp [results, Try.results28, go_sem, xs]) rfl ?_
      exact ⟨FA, FN, FN, by rw [HF.out.1], num_set NF.out (far_fit HF.out.2.1 rfl (by have := HL.out; omega)) _, HB6.out.setCell (by simp; omega) _⟩
def mulE (n X m Y : Nat) : Int := rE (valB n X) (valB m Y) (X * Y)
def mulV (n X m Y : Nat) : Nat := rV (valB n X) (valB m Y) (X * Y)
theorem mul_any (A D : Option Addr) (n c m d X Y : Nat) (hX : Hid (X < 4294967296 ^ n)) (hY : Hid (Y < 4294967296 ^ m)) (hn : n ≤ 9223372036854775807) (hm : m ≤ 9223372036854775807) (w : World) (hI : Cel .u32 w A (dg 4294967296 n X)) (hJ : Cel .u32 w D (dg 4294967296 m Y)) :
    Calls Try.prog 28 #[.agg #[.slice A n c], .agg #[.slice D m d]] w (ResP (mulV n X m Y) (mulE n X m Y) w) := by
  unfold mulE mulV
  cases ha : valB n X with
  | false => rw [r_no1.1, r_no1.2]; exact mul_no1 A D n c m d X hX hn (Lib.hid ha.symm) w hI
  | true =>
    cases hb : valB m Y with
    | false => rw [r_no2.1, r_no2.2]; exact mul_no2 A D n c m d X Y hX hY hn hm (Lib.hid ha.symm) (Lib.hid hb.symm) w hI hJ
    | true => exact mul_yes A D n c m d X Y hX hY (Lib.hid ha.symm) (Lib.hid hb.symm) w hI hJ
end Go.Proofs.Ytjblfmgiafdefaa.natI

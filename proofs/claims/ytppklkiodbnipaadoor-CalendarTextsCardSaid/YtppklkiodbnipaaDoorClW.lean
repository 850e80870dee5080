/-
  Contracts of Format, of calendar and of the reference: the text of a time; new memory alone.
-/
import Derived.Test.YtppklkiodbnipaaDoorShelf
import Derived.Test.YtppklkiodbnipaaDoorClT
import Derived.Test.YtppklkiodbnipaaDoorClE
import Derived.Laws.IdiomStrings
import Derived.OwnWalk
import Derived.WalkSmall
import Derived.Lib.AppendIntMem
import Derived.Lib.SmallJoins
namespace Go.Proofs.YtppklkiodbnipaaDoor.clW
open Go.RowKit
open Go.Proofs.YtppklkiodbnipaaDoor.numT Go.Proofs.YtppklkiodbnipaaDoor.clM Go.Proofs.YtppklkiodbnipaaDoor.clA Go.Proofs.YtppklkiodbnipaaDoor.clB Go.Proofs.YtppklkiodbnipaaDoor.clC Go.Proofs.YtppklkiodbnipaaDoor.clD Go.Proofs.YtppklkiodbnipaaDoor.clE Go.Proofs.YtppklkiodbnipaaDoor.clX Go.Proofs.YtppklkiodbnipaaDoor.clT
set_option linter.unusedVariables false

abbrev Tab (w : World) : Prop := Lib.TabIs Tryd.prog w "internal/strconv.uint64pow10" .u64 Lib.pow10Tab
/-- what a walk carries: both tables, and that nothing old has changed -/
def Kt (w v : World) : Prop := Mon v ∧ Tab v ∧ Below w.heap.size w v
theorem Kt.start {w : World} (h : Mon w) (h2 : Tab w) : Kt w w := ⟨h, h2, Below.refl _ _⟩
theorem Kt.drew {w v : World} (h : Kt w v) (k : Nat) : Kt w (v.drewN k) := ⟨h.1, h.2.1, below_on h.2.2 (below_draw _ _)⟩
theorem Kt.on {w v u : World} (h : Kt w v) (hb : Below v.heap.size v u) : Kt w u := ⟨Joins.tab_stays gMon h.1 hb (Nat.le_refl _), Lib.tabBelow_of_tabIs h.2.1 u hb, below_on h.2.2 hb⟩
theorem Kt.mon {w v : World} (h : Kt w v) : Mon v := h.1
theorem Kt.tab {w v : World} (h : Kt w v) : Tab v := h.2.1
theorem Kt.bel {w v : World} (h : Kt w v) : Below w.heap.size w v := h.2.2
theorem below_grow (w : World) (k : Nat) (os : Array Obj) : Below w.heap.size w (Sort.grow (w.drewN k) os) :=
  ⟨rfl, rfl, rfl, by simp [Sort.grow], fun j hj => by simp [Sort.grow, Array.getElem?_append, hj]⟩
theorem itoa_nat (n : Nat) : Lib.itoa (n : Int) = Lib.decDigits n := by
  unfold Lib.itoa; rw [if_neg (by omega)]; simp
theorem str_eq {a b : ByteArray} (h : a.data.toList = b.data.toList) : a = b := by
  cases a with | mk a => cases b with | mk b => cases a; cases b; simp at h; rw [h]
theorem ret_str {a b : ByteArray} (h : a = b) : Ending.returned (.string a) = .returned (.string b) := by rw [h]
theorem ret_se {a b : ByteArray} {e : Int} (h : a = b) : Ending.returned (.tuple #[.string a, .int .i64 e]) = .returned (.tuple #[.string b, .int .i64 e]) := by rw [h]

set_option maxRecDepth 4000 in
set_option maxHeartbeats 400000 in
theorem nfmt_any (r : Nat) (hr : r < 1000000000) (X : ByteArray) (hX : Hid (X.data.toList = Lib.decDigits r)) (w : World) (htab : Tab w) :
    Calls Tryd.prog 37 #[.int .i64 (r : Int)] w fun e w' => e = .returned (.string X) ∧ Below w.heap.size w w' := by
  have ca := Tryd.strconv_Itoa (r : Int) (by omega) (by omega) w htab
  rw [itoa_nat, show (⟨(Lib.decDigits r).toArray⟩ : ByteArray) = X from str_eq (by rw [hX.out])] at ca
  clear htab hX
  go_enter Tryd.func37, Tryd.ntmps37
  go_wp2_with (go_at_call 46; refine ca.mono ?_; rintro e w' ⟨rfl, k, os, hw⟩; have HW := Lib.hid hw; clear hw)
  go_ret
  refine ⟨rfl, ?_⟩
  rw [HW.out]; exact below_grow w k os
set_option maxRecDepth 4000 in
set_option maxHeartbeats 400000 in
theorem two_any (n : Nat) (hn : n < 100) (X : ByteArray) (hX : Hid (X.data.toList = d2 n)) (w : World) (htab : Tab w) :
    Calls Tryd.prog 38 #[.int .i64 (n : Int)] w fun e w' => e = .returned (.string X) ∧ Below w.heap.size w w' := by
  by_cases h : n < 10
  · have h' : (n : Int) < 10 := by omega
    obtain ⟨Q, hQ⟩ : ∃ Q : ByteArray, Q = ⟨(Lib.decDigits n).toArray⟩ := ⟨_, rfl⟩
    have k1 := fun w h => nfmt_any n (by omega) Q (Lib.hid (by rw [hQ])) w h
    have HE : Hid (48 :: Q.data.toList = X.data.toList) := Lib.hid (by rw [hQ, hX.out]; exact dec_lo h)
    have zq : Q.size ≤ 20 := by rw [size_len, hQ]; show (Lib.decDigits n).length ≤ 20; rw [Lib.decDigits_one h]; simp
    clear hQ hX h
    go_enter Tryd.func38, Tryd.ntmps38
    go_wp2_with (go_at_call 37; (with_reducible refine (k1 _ htab).mono ?_); rintro e w1 ⟨rfl, hb1⟩)
    go_ret
    refine ⟨ret_str (str_eq ?_), hb1⟩
    rw [← HE.out]; simp
  · have h' : decide ((n : Int) < 10) = false := decide_eq_false (by omega)
    have k1 := fun w h' => nfmt_any n (by omega) X (Lib.hid (by rw [hX.out, dec_hi h hn])) w h'
    clear hX h
    go_enter Tryd.func38, Tryd.ntmps38
    go_wp2_with (go_at_call 37; (with_reducible refine (k1 _ htab).mono ?_); rintro e w1 ⟨rfl, hb1⟩)
    go_ret
    exact ⟨rfl, hb1⟩

/-- two bytes made into a string -/
theorem conv2 (W : World) (a b : Nat) (ha : a < 10) (hb : b < 10) (X : ByteArray) (hX : X = ⟨#[UInt8.ofNat (48 + a), UInt8.ofNat (48 + b)]⟩) :
    (convert 52 9 (.slice (some ⟨W.heap.size, 0, none⟩) 2 2)).run Tryd.prog (W.alloc (.cells #[.int .u8 (48 + (a : Int)), .int .u8 (48 + (b : Int))] 5)) =
      .ok (.string X) (W.alloc (.cells #[.int .u8 (48 + (a : Int)), .int .u8 (48 + (b : Int))] 5)) := by
  subst hX
  have := run_convert_bytes_back (P := Tryd.prog) (W.alloc (.cells #[.int .u8 (48 + (a : Int)), .int .u8 (48 + (b : Int))] 5)) 52 9 5 ⟨W.heap.size, 0, none⟩ 2 [UInt8.ofNat (48 + a), UInt8.ofNat (48 + b)] Tryd.underlying52 Tryd.underlying5 Tryd.underlying9 (fun j hj => by
    have e1 : (((UInt8.ofNat (48 + a)).toNat : Nat) : Int) = 48 + (a : Int) := by rw [UInt8.toNat_ofNat']; omega
    have e2 : (((UInt8.ofNat (48 + b)).toNat : Nat) : Int) = 48 + (b : Int) := by rw [UInt8.toNat_ofNat']; omega
    match j, hj with
    | 0, _ => simp [Addr.add, World.cell?_alloc_new]; omega
    | 1, _ => simp [Addr.add, World.cell?_alloc_new]; omega)
  exact this
set_option maxRecDepth 4000 in
theorem rtwo_any (n : Nat) (hn : n < 100) (X : ByteArray) (hX : Hid (X.data.toList = d2 n)) (w : World) :
    Calls Tryd.prog 39 #[.int .i64 (n : Int)] w fun e w' => e = .returned (.string X) ∧ Below w.heap.size w w' := by
  obtain ⟨a, ha⟩ : ∃ a, a = n / 10 := ⟨_, rfl⟩
  obtain ⟨b, hb⟩ : ∃ b, b = n % 10 := ⟨_, rfl⟩
  have e1 : (n : Int) / 10 = (a : Int) := by omega
  have e2 : (n : Int) % 10 = (b : Int) := by omega
  have a10 : a < 10 := by omega
  have b10 : b < 10 := by omega
  have cv := conv2 w a b a10 b10 X (str_eq (by rw [hX.out, ha, hb]; rfl))
  clear ha hb hX
  go_enter Tryd.func39, Tryd.ntmps39
  go_wp2_with fail
  go_ret
  exact ⟨rfl, below_al w _⟩

/-! ### Format -/
theorem cfmt_no (t : Int) (h : ¬ (0 ≤ t ∧ t ≤ 1073741824)) (w : World) :
    Calls Tryd.prog 20 #[.int .i64 t] w fun e w' => e = .returned (.tuple #[.string ⟨#[]⟩, .int .i64 2]) ∧ w = w' := by
  have c2 := fun w => istime_any t false (Lib.hid (decide_eq_false h).symm) w
  clear h
  go_enter Tryd.func20, Tryd.ntmps20
  go_wp2_with (go_at_call 33; (with_reducible refine (c2 _).mono ?_); rintro e w' ⟨rfl, rfl⟩)
  go_ret2
  exact ⟨rfl, rfl⟩
theorem rfmt_no (t : Int) (h : ¬ (0 ≤ t ∧ t ≤ 1073741824)) (w : World) :
    Calls Tryd.prog 21 #[.int .i64 t] w fun e w' => e = .returned (.tuple #[.string ⟨#[]⟩, .int .i64 2]) ∧ w = w' := by
  have c2 := fun w => ristime_any t false (Lib.hid (decide_eq_false h).symm) w
  clear h
  go_enter Tryd.func21, Tryd.ntmps21
  go_wp2_with (go_at_call 35; (with_reducible refine (c2 _).mono ?_); rintro e w' ⟨rfl, rfl⟩)
  go_ret2
  exact ⟨rfl, rfl⟩
theorem d2_size {X : ByteArray} {n : Nat} (h : X.data.toList = d2 n) : X.size = 2 := by rw [size_len, h]; rfl
set_option maxRecDepth 4000 in
set_option maxHeartbeats 1600000 in
theorem cfmt_ok (t Y M D h i : Nat) (ht : t ≤ 1073741824) (hI : Is (t / 1440) Y M D) (hh : h = t % 1440 / 60) (hi : i = t % 60) (X : ByteArray) (hX : Hid (X.data.toList = tx Y M D h i)) (w : World) (K0 : Kt w w) :
    Calls Tryd.prog 20 #[.int .i64 (t : Int)] w fun e w' => e = .returned (.tuple #[.string X, .int .i64 0]) ∧ Below w.heap.size w w' := by
  have c1 := fun w => istime_any (t : Int) true (Lib.hid (decide_eq_true ⟨by omega, by omega⟩).symm) w
  have b : t / 1440 ≤ 745654 := by omega
  have s := hI.small b
  have c2 := fun w h' => dateof_any (t / 1440) Y M D hI (by omega) w h'
  have y0 := hI.y0
  have m1 := hI.m1
  obtain ⟨r, hr⟩ : ∃ r, r = t % 1440 := ⟨_, rfl⟩
  have e1 : (t : Int) / 1440 = ((t / 1440 : Nat) : Int) := by omega
  have e2 : (t : Int) % 1440 = (r : Int) := by omega
  have e3 : (r : Int) / 60 = (h : Int) := by omega
  have e4 : (r : Int) % 60 = (i : Int) := by omega
  have h24 : h < 24 := by omega
  have i60 : i < 60 := by omega
  have r0 : r < 1440 := by omega
  obtain ⟨PY, hPY⟩ : ∃ Q : ByteArray, Q.data.toList = d2 (Y / 100) ++ d2 (Y % 100) := ⟨⟨(d2 (Y / 100) ++ d2 (Y % 100)).toArray⟩, rfl⟩
  obtain ⟨PM, hPM⟩ : ∃ Q : ByteArray, Q.data.toList = d2 M := ⟨⟨(d2 M).toArray⟩, rfl⟩
  obtain ⟨PD, hPD⟩ : ∃ Q : ByteArray, Q.data.toList = d2 D := ⟨⟨(d2 D).toArray⟩, rfl⟩
  obtain ⟨PH, hPH⟩ : ∃ Q : ByteArray, Q.data.toList = d2 h := ⟨⟨(d2 h).toArray⟩, rfl⟩
  obtain ⟨PI, hPI⟩ : ∃ Q : ByteArray, Q.data.toList = d2 i := ⟨⟨(d2 i).toArray⟩, rfl⟩
  have k1 := fun w h' => nfmt_any Y (by omega) PY (Lib.hid (by rw [hPY, dec_four (by omega) (by omega)])) w h'
  have k2 := fun w h' => two_any M (by omega) PM (Lib.hid hPM) w h'
  have k3 := fun w h' => two_any D (by omega) PD (Lib.hid hPD) w h'
  have k4 := fun w h' => two_any h (by omega) PH (Lib.hid hPH) w h'
  have k5 := fun w h' => two_any i (by omega) PI (Lib.hid hPI) w h'
  have z1 : PY.size = 4 := by rw [size_len, hPY]; rfl
  have z2 := d2_size hPM
  have z3 := d2_size hPD
  have z4 := d2_size hPH
  have z5 := d2_size hPI
  have HE : Hid (PY.data.toList ++ [45] ++ PM.data.toList ++ [45] ++ PD.data.toList ++ [32] ++ PH.data.toList ++ [58] ++ PI.data.toList = X.data.toList) := Lib.hid (by rw [hX.out, hPY, hPM, hPD, hPH, hPI]; rfl)
  clear hh hi hr hX hPY hPM hPD hPH hPI hI s
  generalize t / 1440 = q at *
  go_enter Tryd.func20, Tryd.ntmps20
  go_wp2_with (first
    | (go_at_call 33; (with_reducible refine (c1 _).mono ?_); rintro e w' ⟨rfl, rfl⟩)
    | (go_at_call 28; (with_reducible refine (c2 _ K0.mon).mono ?_); rintro e w1 ⟨rfl, d1, rfl⟩; have K1 := K0.drew d1)
    | (go_at_call 37; (with_reducible refine (k1 _ K1.tab).mono ?_); rintro e w2 ⟨rfl, b2⟩; have K2 := K1.on b2; clear b2)
    | (go_at_call 38; first
      | ((with_reducible refine (k2 _ K2.tab).mono ?_); rintro e w3 ⟨rfl, b3⟩; have K3 := K2.on b3; clear b3)
      | ((with_reducible refine (k3 _ K3.tab).mono ?_); rintro e w4 ⟨rfl, b4⟩; have K4 := K3.on b4; clear b4)
      | ((with_reducible refine (k4 _ K4.tab).mono ?_); rintro e w5 ⟨rfl, b5⟩; have K5 := K4.on b5; clear b5)
      | ((with_reducible refine (k5 _ K5.tab).mono ?_); rintro e w6 ⟨rfl, b6⟩; have K6 := K5.on b6; clear b6)))
  go_ret2
  refine ⟨ret_se (str_eq ?_), K6.bel⟩
  rw [← HE.out]; simp
set_option maxRecDepth 4000 in
set_option maxHeartbeats 1600000 in
theorem rfmt_ok (t Y M D h i : Nat) (ht : t ≤ 1073741824) (hI : Is (t / 1440) Y M D) (hh : h = t % 1440 / 60) (hi : i = t % 60) (X : ByteArray) (hX : Hid (X.data.toList = tx Y M D h i)) (w : World) :
    Calls Tryd.prog 21 #[.int .i64 (t : Int)] w fun e w' => e = .returned (.tuple #[.string X, .int .i64 0]) ∧ Below w.heap.size w w' := by
  have c1 := fun w => ristime_any (t : Int) true (Lib.hid (decide_eq_true ⟨by omega, by omega⟩).symm) w
  have b : t / 1440 ≤ 745654 := by omega
  have s := hI.small b
  have c2 := fun w => civil_any (t / 1440) Y M D hI (by omega) w
  have y0 := hI.y0
  have m1 := hI.m1
  obtain ⟨r, hr⟩ : ∃ r, r = t % 1440 := ⟨_, rfl⟩
  obtain ⟨u, hu⟩ : ∃ u, u = Y / 100 := ⟨_, rfl⟩
  obtain ⟨v, hv⟩ : ∃ v, v = Y % 100 := ⟨_, rfl⟩
  have e1 : (t : Int) / 1440 = ((t / 1440 : Nat) : Int) := by omega
  have e2 : (t : Int) % 1440 = (r : Int) := by omega
  have e3 : (r : Int) / 60 = (h : Int) := by omega
  have e4 : (t : Int) % 60 = (i : Int) := by omega
  have e5 : (Y : Int) / 100 = (u : Int) := by omega
  have e6 : (Y : Int) % 100 = (v : Int) := by omega
  have u41 : u ≤ 40 := by omega
  have v99 : v ≤ 99 := by omega
  have h24 : h < 24 := by omega
  have i60 : i < 60 := by omega
  have r0 : r < 1440 := by omega
  obtain ⟨PU, hPU⟩ : ∃ Q : ByteArray, Q.data.toList = d2 u := ⟨⟨(d2 u).toArray⟩, rfl⟩
  obtain ⟨PV, hPV⟩ : ∃ Q : ByteArray, Q.data.toList = d2 v := ⟨⟨(d2 v).toArray⟩, rfl⟩
  obtain ⟨PM, hPM⟩ : ∃ Q : ByteArray, Q.data.toList = d2 M := ⟨⟨(d2 M).toArray⟩, rfl⟩
  obtain ⟨PD, hPD⟩ : ∃ Q : ByteArray, Q.data.toList = d2 D := ⟨⟨(d2 D).toArray⟩, rfl⟩
  obtain ⟨PH, hPH⟩ : ∃ Q : ByteArray, Q.data.toList = d2 h := ⟨⟨(d2 h).toArray⟩, rfl⟩
  obtain ⟨PI, hPI⟩ : ∃ Q : ByteArray, Q.data.toList = d2 i := ⟨⟨(d2 i).toArray⟩, rfl⟩
  have k0 := fun w => rtwo_any u (by omega) PU (Lib.hid hPU) w
  have k1 := fun w => rtwo_any v (by omega) PV (Lib.hid hPV) w
  have k2 := fun w => rtwo_any M (by omega) PM (Lib.hid hPM) w
  have k3 := fun w => rtwo_any D (by omega) PD (Lib.hid hPD) w
  have k4 := fun w => rtwo_any h (by omega) PH (Lib.hid hPH) w
  have k5 := fun w => rtwo_any i (by omega) PI (Lib.hid hPI) w
  have z0 := d2_size hPU
  have z1 := d2_size hPV
  have z2 := d2_size hPM
  have z3 := d2_size hPD
  have z4 := d2_size hPH
  have z5 := d2_size hPI
  have HE : Hid (PU.data.toList ++ PV.data.toList ++ [45] ++ PM.data.toList ++ [45] ++ PD.data.toList ++ [32] ++ PH.data.toList ++ [58] ++ PI.data.toList = X.data.toList) := Lib.hid (by rw [hX.out, hPU, hPV, hPM, hPD, hPH, hPI, hu, hv]; rfl)
  clear hh hi hr hX hPU hPV hPM hPD hPH hPI hI s hu hv
  generalize t / 1440 = q at *
  have B0 := Below.refl w.heap.size w
  go_enter Tryd.func21, Tryd.ntmps21
  go_wp2_with (first
    | (go_at_call 35; (with_reducible refine (c1 _).mono ?_); rintro e w' ⟨rfl, rfl⟩)
    | (go_at_call 30; (with_reducible refine (c2 _).mono ?_); rintro e w1 ⟨rfl, b1⟩; have B1 := below_on B0 b1; clear b1)
    | (go_at_call 39; first
      | ((with_reducible refine (k0 _).mono ?_); rintro e w2 ⟨rfl, b2⟩; have B2 := below_on B1 b2; clear b2)
      | ((with_reducible refine (k1 _).mono ?_); rintro e w3 ⟨rfl, b3⟩; have B3 := below_on B2 b3; clear b3)
      | ((with_reducible refine (k2 _).mono ?_); rintro e w4 ⟨rfl, b4⟩; have B4 := below_on B3 b4; clear b4)
      | ((with_reducible refine (k3 _).mono ?_); rintro e w5 ⟨rfl, b5⟩; have B5 := below_on B4 b5; clear b5)
      | ((with_reducible refine (k4 _).mono ?_); rintro e w6 ⟨rfl, b6⟩; have B6 := below_on B5 b6; clear b6)
      | ((with_reducible refine (k5 _).mono ?_); rintro e w7 ⟨rfl, b7⟩; have B7 := below_on B6 b7; clear b7)))
  go_ret2
  refine ⟨ret_se (str_eq ?_), B7⟩
  rw [← HE.out]; simp
end Go.Proofs.YtppklkiodbnipaaDoor.clW

/-
  The walks of MoneySums, MoneySplits, MoneyOrders: whatever the amount and the list, the answer is true; new memory and draws alone.
-/
import Derived.Test.YtkblcnomjgocmaaDoorMonL
import Derived.Deep.LoopGhost
namespace Go.Proofs.YtkblcnomjgocmaaDoor.monQ
open Go.RowKit
open Go.Proofs.YtkblcnomjgocmaaDoor.numM Go.Proofs.YtkblcnomjgocmaaDoor.numA Go.Proofs.YtkblcnomjgocmaaDoor.numB Go.Proofs.YtkblcnomjgocmaaDoor.numT Go.Proofs.YtkblcnomjgocmaaDoor.numE Go.Proofs.YtkblcnomjgocmaaDoor.numG Go.Proofs.YtkblcnomjgocmaaDoor.monA Go.Proofs.YtkblcnomjgocmaaDoor.monM Go.Proofs.YtkblcnomjgocmaaDoor.monB Go.Proofs.YtkblcnomjgocmaaDoor.monC Go.Proofs.YtkblcnomjgocmaaDoor.monD Go.Proofs.YtkblcnomjgocmaaDoor.monX Go.Proofs.YtkblcnomjgocmaaDoor.monT Go.Proofs.YtkblcnomjgocmaaDoor.monU Go.Proofs.YtkblcnomjgocmaaDoor.monV Go.Proofs.YtkblcnomjgocmaaDoor.monW Go.Proofs.YtkblcnomjgocmaaDoor.monL
set_option linter.unusedVariables false

/-- the world but for draws -/
def Drawn (w wr : World) : Prop := ∃ j, wr = w.drewN j
theorem Drawn.refl (w : World) : Drawn w w := ⟨0, rfl⟩
theorem Drawn.ints {w wr : World} {A : Option Addr} {zs : List Int} (h : Drawn w wr) (hI : Ints w A zs) : Ints wr A zs := by
  obtain ⟨j, rfl⟩ := h; exact hI
theorem Drawn.more {w wr : World} (h : Drawn w wr) (k : Nat) : Drawn w (wr.drewN k) := by
  obtain ⟨j, rfl⟩ := h; exact ⟨j + k, by rw [World.drewN_drewN]⟩
theorem Drawn.below {w wr : World} (h : Drawn w wr) : Below w.heap.size w wr := by
  obtain ⟨j, rfl⟩ := h; exact below_draw w j
theorem quiet_l {P : Program} {f : FuncId} {args : Array Value} {w : World} {n : Nat} {v : Value}
    (h : ∀ w, Calls P f args w fun e w' => e = .returned v ∧ w = w') : Calls P f args (w.drewN n) fun e w'' => e = .returned v ∧ ∃ m, w'' = w.drewN m :=
  (h (w.drewN n)).mono fun _ _ ⟨he, hm⟩ => ⟨he, n, hm.symm⟩

set_option maxRecDepth 100000 in
set_option maxHeartbeats 1600000 in
theorem sums (A : Option Addr) (n c : Nat) (zs : List Int) (hn : Hid (zs.length = n)) (hN : n ≤ 9223372036854775807) (w : World) (hI : Ints w A zs) (h : Tab w) :
    Calls Tryd.prog 3 #[.slice A n c] w fun e w' => e = .returned (.bool true) ∧ Below w.heap.size w w' := by
  have HI := Lib.hid hI
  clear hI
  by_cases h5 : (5000 : Int) < (n : Int)
  · go_enter Tryd.func3, Tryd.ntmps3
    go_wp2_with (go_at_call 11; refine (awake_any _ h).mono ?_; rintro e w9 ⟨rfl, hb9⟩)
    go_ret
    exact ⟨rfl, hb9⟩
  · have h5' : decide ((5000 : Int) < (n : Int)) = false := decide_eq_false h5
    obtain ⟨V, hV⟩ : ∃ V, V = sumV zs n := ⟨_, rfl⟩
    obtain ⟨E, hE⟩ : ∃ E, E = sumE zs n := ⟨_, rfl⟩
    have c1 := fun w hI => sum_any A n c V E zs hn hN hV hE w hI
    have c2 := fun w hI => rsum_any A n c V E zs hn hN hV hE w hI
    clear hV hE
    go_enter Tryd.func3, Tryd.ntmps3
    go_wp2_with (first
      | (go_at_call 12; refine (c1 _ HI.out).mono ?_; rintro e w' ⟨rfl, rfl⟩)
      | (go_at_call 13; refine (c2 _ HI.out).mono ?_; rintro e w' ⟨rfl, rfl⟩))
    clear c1 c2
    go_loopw [32] (fun i wr => ∃ k : Nat, k ≤ n ∧ i = .int .i64 k ∧ Drawn w wr) (fun i _ => n - (intOf i).toNat)
    case atStart => exact ⟨0, by omega, rfl, Drawn.refl w⟩
    case round =>
      obtain ⟨k, hk, rfl, hD⟩ := hrel
      by_cases hlt : k < n
      · obtain ⟨b, o, rfl, hx⟩ := (hD.ints HI.out).at_ (k := k) (by rw [hn.out]; exact hlt)
        have i0 : (0 : Int) ≤ (k : Int) := by omega
        have i1 : (k : Int) < (n : Int) := by omega
        generalize at0 zs k = x at *
        obtain ⟨r, hr⟩ : ∃ r, r = vB x := ⟨_, rfl⟩
        have cv := fun w => valid_any x r hr w
        have cr := fun w => rvalid_any x r hr w
        clear hr
        go_wp2_with fail
        go_quiet ((first | (go_at_call 14; exact quiet_l cv) | (go_at_call 15; exact quiet_l cr)))
        go_wp2_with fail
        go_roundw
        case rel => exact ⟨k + 1, by omega, by go_num, hD.more _⟩
        case measure => simp [intOf]; omega
      · have e : k = n := by omega
        subst e
        have t1 := tab_on h hD.below
        have B1 := hD.below
        clear hD
        go_wp2_with (go_at_call 11; refine (awake_any _ t1).mono ?_; rintro e w9 ⟨rfl, hb9⟩)
        go_ret
        exact ⟨rfl, below_on B1 hb9⟩

set_option maxRecDepth 100000 in
set_option maxHeartbeats 1600000 in
/-- a split that is refused -/
theorem splits_err (m : Int) (A : Option Addr) (n c : Nat) (E : Int) (zs : List Int) (hn : Hid (zs.length = n)) (hN : n ≤ 9223372036854775807) (hE : Hid (E = spE m zs n)) (hne : (E != 0) = true) (w : World) (hI : Ints w A zs) (h : Tab w) :
    Calls Tryd.prog 6 #[.int .i64 m, .slice A n c] w fun e w' => e = .returned (.bool true) ∧ Below w.heap.size w w' := by
  have c1 := split_err m A n c E zs hn hN hE hne w hI
  clear hI
  go_enter Tryd.func6, Tryd.ntmps6
  go_wp2_with (first
    | (go_at_call 22; refine c1.mono ?_; rintro e w' ⟨rfl, rfl⟩)
    | (go_at_call 11; refine (awake_any _ h).mono ?_; rintro e w9 ⟨rfl, hb9⟩))
  go_ret
  exact ⟨rfl, hb9⟩

set_option maxRecDepth 100000 in
set_option maxHeartbeats 3200000 in
theorem splits_ok (m : Int) (A : Option Addr) (n c : Nat) (zs : List Int) (hn : Hid (zs.length = n)) (hE : Hid (spE m zs n = 0)) (w : World) (hI : Ints w A zs) (h : Tab w) :
    Calls Tryd.prog 6 #[.int .i64 m, .slice A n c] w fun e w' => e = .returned (.bool true) ∧ Below w.heap.size w w' := by
  have c1 := split_ok m A n c zs hn hE w hI
  obtain ⟨⟨m0, m1⟩, ⟨n1, n64⟩, hw, hav, eW, W0, W1⟩ := sp_inv hn.out hE.out
  have HW := Lib.hid hw
  have hpos : 0 < sm zs zs.length := by rw [hn.out]; exact W0
  have hlen : (parts m zs).length = n := by rw [parts_len m0 (fun j => (hw j).1) hpos]; exact hn.out
  have HLEN := Lib.hid hlen
  have HSUM : Hid (sm (parts m zs) n = m) := Lib.hid (by rw [← hn.out]; exact parts_sum m0 (fun j => (hw j).1) hpos)
  have HEA : Hid (∀ j, j < n → at0 (parts m zs) j = m * at0 zs j / sm zs n ∨ (at0 (parts m zs) j = m * at0 zs j / sm zs n + 1 ∧ 0 < m * at0 zs j % sm zs n)) := Lib.hid fun j hj => by
    have := parts_each m0 (fun j => (hw j).1) hpos (j := j) (by rw [hn.out]; exact hj)
    rw [hn.out] at this; exact this
  have HNN : Hid (∀ j, 0 ≤ at0 (parts m zs) j) := Lib.hid fun j => by
    by_cases hj : j < n
    · have hq : 0 ≤ m * at0 zs j / sm zs n := Int.ediv_nonneg (Int.mul_nonneg m0 (hw j).1) (by omega)
      rcases HEA.out j hj with e | ⟨e, _⟩ <;> omega
    · rw [at0_out (by omega)]; omega
  have hv := fun w => valid_any m true (Lib.hid (vB_yes m0 m1).symm) w
  obtain ⟨S, hS⟩ : ∃ S, S = sm zs n := ⟨_, rfl⟩
  have HS := Lib.hid hS
  have HI := Lib.hid hI
  have HT := Lib.hid h
  rw [← hS] at W0 W1 HEA
  clear hw hav eW hpos hlen hE hS hI h
  generalize parts m zs = ps at *
  have n64' : ¬ (64 : Int) < (n : Int) := by omega
  go_enter Tryd.func6, Tryd.ntmps6
  go_wp2_with (first
    | (go_at_call 22; refine c1.mono ?_; rintro e w1 ⟨g, rfl, hrow, hg, hb1⟩; have HR := Lib.hid (RowI.ints hrow); have HI1 := Lib.hid (ints_below HI.out hb1); have HB := Lib.hid hb1; clear hrow hb1 hg)
    | (go_at_call 14; refine (hv _).mono ?_; rintro e w' ⟨rfl, rfl⟩))
  clear c1 hv
  go_loop [7, 40] (fun t i => ∃ (k : Nat) (s : Int), k ≤ n ∧ i = .int .i64 k ∧ t = .int .i64 s ∧ 0 ≤ s ∧ s ≤ 1000000000000 * k ∧ Hid (s = sm zs k)) (fun _ i => n - (intOf i).toNat)
  case atStart => exact ⟨0, 0, Nat.zero_le _, rfl, rfl, by omega, by omega, rfl⟩
  case round =>
    obtain ⟨k, s, hk, rfl, rfl, s0, s1, hs⟩ := hrel
    by_cases hlt : k < n
    · obtain ⟨ad, off, rfl, hx⟩ := HI1.out.at_ (k := k) (by rw [hn.out]; exact hlt)
      obtain ⟨x0, x1⟩ := HW.out k
      have hs2 : Hid (s + at0 zs k = sm zs (k + 1)) := Lib.hid (by rw [hs.out]; rfl)
      generalize at0 zs k = x at *
      have cv := fun w => valid_any x true (Lib.hid (vB_yes x0 x1).symm) w
      go_wp2_with (go_at_call 14; refine (cv _).mono ?_; rintro e w' ⟨rfl, rfl⟩)
      go_round
      case rel => exact ⟨k + 1, s + x, by omega, by go_num, rfl, by omega, by omega, hs2⟩
      case measure => simp [intOf]; omega
    · have e : k = n := by omega
      subst e
      have eS : s = S := hs.out.trans HS.out.symm
      subst eS
      clear hs s1
      go_wp2
      go_loop [9, 59] (fun l i => ∃ (j : Nat) (s' : Int), j ≤ k ∧ i = .int .i64 j ∧ l = .int .i64 s' ∧ 0 ≤ s' ∧ s' ≤ m ∧ Hid (s' = m - sm ps j)) (fun _ i => k - (intOf i).toNat)
      case atStart => exact ⟨0, m, by omega, rfl, rfl, by omega, by omega, Lib.hid (by simp [sm])⟩
      case round =>
        obtain ⟨j, s', hj, rfl, rfl, p0, p1, hs'⟩ := hrel
        by_cases hlt : j < k
        · obtain ⟨ad, off, rfl, hx⟩ := HI1.out.at_ (k := j) (by rw [hn.out]; exact hlt)
          obtain ⟨b2, o2, eg, hy⟩ := HR.out.at_ (k := j) (by rw [HLEN.out]; exact hlt)
          obtain ⟨rfl, rfl⟩ : b2 = g ∧ o2 = 0 := by injection eg with eg; injection eg with e1 e2; exact ⟨e1.symm, e2.symm⟩
          rw [Nat.zero_add] at hy
          obtain ⟨x0, x1⟩ := HW.out j
          have x2 : at0 zs j ≤ s := by rw [HS.out]; exact sm_ge_one (fun j => (HW.out j).1) hlt
          have q1 := share_le m0 x2 W0
          have q0 : 0 ≤ m * at0 zs j / s := Int.ediv_nonneg (Int.mul_nonneg m0 x0) (by omega)
          have hT0 := Int.emod_nonneg (m * at0 zs j) (show s ≠ 0 by omega)
          obtain ⟨e1, e2, e3⟩ := md_int (c := s) m0 x0 W0 (by omega)
          have cd := fun w => (md_any m (at0 zs j) s (by omega) (by omega) (by omega) (by omega) (by omega) (by omega) w).2
          rw [e1, e2, e3] at cd
          have hea := HEA.out j hlt
          have hs2 : Hid (s' - at0 ps j = m - sm ps (j + 1)) := Lib.hid (by rw [hs'.out, sm]; omega)
          have hmono := sm_mono HNN.out (show j + 1 ≤ k by omega)
          rw [HSUM.out] at hmono
          have h0 := sm_nonneg HNN.out (j + 1)
          have b1 : 0 ≤ s' - at0 ps j := by have := hs2.out; omega
          have b2' : s' - at0 ps j ≤ m := by have := hs2.out; omega
          have pn := HNN.out j
          clear e1 e2 e3 hmono h0 eg hs'
          generalize m * at0 zs j / s = Q at *
          generalize m * at0 zs j % s = T at *
          generalize at0 zs j = x at *
          rcases hea with e | ⟨e, ht⟩
          · rw [e] at hy hs2 b1 b2' pn
            clear e
            go_wp2_with (go_at_call 25; refine (cd _).mono ?_; rintro e w' ⟨rfl, rfl⟩)
            go_round
            case rel => exact ⟨j + 1, s' - Q, by omega, by go_num, rfl, by omega, by omega, hs2⟩
            case measure => simp [intOf]; omega
          · rw [e] at hy hs2 b1 b2' pn
            clear e
            have t1 : ((Q + 1) != Q) = true := by rw [bne_iff_ne]; omega
            have t2 : (T == 0) = false := by rw [beq_eq_false_iff_ne]; omega
            go_wp2_with (go_at_call 25; refine (cd _).mono ?_; rintro e w' ⟨rfl, rfl⟩)
            go_round
            case rel => exact ⟨j + 1, s' - (Q + 1), by omega, by go_num, by go_num, by omega, by omega, hs2⟩
            case measure => simp [intOf]; omega
        · have e : j = k := by omega
          subst e
          have ez : s' = 0 := by have := hs'.out; have := HSUM.out; omega
          subst ez
          have t1 := tab_on HT.out HB.out
          clear hs'
          go_wp2_with (go_at_call 11; refine (awake_any _ t1).mono ?_; rintro e w9 ⟨rfl, hb9⟩)
          go_ret
          exact ⟨rfl, below_on HB.out hb9⟩
theorem splits (m : Int) (A : Option Addr) (n c : Nat) (zs : List Int) (hn : Hid (zs.length = n)) (hN : n ≤ 9223372036854775807) (w : World) (hI : Ints w A zs) (h : Tab w) :
    Calls Tryd.prog 6 #[.int .i64 m, .slice A n c] w fun e w' => e = .returned (.bool true) ∧ Below w.heap.size w w' := by
  by_cases hE : spE m zs n = 0
  · exact splits_ok m A n c zs hn (Lib.hid hE) w hI h
  · exact splits_err m A n c _ zs hn hN rfl (by simpa using hE) w hI h

set_option maxRecDepth 100000 in
set_option maxHeartbeats 1600000 in
theorem orders_err (m : Int) (A : Option Addr) (n c : Nat) (E : Int) (zs : List Int) (hn : Hid (zs.length = n)) (hN : n ≤ 9223372036854775807) (hE : Hid (E = spE m zs n)) (hne : (E != 0) = true) (w : World) (hI : Ints w A zs) (h : Tab w) :
    Calls Tryd.prog 8 #[.int .i64 m, .slice A n c] w fun e w' => e = .returned (.bool true) ∧ Below w.heap.size w w' := by
  have c1 := split_err m A n c E zs hn hN hE hne w hI
  clear hI
  go_enter Tryd.func8, Tryd.ntmps8
  go_wp2_with (first
    | (go_at_call 22; refine c1.mono ?_; rintro e w' ⟨rfl, rfl⟩)
    | (go_at_call 11; refine (awake_any _ h).mono ?_; rintro e w9 ⟨rfl, hb9⟩))
  go_ret
  exact ⟨rfl, hb9⟩

/-- what two parts of a split are to each other -/
theorem ord_cases {ps zs : List Int} {i k : Nat} (h : (at0 zs k < at0 zs i → at0 ps k ≤ at0 ps i) ∧ (at0 zs i = at0 zs k → i < k → at0 ps k ≤ at0 ps i ∧ at0 ps i ≤ at0 ps k + 1)) :
    (at0 zs k < at0 zs i ∧ at0 ps k ≤ at0 ps i) ∨ (at0 zs i = at0 zs k ∧ i < k ∧ at0 ps k ≤ at0 ps i ∧ at0 ps i ≤ at0 ps k + 1) ∨ (at0 zs i = at0 zs k ∧ ¬ i < k) ∨ at0 zs i < at0 zs k := by
  omega

set_option maxRecDepth 100000 in
set_option maxHeartbeats 6400000 in
theorem orders_ok (m : Int) (A : Option Addr) (n c : Nat) (zs : List Int) (hn : Hid (zs.length = n)) (hE : Hid (spE m zs n = 0)) (w : World) (hI : Ints w A zs) (h : Tab w) :
    Calls Tryd.prog 8 #[.int .i64 m, .slice A n c] w fun e w' => e = .returned (.bool true) ∧ Below w.heap.size w w' := by
  have c1 := split_ok m A n c zs hn hE w hI
  obtain ⟨⟨m0, m1⟩, ⟨n1, n64⟩, hw, hav, eW, W0, W1⟩ := sp_inv hn.out hE.out
  have hpos : 0 < sm zs zs.length := by rw [hn.out]; exact W0
  have hlen : (parts m zs).length = n := by rw [parts_len m0 (fun j => (hw j).1) hpos]; exact hn.out
  have HLEN := Lib.hid hlen
  have hsum : sm (parts m zs) n = m := by rw [← hn.out]; exact parts_sum m0 (fun j => (hw j).1) hpos
  have hnn : ∀ j, 0 ≤ at0 (parts m zs) j := fun j => by
    by_cases hj : j < n
    · have hq : 0 ≤ m * at0 zs j / sm zs zs.length := Int.ediv_nonneg (Int.mul_nonneg m0 (hw j).1) (by omega)
      rcases parts_each m0 (fun j => (hw j).1) hpos (j := j) (by rw [hn.out]; exact hj) with e | ⟨e, _⟩ <;> omega
    · rw [at0_out (by omega)]; omega
  have HNN : Hid (∀ j, j < n → 0 ≤ at0 (parts m zs) j ∧ at0 (parts m zs) j ≤ 1000000000000) := Lib.hid fun j hj => by
    have := sm_ge_one hnn hj
    have := hnn j
    omega
  have HORD : Hid (∀ i k, i < n → k < n → (at0 zs k < at0 zs i → at0 (parts m zs) k ≤ at0 (parts m zs) i) ∧ (at0 zs i = at0 zs k → i < k → at0 (parts m zs) k ≤ at0 (parts m zs) i ∧ at0 (parts m zs) i ≤ at0 (parts m zs) k + 1)) :=
    Lib.hid fun i k hi hk => parts_ord m0 (fun j => (hw j).1) hpos (by rw [hn.out]; exact hi) (by rw [hn.out]; exact hk)
  have HI := Lib.hid hI
  have HT := Lib.hid h
  clear hw hav eW hpos hlen hE hI h hsum hnn W0 W1
  generalize parts m zs = ps at *
  go_enter Tryd.func8, Tryd.ntmps8
  go_wp2_with (go_at_call 22; refine c1.mono ?_; rintro e w1 ⟨g, rfl, hrow, hg, hb1⟩; have HR := Lib.hid (RowI.ints hrow); have HI1 := Lib.hid (ints_below HI.out hb1); have HB := Lib.hid hb1; clear hrow hb1 hg)
  clear c1
  go_loopw [25] (fun i wr => ∃ k : Nat, k ≤ n ∧ i = .int .i64 k ∧ Drawn w1 wr) (fun i _ => n - (intOf i).toNat)
  case atStart => exact ⟨0, by omega, rfl, Drawn.refl w1⟩
  case round =>
    obtain ⟨i, hi, rfl, hD⟩ := hrel
    by_cases hlt : i < n
    · go_wp2_with fail
      obtain ⟨wo, hwo⟩ : ∃ wo : World, wo = wr := ⟨_, rfl⟩
      rw [← hwo]
      rw [← hwo] at hD
      clear hwo
      go_loopw [30] (fun l wr => ∃ k : Nat, k ≤ n ∧ l = .int .i64 k ∧ Drawn w1 wr) (fun l _ => n - (intOf l).toNat)
      case atStart => exact ⟨0, by omega, rfl, hD⟩
      case round =>
        obtain ⟨k, hk, rfl, hD2⟩ := hrel
        clear hD
        by_cases hlt2 : k < n
        · obtain ⟨ad, off, rfl, hx, hx2⟩ := (hD2.ints HI1.out).two (k := i) (g := k) (by rw [hn.out]; exact hlt) (by rw [hn.out]; exact hlt2)
          obtain ⟨b2, o2, eg, hy, hy2⟩ := (hD2.ints HR.out).two (k := i) (g := k) (by rw [HLEN.out]; exact hlt) (by rw [HLEN.out]; exact hlt2)
          obtain ⟨rfl, rfl⟩ : b2 = g ∧ o2 = 0 := by injection eg with eg; injection eg with e1 e2; exact ⟨e1.symm, e2.symm⟩
          rw [Nat.zero_add] at hy hy2
          have hc := ord_cases (HORD.out i k hlt hlt2)
          have hp := HNN.out i hlt
          have hq := HNN.out k hlt2
          have i0 : (0 : Int) ≤ (i : Int) := by omega
          have i1 : (i : Int) < (n : Int) := by omega
          have k0 : (0 : Int) ≤ (k : Int) := by omega
          have k1 : (k : Int) < (n : Int) := by omega
          have HD2 := Lib.hid hD2
          clear eg hD2
          generalize at0 zs i = a at *
          generalize at0 zs k = b at *
          generalize at0 ps i = p at *
          generalize at0 ps k = q at *
          obtain ⟨p0, p1⟩ := hp
          obtain ⟨q0, q1⟩ := hq
          rcases hc with ⟨h1, h2⟩ | ⟨h1, h2, h3, h4⟩ | ⟨h1, h2⟩ | h1
          · have t1 : decide (p < q) = false := by simp; omega
            have t2 : (a == b) = false := by rw [beq_eq_false_iff_ne]; omega
            clear h2
            go_wp2_with fail
            go_quiet (fail)
            go_wp2_with fail
            go_quiet (fail)
            go_wp2_with fail
            go_roundw
            case rel => exact ⟨k + 1, by omega, by go_num, by first | exact HD2.out.more _ | exact (HD2.out.more _).more _⟩
            case measure => simp [intOf]; omega
          · subst h1
            have t0 : decide (a < a) = false := by simp
            have t1 : decide (p < q) = false := by simp; omega
            have t2 : (a == a) = true := by simp
            have t3 : decide (i < k) = true := by simpa using h2
            have t5 : IntKind.i64.wrap (p - q) = p - q := IntWalk.i64_in _ (by omega)
            have t4 : decide (1 < p - q) = false := by simp; omega
            clear h3 h4
            go_wp2_with fail
            go_quiet (fail)
            go_wp2_with fail
            go_quiet (fail)
            go_wp2_with fail
            go_roundw
            case rel => exact ⟨k + 1, by omega, by go_num, by first | exact HD2.out.more _ | exact (HD2.out.more _).more _⟩
            case measure => simp [intOf]; omega
          · subst h1
            have t0 : decide (a < a) = false := by simp
            have t2 : (a == a) = true := by simp
            have t3 : decide (i < k) = false := by simpa using h2
            clear h2
            go_wp2_with fail
            go_quiet (fail)
            go_wp2_with fail
            go_quiet (fail)
            go_wp2_with fail
            go_roundw
            case rel => exact ⟨k + 1, by omega, by go_num, by first | exact HD2.out.more _ | exact (HD2.out.more _).more _⟩
            case measure => simp [intOf]; omega
          · have t0 : decide (b < a) = false := by simp; omega
            have t2 : (a == b) = false := by rw [beq_eq_false_iff_ne]; omega
            go_wp2_with fail
            go_quiet (fail)
            go_wp2_with fail
            go_quiet (fail)
            go_wp2_with fail
            go_roundw
            case rel => exact ⟨k + 1, by omega, by go_num, by first | exact HD2.out.more _ | exact (HD2.out.more _).more _⟩
            case measure => simp [intOf]; omega
        · have e : k = n := by omega
          subst e
          have HD2 := Lib.hid hD2
          clear hD2
          go_wp2_with fail
          go_roundw
          case rel => exact ⟨i + 1, by omega, by go_num, HD2.out⟩
          case measure => simp [intOf]; omega
    · have e : i = n := by omega
      subst e
      have t1 := tab_on (tab_on HT.out HB.out) hD.below
      have B1 := hD.below
      clear hD
      go_wp2_with (go_at_call 11; refine (awake_any _ t1).mono ?_; rintro e w9 ⟨rfl, hb9⟩)
      go_ret
      exact ⟨rfl, below_on (below_on HB.out B1) hb9⟩
theorem orders (m : Int) (A : Option Addr) (n c : Nat) (zs : List Int) (hn : Hid (zs.length = n)) (hN : n ≤ 9223372036854775807) (w : World) (hI : Ints w A zs) (h : Tab w) :
    Calls Tryd.prog 8 #[.int .i64 m, .slice A n c] w fun e w' => e = .returned (.bool true) ∧ Below w.heap.size w w' := by
  by_cases hE : spE m zs n = 0
  · exact orders_ok m A n c zs hn (Lib.hid hE) w hI h
  · exact orders_err m A n c _ zs hn hN rfl (by simpa using hE) w hI h
end Go.Proofs.YtkblcnomjgocmaaDoor.monQ

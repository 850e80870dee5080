/-
  What the laws share: one, is, few; the small examples.
-/
import Derived.Test.YtjbckijeobmoeaaNatGc
import Derived.Test.YtjbckijeobmoeaaNatUi
namespace Go.Proofs.Ytjbckijeobmoeaa.natLa
open Go.RowKit
open Go.Proofs.Ytjbckijeobmoeaa.natM Go.Proofs.Ytjbckijeobmoeaa.natA Go.Proofs.Ytjbckijeobmoeaa.natB Go.Proofs.Ytjbckijeobmoeaa.natC Go.Proofs.Ytjbckijeobmoeaa.natD Go.Proofs.Ytjbckijeobmoeaa.natE Go.Proofs.Ytjbckijeobmoeaa.natF Go.Proofs.Ytjbckijeobmoeaa.natG Go.Proofs.Ytjbckijeobmoeaa.natH Go.Proofs.Ytjbckijeobmoeaa.natI Go.Proofs.Ytjbckijeobmoeaa.natJ Go.Proofs.Ytjbckijeobmoeaa.natR Go.Proofs.Ytjbckijeobmoeaa.natS Go.Proofs.Ytjbckijeobmoeaa.natT Go.Proofs.Ytjbckijeobmoeaa.natX Go.Proofs.Ytjbckijeobmoeaa.natUi
set_option linter.unusedVariables false

theorem bel_alloc {w W : World} (h : Below w.heap.size w W) (o : Obj) : Below w.heap.size w (W.alloc o) := h.alloc h.size o
theorem len_one {v : Nat} (h0 : 0 < v) (h1 : v < 4294967296) : nlen 4294967296 v = 1 := nlen_eq (by omega) (by rw [Nat.pow_zero]; exact h0) (by simpa using h1)
theorem dig_one {v : Nat} (h1 : v < 4294967296) : v / 4294967296 ^ 0 % 4294967296 = v := by rw [Nat.pow_zero, Nat.div_one, Nat.mod_eq_of_lt h1]

def OneP (v : Nat) (w : World) (e : Ending) (w' : World) : Prop := ∃ A, e = .returned (.agg #[.slice A 1 1]) ∧ Cel .u32 w' A (dg 4294967296 1 v) ∧ Below w.heap.size w w'
set_option maxHeartbeats 1000000 in
theorem one_any (v : Nat) (h1 : v < 4294967296) (w : World) : Calls Try.prog 46 #[.int .u32 (v : Int)] w (OneP v w) := by
  go_enter Try.func46, Try.ntmps46
  go_wp2_with fail
  refine bodyPost_ret (v := .agg #[.slice (some ⟨w.heap.size + 1, 0, none⟩) 1 1]) (by simp [results, Try.results46, go_sem]) rfl ?_
  refine ⟨_, rfl, ?_, below_two _ _ _⟩
  have := Own.new_ .u32 (w.alloc (.cells #[.slice (some ⟨w.heap.size + 1, 0, none⟩) 1 1] 25)) 40 [v] rfl
  rw [show (w.alloc (.cells #[.slice (some ⟨w.heap.size + 1, 0, none⟩) 1 1] 25)).heap.size = w.heap.size + 1 by simp] at this
  have e : dg 4294967296 1 v = [v] := by simp only [dg]; rw [Nat.mod_eq_of_lt h1]
  rw [e]
  exact this.all

set_option maxHeartbeats 1000000 in
theorem is_any (A : Option Addr) (c v : Nat) (h1 : v < 4294967296) (w : World) (hI : Cel .u32 w A (dg 4294967296 1 v)) :
    Calls Try.prog 47 #[.agg #[.slice A 1 c], .int .u32 (v : Int)] w fun e w' => e = .returned (.bool true) ∧ Below w.heap.size w w' := by
  obtain ⟨b, off, rfl, hc⟩ := (hI.alloc (.cells #[.slice A 1 c] 25)).at_ (k := 0) (by rw [dg_len]; omega)
  rw [dg_at (by omega), dig_one h1, Nat.add_zero] at hc
  go_enter Try.func47, Try.ntmps47
  go_wp2_with fail
  go_ret
  exact ⟨rfl, below_new _ _⟩

set_option maxHeartbeats 1000000 in
theorem few_yes (A D : Option Addr) (n c m d : Nat) (hn : n ≤ 70) (hm : m ≤ 70) (w : World) :
    Calls Try.prog 28 #[.agg #[.slice A n c], .agg #[.slice D m d]] w fun e w' => e = .returned (.bool true) ∧ Below w.heap.size w w' := by
  have t1 : decide ((n : Int) ≤ 70) = true := by simp; omega
  have t2 : decide ((m : Int) ≤ 70) = true := by simp; omega
  go_enter Try.func28, Try.ntmps28
  go_wp2_with fail
  go_ret
  exact ⟨rfl, below_two _ _ _⟩
set_option maxHeartbeats 1000000 in
theorem few_no (A D : Option Addr) (n c m d : Nat) (h : 70 < n ∨ 70 < m) (w : World) :
    Calls Try.prog 28 #[.agg #[.slice A n c], .agg #[.slice D m d]] w fun e w' => e = .returned (.bool false) ∧ Below w.heap.size w w' := by
  by_cases hn : 70 < n
  · have t1 : decide ((n : Int) ≤ 70) = false := by simp; omega
    clear h
    go_enter Try.func28, Try.ntmps28
    go_wp2_with fail
    go_ret
    exact ⟨rfl, below_two _ _ _⟩
  · have t1 : decide ((n : Int) ≤ 70) = true := by simp; omega
    have t2 : decide ((m : Int) ≤ 70) = false := by simp; omega
    clear h hn
    go_enter Try.func28, Try.ntmps28
    go_wp2_with fail
    go_ret
    exact ⟨rfl, below_two _ _ _⟩

/-! ### the examples -/
theorem val1 {v : Nat} (h0 : 0 < v) (h1 : v < 4294967296) : valB 1 v = true := valB_iff.2 ⟨by omega, len_one h0 h1⟩
theorem lt1 {v : Nat} (h1 : v < 4294967296) : v < 4294967296 ^ 1 := by simpa using h1
theorem num_cel1 {w : World} {A : Option Addr} {n c v : Nat} (h : Num w A n c v) (h0 : 0 < v) (h1 : v < 4294967296) : n = 1 ∧ Cel .u32 w A (dg 4294967296 1 v) := by
  have e : n = 1 := h.1.trans (len_one h0 h1)
  subst e; exact ⟨rfl, h.2.2⟩
theorem cel_al {K : IntKind} {w : World} {A : Option Addr} {zs : List Nat} (h : Cel K w A zs) (o : Obj) : Cel K (w.alloc o) A zs := h.alloc o

/-- two small numbers, and what an operation makes of them -/
theorem ex_add (A D : Option Addr) (w : World) (hI : Cel .u32 w A (dg 4294967296 1 1)) (hJ : Cel .u32 w D (dg 4294967296 1 1)) :
    Calls Try.prog 20 #[.agg #[.slice A 1 1], .agg #[.slice D 1 1]] w fun e w' => ∃ A3 c3, e = .returned (.tuple #[.agg #[.slice A3 1 c3], .int .i64 0]) ∧ Cel .u32 w' A3 (dg 4294967296 1 2) ∧ Below w.heap.size w w' := by
  have c := add_any A D 1 1 1 1 1 1 (Lib.hid (lt1 (by omega))) (Lib.hid (lt1 (by omega))) (by omega) (by omega) w hI hJ
  have e1 : addE 1 1 1 1 = 0 ∧ addV 1 1 1 1 = 2 := by
    unfold addE addV
    rw [val1 (by omega) (by omega)]
    exact r_ok (by rw [len_one (by omega) (by omega)]; omega)
  rw [e1.1, e1.2] at c
  refine c.mono ?_
  rintro e w' ⟨A3, n3, c3, rfl, hn, hb⟩
  obtain ⟨rfl, hc⟩ := num_cel1 hn (by omega) (by omega)
  exact ⟨A3, c3, rfl, hc, hb⟩
theorem ex_mul (A D : Option Addr) (w : World) (hI : Cel .u32 w A (dg 4294967296 1 3)) (hJ : Cel .u32 w D (dg 4294967296 1 5)) :
    Calls Try.prog 25 #[.agg #[.slice A 1 1], .agg #[.slice D 1 1]] w fun e w' => ∃ A3 c3, e = .returned (.tuple #[.agg #[.slice A3 1 c3], .int .i64 0]) ∧ Cel .u32 w' A3 (dg 4294967296 1 15) ∧ Below w.heap.size w w' := by
  have c := mul_any A D 1 1 1 1 3 5 (Lib.hid (lt1 (by omega))) (Lib.hid (lt1 (by omega))) (by omega) (by omega) w hI hJ
  have e1 : mulE 1 3 1 5 = 0 ∧ mulV 1 3 1 5 = 15 := by
    unfold mulE mulV
    rw [val1 (by omega) (by omega), val1 (by omega) (by omega)]
    exact r_ok (by rw [len_one (by omega) (by omega)]; omega)
  rw [e1.1, e1.2] at c
  refine c.mono ?_
  rintro e w' ⟨A3, n3, c3, rfl, hn, hb⟩
  obtain ⟨rfl, hc⟩ := num_cel1 hn (by omega) (by omega)
  exact ⟨A3, c3, rfl, hc, hb⟩
theorem ex_div (A D : Option Addr) (w : World) (hI : Cel .u32 w A (dg 4294967296 1 7)) (hJ : Cel .u32 w D (dg 4294967296 1 2)) :
    Calls Try.prog 30 #[.agg #[.slice A 1 1], .agg #[.slice D 1 1]] w fun e w' => ∃ A3 c3 A4 c4, e = .returned (.tuple #[.agg #[.slice A3 1 c3], .agg #[.slice A4 1 c4], .int .i64 0]) ∧ Cel .u32 w' A3 (dg 4294967296 1 3) ∧ Cel .u32 w' A4 (dg 4294967296 1 1) ∧ Below w.heap.size w w' := by
  have c := divmod_any A D 1 1 1 1 7 2 (Lib.hid (lt1 (by omega))) (Lib.hid (lt1 (by omega))) (by omega) (by omega) w hI hJ
  have e1 : divE 1 7 1 2 = 0 ∧ divQ 1 7 1 2 = 3 ∧ divR 1 7 1 2 = 1 := by
    unfold divE divQ divR
    rw [val1 (by omega) (by omega), val1 (by omega) (by omega)]
    exact d_ok (by omega)
  rw [e1.1, e1.2.1, e1.2.2] at c
  refine c.mono ?_
  rintro e w' ⟨A3, n3, c3, A4, n4, c4, rfl, hn, hn2, hb⟩
  obtain ⟨rfl, hc⟩ := num_cel1 hn (by omega) (by omega)
  obtain ⟨rfl, hc2⟩ := num_cel1 hn2 (by omega) (by omega)
  exact ⟨A3, c3, A4, c4, rfl, hc, hc2, hb⟩
theorem ex_gcd (A D : Option Addr) (w : World) (hI : Cel .u32 w A (dg 4294967296 1 4)) (hJ : Cel .u32 w D (dg 4294967296 1 6)) :
    Calls Try.prog 33 #[.agg #[.slice A 1 1], .agg #[.slice D 1 1]] w fun e w' => ∃ A3 c3, e = .returned (.tuple #[.agg #[.slice A3 1 c3], .int .i64 0]) ∧ Cel .u32 w' A3 (dg 4294967296 1 2) ∧ Below w.heap.size w w' := by
  have c := gcd_any A D 1 1 1 1 4 6 (Lib.hid (lt1 (by omega))) (Lib.hid (lt1 (by omega))) (by omega) (by omega) (by omega) (by omega) w hI hJ
  have e1 : gcdE 1 4 1 6 = 0 ∧ gcdV 1 4 1 6 = 2 := by
    unfold gcdE gcdV
    rw [val1 (by omega) (by omega), val1 (by omega) (by omega)]
    exact g_ok
  rw [e1.1, e1.2] at c
  refine c.mono ?_
  rintro e w' ⟨A3, n3, c3, rfl, hn, hb⟩
  obtain ⟨rfl, hc⟩ := num_cel1 hn (by omega) (by omega)
  exact ⟨A3, c3, rfl, hc, hb⟩

set_option maxHeartbeats 2000000 in
theorem summed_any (w : World) : Calls Try.prog 24 #[] w fun e w' => e = .returned (.bool true) ∧ Below w.heap.size w w' := by
  have c1 : ∀ w, Calls Try.prog 46 #[.int .u32 1] w (OneP 1 w) := fun w => one_any 1 (by omega) w
  have c2 : ∀ w, Calls Try.prog 46 #[.int .u32 1] w (OneP 1 w) := fun w => one_any 1 (by omega) w
  have k1 : ∀ A c w, Cel .u32 w A (dg 4294967296 1 2) → Calls Try.prog 47 #[.agg #[.slice A 1 c], .int .u32 2] w fun e w1 => e = .returned (.bool true) ∧ Below w.heap.size w w1 := fun A c w h => is_any A c 2 (by omega) w h
  go_enter Try.func24, Try.ntmps24
  go_wp2_with (first
    | (go_at_call 46; first
      | ((with_reducible refine (c2 w3).mono ?_); rintro e w4 ⟨A2, rfl, h2, hb4⟩; have H2 := Lib.hid h2; have H12 := Lib.hid (H1.out.below hb4); have B4 := Lib.hid (below_on B3.out hb4); clear h2 hb4)
      | ((with_reducible refine (c1 _).mono ?_); rintro e w3 ⟨A1, rfl, h1, hb3⟩; have H1 := Lib.hid h1; have B3 := Lib.hid hb3; clear h1 hb3))
    | (go_at_call 20; (with_reducible refine (ex_add A1 A2 w4 H12.out H2.out).mono ?_); rintro e w5 ⟨A3, c3, rfl, hr, hb5⟩; have R5 := Lib.hid hr; have B5 := Lib.hid (below_on B4.out hb5); clear hr hb5)
    | (go_at_call 47; ((with_reducible refine (k1 A3 c3 _ (cel_al R5.out _)).mono ?_); rintro e w6 ⟨rfl, hb6⟩; have B6 := Lib.hid (below_on (bel_alloc B5.out _) hb6); clear hb6)))
  go_ret
  exact ⟨rfl, B6.out⟩
set_option maxHeartbeats 2000000 in
theorem multiplied_any (w : World) : Calls Try.prog 27 #[] w fun e w' => e = .returned (.bool true) ∧ Below w.heap.size w w' := by
  have c1 : ∀ w, Calls Try.prog 46 #[.int .u32 3] w (OneP 3 w) := fun w => one_any 3 (by omega) w
  have c2 : ∀ w, Calls Try.prog 46 #[.int .u32 5] w (OneP 5 w) := fun w => one_any 5 (by omega) w
  have k1 : ∀ A c w, Cel .u32 w A (dg 4294967296 1 15) → Calls Try.prog 47 #[.agg #[.slice A 1 c], .int .u32 15] w fun e w1 => e = .returned (.bool true) ∧ Below w.heap.size w w1 := fun A c w h => is_any A c 15 (by omega) w h
  go_enter Try.func27, Try.ntmps27
  go_wp2_with (first
    | (go_at_call 46; first
      | ((with_reducible refine (c1 _).mono ?_); rintro e w3 ⟨A1, rfl, h1, hb3⟩; have H1 := Lib.hid h1; have B3 := Lib.hid hb3; clear h1 hb3)
      | ((with_reducible refine (c2 _).mono ?_); rintro e w4 ⟨A2, rfl, h2, hb4⟩; have H2 := Lib.hid h2; have H12 := Lib.hid (H1.out.below hb4); have B4 := Lib.hid (below_on B3.out hb4); clear h2 hb4))
    | (go_at_call 25; (with_reducible refine (ex_mul A1 A2 w4 H12.out H2.out).mono ?_); rintro e w5 ⟨A3, c3, rfl, hr, hb5⟩; have R5 := Lib.hid hr; have B5 := Lib.hid (below_on B4.out hb5); clear hr hb5)
    | (go_at_call 47; ((with_reducible refine (k1 A3 c3 _ (cel_al R5.out _)).mono ?_); rintro e w6 ⟨rfl, hb6⟩; have B6 := Lib.hid (below_on (bel_alloc B5.out _) hb6); clear hb6)))
  go_ret
  exact ⟨rfl, B6.out⟩
set_option maxHeartbeats 2000000 in
theorem divided_any (w : World) : Calls Try.prog 29 #[] w fun e w' => e = .returned (.bool true) ∧ Below w.heap.size w w' := by
  have c1 : ∀ w, Calls Try.prog 46 #[.int .u32 7] w (OneP 7 w) := fun w => one_any 7 (by omega) w
  have c2 : ∀ w, Calls Try.prog 46 #[.int .u32 2] w (OneP 2 w) := fun w => one_any 2 (by omega) w
  have k1 : ∀ A c w, Cel .u32 w A (dg 4294967296 1 3) → Calls Try.prog 47 #[.agg #[.slice A 1 c], .int .u32 3] w fun e w1 => e = .returned (.bool true) ∧ Below w.heap.size w w1 := fun A c w h => is_any A c 3 (by omega) w h
  have k2 : ∀ A c w, Cel .u32 w A (dg 4294967296 1 1) → Calls Try.prog 47 #[.agg #[.slice A 1 c], .int .u32 1] w fun e w1 => e = .returned (.bool true) ∧ Below w.heap.size w w1 := fun A c w h => is_any A c 1 (by omega) w h
  go_enter Try.func29, Try.ntmps29
  go_wp2_with (first
    | (go_at_call 46; first
      | ((with_reducible refine (c1 _).mono ?_); rintro e w3 ⟨A1, rfl, h1, hb3⟩; have H1 := Lib.hid h1; have B3 := Lib.hid hb3; clear h1 hb3)
      | ((with_reducible refine (c2 _).mono ?_); rintro e w4 ⟨A2, rfl, h2, hb4⟩; have H2 := Lib.hid h2; have H12 := Lib.hid (H1.out.below hb4); have B4 := Lib.hid (below_on B3.out hb4); clear h2 hb4))
    | (go_at_call 30; (with_reducible refine (ex_div A1 A2 w4 H12.out H2.out).mono ?_); rintro e w5 ⟨A3, c3, A4, c4, rfl, hr, hr2, hb5⟩; have R5 := Lib.hid hr; have T5 := Lib.hid hr2; have B5 := Lib.hid (below_on B4.out hb5); clear hr hr2 hb5)
    | (go_at_call 47; first
      | ((with_reducible refine (k1 A3 c3 _ (cel_al (cel_al R5.out _) _)).mono ?_); rintro e w6 ⟨rfl, hb6⟩; have B6 := Lib.hid (below_on (bel_alloc (bel_alloc B5.out _) _) hb6); have T6 := Lib.hid ((cel_al (cel_al T5.out _) _).below hb6); have xt := ((bx2 _ _ _ _ _).2.below hb6).cell; clear hb6)
      | ((with_reducible refine (k2 A4 c4 _ T6.out).mono ?_); rintro e w7 ⟨rfl, hb7⟩; have B7 := Lib.hid (below_on B6.out hb7); clear hb7)))
  go_ret
  exact ⟨rfl, B7.out⟩
set_option maxHeartbeats 2000000 in
theorem common_any (w : World) : Calls Try.prog 32 #[] w fun e w' => e = .returned (.bool true) ∧ Below w.heap.size w w' := by
  have c1 : ∀ w, Calls Try.prog 46 #[.int .u32 4] w (OneP 4 w) := fun w => one_any 4 (by omega) w
  have c2 : ∀ w, Calls Try.prog 46 #[.int .u32 6] w (OneP 6 w) := fun w => one_any 6 (by omega) w
  have k1 : ∀ A c w, Cel .u32 w A (dg 4294967296 1 2) → Calls Try.prog 47 #[.agg #[.slice A 1 c], .int .u32 2] w fun e w1 => e = .returned (.bool true) ∧ Below w.heap.size w w1 := fun A c w h => is_any A c 2 (by omega) w h
  go_enter Try.func32, Try.ntmps32
  go_wp2_with (first
    | (go_at_call 46; first
      | ((with_reducible refine (c1 _).mono ?_); rintro e w3 ⟨A1, rfl, h1, hb3⟩; have H1 := Lib.hid h1; have B3 := Lib.hid hb3; clear h1 hb3)
      | ((with_reducible refine (c2 _).mono ?_); rintro e w4 ⟨A2, rfl, h2, hb4⟩; have H2 := Lib.hid h2; have H12 := Lib.hid (H1.out.below hb4); have B4 := Lib.hid (below_on B3.out hb4); clear h2 hb4))
    | (go_at_call 33; (with_reducible refine (ex_gcd A1 A2 w4 H12.out H2.out).mono ?_); rintro e w5 ⟨A3, c3, rfl, hr, hb5⟩; have R5 := Lib.hid hr; have B5 := Lib.hid (below_on B4.out hb5); clear hr hb5)
    | (go_at_call 47; ((with_reducible refine (k1 A3 c3 _ (cel_al R5.out _)).mono ?_); rintro e w6 ⟨rfl, hb6⟩; have B6 := Lib.hid (below_on (bel_alloc B5.out _) hb6); clear hb6)))
  go_ret
  exact ⟨rfl, B6.out⟩

set_option maxHeartbeats 2000000 in
theorem formed_any (w : World) : Calls Try.prog 19 #[] w fun e w' => e = .returned (.bool true) ∧ Below w.heap.size w w' := by
  have c1 : ∀ w, Calls Try.prog 12 #[.int .u64 7] w (OfP 7 w) := fun w => of_any 7 (by omega) w
  have hu : uOk 1 7 = true ∧ uV 1 7 = 7 := u_ok (val1 (by omega) (by omega)) (by omega)
  have c2 : ∀ A c w, Cel .u32 w A (dg 4294967296 1 7) → Calls Try.prog 10 #[.agg #[.slice A 1 c]] w fun e w' => e = .returned (.tuple #[.int .u64 7, .bool true]) ∧ Below w.heap.size w w' := fun A c w hI =>
    uint_any A 1 c 7 7 true (Lib.hid (lt1 (by omega))) (Lib.hid hu.2.symm) (Lib.hid hu.1.symm) (by omega) w hI
  clear hu
  go_enter Try.func19, Try.ntmps19
  go_wp2_with (first
    | (go_at_call 12; (with_reducible refine (c1 _).mono ?_); rintro e w3 ⟨A1, n1, d1, rfl, h1, hb3⟩; obtain ⟨hn1, hc1⟩ := num_cel1 h1 (by omega) (by omega); subst hn1; have H1 := Lib.hid hc1; have B3 := Lib.hid hb3; clear h1 hb3 hc1)
    | (go_at_call 10; (with_reducible refine (c2 A1 d1 w3 H1.out).mono ?_); rintro e w4 ⟨rfl, hb4⟩; have B4 := Lib.hid (below_on B3.out hb4); clear hb4))
  go_ret
  exact ⟨rfl, B4.out⟩
end Go.Proofs.Ytjbckijeobmoeaa.natLa

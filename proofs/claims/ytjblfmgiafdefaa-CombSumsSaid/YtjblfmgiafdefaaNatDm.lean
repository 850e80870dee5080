/-
  The reference's DivMod.
-/
import Derived.Test.YtjblfmgiafdefaaNatZ
namespace Go.Proofs.Ytjblfmgiafdefaa.natDm
open Go.RowKit
open Go.Proofs.Ytjblfmgiafdefaa.natM Go.Proofs.Ytjblfmgiafdefaa.natA Go.Proofs.Ytjblfmgiafdefaa.natB Go.Proofs.Ytjblfmgiafdefaa.natC Go.Proofs.Ytjblfmgiafdefaa.natD Go.Proofs.Ytjblfmgiafdefaa.natE Go.Proofs.Ytjblfmgiafdefaa.natF Go.Proofs.Ytjblfmgiafdefaa.natG Go.Proofs.Ytjblfmgiafdefaa.natH Go.Proofs.Ytjblfmgiafdefaa.natI Go.Proofs.Ytjblfmgiafdefaa.natJ Go.Proofs.Ytjblfmgiafdefaa.natR Go.Proofs.Ytjblfmgiafdefaa.natS Go.Proofs.Ytjblfmgiafdefaa.natT Go.Proofs.Ytjblfmgiafdefaa.natU Go.Proofs.Ytjblfmgiafdefaa.natV Go.Proofs.Ytjblfmgiafdefaa.natW Go.Proofs.Ytjblfmgiafdefaa.natX Go.Proofs.Ytjblfmgiafdefaa.natY
set_option linter.unusedVariables false

set_option maxRecDepth 4000 in
set_option maxHeartbeats 1000000 in
theorem rdiv_no1 (A D : Option Addr) (n c m d X : Nat) (hX : Hid (X < 4294967296 ^ n)) (hn : n ≤ 9223372036854775807) (ha : Hid (false = valB n X)) (w : World) (hI : Cel .u32 w A (dg 4294967296 n X)) :
    Calls Try.prog 33 #[.agg #[.slice A n c], .agg #[.slice D m d]] w (DivR 0 0 2 w) := by
  have HI := Lib.hid hI
  clear hI
  have cv := fun w hI => rvalid_any A n c X false hX ha hn w hI
  go_enter Try.func33, Try.ntmps33
  go_wp2_with (go_at_call 41; refine (cv _ (cel_four HI.out _ _ _ _)).mono ?_; rintro e w1 ⟨rfl, hb1⟩; have HB1 := Lib.hid (below_on (below_four _ _ _ _ _) hb1); have XR := Lib.hid ((bx4 _ _ _ _ _ _ _ _ _).2.2.1.below hb1); have XS := Lib.hid ((bx4 _ _ _ _ _ _ _ _ _).2.2.2.below hb1); have xr := XR.out.cell; have fr := XR.out.free; have xs := XS.out.cell; have fs := XS.out.free; clear hb1)
  obtain ⟨y1, y2⟩ := set_two XR.out XS.out (by omega) (.slice none 0 0) (.slice none 0 0)
  refine bodyPost_ret (v := .tuple #[.agg #[.slice none 0 0], .agg #[.slice none 0 0], .int .i64 2]) (by simp [results, Try.results33, go_sem, y1, y2]) rfl ?_
  exact ⟨none, 0, 0, none, 0, 0, rfl, Num.nil _, Num.nil _, below_two_set HB1.out (by omega) (by omega) _ _⟩
set_option maxRecDepth 4000 in
set_option maxHeartbeats 1000000 in
theorem rdiv_no2 (A D : Option Addr) (n c m d X Y : Nat) (hX : Hid (X < 4294967296 ^ n)) (hY : Hid (Y < 4294967296 ^ m)) (hn : n ≤ 9223372036854775807) (hm : m ≤ 9223372036854775807) (ha : Hid (true = valB n X)) (hb : Hid (false = valB m Y)) (w : World) (hI : Cel .u32 w A (dg 4294967296 n X)) (hJ : Cel .u32 w D (dg 4294967296 m Y)) :
    Calls Try.prog 33 #[.agg #[.slice A n c], .agg #[.slice D m d]] w (DivR 0 0 2 w) := by
  have HI := Lib.hid hI
  have HJ := Lib.hid hJ
  clear hI hJ
  have cv := fun w hI => rvalid_any A n c X true hX ha hn w hI
  have cu := fun w hI => rvalid_any D m d Y false hY hb hm w hI
  go_enter Try.func33, Try.ntmps33
  go_wp2_with (go_at_call 41; first
    | ((with_reducible refine (cv _ (cel_four HI.out _ _ _ _)).mono ?_); rintro e w1 ⟨rfl, hb1⟩; have HB1 := Lib.hid (below_on (below_four _ _ _ _ _) hb1); have HJ1 := Lib.hid ((cel_four HJ.out _ _ _ _).below hb1); have xb := ((bx4 _ _ _ _ _ _ _ _ _).2.1.below hb1).cell; have XR := Lib.hid ((bx4 _ _ _ _ _ _ _ _ _).2.2.1.below hb1); have XS := Lib.hid ((bx4 _ _ _ _ _ _ _ _ _).2.2.2.below hb1); clear hb1)
    | ((with_reducible refine (cu _ HJ1.out).mono ?_); rintro e w2 ⟨rfl, hb2⟩; have HB2 := Lib.hid (below_on HB1.out hb2); have XR2 := Lib.hid (XR.out.below hb2); have XS2 := Lib.hid (XS.out.below hb2); have xr := XR2.out.cell; have fr := XR2.out.free; have xs := XS2.out.cell; have fs := XS2.out.free; clear hb2))
  obtain ⟨y1, y2⟩ := set_two XR2.out XS2.out (by omega) (.slice none 0 0) (.slice none 0 0)
  refine bodyPost_ret (v := .tuple #[.agg #[.slice none 0 0], .agg #[.slice none 0 0], .int .i64 2]) (by simp [results, Try.results33, go_sem, y1, y2]) rfl ?_
  exact ⟨none, 0, 0, none, 0, 0, rfl, Num.nil _, Num.nil _, below_two_set HB2.out (by omega) (by omega) _ _⟩

set_option maxRecDepth 4000 in
set_option maxHeartbeats 8000000 in
theorem rdiv_zero (A D : Option Addr) (n c d X : Nat) (hX : Hid (X < 4294967296 ^ n)) (hY : Hid (0 < 4294967296 ^ 0)) (ha : Hid (true = valB n X)) (hb : Hid (true = valB 0 0)) (w : World) (hI : Cel .u32 w A (dg 4294967296 n X)) (hJ : Cel .u32 w D (dg 4294967296 0 0)) :
    Calls Try.prog 33 #[.agg #[.slice A n c], .agg #[.slice D 0 d]] w (DivR 0 0 10 w) := by
  have hn64 : n ≤ 64 := (valB_iff.1 ha.out.symm).1
  have HI := Lib.hid hI
  have HJ := Lib.hid hJ
  clear hI hJ
  have cv := fun w hI => rvalid_any A n c X true hX ha (by omega) w hI
  have cu := fun w hI => rvalid_any D 0 d 0 true hY hb (by omega) w hI
  go_enter Try.func33, Try.ntmps33
  go_wp2_with (go_at_call 41; first
      | ((with_reducible refine (cv _ (cel_four HI.out _ _ _ _)).mono ?_); rintro e w1 ⟨rfl, hb1⟩; have S1 := Lib.hid (((St.start3 HI.out HJ.out).alloc _).below hb1); have XS1 := Lib.hid ((bx4 _ _ _ _ _ _ _ _ _).2.2.2.below hb1); have xb := S1.out.xb; clear hb1)
      | ((with_reducible refine (cu _ S1.out.cJ).mono ?_); rintro e w2 ⟨rfl, hb2⟩; have S2 := Lib.hid (S1.out.below hb2); have XS2 := Lib.hid (XS1.out.below hb2); have xa2 := S2.out.xa; have xb2 := S2.out.xb; have xr := S2.out.br.cell; have fr := S2.out.br.free; have xs := XS2.out.cell; have fs := XS2.out.free; clear hb2))
  obtain ⟨y1, y2⟩ := set_two S2.out.br XS2.out (by omega) (.slice none 0 0) (.slice none 0 0)
  refine bodyPost_ret (v := .tuple #[.agg #[.slice none 0 0], .agg #[.slice none 0 0], .int .i64 10]) (by simp [results, Try.results33, go_sem, y1, y2]) rfl ?_
  exact ⟨none, 0, 0, none, 0, 0, rfl, Num.nil _, Num.nil _, below_two_set S2.out.bel (by omega) (by omega) _ _⟩

set_option maxRecDepth 4000 in
set_option maxHeartbeats 8000000 in
theorem rdiv_ok (A D : Option Addr) (n c m d X Y : Nat) (hX : Hid (X < 4294967296 ^ n)) (hY : Hid (Y < 4294967296 ^ m)) (ha : Hid (true = valB n X)) (hb : Hid (true = valB m Y)) (hm0 : m ≠ 0) (hYp : Hid (0 < Y)) (w : World) (hI : Cel .u32 w A (dg 4294967296 n X)) (hJ : Cel .u32 w D (dg 4294967296 m Y)) :
    Calls Try.prog 33 #[.agg #[.slice A n c], .agg #[.slice D m d]] w (DivR (X / Y) (X % Y) 0 w) := by
  have hn64 : n ≤ 64 := (valB_iff.1 ha.out.symm).1
  have hm64 : m ≤ 64 := (valB_iff.1 hb.out.symm).1
  have HI := Lib.hid hI
  have HJ := Lib.hid hJ
  clear hI hJ
  have cv := fun w hI => rvalid_any A n c X true hX ha (by omega) w hI
  have cu := fun w hI => rvalid_any D m d Y true hY hb (by omega) w hI
  have LX : Hid (nlen 65536 X ≤ 128) := Lib.hid (half_len hX.out hn64)
  have LY : Hid (nlen 65536 Y ≤ 128) := Lib.hid (half_len hY.out hm64)
  have LQ : Hid (nlen 65536 (X / Y) ≤ 128) := Lib.hid (Nat.le_trans (nlen_mono (by omega) (Nat.div_le_self X Y)) LX.out)
  have LR : Hid (nlen 65536 (X % Y) ≤ 128) := Lib.hid (Nat.le_trans (nlen_mono (by omega) (Nat.mod_le X Y)) LX.out)
  have KQ : Hid (nlen 4294967296 (X / Y) ≤ 64) := Lib.hid (Nat.le_trans (nlen_mono (by omega) (Nat.div_le_self X Y)) (by rw [(valB_iff.1 ha.out.symm).2]; exact hn64))
  have KR : Hid (nlen 4294967296 (X % Y) ≤ 64) := Lib.hid (Nat.le_trans (nlen_mono (by omega) (Nat.mod_le X Y)) (by rw [(valB_iff.1 ha.out.symm).2]; exact hn64))
  have h0' : ((m : Int) == 0) = false := by simp; omega
  go_enter Try.func33, Try.ntmps33
  go_wp2_with (go_at_call 41; first
      | ((with_reducible refine (cv _ (cel_four HI.out _ _ _ _)).mono ?_); rintro e w1 ⟨rfl, hb1⟩; have S1 := Lib.hid (((St.start3 HI.out HJ.out).alloc _).below hb1); have XS1 := Lib.hid ((bx4 _ _ _ _ _ _ _ _ _).2.2.2.below hb1); have xb := S1.out.xb; clear hb1)
      | ((with_reducible refine (cu _ S1.out.cJ).mono ?_); rintro e w2 ⟨rfl, hb2⟩; have S2 := Lib.hid (S1.out.below hb2); have XS2 := Lib.hid (XS1.out.below hb2); have xa2 := S2.out.xa; have xb2 := S2.out.xb; clear hb2))
  clear cv cu S1 XS1 xb h0'
  have ch1 := Lib.hid (halves_any A n c X hX (by omega) w2.drew S2.out.drew.cI)
  go_region_held3 (fun w' => w'.cell? ⟨w.heap.size, 0, none⟩ = some (.slice A n c) ∧ w'.cell? ⟨w.heap.size + 1, 0, none⟩ = some (.slice D m d)) (go_keep)
    (first
      | (go_at_call 44; first
        | ((with_reducible refine ch1.out.mono ?_); rintro e w3 ⟨A3, n3, c3, rfl, hh, _, hb3⟩; have H3 := Lib.hid hh; have S3 := Lib.hid (S2.out.drew.below hb3); have XS3 := Lib.hid ((bx_drew XS2.out).below hb3); have xa3 := S3.out.xa; have xb3 := S3.out.xb; clear hh hb3)
        | ((with_reducible refine (halves_any D m d Y hY (by omega) w3 S3.out.cJ).mono ?_); rintro e w4 ⟨A4, n4, c4, rfl, hh, _, hb4⟩; have H4 := Lib.hid hh; have H34 := Lib.hid (H3.out.below hb4); have S4 := Lib.hid (S3.out.below hb4); have XS4 := Lib.hid (XS3.out.below hb4); have xa4 := S4.out.xa; have xb4 := S4.out.xb; clear hh hb4))
      | (go_at_call 51; (with_reducible refine (rdiv_any A3 A4 n3 c3 n4 c4 X Y (Lib.hid H3.out.lt) (Lib.hid (hal_len H4.out)) hYp (by rw [hal_len H3.out]; have := LX.out; omega) (by rw [hal_len H4.out]; have := LY.out; omega) w4 (hal_cel H34.out) (hal_cel H4.out)).mono ?_); rintro e w5 ⟨A5, n5, c5, A6, n6, c6, rfl, hh, hh2, hb5⟩; have H5 := Lib.hid hh; have H6 := Lib.hid hh2; have S5 := Lib.hid (S4.out.below hb5); have XS5 := Lib.hid (XS4.out.below hb5); have xa5 := S5.out.xa; have xb5 := S5.out.xb; clear hh hh2 hb5))
  go_wp2_with (go_at_call 42; first
    | ((with_reducible refine (whole_ok A5 n5 c5 (X / Y) (Lib.hid H5.out.lt) (hal_cap H5.out) (by rw [hal_len H5.out]; have := LQ.out; omega) KQ.out w5 (hal_cel H5.out)).mono ?_); rintro e w6 ⟨A7, n7, c7, rfl, hh, hnw, hb6⟩; have N7 := Lib.hid hh; have R7 := Lib.hid (hnw.far S5.out.br.lt); have T7 := Lib.hid (hnw.far XS5.out.lt); have S6 := Lib.hid (S5.out.below hb6); have XS6 := Lib.hid (XS5.out.below hb6); have H66 := Lib.hid (H6.out.below hb6); clear hh hnw hb6)
    | ((with_reducible refine (whole_ok A6 n6 c6 (X % Y) (Lib.hid H6.out.lt) (hal_cap H6.out) (by rw [hal_len H6.out]; have := LR.out; omega) KR.out _ (hal_cel (hal_alloc H66.out _))).mono ?_); rintro e w8 ⟨A9, n9, c9, rfl, hh, hnw, hb8⟩; have N9 := Lib.hid hh; have R9 := Lib.hid (hnw.far (S6.out.alloc _).br.lt); have T9 := Lib.hid (hnw.far (XS6.out.alloc _).lt); have S8 := Lib.hid ((S6.out.alloc _).below hb8); have XS8 := Lib.hid ((XS6.out.alloc _).below hb8); have N78 := Lib.hid ((N7.out.below (below_new _ _)).below hb8); have XQ := Lib.hid ((Bx.new_ _ _ _).below hb8); clear hh hnw hb8))
  obtain ⟨W, hW⟩ : ∃ W, w8.alloc (Obj.cells #[Value.slice A9 n9 c9] 24) = W := ⟨_, rfl⟩
  have Q1 : Hid (Bx W w6.heap.size (.slice A7 n7 c7)) := Lib.hid (by rw [← hW]; exact XQ.out.alloc _)
  have Q2 : Hid (Bx W w8.heap.size (.slice A9 n9 c9)) := Lib.hid (by rw [← hW]; exact Bx.new_ _ _ _)
  have Q3 : Hid (Bx W (w.heap.size + 1 + 1) (.slice none 0 0)) := Lib.hid (by rw [← hW]; exact S8.out.br.alloc _)
  have Q4 : Hid (Bx W (w.heap.size + 1 + 1 + 1) (.slice none 0 0)) := Lib.hid (by rw [← hW]; exact XS8.out.alloc _)
  have Q5 : Hid (Below w.heap.size w W) := Lib.hid (by rw [← hW]; exact (S8.out.alloc _).bel)
  have Q6 : Hid (Num W A7 n7 c7 (X / Y)) := Lib.hid (by rw [← hW]; exact N78.out.below (below_new _ _))
  have Q7 : Hid (Num W A9 n9 c9 (X % Y)) := Lib.hid (by rw [← hW]; exact N9.out.below (below_new _ _))
  have l1 := XS6.out.lt
  have l2 := XS8.out.lt
  rw [hW]
  clear hW
  obtain ⟨b7, hb7⟩ : ∃ b7, w6.heap.size = b7 := ⟨_, rfl⟩
  obtain ⟨b9, hb9⟩ : ∃ b9, w8.heap.size = b9 := ⟨_, rfl⟩
  rw [hb7] at Q1 l1 ⊢
  rw [hb9] at Q2 l2 ⊢
  clear hb7 hb9
  have y1 := Q1.out.cell
  have y2 := Q2.out.cell
  have y3 := Q3.out.cell
  have y4 := Q4.out.cell
  have z3 := Q3.out.free
  have z4 := Q4.out.free
  have p1 : b7 ≠ w.heap.size + 1 + 1 := by omega
  have p2 : b7 ≠ w.heap.size + 1 + 1 + 1 := by omega
  have p3 : b9 ≠ w.heap.size + 1 + 1 := by omega
  have p4 : b9 ≠ w.heap.size + 1 + 1 + 1 := by omega
  have q5 := Ne.symm p1
  have q6 := Ne.symm p2
  have q7 := Ne.symm p3
  have q8 := Ne.symm p4
  clear xa2 xb2 xa3 xb3 xa4 xb4 xa5 xb5
  go_region_held3 (fun w' => w'.cell? ⟨b7, 0, none⟩ = some (.slice A7 n7 c7) ∧ w'.cell? ⟨b9, 0, none⟩ = some (.slice A9 n9 c9)) (go_keep) (fail)
  go_wp2_with fail
  obtain ⟨g1, g2⟩ := set_two Q3.out Q4.out (by omega) (.slice A7 n7 c7) (.slice A9 n9 c9)
  refine bodyPost_ret (v := .tuple #[.agg #[.slice A7 n7 c7], .agg #[.slice A9 n9 c9], .int .i64 0]) (by simp [results, Try.results33, go_sem, g1, g2]) rfl ?_
  exact ⟨A7, n7, c7, A9, n9, c9, rfl, num_set (num_set Q6.out R7.out _) T7.out _, num_set (num_set Q7.out R9.out _) T9.out _, bel_drew (below_two_set Q5.out (by omega) (by omega) _ _)⟩

theorem rxdiv_any (A D : Option Addr) (n c m d X Y : Nat) (hX : Hid (X < 4294967296 ^ n)) (hY : Hid (Y < 4294967296 ^ m)) (hn : n ≤ 9223372036854775807) (hm : m ≤ 9223372036854775807) (w : World) (hI : Cel .u32 w A (dg 4294967296 n X)) (hJ : Cel .u32 w D (dg 4294967296 m Y)) :
    Calls Try.prog 33 #[.agg #[.slice A n c], .agg #[.slice D m d]] w (DivR (divQ n X m Y) (divR n X m Y) (divE n X m Y) w) := by
  unfold divQ divR divE
  cases ha : valB n X with
  | false => rw [(d_no1 (X := X) (Y := Y)).1, d_no1.2.1, d_no1.2.2]; exact rdiv_no1 A D n c m d X hX hn (Lib.hid ha.symm) w hI
  | true =>
    cases hb : valB m Y with
    | false => rw [(d_no2 (X := X) (Y := Y)).1, d_no2.2.1, d_no2.2.2]; exact rdiv_no2 A D n c m d X Y hX hY hn hm (Lib.hid ha.symm) (Lib.hid hb.symm) w hI hJ
    | true =>
      by_cases h0 : m = 0
      · have hY0 := zero_of hY.out h0
        subst h0
        subst hY0
        rw [(d_zero (X := X)).1, d_zero.2.1, d_zero.2.2]
        exact rdiv_zero A D n c d X hX hY (Lib.hid ha.symm) (Lib.hid hb.symm) w hI hJ
      · have hYp : 0 < Y := by
          apply Decidable.byContradiction; intro hn0
          have e : Y = 0 := by omega
          have := (valB_iff.1 hb).2
          rw [e, nlen_zero] at this; omega
        rw [(d_ok (X := X) hYp).1, (d_ok hYp).2.1, (d_ok hYp).2.2]
        exact rdiv_ok A D n c m d X Y hX hY (Lib.hid ha.symm) (Lib.hid hb.symm) h0 (Lib.hid hYp) w hI hJ
end Go.Proofs.Ytjblfmgiafdefaa.natDm

/-
  The reference's Sub, Mul.
-/
import Derived.Test.YtjblfmgiafdefaaNatY
namespace Go.Proofs.Ytjblfmgiafdefaa.natZ
open Go.RowKit
open Go.Proofs.Ytjblfmgiafdefaa.natM Go.Proofs.Ytjblfmgiafdefaa.natA Go.Proofs.Ytjblfmgiafdefaa.natB Go.Proofs.Ytjblfmgiafdefaa.natC Go.Proofs.Ytjblfmgiafdefaa.natD Go.Proofs.Ytjblfmgiafdefaa.natE Go.Proofs.Ytjblfmgiafdefaa.natF Go.Proofs.Ytjblfmgiafdefaa.natG Go.Proofs.Ytjblfmgiafdefaa.natH Go.Proofs.Ytjblfmgiafdefaa.natI Go.Proofs.Ytjblfmgiafdefaa.natJ Go.Proofs.Ytjblfmgiafdefaa.natR Go.Proofs.Ytjblfmgiafdefaa.natS Go.Proofs.Ytjblfmgiafdefaa.natT Go.Proofs.Ytjblfmgiafdefaa.natU Go.Proofs.Ytjblfmgiafdefaa.natV Go.Proofs.Ytjblfmgiafdefaa.natW Go.Proofs.Ytjblfmgiafdefaa.natX Go.Proofs.Ytjblfmgiafdefaa.natY
set_option linter.unusedVariables false

set_option maxRecDepth 4000 in
set_option maxHeartbeats 1000000 in
theorem rxmul_no1 (A D : Option Addr) (n c m d X : Nat) (hX : Hid (X < 4294967296 ^ n)) (hn : n ≤ 9223372036854775807) (ha : Hid (false = valB n X)) (w : World) (hI : Cel .u32 w A (dg 4294967296 n X)) :
    Calls Try.prog 32 #[.agg #[.slice A n c], .agg #[.slice D m d]] w (ResP 0 2 w) := by
  have HI := Lib.hid hI
  clear hI
  have cv := fun w hI => rvalid_any A n c X false hX ha hn w hI
  go_enter Try.func32, Try.ntmps32
  go_wp2_with (go_at_call 41; refine (cv _ (cel_three HI.out _ _ _)).mono ?_; rintro e w1 ⟨rfl, hb1⟩; have HB1 := Lib.hid (below_on (below_three _ _ _ _) hb1); have XR := Lib.hid ((bx3 _ _ _ _ _ _ _).2.2.below hb1); have xr := XR.out.cell; have fr := XR.out.free; clear hb1)
  have xs := set_same XR.out
  refine bodyPost_ret (v := .tuple #[.agg #[.slice none 0 0], .int .i64 2]) (by simp [results, Try.results32, go_sem, xs]) rfl ?_
  exact ⟨none, 0, 0, rfl, Num.nil _, HB1.out.setCell (by simp; omega) _⟩
set_option maxRecDepth 4000 in
set_option maxHeartbeats 1000000 in
theorem rxmul_no2 (A D : Option Addr) (n c m d X Y : Nat) (hX : Hid (X < 4294967296 ^ n)) (hY : Hid (Y < 4294967296 ^ m)) (hn : n ≤ 9223372036854775807) (hm : m ≤ 9223372036854775807) (ha : Hid (true = valB n X)) (hb : Hid (false = valB m Y)) (w : World) (hI : Cel .u32 w A (dg 4294967296 n X)) (hJ : Cel .u32 w D (dg 4294967296 m Y)) :
    Calls Try.prog 32 #[.agg #[.slice A n c], .agg #[.slice D m d]] w (ResP 0 2 w) := by
  have HI := Lib.hid hI
  have HJ := Lib.hid hJ
  clear hI hJ
  have cv := fun w hI => rvalid_any A n c X true hX ha hn w hI
  have cu := fun w hI => rvalid_any D m d Y false hY hb hm w hI
  go_enter Try.func32, Try.ntmps32
  go_wp2_with (go_at_call 41; first
    | ((with_reducible refine (cv _ (cel_three HI.out _ _ _)).mono ?_); rintro e w1 ⟨rfl, hb1⟩; have HB1 := Lib.hid (below_on (below_three _ _ _ _) hb1); have HJ1 := Lib.hid ((cel_three HJ.out _ _ _).below hb1); have XR := Lib.hid ((bx3 _ _ _ _ _ _ _).2.2.below hb1); have xb := ((bx3 _ _ _ _ _ _ _).2.1.below hb1).cell; clear hb1)
    | ((with_reducible refine (cu _ HJ1.out).mono ?_); rintro e w2 ⟨rfl, hb2⟩; have HB2 := Lib.hid (below_on HB1.out hb2); have XR2 := Lib.hid (XR.out.below hb2); have xr := XR2.out.cell; have fr := XR2.out.free; clear hb2))
  have xs := set_same XR2.out
  refine bodyPost_ret (v := .tuple #[.agg #[.slice none 0 0], .int .i64 2]) (by simp [results, Try.results32, go_sem, xs]) rfl ?_
  exact ⟨none, 0, 0, rfl, Num.nil _, HB2.out.setCell (by simp; omega) _⟩

set_option maxRecDepth 4000 in
set_option maxHeartbeats 8000000 in
theorem rxmul_ok (A D : Option Addr) (n c m d X Y : Nat) (hX : Hid (X < 4294967296 ^ n)) (hY : Hid (Y < 4294967296 ^ m)) (ha : Hid (true = valB n X)) (hb : Hid (true = valB m Y)) (hok : Hid (nlen 4294967296 (X * Y) ≤ 64)) (w : World) (hI : Cel .u32 w A (dg 4294967296 n X)) (hJ : Cel .u32 w D (dg 4294967296 m Y)) :
    Calls Try.prog 32 #[.agg #[.slice A n c], .agg #[.slice D m d]] w (ResP (X * Y) 0 w) := by
  have hn64 : n ≤ 64 := (valB_iff.1 ha.out.symm).1
  have hm64 : m ≤ 64 := (valB_iff.1 hb.out.symm).1
  have HI := Lib.hid hI
  have HJ := Lib.hid hJ
  clear hI hJ
  have cv := fun w hI => rvalid_any A n c X true hX ha (by omega) w hI
  have cu := fun w hI => rvalid_any D m d Y true hY hb (by omega) w hI
  have LX : Hid (nlen 65536 X ≤ 128) := Lib.hid (half_len hX.out hn64)
  have LY : Hid (nlen 65536 Y ≤ 128) := Lib.hid (half_len hY.out hm64)
  have LV : Hid (nlen 65536 (X * Y) ≤ 300) := Lib.hid (Nat.le_trans (nlen_le (by omega) (show X * Y < 65536 ^ (2 * (n + m)) by rw [← half_pow]; exact mul_lt hX.out hY.out)) (by omega))
  go_enter Try.func32, Try.ntmps32
  go_wp2_with (first
    | (go_at_call 41; first
      | ((with_reducible refine (cv _ (cel_three HI.out _ _ _)).mono ?_); rintro e w1 ⟨rfl, hb1⟩; have S1 := Lib.hid ((St.start3 HI.out HJ.out).below hb1); have xb := S1.out.xb; clear hb1)
      | ((with_reducible refine (cu _ S1.out.cJ).mono ?_); rintro e w2 ⟨rfl, hb2⟩; have S2 := Lib.hid (S1.out.below hb2); have xa2 := S2.out.xa; have xb2 := S2.out.xb; clear hb2)))
  have ne2a := World.new_ne w2 _ xa2
  have ne2b := World.new_ne w2 _ xb2
  clear cv cu S1 xb
  go_region_held3 (fun w' => w'.cell? ⟨w.heap.size, 0, none⟩ = some (.slice A n c) ∧ w'.cell? ⟨w.heap.size + 1, 0, none⟩ = some (.slice D m d)) (go_keep)
    (first
      | (go_at_call 44; first
      | (first
        | ((with_reducible refine (halves_any A n c X hX (by omega) (w2.alloc _).drew (cel_drew (S2.out.cI.alloc _))).mono ?_); rintro e w3 ⟨A3, n3, c3, rfl, hh, _, hb3⟩; have S3 := Lib.hid ((S2.out.alloc _).drew.below hb3); have xa3 := S3.out.xa; have xb3 := S3.out.xb; have ne3a := World.new_ne w3 _ xa3; have ne3b := World.new_ne w3 _ xb3;  have H3 := Lib.hid hh; have XT3 := Lib.hid ((bx_drew (Bx.new_ _ _ _)).below hb3); have xt3 := XT3.out.cell; have ft3 := XT3.out.free; clear hb3 hh)
        | ((with_reducible refine (halves_any A n c X hX (by omega) w2.drew (S2.out.drew.cI)).mono ?_); rintro e w3 ⟨A3, n3, c3, rfl, hh, _, hb3⟩; have S3 := Lib.hid (S2.out.drew.below hb3); have xa3 := S3.out.xa; have xb3 := S3.out.xb; have ne3a := World.new_ne w3 _ xa3; have ne3b := World.new_ne w3 _ xb3;  have H3 := Lib.hid hh; clear hb3 hh))
      | (first
        | ((with_reducible refine (halves_any D m d Y hY (by omega) w3 (S3.out.cJ)).mono ?_); rintro e w4 ⟨A4, n4, c4, rfl, hh, _, hb4⟩; have S4 := Lib.hid (S3.out.below hb4); have xa4 := S4.out.xa; have xb4 := S4.out.xb; have ne4a := World.new_ne w4 _ xa4; have ne4b := World.new_ne w4 _ xb4;  have H4 := Lib.hid hh; have H34 := Lib.hid (H3.out.below hb4); have XT4 := Lib.hid (XT3.out.below hb4); have xt4 := XT4.out.cell; have ft4 := XT4.out.free; clear hb4 hh)
        | ((with_reducible refine (halves_any D m d Y hY (by omega) (w3.alloc _) (S3.out.cJ.alloc _)).mono ?_); rintro e w4 ⟨A4, n4, c4, rfl, hh, _, hb4⟩; have S4 := Lib.hid ((S3.out.alloc _).below hb4); have xa4 := S4.out.xa; have xb4 := S4.out.xb; have ne4a := World.new_ne w4 _ xa4; have ne4b := World.new_ne w4 _ xb4;  have H4 := Lib.hid hh; have H34 := Lib.hid ((hal_alloc H3.out _).below hb4); have XT4 := Lib.hid ((Bx.new_ _ _ _).below hb4); have xt4 := XT4.out.cell; have ft4 := XT4.out.free; clear hb4 hh)
        | ((with_reducible refine (halves_any D m d Y hY (by omega) w3 (S3.out.cJ)).mono ?_); rintro e w4 ⟨A4, n4, c4, rfl, hh, _, hb4⟩; have S4 := Lib.hid (S3.out.below hb4); have xa4 := S4.out.xa; have xb4 := S4.out.xb; have ne4a := World.new_ne w4 _ xa4; have ne4b := World.new_ne w4 _ xb4;  have H4 := Lib.hid hh; have H34 := Lib.hid (H3.out.below hb4); clear hb4 hh)))
      | (go_at_call 50; first
        | ((with_reducible refine (rmul_any A3 A4 n3 c3 n4 c4 X Y (Lib.hid H3.out.lt) (Lib.hid H4.out.lt) (by rw [hal_len H3.out]; have := LX.out; omega) (by rw [hal_len H4.out]; have := LY.out; omega) w4 (hal_cel H34.out) (hal_cel H4.out)).mono ?_); rintro e w5 ⟨A5, n5, c5, rfl, hh, _, hb5⟩; have S5 := Lib.hid (S4.out.below hb5); have xa5 := S5.out.xa; have xb5 := S5.out.xb; have ne5a := World.new_ne w5 _ xa5; have ne5b := World.new_ne w5 _ xb5;  have H5 := Lib.hid hh; have XT5 := Lib.hid (XT4.out.below hb5); have xt5 := XT5.out.cell; have ft5 := XT5.out.free; clear hb5 hh)
        | ((with_reducible refine (rmul_any A3 A4 n3 c3 n4 c4 X Y (Lib.hid H3.out.lt) (Lib.hid H4.out.lt) (by rw [hal_len H3.out]; have := LX.out; omega) (by rw [hal_len H4.out]; have := LY.out; omega) (w4.alloc _) ((hal_cel H34.out).alloc _) ((hal_cel H4.out).alloc _)).mono ?_); rintro e w5 ⟨A5, n5, c5, rfl, hh, _, hb5⟩; have S5 := Lib.hid ((S4.out.alloc _).below hb5); have xa5 := S5.out.xa; have xb5 := S5.out.xb; have ne5a := World.new_ne w5 _ xa5; have ne5b := World.new_ne w5 _ xb5;  have H5 := Lib.hid hh; have XT5 := Lib.hid ((Bx.new_ _ _ _).below hb5); have xt5 := XT5.out.cell; have ft5 := XT5.out.free; clear hb5 hh)
        | ((with_reducible refine (rmul_any A3 A4 n3 c3 n4 c4 X Y (Lib.hid H3.out.lt) (Lib.hid H4.out.lt) (by rw [hal_len H3.out]; have := LX.out; omega) (by rw [hal_len H4.out]; have := LY.out; omega) w4 (hal_cel H34.out) (hal_cel H4.out)).mono ?_); rintro e w5 ⟨A5, n5, c5, rfl, hh, _, hb5⟩; have S5 := Lib.hid (S4.out.below hb5); have xa5 := S5.out.xa; have xb5 := S5.out.xb; have ne5a := World.new_ne w5 _ xa5; have ne5b := World.new_ne w5 _ xb5;  have H5 := Lib.hid hh; clear hb5 hh))
      | (go_at_call 42; first
        | ((with_reducible refine (whole_ok A5 n5 c5 (X * Y) (Lib.hid H5.out.lt) (hal_cap H5.out) (by rw [hal_len H5.out]; have := LV.out; omega) hok.out w5 (hal_cel H5.out)).mono ?_); rintro e w6 ⟨A6, n6, c6, rfl, hh, hnw, hb6⟩; have S6 := Lib.hid (S5.out.below hb6); have xa6 := S6.out.xa; have xb6 := S6.out.xb; have ne6a := World.new_ne w6 _ xa6; have ne6b := World.new_ne w6 _ xb6;  have N6 := Lib.hid hh; have R6 := Lib.hid (hnw.far S5.out.br.lt); have XT6 := Lib.hid (XT5.out.below hb6); have xt6 := XT6.out.cell; have ft6 := XT6.out.free; have FT6 := Lib.hid (hnw.far XT5.out.lt); clear hb6 hh hnw)
        | ((with_reducible refine (whole_ok A5 n5 c5 (X * Y) (Lib.hid H5.out.lt) (hal_cap H5.out) (by rw [hal_len H5.out]; have := LV.out; omega) hok.out (w5.alloc _) ((hal_cel H5.out).alloc _)).mono ?_); rintro e w6 ⟨A6, n6, c6, rfl, hh, hnw, hb6⟩; have S6 := Lib.hid ((S5.out.alloc _).below hb6); have xa6 := S6.out.xa; have xb6 := S6.out.xb; have ne6a := World.new_ne w6 _ xa6; have ne6b := World.new_ne w6 _ xb6;  have N6 := Lib.hid hh; have R6 := Lib.hid (hnw.far (S5.out.alloc _).br.lt); have FT6 := Lib.hid (hnw.far (b := w5.heap.size) (by simp)); have XT6 := Lib.hid ((Bx.new_ _ _ _).below hb6); have xt6 := XT6.out.cell; have ft6 := XT6.out.free; clear hb6 hh hnw)
        | ((with_reducible refine (whole_ok A5 n5 c5 (X * Y) (Lib.hid H5.out.lt) (hal_cap H5.out) (by rw [hal_len H5.out]; have := LV.out; omega) hok.out w5 (hal_cel H5.out)).mono ?_); rintro e w6 ⟨A6, n6, c6, rfl, hh, hnw, hb6⟩; have S6 := Lib.hid (S5.out.below hb6); have xa6 := S6.out.xa; have xb6 := S6.out.xb; have ne6a := World.new_ne w6 _ xa6; have ne6b := World.new_ne w6 _ xb6;  have N6 := Lib.hid hh; have R6 := Lib.hid (hnw.far S5.out.br.lt); clear hb6 hh hnw)))
  · obtain ⟨W7, hW7⟩ : ∃ W7, w6.alloc (Obj.cells #[Value.slice A6 n6 c6] 24) = W7 := ⟨_, rfl⟩
    have Q1 : Hid (Bx W7 w6.heap.size (Value.slice A6 n6 c6)) := Lib.hid (by rw [← hW7]; exact Bx.new_ _ _ _)
    have Q2 : Hid (Bx W7 (w.heap.size + 1 + 1) (.slice none 0 0)) := Lib.hid (by rw [← hW7]; exact S6.out.br.alloc _)
    have Q3 : Hid (Num W7 A6 n6 c6 (X * Y)) := Lib.hid (by rw [← hW7]; exact N6.out.below (below_new _ _))
    have Q4 : Hid (Below w.heap.size w W7) := Lib.hid (by rw [← hW7]; exact (S6.out.alloc _).bel)
    rw [hW7]
    clear hW7
    have y1 := Q1.out.cell
    have y2 := Q2.out.cell
    have y3 := Q2.out.free
    go_wp2_with fail
    have xs := set_same Q2.out
    refine bodyPost_ret (v := .tuple #[.agg #[.slice A6 n6 c6], .int .i64 0]) (by simp [results, Try.results32, go_sem, xs]) rfl ?_
    exact ⟨A6, n6, c6, rfl, num_set Q3.out R6.out _, Q4.out.setCell (by simp; omega) _⟩
  · obtain ⟨W7, hW7⟩ : ∃ W7, w6.setCell { block := w5.heap.size, off := 0 } (Value.slice A6 n6 c6) = W7 := ⟨_, rfl⟩
    have Q1 : Hid (Bx W7 w5.heap.size (Value.slice A6 n6 c6)) := Lib.hid (by rw [← hW7]; exact set_bx XT6.out _)
    have Q2 : Hid (Bx W7 (w.heap.size + 1 + 1) (.slice none 0 0)) := Lib.hid (by rw [← hW7]; exact S6.out.br.far (by have := S5.out.br.lt; simp; omega) _)
    have Q3 : Hid (Num W7 A6 n6 c6 (X * Y)) := Lib.hid (by rw [← hW7]; exact num_set N6.out FT6.out _)
    have Q4 : Hid (Below w.heap.size w W7) := Lib.hid (by rw [← hW7]; exact S6.out.bel.setCell (by have := S5.out.bel.size; simpa using this) _)
    rw [hW7]
    clear hW7
    have y1 := Q1.out.cell
    have y2 := Q2.out.cell
    have y3 := Q2.out.free
    go_wp2_with fail
    have xs := set_same Q2.out
    refine bodyPost_ret (v := .tuple #[.agg #[.slice A6 n6 c6], .int .i64 0]) (by simp [results, Try.results32, go_sem, xs]) rfl ?_
    exact ⟨A6, n6, c6, rfl, num_set Q3.out R6.out _, Q4.out.setCell (by simp; omega) _⟩
  · obtain ⟨W7, hW7⟩ : ∃ W7, w6.setCell { block := w4.heap.size, off := 0 } (Value.slice A6 n6 c6) = W7 := ⟨_, rfl⟩
    have Q1 : Hid (Bx W7 w4.heap.size (Value.slice A6 n6 c6)) := Lib.hid (by rw [← hW7]; exact set_bx XT6.out _)
    have Q2 : Hid (Bx W7 (w.heap.size + 1 + 1) (.slice none 0 0)) := Lib.hid (by rw [← hW7]; exact S6.out.br.far (by have := S4.out.br.lt; simp; omega) _)
    have Q3 : Hid (Num W7 A6 n6 c6 (X * Y)) := Lib.hid (by rw [← hW7]; exact num_set N6.out FT6.out _)
    have Q4 : Hid (Below w.heap.size w W7) := Lib.hid (by rw [← hW7]; exact S6.out.bel.setCell (by have := S4.out.bel.size; simpa using this) _)
    rw [hW7]
    clear hW7
    have y1 := Q1.out.cell
    have y2 := Q2.out.cell
    have y3 := Q2.out.free
    go_wp2_with fail
    have xs := set_same Q2.out
    refine bodyPost_ret (v := .tuple #[.agg #[.slice A6 n6 c6], .int .i64 0]) (by simp [results, Try.results32, go_sem, xs]) rfl ?_
    exact ⟨A6, n6, c6, rfl, num_set Q3.out R6.out _, Q4.out.setCell (by simp; omega) _⟩
  · obtain ⟨W7, hW7⟩ : ∃ W7, w6.setCell { block := w3.heap.size, off := 0 } (Value.slice A6 n6 c6) = W7 := ⟨_, rfl⟩
    have Q1 : Hid (Bx W7 w3.heap.size (Value.slice A6 n6 c6)) := Lib.hid (by rw [← hW7]; exact set_bx XT6.out _)
    have Q2 : Hid (Bx W7 (w.heap.size + 1 + 1) (.slice none 0 0)) := Lib.hid (by rw [← hW7]; exact S6.out.br.far (by have := S3.out.br.lt; simp; omega) _)
    have Q3 : Hid (Num W7 A6 n6 c6 (X * Y)) := Lib.hid (by rw [← hW7]; exact num_set N6.out FT6.out _)
    have Q4 : Hid (Below w.heap.size w W7) := Lib.hid (by rw [← hW7]; exact S6.out.bel.setCell (by have := S3.out.bel.size; simpa using this) _)
    rw [hW7]
    clear hW7
    have y1 := Q1.out.cell
    have y2 := Q2.out.cell
    have y3 := Q2.out.free
    go_wp2_with fail
    have xs := set_same Q2.out
    refine bodyPost_ret (v := .tuple #[.agg #[.slice A6 n6 c6], .int .i64 0]) (by simp [results, Try.results32, go_sem, xs]) rfl ?_
    exact ⟨A6, n6, c6, rfl, num_set Q3.out R6.out _, Q4.out.setCell (by simp; omega) _⟩
  · obtain ⟨W7, hW7⟩ : ∃ W7, w6.setCell { block := w2.heap.size, off := 0 } (Value.slice A6 n6 c6) = W7 := ⟨_, rfl⟩
    have Q1 : Hid (Bx W7 w2.heap.size (Value.slice A6 n6 c6)) := Lib.hid (by rw [← hW7]; exact set_bx XT6.out _)
    have Q2 : Hid (Bx W7 (w.heap.size + 1 + 1) (.slice none 0 0)) := Lib.hid (by rw [← hW7]; exact S6.out.br.far (by have := S2.out.br.lt; simp; omega) _)
    have Q3 : Hid (Num W7 A6 n6 c6 (X * Y)) := Lib.hid (by rw [← hW7]; exact num_set N6.out FT6.out _)
    have Q4 : Hid (Below w.heap.size w W7) := Lib.hid (by rw [← hW7]; exact S6.out.bel.setCell (by have := S2.out.bel.size; simpa using this) _)
    rw [hW7]
    clear hW7
    have y1 := Q1.out.cell
    have y2 := Q2.out.cell
    have y3 := Q2.out.free
    go_wp2_with fail
    have xs := set_same Q2.out
    refine bodyPost_ret (v := .tuple #[.agg #[.slice A6 n6 c6], .int .i64 0]) (by simp [results, Try.results32, go_sem, xs]) rfl ?_
    exact ⟨A6, n6, c6, rfl, num_set Q3.out R6.out _, Q4.out.setCell (by simp; omega) _⟩
set_option maxRecDepth 4000 in
set_option maxHeartbeats 8000000 in
theorem rxmul_big (A D : Option Addr) (n c m d X Y : Nat) (hX : Hid (X < 4294967296 ^ n)) (hY : Hid (Y < 4294967296 ^ m)) (ha : Hid (true = valB n X)) (hb : Hid (true = valB m Y)) (hbig : 64 < nlen 4294967296 (X * Y)) (w : World) (hI : Cel .u32 w A (dg 4294967296 n X)) (hJ : Cel .u32 w D (dg 4294967296 m Y)) :
    Calls Try.prog 32 #[.agg #[.slice A n c], .agg #[.slice D m d]] w (ResP 0 9 w) := by
  have hn64 : n ≤ 64 := (valB_iff.1 ha.out.symm).1
  have hm64 : m ≤ 64 := (valB_iff.1 hb.out.symm).1
  have HI := Lib.hid hI
  have HJ := Lib.hid hJ
  clear hI hJ
  have cv := fun w hI => rvalid_any A n c X true hX ha (by omega) w hI
  have cu := fun w hI => rvalid_any D m d Y true hY hb (by omega) w hI
  have LX : Hid (nlen 65536 X ≤ 128) := Lib.hid (half_len hX.out hn64)
  have LY : Hid (nlen 65536 Y ≤ 128) := Lib.hid (half_len hY.out hm64)
  have LV : Hid (nlen 65536 (X * Y) ≤ 300) := Lib.hid (Nat.le_trans (nlen_le (by omega) (show X * Y < 65536 ^ (2 * (n + m)) by rw [← half_pow]; exact mul_lt hX.out hY.out)) (by omega))
  go_enter Try.func32, Try.ntmps32
  go_wp2_with (first
    | (go_at_call 41; first
      | ((with_reducible refine (cv _ (cel_three HI.out _ _ _)).mono ?_); rintro e w1 ⟨rfl, hb1⟩; have S1 := Lib.hid ((St.start3 HI.out HJ.out).below hb1); have xb := S1.out.xb; clear hb1)
      | ((with_reducible refine (cu _ S1.out.cJ).mono ?_); rintro e w2 ⟨rfl, hb2⟩; have S2 := Lib.hid (S1.out.below hb2); have xa2 := S2.out.xa; have xb2 := S2.out.xb; clear hb2)))
  have ne2a := World.new_ne w2 _ xa2
  have ne2b := World.new_ne w2 _ xb2
  clear cv cu S1 xb
  go_region_held3 (fun w' => w'.cell? ⟨w.heap.size, 0, none⟩ = some (.slice A n c) ∧ w'.cell? ⟨w.heap.size + 1, 0, none⟩ = some (.slice D m d)) (go_keep)
    (first
      | (go_at_call 44; first
      | (first
        | ((with_reducible refine (halves_any A n c X hX (by omega) (w2.alloc _).drew (cel_drew (S2.out.cI.alloc _))).mono ?_); rintro e w3 ⟨A3, n3, c3, rfl, hh, _, hb3⟩; have S3 := Lib.hid ((S2.out.alloc _).drew.below hb3); have xa3 := S3.out.xa; have xb3 := S3.out.xb; have ne3a := World.new_ne w3 _ xa3; have ne3b := World.new_ne w3 _ xb3;  have H3 := Lib.hid hh; have XT3 := Lib.hid ((bx_drew (Bx.new_ _ _ _)).below hb3); have xt3 := XT3.out.cell; have ft3 := XT3.out.free; clear hb3 hh)
        | ((with_reducible refine (halves_any A n c X hX (by omega) w2.drew (S2.out.drew.cI)).mono ?_); rintro e w3 ⟨A3, n3, c3, rfl, hh, _, hb3⟩; have S3 := Lib.hid (S2.out.drew.below hb3); have xa3 := S3.out.xa; have xb3 := S3.out.xb; have ne3a := World.new_ne w3 _ xa3; have ne3b := World.new_ne w3 _ xb3;  have H3 := Lib.hid hh; clear hb3 hh))
      | (first
        | ((with_reducible refine (halves_any D m d Y hY (by omega) w3 (S3.out.cJ)).mono ?_); rintro e w4 ⟨A4, n4, c4, rfl, hh, _, hb4⟩; have S4 := Lib.hid (S3.out.below hb4); have xa4 := S4.out.xa; have xb4 := S4.out.xb; have ne4a := World.new_ne w4 _ xa4; have ne4b := World.new_ne w4 _ xb4;  have H4 := Lib.hid hh; have H34 := Lib.hid (H3.out.below hb4); have XT4 := Lib.hid (XT3.out.below hb4); have xt4 := XT4.out.cell; have ft4 := XT4.out.free; clear hb4 hh)
        | ((with_reducible refine (halves_any D m d Y hY (by omega) (w3.alloc _) (S3.out.cJ.alloc _)).mono ?_); rintro e w4 ⟨A4, n4, c4, rfl, hh, _, hb4⟩; have S4 := Lib.hid ((S3.out.alloc _).below hb4); have xa4 := S4.out.xa; have xb4 := S4.out.xb; have ne4a := World.new_ne w4 _ xa4; have ne4b := World.new_ne w4 _ xb4;  have H4 := Lib.hid hh; have H34 := Lib.hid ((hal_alloc H3.out _).below hb4); have XT4 := Lib.hid ((Bx.new_ _ _ _).below hb4); have xt4 := XT4.out.cell; have ft4 := XT4.out.free; clear hb4 hh)
        | ((with_reducible refine (halves_any D m d Y hY (by omega) w3 (S3.out.cJ)).mono ?_); rintro e w4 ⟨A4, n4, c4, rfl, hh, _, hb4⟩; have S4 := Lib.hid (S3.out.below hb4); have xa4 := S4.out.xa; have xb4 := S4.out.xb; have ne4a := World.new_ne w4 _ xa4; have ne4b := World.new_ne w4 _ xb4;  have H4 := Lib.hid hh; have H34 := Lib.hid (H3.out.below hb4); clear hb4 hh)))
      | (go_at_call 50; first
        | ((with_reducible refine (rmul_any A3 A4 n3 c3 n4 c4 X Y (Lib.hid H3.out.lt) (Lib.hid H4.out.lt) (by rw [hal_len H3.out]; have := LX.out; omega) (by rw [hal_len H4.out]; have := LY.out; omega) w4 (hal_cel H34.out) (hal_cel H4.out)).mono ?_); rintro e w5 ⟨A5, n5, c5, rfl, hh, _, hb5⟩; have S5 := Lib.hid (S4.out.below hb5); have xa5 := S5.out.xa; have xb5 := S5.out.xb; have ne5a := World.new_ne w5 _ xa5; have ne5b := World.new_ne w5 _ xb5;  have H5 := Lib.hid hh; have XT5 := Lib.hid (XT4.out.below hb5); have xt5 := XT5.out.cell; have ft5 := XT5.out.free; clear hb5 hh)
        | ((with_reducible refine (rmul_any A3 A4 n3 c3 n4 c4 X Y (Lib.hid H3.out.lt) (Lib.hid H4.out.lt) (by rw [hal_len H3.out]; have := LX.out; omega) (by rw [hal_len H4.out]; have := LY.out; omega) (w4.alloc _) ((hal_cel H34.out).alloc _) ((hal_cel H4.out).alloc _)).mono ?_); rintro e w5 ⟨A5, n5, c5, rfl, hh, _, hb5⟩; have S5 := Lib.hid ((S4.out.alloc _).below hb5); have xa5 := S5.out.xa; have xb5 := S5.out.xb; have ne5a := World.new_ne w5 _ xa5; have ne5b := World.new_ne w5 _ xb5;  have H5 := Lib.hid hh; have XT5 := Lib.hid ((Bx.new_ _ _ _).below hb5); have xt5 := XT5.out.cell; have ft5 := XT5.out.free; clear hb5 hh)
        | ((with_reducible refine (rmul_any A3 A4 n3 c3 n4 c4 X Y (Lib.hid H3.out.lt) (Lib.hid H4.out.lt) (by rw [hal_len H3.out]; have := LX.out; omega) (by rw [hal_len H4.out]; have := LY.out; omega) w4 (hal_cel H34.out) (hal_cel H4.out)).mono ?_); rintro e w5 ⟨A5, n5, c5, rfl, hh, _, hb5⟩; have S5 := Lib.hid (S4.out.below hb5); have xa5 := S5.out.xa; have xb5 := S5.out.xb; have ne5a := World.new_ne w5 _ xa5; have ne5b := World.new_ne w5 _ xb5;  have H5 := Lib.hid hh; clear hb5 hh))
      | (go_at_call 42; first
        | ((with_reducible refine (whole_big A5 n5 c5 (X * Y) (Lib.hid H5.out.lt) (hal_cap H5.out) (by rw [hal_len H5.out]; have := LV.out; omega) hbig w5 (hal_cel H5.out)).mono ?_); rintro e w6 ⟨rfl, hb6⟩; have S6 := Lib.hid (S5.out.below hb6); have xa6 := S6.out.xa; have xb6 := S6.out.xb; have ne6a := World.new_ne w6 _ xa6; have ne6b := World.new_ne w6 _ xb6;   have XT6 := Lib.hid (XT5.out.below hb6); have xt6 := XT6.out.cell; have ft6 := XT6.out.free; clear hb6)
        | ((with_reducible refine (whole_big A5 n5 c5 (X * Y) (Lib.hid H5.out.lt) (hal_cap H5.out) (by rw [hal_len H5.out]; have := LV.out; omega) hbig (w5.alloc _) ((hal_cel H5.out).alloc _)).mono ?_); rintro e w6 ⟨rfl, hb6⟩; have S6 := Lib.hid ((S5.out.alloc _).below hb6); have xa6 := S6.out.xa; have xb6 := S6.out.xb; have ne6a := World.new_ne w6 _ xa6; have ne6b := World.new_ne w6 _ xb6;   have XT6 := Lib.hid ((Bx.new_ _ _ _).below hb6); have xt6 := XT6.out.cell; have ft6 := XT6.out.free; clear hb6)
        | ((with_reducible refine (whole_big A5 n5 c5 (X * Y) (Lib.hid H5.out.lt) (hal_cap H5.out) (by rw [hal_len H5.out]; have := LV.out; omega) hbig w5 (hal_cel H5.out)).mono ?_); rintro e w6 ⟨rfl, hb6⟩; have S6 := Lib.hid (S5.out.below hb6); have xa6 := S6.out.xa; have xb6 := S6.out.xb; have ne6a := World.new_ne w6 _ xa6; have ne6b := World.new_ne w6 _ xb6;   clear hb6)))
  · obtain ⟨W7, hW7⟩ : ∃ W7, w6.alloc (Obj.cells #[Value.slice none 0 0] 24) = W7 := ⟨_, rfl⟩
    have Q1 : Hid (Bx W7 w6.heap.size (Value.slice none 0 0)) := Lib.hid (by rw [← hW7]; exact Bx.new_ _ _ _)
    have Q2 : Hid (Bx W7 (w.heap.size + 1 + 1) (.slice none 0 0)) := Lib.hid (by rw [← hW7]; exact S6.out.br.alloc _)
    have Q4 : Hid (Below w.heap.size w W7) := Lib.hid (by rw [← hW7]; exact (S6.out.alloc _).bel)
    rw [hW7]
    clear hW7
    have y1 := Q1.out.cell
    have y2 := Q2.out.cell
    have y3 := Q2.out.free
    go_wp2_with fail
    have xs := set_same Q2.out
    refine bodyPost_ret (v := .tuple #[.agg #[.slice none 0 0], .int .i64 9]) (by simp [results, Try.results32, go_sem, xs]) rfl ?_
    exact ⟨none, 0, 0, rfl, Num.nil _, Q4.out.setCell (by simp; omega) _⟩
  · obtain ⟨W7, hW7⟩ : ∃ W7, w6.setCell { block := w5.heap.size, off := 0 } (Value.slice none 0 0) = W7 := ⟨_, rfl⟩
    have Q1 : Hid (Bx W7 w5.heap.size (Value.slice none 0 0)) := Lib.hid (by rw [← hW7]; exact set_bx XT6.out _)
    have Q2 : Hid (Bx W7 (w.heap.size + 1 + 1) (.slice none 0 0)) := Lib.hid (by rw [← hW7]; exact S6.out.br.far (by have := S5.out.br.lt; simp; omega) _)
    have Q4 : Hid (Below w.heap.size w W7) := Lib.hid (by rw [← hW7]; exact S6.out.bel.setCell (by have := S5.out.bel.size; simpa using this) _)
    rw [hW7]
    clear hW7
    have y1 := Q1.out.cell
    have y2 := Q2.out.cell
    have y3 := Q2.out.free
    go_wp2_with fail
    have xs := set_same Q2.out
    refine bodyPost_ret (v := .tuple #[.agg #[.slice none 0 0], .int .i64 9]) (by simp [results, Try.results32, go_sem, xs]) rfl ?_
    exact ⟨none, 0, 0, rfl, Num.nil _, Q4.out.setCell (by simp; omega) _⟩
  · obtain ⟨W7, hW7⟩ : ∃ W7, w6.setCell { block := w4.heap.size, off := 0 } (Value.slice none 0 0) = W7 := ⟨_, rfl⟩
    have Q1 : Hid (Bx W7 w4.heap.size (Value.slice none 0 0)) := Lib.hid (by rw [← hW7]; exact set_bx XT6.out _)
    have Q2 : Hid (Bx W7 (w.heap.size + 1 + 1) (.slice none 0 0)) := Lib.hid (by rw [← hW7]; exact S6.out.br.far (by have := S4.out.br.lt; simp; omega) _)
    have Q4 : Hid (Below w.heap.size w W7) := Lib.hid (by rw [← hW7]; exact S6.out.bel.setCell (by have := S4.out.bel.size; simpa using this) _)
    rw [hW7]
    clear hW7
    have y1 := Q1.out.cell
    have y2 := Q2.out.cell
    have y3 := Q2.out.free
    go_wp2_with fail
    have xs := set_same Q2.out
    refine bodyPost_ret (v := .tuple #[.agg #[.slice none 0 0], .int .i64 9]) (by simp [results, Try.results32, go_sem, xs]) rfl ?_
    exact ⟨none, 0, 0, rfl, Num.nil _, Q4.out.setCell (by simp; omega) _⟩
  · obtain ⟨W7, hW7⟩ : ∃ W7, w6.setCell { block := w3.heap.size, off := 0 } (Value.slice none 0 0) = W7 := ⟨_, rfl⟩
    have Q1 : Hid (Bx W7 w3.heap.size (Value.slice none 0 0)) := Lib.hid (by rw [← hW7]; exact set_bx XT6.out _)
    have Q2 : Hid (Bx W7 (w.heap.size + 1 + 1) (.slice none 0 0)) := Lib.hid (by rw [← hW7]; exact S6.out.br.far (by have := S3.out.br.lt; simp; omega) _)
    have Q4 : Hid (Below w.heap.size w W7) := Lib.hid (by rw [← hW7]; exact S6.out.bel.setCell (by have := S3.out.bel.size; simpa using this) _)
    rw [hW7]
    clear hW7
    have y1 := Q1.out.cell
    have y2 := Q2.out.cell
    have y3 := Q2.out.free
    go_wp2_with fail
    have xs := set_same Q2.out
    refine bodyPost_ret (v := .tuple #[.agg #[.slice none 0 0], .int .i64 9]) (by simp [results, Try.results32, go_sem, xs]) rfl ?_
    exact ⟨none, 0, 0, rfl, Num.nil _, Q4.out.setCell (by simp; omega) _⟩
  · obtain ⟨W7, hW7⟩ : ∃ W7, w6.setCell { block := w2.heap.size, off := 0 } (Value.slice none 0 0) = W7 := ⟨_, rfl⟩
    have Q1 : Hid (Bx W7 w2.heap.size (Value.slice none 0 0)) := Lib.hid (by rw [← hW7]; exact set_bx XT6.out _)
    have Q2 : Hid (Bx W7 (w.heap.size + 1 + 1) (.slice none 0 0)) := Lib.hid (by rw [← hW7]; exact S6.out.br.far (by have := S2.out.br.lt; simp; omega) _)
    have Q4 : Hid (Below w.heap.size w W7) := Lib.hid (by rw [← hW7]; exact S6.out.bel.setCell (by have := S2.out.bel.size; simpa using this) _)
    rw [hW7]
    clear hW7
    have y1 := Q1.out.cell
    have y2 := Q2.out.cell
    have y3 := Q2.out.free
    go_wp2_with fail
    have xs := set_same Q2.out
    refine bodyPost_ret (v := .tuple #[.agg #[.slice none 0 0], .int .i64 9]) (by simp [results, Try.results32, go_sem, xs]) rfl ?_
    exact ⟨none, 0, 0, rfl, Num.nil _, Q4.out.setCell (by simp; omega) _⟩
theorem rxmul_any (A D : Option Addr) (n c m d X Y : Nat) (hX : Hid (X < 4294967296 ^ n)) (hY : Hid (Y < 4294967296 ^ m)) (hn : n ≤ 9223372036854775807) (hm : m ≤ 9223372036854775807) (w : World) (hI : Cel .u32 w A (dg 4294967296 n X)) (hJ : Cel .u32 w D (dg 4294967296 m Y)) :
    Calls Try.prog 32 #[.agg #[.slice A n c], .agg #[.slice D m d]] w (ResP (mulV n X m Y) (mulE n X m Y) w) := by
  unfold mulE mulV
  cases ha : valB n X with
  | false => rw [r_no1.1, r_no1.2]; exact rxmul_no1 A D n c m d X hX hn (Lib.hid ha.symm) w hI
  | true =>
    cases hb : valB m Y with
    | false => rw [r_no2.1, r_no2.2]; exact rxmul_no2 A D n c m d X Y hX hY hn hm (Lib.hid ha.symm) (Lib.hid hb.symm) w hI hJ
    | true =>
      by_cases h : nlen 4294967296 (X * Y) ≤ 64
      · rw [(r_ok h).1, (r_ok h).2]; exact rxmul_ok A D n c m d X Y hX hY (Lib.hid ha.symm) (Lib.hid hb.symm) (Lib.hid h) w hI hJ
      · rw [(r_big (by omega)).1, (r_big (by omega)).2]; exact rxmul_big A D n c m d X Y hX hY (Lib.hid ha.symm) (Lib.hid hb.symm) (by omega) w hI hJ
end Go.Proofs.Ytjblfmgiafdefaa.natZ

/-
  The contract of the reference's Parse.
-/
import Derived.Test.YtjbckijeobmoeaaDoorNtP
import Derived.Deep.RegionHeld3
namespace Go.Proofs.YtjbckijeobmoeaaDoor.ntR
open Go.RowKit
open Go.Proofs.YtjbckijeobmoeaaDoor.natM Go.Proofs.YtjbckijeobmoeaaDoor.natA Go.Proofs.YtjbckijeobmoeaaDoor.natB Go.Proofs.YtjbckijeobmoeaaDoor.natC Go.Proofs.YtjbckijeobmoeaaDoor.natD Go.Proofs.YtjbckijeobmoeaaDoor.natF Go.Proofs.YtjbckijeobmoeaaDoor.natG Go.Proofs.YtjbckijeobmoeaaDoor.natR Go.Proofs.YtjbckijeobmoeaaDoor.natS Go.Proofs.YtjbckijeobmoeaaDoor.natT Go.Proofs.YtjbckijeobmoeaaDoor.natU Go.Proofs.YtjbckijeobmoeaaDoor.natV Go.Proofs.YtjbckijeobmoeaaDoor.natW Go.Proofs.YtjbckijeobmoeaaDoor.natX Go.Proofs.YtjbckijeobmoeaaDoor.numT Go.Proofs.YtjbckijeobmoeaaDoor.ntS Go.Proofs.YtjbckijeobmoeaaDoor.ntP
set_option linter.unusedVariables false

theorem cel_ten (w : World) (T : TypeId) : Cel .i64 (w.alloc (.cells #[.int .i64 10] T)) (some ⟨w.heap.size, 0, none⟩) (dg 65536 1 10) := fun _ => ⟨w.heap.size, 0, rfl, fun j x hx => by
  have hj := lt_of_some hx
  rw [dg_len] at hj
  obtain rfl : j = 0 := by omega
  have e : x = 10 := by simpa [dg] using hx.symm
  subst e
  simp [World.cell?_alloc_new]⟩
theorem cel_dig (w : World) (T : TypeId) (d : Nat) (hd : d < 65536) : Cel .i64 (w.alloc (.cells #[.int .i64 (d : Int)] T)) (some ⟨w.heap.size, 0, none⟩) (dg 65536 1 d) := fun _ => ⟨w.heap.size, 0, rfl, fun j x hx => by
  have hj := lt_of_some hx
  rw [dg_len] at hj
  obtain rfl : j = 0 := by omega
  have e : x = d := by simpa [dg, Nat.mod_eq_of_lt hd] using hx.symm
  subst e
  simp [World.cell?_alloc_new]⟩
theorem cel_ten2 (w : World) (o : Obj) (T : TypeId) : Cel .i64 ((w.alloc o).alloc (.cells #[.int .i64 10] T)) (some ⟨w.heap.size + 1, 0, none⟩) (dg 65536 1 10) := by
  have := cel_ten (w.alloc o) T
  rwa [show (w.alloc o).heap.size = w.heap.size + 1 by simp] at this
theorem cel_dig2 (w : World) (o : Obj) (T : TypeId) (d : Nat) (hd : d < 65536) : Cel .i64 ((w.alloc o).alloc (.cells #[.int .i64 (d : Int)] T)) (some ⟨w.heap.size + 1, 0, none⟩) (dg 65536 1 d) := by
  have := cel_dig (w.alloc o) T d hd
  rwa [show (w.alloc o).heap.size = w.heap.size + 1 by simp] at this
theorem bx_al0 {w : World} {b : Nat} {v : Value} (h : Bx w b v) (o : Obj) : Bx (w.alloc o) b v := h.alloc o
theorem hal_cap {w : World} {A : Option Addr} {n c v : Nat} (h : Hal w A n c v) : n ≤ c := h.2.1
theorem big_pow2 {k : Nat} (h : k ≤ 620) : (10 : Nat) ^ k ≤ 65536 ^ 130 := pow_chain (m := 20) (n := 31) (by omega) h (by decide)
theorem len_bd {s : ByteArray} {k V : Nat} (hs : s.size ≤ 620) (hd : digs (s.data.toList.take k) = true) (hV : V = valN (s.data.toList.take k)) : nlen 65536 V ≤ 130 := by
  have h1 := digs_lt _ hd
  have h2 : (s.data.toList.take k).length ≤ 620 := by rw [List.length_take, ← size_len]; omega
  rw [← hV] at h1
  exact nlen_le (by omega) (Nat.lt_of_lt_of_le h1 (big_pow2 h2))
theorem bad_ref {s : ByteArray} (hR : refB s.data.toList = digs s.data.toList) (hl : ¬ 620 < s.data.toList.length) (h : digs s.data.toList = false) : npE s.data.toList = 1 ∧ npV s.data.toList = 0 := np_no hl (hR.trans h)

set_option maxHeartbeats 1600000 in
theorem rparse_long (s : ByteArray) (hs : s.size ≤ 9223372036854775807) (h : (620 : Int) < (s.size : Int)) (w : World) :
    Calls Tryd.prog 5 #[.string s] w (ResP 0 3 w) := by
  go_enter Tryd.func5, Tryd.ntmps5
  go_wp2_with fail
  refine bodyPost_ret (v := .tuple #[.agg #[.slice none 0 0], .int .i64 3]) (by simp [results, Tryd.results5, go_sem, World.cell?_alloc_new]) rfl ?_
  exact ⟨none, 0, 0, rfl, Num.nil _, below_new _ _⟩
set_option maxHeartbeats 1600000 in
theorem rparse_empty (s : ByteArray) (h : decide ((620 : Int) < (s.size : Int)) = false) (h0 : (s.toList == []) = true) (w : World) :
    Calls Tryd.prog 5 #[.string s] w (ResP 0 1 w) := by
  go_enter Tryd.func5, Tryd.ntmps5
  go_wp2_with fail
  refine bodyPost_ret (v := .tuple #[.agg #[.slice none 0 0], .int .i64 1]) (by simp [results, Tryd.results5, go_sem, World.cell?_alloc_new]) rfl ?_
  exact ⟨none, 0, 0, rfl, Num.nil _, below_new _ _⟩
set_option maxHeartbeats 1600000 in
theorem rparse_zero (s : ByteArray) (hs : s.size ≤ 620) (h : decide ((620 : Int) < (s.size : Int)) = false) (h0 : (s.toList == []) = false) (p0 : 0 < s.size) (p1 : ((s[0].toNat : Int) == 48) = true) (h1 : 1 < s.size) (w : World) :
    Calls Tryd.prog 5 #[.string s] w (ResP 0 1 w) := by
  go_enter Tryd.func5, Tryd.ntmps5
  go_wp2_with fail
  refine bodyPost_ret (v := .tuple #[.agg #[.slice none 0 0], .int .i64 1]) (by simp [results, Tryd.results5, go_sem, World.cell?_alloc_new]) rfl ?_
  exact ⟨none, 0, 0, rfl, Num.nil _, below_new _ _⟩

set_option maxHeartbeats 8000000 in
theorem rparse_main (s : ByteArray) (hs : s.size ≤ 620) (h : decide ((620 : Int) < (s.size : Int)) = false) (h0 : (s.toList == []) = false) (p0 : 0 < s.size) (p1 : ((s[0].toNat : Int) == 48) = false) (hR : Hid (refB s.data.toList = digs s.data.toList)) (hl : Hid (¬ 620 < s.data.toList.length)) (w : World) :
    Calls Tryd.prog 5 #[.string s] w (ResP (npV s.data.toList) (npE s.data.toList) w) := by
  have H10 : Hid (10 < 65536 ^ 1) := Lib.hid (by decide)
  go_enter Tryd.func5, Tryd.ntmps5
  go_wp2_with fail
  go_loopw [4, 5] (fun s4 s5 wr => ∃ (k V n1 c1 : Nat) (A1 : Option Addr), k ≤ s.size ∧ s5 = .int .i64 (k : Int) ∧ s4 = .slice A1 n1 c1 ∧ Hid (digs (s.data.toList.take k) = true) ∧ Hid (V = valN (s.data.toList.take k)) ∧ Hid (Hal wr A1 n1 c1 V) ∧ Hid (Bx wr w.heap.size (.slice none 0 0)) ∧ Hid (Below w.heap.size w wr)) (fun _ s5 _ => s.size - (intOf s5).toNat)
  case atStart => exact ⟨0, 0, 0, 0, none, Nat.zero_le _, rfl, rfl, Lib.hid rfl, Lib.hid rfl, Lib.hid (Hal.nil _ _), Lib.hid (Bx.new_ _ _ _), Lib.hid (below_new _ _)⟩
  case round =>
    obtain ⟨k, V, n1, c1, A1, hk, rfl, rfl, HD, HV, HH, HX, HB⟩ := hrel
    have n130 : Hid (n1 ≤ 130) := Lib.hid (by rw [HH.out.1]; exact len_bd hs HD.out HV.out)
    have xr := HX.out.cell
    have fr := HX.out.free
    by_cases hlt : k < s.size
    · by_cases hd1 : (s[k].toNat : Int) < 48
      · have E := Lib.hid (bad_ref hR.out hl.out (digs_bad s k hlt (.inl hd1)))
        go_wp2_with fail
        have xs := set_same HX.out
        refine bodyPost_ret (v := .tuple #[.agg #[.slice none 0 0], .int .i64 1]) (by simp [results, Tryd.results5, go_sem, xs]) rfl ?_
        exact ⟨none, 0, 0, by rw [E.out.1], by rw [E.out.2]; exact Num.nil _, HB.out.setCell (by simp) _⟩
      · by_cases hd2 : (57 : Int) < (s[k].toNat : Int)
        · have E := Lib.hid (bad_ref hR.out hl.out (digs_bad s k hlt (.inr hd2)))
          have t1 : decide ((s[k].toNat : Int) < 48) = false := decide_eq_false hd1
          go_wp2_with fail
          have xs := set_same HX.out
          refine bodyPost_ret (v := .tuple #[.agg #[.slice none 0 0], .int .i64 1]) (by simp [results, Tryd.results5, go_sem, xs]) rfl ?_
          exact ⟨none, 0, 0, by rw [E.out.1], by rw [E.out.2]; exact Num.nil _, HB.out.setCell (by simp) _⟩
        · have t1 : decide ((s[k].toNat : Int) < 48) = false := decide_eq_false hd1
          have t2 : decide ((57 : Int) < (s[k].toNat : Int)) = false := decide_eq_false hd2
          have HD2 := Lib.hid (digs_more s k hlt HD.out hd1 hd2)
          have HVs := Lib.hid (valN_take s k hlt)
          obtain ⟨d, hdd⟩ : ∃ d, d = s[k].toNat - 48 := ⟨_, rfl⟩
          have f1 : (s[k].toNat : Int) - 48 = (d : Int) := by omega
          have f2 : IntKind.i64.wrap (s[k].toNat : Int) = (s[k].toNat : Int) := by simp [IntKind.wrap, IntKind.bits, IntKind.signed]; omega
          have f3 : IntKind.i64.wrap ((d : Nat) : Int) = (d : Int) := by simp [IntKind.wrap, IntKind.bits, IntKind.signed]; omega
          have d10 : d < 65536 := by omega
          have HDN : Hid (d < 65536 ^ 1) := Lib.hid (by simpa using d10)
          obtain ⟨DN, hDN⟩ : ∃ DN, Hid (DN = nlen 65536 d) := ⟨_, Lib.hid rfl⟩
          have HDL : Hid (d < 65536 ^ DN) := Lib.hid (by rw [hDN.out]; exact nlen_lt (by omega) d)
          have hDN1 : DN ≤ 1 := by rw [hDN.out]; exact nlen_le (by omega) HDN.out
          have HV2 : Hid (V * 10 + d = valN (s.data.toList.take (k + 1))) := Lib.hid (by rw [HVs.out, HV.out, hdd]; omega)
          have L2 : Hid (nlen 65536 (V * 10) ≤ 130) := Lib.hid (Nat.le_trans (nlen_mono (by omega) (by have := HV2.out; omega)) (len_bd hs HD2.out HV2.out))
          have HD10 := Lib.hid d10
          have Hlt := Lib.hid hlt
          clear hdd HVs hd1 hd2 d10
          go_wp2_with fail
          have ne0 := World.new_ne wr _ xr
          go_region_held3 (fun w' => w'.cell? ⟨w.heap.size, 0, none⟩ = some (.slice none 0 0)) (go_keep)
            (first
              | (go_at_call 17; first
                | ((with_reducible refine (rmul_any A1 (some ⟨wr.heap.size, 0, none⟩) n1 c1 1 1 V 10 (Lib.hid HH.out.lt) H10 (by have := n130.out; omega) (by omega) (wr.alloc _).drew (cel_drew ((hal_cel HH.out).alloc _)) (cel_drew (cel_ten wr _))).mono ?_); rintro e w3 ⟨A3, n3, c3, rfl, hh, _, hb⟩; have H3 := Lib.hid hh; have B3 := Lib.hid (below_on (bel_drew (HB.out.alloc HB.out.size _)) hb); have X3 := Lib.hid ((bx_drew (HX.out.alloc _)).below hb); have x3 := X3.out.cell; have ne3 := World.new_ne w3 _ x3; have l3 : Hid (n3 ≤ 130) := Lib.hid (by rw [hal_len hh]; exact L2.out); clear hb hh)
                | ((with_reducible refine (rmul_any A1 (some ⟨wr.heap.size, 0, none⟩) n1 c1 1 1 V 10 (Lib.hid HH.out.lt) H10 (by have := n130.out; omega) (by omega) ((wr.alloc _).alloc _).drew (cel_drew (((hal_cel HH.out).alloc _).alloc _)) (cel_drew ((cel_ten wr _).alloc _))).mono ?_); rintro e w3 ⟨A3, n3, c3, rfl, hh, _, hb⟩; have H3 := Lib.hid hh; have B3 := Lib.hid (below_on (bel_drew ((HB.out.alloc HB.out.size _).alloc (by have := HB.out.size; simp; omega) _)) hb); have X3 := Lib.hid ((bx_drew ((HX.out.alloc _).alloc _)).below hb); have x3 := X3.out.cell; have ne3 := World.new_ne w3 _ x3; have l3 : Hid (n3 ≤ 130) := Lib.hid (by rw [hal_len hh]; exact L2.out); have D3 := Lib.hid ((cel_drew (cel_dig2 wr _ _ d HD10.out)).below hb); clear hb hh)
                | ((with_reducible refine (rmul_any A1 (some ⟨wr.heap.size + 1, 0, none⟩) n1 c1 1 1 V 10 (Lib.hid HH.out.lt) H10 (by have := n130.out; omega) (by omega) ((wr.alloc _).alloc _).drew (cel_drew (((hal_cel HH.out).alloc _).alloc _)) (cel_drew (cel_ten2 wr _ _))).mono ?_); rintro e w3 ⟨A3, n3, c3, rfl, hh, _, hb⟩; have H3 := Lib.hid hh; have B3 := Lib.hid (below_on (bel_drew ((HB.out.alloc HB.out.size _).alloc (by have := HB.out.size; simp; omega) _)) hb); have X3 := Lib.hid ((bx_drew ((HX.out.alloc _).alloc _)).below hb); have x3 := X3.out.cell; have ne3 := World.new_ne w3 _ x3; have l3 : Hid (n3 ≤ 130) := Lib.hid (by rw [hal_len hh]; exact L2.out); have D3 := Lib.hid ((cel_drew ((cel_dig wr _ d HD10.out).alloc _)).below hb); clear hb hh))
              | (go_at_call 18; first
                | ((with_reducible refine (rtrim_any (some ⟨w3.heap.size, 0, none⟩) 1 1 d DN HDN hDN (Nat.le_refl _) (by omega) (w3.alloc _) (cel_dig w3 _ d HD10.out)).mono ?_); rintro e w4 ⟨rfl, rfl⟩)
                | ((with_reducible refine (rtrim_any (some ⟨wr.heap.size + 1, 0, none⟩) 1 1 d DN HDN hDN (Nat.le_refl _) (by omega) w3 D3.out).mono ?_); rintro e w4 ⟨rfl, rfl⟩)
                | ((with_reducible refine (rtrim_any (some ⟨wr.heap.size, 0, none⟩) 1 1 d DN HDN hDN (Nat.le_refl _) (by omega) w3 D3.out).mono ?_); rintro e w4 ⟨rfl, rfl⟩))
              | (go_at_call 16; first
                | ((with_reducible refine (radd_any A3 (some ⟨w3.heap.size, 0, none⟩) n3 c3 DN 1 (V * 10) d (Lib.hid H3.out.lt) HDL (by have := l3.out; omega) (by omega) (w3.alloc _) ((hal_cel H3.out).alloc _) (cel_low (cel_dig w3 _ d HD10.out) hDN1)).mono ?_); rintro e w5 ⟨A5, n5, c5, rfl, hh, _, hb⟩; have H5 := Lib.hid hh; have B5 := Lib.hid (below_on (B3.out.alloc B3.out.size _) hb); have X5 := Lib.hid ((X3.out.alloc _).below hb); have x5 := X5.out.cell; have ne5 := World.new_ne w5 _ x5; clear hb hh)
                | ((with_reducible refine (radd_any A3 (some ⟨wr.heap.size + 1, 0, none⟩) n3 c3 DN 1 (V * 10) d (Lib.hid H3.out.lt) HDL (by have := l3.out; omega) (by omega) w3 (hal_cel H3.out) (cel_low D3.out hDN1)).mono ?_); rintro e w5 ⟨A5, n5, c5, rfl, hh, _, hb⟩; have H5 := Lib.hid hh; have B5 := Lib.hid (below_on B3.out hb); have X5 := Lib.hid ((X3.out).below hb); have x5 := X5.out.cell; have ne5 := World.new_ne w5 _ x5; clear hb hh)
                | ((with_reducible refine (radd_any A3 (some ⟨wr.heap.size, 0, none⟩) n3 c3 DN 1 (V * 10) d (Lib.hid H3.out.lt) HDL (by have := l3.out; omega) (by omega) w3 (hal_cel H3.out) (cel_low D3.out hDN1)).mono ?_); rintro e w5 ⟨A5, n5, c5, rfl, hh, _, hb⟩; have H5 := Lib.hid hh; have B5 := Lib.hid (below_on B3.out hb); have X5 := Lib.hid ((X3.out).below hb); have x5 := X5.out.cell; have ne5 := World.new_ne w5 _ x5; clear hb hh)))
          all_goals go_wp2_with fail
          all_goals go_roundw
          all_goals first
            | (case rel => exact ⟨k + 1, V * 10 + d, n5, c5, A5, by have := Hlt.out; omega, by go_num, rfl, HD2, HV2, H5, X5, B5⟩)
            | (case measure => have := Hlt.out; simp [intOf]; omega)
    · have ek : k = s.size := by omega
      have HDA : Hid (digs s.data.toList = true) := Lib.hid (digs_all s (by rw [← ek]; exact HD.out))
      have HVA : Hid (V = valN s.data.toList) := Lib.hid (by rw [HV.out, ek, valN_all])
      have hlt2 : decide ((k : Int) < (s.size : Int)) = false := decide_eq_false (by omega)
      have hlt3 : decide (k < s.size) = false := decide_eq_false hlt
      have E := Lib.hid (np_yes hl.out (hR.out.trans HDA.out))
      clear ek
      by_cases hbig : 64 < nlen 4294967296 V
      · have E2 := Lib.hid (r_big hbig)
        have cw := fun w hI => whole_big A1 n1 c1 V (Lib.hid HH.out.lt) (hal_cap HH.out) (by have := n130.out; omega) hbig w hI
        clear hbig
        go_wp2_with (go_at_call 19; (with_reducible refine (cw wr (hal_cel HH.out)).mono ?_); rintro e w6 ⟨rfl, hb⟩; have B6 := Lib.hid (below_on HB.out hb); have X6 := Lib.hid (HX.out.below hb); have X7 := fun o => bx_al0 X6.out o; have x7 := fun o => (X7 o).cell; have f7 := fun o => (X7 o).free; clear hb)
        have xs := fun o u => set_same (X7 o) u
        refine bodyPost_ret (v := .tuple #[.agg #[.slice none 0 0], .int .i64 9]) (by simp [results, Tryd.results5, go_sem, xs]) rfl ?_
        exact ⟨none, 0, 0, by rw [E.out.1, ← HVA.out, E2.out.1], by rw [E.out.2, ← HVA.out, E2.out.2]; exact Num.nil _, (B6.out.alloc B6.out.size _).setCell (by simp) _⟩
      · have hok : nlen 4294967296 V ≤ 64 := by omega
        have E2 := Lib.hid (r_ok hok)
        have cw := fun w hI => whole_ok A1 n1 c1 V (Lib.hid HH.out.lt) (hal_cap HH.out) (by have := n130.out; omega) hok w hI
        clear hbig hok
        go_wp2_with (go_at_call 19; (with_reducible refine (cw wr (hal_cel HH.out)).mono ?_); rintro e w6 ⟨A6, n6, c6, rfl, hn, hnw, hb⟩; have N6 := Lib.hid hn; have FR := Lib.hid (hnw.far HX.out.lt); have B6 := Lib.hid (below_on HB.out hb); have X6 := Lib.hid (HX.out.below hb); have X7 := fun o => bx_al0 X6.out o; have x7 := fun o => (X7 o).cell; have f7 := fun o => (X7 o).free; clear hb hn hnw)
        have xs := fun o u => set_same (X7 o) u
        refine bodyPost_ret (v := .tuple #[.agg #[.slice A6 n6 c6], .int .i64 0]) (by simp [results, Tryd.results5, go_sem, xs]) rfl ?_
        exact ⟨A6, n6, c6, by rw [E.out.1, ← HVA.out, E2.out.1], by rw [E.out.2, ← HVA.out, E2.out.2]; exact num_set (N6.out.below (below_new _ _)) FR.out _, (B6.out.alloc B6.out.size _).setCell (by simp) _⟩

set_option maxHeartbeats 8000000 in
theorem rparse_main2 (s : ByteArray) (hs : s.size ≤ 620) (h : decide ((620 : Int) < (s.size : Int)) = false) (h0 : (s.toList == []) = false) (p0 : 0 < s.size) (p1 : ((s[0].toNat : Int) == 48) = true) (h1 : decide ((1 : Int) < (s.size : Int)) = false) (h2 : decide (1 < s.size) = false) (hR : Hid (refB s.data.toList = digs s.data.toList)) (hl : Hid (¬ 620 < s.data.toList.length)) (w : World) :
    Calls Tryd.prog 5 #[.string s] w (ResP (npV s.data.toList) (npE s.data.toList) w) := by
  have H10 : Hid (10 < 65536 ^ 1) := Lib.hid (by decide)
  go_enter Tryd.func5, Tryd.ntmps5
  go_wp2_with fail
  go_loopw [4, 5] (fun s4 s5 wr => ∃ (k V n1 c1 : Nat) (A1 : Option Addr), k ≤ s.size ∧ s5 = .int .i64 (k : Int) ∧ s4 = .slice A1 n1 c1 ∧ Hid (digs (s.data.toList.take k) = true) ∧ Hid (V = valN (s.data.toList.take k)) ∧ Hid (Hal wr A1 n1 c1 V) ∧ Hid (Bx wr w.heap.size (.slice none 0 0)) ∧ Hid (Below w.heap.size w wr)) (fun _ s5 _ => s.size - (intOf s5).toNat)
  case atStart => exact ⟨0, 0, 0, 0, none, Nat.zero_le _, rfl, rfl, Lib.hid rfl, Lib.hid rfl, Lib.hid (Hal.nil _ _), Lib.hid (Bx.new_ _ _ _), Lib.hid (below_new _ _)⟩
  case round =>
    obtain ⟨k, V, n1, c1, A1, hk, rfl, rfl, HD, HV, HH, HX, HB⟩ := hrel
    have n130 : Hid (n1 ≤ 130) := Lib.hid (by rw [HH.out.1]; exact len_bd hs HD.out HV.out)
    have xr := HX.out.cell
    have fr := HX.out.free
    by_cases hlt : k < s.size
    · by_cases hd1 : (s[k].toNat : Int) < 48
      · have E := Lib.hid (bad_ref hR.out hl.out (digs_bad s k hlt (.inl hd1)))
        go_wp2_with fail
        have xs := set_same HX.out
        refine bodyPost_ret (v := .tuple #[.agg #[.slice none 0 0], .int .i64 1]) (by simp [results, Tryd.results5, go_sem, xs]) rfl ?_
        exact ⟨none, 0, 0, by rw [E.out.1], by rw [E.out.2]; exact Num.nil _, HB.out.setCell (by simp) _⟩
      · by_cases hd2 : (57 : Int) < (s[k].toNat : Int)
        · have E := Lib.hid (bad_ref hR.out hl.out (digs_bad s k hlt (.inr hd2)))
          have t1 : decide ((s[k].toNat : Int) < 48) = false := decide_eq_false hd1
          go_wp2_with fail
          have xs := set_same HX.out
          refine bodyPost_ret (v := .tuple #[.agg #[.slice none 0 0], .int .i64 1]) (by simp [results, Tryd.results5, go_sem, xs]) rfl ?_
          exact ⟨none, 0, 0, by rw [E.out.1], by rw [E.out.2]; exact Num.nil _, HB.out.setCell (by simp) _⟩
        · have t1 : decide ((s[k].toNat : Int) < 48) = false := decide_eq_false hd1
          have t2 : decide ((57 : Int) < (s[k].toNat : Int)) = false := decide_eq_false hd2
          have HD2 := Lib.hid (digs_more s k hlt HD.out hd1 hd2)
          have HVs := Lib.hid (valN_take s k hlt)
          obtain ⟨d, hdd⟩ : ∃ d, d = s[k].toNat - 48 := ⟨_, rfl⟩
          have f1 : (s[k].toNat : Int) - 48 = (d : Int) := by omega
          have f2 : IntKind.i64.wrap (s[k].toNat : Int) = (s[k].toNat : Int) := by simp [IntKind.wrap, IntKind.bits, IntKind.signed]; omega
          have f3 : IntKind.i64.wrap ((d : Nat) : Int) = (d : Int) := by simp [IntKind.wrap, IntKind.bits, IntKind.signed]; omega
          have d10 : d < 65536 := by omega
          have HDN : Hid (d < 65536 ^ 1) := Lib.hid (by simpa using d10)
          obtain ⟨DN, hDN⟩ : ∃ DN, Hid (DN = nlen 65536 d) := ⟨_, Lib.hid rfl⟩
          have HDL : Hid (d < 65536 ^ DN) := Lib.hid (by rw [hDN.out]; exact nlen_lt (by omega) d)
          have hDN1 : DN ≤ 1 := by rw [hDN.out]; exact nlen_le (by omega) HDN.out
          have HV2 : Hid (V * 10 + d = valN (s.data.toList.take (k + 1))) := Lib.hid (by rw [HVs.out, HV.out, hdd]; omega)
          have L2 : Hid (nlen 65536 (V * 10) ≤ 130) := Lib.hid (Nat.le_trans (nlen_mono (by omega) (by have := HV2.out; omega)) (len_bd hs HD2.out HV2.out))
          have HD10 := Lib.hid d10
          have Hlt := Lib.hid hlt
          clear hdd HVs hd1 hd2 d10
          go_wp2_with fail
          have ne0 := World.new_ne wr _ xr
          go_region_held3 (fun w' => w'.cell? ⟨w.heap.size, 0, none⟩ = some (.slice none 0 0)) (go_keep)
            (first
              | (go_at_call 17; first
                | ((with_reducible refine (rmul_any A1 (some ⟨wr.heap.size, 0, none⟩) n1 c1 1 1 V 10 (Lib.hid HH.out.lt) H10 (by have := n130.out; omega) (by omega) (wr.alloc _).drew (cel_drew ((hal_cel HH.out).alloc _)) (cel_drew (cel_ten wr _))).mono ?_); rintro e w3 ⟨A3, n3, c3, rfl, hh, _, hb⟩; have H3 := Lib.hid hh; have B3 := Lib.hid (below_on (bel_drew (HB.out.alloc HB.out.size _)) hb); have X3 := Lib.hid ((bx_drew (HX.out.alloc _)).below hb); have x3 := X3.out.cell; have ne3 := World.new_ne w3 _ x3; have l3 : Hid (n3 ≤ 130) := Lib.hid (by rw [hal_len hh]; exact L2.out); clear hb hh)
                | ((with_reducible refine (rmul_any A1 (some ⟨wr.heap.size, 0, none⟩) n1 c1 1 1 V 10 (Lib.hid HH.out.lt) H10 (by have := n130.out; omega) (by omega) ((wr.alloc _).alloc _).drew (cel_drew (((hal_cel HH.out).alloc _).alloc _)) (cel_drew ((cel_ten wr _).alloc _))).mono ?_); rintro e w3 ⟨A3, n3, c3, rfl, hh, _, hb⟩; have H3 := Lib.hid hh; have B3 := Lib.hid (below_on (bel_drew ((HB.out.alloc HB.out.size _).alloc (by have := HB.out.size; simp; omega) _)) hb); have X3 := Lib.hid ((bx_drew ((HX.out.alloc _).alloc _)).below hb); have x3 := X3.out.cell; have ne3 := World.new_ne w3 _ x3; have l3 : Hid (n3 ≤ 130) := Lib.hid (by rw [hal_len hh]; exact L2.out); have D3 := Lib.hid ((cel_drew (cel_dig2 wr _ _ d HD10.out)).below hb); clear hb hh)
                | ((with_reducible refine (rmul_any A1 (some ⟨wr.heap.size + 1, 0, none⟩) n1 c1 1 1 V 10 (Lib.hid HH.out.lt) H10 (by have := n130.out; omega) (by omega) ((wr.alloc _).alloc _).drew (cel_drew (((hal_cel HH.out).alloc _).alloc _)) (cel_drew (cel_ten2 wr _ _))).mono ?_); rintro e w3 ⟨A3, n3, c3, rfl, hh, _, hb⟩; have H3 := Lib.hid hh; have B3 := Lib.hid (below_on (bel_drew ((HB.out.alloc HB.out.size _).alloc (by have := HB.out.size; simp; omega) _)) hb); have X3 := Lib.hid ((bx_drew ((HX.out.alloc _).alloc _)).below hb); have x3 := X3.out.cell; have ne3 := World.new_ne w3 _ x3; have l3 : Hid (n3 ≤ 130) := Lib.hid (by rw [hal_len hh]; exact L2.out); have D3 := Lib.hid ((cel_drew ((cel_dig wr _ d HD10.out).alloc _)).below hb); clear hb hh))
              | (go_at_call 18; first
                | ((with_reducible refine (rtrim_any (some ⟨w3.heap.size, 0, none⟩) 1 1 d DN HDN hDN (Nat.le_refl _) (by omega) (w3.alloc _) (cel_dig w3 _ d HD10.out)).mono ?_); rintro e w4 ⟨rfl, rfl⟩)
                | ((with_reducible refine (rtrim_any (some ⟨wr.heap.size + 1, 0, none⟩) 1 1 d DN HDN hDN (Nat.le_refl _) (by omega) w3 D3.out).mono ?_); rintro e w4 ⟨rfl, rfl⟩)
                | ((with_reducible refine (rtrim_any (some ⟨wr.heap.size, 0, none⟩) 1 1 d DN HDN hDN (Nat.le_refl _) (by omega) w3 D3.out).mono ?_); rintro e w4 ⟨rfl, rfl⟩))
              | (go_at_call 16; first
                | ((with_reducible refine (radd_any A3 (some ⟨w3.heap.size, 0, none⟩) n3 c3 DN 1 (V * 10) d (Lib.hid H3.out.lt) HDL (by have := l3.out; omega) (by omega) (w3.alloc _) ((hal_cel H3.out).alloc _) (cel_low (cel_dig w3 _ d HD10.out) hDN1)).mono ?_); rintro e w5 ⟨A5, n5, c5, rfl, hh, _, hb⟩; have H5 := Lib.hid hh; have B5 := Lib.hid (below_on (B3.out.alloc B3.out.size _) hb); have X5 := Lib.hid ((X3.out.alloc _).below hb); have x5 := X5.out.cell; have ne5 := World.new_ne w5 _ x5; clear hb hh)
                | ((with_reducible refine (radd_any A3 (some ⟨wr.heap.size + 1, 0, none⟩) n3 c3 DN 1 (V * 10) d (Lib.hid H3.out.lt) HDL (by have := l3.out; omega) (by omega) w3 (hal_cel H3.out) (cel_low D3.out hDN1)).mono ?_); rintro e w5 ⟨A5, n5, c5, rfl, hh, _, hb⟩; have H5 := Lib.hid hh; have B5 := Lib.hid (below_on B3.out hb); have X5 := Lib.hid ((X3.out).below hb); have x5 := X5.out.cell; have ne5 := World.new_ne w5 _ x5; clear hb hh)
                | ((with_reducible refine (radd_any A3 (some ⟨wr.heap.size, 0, none⟩) n3 c3 DN 1 (V * 10) d (Lib.hid H3.out.lt) HDL (by have := l3.out; omega) (by omega) w3 (hal_cel H3.out) (cel_low D3.out hDN1)).mono ?_); rintro e w5 ⟨A5, n5, c5, rfl, hh, _, hb⟩; have H5 := Lib.hid hh; have B5 := Lib.hid (below_on B3.out hb); have X5 := Lib.hid ((X3.out).below hb); have x5 := X5.out.cell; have ne5 := World.new_ne w5 _ x5; clear hb hh)))
          all_goals go_wp2_with fail
          all_goals go_roundw
          all_goals first
            | (case rel => exact ⟨k + 1, V * 10 + d, n5, c5, A5, by have := Hlt.out; omega, by go_num, rfl, HD2, HV2, H5, X5, B5⟩)
            | (case measure => have := Hlt.out; simp [intOf]; omega)
    · have ek : k = s.size := by omega
      have HDA : Hid (digs s.data.toList = true) := Lib.hid (digs_all s (by rw [← ek]; exact HD.out))
      have HVA : Hid (V = valN s.data.toList) := Lib.hid (by rw [HV.out, ek, valN_all])
      have hlt2 : decide ((k : Int) < (s.size : Int)) = false := decide_eq_false (by omega)
      have hlt3 : decide (k < s.size) = false := decide_eq_false hlt
      have E := Lib.hid (np_yes hl.out (hR.out.trans HDA.out))
      clear ek
      by_cases hbig : 64 < nlen 4294967296 V
      · have E2 := Lib.hid (r_big hbig)
        have cw := fun w hI => whole_big A1 n1 c1 V (Lib.hid HH.out.lt) (hal_cap HH.out) (by have := n130.out; omega) hbig w hI
        clear hbig
        go_wp2_with (go_at_call 19; (with_reducible refine (cw wr (hal_cel HH.out)).mono ?_); rintro e w6 ⟨rfl, hb⟩; have B6 := Lib.hid (below_on HB.out hb); have X6 := Lib.hid (HX.out.below hb); have X7 := fun o => bx_al0 X6.out o; have x7 := fun o => (X7 o).cell; have f7 := fun o => (X7 o).free; clear hb)
        have xs := fun o u => set_same (X7 o) u
        refine bodyPost_ret (v := .tuple #[.agg #[.slice none 0 0], .int .i64 9]) (by simp [results, Tryd.results5, go_sem, xs]) rfl ?_
        exact ⟨none, 0, 0, by rw [E.out.1, ← HVA.out, E2.out.1], by rw [E.out.2, ← HVA.out, E2.out.2]; exact Num.nil _, (B6.out.alloc B6.out.size _).setCell (by simp) _⟩
      · have hok : nlen 4294967296 V ≤ 64 := by omega
        have E2 := Lib.hid (r_ok hok)
        have cw := fun w hI => whole_ok A1 n1 c1 V (Lib.hid HH.out.lt) (hal_cap HH.out) (by have := n130.out; omega) hok w hI
        clear hbig hok
        go_wp2_with (go_at_call 19; (with_reducible refine (cw wr (hal_cel HH.out)).mono ?_); rintro e w6 ⟨A6, n6, c6, rfl, hn, hnw, hb⟩; have N6 := Lib.hid hn; have FR := Lib.hid (hnw.far HX.out.lt); have B6 := Lib.hid (below_on HB.out hb); have X6 := Lib.hid (HX.out.below hb); have X7 := fun o => bx_al0 X6.out o; have x7 := fun o => (X7 o).cell; have f7 := fun o => (X7 o).free; clear hb hn hnw)
        have xs := fun o u => set_same (X7 o) u
        refine bodyPost_ret (v := .tuple #[.agg #[.slice A6 n6 c6], .int .i64 0]) (by simp [results, Tryd.results5, go_sem, xs]) rfl ?_
        exact ⟨A6, n6, c6, by rw [E.out.1, ← HVA.out, E2.out.1], by rw [E.out.2, ← HVA.out, E2.out.2]; exact num_set (N6.out.below (below_new _ _)) FR.out _, (B6.out.alloc B6.out.size _).setCell (by simp) _⟩

theorem rparse_any (s : ByteArray) (hs : s.size ≤ 9223372036854775807) (w : World) :
    Calls Tryd.prog 5 #[.string s] w (ResP (npV s.data.toList) (npE s.data.toList) w) := by
  by_cases h : 620 < s.data.toList.length
  · rw [(np_long h).1, (np_long h).2]
    rw [← size_len] at h
    exact rparse_long s hs (by omega) w
  · have hz : s.size ≤ 620 := by rw [size_len]; omega
    have h2 : decide ((620 : Int) < (s.size : Int)) = false := decide_eq_false (by omega)
    by_cases p0 : 0 < s.size
    · by_cases p1 : ((s[0].toNat : Int) == 48) = true
      · by_cases h1 : 1 < s.size
        · rw [(np_no h (refB_zero s h1 p1)).1, (np_no h (refB_zero s h1 p1)).2]
          exact rparse_zero s hz h2 (not_nil p0) p0 p1 h1 w
        · exact rparse_main2 s hz h2 (not_nil p0) p0 p1 (decide_eq_false (by omega)) (decide_eq_false h1) (Lib.hid (refB_one s p0 h1)) (Lib.hid h) w
      · have p1' : ((s[0].toNat : Int) == 48) = false := by simpa using p1
        have hr : refB s.data.toList = digs s.data.toList := by
          by_cases h1 : 1 < s.size
          · exact refB_more s h1 p1'
          · exact refB_one s p0 h1
        exact rparse_main s hz h2 (not_nil p0) p0 p1' (Lib.hid hr) (Lib.hid h) w
    · rw [(np_no h (refB_empty s p0)).1, (np_no h (refB_empty s p0)).2]
      exact rparse_empty s h2 (is_nil p0) w
end Go.Proofs.YtjbckijeobmoeaaDoor.ntR

/-
  The examples of the chapter: awake.
-/
import Derived.Test.YtjblfmgiafdefaaCbB
import Derived.Test.YtjblfmgiafdefaaCbF
import Derived.Test.YtjblfmgiafdefaaCbG
import Derived.Test.YtjblfmgiafdefaaNatX
namespace Go.Proofs.Ytjblfmgiafdefaa.cbH
open Go.RowKit
open Go.Proofs.Ytjblfmgiafdefaa.natM Go.Proofs.Ytjblfmgiafdefaa.natA Go.Proofs.Ytjblfmgiafdefaa.natB Go.Proofs.Ytjblfmgiafdefaa.natF Go.Proofs.Ytjblfmgiafdefaa.natG Go.Proofs.Ytjblfmgiafdefaa.natX Go.Proofs.Ytjblfmgiafdefaa.natUi Go.Proofs.Ytjblfmgiafdefaa.frA Go.Proofs.Ytjblfmgiafdefaa.frB Go.Proofs.Ytjblfmgiafdefaa.monB Go.Proofs.Ytjblfmgiafdefaa.monC Go.Proofs.Ytjblfmgiafdefaa.cbM Go.Proofs.Ytjblfmgiafdefaa.cbA Go.Proofs.Ytjblfmgiafdefaa.cbB Go.Proofs.Ytjblfmgiafdefaa.cbC Go.Proofs.Ytjblfmgiafdefaa.cbD Go.Proofs.Ytjblfmgiafdefaa.cbE Go.Proofs.Ytjblfmgiafdefaa.cbF Go.Proofs.Ytjblfmgiafdefaa.cbG
set_option linter.unusedVariables false

theorem lit2 (w : World) (g : Nat) (hg : g = w.heap.size) (a b : Int) : Ints (w.alloc (.cells #[.int .i64 a, .int .i64 b] 3)) (some ⟨g, 0, none⟩) [a, b] := (RowI.new_ w [a, b] hg).ints
theorem ints_al {w : World} {A : Option Addr} {zs : List Int} (h : Ints w A zs) (o : Obj) : Ints (w.alloc o) A zs := ints_below h (natA.below_new _ _)
theorem ints_dr {w : World} {A : Option Addr} {zs : List Int} (h : Ints w A zs) (k : Nat) : Ints (w.drewN k) A zs := h
theorem ints_dw {w : World} {A : Option Addr} {zs : List Int} (h : Ints w A zs) : Ints w.drew A zs := h
theorem st_of {n k v x : Nat} (h : ch n k = v) (e : v * (n - k) = x * (k + 1)) : ch n (k + 1) = x := by
  have := ch_step n k
  rw [h, e] at this
  exact Nat.mul_right_cancel (by omega) this
theorem c49 : ch 49 6 = 13983816 := st_of (st_of (st_of (st_of (st_of (st_of (ch_zero 49) (x := 49) rfl) (x := 1176) rfl) (x := 18424) rfl) (x := 211876) rfl) (x := 1906884) rfl) rfl
theorem c43 : ch 43 3 = 12341 := st_of (st_of (st_of (ch_zero 43) (x := 43) rfl) (x := 903) rfl) rfl
theorem c63 : ch 6 3 = 20 := st_of (st_of (st_of (ch_zero 6) (x := 6) rfl) (x := 15) rfl) rfl
theorem c52 : ch 5 2 = 10 := st_of (st_of (ch_zero 5) (x := 5) rfl) rfl
theorem k_count (w : World) : Calls Try.prog 12 #[.int .i64 49, .int .i64 6] w fun e w' => e = .returned (.tuple #[.int .i64 13983816, .int .i64 0]) ∧ ∃ d, w' = w.drewN d := by
  have h := ci (V := 0) (E := 0) (n := 49) (k := 6) (by omega) c49.symm (by omega)
  exact count_any 49 6 13983816 0 (Lib.hid h.1.symm) (Lib.hid h.2.symm) w
theorem k_choose (w : World) : Calls Try.prog 10 #[.int .i64 5, .int .i64 2] w (ResP 10 0 w) := by
  refine choose_any 5 2 10 0 (Lib.hid ?_) (Lib.hid rfl) w
  unfold chV
  rw [if_neg (by omega)]
  exact c52.symm.trans (cC_nat 5 2).symm
theorem k_hits (w : World) : Calls Try.prog 16 #[.int .i64 49, .int .i64 6, .int .i64 6, .int .i64 3] w fun e w' => e = .returned (.tuple #[.int .i64 246820, .int .i64 0]) ∧ ∃ d, w' = w.drewN d := by
  have hq : hC 49 6 6 3 = 246820 := by
    unfold hC
    rw [if_pos (by omega)]
    have h1 : cC 6 3 = 20 := (cC_nat 6 3).trans c63
    have h2 : cC (49 - 6) (6 - 3) = 12341 := (cC_nat 43 3).trans c43
    rw [h1, h2]
  have h := h_ok hq (by omega) (by omega)
  exact hits_any 49 6 6 3 246820 0 (Lib.hid h.1.symm) (Lib.hid h.2.symm) w
theorem k_rank (A : Option Addr) (c : Nat) (w : World) (hI : Ints w A [2, 3]) : Calls Try.prog 18 #[.slice A 2 c, .int .i64 4] w fun e w' => e = .returned (.tuple #[.int .i64 3, .int .i64 0]) ∧ ∃ d, w' = w.drewN d :=
  rank_any A 2 c 4 3 0 [2, 3] (Lib.hid rfl) (by omega) (Lib.hid (by decide)) (Lib.hid (by decide)) w hI
theorem k_unrank (w : World) : Calls Try.prog 23 #[.int .i64 5, .int .i64 4, .int .i64 2] w (UnP [3, 4] 0 w) :=
  unrank_any 5 4 2 [3, 4] 0 (Lib.hid (by decide)) (Lib.hid (by decide)) w
theorem k_next (A : Option Addr) (c : Nat) (w : World) (hI : Ints w A [1, 4]) : Calls Try.prog 20 #[.slice A 2 c, .int .i64 4] w (NextP [2, 3] true w) :=
  next_any A 2 c 4 [1, 4] [2, 3] true (Lib.hid (by decide)) (Lib.hid (by decide)) (Lib.hid rfl) (by omega) w hI
theorem n10 : Hid (1 = nlen 4294967296 10) := Lib.hid (nlen_eq (n := 0) (by omega) (by omega) (by omega)).symm
set_option maxRecDepth 8000 in
set_option maxHeartbeats 8000000 in
theorem awake_any (w : World) : Calls Try.prog 15 #[] w fun e w' => e = .returned (.bool true) ∧ Below w.heap.size w w' := by
  have S0 := Lib.hid (Kp.start w)
  have ko : ∀ w, Calls Try.prog 31 #[.int .u64 10] w (OfP 10 w) := fun w => rof_any 10 (by omega) w
  have ks := fun A D c d w h1 h2 => same_any A D 1 c d 10 (by omega) w h1 h2
  have k34 := fun A B c d w h1 h2 => same_ok A B 2 c d [3, 4] (Lib.hid rfl) (by omega) w h1 h2
  have k23 := fun A B c d w h1 h2 => same_ok A B 2 c d [2, 3] (Lib.hid rfl) (by omega) w h1 h2
  go_enter Try.func15, Try.ntmps15
  go_upto_region 7 with (first
    | (go_at_call 12; (with_reducible refine (k_count _).mono ?_); rintro e w' ⟨rfl, d1, rfl⟩; have S1 := Lib.hid (S0.out.drewN d1))
    | (go_at_call 10; (with_reducible refine (k_choose _).mono ?_); rintro e w2 ⟨A2, n2, c2, rfl, q, hb⟩; obtain ⟨z, q2⟩ := num_at n10.out q; subst z; have S2 := Lib.hid ((S1.out.below hb).addc q2); clear hb q q2)
    | (go_at_call 16; (with_reducible refine (k_hits _).mono ?_); rintro e w' ⟨rfl, d3, rfl⟩; have S3 := Lib.hid ((S2.out.al1 #[.slice A2 1 c2] 24).drewN d3))
    | (go_at_call 18; (with_reducible refine (k_rank _ _ _ (lit2 _ _ (by simp) _ _)).mono ?_); rintro e w' ⟨rfl, d4, rfl⟩; have S4 := Lib.hid ((S3.out.alloc (.cells #[.int .i64 2, .int .i64 3] 3)).drewN d4))
    | (go_at_call 23; (with_reducible refine (k_unrank _).mono ?_); rintro e w5 ⟨A5, n5, c5, rfl, hl, hc, hI, hb⟩; obtain rfl : 2 = n5 := hl; have S5 := Lib.hid (S4.out.below hb); have I5 := Lib.hid hI; clear hb hI hc)
    | (go_at_call 20; (with_reducible refine (k_next _ _ _ (lit2 _ _ (by simp) _ _)).mono ?_); rintro e w6 ⟨A6, n6, c6, rfl, hl, hc, hI, hb⟩; obtain rfl : 2 = n6 := hl; have S6 := Lib.hid ((S5.out.alloc (.cells #[.int .i64 1, .int .i64 4] 3)).below hb); have I6 := Lib.hid hI; have I56 := Lib.hid (ints_below (ints_al I5.out (.cells #[.int .i64 1, .int .i64 4] 3)) hb); clear hb hI hc))
  have x1 := S6.out.b0.one
  go_region_held3 (fun w' => w'.cell? ⟨w2.heap.size, 0, none⟩ = some (.slice A2 1 c2)) (go_keep)
    (first
      | (go_at_call 31; (with_reducible refine (ko _).mono ?_); rintro e w7 ⟨A7, n7, c7, rfl, q, hb⟩; obtain ⟨z, q2⟩ := num_at n10.out q; subst z; have S7 := Lib.hid ((S6.out.drew.below hb).addc q2); have I7 := Lib.hid (ints_below (ints_dw I56.out) hb); have J7 := Lib.hid (ints_below (ints_dw I6.out) hb); have x7 := S7.out.b0.one; clear hb q q2)
      | (go_at_call 14; (with_reducible refine (ks _ _ _ _ _ S7.out.c1 S7.out.c0).mono ?_); rintro e w8 ⟨rfl, hb⟩; have S8 := Lib.hid (S7.out.below hb); have I8 := Lib.hid (ints_below I7.out hb); have J8 := Lib.hid (ints_below J7.out hb); have x8 := S8.out.b0.one; clear hb)
      | (go_at_call 22; first
        | ((with_reducible refine (k34 _ _ _ _ _ (ints_al I8.out _) (lit2 _ _ (by simp) _ _)).mono ?_); rintro e w9 ⟨rfl, d9, rfl⟩)
        | ((with_reducible refine (k23 _ _ _ _ _ (ints_al (ints_dr (ints_al J8.out _) _) _) (lit2 _ _ (by simp) _ _)).mono ?_); rintro e w9 ⟨rfl, d10, rfl⟩)
        | fail))
  go_wp2_with fail
  go_ret
  first
    | exact ⟨rfl, ((((S8.out.alloc _).drewN _).alloc _).drewN _).bel⟩
    | exact ⟨rfl, (((S8.out.alloc _).alloc _).drewN _).bel⟩
    | exact ⟨rfl, ((S8.out.alloc _).alloc _).bel⟩
end Go.Proofs.Ytjblfmgiafdefaa.cbH

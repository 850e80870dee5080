/-
  The contract of nat.Format.
-/
import Derived.Test.YtinceponggpioaaDoorNtM
import Derived.Test.YtinceponggpioaaDoorNtT
import Derived.Laws.IdiomStrings
import Derived.WalkSmall
import Derived.Lib.AppendIntMem
namespace Go.Proofs.YtinceponggpioaaDoor.ntF
open Go.RowKit
open Go.Proofs.YtinceponggpioaaDoor.natM Go.Proofs.YtinceponggpioaaDoor.natA Go.Proofs.YtinceponggpioaaDoor.natB Go.Proofs.YtinceponggpioaaDoor.natC Go.Proofs.YtinceponggpioaaDoor.natD Go.Proofs.YtinceponggpioaaDoor.natF Go.Proofs.YtinceponggpioaaDoor.natG Go.Proofs.YtinceponggpioaaDoor.natS Go.Proofs.YtinceponggpioaaDoor.numT Go.Proofs.YtinceponggpioaaDoor.ntP Go.Proofs.YtinceponggpioaaDoor.ntM Go.Proofs.YtinceponggpioaaDoor.ntT
set_option linter.unusedVariables false

abbrev Tab (w : World) : Prop := Lib.TabIs Tryd.prog w "internal/strconv.uint64pow10" .u64 Lib.pow10Tab
theorem tab_on {w w1 : World} (h : Tab w) (hb : Below w.heap.size w w1) : Tab w1 := Lib.tabBelow_of_tabIs h w1 hb
theorem below_grow (w : World) (k : Nat) (os : Array Obj) : Below w.heap.size w (Sort.grow (w.drewN k) os) :=
  ⟨rfl, rfl, rfl, by simp [Sort.grow], fun j hj => by simp [Sort.grow, Array.getElem?_append, hj]⟩
set_option maxRecDepth 4000 in
set_option maxHeartbeats 400000 in
theorem nfmt_any (r : Nat) (hr : r < 1000000000) (w : World) (htab : Tab w) :
    Calls Tryd.prog 71 #[.int .i64 (r : Int)] w fun e w' => e = .returned (.string ⟨(Lib.decDigits r).toArray⟩) ∧ Below w.heap.size w w' := by
  have ca := Tryd.strconv_Itoa (r : Int) (by omega) (by omega) w htab
  rw [itoa_abs, if_neg (by omega), Int.natAbs_natCast] at ca
  clear htab
  generalize (⟨(Lib.decDigits r).toArray⟩ : ByteArray) = X at *
  go_enter Tryd.func71, Tryd.ntmps71
  go_wp2_with (go_at_call 90; refine ca.mono ?_; rintro e w' ⟨rfl, k, os, hw⟩; have HW := Lib.hid hw; clear hw)
  go_ret
  refine ⟨rfl, ?_⟩
  rw [HW.out]; exact below_grow w k os
theorem rep_any (z : Nat) (hz : z ≤ 9) (w : World) : Calls Tryd.prog 51 #[.string ⟨#[48]⟩, .int .i64 (z : Int)] w fun e w' => e = .returned (.string ⟨(List.replicate z 48).toArray⟩) ∧ Below w.heap.size w w' := by
  have c := Tryd.strings_Repeat ⟨#[48]⟩ z w (by omega) (by show 1 * z ≤ _; omega)
  have e : Lib.repeatL ((⟨#[48]⟩ : ByteArray).data.toList) z = List.replicate z 48 := by
    show Lib.repeatL [48] z = _
    clear c hz
    induction z with
    | zero => rfl
    | succ z ih => rw [List.replicate_succ, ← ih]; rfl
  rw [e] at c
  exact c
set_option maxRecDepth 4000 in
set_option maxHeartbeats 400000 in
theorem tchunk_nil (A : Option Addr) (c : Nat) (w : World) :
    Calls Tryd.prog 72 #[.slice A 0 c] w fun e w' => e = .returned (.int .u32 0) ∧ w = w' := by
  go_enter Tryd.func72, Tryd.ntmps72
  go_wp2
  go_loop [3, 4] (fun h i => h = .int .u64 0 ∧ i = .int .i64 (-1)) (fun _ _ => 0)
  case atStart => exact ⟨rfl, rfl⟩
  case round =>
    obtain ⟨rfl, rfl⟩ := hrel
    go_wp2
    go_ret
    exact ⟨rfl, rfl⟩
theorem clone_pos {A : Option Addr} {n c v : Nat} (hn : n * 4 ≤ 140737488355328) (h0 : 0 < n) (w : World) (hI : Cel .u32 w A (dg 4294967296 n v)) :
    Calls Tryd.prog 59 #[.slice A n c] w (CloneS n v w) := by
  refine (clone_any A n c v hn w hI).mono ?_
  rintro e w' ⟨A2, c2, he, hc, h, hb⟩
  rcases h with ⟨_, h⟩ | ⟨g, rfl, hg, ho⟩
  · omega
  · exact ⟨g, c2, he, hc, hg, ho, hb⟩
theorem clone_zero {A : Option Addr} {c v : Nat} (w : World) (hI : Cel .u32 w A (dg 4294967296 0 v)) :
    Calls Tryd.prog 59 #[.slice A 0 c] w fun e w' => ∃ A2 c2, e = .returned (.slice A2 0 c2) ∧ Below w.heap.size w w' := by
  refine (clone_any A 0 c v (by omega) w hI).mono ?_
  rintro e w' ⟨A2, c2, he, hc, h, hb⟩
  exact ⟨A2, c2, he, hb⟩
set_option maxRecDepth 4000 in
set_option maxHeartbeats 1600000 in
theorem nformat_no (A : Option Addr) (n c X : Nat) (hX : Hid (X < 4294967296 ^ n)) (ha : Hid (false = valB n X)) (hn : n ≤ 9223372036854775807) (w : World) (hI : Cel .u32 w A (dg 4294967296 n X)) :
    Calls Tryd.prog 50 #[.agg #[.slice A n c]] w fun e w' => e = .returned (.string ⟨#[]⟩) ∧ Below w.heap.size w w' := by
  have cv := fun w hI => valid_any A n c X false hX ha hn w hI
  have HI := Lib.hid hI
  clear hI
  go_enter Tryd.func50, Tryd.ntmps50
  go_wp2_with (go_at_call 57; (with_reducible refine (cv _ (HI.out.alloc _)).mono ?_); rintro e w1 ⟨rfl, hb⟩; have B1 := Lib.hid (below_on (below_new _ _) hb); clear hb)
  go_ret
  exact ⟨rfl, B1.out⟩
set_option maxRecDepth 4000 in
set_option maxHeartbeats 1600000 in
theorem nformat_zero (A : Option Addr) (c : Nat) (w : World) (htab : Tab w) :
    Calls Tryd.prog 50 #[.agg #[.slice A 0 c]] w fun e w' => e = .returned (.string ⟨#[48]⟩) ∧ Below w.heap.size w w' := by
  have hX : Hid (0 < 4294967296 ^ 0) := Lib.hid (by decide)
  have ha : Hid (true = valB 0 0) := Lib.hid (valB_nil hX.out).symm
  have cv := fun w => valid_any A 0 c 0 true hX ha (by omega) w (fun h => by simp [dg] at h)
  have cc := fun w => clone_zero (A := A) (c := c) (v := 0) w (fun h => by simp [dg] at h)
  have cf : ∀ w, Tab w → Calls Tryd.prog 71 #[.int .i64 0] w fun e w' => e = .returned (.string ⟨#[48]⟩) ∧ Below w.heap.size w w' := fun w h => by
    have := nfmt_any 0 (by omega) w h
    rw [dec_small (by omega)] at this
    exact this
  have hN : Hid (0 = nlen 4294967296 0) := Lib.hid (nlen_zero _).symm
  have ct : ∀ A c w, Calls Tryd.prog 60 #[.slice A 0 c] w fun e w' => e = .returned (.slice A 0 0) ∧ w = w' := fun A c w => trim_any A 0 c 0 0 hX hN (by omega) (by omega) w (fun h => by simp [dg] at h)
  go_enter Tryd.func50, Tryd.ntmps50
  go_wp2_with (first
    | (go_at_call 57; (with_reducible refine (cv _).mono ?_); rintro e w1 ⟨rfl, hb⟩; have B1 := Lib.hid (below_on (below_new _ _) hb); have xa := ((Bx.new_ _ _ _).below hb).cell; clear hb)
    | (go_at_call 59; (with_reducible refine (cc _).mono ?_); rintro e w2 ⟨A2, c2, rfl, hb⟩; have B2 := Lib.hid (below_on B1.out hb); have T2 := tab_on htab B2.out; clear hb))
  go_loopw [3, 4] (fun s3 s4 wr => s3 = .slice A2 0 c2 ∧ s4 = .string ⟨#[]⟩ ∧ wr = w2) (fun _ _ _ => 0)
  case atStart => exact ⟨rfl, rfl, rfl⟩
  case round =>
    obtain ⟨rfl, rfl, rfl⟩ := hrel
    go_wp2_with (first
      | (go_at_call 72; (with_reducible refine (tchunk_nil A2 c2 _).mono ?_); rintro e w3 ⟨rfl, rfl⟩)
      | (go_at_call 71; (with_reducible refine (cf _ T2).mono ?_); rintro e w4 ⟨rfl, hb⟩; have B4 := Lib.hid (below_on B2.out hb); clear hb)
      | (go_at_call 60; (with_reducible refine (ct A2 c2 _).mono ?_); rintro e w5 ⟨rfl, rfl⟩))
    go_ret
    exact ⟨rfl, B4.out⟩
theorem own_low {K : IntKind} {w : World} {g B n k v : Nat} (h : Own K w g (dg B n v)) (hk : k ≤ n) : Own K w g (dg B k v) :=
  h.mono fun j hj => by
    rw [dg_len] at hj
    exact ⟨by rw [dg_len]; omega, by rw [dg_at hj, dg_at (by omega)]⟩
set_option maxRecDepth 4000 in
set_option maxHeartbeats 4000000 in
theorem nformat_pos (A : Option Addr) (n c X : Nat) (hX : Hid (X < 4294967296 ^ n)) (ha : Hid (true = valB n X)) (h0 : 0 < n) (w : World) (htab : Tab w) (hI : Cel .u32 w A (dg 4294967296 n X)) :
    Calls Tryd.prog 50 #[.agg #[.slice A n c]] w fun e w' => e = .returned (.string ⟨(Lib.decDigits X).toArray⟩) ∧ Below w.heap.size w w' := by
  have hn64 : n ≤ 64 := (valB_iff.1 ha.out.symm).1
  have hX0 : Hid (0 < X) := Lib.hid (by
    have h1 := (valB_iff.1 ha.out.symm).2
    apply Decidable.byContradiction; intro hn
    obtain rfl : X = 0 := by omega
    rw [nlen_zero] at h1; omega)
  have h620 : Hid ((Lib.decDigits X).length ≤ 620) := Lib.hid (dec_620 ha.out.symm)
  have cv := fun w hI => valid_any A n c X true hX ha (by omega) w hI
  have cc := fun w hI => clone_pos (A := A) (n := n) (c := c) (v := X) (by omega) h0 w hI
  have HI := Lib.hid hI
  clear hI
  go_enter Tryd.func50, Tryd.ntmps50
  go_wp2_with (first
    | (go_at_call 57; (with_reducible refine (cv _ (HI.out.alloc _)).mono ?_); rintro e w1 ⟨rfl, hb⟩; have B1 := Lib.hid (below_on (below_new _ _) hb); have HI1 := Lib.hid ((HI.out.alloc _).below hb); have xa := ((Bx.new_ _ _ _).below hb).cell; clear hb)
    | (go_at_call 59; (with_reducible refine (cc _ HI1.out).mono ?_); rintro e w2 ⟨g, c2, rfl, hc2, hg, ho, hb⟩; have B2 := Lib.hid (below_on B1.out hb); have O2 := Lib.hid ho; have G2 : Hid (w.heap.size ≤ g) := Lib.hid (by have := B1.out.size; omega); clear hb ho hg))
  go_loopw [3, 4] (fun s3 s4 wr => ∃ (N cN V : Nat) (t : ByteArray), N ≤ 64 ∧ s3 = .slice (some ⟨g, 0, none⟩) N cN ∧ s4 = .string t ∧ t.size ≤ 620 ∧ N ≤ cN ∧ Hid (0 < V) ∧ Hid (V < 4294967296 ^ N) ∧ Hid (gd X = gd V ++ t.data.toList) ∧ Hid (Own .u32 wr g (dg 4294967296 N V)) ∧ Hid (Below w.heap.size w wr)) (fun _ s4 _ => match s4 with | .string t => 700 - t.size | _ => 0)
  case atStart => exact ⟨n, c2, X, ⟨#[]⟩, hn64, rfl, rfl, by decide, hc2, hX0, hX, Lib.hid (by simp), O2, B2⟩
  case round =>
    clear B2 O2 xa HI1 B1 HI cv cc
    obtain ⟨N, cN, V, t, hN64, rfl, rfl, ht, hNc, HV0, HVN, HG, HO, HB⟩ := hrel
    obtain ⟨r, hr⟩ : ∃ r, r = V % 1000000000 := ⟨_, rfl⟩
    obtain ⟨U, hU⟩ : ∃ U, U = V / 1000000000 := ⟨_, rfl⟩
    have r9 : r < 1000000000 := by rw [hr]; exact Nat.mod_lt _ (by omega)
    have hUN : Hid (U < 4294967296 ^ N) := Lib.hid (by rw [hU]; exact Nat.lt_of_le_of_lt (Nat.div_le_self _ _) HVN.out)
    obtain ⟨N2, hN2⟩ : ∃ N2, Hid (N2 = nlen 4294967296 U) := ⟨_, Lib.hid rfl⟩
    have hN2N : N2 ≤ N := by rw [hN2.out]; exact nlen_le (by omega) hUN.out
    have ck := tchunk_any g N cN V HVN (by omega) wr HO.out
    rw [← hr, ← hU] at ck
    have cf := fun w h => nfmt_any r r9 w h
    have hL9 : (Lib.decDigits r).length ≤ 9 := dec_len (k := 9) (show r < 10 ^ 9 from r9) (by omega)
    obtain ⟨L, hL⟩ : ∃ L : ByteArray, L = ⟨(Lib.decDigits r).toArray⟩ := ⟨_, rfl⟩
    rw [← hL] at cf
    have HL : Hid (L.data.toList = Lib.decDigits r) := Lib.hid (by rw [hL])
    have Lsz : L.size ≤ 9 := by rw [size_len, HL.out]; exact hL9
    have Lsz2 : Hid (L.size = (Lib.decDigits r).length) := Lib.hid (by rw [size_len, HL.out])
    have CK := ck
    clear ck hL hL9 HO HVN
    by_cases hU0 : U = 0
    · have HGL : Hid (Lib.decDigits X = L.data.toList ++ t.data.toList) := Lib.hid (by
        have h1 := HG.out
        have h2 := HV0.out
        rw [gd_pos hX0.out, gd_pos h2] at h1
        rw [h1, HL.out, hr, show V % 1000000000 = V by omega])
      obtain rfl : N2 = 0 := by rw [hN2.out, hU0, nlen_zero]
      clear hU hr hU0 HG
      go_wp2_with (first
        | (go_at_call 72; (with_reducible refine CK.mono ?_); rintro e w3 ⟨rfl, ho, hg⟩; have O3 := Lib.hid ho; have B3 := Lib.hid (below_grown HB.out hg G2.out HB.out.size); have T3 := tab_on htab B3.out; clear ho hg)
        | (go_at_call 71; (with_reducible refine (cf _ T3).mono ?_); rintro e w4 ⟨rfl, hb⟩; have B4 := Lib.hid (below_on B3.out hb); have O4 := Lib.hid (O3.out.below hb); clear hb)
        | (go_at_call 60; (with_reducible refine (trim_any (some ⟨g, 0, none⟩) N cN U 0 hUN hN2 hNc (by omega) w4 O4.out.all).mono ?_); rintro e w5 ⟨rfl, rfl⟩))
      go_ret
      exact ⟨ret_str (str_eq (by rw [HGL.out]; simp)), B4.out⟩
    · have hVb : 1000000000 ≤ V := by
        apply Decidable.byContradiction; intro hn
        exact hU0 (by rw [hU]; omega)
      obtain ⟨z, hz⟩ : ∃ z, z = 9 - L.size := ⟨_, rfl⟩
      have qz : (9 : Int) - (L.size : Int) = (z : Int) := by omega
      have cr := fun w => rep_any z (by omega) w
      obtain ⟨Z, hZ⟩ : ∃ Z : ByteArray, Z = ⟨(List.replicate z 48).toArray⟩ := ⟨_, rfl⟩
      rw [← hZ] at cr
      have HZ : Hid (Z.data.toList = List.replicate z 48) := Lib.hid (by rw [hZ])
      have Zsz : Z.size ≤ 9 := by rw [size_len, HZ.out, List.length_replicate]; omega
      have hT : Hid ((Z ++ L ++ t).data.toList = pad r ++ t.data.toList) := Lib.hid (by
        rw [pad, ← Lsz2.out, ← hz, ← HL.out, ← HZ.out]; simp)
      have hTs : Hid ((Z ++ L ++ t).size = 9 + t.size) := Lib.hid (by
        rw [ByteArray.size_append, ByteArray.size_append, size_len Z, HZ.out, List.length_replicate]; omega)
      have HG2 : Hid (gd X = gd U ++ (Z ++ L ++ t).data.toList) := Lib.hid (by
        rw [HG.out, hT.out, gd_chunk hVb, hr, hU, List.append_assoc])
      have hT620 : (Z ++ L ++ t).size ≤ 620 := by
        have h1 := congrArg List.length HG2.out
        rw [gd_pos hX0.out, List.length_append, ← size_len] at h1
        have := h620.out; omega
      have ht2 : t.size ≤ 611 := by have := hTs.out; omega
      have hU1 : Hid (0 < U) := Lib.hid (by omega)
      have hN20 : 0 < N2 := by rw [hN2.out]; exact nlen_pos (by omega) hU1.out
      have t1 : (N2 == 0) = false := by simp; omega
      have t2 : ((N2 : Int) == 0) = false := by simp; omega
      have t3 : decide ((N2 : Int) = 0) = false := by simp; omega
      have HT620 := Lib.hid hT620
      clear hU hr hU0 HG hZ hz hVb HV0 hT620
      go_wp2_with (first
        | (go_at_call 72; (with_reducible refine CK.mono ?_); rintro e w3 ⟨rfl, ho, hg⟩; have O3 := Lib.hid ho; have B3 := Lib.hid (below_grown HB.out hg G2.out HB.out.size); have T3 := tab_on htab B3.out; clear ho hg)
        | (go_at_call 71; (with_reducible refine (cf _ T3).mono ?_); rintro e w4 ⟨rfl, hb⟩; have B4 := Lib.hid (below_on B3.out hb); have O4 := Lib.hid (O3.out.below hb); clear hb)
        | (go_at_call 60; (with_reducible refine (trim_any (some ⟨g, 0, none⟩) N cN U N2 hUN hN2 hNc (by omega) w4 O4.out.all).mono ?_); rintro e w5 ⟨rfl, rfl⟩)
        | (go_at_call 51; (with_reducible refine (cr w4).mono ?_); rintro e w6 ⟨rfl, hb⟩; have B6 := Lib.hid (below_on B4.out hb); have O6 := Lib.hid (own_low (O4.out.below hb) hN2N); clear hb))
      go_roundw
      case rel => exact ⟨N2, N2, U, Z ++ L ++ t, by omega, rfl, rfl, HT620.out, Nat.le_refl _, hU1, Lib.hid (by rw [hN2.out]; exact nlen_lt (by omega) U), HG2, O6, B6⟩
      case measure => have := hTs.out; simp at this ⊢; omega
theorem nformat_any (A : Option Addr) (n c X : Nat) (hX : Hid (X < 4294967296 ^ n)) (hn : n ≤ 9223372036854775807) (w : World) (htab : Tab w) (hI : Cel .u32 w A (dg 4294967296 n X)) :
    Calls Tryd.prog 50 #[.agg #[.slice A n c]] w fun e w' => e = .returned (.string ⟨(fmtL n X).toArray⟩) ∧ Below w.heap.size w w' := by
  cases ha : valB n X with
  | false => rw [fmt_no ha]; exact nformat_no A n c X hX (Lib.hid ha.symm) hn w hI
  | true =>
    rw [fmt_yes ha]
    by_cases h0 : 0 < n
    · exact nformat_pos A n c X hX (Lib.hid ha.symm) h0 w htab hI
    · obtain rfl : n = 0 := by omega
      obtain rfl : X = 0 := by have := hX.out; simpa using this
      rw [dec_small (by omega)]
      exact nformat_zero A c w htab
end Go.Proofs.YtinceponggpioaaDoor.ntF

/-
  The law WireSpoils, over any Frame and Next that keep the record of contracts.
-/
import Derived.Test.YtpmmddemeiljjaaWrW
namespace Go.Proofs.Ytpmmddemeiljjaa.wrS
open Go.RowKit
open Go.Proofs.Ytpmmddemeiljjaa.dgM Go.Proofs.Ytpmmddemeiljjaa.wrM Go.Proofs.Ytpmmddemeiljjaa.wrO Go.Proofs.Ytpmmddemeiljjaa.wrA Go.Proofs.Ytpmmddemeiljjaa.wrB Go.Proofs.Ytpmmddemeiljjaa.wrC Go.Proofs.Ytpmmddemeiljjaa.wrD Go.Proofs.Ytpmmddemeiljjaa.wrE Go.Proofs.Ytpmmddemeiljjaa.wrH Go.Proofs.Ytpmmddemeiljjaa.wrQ Go.Proofs.Ytpmmddemeiljjaa.wrL Go.Proofs.Ytpmmddemeiljjaa.wrW
set_option linter.unusedVariables false

/-! ### a frame with another byte -/
theorem set_right (a b : List UInt8) (j : Nat) (c : UInt8) : (a ++ b).set (a.length + j) c = a ++ b.set j c := by
  rw [List.set_append_right _ _ (by omega), show a.length + j - a.length = j by omega]
theorem set_left {a : List UInt8} (b : List UInt8) {j : Nat} (h : j < a.length) (c : UInt8) : (a ++ b).set j c = a.set j c ++ b := List.set_append_left _ _ h
theorem split_at {l : List UInt8} {j : Nat} (h : j < l.length) : l = l.take j ++ bat l j :: l.drop (j + 1) := by
  rw [← drop_bat h, List.take_append_drop]
theorem set_split {l : List UInt8} {j : Nat} (h : j < l.length) (c : UInt8) : l.set j c = l.take j ++ c :: l.drop (j + 1) := by
  rw [List.set_eq_take_append_cons_drop, if_pos h]
theorem bat_right (a b : List UInt8) (j : Nat) : bat (a ++ b) (a.length + j) = bat b j := by
  unfold bat; rw [List.getD_eq_getElem?_getD, List.getD_eq_getElem?_getD, List.getElem?_append_right (by omega), show a.length + j - a.length = j by omega]
theorem bat_left {a : List UInt8} (b : List UInt8) {j : Nat} (h : j < a.length) : bat (a ++ b) j = bat a j := by
  unfold bat; rw [List.getD_eq_getElem?_getD, List.getD_eq_getElem?_getD, List.getElem?_append_left h]
theorem fr_len (b : List UInt8) : (fr b).length = (vr b.length).length + b.length + 8 := by
  unfold fr; rw [List.length_append, List.length_append, dg_len]
theorem spoil {b : List UInt8} {j : Nat} {c : UInt8} (hb : b.length < A64) (hj : j < b.length + 8) (hc : bat (fr b) ((vr b.length).length + j) ≠ c) :
    nx ((fr b).set ((vr b.length).length + j) c) = ([], 0, 27) := by
  unfold fr at hc ⊢
  rw [List.append_assoc, bat_right] at hc
  rw [List.append_assoc, set_right]
  by_cases h : j < b.length
  · rw [bat_left _ h] at hc
    rw [set_left _ h, set_split h]
    have e := split_at h
    have n := nx_spoil1 (a := b.take j) (r := b.drop (j + 1)) (c := bat b j) (d := c) (by rw [← e]; exact hb) hc
    rw [← e] at n
    exact n
  · obtain ⟨i, rfl⟩ : ∃ i, j = b.length + i := ⟨j - b.length, by omega⟩
    rw [bat_right] at hc
    have hi : i < (dg b).length := by rw [dg_len]; omega
    rw [set_right, set_split hi]
    exact nx_spoil2 hb (split_at hi) hc
theorem no_spoil {b : List UInt8} {j : Nat} {c : UInt8} (hj : j < (fr b).length) (hc : bat (fr b) j = c) : (fr b).set j c = fr b := by
  rw [set_split hj, ← hc, ← split_at hj]
theorem nxt_zero (b : List UInt8) : nxt b 0 = ((nx b).1, (if (nx b).2.2 = 0 then (nx b).2.1 else 0), (nx b).2.2) := by
  unfold nxt
  rw [if_pos (by omega)]
  simp

/-! ### the law -/
theorem u8_eq {c d : UInt8} : ((c.toNat : Int) == (d.toNat : Int)) = decide (c = d) := by
  by_cases h : c = d
  · subst h; simp
  · rw [decide_eq_false h, beq_eq_false_iff_ne]
    intro e
    exact h (UInt8.toNat_inj.1 (Int.ofNat.inj e))
set_option maxRecDepth 10000 in
set_option maxHeartbeats 2000000 in
theorem spoils_in (P : PWr) (Q : PRd) (H : PFr) (A : Option Addr) (cb : Nat) (b : List UInt8) (t : Nat) (c : UInt8) (hb : b.length ≤ 5000) (hc : b.length ≤ cb) (hA : A = none → cb = 0) (ht : t < 65536) (w : World) (hC : Cb w A b) :
    Calls Try.prog 9 #[.slice A b.length cb, .int .u16 (t : Int), .int .u8 (c.toNat : Int)] w fun e w' => e = .returned (.bool true) ∧ Below w.heap.size w w' := by
  obtain ⟨Y, hY⟩ : ∃ Y, Y = fr b := ⟨_, rfl⟩
  obtain ⟨n, hn⟩ : ∃ n, n = b.length := ⟨_, rfl⟩
  obtain ⟨L, hL⟩ : ∃ L, L = Y.length := ⟨_, rfl⟩
  obtain ⟨h, hh⟩ : ∃ h, h = (vr b.length).length := ⟨_, rfl⟩
  obtain ⟨j, hj⟩ : ∃ j, j = t % (n + 8) := ⟨_, rfl⟩
  obtain ⟨i, hi⟩ : ∃ i, i = h + j := ⟨_, rfl⟩
  have hYl : L = h + n + 8 := by rw [hL, hY, fr_len, hh, hn]
  have hh0 : 0 < h := by rw [hh]; exact vr_pos _
  have hh1 : h ≤ 10 := by rw [hh]; exact vr_len _
  have hj2 : j < n + 8 := by rw [hj]; exact Nat.mod_lt _ (by omega)
  have hlt : b.length < A64 := by show b.length < 18446744073709551616; omega
  have c1 := fun w hC => H.frame A cb b (by omega) hc hA w hC
  rw [← hY, ← hL, ← hn] at c1
  have hB0 := below_al w (.cells #[] 5)
  have hC0 := hC.below hB0
  have hO0 := own_empty w
  have t1 : ¬ (5000 : Int) < (n : Int) := by omega
  have e1 : (L : Int) - (n : Int) = ((h + 8 : Nat) : Int) := by omega
  have e2 : ((h + 8 : Nat) : Int) - 8 = (h : Int) := by omega
  have t2 : ¬ (h : Int) < 1 := by omega
  have e3 : IntKind.i64.wrap (t : Int) = (t : Int) := IntWalk.i64_in _ (by omega)
  have e4 : (t : Int) % ((n : Int) + 8) = (j : Int) := by
    have e : (n : Int) + 8 = ((n + 8 : Nat) : Int) := by omega
    rw [hj, e]; exact (Int.natCast_emod t (n + 8)).symm
  have e5 : (h : Int) + (j : Int) = (i : Int) := by omega
  have i0 : (0 : Int) ≤ (i : Int) := by omega
  have i1 : (i : Int) < (L : Int) := by omega
  have hn8 : n ≤ 5000 := by omega
  have hiL : i < Y.length := by omega
  obtain ⟨y, hy⟩ : ∃ y, y = bat Y i := ⟨_, rfl⟩
  have hk : ∀ (w3 : World) (g c3 : Nat), w3.ownsRow w.heap.size 5 1 (.slice (some ⟨g, 0, none⟩) L c3) L (cB Y) → w3.cell? ⟨g, i, none⟩ = some (vB y) ∧ w3.frozen? ⟨g, i, none⟩ = false ∧ Cb (w3.setCell ⟨g, i, none⟩ (vB c)) (some ⟨g, 0, none⟩) (Y.set i c) ∧ L ≤ c3 := fun w3 g c3 q => by
    refine ⟨?_, q.frozenAt i, ?_, ?_⟩
    · rw [q.cellAt i (by omega), List.getElem?_map, bat_some hiL, hy]; rfl
    · have st := (q.stored i (vB c)).1
      have e : (cB Y).set i (vB c) = cB (Y.set i c) := by
        show (Y.map vB).set i (vB c) = (Y.set i c).map vB
        rw [List.map_set]
      rw [e] at st
      have hlen : L = (Y.set i c).length := by rw [List.length_set, hL]
      have st2 : OwB (w3.setCell ⟨g, i, none⟩ (vB c)) w.heap.size (.slice (some ⟨g, 0, none⟩) L c3) (Y.set i c) := by
        show World.ownsRow _ _ _ _ _ _ _
        rw [← hlen]; exact st
      obtain ⟨A', c', ev, _, hC', _, _⟩ := own_form st2
      injection ev with ev1 _ _
      rw [ev1]; exact hC'
    · rcases q.2 with ⟨h', _⟩ | ⟨g', cap, cur, h', _, _, hnc, _⟩
      · simp at h'
      · injection h' with _ _ h3
        omega
  obtain ⟨Z, N, E, hZ⟩ : ∃ Z N E, nxt (Y.set i c) 0 = (Z, N, E) := ⟨_, _, _, rfl⟩
  have hcase : (y = c ∧ Z = b ∧ E = 0) ∨ (y ≠ c ∧ E = 27) := by
    rw [nxt_zero] at hZ
    by_cases hyc : y = c
    · left
      have e : Y.set i c = Y := by rw [hY]; exact no_spoil (by rw [← hY]; exact hiL) (by rw [← hY, ← hy, hyc])
      rw [e, hY] at hZ
      have f := nx_fr (b := b) (r := []) hlt
      rw [List.append_nil] at f
      rw [f] at hZ
      have h1 := Prod.mk.inj hZ
      have h2 := Prod.mk.inj h1.2
      exact ⟨hyc, h1.1.symm, h2.2.symm⟩
    · right
      have f := spoil (b := b) (j := j) (c := c) hlt (by omega) (by rw [← hh, ← hi, ← hY, ← hy]; exact hyc)
      rw [← hh, ← hi, ← hY] at f
      rw [f] at hZ
      have h1 := Prod.mk.inj hZ
      have h2 := Prod.mk.inj h1.2
      exact ⟨hyc, h2.2.symm⟩
  have c8 : ∀ g c3 w, L ≤ c3 → Cb w (some ⟨g, 0, none⟩) (Y.set i c) → Calls Try.prog 38 #[.slice (some ⟨g, 0, none⟩) L c3, .int .i64 0] w fun e w' => ∃ A' c', e = .returned (.tuple #[.slice A' Z.length c', .int .i64 (N : Int), .int .i64 (E : Int)]) ∧ Cb w' A' Z ∧ Below w.heap.size w w' := fun g c3 w h1 hC => by
    have hlen : (Y.set i c).length = L := by rw [List.length_set, hL]
    have := H.next (some ⟨g, 0, none⟩) c3 (Y.set i c) 0 (by omega) (by omega) (fun e => absurd e (by simp)) w hC
    rw [hlen, hZ] at this
    exact this.mono fun e w' ⟨A', n', c', q1, q2, q3, q4, q5, q6, q7⟩ => by
      have q3' : n' = Z.length := q3.symm
      subst q3'
      exact ⟨A', c', q1, q2, q7⟩
  have hLp : 0 < L := by omega
  have hYL := Lib.hid hL
  have hnb := Lib.hid hn
  rw [← hn]
  have hCn : b.length = n := hn.symm
  have hOform : ∀ (w3 : World) (v' : Value), OwB w3 w.heap.size v' Y → ∃ g c3, v' = .slice (some ⟨g, 0, none⟩) L c3 ∧ w.heap.size ≤ g ∧ w3.ownsRow w.heap.size 5 1 (.slice (some ⟨g, 0, none⟩) L c3) L (cB Y) := fun w3 v' q => by
    have q' : w3.ownsRow w.heap.size 5 1 v' L (cB Y) := by rw [hL]; exact q
    obtain ⟨g, c3, rfl, hg, _⟩ := World.ownsRow.form q' hLp
    exact ⟨g, c3, rfl, hg, q'⟩
  have hcvb : ∀ W, Cb W A b → (convert 38 9 (.slice A n cb)).run Try.prog W = .ok (.string ⟨b.toArray⟩) W := fun W h => conv_any W A n cb b hCn h
  have hcvz : ∀ W A' c', Cb W A' Z → (convert 38 9 (.slice A' Z.length c')).run Try.prog W = .ok (.string ⟨Z.toArray⟩) W := fun W A' c' h => conv_any W A' Z.length c' Z rfl h
  have hLb : L ≤ 5100 := by omega
  have hYLL : Y.length = L := hL.symm
  clear hi hj hh hY hYl hh0 hh1 hj2 hlt hiL hy hZ hCn hn hL hYL hnb
  go_enter Try.func9, Try.ntmps9
  go_upto_region 8 with (first
    | (go_at_call 40; (refine (c1 _ hC0).mono ?_); rintro e w2 ⟨A2, n2, c2, rfl, C2, rfl, hc2, hA2, hnew2, B2⟩; have B2' := below_on hB0 B2; have O2 := own_mv hO0 (F := []) (Mv.of_below B2) (fun g _ => by simp))
    | (refine wpl_app rfl (.tmp 18) (.tmp 20) rfl w2 w.heap.size (.slice (some ⟨w.heap.size, 0, none⟩) 0 0) [] (by rfl) O2 A2 L c2 Y (by rfl) hYLL C2 hA2 (by simp; omega) B2'.size ?_; intro v3 w3 AP; have q0 := AP.1; rw [List.nil_append] at q0; obtain ⟨g, c3, rfl, hg, q⟩ := hOform w3 v3 q0; have B3 := B2'.grown AP.2.1 B2'.size (fun g e => by simp [Value.ownBlock] at e; omega)))
  obtain ⟨k1, f1, k2, k3⟩ := hk w3 g c3 q
  have B4 : Below w.heap.size w (w3.setCell ⟨g, i, none⟩ (vB c)) := B3.setCell hg _
  have hu := u8_eq (c := y) (d := c)
  have hCb4 := hC.below B4
  clear hk hOform q q0 AP C2 O2 hYLL B3 c1 hC0 hO0 hC
  rcases hcase with ⟨rfl, rfl, rfl⟩ | ⟨hyc, rfl⟩
  · have v1 : ∀ w5, Below (w3.setCell ⟨g, i, none⟩ (vB y)).heap.size (w3.setCell ⟨g, i, none⟩ (vB y)) w5 → (convert 38 9 (.slice A n cb)).run Try.prog w5 = .ok (.string ⟨Z.toArray⟩) w5 := fun w5 hb => hcvb w5 (hCb4.below hb)
    go_wp2_with (first
      | (go_at_call 38; (refine (c8 _ _ _ k3 k2).mono ?_); rintro e w5 ⟨A5, c5, rfl, C5, B5⟩; have v5 := v1 w5 B5; have v6 := hcvz w5 A5 c5 C5; have B5' := below_on B4 B5)
      | (go_at_call 12; (refine (awake_any P Q H _).mono ?_); rintro e w6 ⟨rfl, B6⟩))
    go_ret
    exact ⟨rfl, below_on B5' B6⟩
  · rw [decide_eq_false hyc] at hu
    go_wp2_with (first
      | (go_at_call 38; (refine (c8 _ _ _ k3 k2).mono ?_); rintro e w5 ⟨A5, c5, rfl, C5, B5⟩; have B5' := below_on B4 B5)
      | (go_at_call 12; (refine (awake_any P Q H _).mono ?_); rintro e w6 ⟨rfl, B6⟩))
    go_ret
    exact ⟨rfl, below_on B5' B6⟩
theorem spoils (P : PWr) (Q : PRd) (H : PFr) (A : Option Addr) (n cb : Nat) (b : List UInt8) (t : Nat) (c : UInt8) (hn : b.length = n) (hN : n ≤ 9223372036854775807) (hc : n ≤ cb) (hA : A = none → cb = 0) (ht : t < 65536) (w : World) (hC : Cb w A b) :
    Calls Try.prog 9 #[.slice A n cb, .int .u16 (t : Int), .int .u8 (c.toNat : Int)] w fun e w' => e = .returned (.bool true) ∧ Below w.heap.size w w' := by
  by_cases h : n ≤ 5000
  · subst hn
    exact spoils_in P Q H A cb b t c h hc hA ht w hC
  · have t1 : (5000 : Int) < (n : Int) := by omega
    clear hn h
    go_enter Try.func9, Try.ntmps9
    go_wp2_with (go_at_call 12; (refine (awake_any P Q H _).mono ?_); rintro e w6 ⟨rfl, B6⟩)
    go_ret
    exact ⟨rfl, B6⟩
end Go.Proofs.Ytpmmddemeiljjaa.wrS

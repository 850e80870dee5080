/-
  Contracts of the reference's writer: NewWriter, Uint, Int, Text, Ints, Bytes.
-/
import Derived.Test.YtpmmddemeiljjaaWrC
import Derived.Deep.RegionLaw
import Derived.Deep.DeepCutAuto
namespace Go.Proofs.Ytpmmddemeiljjaa.wrD
open Go.RowKit
open Go.Proofs.Ytpmmddemeiljjaa.dgM Go.Proofs.Ytpmmddemeiljjaa.wrM Go.Proofs.Ytpmmddemeiljjaa.wrO Go.Proofs.Ytpmmddemeiljjaa.wrA Go.Proofs.Ytpmmddemeiljjaa.wrC
set_option linter.unusedVariables false

section
variable {ops : Array Oper} {rest : List Oper} {o : Oper} {a : Act} {Q : Exit → Act → World → Prop} {K : Act → World → Prop} {E : Prop}
/-- the arms: an append of a slice -/
theorem wp_app (s x : Operand) (ho : o.op = .call { callee := .builtin .append, args := #[s, x], argTypes := #[38, 38] })
    (w : World) (B : Nat) (v : Value) (l : List UInt8) (hs : a.eval s = v) (hown : OwB w B v l) (A : Option Addr) (m c : Nat) (r : List UInt8) (hx : a.eval x = .slice A m c) (hm : r.length = m) (hr : Cb w A r) (hA : A = none → c = 0)
    (h63 : l.length + m ≤ 140737488355328) (hB : B ≤ w.heap.size) (h : ∀ v' w', App w B v (l ++ r) v' w' → K (a.put o.dst v') w') : o.wp Try.prog a w K Q := by
  obtain ⟨v', w', h1, h2⟩ := app_slice w o.type B v l hown A m r hm hr c hA h63 hB
  unfold Oper.wp execOp
  simp only [ho, resolve, invoke, builtin, Sem.run_bind, Sem.run_pure, Result.andThen_ok, List.map_toArray, List.map_cons, List.map_nil, hs, hx, h1]
  exact h v' w' h2
theorem wpl_app (hgd : o.guard = none) (s x : Operand) (ho : o.op = .call { callee := .builtin .append, args := #[s, x], argTypes := #[38, 38] })
    (w : World) (B : Nat) (v : Value) (l : List UInt8) (hs : a.eval s = v) (hown : OwB w B v l) (A : Option Addr) (m c : Nat) (r : List UInt8) (hx : a.eval x = .slice A m c) (hm : r.length = m) (hr : Cb w A r) (hA : A = none → c = 0)
    (h63 : l.length + m ≤ 140737488355328) (hB : B ≤ w.heap.size) (h : ∀ v' w', App w B v (l ++ r) v' w' → wpList Try.prog ops Q rest (a.put o.dst v') w') : wpList Try.prog ops Q (o :: rest) a w :=
  wpList_plain hgd fun _ hK => wp_app s x ho w B v l hs hown A m c r hx hm hr hA h63 hB fun v' w' h2 => hK _ _ (h v' w' h2)
theorem step_app (hgd : o.guard = none) (s x : Operand) (ho : o.op = .call { callee := .builtin .append, args := #[s, x], argTypes := #[38, 38] })
    (w : World) (B : Nat) (v : Value) (l : List UInt8) (hs : a.eval s = v) (hown : OwB w B v l) (A : Option Addr) (m c : Nat) (r : List UInt8) (hx : a.eval x = .slice A m c) (hm : r.length = m) (hr : Cb w A r) (hA : A = none → c = 0)
    (h63 : l.length + m ≤ 140737488355328) (hB : B ≤ w.heap.size) (h : ∀ v' w', App w B v (l ++ r) v' w' → K (a.put o.dst v') w') : if Region.wanted o (yielded ops a.tmps) = true then Oper.wp Try.prog o a w K Q else E := by
  have hw : Region.wanted o (yielded ops a.tmps) = true := by simp [Region.wanted, hgd]
  rw [if_pos hw]
  exact wp_app s x ho w B v l hs hown A m c r hx hm hr hA h63 hB h
/-- an append of a string -/
theorem wp_apps (s x : Operand) (ho : o.op = .call { callee := .builtin .append, args := #[s, x], argTypes := #[38, 9] })
    (w : World) (B : Nat) (v : Value) (l : List UInt8) (hs : a.eval s = v) (hown : OwB w B v l) (t : ByteArray) (hx : a.eval x = .string t)
    (h63 : l.length + t.size ≤ 140737488355328) (hB : B ≤ w.heap.size) (h : ∀ v' w', App w B v (l ++ t.data.toList) v' w' → K (a.put o.dst v') w') : o.wp Try.prog a w K Q := by
  obtain ⟨v', w', h1, h2⟩ := app_str w o.type B v l hown t h63 hB
  unfold Oper.wp execOp
  simp only [ho, resolve, invoke, builtin, Sem.run_bind, Sem.run_pure, Result.andThen_ok, List.map_toArray, List.map_cons, List.map_nil, hs, hx, h1]
  exact h v' w' h2
theorem wpl_apps (hgd : o.guard = none) (s x : Operand) (ho : o.op = .call { callee := .builtin .append, args := #[s, x], argTypes := #[38, 9] })
    (w : World) (B : Nat) (v : Value) (l : List UInt8) (hs : a.eval s = v) (hown : OwB w B v l) (t : ByteArray) (hx : a.eval x = .string t)
    (h63 : l.length + t.size ≤ 140737488355328) (hB : B ≤ w.heap.size) (h : ∀ v' w', App w B v (l ++ t.data.toList) v' w' → wpList Try.prog ops Q rest (a.put o.dst v') w') : wpList Try.prog ops Q (o :: rest) a w :=
  wpList_plain hgd fun _ hK => wp_apps s x ho w B v l hs hown t hx h63 hB fun v' w' h2 => hK _ _ (h v' w' h2)
end

theorem of_drew {w w1 : World} (h : Below w.drew.heap.size w.drew w1) : Below w.heap.size w w1 := ⟨h.os, h.tape, h.output, h.size, h.block⟩
/-! ### Uint -/
set_option maxRecDepth 10000 in
set_option maxHeartbeats 1000000 in
theorem ruint_any (x : Nat) (hx : x < A64) (p : Nat) (F : List Nat) (l : List UInt8) (hl : l.length ≤ 140737488355000) (w : World) (hW : Wr w p F l) :
    Calls Try.prog 17 #[.pointer (some ⟨p, 0, none⟩), .int .u64 (x : Int)] w fun e w' => e = .returned (.tuple #[]) ∧ ∃ F', Wr w' p F' (l ++ vr x) ∧ Mv w F w' ∧ Nw w F F' := by
  obtain ⟨v, T, h1, h2, h3, h4, h5⟩ := hW
  have hne := fun g e => (h4 g e).2
  have HP := Lib.hid (fun (wm w1 : World) (v' : Value) (hb : Below w.heap.size w wm) (ha : App wm 0 v (l ++ vr x) v' w1) => Wr.app h1 h3 h4 h5 hb ha)
  obtain ⟨A, c, rfl, hc, hA, _, hob⟩ := own_form h2
  have cv := rvarint_any x hx
  have c0 : w.cell? ⟨p, 0, none⟩ = some (.slice A l.length c) := cell_of_one h1
  have f0 : w.frozen? ⟨p, 0, none⟩ = false := free_of h1
  have hp : p < w.heap.size := h5 p h3
  go_enter Try.func17, Try.ntmps17
  go_region_law (first
    | (refine step_app rfl (.tmp 8) (.tmp 10) rfl w1 0 (.slice A l.length c) l (by rfl) O1 A2 (vr x).length c2 (vr x) (by rfl) rfl hr2 hn2 (by have := vr_len x; omega) (Nat.zero_le _) ?_; intro v' w3 AP; obtain ⟨A3, c3, rfl, _⟩ := own_form AP.1; rw [List.length_append] at AP; have q3 := AP.keep q1 hne; have k3 := cell_of_one q3; have f3 := free_of q3)
    | (go_simp; go_at_call 47; (refine (cv _).mono ?_); rintro e w1 ⟨v2, rfl, O2, B1⟩; have B2 := of_drew B1; clear B1; obtain ⟨A2, c2, rfl, hc2, hr2, hn2, _⟩ := own_form O2; have q1 := (B2.block p hp).trans h1; have k1 := cell_of_one q1; have f1 := free_of q1; have O1 := own_mv h2 (F := []) (Mv.of_below B2) (fun g _ => by simp)))
  all_goals
    go_wp2_with fail
    go_end0
    exact ⟨rfl, HP.out w1 w3 _ B2 AP⟩

/-- a writer's step -/
def Wst (w : World) (p : Nat) (F : List Nat) (l : List UInt8) (e : Ending) (w' : World) : Prop := e = .returned (.tuple #[]) ∧ ∃ F', Wr w' p F' l ∧ Mv w F w' ∧ Nw w F F'
theorem rint_any (x : Int) (h0 : -9223372036854775808 ≤ x) (h1 : x ≤ 9223372036854775807) (p : Nat) (F : List Nat) (l : List UInt8) (hl : l.length ≤ 140737488355000) (w : World) (hW : Wr w p F l) :
    Calls Try.prog 16 #[.pointer (some ⟨p, 0, none⟩), .int .i64 x] w (Wst w p F (l ++ wI x)) := by
  have c1 := fun w => rzig_any x (zz x) h0 h1 (Lib.hid rfl) w
  have c2 := fun w hW => ruint_any (zz x) (zz_lt h0 h1) p F l hl w hW
  unfold wI Wst
  generalize zz x = z at *
  go_enter Try.func16, Try.ntmps16
  go_wp2_with (first
    | (go_at_call 46; (with_reducible refine (c1 _).mono ?_); rintro e w' ⟨rfl, rfl⟩)
    | (go_at_call 17; (with_reducible refine (c2 _ hW).mono ?_); rintro e w' ⟨rfl, HF⟩))
  go_end0
  exact ⟨rfl, HF⟩

/-! ### Text -/
set_option maxRecDepth 10000 in
set_option maxHeartbeats 1000000 in
theorem rtext_any (t : ByteArray) (ht : t.size ≤ 281474976710) (p : Nat) (F : List Nat) (l : List UInt8) (hl : l.length ≤ 100000000000000) (w : World) (hW : Wr w p F l) :
    Calls Try.prog 18 #[.pointer (some ⟨p, 0, none⟩), .string t] w (Wst w p F (l ++ wT t.data.toList)) := by
  have hz : t.data.toList.length = t.size := by show _ = t.data.size; simp
  have c2 := fun w hW => ruint_any t.size (by show t.size < 18446744073709551616; omega) p F l (by omega) w hW
  have hL : (l ++ vr t.size).length ≤ 100000000000010 := by rw [List.length_append]; have := vr_len t.size; omega
  have HE : Hid (l ++ vr t.size ++ t.data.toList = l ++ wT t.data.toList) := Lib.hid (by unfold wT; rw [hz, List.append_assoc])
  unfold Wst
  generalize l ++ vr t.size = l2 at *
  generalize l ++ wT t.data.toList = l3 at *
  go_enter Try.func18, Try.ntmps18
  go_upto_region 1 with (go_at_call 17; (with_reducible refine (c2 _ hW).mono ?_); rintro e w1 ⟨rfl, F1, W1, M1, N1⟩)
  obtain ⟨v, T, h1, h2, h3, h4, h5⟩ := W1
  have hne := fun g e => (h4 g e).2
  have HP := Lib.hid (fun (v' : Value) (w2 : World) (ha : App w1 0 v (l2 ++ t.data.toList) v' w2) => Wr.app h1 h3 h4 h5 (Below.refl _ _) ha)
  obtain ⟨A, c, rfl, hc, hA, _, hob⟩ := own_form h2
  have c0 : w1.cell? ⟨p, 0, none⟩ = some (.slice A l2.length c) := cell_of_one h1
  have f0 : w1.frozen? ⟨p, 0, none⟩ = false := free_of h1
  go_wp2_with (refine wpl_apps rfl (.tmp 13) (.tmp 14) rfl w1 0 (.slice A l2.length c) l2 (by rfl) h2 t (by rfl) (by omega) (Nat.zero_le _) ?_; intro v' w3 AP; obtain ⟨A3, c3, rfl, _⟩ := own_form AP.1; rw [List.length_append] at AP; have q3 := AP.keep h1 hne; have k3 := cell_of_one q3; have f3 := free_of q3)
  go_end0
  obtain ⟨F3, q1, q2, q4⟩ := HP.out _ _ AP
  rw [HE.out] at q1
  exact ⟨rfl, F3, q1, M1.trans N1 q2, N1.trans M1.size q4⟩

/-! ### Ints -/
theorem wI_len (x : Int) : (wI x).length ≤ 10 := vr_len _
theorem wN_len : ∀ (l : List Int), (wN l).length ≤ 10 * l.length
  | [] => Nat.le_refl _
  | x :: l => by
    have := wI_len x
    have := wN_len l
    rw [wN, List.length_append, List.length_cons]; omega
theorem wN_take {l : List Int} {k : Nat} (h : k < l.length) : wN (l.take (k + 1)) = wN (l.take k) ++ wI (iat l k) := by
  rw [take_iat h, wN_append]
  show _ ++ (wI (iat l k) ++ []) = _
  rw [List.append_nil]
set_option maxRecDepth 10000 in
set_option maxHeartbeats 1000000 in
theorem rints_any (A : Option Addr) (n c : Nat) (zs : List Int) (hn : Hid (zs.length = n)) (hf : Hid (Fit zs)) (hN : n ≤ 10000000000) (p : Nat) (F : List Nat) (l : List UInt8) (hl : l.length ≤ 100000000000000) (w : World) (hW : Wr w p F l)
    (hI : Ci w A zs) (hd : 0 < zs.length → ∀ b off, A = some ⟨b, off, none⟩ → b ∉ F) :
    Calls Try.prog 19 #[.pointer (some ⟨p, 0, none⟩), .slice A n c] w (Wst w p F (l ++ wL zs)) := by
  have c2 := fun w hW => ruint_any n (by show n < 18446744073709551616; omega) p F l (by omega) w hW
  have hL : (l ++ vr n).length ≤ 100000000000010 := by rw [List.length_append]; have := vr_len n; omega
  have HE : Hid (l ++ vr n ++ wN (zs.take n) = l ++ wL zs) := Lib.hid (by unfold wL; rw [hn.out, List.append_assoc, List.take_of_length_le (by rw [hn.out]; exact Nat.le_refl _)])
  unfold Wst
  generalize l ++ vr n = l2 at *
  generalize l ++ wL zs = l3 at *
  go_enter Try.func19, Try.ntmps19
  go_wp2_with (go_at_call 17; (with_reducible refine (c2 _ hW).mono ?_); rintro e w1 ⟨rfl, F1, W1, M1, N1⟩)
  go_loopw [4] (fun s4 wr => ∃ (i : Nat) (G : List Nat), i ≤ n ∧ s4 = .int .i64 (i : Int) ∧ Hid (Wr wr p G (l2 ++ wN (zs.take i))) ∧ Hid (Mv w F wr) ∧ Hid (Nw w F G)) (fun s4 _ => n - (intOf s4).toNat)
  case atStart => exact ⟨0, F1, by omega, rfl, Lib.hid (by rw [List.take_zero]; show Wr w1 p F1 (l2 ++ []); rw [List.append_nil]; exact W1), Lib.hid M1, Lib.hid N1⟩
  case round =>
    obtain ⟨i, G, hi, rfl, HW, HM, HN⟩ := hrel
    by_cases hlt : i < n
    · obtain ⟨b, off, rfl, hc⟩ := (Ci.mv hI HM.out hd).at_ (k := i) (by rw [hn.out]; exact hlt)
      have hx := hf.out _ (iat_mem (l := zs) (k := i) (by rw [hn.out]; exact hlt))
      have hst := wN_take (l := zs) (k := i) (by rw [hn.out]; exact hlt)
      have hlen : (l2 ++ wN (zs.take i)).length ≤ 140737488355000 := by
        have := wN_len (zs.take i)
        rw [List.length_take, hn.out] at this
        rw [List.length_append]; omega
      have c3 := fun w hW => rint_any (iat zs i) hx.1 hx.2 p G (l2 ++ wN (zs.take i)) hlen w hW
      rw [List.append_assoc, ← hst] at c3
      have hWr := HW.out
      clear hst hlen
      generalize iat zs i = x at *
      go_wp2_with (go_at_call 16; (with_reducible refine (c3 _ hWr).mono ?_); rintro e w3 ⟨rfl, G3, W3, M3, N3⟩)
      go_roundw
      case rel => exact ⟨i + 1, G3, by omega, by go_num, Lib.hid W3, Lib.hid (HM.out.trans HN.out M3), Lib.hid (HN.out.trans HM.out.size N3)⟩
      case measure => simp [intOf]; omega
    · obtain rfl : i = n := by omega
      have hWr := HW.out
      rw [HE.out] at hWr
      go_wp2_with fail
      go_end0
      exact ⟨rfl, G, hWr, HM.out, HN.out⟩

/-! ### NewWriter, Bytes -/
theorem rnew_any (w : World) :
    Calls Try.prog 14 #[] w fun e w' => e = .returned (.pointer (some ⟨w.heap.size, 0, none⟩)) ∧ Wr w' w.heap.size [w.heap.size] [] ∧ Below w.heap.size w w' := by
  go_enter Try.func14, Try.ntmps14
  go_wp2_with fail
  go_ret
  refine ⟨rfl, ⟨.slice none 0 0, _, heap_alloc_new w _, own_nil _ _, by simp, fun g e => by simp [Value.ownBlock] at e, fun k hk => ?_⟩, (Below.refl _ _).alloc (Nat.le_refl _) _⟩
  simp at hk
  simp; omega
theorem own_empty (w : World) : OwB (w.alloc (.cells #[] 5)) w.heap.size (.slice (some ⟨w.heap.size, 0, none⟩) 0 0) [] :=
  World.ownsRow_lit w #[] 0 (Nat.le_refl _) (by unfold maxLen; omega) rfl
set_option maxRecDepth 10000 in
theorem rbytes_any (p : Nat) (F : List Nat) (l : List UInt8) (hl : l.length ≤ 140737488355000) (w : World) (hW : Wr w p F l) :
    Calls Try.prog 21 #[.pointer (some ⟨p, 0, none⟩)] w fun e w' => ∃ v, e = .returned v ∧ OwB w' w.heap.size v l ∧ Below w.heap.size w w' := by
  obtain ⟨v, T, h1, h2, h3, h4, h5⟩ := hW
  obtain ⟨A, c, rfl, hc, hA, hn, hob⟩ := own_form h2
  have hA2 : Cb (w.alloc (.cells #[] 5)) A l := hA.below ((Below.refl _ _).alloc (Nat.le_refl _) _)
  have q1 : (w.alloc (.cells #[] 5)).heap[p]? = some (.cells #[.slice A l.length c] T (0, 0)) := by rw [Below.heap_alloc w _ p (h5 p h3)]; exact h1
  have k1 := cell_of_one q1
  have hO := own_empty w
  have hB : Below w.heap.size w (w.alloc (.cells #[] 5)) := (Below.refl _ _).alloc (Nat.le_refl _) _
  go_enter Try.func21, Try.ntmps21
  go_wp2_with (refine wpl_app rfl (.tmp 3) (.tmp 7) rfl _ w.heap.size (.slice (some ⟨w.heap.size, 0, none⟩) 0 0) [] (by rfl) hO A l.length c l (by rfl) rfl hA2 hn (by simp; omega) hB.size ?_; intro v' w3 AP)
  go_ret
  refine ⟨v', rfl, AP.1, hB.grown AP.2.1 hB.size fun g e => ?_⟩
  simp [Value.ownBlock] at e
  omega
end Go.Proofs.Ytpmmddemeiljjaa.wrD

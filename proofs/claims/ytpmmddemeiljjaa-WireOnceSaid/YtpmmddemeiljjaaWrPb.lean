/-
  Contracts of the program's writer: put, NewWriter, Uint, Int, Text, Ints, Bytes.
-/
import Derived.Test.YtpmmddemeiljjaaWrPa
import Derived.Test.YtpmmddemeiljjaaWrQ
namespace Go.Proofs.Ytpmmddemeiljjaa.wrPb
open Go.RowKit
open Go.Proofs.Ytpmmddemeiljjaa.dgM Go.Proofs.Ytpmmddemeiljjaa.wrM Go.Proofs.Ytpmmddemeiljjaa.wrO Go.Proofs.Ytpmmddemeiljjaa.wrA Go.Proofs.Ytpmmddemeiljjaa.wrC Go.Proofs.Ytpmmddemeiljjaa.wrD Go.Proofs.Ytpmmddemeiljjaa.wrPa Go.Proofs.Ytpmmddemeiljjaa.wrQ
set_option linter.unusedVariables false

/-! ### put -/
set_option maxRecDepth 10000 in
theorem put_any (A : Option Addr) (m c : Nat) (r : List UInt8) (hm : r.length = m) (hA : A = none → c = 0) (p : Nat) (F : List Nat) (l : List UInt8) (hl : l.length + m ≤ 140737488355328) (w : World) (hW : Wr w p F l) (hr : Cb w A r) :
    Calls Try.prog 58 #[.pointer (some ⟨p, 0, none⟩), .slice A m c] w (Wst w p F (l ++ r)) := by
  unfold Wst
  subst hm
  obtain ⟨v, T, h1, h2, h3, h4, h5⟩ := hW
  have hne := fun g e => (h4 g e).2
  have HP := Lib.hid (fun (v' : Value) (w2 : World) (ha : App w 0 v (l ++ r) v' w2) => Wr.app h1 h3 h4 h5 (Below.refl _ _) ha)
  obtain ⟨A1, c1, rfl, hc, hC, _, hob⟩ := own_form h2
  have c0 : w.cell? ⟨p, 0, none⟩ = some (.slice A1 l.length c1) := cell_of_one h1
  have f0 : w.frozen? ⟨p, 0, none⟩ = false := free_of h1
  go_enter Try.func58, Try.ntmps58
  go_wp2_with (refine wpl_app rfl (.tmp 10) (.tmp 11) rfl w 0 (.slice A1 l.length c1) l (by rfl) h2 A r.length c r (by rfl) rfl hr hA hl (Nat.zero_le _) ?_; intro v' w3 AP; obtain ⟨A3, c3, rfl, _⟩ := own_form AP.1; rw [List.length_append] at AP; have q3 := AP.keep h1 hne; have k3 := cell_of_one q3; have f3 := free_of q3)
  go_end0
  exact ⟨rfl, HP.out _ _ AP⟩
theorem put_nil (v : Value) (w : World) :
    Calls Try.prog 58 #[.pointer none, v] w fun e w' => e = .returned (.tuple #[]) ∧ w = w' := by
  go_enter Try.func58, Try.ntmps58
  go_wp2_with fail
  go_end0
  exact ⟨rfl, rfl⟩

/-! ### Uint -/
theorem wr_alloc {w : World} {p : Nat} {F : List Nat} {l : List UInt8} (h : Wr w p F l) (o : Obj) : Wr (w.alloc o) p F l := h.mv (G := []) (Mv.of_below ((Below.refl _ _).alloc (Nat.le_refl _) _)) (fun _ _ => by simp)
theorem mv_alloc (w : World) (F : List Nat) (o : Obj) : Mv w F (w.alloc o) := Mv.of_below ((Below.refl _ _).alloc (Nat.le_refl _) _)
theorem cb_one (w : World) (y : UInt8) (T : TypeId) : Cb (w.alloc (.cells #[vB y] T)) (some ⟨w.heap.size, 0, none⟩) [y] := fun _ => ⟨w.heap.size, 0, rfl, fun j x hx => by
  have hj : j = 0 := by have := (List.getElem?_eq_some_iff.1 hx).1; simp at this; exact this
  subst hj
  simp at hx
  subst hx
  rw [Nat.zero_add]
  exact cell_of_one (heap_alloc_new w _)⟩
set_option maxRecDepth 10000 in
set_option maxHeartbeats 1000000 in
theorem uint_any (x : Nat) (hx : x < A64) (p : Nat) (F : List Nat) (l : List UInt8) (hl : l.length ≤ 140737488355000) (w : World) (hW : Wr w p F l) :
    Calls Try.prog 42 #[.pointer (some ⟨p, 0, none⟩), .int .u64 (x : Int)] w (Wst w p F (l ++ vr x)) := by
  unfold Wst
  go_enter Try.func42, Try.ntmps42
  go_wp2_with fail
  go_loopw [1] (fun s1 wr => ∃ (i y : Nat) (d : List UInt8) (G : List Nat), i ≤ 9 ∧ s1 = .int .u64 (y : Int) ∧ y < A64 ∧ d.length ≤ 10 ∧ Hid (Wr wr p G (l ++ d)) ∧ Hid (Mv w F wr) ∧ Hid (Nw w F G) ∧ Hid (d ++ vn (i + 1) y = vr x ∧ y < cap (i + 1))) (fun s1 _ => (intOf s1).toNat)
  case atStart => exact ⟨9, x, [], F, by omega, rfl, hx, by simp, Lib.hid (by rw [List.append_nil]; exact hW), Lib.hid (Mv.refl _ _), Lib.hid (Nw.refl _ _), Lib.hid ⟨rfl, by rw [cap_ten]; exact hx⟩⟩
  case round =>
    obtain ⟨i, y, d, G, hi, rfl, hy, hl1, HW, HM, HN, HV⟩ := hrel
    have hy' : y < 18446744073709551616 := hy
    have hld : (l ++ d).length + 1 ≤ 140737488355328 := by rw [List.length_append]; omega
    by_cases hlt : y < 128
    · have t : decide ((127 : Int) < (y : Int)) = false := decide_eq_false (by omega)
      have e : IntKind.u8.wrap (y : Int) = (((by8 y).toNat : Nat) : Int) := by rw [by8_nat (by omega), IntKind.wrap_u8]; omega
      have HE : Hid (l ++ d ++ [by8 y] = l ++ vr x) := Lib.hid (by rw [← HV.out.1, vn_small hlt, List.append_assoc])
      clear HV hlt hy hy' hx
      generalize by8 y = c at *
      generalize l ++ d = l2 at *
      have hW2 := wr_alloc HW.out (.cells #[vB c] 5)
      have hC2 := cb_one wr c 5
      have cp := fun w hW hr => put_any (some ⟨wr.heap.size, 0, none⟩) 1 1 [c] rfl (fun e => absurd e (by simp)) p G l2 hld w hW hr
      unfold Wst at cp
      go_wp2_with (go_at_call 58; (with_reducible refine (cp _ hW2 hC2).mono ?_); rintro e w3 ⟨rfl, G3, W3, M3, N3⟩)
      go_end0
      rw [HE.out] at W3
      have hs : wr.heap.size ≤ (wr.alloc (.cells #[vB c] 5)).heap.size := (mv_alloc wr G _).size
      exact ⟨rfl, G3, W3, HM.out.trans HN.out ((mv_alloc wr G _).trans (Nw.refl _ _) M3), HN.out.trans HM.out.size (Nw.trans (Nw.refl _ _) hs N3)⟩
    · have t : (127 : Int) < (y : Int) := by omega
      have e7 : bits .and .u64 (y : Int) 127 = (y : Int) % 128 := by rw [and7u y hy]; omega
      have e8 : IntKind.u8.wrap ((y : Int) % 128) = (y : Int) % 128 := by rw [IntKind.wrap_u8]; omega
      have e9 : bits .or .u8 ((y : Int) % 128) 128 = (((by8 (y % 128 + 128)).toNat : Nat) : Int) := by
        have := or7 (y % 128) (by omega)
        rw [by8_nat (by omega), ← this]
        congr 1
      have e1 : (y : Int) / 128 = ((y / 128 : Nat) : Int) := by omega
      have h0 : i ≠ 0 := fun z => by
        have := HV.out.2
        rw [z] at this
        have h2 : y < 2 := this
        omega
      obtain ⟨j, rfl⟩ : ∃ j, i = j + 1 := ⟨i - 1, by omega⟩
      have HE : Hid (d ++ [by8 (y % 128 + 128)] ++ vn (j + 1) (y / 128) = vr x ∧ y / 128 < cap (j + 1)) := Lib.hid ⟨by rw [← HV.out.1, vn_big hlt, List.append_assoc]; rfl, by
        have : y < 128 * cap (j + 1) := HV.out.2
        omega⟩
      have by2 : y / 128 < A64 := by show y / 128 < 18446744073709551616; omega
      have hl9 : d.length ≤ 9 := by
        have := congrArg List.length HE.out.1
        have h10 := vr_len x
        have hp := vn_pos j (y / 128)
        simp only [List.length_append, List.length_cons, List.length_nil] at this
        omega
      have hm : y / 128 < y := by omega
      have bz : y / 128 < 18446744073709551616 := by omega
      clear HV hlt hy hx h0
      generalize by8 (y % 128 + 128) = c at *
      generalize y / 128 = z at *
      have hl10 : (d ++ [c]).length ≤ 10 := by rw [List.length_append]; simp; omega
      have HA : Hid (l ++ d ++ [c] = l ++ (d ++ [c])) := Lib.hid (List.append_assoc _ _ _)
      generalize d ++ [c] = d2 at *
      have hW2 := wr_alloc HW.out (.cells #[vB c] 5)
      have hC2 := cb_one wr c 5
      have cp := fun w hW hr => put_any (some ⟨wr.heap.size, 0, none⟩) 1 1 [c] rfl (fun e => absurd e (by simp)) p G (l ++ d) hld w hW hr
      unfold Wst at cp
      go_wp2_with (go_at_call 58; (with_reducible refine (cp _ hW2 hC2).mono ?_); rintro e w3 ⟨rfl, G3, W3, M3, N3⟩)
      have hs : wr.heap.size ≤ (wr.alloc (.cells #[vB c] 5)).heap.size := (mv_alloc wr G _).size
      rw [HA.out] at W3
      go_roundw
      case rel => exact ⟨j, z, d2, G3, by omega, rfl, by2, hl10, Lib.hid W3, Lib.hid (HM.out.trans HN.out ((mv_alloc wr G _).trans (Nw.refl _ _) M3)), Lib.hid (HN.out.trans HM.out.size (Nw.trans (Nw.refl _ _) hs N3)), HE⟩
      case measure => simp [intOf]; omega

theorem int_any (x : Int) (h0 : -9223372036854775808 ≤ x) (h1 : x ≤ 9223372036854775807) (p : Nat) (F : List Nat) (l : List UInt8) (hl : l.length ≤ 140737488355000) (w : World) (hW : Wr w p F l) :
    Calls Try.prog 43 #[.pointer (some ⟨p, 0, none⟩), .int .i64 x] w (Wst w p F (l ++ wI x)) := by
  have c1 := fun w => zig_any x (zz x) h0 h1 (Lib.hid rfl) w
  have c2 := fun w hW => uint_any (zz x) (zz_lt h0 h1) p F l hl w hW
  unfold wI Wst
  unfold Wst at c2
  generalize zz x = z at *
  go_enter Try.func43, Try.ntmps43
  go_wp2_with (first
    | (go_at_call 59; (with_reducible refine (c1 _).mono ?_); rintro e w' ⟨rfl, rfl⟩)
    | (go_at_call 42; (with_reducible refine (c2 _ hW).mono ?_); rintro e w' ⟨rfl, HF⟩))
  go_end0
  exact ⟨rfl, HF⟩

/-! ### Text -/
/-- a string's bytes in new memory -/
theorem bytes_of (W : World) (t : ByteArray) : ∃ c o, (convert 9 38 (.string t)).run Try.prog W = .ok (.slice (some ⟨W.heap.size, 0, none⟩) t.size c) (W.drew.alloc o) ∧ Cb (W.drew.alloc o) (some ⟨W.heap.size, 0, none⟩) t.data.toList ∧ t.size ≤ c := by
  have h := run_bytes_of_string W 9 38 5 t Try.underlying9 Try.underlying38 Try.underlying5
  refine ⟨_, _, h, fun _ => ⟨W.heap.size, 0, rfl, fun j x hx => ?_⟩, grownCap_ge _ _ _ _⟩
  have hj : j < t.data.size := by have := (List.getElem?_eq_some_iff.1 hx).1; simpa using this
  rw [Nat.zero_add]
  refine (cell_of_row _ W.drew.heap.size _ _ _ _ (heap_alloc_new W.drew _)).trans ?_
  rw [bytesRow_at _ _ _ hj]
  have e := (List.getElem?_eq_some_iff.1 hx).2
  rw [← e]; simp
set_option maxRecDepth 10000 in
set_option maxHeartbeats 1000000 in
theorem text_any (t : ByteArray) (ht : t.size ≤ 281474976710) (p : Nat) (F : List Nat) (l : List UInt8) (hl : l.length ≤ 100000000000000) (w : World) (hW : Wr w p F l) :
    Calls Try.prog 44 #[.pointer (some ⟨p, 0, none⟩), .string t] w (Wst w p F (l ++ wT t.data.toList)) := by
  have hz : t.data.toList.length = t.size := by show _ = t.data.size; simp
  have c2 := fun w hW => uint_any t.size (by show t.size < 18446744073709551616; omega) p F l (by omega) w hW
  have hL : (l ++ vr t.size).length ≤ 100000000000010 := by rw [List.length_append]; have := vr_len t.size; omega
  have HE : Hid (l ++ vr t.size ++ t.data.toList = l ++ wT t.data.toList) := Lib.hid (by unfold wT; rw [hz, List.append_assoc])
  unfold Wst
  unfold Wst at c2
  generalize l ++ vr t.size = l2 at *
  generalize l ++ wT t.data.toList = l3 at *
  go_enter Try.func44, Try.ntmps44
  go_upto_region 1 with (go_at_call 42; (with_reducible refine (c2 _ hW).mono ?_); rintro e w1 ⟨rfl, F1, W1, M1, N1⟩)
  obtain ⟨c, o, hcv, hC, hc⟩ := bytes_of w1 t
  have hW2 : Wr (w1.drew.alloc o) p F1 l2 := wr_alloc (w := w1.drew) (W1.mv ((Mv.refl w1 []).drew 1) (fun _ _ => by simp)) o
  have hM2 : Mv w1 F1 (w1.drew.alloc o) := (((Mv.refl w1 F1).drew 1)).trans (Nw.refl _ _) (mv_alloc w1.drew F1 o)
  have cp := fun w hW hr => put_any (some ⟨w1.heap.size, 0, none⟩) t.size c t.data.toList hz (fun e => absurd e (by simp)) p F1 l2 (by omega) w hW hr
  unfold Wst at cp
  go_wp2_with (go_at_call 58; (refine (cp _ hW2 hC).mono ?_); rintro e w3 ⟨rfl, G3, W3, M3, N3⟩)
  go_end0
  rw [HE.out] at W3
  exact ⟨rfl, G3, W3, M1.trans N1 (hM2.trans (Nw.refl _ _) M3), N1.trans M1.size (Nw.trans (Nw.refl _ _) hM2.size N3)⟩

/-! ### Ints -/
set_option maxRecDepth 10000 in
set_option maxHeartbeats 1000000 in
theorem ints_any (A : Option Addr) (n c : Nat) (zs : List Int) (hn : Hid (zs.length = n)) (hf : Hid (Fit zs)) (hN : n ≤ 10000000000) (p : Nat) (F : List Nat) (l : List UInt8) (hl : l.length ≤ 100000000000000) (w : World) (hW : Wr w p F l)
    (hI : Ci w A zs) (hd : 0 < zs.length → ∀ b off, A = some ⟨b, off, none⟩ → b ∉ F) :
    Calls Try.prog 45 #[.pointer (some ⟨p, 0, none⟩), .slice A n c] w (Wst w p F (l ++ wL zs)) := by
  have c2 := fun w hW => uint_any n (by show n < 18446744073709551616; omega) p F l (by omega) w hW
  have hL : (l ++ vr n).length ≤ 100000000000010 := by rw [List.length_append]; have := vr_len n; omega
  have HE : Hid (l ++ vr n ++ wN (zs.take n) = l ++ wL zs) := Lib.hid (by unfold wL; rw [hn.out, List.append_assoc, List.take_of_length_le (by rw [hn.out]; exact Nat.le_refl _)])
  unfold Wst
  unfold Wst at c2
  generalize l ++ vr n = l2 at *
  generalize l ++ wL zs = l3 at *
  go_enter Try.func45, Try.ntmps45
  go_wp2_with (go_at_call 42; (with_reducible refine (c2 _ hW).mono ?_); rintro e w1 ⟨rfl, F1, W1, M1, N1⟩)
  go_loopw [13] (fun s4 wr => ∃ (i : Nat) (G : List Nat), i ≤ n ∧ s4 = .int .i64 (i : Int) ∧ Hid (Wr wr p G (l2 ++ wN (zs.take i))) ∧ Hid (Mv w F wr) ∧ Hid (Nw w F G)) (fun s4 _ => n - (intOf s4).toNat)
  case atStart => exact ⟨0, F1, by omega, rfl, Lib.hid (by rw [List.take_zero]; show Wr w1 p F1 (l2 ++ []); rw [List.append_nil]; exact W1), Lib.hid M1, Lib.hid N1⟩
  case round =>
    obtain ⟨i, G, hi, rfl, HW, HM, HN⟩ := hrel
    by_cases hlt : i < n
    · obtain ⟨b, off, rfl, hc⟩ := (Ci.mv hI HM.out hd).at_ (k := i) (by rw [hn.out]; exact hlt)
      have hx := hf.out _ (iat_mem (l := zs) (k := i) (by rw [hn.out]; exact hlt))
      have hst := wN_take (l := zs) (k := i) (by rw [hn.out]; exact hlt)
      have hlen : (l2 ++ wN (zs.take i)).length ≤ 140737488355000 := by
        have := wN_len (zs.take i)
        rw [List.length_take, hn.out] at this
        rw [List.length_append]; omega
      have c3 := fun w hW => int_any (iat zs i) hx.1 hx.2 p G (l2 ++ wN (zs.take i)) hlen w hW
      rw [List.append_assoc, ← hst] at c3
      unfold Wst at c3
      have hWr := HW.out
      clear hst hlen
      generalize iat zs i = x at *
      go_wp2_with (go_at_call 43; (with_reducible refine (c3 _ hWr).mono ?_); rintro e w3 ⟨rfl, G3, W3, M3, N3⟩)
      go_roundw
      case rel => exact ⟨i + 1, G3, by omega, by go_num, Lib.hid W3, Lib.hid (HM.out.trans HN.out M3), Lib.hid (HN.out.trans HM.out.size N3)⟩
      case measure => simp [intOf]; omega
    · obtain rfl : i = n := by omega
      have hWr := HW.out
      rw [HE.out] at hWr
      go_wp2_with fail
      go_end0
      exact ⟨rfl, G, hWr, HM.out, HN.out⟩

/-! ### NewWriter, Bytes -/
theorem new_any (w : World) :
    Calls Try.prog 13 #[] w fun e w' => e = .returned (.pointer (some ⟨w.heap.size, 0, none⟩)) ∧ Wr w' w.heap.size [w.heap.size] [] ∧ Below w.heap.size w w' := by
  go_enter Try.func13, Try.ntmps13
  go_wp2_with fail
  go_ret
  refine ⟨rfl, ⟨.slice none 0 0, _, heap_alloc_new w _, own_nil _ _, by simp, fun g e => by simp [Value.ownBlock] at e, fun k hk => ?_⟩, (Below.refl _ _).alloc (Nat.le_refl _) _⟩
  simp at hk
  simp; omega
set_option maxRecDepth 10000 in
theorem bytes_any (p : Nat) (F : List Nat) (l : List UInt8) (hl : l.length ≤ 140737488355000) (w : World) (hW : Wr w p F l) :
    Calls Try.prog 20 #[.pointer (some ⟨p, 0, none⟩)] w fun e w' => ∃ v, e = .returned v ∧ OwB w' w.heap.size v l ∧ Below w.heap.size w w' := by
  obtain ⟨v, T, h1, h2, h3, h4, h5⟩ := hW
  obtain ⟨A, c, rfl, hc, hA, hn, hob⟩ := own_form h2
  have k1 := cell_of_one h1
  go_enter Try.func20, Try.ntmps20
  go_wp2_with (refine wpl_app rfl (.const (.slice none 0 0)) (.tmp 8) rfl _ w.heap.size (.slice none 0 0) [] (by rfl) (own_nil _ _) A l.length c l (by rfl) rfl hA hn (by simp; omega) (Nat.le_refl _) ?_; intro v' w3 AP)
  go_ret
  refine ⟨v', rfl, AP.1, (Below.refl _ w).grown AP.2.1 (Nat.le_refl _) fun g e => ?_⟩
  simp [Value.ownBlock] at e
end Go.Proofs.Ytpmmddemeiljjaa.wrPb

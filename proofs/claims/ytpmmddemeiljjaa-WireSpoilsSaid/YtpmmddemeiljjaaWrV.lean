/-
  The law's equal, over any reader that keeps the record of contracts.
-/
import Derived.Test.YtpmmddemeiljjaaWrW
import Derived.Deep.RegionWith
import Derived.Deep.RegionHeld3
namespace Go.Proofs.Ytpmmddemeiljjaa.wrV
open Go.RowKit
open Go.Proofs.Ytpmmddemeiljjaa.dgM Go.Proofs.Ytpmmddemeiljjaa.wrM Go.Proofs.Ytpmmddemeiljjaa.wrO Go.Proofs.Ytpmmddemeiljjaa.wrA Go.Proofs.Ytpmmddemeiljjaa.wrB Go.Proofs.Ytpmmddemeiljjaa.wrC Go.Proofs.Ytpmmddemeiljjaa.wrE Go.Proofs.Ytpmmddemeiljjaa.wrH Go.Proofs.Ytpmmddemeiljjaa.wrQ Go.Proofs.Ytpmmddemeiljjaa.wrL Go.Proofs.Ytpmmddemeiljjaa.wrW
set_option linter.unusedVariables false

/-- a block of five cells -/
def R5 (w : World) (p : Nat) (x : It) : Prop := ∃ T, w.heap[p]? = some (.cells #[.int .i64 x.kind, .int .i64 x.n, .int .u64 (x.u : Int), .string x.s, .slice x.A x.l.length x.c] T (0, 0))
section
variable {w w' : World} {p : Nat} {x : It}
theorem R5.c0 (h : R5 w p x) : w.cell? ⟨p, 0, none⟩ = some (.int .i64 x.kind) := by obtain ⟨T, h⟩ := h; simp [World.cell?, h]
theorem R5.c1 (h : R5 w p x) : w.cell? ⟨p, 1, none⟩ = some (.int .i64 x.n) := by obtain ⟨T, h⟩ := h; simp [World.cell?, h]
theorem R5.c2 (h : R5 w p x) : w.cell? ⟨p, 2, none⟩ = some (.int .u64 (x.u : Int)) := by obtain ⟨T, h⟩ := h; simp [World.cell?, h]
theorem R5.c3 (h : R5 w p x) : w.cell? ⟨p, 3, none⟩ = some (.string x.s) := by obtain ⟨T, h⟩ := h; simp [World.cell?, h]
theorem R5.c4 (h : R5 w p x) : w.cell? ⟨p, 4, none⟩ = some (.slice x.A x.l.length x.c) := by obtain ⟨T, h⟩ := h; simp [World.cell?, h]
theorem R5.drew (h : R5 w p x) : R5 w.drew p x := h
theorem R5.lt (h : R5 w p x) : p < w.heap.size := by
  obtain ⟨T, h⟩ := h
  rcases Nat.lt_or_ge p w.heap.size with h' | h'
  · exact h'
  · rw [Array.getElem?_eq_none h'] at h; cases h
theorem R5.mv {F : List Nat} (h : R5 w p x) (hm : Mv w F w') (hp : p ∉ F) : R5 w' p x := by
  have hl := h.lt
  obtain ⟨T, h⟩ := h
  exact ⟨T, (hm.block hl hp).trans h⟩
end
theorem _root_.Go.RowKit.Below.drewN1' {B : Nat} {w v : World} (h : Below B w v) (k : Nat) : Below B w (v.drewN k) := ⟨h.os, h.tape, h.output, h.size, h.block⟩
theorem mv_drawn {w w2 w3 : World} {F : List Nat} (h : Mv w F w2) (hd : ∃ d, w3 = w2.drewN d) : Mv w F w3 := by
  obtain ⟨d, rfl⟩ := hd; exact h.drew d
/-- the item as a value -/
def vX (x : It) : Value := .agg #[.int .i64 x.kind, .int .i64 x.n, .int .u64 (x.u : Int), .string x.s, .slice x.A x.l.length x.c]
theorem ms {w w1 w2 : World} {F G : List Nat} (h : Mv w.drew F w2) (h0 : Mv w1 G w) (hs : ∀ k ∈ F, k < w1.heap.size) (hn : ∀ k ∈ G, False) : Mv w1 F w2 :=
  ⟨h.1.trans h0.1, h.2.1.trans h0.2.1, h.2.2.1.trans h0.2.2.1, Nat.le_trans h0.size h.size, fun k hk hF => (h.block (Nat.lt_of_lt_of_le hk h0.size) hF).trans (h0.block hk (fun hg => hn k hg))⟩
set_option maxRecDepth 10000 in
set_option maxHeartbeats 2000000 in
theorem equal_int (Q : PRd) (n : Int) (u : Nat) (s : ByteArray) (A : Option Addr) (l : List Int) (c : Nat) (hx : (It.mk 1 n u s A l c).ok) (hsz : s.size ≤ 100000 ∧ l.length ≤ 100000) (r : Nat) (F : List Nat) (rest : List UInt8) (hl : (wI n ++ rest).length ≤ 100000000) (w : World) (hR : Q.O w r F (.ok (wI n ++ rest))) :
    Calls Try.prog 37 #[ptr r, .agg #[.int .i64 1, .int .i64 n, .int .u64 (u : Int), .string s, .slice A l.length c]] w (Ost Q.O w r F (.bool true) (.ok rest)) := by
  obtain ⟨hk1, hn1, hu1, hf1, hc1, hs1, hA1⟩ := hx
  simp only at hk1 hn1 hu1 hf1 hc1 hs1 hA1
  have hv : rI (.ok (wI n ++ rest)) = (n, .ok rest) := rI_wI hn1.1 hn1.2 rest
  have c1 := fun w h => Q.int r F (.ok (wI n ++ rest)) hl w h
  rw [hv] at c1
  have hal : Mv w [] (w.alloc (.cells #[.int .i64 1, .int .i64 n, .int .u64 (u : Int), .string s, .slice A l.length c] 33)) := Mv.of_below (below_al _ _)
  have hO := Q.mv hR hal (fun _ _ => by simp)
  have hOd : Q.O (w.alloc (.cells #[.int .i64 1, .int .i64 n, .int .u64 (u : Int), .string s, .slice A l.length c] 33)).drew r F (.ok (wI n ++ rest)) := Q.mv hO (G := []) ((Mv.refl _ _).drew 1) (fun _ _ => by simp)
  have h5 : R5 (w.alloc (.cells #[.int .i64 1, .int .i64 n, .int .u64 (u : Int), .string s, .slice A l.length c] 33)) w.heap.size (It.mk 1 n u s A l c) := ⟨_, heap_alloc_new w _⟩
  have hlt := Q.lt hR
  have hnp : w.heap.size ∉ F := fun h => by have := hlt _ h; omega
  have k0 := h5.c0
  simp only at k0
  clear hl hR hO hv
  go_enter Try.func37, Try.ntmps37
  go_upto_region 3 with fail
  generalize w.alloc (.cells #[.int .i64 1, .int .i64 n, .int .u64 (u : Int), .string s, .slice A l.length c] 33) = w1 at *
  have k1 := h5.drew.c1
  simp only at k1
  go_region_with (go_at_call 24; (refine (c1 _ hOd).mono ?_); rintro e w2 ⟨rfl, F2, O2, M2, N2⟩; have k2 := (h5.drew.mv M2 hnp).c1; simp only at k2)
  all_goals
    go_wp2_with fail
    go_ret
    exact ⟨rfl, F2, O2, ms M2 hal hlt (fun k hk => by simp at hk), fun k hk => by
      rcases N2 k hk with h | h
      · exact .inl h
      · exact .inr (Nat.le_trans hal.size h)⟩
set_option maxRecDepth 10000 in
set_option maxHeartbeats 2000000 in
theorem equal_uint (Q : PRd) (n : Int) (u : Nat) (s : ByteArray) (A : Option Addr) (l : List Int) (c : Nat) (hx : (It.mk 2 n u s A l c).ok) (hsz : s.size ≤ 100000 ∧ l.length ≤ 100000) (r : Nat) (F : List Nat) (rest : List UInt8) (hl : (vr u ++ rest).length ≤ 100000000) (w : World) (hR : Q.O w r F (.ok (vr u ++ rest))) :
    Calls Try.prog 37 #[ptr r, .agg #[.int .i64 2, .int .i64 n, .int .u64 (u : Int), .string s, .slice A l.length c]] w (Ost Q.O w r F (.bool true) (.ok rest)) := by
  obtain ⟨hk1, hn1, hu1, hf1, hc1, hs1, hA1⟩ := hx
  simp only at hk1 hn1 hu1 hf1 hc1 hs1 hA1
  have hv : rU (.ok (vr u ++ rest)) = (u, .ok rest) := rU_vr hu1 rest
  have c1 := fun w h => Q.uint r F (.ok (vr u ++ rest)) hl w h
  rw [hv] at c1
  have hal : Mv w [] (w.alloc (.cells #[.int .i64 2, .int .i64 n, .int .u64 (u : Int), .string s, .slice A l.length c] 33)) := Mv.of_below (below_al _ _)
  have hO := Q.mv hR hal (fun _ _ => by simp)
  have hOd : Q.O (w.alloc (.cells #[.int .i64 2, .int .i64 n, .int .u64 (u : Int), .string s, .slice A l.length c] 33)).drew r F (.ok (vr u ++ rest)) := Q.mv hO (G := []) ((Mv.refl _ _).drew 1) (fun _ _ => by simp)
  have h5 : R5 (w.alloc (.cells #[.int .i64 2, .int .i64 n, .int .u64 (u : Int), .string s, .slice A l.length c] 33)) w.heap.size (It.mk 2 n u s A l c) := ⟨_, heap_alloc_new w _⟩
  have hlt := Q.lt hR
  have hnp : w.heap.size ∉ F := fun h => by have := hlt _ h; omega
  have k0 := h5.c0
  simp only at k0
  clear hl hR hO hv
  go_enter Try.func37, Try.ntmps37
  go_upto_region 5 with fail
  generalize w.alloc (.cells #[.int .i64 2, .int .i64 n, .int .u64 (u : Int), .string s, .slice A l.length c] 33) = w1 at *
  have k1 := h5.drew.c2
  simp only at k1
  go_region_with (go_at_call 26; (refine (c1 _ hOd).mono ?_); rintro e w2 ⟨rfl, F2, O2, M2, N2⟩; have k2 := (h5.drew.mv M2 hnp).c2; simp only at k2)
  all_goals
    go_wp2_with fail
    go_ret
    exact ⟨rfl, F2, O2, ms M2 hal hlt (fun k hk => by simp at hk), fun k hk => by
      rcases N2 k hk with h | h
      · exact .inl h
      · exact .inr (Nat.le_trans hal.size h)⟩
set_option maxRecDepth 10000 in
set_option maxHeartbeats 2000000 in
theorem equal_text (Q : PRd) (n : Int) (u : Nat) (s : ByteArray) (A : Option Addr) (l : List Int) (c : Nat) (hx : (It.mk 3 n u s A l c).ok) (hsz : s.size ≤ 100000 ∧ l.length ≤ 100000) (r : Nat) (F : List Nat) (rest : List UInt8) (hl : (wT s.data.toList ++ rest).length ≤ 100000000) (w : World) (hR : Q.O w r F (.ok (wT s.data.toList ++ rest))) :
    Calls Try.prog 37 #[ptr r, .agg #[.int .i64 3, .int .i64 n, .int .u64 (u : Int), .string s, .slice A l.length c]] w (Ost Q.O w r F (.bool true) (.ok rest)) := by
  obtain ⟨hk1, hn1, hu1, hf1, hc1, hs1, hA1⟩ := hx
  simp only at hk1 hn1 hu1 hf1 hc1 hs1 hA1
  have hzl : s.data.toList.length = s.size := by show _ = s.data.size; simp
  have hv : rT (s.size : Int) (.ok (wT s.data.toList ++ rest)) = (s.data.toList, .ok rest) := by
    have := rT_wT (s := s.data.toList) (by show _ < 18446744073709551616; omega) rest
    rw [hzl] at this
    exact this
  have c1 := fun w h => Q.text (s.size : Int) (by omega) (by omega) r F (.ok (wT s.data.toList ++ rest)) hl w h
  rw [hv] at c1
  have hsb : (⟨s.data.toList.toArray⟩ : ByteArray) = s := by cases s; simp
  simp only [hsb] at c1
  have hal : Mv w [] (w.alloc (.cells #[.int .i64 3, .int .i64 n, .int .u64 (u : Int), .string s, .slice A l.length c] 33)) := Mv.of_below (below_al _ _)
  have hO := Q.mv hR hal (fun _ _ => by simp)
  have hOd : Q.O (w.alloc (.cells #[.int .i64 3, .int .i64 n, .int .u64 (u : Int), .string s, .slice A l.length c] 33)).drew r F (.ok (wT s.data.toList ++ rest)) := Q.mv hO (G := []) ((Mv.refl _ _).drew 1) (fun _ _ => by simp)
  have h5 : R5 (w.alloc (.cells #[.int .i64 3, .int .i64 n, .int .u64 (u : Int), .string s, .slice A l.length c] 33)) w.heap.size (It.mk 3 n u s A l c) := ⟨_, heap_alloc_new w _⟩
  have hlt := Q.lt hR
  have hnp : w.heap.size ∉ F := fun h => by have := hlt _ h; omega
  have k0 := h5.c0
  simp only at k0
  clear hl hR hO hv hsb hzl
  go_enter Try.func37, Try.ntmps37
  go_upto_region 7 with fail
  generalize w.alloc (.cells #[.int .i64 3, .int .i64 n, .int .u64 (u : Int), .string s, .slice A l.length c] 33) = w1 at *
  have k1 := h5.drew.c3
  simp only at k1
  go_region_with (go_at_call 28; (refine (c1 _ hOd).mono ?_); rintro e w2 ⟨rfl, F2, O2, M2, N2⟩; have k2 := (h5.drew.mv M2 hnp).c3; simp only at k2)
  all_goals
    go_wp2_with fail
    go_ret
    exact ⟨rfl, F2, O2, ms M2 hal hlt (fun k hk => by simp at hk), fun k hk => by
      rcases N2 k hk with h | h
      · exact .inl h
      · exact .inr (Nat.le_trans hal.size h)⟩
set_option maxRecDepth 10000 in
set_option maxHeartbeats 2000000 in
theorem equal_ints (Q : PRd) (kd : Int) (n : Int) (u : Nat) (s : ByteArray) (A : Option Addr) (l : List Int) (c : Nat) (k1 : ¬ kd = 1) (k2 : ¬ kd = 2) (k3 : ¬ kd = 3) (hx : (It.mk kd n u s A l c).ok) (hsz : s.size ≤ 100000 ∧ l.length ≤ 100000) (r : Nat) (F : List Nat) (rest : List UInt8) (hl : (wL l ++ rest).length ≤ 100000000) (w : World) (hR : Q.O w r F (.ok (wL l ++ rest)))
    (hC : Ci w A l) (hd : 0 < l.length → ∀ b off, A = some ⟨b, off, none⟩ → b ∉ F) :
    Calls Try.prog 37 #[ptr r, .agg #[.int .i64 kd, .int .i64 n, .int .u64 (u : Int), .string s, .slice A l.length c]] w (Ost Q.O w r F (.bool true) (.ok rest)) := by
  obtain ⟨hk1, hn1, hu1, hf1, hc1, hs1, hA1⟩ := hx
  simp only at hk1 hn1 hu1 hf1 hc1 hs1 hA1
  have hv : rL (l.length : Int) (.ok (wL l ++ rest)) = (l, .ok rest) := rL_wL (by show _ < 18446744073709551616; omega) hf1 rest
  have c1 := fun w h => Q.ints (l.length : Int) (by omega) (by omega) r F (.ok (wL l ++ rest)) hl w h
  rw [hv] at c1
  have t1 : (kd == 1) = false := by simpa using k1
  have t2 : (kd == 2) = false := by simpa using k2
  have t3 : (kd == 3) = false := by simpa using k3
  have hal : Mv w [] (w.alloc (.cells #[.int .i64 kd, .int .i64 n, .int .u64 (u : Int), .string s, .slice A l.length c] 33)) := Mv.of_below (below_al _ _)
  have hO := Q.mv hR hal (fun _ _ => by simp)
  have hOd : Q.O (w.alloc (.cells #[.int .i64 kd, .int .i64 n, .int .u64 (u : Int), .string s, .slice A l.length c] 33)).drew r F (.ok (wL l ++ rest)) := Q.mv hO (G := []) ((Mv.refl _ _).drew 1) (fun _ _ => by simp)
  have h5 : R5 (w.alloc (.cells #[.int .i64 kd, .int .i64 n, .int .u64 (u : Int), .string s, .slice A l.length c] 33)) w.heap.size (It.mk kd n u s A l c) := ⟨_, heap_alloc_new w _⟩
  have hCa : Ci (w.alloc (.cells #[.int .i64 kd, .int .i64 n, .int .u64 (u : Int), .string s, .slice A l.length c] 33)).drew A l := hC.below (w' := (w.alloc (.cells #[.int .i64 kd, .int .i64 n, .int .u64 (u : Int), .string s, .slice A l.length c] 33)).drew) ((below_al w _).drewN1' 1)
  have hlt := Q.lt hR
  have hnp : w.heap.size ∉ F := fun h => by have := hlt _ h; omega
  have k0 := h5.c0
  simp only at k0
  have hfin : ∀ {w2 w3 : World} {F2 : List Nat}, Q.O w2 r F2 (.ok rest) → (∃ d, w3 = w2.drewN d) → Q.O w3 r F2 (.ok rest) := fun h ⟨d, e⟩ => by
    subst e; exact Q.mv h (G := []) ((Mv.refl _ _).drew d) (fun _ _ => by simp)
  clear hl hR hO hv k1 k2 k3 hC
  go_enter Try.func37, Try.ntmps37
  go_upto_region 8 with fail
  generalize w.alloc (.cells #[.int .i64 kd, .int .i64 n, .int .u64 (u : Int), .string s, .slice A l.length c] 33) = w1 at *
  have q1 := h5.drew.c4
  simp only at q1
  go_region_held3 (fun w' => w'.cell? ⟨w.heap.size, 4, none⟩ = some (.slice A l.length c)) (go_keep)
    (first
      | (go_at_call 31; (with_reducible refine (c1 _ hOd).mono ?_); rintro e w2 ⟨A3, n3, c3, F2, rfl, C3, rfl, hc3, hnw, hA3, O2, M2, N2⟩; have q2 := (h5.drew.mv M2 hnp).c4; have C4 := Ci.mv hCa M2 hd; simp only at q2)
      | (go_at_call 30; (with_reducible refine (same_any A3 A l.length l.length c3 c l l (Lib.hid rfl) (Lib.hid rfl) (by omega) (by omega) true (Lib.hid (by simp)) w2 C3 C4).mono ?_); rintro e w3 ⟨rfl, hdr⟩; have q3 := (h5.drew.mv (mv_drawn M2 hdr) hnp).c4; simp only at q3; have O3 := hfin O2 hdr; have M3 := mv_drawn M2 hdr)
      | fail)
  all_goals
    go_wp2_with fail
    go_ret
    exact ⟨rfl, F2, O3, ms M3 hal hlt (fun k hk => by simp at hk), fun k hk => by
      rcases N2 k hk with h | h
      · exact .inl h
      · exact .inr (Nat.le_trans hal.size h)⟩
/-- an item that was written is read -/
theorem equal_any (Q : PRd) (x : It) (hx : x.ok) (hsz : x.s.size ≤ 100000 ∧ x.l.length ≤ 100000) (r : Nat) (F : List Nat) (rest : List UInt8) (hl : (wX x ++ rest).length ≤ 100000000) (w : World) (hR : Q.O w r F (.ok (wX x ++ rest)))
    (hC : Ci w x.A x.l) (hd : 0 < x.l.length → ∀ b off, x.A = some ⟨b, off, none⟩ → b ∉ F) :
    Calls Try.prog 37 #[ptr r, .agg #[.int .i64 x.kind, .int .i64 x.n, .int .u64 (x.u : Int), .string x.s, .slice x.A x.l.length x.c]] w (Ost Q.O w r F (.bool true) (.ok rest)) := by
  obtain ⟨kd, n, u, s, A, l, c⟩ := x
  simp only at hsz hC hd ⊢
  by_cases k1 : kd = 1
  · subst k1
    exact equal_int Q n u s A l c hx hsz r F rest hl w hR
  by_cases k2 : kd = 2
  · subst k2
    exact equal_uint Q n u s A l c hx hsz r F rest hl w hR
  by_cases k3 : kd = 3
  · subst k3
    exact equal_text Q n u s A l c hx hsz r F rest hl w hR
  have hw : wX (It.mk kd n u s A l c) = wL l := by unfold wX; rw [if_neg k1, if_neg k2, if_neg k3]
  rw [hw] at hl hR
  exact equal_ints Q kd n u s A l c k1 k2 k3 hx hsz r F rest hl w hR hC hd
end Go.Proofs.Ytpmmddemeiljjaa.wrV

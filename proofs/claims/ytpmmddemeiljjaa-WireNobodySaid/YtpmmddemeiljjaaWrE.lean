/-
  Contracts of the reference's reader: Uint, Int, size, Left, Err, Text.
-/
import Derived.Test.YtpmmddemeiljjaaWrB
import Derived.Test.YtpmmddemeiljjaaWrC
import Derived.Deep.DeepCutAuto
import Derived.Laws.IdiomStrings
import Derived.Lib.BufferRead
namespace Go.Proofs.Ytpmmddemeiljjaa.wrE
open Go.RowKit
open Go.Proofs.Ytpmmddemeiljjaa.dgM Go.Proofs.Ytpmmddemeiljjaa.wrM Go.Proofs.Ytpmmddemeiljjaa.wrO Go.Proofs.Ytpmmddemeiljjaa.wrA Go.Proofs.Ytpmmddemeiljjaa.wrB Go.Proofs.Ytpmmddemeiljjaa.wrC
set_option linter.unusedVariables false

/-! ### a block of three cells -/
def R3 (w : World) (p : Nat) (a b c : Value) : Prop := ∃ T, w.heap[p]? = some (.cells #[a, b, c] T (0, 0))
section
variable {w w' : World} {p : Nat} {a b c : Value}
theorem R3.c0 (h : R3 w p a b c) : w.cell? ⟨p, 0, none⟩ = some a := by obtain ⟨T, h⟩ := h; simp [World.cell?, h]
theorem R3.c1 (h : R3 w p a b c) : w.cell? ⟨p, 1, none⟩ = some b := by obtain ⟨T, h⟩ := h; simp [World.cell?, h]
theorem R3.c2 (h : R3 w p a b c) : w.cell? ⟨p, 2, none⟩ = some c := by obtain ⟨T, h⟩ := h; simp [World.cell?, h]
theorem R3.free (h : R3 w p a b c) (j : Nat) : w.frozen? ⟨p, j, none⟩ = false := by obtain ⟨T, h⟩ := h; simp [World.frozen?, h]
theorem R3.drewN (h : R3 w p a b c) (k : Nat) : R3 (w.drewN k) p a b c := h
theorem R3.set1 (h : R3 w p a b c) (u : Value) : R3 (w.setCell ⟨p, 1, none⟩ u) p a u c := by
  obtain ⟨T, h⟩ := h
  exact ⟨T, by simp [World.setCell, Array.getElem?_modify, h]⟩
theorem R3.set2 (h : R3 w p a b c) (u : Value) : R3 (w.setCell ⟨p, 2, none⟩ u) p a b u := by
  obtain ⟨T, h⟩ := h
  exact ⟨T, by simp [World.setCell, Array.getElem?_modify, h]⟩
theorem R3.block (h : R3 w p a b c) (e : w'.heap[p]? = w.heap[p]?) : R3 w' p a b c := by
  obtain ⟨T, h⟩ := h
  exact ⟨T, e.trans h⟩
end
theorem mv_set (w : World) (p j : Nat) (u : Value) (F : List Nat) (hp : p ∈ F) : Mv w F (w.setCell ⟨p, j, none⟩ u) :=
  ⟨rfl, rfl, rfl, by simp [World.setCell], fun k _ hF => Below.heap_setCell w ⟨p, j, none⟩ u k (fun e => hF (e ▸ hp))⟩

/-! ### a reader -/
/-- what is left, or the error -/
def St (B : List UInt8) (k e : Nat) : Rs → Prop
  | .ok l => e = 0 ∧ l = B.drop k
  | .bad e' => e = e' ∧ e' ≠ 0
def Rd (w : World) (p : Nat) (F : List Nat) (S : Rs) : Prop :=
  ∃ (A : Option Addr) (n c k e : Nat) (B : List UInt8), R3 w p (.slice A n c) (.int .i64 (k : Int)) (.int .i64 (e : Int)) ∧ B.length = n ∧ k ≤ n ∧ n ≤ c ∧ n ≤ 140737488355328 ∧ e ≤ 100 ∧ Cb w A B ∧ St B k e S ∧
    p ∈ F ∧ (∀ b off, A = some ⟨b, off, none⟩ → b ∈ F ∧ b ≠ p) ∧ ∀ j ∈ F, j < w.heap.size
theorem Rd.mv {w w' : World} {p : Nat} {F G : List Nat} {S : Rs} (h : Rd w p F S) (hm : Mv w G w') (hd : ∀ k ∈ F, k ∉ G) : Rd w' p F S := by
  obtain ⟨A, n, c, k, e, B, h1, h2, h3, h3', h4, h5, h6, h7, h8, h9, h10⟩ := h
  exact ⟨A, n, c, k, e, B, h1.block (hm.block (h10 p h8) (hd p h8)), h2, h3, h3', h4, h5, Cb.mv h6 hm (fun b off e => hd b (h9 b off e).1), h7, h8, h9, fun j hj => Nat.lt_of_lt_of_le (h10 j hj) hm.size⟩
theorem tk_err_le : ∀ (f : Nat) (l : List UInt8), (tk f l).2.2 ≤ 28
  | 0, _ => by show 9 ≤ 28; omega
  | f + 1, [] => Nat.le_refl _
  | f + 1, c :: l => by
    by_cases a : f = 0 ∧ 1 < c.toNat
    · rw [tk_over a.1 a.2]; show 9 ≤ 28; omega
    by_cases b : c.toNat = 0 ∧ f < 9
    · rw [tk_zero a b.1 b.2]; show 27 ≤ 28; omega
    by_cases d : c.toNat < 128
    · rw [tk_last a b d]; show 0 ≤ 28; omega
    · rw [tk_more a d]
      have := tk_err_le f l
      by_cases e : (tk f l).2.2 = 0
      · rw [if_pos e]; show 0 ≤ 28; omega
      · rw [if_neg e]; exact this
theorem quiet_l {P : Program} {f : FuncId} {args : Array Value} {w : World} {n : Nat} {v : Value}
    (h : Calls P f args (w.drewN n) fun e w' => e = .returned v ∧ w.drewN n = w') : Calls P f args (w.drewN n) fun e w'' => e = .returned v ∧ ∃ m, w'' = w.drewN m :=
  h.mono fun _ _ ⟨he, hm⟩ => ⟨he, n, hm.symm⟩
/-- a reader's step -/
def Rst (w : World) (p : Nat) (F : List Nat) (v : Value) (S : Rs) (e : Ending) (w' : World) : Prop := e = .returned v ∧ Rd w' p F S ∧ Mv w F w'
set_option maxRecDepth 10000 in
set_option maxHeartbeats 1000000 in
theorem ruint_any (p : Nat) (F : List Nat) (S : Rs) (V : Nat) (S' : Rs) (hV : Hid (rU S = (V, S'))) (w : World) (hR : Rd w p F S) :
    Calls Try.prog 27 #[.pointer (some ⟨p, 0, none⟩)] w (Rst w p F (.int .u64 (V : Int)) S') := by
  obtain ⟨A, n, c, k, e, B, h1, h2, h3, h3', h4, h5, h6, h7, h8, h9, h10⟩ := hR
  have c0 := h1.c0
  have c1 := h1.c1
  have c2 := h1.c2
  cases S with
  | bad e' =>
    obtain ⟨rfl, he⟩ := h7
    have hv := hV.out
    rw [rU_bad] at hv
    obtain ⟨rfl, rfl⟩ : 0 = V ∧ Rs.bad e = S' := ⟨congrArg Prod.fst hv, congrArg Prod.snd hv⟩
    have t : ((e : Int) != 0) = true := by simp; omega
    have hR2 : Rd w p F (.bad e) := ⟨A, n, c, k, e, B, h1, h2, h3, h3', h4, h5, h6, ⟨rfl, he⟩, h8, h9, h10⟩
    clear hV hv h1 h6
    unfold Rst
    go_enter Try.func27, Try.ntmps27
    go_wp2_with fail
    go_ret
    exact ⟨rfl, hR2, Mv.refl _ _⟩
  | ok l =>
    obtain ⟨rfl, rfl⟩ := h7
    have hv := hV.out
    have q0 := h1.free 1
    have q1 := h1.free 2
    by_cases he : (tr (B.drop k)).2.2 = 0
    · rw [rU_ok he] at hv
      obtain ⟨hV1, hS1⟩ := Prod.mk.inj hv
      have hN := tr_len (B.drop k)
      rw [List.length_drop, h2] at hN
      have hlt := (vr_tr he).2.2
      have ct := fun w h => rtake_any A n c k B (Lib.hid h2) h3 h4 V (k + (tr (B.drop k)).2.1) 0 (Lib.hid ⟨hV1.symm, by rw [if_pos he], he.symm⟩) w h
      rw [List.drop_drop] at hS1
      rw [hV1] at hlt
      generalize (tr (B.drop k)).2.1 = m at *
      obtain ⟨k2, hk2⟩ : ∃ k2, k2 = k + m := ⟨_, rfl⟩
      rw [← hk2] at ct hS1
      have hlt' : V < 18446744073709551616 := hlt
      have hk3 : k2 ≤ n := by omega
      have HF : Hid (∀ w2, R3 w2 p (.slice A n c) (.int .i64 (k2 : Int)) (.int .i64 0) → Mv w F w2 → Cb w2 A B → Rd w2 p F S' ∧ Mv w F w2) := Lib.hid fun w2 r m' cb =>
        ⟨⟨A, n, c, k2, 0, B, r, h2, hk3, h3', h4, by omega, cb, by rw [← hS1]; exact ⟨rfl, rfl⟩, h8, h9, fun j hj => Nat.lt_of_lt_of_le (h10 j hj) m'.size⟩, m'⟩
      clear hV hv hV1 hS1 he hN hk2
      unfold Rst
      go_enter Try.func27, Try.ntmps27
      go_wp2_with fail
      go_quiet ((go_at_call 51; exact quiet_l (ct _ (h6.drewN _))))
      go_wp2_with fail
      go_ret
      obtain ⟨r1, r2⟩ := HF.out _ (((h1.drewN _).set1 _)) ((Mv.refl w F).drew _ |>.trans (Nw.refl _ _) (mv_set _ p 1 _ F h8)) (Cb.mv (h6.drewN _) (mv_set _ p 1 _ [p] (by simp)) (fun b off e => by simp; exact (h9 b off e).2))
      exact ⟨rfl, r1, r2⟩
    · have hle := tk_err_le 10 (B.drop k)
      rw [rU_no he] at hv
      obtain ⟨hV1, hS1⟩ := Prod.mk.inj hv
      have hz := tk_err 10 (B.drop k) he
      have hz1 : (tr (B.drop k)).1 = 0 := hz.1
      have hle1 : (tr (B.drop k)).2.2 ≤ 28 := hle
      have ct := fun w h => rtake_any A n c k B (Lib.hid h2) h3 h4 0 0 (tr (B.drop k)).2.2 (Lib.hid ⟨hz1.symm, by rw [if_neg he], rfl⟩) w h
      generalize (tr (B.drop k)).2.2 = E at *
      subst hV1
      have t : ((E : Int) != 0) = true := by simp; omega
      have HF : Hid (∀ w2, R3 w2 p (.slice A n c) (.int .i64 (k : Int)) (.int .i64 (E : Int)) → Mv w F w2 → Cb w2 A B → Rd w2 p F S' ∧ Mv w F w2) := Lib.hid fun w2 r m' cb =>
        ⟨⟨A, n, c, k, E, B, r, h2, h3, h3', h4, by omega, cb, by rw [← hS1]; exact ⟨rfl, he⟩, h8, h9, fun j hj => Nat.lt_of_lt_of_le (h10 j hj) m'.size⟩, m'⟩
      clear hV hv hS1 he hz hz1 hle hle1
      unfold Rst
      go_enter Try.func27, Try.ntmps27
      go_wp2_with fail
      go_quiet ((go_at_call 51; exact quiet_l (ct _ (h6.drewN _))))
      go_wp2_with fail
      go_ret
      obtain ⟨r1, r2⟩ := HF.out _ (((h1.drewN _).set2 _)) ((Mv.refl w F).drew _ |>.trans (Nw.refl _ _) (mv_set _ p 2 _ F h8)) (Cb.mv (h6.drewN _) (mv_set _ p 2 _ [p] (by simp)) (fun b off e => by simp; exact (h9 b off e).2))
      exact ⟨rfl, r1, r2⟩

theorem rint_any (p : Nat) (F : List Nat) (S : Rs) (V : Int) (S' : Rs) (hV : Hid (rI S = (V, S'))) (w : World) (hR : Rd w p F S) :
    Calls Try.prog 25 #[.pointer (some ⟨p, 0, none⟩)] w (Rst w p F (.int .i64 V) S') := by
  have hv := hV.out
  unfold rI at hv
  obtain ⟨hV1, hS1⟩ := Prod.mk.inj hv
  have hlt := rU_lt S
  have c1 := fun w h => ruint_any p F S (rU S).1 S' (Lib.hid (by rw [← hS1])) w h
  have c2 := fun w => rsig_any (rU S).1 V hlt (Lib.hid hV1.symm) w
  generalize (rU S).1 = u at *
  clear hV hv hV1 hS1
  unfold Rst at c1 ⊢
  go_enter Try.func25, Try.ntmps25
  go_wp2_with (first
    | (go_at_call 27; (with_reducible refine (c1 _ hR).mono ?_); rintro e w1 ⟨rfl, R1, M1⟩)
    | (go_at_call 49; (with_reducible refine (c2 _).mono ?_); rintro e w' ⟨rfl, rfl⟩))
  go_ret
  exact ⟨rfl, R1, M1⟩

/-! ### a length -/
/-- what size leaves: the number where there is no error -/
def Sz (w : World) (p : Nat) (F : List Nat) (Z : Nat × Rs) (e : Ending) (w' : World) : Prop := ∃ n : Nat, n < A64 ∧ (∀ r, Z.2 = .ok r → n = Z.1) ∧ e = .returned (.int .u64 (n : Int)) ∧ Rd w' p F Z.2 ∧ Mv w F w'
theorem rU_err (S : Rs) : (∃ n r, rU S = (n, .ok r) ∧ n < A64) ∨ ∃ e, rU S = (0, .bad e) ∧ e ≠ 0 ∨ S = .bad 0 := by
  cases S with
  | bad e =>
    by_cases h : e = 0
    · exact .inr ⟨0, .inr (by rw [h])⟩
    · exact .inr ⟨e, .inl ⟨rfl, h⟩⟩
  | ok l =>
    by_cases h : (tr l).2.2 = 0
    · exact .inl ⟨_, _, rU_ok h, (vr_tr h).2.2⟩
    · exact .inr ⟨_, .inl ⟨rU_no h, h⟩⟩
set_option maxRecDepth 10000 in
set_option maxHeartbeats 1000000 in
theorem rsize_any (most : Int) (hm0 : -9223372036854775808 ≤ most) (hm1 : most ≤ 9223372036854775807) (p : Nat) (F : List Nat) (S : Rs) (w : World) (hR : Rd w p F S) :
    Calls Try.prog 53 #[.pointer (some ⟨p, 0, none⟩), .int .i64 most] w (Sz w p F (rZ most S)) := by
  rcases rU_err S with ⟨n, r, h, hn⟩ | ⟨e, ⟨h, he⟩ | hbad⟩
  · have c1 := fun w hR => ruint_any p F S n (.ok r) (Lib.hid h) w hR
    have hz : rZ most S = if most.toNat < n then (0, .bad 3) else (n, .ok r) := by unfold rZ; rw [h]
    have hn' : n < 18446744073709551616 := hn
    by_cases hc : most.toNat < n
    · rw [if_pos hc] at hz
      rw [hz]
      unfold Rst at c1
      go_enter Try.func53, Try.ntmps53
      go_upto_region 2 with (go_at_call 27; (with_reducible refine (c1 _ hR).mono ?_); rintro e w1 ⟨rfl, R1, M1⟩)
      have R1' := Lib.hid R1
      obtain ⟨A, n', c, k, e', B, h1, h2, h3, h3', h4, h5, h6, h7, h8, h9, h10⟩ := R1
      have c2 := h1.c2
      have q2 := h1.free 2
      obtain ⟨rfl, hr⟩ := h7
      have HS : Hid (∀ w2, R3 w2 p (.slice A n' c) (.int .i64 (k : Int)) (.int .i64 3) → Mv w1 F w2 → Cb w2 A B → Rd w2 p F (.bad 3)) := Lib.hid fun w2 r m' cb =>
        ⟨A, n', c, k, 3, B, r, h2, h3, h3', h4, by omega, cb, ⟨rfl, by omega⟩, h8, h9, fun j hj => Nat.lt_of_lt_of_le (h10 j hj) m'.size⟩
      have HE : Hid (Rd (w1.setCell ⟨p, 2, none⟩ (.int .i64 3)) p F (.bad 3) ∧ Mv w F (w1.setCell ⟨p, 2, none⟩ (.int .i64 3))) := Lib.hid
        ⟨HS.out _ (h1.set2 _) (mv_set _ p 2 _ F h8) (Cb.mv h6 (mv_set _ p 2 _ [p] (by simp)) (fun b off e => by simp; exact (h9 b off e).2)), M1.trans (Nw.refl _ _) (mv_set _ p 2 _ F h8)⟩
      clear HS R1' h1 h6 hr hz h
      by_cases hneg : most < 0
      · have hp : (0 : Int) < (n : Int) := by omega
        clear hc
        go_wp2_with fail
        go_ret
        exact ⟨n, hn, fun r hh => by simp only [reduceCtorEq] at hh, rfl, HE.out.1, HE.out.2⟩
      · obtain ⟨m, rfl⟩ := Int.eq_ofNat_of_zero_le (show 0 ≤ most by omega)
        have hp : (m : Int) < (n : Int) := by simp at hc; omega
        have hw : IntKind.u64.wrap (m : Int) = (m : Int) := by rw [IntKind.wrap_u64]; omega
        have hge : (0 : Int) ≤ (m : Int) := by omega
        clear hc
        go_wp2_with fail
        go_ret
        exact ⟨n, hn, fun r hh => by simp only [reduceCtorEq] at hh, rfl, HE.out.1, HE.out.2⟩
    · rw [if_neg hc] at hz
      rw [hz]
      unfold Rst at c1
      go_enter Try.func53, Try.ntmps53
      go_upto_region 2 with (go_at_call 27; (with_reducible refine (c1 _ hR).mono ?_); rintro e w1 ⟨rfl, R1, M1⟩)
      have R1' := Lib.hid R1
      obtain ⟨A, n', c, k, e', B, h1, h2, h3, h3', h4, h5, h6, h7, h8, h9, h10⟩ := R1
      have c2 := h1.c2
      have q2 := h1.free 2
      obtain ⟨rfl, hr⟩ := h7
      by_cases hneg : most < 0
      · obtain rfl : n = 0 := by omega
        have hge : ¬ (0 : Int) ≤ most := by omega
        clear hc h1 h6 hr hz h
        go_wp2_with fail
        go_ret
        exact ⟨0, hn, fun _ _ => rfl, rfl, R1'.out, M1⟩
      · obtain ⟨m, rfl⟩ := Int.eq_ofNat_of_zero_le (show 0 ≤ most by omega)
        have hp : ¬ (m : Int) < (n : Int) := by simp at hc; omega
        have hw : IntKind.u64.wrap (m : Int) = (m : Int) := by rw [IntKind.wrap_u64]; omega
        have hge : (0 : Int) ≤ (m : Int) := by omega
        clear hc h1 h6 hr hz h
        go_wp2_with fail
        go_ret
        exact ⟨n, hn, fun _ _ => rfl, rfl, R1'.out, M1⟩
  · have c1 := fun w hR => ruint_any p F S 0 (.bad e) (Lib.hid h) w hR
    have hz : rZ most S = (0, .bad e) := by unfold rZ; rw [h]
    rw [hz]
    unfold Rst at c1
    go_enter Try.func53, Try.ntmps53
    go_upto_region 2 with (go_at_call 27; (with_reducible refine (c1 _ hR).mono ?_); rintro e w1 ⟨rfl, R1, M1⟩)
    have R1' := Lib.hid R1
    obtain ⟨A, n, c, k, e', B, h1, h2, h3, h3', h4, h5, h6, ⟨rfl, _⟩, h8, h9, h10⟩ := R1
    have c2 := h1.c2
    have t : ((e' : Int) == 0) = false := by rw [beq_eq_false_iff_ne]; omega
    go_wp2_with fail
    go_ret
    exact ⟨0, by decide, fun _ _ => rfl, rfl, R1'.out, M1⟩
  · subst hbad
    obtain ⟨A, n, c, k, e', B, h1, h2, h3, h3', h4, h5, h6, ⟨rfl, h7⟩, h8, h9, h10⟩ := hR
    exact absurd rfl h7

/-! ### Left, Err -/
theorem rleft_any (p : Nat) (F : List Nat) (S : Rs) (w : World) (hR : Rd w p F S) :
    Calls Try.prog 34 #[.pointer (some ⟨p, 0, none⟩)] w (Rst w p F (.int .i64 (S.left : Int)) S) := by
  have hR' := Lib.hid hR
  obtain ⟨A, n, c, k, e, B, h1, h2, h3, h3', h4, h5, h6, h7, h8, h9, h10⟩ := hR
  have c0 := h1.c0
  have c1 := h1.c1
  have c2 := h1.c2
  unfold Rst
  cases S with
  | bad e' =>
    obtain ⟨rfl, he⟩ := h7
    have t : ((e : Int) != 0) = true := by simp; omega
    have hl : ((Rs.bad e).left : Int) = 0 := rfl
    rw [hl]
    clear h1 h6
    go_enter Try.func34, Try.ntmps34
    go_wp2_with fail
    go_ret
    exact ⟨rfl, hR'.out, Mv.refl _ _⟩
  | ok l =>
    obtain ⟨rfl, rfl⟩ := h7
    have hl : ((Rs.ok (B.drop k)).left : Int) = (n : Int) - (k : Int) := by
      show ((B.drop k).length : Int) = _
      rw [List.length_drop, h2]; omega
    rw [hl]
    clear h1 h6 hl
    go_enter Try.func34, Try.ntmps34
    go_wp2_with fail
    go_quiet (fail)
    go_wp2_with fail
    go_ret
    exact ⟨rfl, hR'.out.mv ((Mv.refl w []).drew _) (fun _ _ => by simp), (Mv.refl _ _).drew _⟩
theorem rerr_any (p : Nat) (F : List Nat) (S : Rs) (w : World) (hR : Rd w p F S) :
    Calls Try.prog 36 #[.pointer (some ⟨p, 0, none⟩)] w fun e w' => e = .returned (.int .i64 (S.err : Int)) ∧ w = w' := by
  obtain ⟨A, n, c, k, e, B, h1, h2, h3, h3', h4, h5, h6, h7, h8, h9, h10⟩ := hR
  have c2 := h1.c2
  have hs : S.err = e := by
    cases S with
    | ok l => exact h7.1.symm
    | bad e' => exact h7.1.symm
  rw [hs]
  go_enter Try.func36, Try.ntmps36
  go_wp2_with fail
  go_ret
  exact ⟨rfl, rfl⟩

/-! ### Text -/
theorem info_size : (Try.prog.info? 5).map (·.size) = some 1 := by kernel_rfl
theorem size_run (W : World) : (Go.sizeOf 5).run Try.prog W = .ok 1 W := by
  obtain ⟨i, hi, h1⟩ := Option.map_eq_some_iff.1 info_size
  simp [Go.sizeOf, typeInfo, hi, h1]
/-- a part of a slice -/
theorem sub_any (A : Option Addr) (n c k h : Nat) (B : List UInt8) (hB : B.length = n) (hk : k ≤ h) (hh : h ≤ n) (hc : n ≤ c) :
    ∃ A2 c2, (∀ W, (Instr.slice 38 (.slice A n c) (some (.int .i64 (k : Int))) (some (.int .i64 (h : Int))) none).run Try.prog W = .ok (.slice A2 (h - k) c2) W) ∧ (∀ W, Cb W A B → Cb W A2 ((B.drop k).take (h - k))) ∧ (A2 = none → A = none) := by
  have ht' : Try.prog.underlying 38 = some (.slice (Try.prog.elem 38)) := by simp [Program.elem, Try.underlying38]
  have he : Try.prog.elem 38 = 5 := by simp [Program.elem, Try.underlying38]
  refine ⟨if c = k then A else A.map (·.add k), c - k, fun W => ?_, fun W hC hp => ?_, fun e => ?_⟩
  · rw [run_slice_lh W 38 A n c ht' .i64 .i64 _ _ (by omega) (by omega) (by omega), he, size_run]
    simp [Result.andThen, sliced]
  · rw [List.length_take, List.length_drop] at hp
    obtain ⟨b, off, rfl, hcell⟩ := hC (by omega)
    rw [if_neg (by omega)]
    refine ⟨b, off + k, by rw [Option.map_some, add_at], fun j x hx => ?_⟩
    rw [List.getElem?_take] at hx
    split at hx
    · rw [List.getElem?_drop] at hx
      have := hcell (k + j) x hx
      rw [Nat.add_assoc]; exact this
    · cases hx
  · split at e
    · exact e
    · simpa using e
/-- a slice's bytes as a string -/
theorem conv_any (W : World) (A : Option Addr) (m c : Nat) (l : List UInt8) (hm : l.length = m) (h : Cb W A l) :
    (convert 38 9 (.slice A m c)).run Try.prog W = .ok (.string ⟨l.toArray⟩) W := by
  cases A with
  | none =>
    have h0 : l = [] := by
      apply List.eq_nil_of_length_eq_zero
      rcases Nat.eq_zero_or_pos l.length with h' | h'
      · exact h'
      · obtain ⟨b, off, e, _⟩ := h h'; cases e
    subst h0
    subst hm
    exact Lib.run_convert_nil_bytes W 38 9 5 c Try.underlying38 Try.underlying5 Try.underlying9
  | some ad =>
    have := run_convert_bytes_back (P := Try.prog) W 38 9 5 ad c l Try.underlying38 Try.underlying5 Try.underlying9 (fun j hj => by
      obtain ⟨b, off, e, hc⟩ := h (by omega)
      injection e with e
      subst e
      rw [add_at]
      exact hc j _ (by rw [List.getElem?_eq_getElem hj]))
    rw [hm] at this
    exact this

theorem rT_bad2 {most : Int} {S : Rs} {e : Nat} (h : (rZ most S).2 = .bad e) : rT most S = ([], .bad e) := by
  unfold rT
  split
  · rename_i n r q; rw [q] at h; simp only [reduceCtorEq] at h
  · rename_i n e' q; rw [q] at h; simp only [Rs.bad.injEq] at h; rw [h]
theorem rT_ok2 {most : Int} {S : Rs} {r : List UInt8} (h : (rZ most S).2 = .ok r) : rT most S = if r.length < (rZ most S).1 then ([], .bad 28) else (r.take (rZ most S).1, .ok (r.drop (rZ most S).1)) := by
  unfold rT
  split
  · rename_i n r' q; rw [q] at h ⊢; simp only [Rs.ok.injEq] at h; rw [h]
  · rename_i n e' q; rw [q] at h; simp only [reduceCtorEq] at h
set_option maxRecDepth 10000 in
set_option maxHeartbeats 1000000 in
theorem rtext_any (most : Int) (hm0 : -9223372036854775808 ≤ most) (hm1 : most ≤ 9223372036854775807) (p : Nat) (F : List Nat) (S S' : Rs) (X : List UInt8) (hX : Hid (rT most S = (X, S'))) (w : World) (hR : Rd w p F S) :
    Calls Try.prog 29 #[.pointer (some ⟨p, 0, none⟩), .int .i64 most] w (Rst w p F (.string ⟨X.toArray⟩) S') := by
  have c1 := fun w hR => rsize_any most hm0 hm1 p F S w hR
  unfold Sz at c1
  have HXb : Hid (∀ e, (rZ most S).2 = .bad e → X = [] ∧ S' = .bad e) := Lib.hid fun e h => by
    have := hX.out
    rw [rT_bad2 h] at this
    exact ⟨(Prod.mk.inj this).1.symm, (Prod.mk.inj this).2.symm⟩
  have HXo : Hid (∀ r, (rZ most S).2 = .ok r → (if r.length < (rZ most S).1 then ([], Rs.bad 28) else (r.take (rZ most S).1, .ok (r.drop (rZ most S).1))) = (X, S')) := Lib.hid fun r h => by
    have := hX.out
    rw [rT_ok2 h] at this
    exact this
  clear hX
  generalize rZ most S = Z at *
  unfold Rst
  go_enter Try.func29, Try.ntmps29
  go_upto_region 2 with (go_at_call 53; (refine (c1 _ hR).mono ?_); rintro e w1 ⟨N, hN, hNr, rfl, R1, M1⟩)
  have R1' := Lib.hid R1
  obtain ⟨A, n, c, k, e, B, h1, h2, h3, h3', h4, h5, h6, h7, h8, h9, h10⟩ := R1
  have k0 := h1.c0
  have k1 := h1.c1
  have k2 := h1.c2
  cases hz : Z.2 with
  | bad e' =>
    obtain ⟨rfl, rfl⟩ := HXb.out e' hz
    rw [hz] at h7 R1'
    obtain ⟨rfl, he⟩ := h7
    have t : ((e : Int) == 0) = false := by rw [beq_eq_false_iff_ne]; omega
    have t2 : ((e : Int) != 0) = true := by simp; omega
    clear HXb HXo hNr h1 h6 c1 hz
    go_quiet (fail)
    go_wp2_with fail
    go_ret
    exact ⟨rfl, R1'.out.mv ((Mv.refl w1 []).drew _) (fun _ _ => by simp), M1.drew _⟩
  | ok r =>
    rw [hz] at h7 R1'
    obtain ⟨rfl, rfl⟩ := h7
    have hNe := hNr _ hz
    have hx := HXo.out _ hz
    rw [← hNe, List.length_drop, h2] at hx
    have hN' : N < 18446744073709551616 := hN
    have e1 : IntKind.u64.wrap ((n : Int) - (k : Int)) = (n : Int) - (k : Int) := by rw [IntKind.wrap_u64]; omega
    have e0 : IntKind.i64.wrap ((n : Int) - (k : Int)) = (n : Int) - (k : Int) := IntWalk.i64_in _ (by omega)
    by_cases hlt : n - k < N
    · rw [if_pos hlt] at hx
      obtain ⟨hX0, hS0⟩ := Prod.mk.inj hx
      subst hX0
      have t : (n : Int) - (k : Int) < (N : Int) := by omega
      clear HXb HXo hNr c1 hz hx
      have q2 := h1.free 2
      have HS : Hid (∀ q, Rd ((w1.drewN q).setCell ⟨p, 2, none⟩ (.int .i64 28)) p F S' ∧ Mv w F ((w1.drewN q).setCell ⟨p, 2, none⟩ (.int .i64 28))) := Lib.hid fun q => by
        have m' : Mv w1 F ((w1.drewN q).setCell ⟨p, 2, none⟩ (.int .i64 28)) := (mv_set (w1.drewN q) p 2 _ F h8)
        rw [← hS0]
        exact ⟨⟨A, n, c, k, 28, B, (h1.drewN q).set2 _, h2, h3, h3', h4, by omega, Cb.mv (h6.drewN _) (mv_set _ p 2 _ [p] (by simp)) (fun b off e => by simp; exact (h9 b off e).2), ⟨rfl, by omega⟩, h8, h9, fun j hj => Nat.lt_of_lt_of_le (h10 j hj) m'.size⟩, M1.trans (Nw.refl _ _) m'⟩
      have k2' := fun q => ((h1.drewN q).set2 (.int .i64 28)).c2
      clear h1 h6 R1' hS0
      go_quiet (fail)
      go_wp2_with fail
      go_ret
      exact ⟨rfl, (HS.out _).1, (HS.out _).2⟩
    · rw [if_neg hlt] at hx
      obtain ⟨hX0, hS0⟩ := Prod.mk.inj hx
      have t' : decide ((n : Int) - (k : Int) < (N : Int)) = false := decide_eq_false (by omega)
      have q1 := h1.free 1
      obtain ⟨h, hh⟩ : ∃ h, h = k + N := ⟨_, rfl⟩
      obtain ⟨A2, c2, hsl, hcb, _⟩ := sub_any A n c k h B h2 (by omega) (by omega) h3'
      have hNk : h - k = N := by omega
      rw [hNk] at hsl hcb
      have hcv : ∀ q, (convert 38 9 (.slice A2 N c2)).run Try.prog (w1.drewN q) = .ok (.string ⟨X.toArray⟩) (w1.drewN q) := fun q => by
        have := conv_any (w1.drewN q) A2 N c2 ((B.drop k).take N) (by rw [List.length_take, List.length_drop]; omega) (hcb _ (h6.drewN q))
        rw [hX0] at this
        exact this
      have HS : Hid (∀ q, Rd ((w1.drewN q).setCell ⟨p, 1, none⟩ (.int .i64 (h : Int))) p F S' ∧ Mv w F ((w1.drewN q).setCell ⟨p, 1, none⟩ (.int .i64 (h : Int)))) := Lib.hid fun q => by
        have m' : Mv w1 F ((w1.drewN q).setCell ⟨p, 1, none⟩ (.int .i64 (h : Int))) := (mv_set (w1.drewN q) p 1 _ F h8)
        rw [← hS0, List.drop_drop, ← hh]
        exact ⟨⟨A, n, c, h, 0, B, (h1.drewN q).set1 _, h2, by omega, h3', h4, by omega, Cb.mv (h6.drewN _) (mv_set _ p 1 _ [p] (by simp)) (fun b off e => by simp; exact (h9 b off e).2), ⟨rfl, rfl⟩, h8, h9, fun j hj => Nat.lt_of_lt_of_le (h10 j hj) m'.size⟩, M1.trans (Nw.refl _ _) m'⟩
      have e2 : IntKind.i64.wrap (N : Int) = (N : Int) := IntWalk.i64_in _ (by omega)
      have e3 : (k : Int) + (N : Int) = (h : Int) := by omega
      have bh : h ≤ 140737488355328 := by omega
      clear HXb HXo hNr c1 hz hx h1 h6 R1' hS0 hX0 hcb hh hNk hlt hNe
      go_quiet (fail)
      go_wp2_with fail
      go_quiet (fail)
      go_wp2_with fail
      go_ret
      exact ⟨rfl, (HS.out _).1, (HS.out _).2⟩
end Go.Proofs.Ytpmmddemeiljjaa.wrE

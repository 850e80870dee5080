/-
  Contracts of the program's reader: NewReader, Err, Uint, Int, length, Text, Left.
-/
import Derived.Test.YtpmmddemeiljjaaWrPb
namespace Go.Proofs.Ytpmmddemeiljjaa.wrPc
open Go.RowKit
open Go.Proofs.Ytpmmddemeiljjaa.dgM Go.Proofs.Ytpmmddemeiljjaa.wrM Go.Proofs.Ytpmmddemeiljjaa.wrO Go.Proofs.Ytpmmddemeiljjaa.wrA Go.Proofs.Ytpmmddemeiljjaa.wrC Go.Proofs.Ytpmmddemeiljjaa.wrE Go.Proofs.Ytpmmddemeiljjaa.wrPa
set_option linter.unusedVariables false

/-! ### a block of two cells -/
def R2 (w : World) (p : Nat) (a b : Value) : Prop := ∃ T, w.heap[p]? = some (.cells #[a, b] T (0, 0))
section
variable {w w' : World} {p : Nat} {a b : Value}
theorem r2_c0 (h : R2 w p a b) : w.cell? ⟨p, 0, none⟩ = some a := by obtain ⟨T, h⟩ := h; simp [World.cell?, h]
theorem r2_c1 (h : R2 w p a b) : w.cell? ⟨p, 1, none⟩ = some b := by obtain ⟨T, h⟩ := h; simp [World.cell?, h]
theorem r2_free (h : R2 w p a b) (j : Nat) : w.frozen? ⟨p, j, none⟩ = false := by obtain ⟨T, h⟩ := h; simp [World.frozen?, h]
theorem r2_set0 (h : R2 w p a b) (u : Value) : R2 (w.setCell ⟨p, 0, none⟩ u) p u b := by
  obtain ⟨T, h⟩ := h
  exact ⟨T, by simp [World.setCell, Array.getElem?_modify, h]⟩
theorem r2_set1 (h : R2 w p a b) (u : Value) : R2 (w.setCell ⟨p, 1, none⟩ u) p a u := by
  obtain ⟨T, h⟩ := h
  exact ⟨T, by simp [World.setCell, Array.getElem?_modify, h]⟩
theorem r2_block (h : R2 w p a b) (e : w'.heap[p]? = w.heap[p]?) : R2 w' p a b := by
  obtain ⟨T, h⟩ := h
  exact ⟨T, e.trans h⟩
end

/-! ### a reader -/
/-- what is left, or the error -/
def Sp (B : List UInt8) (e : Nat) : Rs → Prop
  | .ok l => e = 0 ∧ l = B
  | .bad e' => e = e' ∧ e' ≠ 0
def Rp (w : World) (p : Nat) (F : List Nat) (S : Rs) : Prop :=
  ∃ (A : Option Addr) (n c e : Nat) (B : List UInt8), R2 w p (.slice A n c) (.int .i64 (e : Int)) ∧ B.length = n ∧ n ≤ c ∧ n ≤ 140737488355328 ∧ e ≤ 100 ∧ Cb w A B ∧ Sp B e S ∧
    p ∈ F ∧ (∀ ad, A = some ad → ad.block ∈ F ∧ ad.block ≠ p) ∧ ∀ j ∈ F, j < w.heap.size
theorem Rp.mv {w w' : World} {p : Nat} {F G : List Nat} {S : Rs} (h : Rp w p F S) (hm : Mv w G w') (hd : ∀ k ∈ F, k ∉ G) : Rp w' p F S := by
  obtain ⟨A, n, c, e, B, h1, h2, h3, h4, h5, h6, h7, h8, h9, h10⟩ := h
  exact ⟨A, n, c, e, B, r2_block h1 (hm.block (h10 p h8) (hd p h8)), h2, h3, h4, h5, Cb.mv h6 hm (fun b off e => hd b (h9 _ e).1), h7, h8, h9, fun j hj => Nat.lt_of_lt_of_le (h10 j hj) hm.size⟩
/-- a reader's step -/
def Pst (w : World) (p : Nat) (F : List Nat) (v : Value) (S : Rs) (e : Ending) (w' : World) : Prop := e = .returned v ∧ Rp w' p F S ∧ Mv w F w'

theorem err_any (p : Nat) (F : List Nat) (S : Rs) (w : World) (hR : Rp w p F S) :
    Calls Try.prog 35 #[.pointer (some ⟨p, 0, none⟩)] w fun e w' => e = .returned (.int .i64 (S.err : Int)) ∧ w = w' := by
  obtain ⟨A, n, c, e, B, h1, h2, h3, h4, h5, h6, h7, h8, h9, h10⟩ := hR
  have c2 := r2_c1 h1
  have hs : S.err = e := by
    cases S with
    | ok l => exact h7.1.symm
    | bad e' => exact h7.1.symm
  rw [hs]
  go_enter Try.func35, Try.ntmps35
  go_wp2_with fail
  go_ret
  exact ⟨rfl, rfl⟩
theorem err_nil (w : World) :
    Calls Try.prog 35 #[.pointer none] w fun e w' => e = .returned (.int .i64 5) ∧ w = w' := by
  go_enter Try.func35, Try.ntmps35
  go_wp2_with fail
  go_ret
  exact ⟨rfl, rfl⟩
/-- what Err answers of a reader that has not failed, of one that has -/
theorem err_ok (p : Nat) (F : List Nat) (l : List UInt8) (w : World) (hR : Rp w p F (.ok l)) :
    Calls Try.prog 35 #[.pointer (some ⟨p, 0, none⟩)] w fun e w' => e = .returned (.int .i64 0) ∧ w = w' := err_any p F _ w hR
theorem err_bad (p : Nat) (F : List Nat) (e : Nat) (w : World) (hR : Rp w p F (.bad e)) :
    Calls Try.prog 35 #[.pointer (some ⟨p, 0, none⟩)] w fun e' w' => e' = .returned (.int .i64 (e : Int)) ∧ w = w' := err_any p F _ w hR
theorem rp_ne {w : World} {p : Nat} {F : List Nat} {e : Nat} (h : Rp w p F (.bad e)) : e ≠ 0 := by
  obtain ⟨A, n, c, e', B, h1, h2, h3, h4, h5, h6, h7, h8, h9, h10⟩ := h
  exact h7.2

/-! ### Left -/
theorem left_any (p : Nat) (F : List Nat) (S : Rs) (w : World) (hR : Rp w p F S) :
    Calls Try.prog 33 #[.pointer (some ⟨p, 0, none⟩)] w fun e w' => e = .returned (.int .i64 (S.left : Int)) ∧ w = w' := by
  have ce := fun w h => err_any p F S w h
  have hR' := hR
  obtain ⟨A, n, c, e, B, h1, h2, h3, h4, h5, h6, h7, h8, h9, h10⟩ := hR
  have c0 := r2_c0 h1
  cases S with
  | bad e' =>
    have t : ((e' : Int) != 0) = true := by have := h7.2; simp; omega
    have hl : ((Rs.bad e').left : Int) = 0 := rfl
    have he : ((Rs.bad e').err : Int) = (e' : Int) := rfl
    rw [hl]
    rw [he] at ce
    go_enter Try.func33, Try.ntmps33
    go_wp2_with (go_at_call 35; (with_reducible refine (ce _ hR').mono ?_); rintro e w' ⟨rfl, rfl⟩)
    go_ret
    exact ⟨rfl, rfl⟩
  | ok l =>
    obtain ⟨rfl, rfl⟩ := h7
    have hl : ((Rs.ok l).left : Int) = (n : Int) := by show (l.length : Int) = _; rw [h2]
    have he : ((Rs.ok l).err : Int) = 0 := rfl
    rw [hl]
    rw [he] at ce
    go_enter Try.func33, Try.ntmps33
    go_wp2_with (go_at_call 35; (with_reducible refine (ce _ hR').mono ?_); rintro e w' ⟨rfl, rfl⟩)
    go_ret
    exact ⟨rfl, rfl⟩

/-! ### slices of slices -/
theorem add_block (a : Addr) (j : Nat) : (a.add j).block = a.block := by unfold Addr.add; split <;> rfl
/-- what is behind a place -/
theorem sub_lo (A : Option Addr) (n c k : Nat) (B : List UInt8) (hB : B.length = n) (hk : k ≤ n) (hc : n ≤ c) :
    ∃ A2 c2, (∀ W, (Instr.slice 38 (.slice A n c) (some (.int .i64 (k : Int))) none none).run Try.prog W = .ok (.slice A2 (n - k) c2) W) ∧ (∀ W, Cb W A B → Cb W A2 (B.drop k)) ∧ (∀ ad, A2 = some ad → ∃ a0, A = some a0 ∧ ad.block = a0.block) ∧ n - k ≤ c2 := by
  have ht' : Try.prog.underlying 38 = some (.slice (Try.prog.elem 38)) := by simp [Program.elem, Try.underlying38]
  have he : Try.prog.elem 38 = 5 := by simp [Program.elem, Try.underlying38]
  refine ⟨if c = k then A else A.map (·.add k), c - k, fun W => ?_, fun W hC hp => ?_, fun ad e => ?_, by omega⟩
  · rw [run_slice_l W 38 A n c ht' .i64 _ (by omega) (by omega), he, size_run]
    simp [Result.andThen, sliced]
  · rw [List.length_drop] at hp
    obtain ⟨b, off, rfl, hcell⟩ := hC (by omega)
    rw [if_neg (by omega)]
    refine ⟨b, off + k, by rw [Option.map_some, add_at], fun j x hx => ?_⟩
    rw [List.getElem?_drop] at hx
    have := hcell (k + j) x hx
    rw [Nat.add_assoc]; exact this
  · split at e
    · exact ⟨ad, e, rfl⟩
    · obtain ⟨a0, h0, h1⟩ := Option.map_eq_some_iff.1 e
      exact ⟨a0, h0, by rw [← h1, add_block]⟩
theorem cb_take {w : World} {A : Option Addr} {l : List UInt8} (h : Cb w A l) (k : Nat) : Cb w A (l.take k) := fun hp => by
  rw [List.length_take] at hp
  obtain ⟨b, off, e, hc⟩ := h (by omega)
  refine ⟨b, off, e, fun j x hx => hc j x ?_⟩
  rw [List.getElem?_take] at hx
  split at hx
  · exact hx
  · cases hx

/-! ### Uint -/
set_option maxRecDepth 10000 in
set_option maxHeartbeats 1000000 in
theorem ruint_any (p : Nat) (F : List Nat) (S : Rs) (V : Nat) (S' : Rs) (hV : Hid (rU S = (V, S'))) (w : World) (hR : Rp w p F S) :
    Calls Try.prog 26 #[.pointer (some ⟨p, 0, none⟩)] w (Pst w p F (.int .u64 (V : Int)) S') := by
  unfold Pst
  cases S with
  | bad e =>
    have ce := fun w h => err_bad p F e w h
    have hv := hV.out
    rw [rU_bad] at hv
    obtain ⟨rfl, rfl⟩ : 0 = V ∧ Rs.bad e = S' := ⟨congrArg Prod.fst hv, congrArg Prod.snd hv⟩
    have t : ((e : Int) != 0) = true := by have := rp_ne hR; simp; omega
    clear hV hv
    go_enter Try.func26, Try.ntmps26
    go_wp2_with (go_at_call 35; (with_reducible refine (ce _ hR).mono ?_); rintro e w' ⟨rfl, rfl⟩)
    go_ret
    exact ⟨rfl, hR, Mv.refl _ _⟩
  | ok l =>
    have ce := fun w h => err_ok p F l w h
    have hR' := hR
    obtain ⟨A, n, c, e, B, h1, h2, h3, h4, h5, h6, h7, h8, h9, h10⟩ := hR
    obtain ⟨rfl, rfl⟩ := h7
    have c0 := r2_c0 h1
    have k1 := r2_c1 h1
    have q0 := r2_free h1 0
    have q1 := fun u => r2_free (r2_set0 h1 u) 1
    have hv := hV.out
    obtain ⟨m, E, HT, hm, hE, HS⟩ : ∃ m E, Hid ((V, m, E) = tr l) ∧ m ≤ n ∧ E ≤ 28 ∧ Hid (Sp (l.drop m) E S') := by
      by_cases he : (tr l).2.2 = 0
      · rw [rU_ok he] at hv
        obtain ⟨hV1, hS1⟩ := Prod.mk.inj hv
        have hN := tr_len l
        exact ⟨(tr l).2.1, 0, Lib.hid (by rw [← hV1, ← he]), by omega, by omega, Lib.hid (by rw [← hS1]; exact ⟨rfl, rfl⟩)⟩
      · have hle := tk_err_le 10 l
        rw [rU_no he] at hv
        obtain ⟨hV1, hS1⟩ := Prod.mk.inj hv
        have hz := tk_err 10 l he
        refine ⟨0, (tr l).2.2, Lib.hid ?_, by omega, hle, Lib.hid (by rw [← hS1]; exact ⟨rfl, he⟩)⟩
        rw [← hV1]
        exact Prod.ext hz.1.symm (Prod.ext hz.2.symm rfl)
    have ct := fun w h => varint_any A n c l (Lib.hid h2) h4 V m E HT w h
    obtain ⟨A2, c2, hsl, hcb, hbk, hc2⟩ := sub_lo A n c m l h2 hm h3
    have HF : Hid (∀ w2, R2 w2 p (.slice A2 (n - m) c2) (.int .i64 (E : Int)) → Mv w F w2 → Cb w2 A l → Rp w2 p F S' ∧ Mv w F w2) := Lib.hid fun w2 r m' cb =>
      ⟨⟨A2, n - m, c2, E, l.drop m, r, by rw [List.length_drop, h2], hc2, by omega, by omega, hcb w2 cb, HS.out, h8, fun ad e => by
        obtain ⟨a0, e0, e1⟩ := hbk ad e
        rw [e1]; exact h9 a0 e0, fun j hj => Nat.lt_of_lt_of_le (h10 j hj) m'.size⟩, m'⟩
    have h6' := h6
    clear hV hv HT HS
    generalize n - m = n2 at *
    go_enter Try.func26, Try.ntmps26
    go_wp2_with (first
      | (go_at_call 35; (with_reducible refine (ce _ hR').mono ?_); rintro e w' ⟨rfl, rfl⟩)
      | (go_at_call 50; (with_reducible refine (ct _ h6').mono ?_); rintro e w' ⟨rfl, rfl⟩))
    go_ret
    have cb1 := Cb.mv (Cb.mv h6 (mv_set w p 0 (.slice A2 n2 c2) [p] (by simp)) (fun b off e => by simp; exact (h9 _ e).2)) (mv_set _ p 1 (.int .i64 (E : Int)) [p] (by simp)) (fun b off e => by simp; exact (h9 _ e).2)
    obtain ⟨r1, r2⟩ := HF.out _ (r2_set1 (r2_set0 h1 _) _) ((mv_set w p 0 _ F h8).trans (Nw.refl _ _) (mv_set _ p 1 _ F h8)) cb1
    exact ⟨rfl, r1, r2⟩
theorem ruint_nil (w : World) :
    Calls Try.prog 26 #[.pointer none] w fun e w' => e = .returned (.int .u64 0) ∧ w = w' := by
  go_enter Try.func26, Try.ntmps26
  go_wp2_with (go_at_call 35; (with_reducible refine (err_nil _).mono ?_); rintro e w' ⟨rfl, rfl⟩)
  go_ret
  exact ⟨rfl, rfl⟩
theorem rint_any (p : Nat) (F : List Nat) (S : Rs) (V : Int) (S' : Rs) (hV : Hid (rI S = (V, S'))) (w : World) (hR : Rp w p F S) :
    Calls Try.prog 24 #[.pointer (some ⟨p, 0, none⟩)] w (Pst w p F (.int .i64 V) S') := by
  have hv := hV.out
  unfold rI at hv
  obtain ⟨hV1, hS1⟩ := Prod.mk.inj hv
  have hlt := rU_lt S
  have c1 := fun w h => ruint_any p F S (rU S).1 S' (Lib.hid (by rw [← hS1])) w h
  have c2 := fun w => unzig_any (rU S).1 V hlt (Lib.hid hV1.symm) w
  generalize (rU S).1 = u at *
  clear hV hv hV1 hS1
  unfold Pst at c1 ⊢
  go_enter Try.func24, Try.ntmps24
  go_wp2_with (first
    | (go_at_call 26; (with_reducible refine (c1 _ hR).mono ?_); rintro e w1 ⟨rfl, R1, M1⟩)
    | (go_at_call 48; (with_reducible refine (c2 _).mono ?_); rintro e w' ⟨rfl, rfl⟩))
  go_ret
  exact ⟨rfl, R1, M1⟩

/-! ### a length -/
set_option maxRecDepth 10000 in
set_option maxHeartbeats 1000000 in
theorem length_any (most : Int) (hm0 : -9223372036854775808 ≤ most) (hm1 : most ≤ 9223372036854775807) (p : Nat) (F : List Nat) (S : Rs) (w : World) (hR : Rp w p F S) :
    Calls Try.prog 52 #[.pointer (some ⟨p, 0, none⟩), .int .i64 most] w (Pst w p F (.int .i64 ((rZ most S).1 : Int)) (rZ most S).2) := by
  unfold Pst
  rcases rU_err S with ⟨n, r, h, hn⟩ | ⟨e, ⟨h, he⟩ | hbad⟩
  · have c1 := fun w hR => ruint_any p F S n (.ok r) (Lib.hid h) w hR
    have hz : rZ most S = if most.toNat < n then (0, .bad 3) else (n, .ok r) := by unfold rZ; rw [h]
    have hn' : n < 18446744073709551616 := hn
    unfold Pst at c1
    by_cases hc : most.toNat < n
    · rw [if_pos hc] at hz
      rw [hz]
      have r0 : (((0 : Nat), Rs.bad 3).1 : Int) = 0 := rfl
      go_enter Try.func52, Try.ntmps52
      go_upto_region 2 with (go_at_call 26; (with_reducible refine (c1 _ hR).mono ?_); rintro e w1 ⟨rfl, R1, M1⟩)
      obtain ⟨A, n', c, e', B, h1, h2, h3, h4, h5, h6, h7, h8, h9, h10⟩ := R1
      have k1 := r2_c1 h1
      have q2 := r2_free h1 1
      have HE : Hid (Rp (w1.setCell ⟨p, 1, none⟩ (.int .i64 3)) p F (.bad 3) ∧ Mv w F (w1.setCell ⟨p, 1, none⟩ (.int .i64 3))) := Lib.hid
        ⟨⟨A, n', c, 3, B, r2_set1 h1 _, h2, h3, h4, by omega, Cb.mv h6 (mv_set _ p 1 _ [p] (by simp)) (fun b off e => by simp; exact (h9 _ e).2), ⟨rfl, by omega⟩, h8, h9, fun j hj => Nat.lt_of_lt_of_le (h10 j hj) (mv_set w1 p 1 (.int .i64 3) F h8).size⟩, M1.trans (Nw.refl _ _) (mv_set _ p 1 _ F h8)⟩
      clear h1 h6 h7 hz h
      by_cases hneg : most < 0
      · have hp : (0 : Int) < (n : Int) := by omega
        clear hc
        go_wp2_with fail
        go_ret
        exact ⟨rfl, HE.out.1, HE.out.2⟩
      · obtain ⟨m, rfl⟩ := Int.eq_ofNat_of_zero_le (show 0 ≤ most by omega)
        have hp : (m : Int) < (n : Int) := by simp at hc; omega
        have hw : IntKind.u64.wrap (m : Int) = (m : Int) := by rw [IntKind.wrap_u64]; omega
        clear hc
        go_wp2_with fail
        go_ret
        exact ⟨rfl, HE.out.1, HE.out.2⟩
    · rw [if_neg hc] at hz
      rw [hz]
      go_enter Try.func52, Try.ntmps52
      go_upto_region 2 with (go_at_call 26; (with_reducible refine (c1 _ hR).mono ?_); rintro e w1 ⟨rfl, R1, M1⟩)
      clear hz h
      by_cases hneg : most < 0
      · obtain rfl : n = 0 := by omega
        clear hc
        go_wp2_with fail
        go_ret
        exact ⟨rfl, R1, M1⟩
      · obtain ⟨m, rfl⟩ := Int.eq_ofNat_of_zero_le (show 0 ≤ most by omega)
        have hp : ¬ (m : Int) < (n : Int) := by simp at hc; omega
        have hw : IntKind.u64.wrap (m : Int) = (m : Int) := by rw [IntKind.wrap_u64]; omega
        have hw2 : IntKind.i64.wrap (n : Int) = (n : Int) := IntWalk.i64_in _ (by omega)
        clear hc
        go_wp2_with fail
        go_ret
        exact ⟨rfl, R1, M1⟩
  · have c1 := fun w hR => ruint_any p F S 0 (.bad e) (Lib.hid h) w hR
    have hz : rZ most S = (0, .bad e) := by unfold rZ; rw [h]
    rw [hz]
    unfold Pst at c1
    go_enter Try.func52, Try.ntmps52
    go_upto_region 2 with (go_at_call 26; (with_reducible refine (c1 _ hR).mono ?_); rintro e w1 ⟨rfl, R1, M1⟩)
    clear hz h
    by_cases hneg : most < 0
    · go_wp2_with fail
      go_ret
      exact ⟨rfl, R1, M1⟩
    · obtain ⟨m, rfl⟩ := Int.eq_ofNat_of_zero_le (show 0 ≤ most by omega)
      have hw : IntKind.u64.wrap (m : Int) = (m : Int) := by rw [IntKind.wrap_u64]; omega
      have hp : ¬ (m : Int) < 0 := by omega
      go_wp2_with fail
      go_ret
      exact ⟨rfl, R1, M1⟩
  · subst hbad
    exact absurd rfl (rp_ne hR)
theorem length_nil (most : Int) (w : World) :
    Calls Try.prog 52 #[.pointer none, .int .i64 most] w fun e w' => e = .returned (.int .i64 0) ∧ w = w' := by
  by_cases hneg : most < 0
  · go_enter Try.func52, Try.ntmps52
    go_wp2_with (go_at_call 26; (with_reducible refine (ruint_nil _).mono ?_); rintro e w' ⟨rfl, rfl⟩)
    go_ret
    exact ⟨rfl, rfl⟩
  · obtain ⟨m, rfl⟩ := Int.eq_ofNat_of_zero_le (show 0 ≤ most by omega)
    have hw : ¬ IntKind.u64.wrap (m : Int) < 0 := by rw [IntKind.wrap_u64]; omega
    have hp : ¬ (m : Int) < 0 := by omega
    go_enter Try.func52, Try.ntmps52
    go_wp2_with (go_at_call 26; (with_reducible refine (ruint_nil _).mono ?_); rintro e w' ⟨rfl, rfl⟩)
    go_ret
    exact ⟨rfl, rfl⟩

theorem rZ_le (most : Int) (S : Rs) : (rZ most S).1 ≤ most.toNat := by
  unfold rZ
  split
  · split
    · exact Nat.zero_le _
    · simp only; omega
  · exact Nat.zero_le _
theorem rZ_zero {most : Int} {S : Rs} {e : Nat} (h : (rZ most S).2 = .bad e) : (rZ most S).1 = 0 := by
  unfold rZ at h ⊢
  split
  · rename_i q
    rw [q] at h
    simp only at h
    split
    · rfl
    · rename_i q2
      rw [if_neg q2] at h
      simp at h
  · rfl
/-! ### Text -/
set_option maxRecDepth 10000 in
set_option maxHeartbeats 1000000 in
theorem rtext_any (most : Int) (hm0 : -9223372036854775808 ≤ most) (hm1 : most ≤ 9223372036854775807) (p : Nat) (F : List Nat) (S S' : Rs) (X : List UInt8) (hX : Hid (rT most S = (X, S'))) (w : World) (hR : Rp w p F S) :
    Calls Try.prog 28 #[.pointer (some ⟨p, 0, none⟩), .int .i64 most] w (Pst w p F (.string ⟨X.toArray⟩) S') := by
  have c1 := fun w hR => length_any most hm0 hm1 p F S w hR
  unfold Pst at c1 ⊢
  have HXb : Hid (∀ e, (rZ most S).2 = .bad e → X = [] ∧ S' = .bad e) := Lib.hid fun e h => by
    have := hX.out
    rw [rT_bad2 h] at this
    exact ⟨(Prod.mk.inj this).1.symm, (Prod.mk.inj this).2.symm⟩
  have HXo : Hid (∀ r, (rZ most S).2 = .ok r → (if r.length < (rZ most S).1 then ([], Rs.bad 28) else (r.take (rZ most S).1, .ok (r.drop (rZ most S).1))) = (X, S')) := Lib.hid fun r h => by
    have := hX.out
    rw [rT_ok2 h] at this
    exact this
  clear hX
  have hN0 : (rZ most S).1 ≤ 9223372036854775807 := by have := rZ_le most S; omega
  generalize rZ most S = Z at *
  obtain ⟨N, Z2⟩ := Z
  simp only at hN0 c1 HXb HXo
  go_enter Try.func28, Try.ntmps28
  go_upto_region 2 with (go_at_call 52; (refine (c1 _ hR).mono ?_); rintro e w1 ⟨rfl, R1, M1⟩)
  cases Z2 with
  | bad e' =>
    have ce := fun w h => err_bad p F e' w h
    have t : ((e' : Int) != 0) = true := by have := rp_ne R1; simp; omega
    obtain ⟨rfl, rfl⟩ := HXb.out e' rfl
    clear HXb HXo c1
    go_wp2_with (go_at_call 35; (with_reducible refine (ce _ R1).mono ?_); rintro e w' ⟨rfl, rfl⟩)
    go_ret
    exact ⟨rfl, R1, M1⟩
  | ok r =>
    have ce := fun w h => err_ok p F r w h
    have hx := HXo.out _ rfl
    have R1' := R1
    obtain ⟨A, n, c, e, B, h1, h2, h3, h4, h5, h6, h7, h8, h9, h10⟩ := R1
    obtain ⟨rfl, rfl⟩ := h7
    have k0 := r2_c0 h1
    have k1 := r2_c1 h1
    have q0 := r2_free h1 0
    have q1 := r2_free h1 1
    rw [h2] at hx
    clear HXb HXo c1
    by_cases hlt : n < N
    · rw [if_pos hlt] at hx
      obtain ⟨hX0, hS0⟩ := Prod.mk.inj hx
      subst hX0
      subst hS0
      have t : (n : Int) < (N : Int) := by omega
      have HE : Hid (Rp (w1.setCell ⟨p, 1, none⟩ (.int .i64 28)) p F (.bad 28) ∧ Mv w F (w1.setCell ⟨p, 1, none⟩ (.int .i64 28))) := Lib.hid
        ⟨⟨A, n, c, 28, r, r2_set1 h1 _, h2, h3, h4, by omega, Cb.mv h6 (mv_set _ p 1 _ [p] (by simp)) (fun b off e => by simp; exact (h9 _ e).2), ⟨rfl, by omega⟩, h8, h9, fun j hj => Nat.lt_of_lt_of_le (h10 j hj) (mv_set w1 p 1 (.int .i64 28) F h8).size⟩, M1.trans (Nw.refl _ _) (mv_set _ p 1 _ F h8)⟩
      clear hx h1 h6
      go_wp2_with (go_at_call 35; (with_reducible refine (ce _ R1').mono ?_); rintro e w' ⟨rfl, rfl⟩)
      go_ret
      exact ⟨rfl, HE.out.1, HE.out.2⟩
    · rw [if_neg hlt] at hx
      obtain ⟨hX0, hS0⟩ := Prod.mk.inj hx
      have t' : decide ((n : Int) < (N : Int)) = false := decide_eq_false (by omega)
      obtain ⟨A2, c2, hsl, hcb, hbk, hc2⟩ := sub_lo A n c N r h2 (by omega) h3
      have hcv : (convert 38 9 (.slice A N c)).run Try.prog w1 = .ok (.string ⟨X.toArray⟩) w1 := by
        have := conv_any w1 A N c (r.take N) (by rw [List.length_take]; omega) (cb_take h6 N)
        rw [hX0] at this
        exact this
      have HE : Hid (Rp (w1.setCell ⟨p, 0, none⟩ (.slice A2 (n - N) c2)) p F S' ∧ Mv w F (w1.setCell ⟨p, 0, none⟩ (.slice A2 (n - N) c2))) := Lib.hid
        ⟨⟨A2, n - N, c2, 0, r.drop N, r2_set0 h1 _, by rw [List.length_drop, h2], hc2, by omega, by omega, Cb.mv (hcb _ h6) (mv_set _ p 0 _ [p] (by simp)) (fun b off e => by
          obtain ⟨a0, e0, e1⟩ := hbk _ e
          simp only at e1
          rw [e1]; simp; exact (h9 _ e0).2), by rw [← hS0]; exact ⟨rfl, rfl⟩, h8, fun ad e => by
          obtain ⟨a0, e0, e1⟩ := hbk ad e
          rw [e1]; exact h9 a0 e0, fun j hj => Nat.lt_of_lt_of_le (h10 j hj) (mv_set w1 p 0 (.slice A2 (n - N) c2) F h8).size⟩, M1.trans (Nw.refl _ _) (mv_set _ p 0 _ F h8)⟩
      have hNc : (N : Int) ≤ (c : Int) := by omega
      generalize n - N = n2 at *
      clear hx h1 h6 hS0 hX0 hcb hbk
      go_wp2_with (go_at_call 35; (with_reducible refine (ce _ R1').mono ?_); rintro e w' ⟨rfl, rfl⟩)
      go_ret
      exact ⟨rfl, HE.out.1, HE.out.2⟩
end Go.Proofs.Ytpmmddemeiljjaa.wrPc

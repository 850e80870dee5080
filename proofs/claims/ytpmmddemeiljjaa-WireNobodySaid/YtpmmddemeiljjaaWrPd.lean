/-
  Contracts of the program's NewReader, list, Ints; what it does for nil.
-/
import Derived.Test.YtpmmddemeiljjaaWrPc
namespace Go.Proofs.Ytpmmddemeiljjaa.wrPd
open Go.RowKit
open Go.Proofs.Ytpmmddemeiljjaa.dgM Go.Proofs.Ytpmmddemeiljjaa.wrM Go.Proofs.Ytpmmddemeiljjaa.wrO Go.Proofs.Ytpmmddemeiljjaa.wrA Go.Proofs.Ytpmmddemeiljjaa.wrC Go.Proofs.Ytpmmddemeiljjaa.wrE Go.Proofs.Ytpmmddemeiljjaa.wrF Go.Proofs.Ytpmmddemeiljjaa.wrPa Go.Proofs.Ytpmmddemeiljjaa.wrPc
set_option linter.unusedVariables false

/-! ### NewReader -/
theorem new_rp {w w3 : World} {A : Option Addr} {n m c : Nat} {b : List UInt8} {T : TypeId} (hb : Below w.heap.size w w3) (ho : OwB w3 w.heap.size (.slice A m c) b) (hn : b.length = n) (hN : n ≤ 140737488355000) (hm : m = b.length) :
    Rp (w3.alloc (.cells #[.slice A m c, .int .i64 0] T)) w3.heap.size (w3.heap.size :: bks A) (.ok b) := by
  obtain ⟨A', c', e, hc, hC, _, hlt⟩ := own_form ho
  injection e with e1 e2 e3
  subst e1
  subst e3
  subst hm
  have hlt2 : ∀ k ∈ bks A, k < w3.heap.size := fun k hk => by
    cases A with
    | none => simp [bks] at hk
    | some ad =>
      simp [bks] at hk
      exact (hlt k (by rw [hk]; rfl)).2
  refine ⟨A, b.length, c, 0, b, ⟨T, heap_alloc_new w3 _⟩, rfl, hc, by omega, by omega, hC.below ((Below.refl _ _).alloc (Nat.le_refl _) _), ⟨rfl, rfl⟩, List.mem_cons_self, fun ad e => ?_, fun j hj => ?_⟩
  · subst e
    refine ⟨by simp [bks], fun e => ?_⟩
    have := hlt2 ad.block (by simp [bks])
    omega
  · have hs : (w3.alloc (.cells #[.slice A b.length c, .int .i64 0] T)).heap.size = w3.heap.size + 1 := by simp
    rw [hs]
    rcases List.mem_cons.1 hj with rfl | h
    · omega
    · have := hlt2 j h; omega
set_option maxRecDepth 10000 in
theorem newr_any (A : Option Addr) (n c : Nat) (b : List UInt8) (hn : b.length = n) (hA : A = none → c = 0) (hN : n ≤ 140737488355000) (w : World) (hb : Cb w A b) :
    Calls Try.prog 22 #[.slice A n c] w fun e w' => ∃ p F, e = .returned (.pointer (some ⟨p, 0, none⟩)) ∧ Rp w' p F (.ok b) ∧ Below w.heap.size w w' ∧ (∀ k ∈ F, w.heap.size ≤ k) := by
  go_enter Try.func22, Try.ntmps22
  go_wp2_with (refine wrD.wpl_app rfl (.const (.slice none 0 0)) (.tmp 3) rfl _ w.heap.size (.slice none 0 0) [] (by rfl) (own_nil _ _) A n c b (by rfl) hn hb hA (by simp; omega) (Nat.le_refl _) ?_; intro v' w3 AP; obtain ⟨A3, c3, rfl, hc3, hb3, hn3, hl3⟩ := own_form AP.1)
  go_ret
  have hb4 : Below w.heap.size w w3 := (Below.refl _ w).grown AP.2.1 (Nat.le_refl _) (fun g e => by simp [Value.ownBlock] at e)
  have AP1 : OwB w3 w.heap.size (.slice A3 n c3) b := by have := AP.1; rw [List.nil_append, hn] at this; exact this
  exact ⟨w3.heap.size, _, rfl, new_rp hb4 AP1 hn hN hn.symm, hb4.alloc hb4.size _, newr_new hb4 AP1⟩

/-! ### list, Ints -/
/-- a reader below a bound under which nothing changes -/
theorem rp_low {w w' : World} {p B0 : Nat} {F : List Nat} {S : Rs} (h : Rp w p F S) (hF : ∀ j ∈ F, j < B0) (hb : Below B0 w w') : Rp w' p F S := by
  obtain ⟨A, n, c, e, B, h1, h2, h3, h4, h5, h6, h7, h8, h9, h10⟩ := h
  refine ⟨A, n, c, e, B, r2_block h1 (hb.block p (hF p h8)), h2, h3, h4, h5, fun hp => ?_, h7, h8, h9, fun j hj => Nat.lt_of_lt_of_le (h10 j hj) hb.size⟩
  obtain ⟨b, off, e', hc⟩ := h6 hp
  exact ⟨b, off, e', fun j x hx => by rw [hb.cell (p := ⟨b, off + j, none⟩) (hF b (h9 _ e').1)]; exact hc j x hx⟩
def PsI (w : World) (p : Nat) (F : List Nat) (X : List Int) (S' : Rs) (e : Ending) (w' : World) : Prop :=
  ∃ A n c, e = .returned (.slice A n c) ∧ Ci w' A X ∧ X.length = n ∧ n ≤ c ∧ (∀ b off, A = some ⟨b, off, none⟩ → w.heap.size ≤ b) ∧ (A = none → c = 0) ∧ Rp w' p F S' ∧ Mv w F w'
/-- what list answers -/
def lsR (N : Nat) : Rs → List Int × Rs
  | .ok l => rN N (.ok l)
  | .bad e => ([], .bad e)
set_option maxRecDepth 10000 in
set_option maxHeartbeats 2000000 in
theorem list_any (N : Nat) (hN : N ≤ 9223372036854775807) (p : Nat) (F : List Nat) (S S' : Rs) (X : List Int) (hX : Hid ((X, S') = lsR N S)) (hl : S.left ≤ 100000000) (hz : ∀ e, S = .bad e → N = 0) (w : World) (hR : Rp w p F S) :
    Calls Try.prog 54 #[.pointer (some ⟨p, 0, none⟩), .int .i64 (N : Int), .func (.func 24) #[.pointer (some ⟨p, 0, none⟩)] #[]] w (PsI w p F X S') := by
  have hF1 : ∀ j ∈ F, j < w.heap.size := by
    obtain ⟨_, _, _, _, _, _, _, _, _, _, _, _, _, _, q⟩ := hR
    exact q
  cases S with
  | bad e =>
    obtain rfl := hz e rfl
    obtain ⟨rfl, rfl⟩ : X = [] ∧ S' = .bad e := Prod.mk.inj hX.out
    have HF : Hid (PsI w p F [] (.bad e) (.returned (.slice none 0 0)) w) := Lib.hid ⟨none, 0, 0, rfl, Ci.nil _ _, rfl, Nat.le_refl _, fun b off e => absurd e (by simp), fun _ => rfl, hR, Mv.refl _ _⟩
    go_enter Try.func54, Try.ntmps54
    go_wp2_with fail
    go_loopw [7, 10] (fun s7 s10 wr => s7 = .slice none 0 0 ∧ s10 = .int .i64 0 ∧ wr = w) (fun _ s10 _ => 0)
    case atStart => exact ⟨rfl, rfl, rfl⟩
    case round =>
      obtain ⟨rfl, rfl, rfl⟩ := hrel
      go_wp2_with fail
      go_ret
      exact HF.out
  | ok l0 =>
    have HL : Hid (Lp N 0 [] X S' (.ok l0)) := Lib.hid ⟨by have h : l0.length ≤ 100000000 := hl; omega, by rw [Nat.sub_zero, cmbN_nil]; exact hX.out⟩
    clear hX hz hl
    go_enter Try.func54, Try.ntmps54
    go_wp2_with fail
    go_loopw [7, 10] (fun s7 s10 wr => ∃ (i : Nat) (xs : List Int) (l : List UInt8), s10 = .int .i64 (i : Int) ∧ xs.length = i ∧ i ≤ 100000001 ∧ i ≤ N ∧ OwI wr w.heap.size s7 xs ∧ Hid (Rp wr p F (.ok l)) ∧ Hid (Mv w F wr) ∧ Hid (Lp N i xs X S' (.ok l))) (fun _ s10 _ => N - (intOf s10).toNat)
    case atStart => exact ⟨0, [], l0, rfl, rfl, by omega, by omega, owi_nil _ _, Lib.hid hR, Lib.hid (Mv.refl _ _), HL⟩
    case round =>
      obtain ⟨i, xs, l, rfl, rfl, hi, hiN, hO, HR, HM, HP⟩ := hrel
      obtain ⟨A6, c6, rfl, hc6, hC6, hn6, hb6⟩ := owi_form hO
      have hRi := HR.out
      by_cases hlt : xs.length < N
      · have hlen := HP.out.1
        have hst := HP.out.2
        have hO2 : OwI wr w.heap.size (.slice A6 xs.length c6) xs := hO
        have ho : ∀ g, (Value.slice A6 xs.length c6).ownBlock = some g → g ∉ F := fun g e hg => by
          have := (World.ownsRow.lt hO2 g e).1
          have := hF1 g hg
          omega
        cases hr : rI (.ok l) with
        | mk x S2 =>
          have c3 := fun w h => wrPc.rint_any p F (.ok l) x S2 (Lib.hid hr) w h
          unfold Pst at c3
          have hB1 : w.heap.size ≤ wr.heap.size := HM.out.size
          cases S2 with
          | bad e =>
            rw [show N - xs.length = (N - (xs.length + 1)) + 1 by omega, rN_bad hr] at hst
            obtain ⟨rfl, rfl⟩ : X = [] ∧ S' = .bad e := Prod.mk.inj hst
            have ce := fun w h => err_bad p F e w h
            clear hst hlen hr HL hC6 hO hc6
            go_wp2_with (first
              | (go_at_call 24; (refine (c3 _ hRi).mono ?_); rintro e' w3 ⟨rfl, r3, m3⟩; have t : ((e : Int) != 0) = true := by (have := rp_ne r3; simp; omega))
              | (go_at_call 35; (with_reducible refine (ce _ r3).mono ?_); rintro e' w' ⟨rfl, rfl⟩))
            go_ret
            exact ⟨none, 0, 0, rfl, Ci.nil _ _, rfl, Nat.le_refl _, fun b off e => absurd e (by simp), fun _ => rfl, r3, HM.out.trans (Nw.refl _ _) m3⟩
          | ok r =>
            have hs := rI_short hr
            have HP2 : Hid (Lp N (xs.length + 1) (xs ++ [x]) X S' (.ok r)) := Lib.hid ⟨by omega, by
              rw [hst, show N - xs.length = (N - (xs.length + 1)) + 1 by omega, rN_ok hr, cmbN_two]⟩
            have ce := fun w h => err_ok p F r w h
            have hlx : xs.length ≤ 1000000000 := by omega
            have hxn : (xs ++ [x]).length = xs.length + 1 := by rw [List.length_append]; rfl
            have hi2 : xs.length + 1 ≤ 100000001 := by omega
            clear hst hlen hr HL hC6 hO hc6 hs
            go_wp2_with (first
              | (refine push_int rfl (.tmp 17) (.tmp 19) rfl w3 w.heap.size (.slice A6 xs.length c6) xs x (by rfl) O3.out (by rfl) hlx hB3 ?_; intro v' w4 O4 B4 _; have R4 := Lib.hid (rp_low R3 hF1 B4); have M4 := Lib.hid (mv_low (HM.out.trans (Nw.refl _ _) M3.out) B4))
              | (go_at_call 24; (refine (c3 _ hRi).mono ?_); rintro e w3 ⟨rfl, R3, m3⟩; have O3 := Lib.hid (owi_mv hO2 m3 ho); have M3 := Lib.hid m3; have hB3 : w.heap.size ≤ w3.heap.size := Nat.le_trans hB1 m3.size; clear m3)
              | (go_at_call 35; (with_reducible refine (ce _ R3).mono ?_); rintro e' w' ⟨rfl, rfl⟩))
            go_roundw
            case rel => exact ⟨xs.length + 1, xs ++ [x], r, by go_num, hxn, hi2, by omega, O4, R4, M4, HP2⟩
            case measure => simp [intOf]; omega
      · have hst := HP.out.2
        rw [show N - xs.length = 0 by omega, rN_zero] at hst
        obtain ⟨rfl, rfl⟩ : X = xs ∧ S' = .ok l := by
          have e := Prod.mk.inj hst
          exact ⟨by rw [e.1, List.append_nil], e.2⟩
        have t1 : ¬ (X.length : Int) < (N : Int) := by omega
        have HF : Hid (PsI w p F X (.ok l) (.returned (.slice A6 X.length c6)) wr) := Lib.hid ⟨A6, X.length, c6, rfl, hC6, rfl, hc6, fun b off e => (hb6 b off e).1, hn6, HR.out, HM.out⟩
        clear HL hst
        go_wp2_with fail
        go_ret
        exact HF.out
theorem rZ_left (most : Int) (S : Rs) : (rZ most S).2.left ≤ S.left := by
  cases hz : (rZ most S).2 with
  | bad e => exact Nat.zero_le _
  | ok r =>
    have hs : rZ most S = ((rZ most S).1, .ok r) := Prod.ext rfl hz
    cases S with
    | bad e => rw [rZ_bad] at hz; simp only [reduceCtorEq] at hz
    | ok l =>
      have := congrArg List.length (vr_rU (rZ_inv hs).1)
      rw [List.length_append] at this
      show r.length ≤ l.length
      omega
theorem rL_ls (most : Int) (S : Rs) : rL most S = lsR (rZ most S).1 (rZ most S).2 := by
  cases hz : (rZ most S).2 with
  | bad e => exact rL_bad2 hz
  | ok r => exact rL_ok2 hz
set_option maxRecDepth 10000 in
set_option maxHeartbeats 1000000 in
theorem rints_any (most : Int) (hm0 : -9223372036854775808 ≤ most) (hm1 : most ≤ 9223372036854775807) (p : Nat) (F : List Nat) (S S' : Rs) (X : List Int) (hX : Hid (rL most S = (X, S'))) (hl : S.left ≤ 100000000) (w : World) (hR : Rp w p F S) :
    Calls Try.prog 31 #[.pointer (some ⟨p, 0, none⟩), .int .i64 most] w (PsI w p F X S') := by
  have c1 := fun w hR => length_any most hm0 hm1 p F S w hR
  have hN := rZ_le most S
  have c2 := fun w hR => list_any (rZ most S).1 (by omega) p F (rZ most S).2 S' X (Lib.hid (by rw [← rL_ls, hX.out])) (Nat.le_trans (rZ_left most S) hl) (fun e h => rZ_zero h) w hR
  unfold Pst at c1
  unfold PsI at c2 ⊢
  clear hX hN
  generalize rZ most S = Z at *
  have hmf : ∀ (fn : Fn) (first cap : Array Value) (w : World), (Instr.makeFunc fn first cap).run Try.prog w = .ok (.func fn first cap) w := fun _ _ _ _ => rfl
  go_enter Try.func31, Try.ntmps31
  go_wp2_with (first
    | (go_at_call 52; (refine (c1 _ hR).mono ?_); rintro e w1 ⟨rfl, R1, M1⟩)
    | (go_at_call 54; (refine (c2 _ R1).mono ?_); rintro e w2 ⟨A, n, c, rfl, h1, h2, h3, h4, h5, h6, h7⟩))
  go_ret
  exact ⟨A, n, c, rfl, h1, h2, h3, fun b off e => Nat.le_trans M1.size (h4 b off e), h5, h6, M1.trans (Nw.refl _ _) h7⟩
end Go.Proofs.Ytpmmddemeiljjaa.wrPd

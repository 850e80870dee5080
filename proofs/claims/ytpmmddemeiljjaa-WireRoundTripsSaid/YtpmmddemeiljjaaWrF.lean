/-
  Contracts of the reference's NewReader and of its reader's Ints; rows of ints that grow.
-/
import Derived.Test.YtpmmddemeiljjaaWrE
import Derived.Test.YtpmmddemeiljjaaWrD
namespace Go.Proofs.Ytpmmddemeiljjaa.wrF
open Go.RowKit
open Go.Proofs.Ytpmmddemeiljjaa.dgM Go.Proofs.Ytpmmddemeiljjaa.wrM Go.Proofs.Ytpmmddemeiljjaa.wrO Go.Proofs.Ytpmmddemeiljjaa.wrA Go.Proofs.Ytpmmddemeiljjaa.wrB Go.Proofs.Ytpmmddemeiljjaa.wrC Go.Proofs.Ytpmmddemeiljjaa.wrE
set_option linter.unusedVariables false

/-! ### rows of ints -/
abbrev cI (zs : List Int) : List Value := zs.map (Value.int .i64)
abbrev OwI (w : World) (B : Nat) (v : Value) (zs : List Int) : Prop := w.ownsRow B 3 1 v zs.length (cI zs)
theorem infoI : (Try.prog.info? 3).map (fun i => (i.zero, i.size, i.bytes)) = some (some (.int .i64 0), 1, 8) := by kernel_rfl
theorem owi_nil (w : World) (B : Nat) : OwI w B (.slice none 0 0) [] := ⟨rfl, .inl ⟨rfl, rfl⟩⟩
theorem owi_form {w : World} {B : Nat} {v : Value} {l : List Int} (h : OwI w B v l) : ∃ A c, v = .slice A l.length c ∧ l.length ≤ c ∧ Ci w A l ∧ (A = none → c = 0) ∧ (∀ b off, A = some ⟨b, off, none⟩ → B ≤ b ∧ b < w.heap.size) := by
  have hlt := World.ownsRow.lt h
  rcases h.2 with ⟨rfl, h0⟩ | ⟨g, cap, cur, rfl, hg, hh, hnc, _, _, htake⟩
  · have hl : l = [] := List.eq_nil_of_length_eq_zero h0
    subst hl
    exact ⟨none, 0, rfl, by simp, Ci.nil _ _, fun _ => rfl, fun b off e => absurd e (by simp)⟩
  · refine ⟨some ⟨g, 0, none⟩, cap, rfl, hnc, fun _ => ⟨g, 0, rfl, fun j x hx => ?_⟩, fun e => absurd e (by simp), fun b off e => ?_⟩
    · have hj : j < l.length := (List.getElem?_eq_some_iff.1 hx).1
      have h3 : (cI l)[j]? = some (.int .i64 x) := by rw [List.getElem?_map, hx]; rfl
      rw [← htake, List.getElem?_take, if_pos (by omega)] at h3
      rw [Nat.zero_add, cell_of_row w g j _ _ _ hh]
      simpa using h3
    · injection e with e
      injection e with e1 e2
      exact e1 ▸ hlt g rfl
theorem push_int {ops : Array Oper} {rest : List Oper} {o : Oper} {a : Act} {Q : Exit → Act → World → Prop} (hgd : o.guard = none) (s x : Operand) (ho : o.op = .call { callee := .builtin .append, args := #[s, x], argTypes := #[31, 31] })
    (w : World) (B : Nat) (v : Value) (l : List Int) (y : Int) (hs : a.eval s = v) (hown : OwI w B v l) (hx : a.eval x = .slice (some ⟨w.heap.size, 0, none⟩) 1 1) (hn : l.length ≤ 1000000000) (hB : B ≤ w.heap.size)
    (h : ∀ v' w1, OwI w1 B v' (l ++ [y]) → Below B w w1 → (∀ k, k < w.heap.size → v.ownBlock ≠ some k → w1.heap[k]? = w.heap[k]?) → wpList Try.prog ops Q rest (a.put o.dst v') w1) :
    wpList Try.prog ops Q (o :: rest) a (w.alloc (.cells #[.int .i64 y] 3)) := by
  obtain ⟨i0, hi0, hz0, hz1, hz2⟩ := info_parts infoI
  refine wpList_append_own _ hgd s x 31 ho B 3 i0 (.int .i64 0) 1 8 Try.underlying31 hi0 hz0 hz1 hz2 rfl (by omega) v l.length _ hs (World.ownsRow.alloc hown _) ⟨w.heap.size, 0, none⟩ 1 1 [.int .i64 y] hx rfl (World.news_of_block (cs := #[.int .i64 y]) (t := 3) (fr := (0, 0)) (heap_alloc_new w _)) (by simp [Value.oneCell']) (by unfold maxLen; omega) (by omega) (by simp; omega) ?_
  intro v' w1 hown1 hgrow _
  refine h v' w1 ?_ (((Below.refl _ w).alloc hB _).grown hgrow (by simp; omega) (fun j hj => ((World.ownsRow.lt hown) j hj).1)) (fun k hk hne => ?_)
  · have e : cI l ++ [.int .i64 y] = cI (l ++ [y]) := by simp [cI]
    rw [e] at hown1
    have e2 : l.length + 1 = (l ++ [y]).length := by simp
    rw [e2] at hown1
    exact hown1
  · rw [hgrow.block k (by simp; omega) (Ne.symm hne)]
    exact Below.heap_alloc w _ k hk
theorem owi_mv {w w' : World} {B : Nat} {v : Value} {l : List Int} {F : List Nat} (h : OwI w B v l) (hm : Mv w F w') (hF : ∀ g, v.ownBlock = some g → g ∉ F) : OwI w' B v l := by
  refine ⟨h.1, ?_⟩
  rcases h.2 with ⟨rfl, h0⟩ | ⟨g, cap, cur, rfl, hg, hh, r⟩
  · exact .inl ⟨rfl, h0⟩
  · refine .inr ⟨g, cap, cur, rfl, hg, ?_, r⟩
    have hlt : g < w.heap.size := (World.ownsRow.lt h g rfl).2
    rw [hm.block hlt (hF g rfl)]; exact hh

/-! ### NewReader -/
/-- the blocks of a slice -/
def bks (A : Option Addr) : List Nat := match A with | some ad => [ad.block] | none => []
theorem newr_new {w w3 : World} {A : Option Addr} {n c : Nat} {b : List UInt8} (hb : Below w.heap.size w w3) (ho : OwB w3 w.heap.size (.slice A n c) b) : ∀ k ∈ w3.heap.size :: bks A, w.heap.size ≤ k := by
  intro k hk
  rcases List.mem_cons.1 hk with rfl | h
  · exact hb.size
  · cases A with
    | none => simp [bks] at h
    | some ad =>
      simp [bks] at h
      exact (World.ownsRow.lt ho k (by rw [h]; rfl)).1
theorem newr_rd {w w3 : World} {A : Option Addr} {n m c : Nat} {b : List UInt8} {T : TypeId} (hb : Below w.heap.size w w3) (ho : OwB w3 w.heap.size (.slice A m c) b) (hn : b.length = n) (hN : n ≤ 140737488355000) (hm : m = b.length) :
    Rd (w3.alloc (.cells #[.slice A m c, .int .i64 0, .int .i64 0] T)) w3.heap.size (w3.heap.size :: bks A) (.ok b) := by
  obtain ⟨A', c', e, hc, hC, _, hlt⟩ := own_form ho
  injection e with e1 e2 e3
  subst e1
  subst e3
  subst hm
  have hlt2 : ∀ k ∈ bks A, k < w3.heap.size := fun k hk => by
    cases A with
    | none => simp [bks] at hk
    | some ad =>
      simp [bks] at hk
      exact (hlt k (by rw [hk]; rfl)).2
  refine ⟨A, b.length, c, 0, 0, b, ⟨T, heap_alloc_new w3 _⟩, rfl, Nat.zero_le _, hc, by omega, by omega, hC.below ((Below.refl _ _).alloc (Nat.le_refl _) _), ⟨rfl, rfl⟩, List.mem_cons_self, fun g off e => ?_, fun j hj => ?_⟩
  · subst e
    refine ⟨by simp [bks], fun e => ?_⟩
    have := hlt2 g (by simp [bks])
    omega
  · have hs : (w3.alloc (.cells #[.slice A b.length c, .int .i64 0, .int .i64 0] T)).heap.size = w3.heap.size + 1 := by simp
    rw [hs]
    rcases List.mem_cons.1 hj with rfl | h
    · omega
    · have := hlt2 j h; omega
set_option maxRecDepth 10000 in
theorem rnewr_any (A : Option Addr) (n c : Nat) (b : List UInt8) (hn : b.length = n) (hA : A = none → c = 0) (hN : n ≤ 140737488355000) (w : World) (hb : Cb w A b) :
    Calls Try.prog 23 #[.slice A n c] w fun e w' => ∃ p F, e = .returned (.pointer (some ⟨p, 0, none⟩)) ∧ Rd w' p F (.ok b) ∧ Below w.heap.size w w' ∧ (∀ k ∈ F, w.heap.size ≤ k) := by
  have hO := wrD.own_empty w
  have hB : Below w.heap.size w (w.alloc (.cells #[] 5)) := (Below.refl _ _).alloc (Nat.le_refl _) _
  have hb2 : Cb (w.alloc (.cells #[] 5)) A b := hb.below hB
  go_enter Try.func23, Try.ntmps23
  go_wp2_with (refine wrD.wpl_app rfl (.tmp 3) (.tmp 4) rfl _ w.heap.size (.slice (some ⟨w.heap.size, 0, none⟩) 0 0) [] (by rfl) hO A n c b (by rfl) hn hb2 hA (by simp; omega) hB.size ?_; intro v' w3 AP; obtain ⟨A3, c3, rfl, hc3, hb3, hn3, hl3⟩ := own_form AP.1)
  go_ret
  have hb4 : Below w.heap.size w w3 := hB.grown AP.2.1 hB.size (fun g e => by simp [Value.ownBlock] at e; omega)
  have AP1 : OwB w3 w.heap.size (.slice A3 n c3) b := by have := AP.1; rw [List.nil_append, hn] at this; exact this
  exact ⟨w3.heap.size, _, rfl, newr_rd hb4 AP1 hn hN hn.symm, hb4.alloc hb4.size _, newr_new hb4 AP1⟩

/-- a reader below a bound under which nothing changes -/
theorem rd_low {w w' : World} {p B0 : Nat} {F : List Nat} {S : Rs} (h : Rd w p F S) (hF : ∀ j ∈ F, j < B0) (hb : Below B0 w w') : Rd w' p F S := by
  obtain ⟨A, n, c, k, e, B, h1, h2, h3, h3', h4, h5, h6, h7, h8, h9, h10⟩ := h
  refine ⟨A, n, c, k, e, B, h1.block (hb.block p (hF p h8)), h2, h3, h3', h4, h5, fun hp => ?_, h7, h8, h9, fun j hj => Nat.lt_of_lt_of_le (h10 j hj) hb.size⟩
  obtain ⟨b, off, e', hc⟩ := h6 hp
  exact ⟨b, off, e', fun j x hx => by rw [hb.cell (p := ⟨b, off + j, none⟩) (hF b (h9 b off e').1)]; exact hc j x hx⟩
theorem mv_low {w w1 w2 : World} {F : List Nat} (h : Mv w F w1) (hb : Below w.heap.size w1 w2) : Mv w F w2 :=
  ⟨hb.os.trans h.1, hb.tape.trans h.2.1, hb.output.trans h.2.2.1, Nat.le_trans h.size hb.size, fun k hk hF => (hb.block k hk).trans (h.block hk hF)⟩
/-! ### Ints -/
def cmbN (xs : List Int) : List Int × Rs → List Int × Rs
  | (ys, .ok r) => (xs ++ ys, .ok r)
  | (_, .bad e) => ([], .bad e)
theorem cmbN_two (xs : List Int) (x : Int) (z : List Int × Rs) : cmbN xs (cmbN [x] z) = cmbN (xs ++ [x]) z := by
  obtain ⟨ys, S⟩ := z
  cases S with
  | ok r => simp [cmbN]
  | bad e => rfl
theorem rN_ok {m : Nat} {l r : List UInt8} {x : Int} (h : rI (.ok l) = (x, .ok r)) : rN (m + 1) (.ok l) = cmbN [x] (rN m (.ok r)) := by
  rw [rN, h]
  simp only
  split
  · rename_i xs r2 q; rw [q]; rfl
  · rename_i ys e q; rw [q]; rfl
theorem rN_bad {m : Nat} {l : List UInt8} {x : Int} {e : Nat} (h : rI (.ok l) = (x, .bad e)) : rN (m + 1) (.ok l) = ([], .bad e) := by
  rw [rN, h]
theorem rI_short {l r : List UInt8} {x : Int} (h : rI (.ok l) = (x, .ok r)) : r.length < l.length := by
  have := congrArg List.length (wI_rI h)
  have hp := vr_pos (zz x)
  rw [List.length_append] at this
  unfold wI at this
  omega
theorem rL_bad2 {most : Int} {S : Rs} {e : Nat} (h : (rZ most S).2 = .bad e) : rL most S = ([], .bad e) := by
  unfold rL
  split
  · rename_i n r q; rw [q] at h; simp only [reduceCtorEq] at h
  · rename_i n e' q; rw [q] at h; simp only [Rs.bad.injEq] at h; rw [h]
theorem rL_ok2 {most : Int} {S : Rs} {r : List UInt8} (h : (rZ most S).2 = .ok r) : rL most S = rN (rZ most S).1 (.ok r) := by
  unfold rL
  split
  · rename_i n r' q; rw [q] at h ⊢; simp only [Rs.ok.injEq] at h; rw [h]
  · rename_i n e' q; rw [q] at h; simp only [reduceCtorEq] at h
theorem rN_zero (l : List UInt8) : rN 0 (.ok l) = ([], .ok l) := rfl
theorem cmbN_nil (N : Nat) (l : List UInt8) : cmbN [] (rN N (.ok l)) = rN N (.ok l) := by
  cases N with
  | zero => rfl
  | succ m =>
    cases h : rI (.ok l) with
    | mk x S =>
      cases S with
      | ok r =>
        rw [rN_ok h, cmbN_two]; rfl
      | bad e => rw [rN_bad h]; rfl
/-- what is known in the loop -/
def Lp (N i : Nat) (xs : List Int) (X : List Int) (S' : Rs) : Rs → Prop
  | .ok l => i + l.length ≤ 100000000 ∧ (X, S') = cmbN xs (rN (N - i) (.ok l))
  | .bad e => X = [] ∧ S' = .bad e
def IntsP (w : World) (p : Nat) (F : List Nat) (X : List Int) (S' : Rs) (e : Ending) (w' : World) : Prop :=
  ∃ A n c, e = .returned (.slice A n c) ∧ Ci w' A X ∧ X.length = n ∧ n ≤ c ∧ (∀ b off, A = some ⟨b, off, none⟩ → w.heap.size ≤ b) ∧ (A = none → c = 0) ∧ Rd w' p F S' ∧ Mv w F w'
set_option maxRecDepth 10000 in
set_option maxHeartbeats 1000000 in
theorem rints_any (most : Int) (hm0 : -9223372036854775808 ≤ most) (hm1 : most ≤ 9223372036854775807) (p : Nat) (F : List Nat) (S S' : Rs) (X : List Int) (hX : Hid (rL most S = (X, S'))) (hl : S.left ≤ 100000000) (w : World) (hR : Rd w p F S) :
    Calls Try.prog 32 #[.pointer (some ⟨p, 0, none⟩), .int .i64 most] w (IntsP w p F X S') := by
  have c1 := fun w hR => rsize_any most hm0 hm1 p F S w hR
  unfold Sz at c1
  have HL : Hid (∀ N : Nat, (∀ r, (rZ most S).2 = .ok r → N = (rZ most S).1) → Lp N 0 [] X S' (rZ most S).2) := Lib.hid fun N hN => by
    have hx := hX.out
    cases hz : (rZ most S).2 with
    | bad e =>
      rw [rL_bad2 hz] at hx
      exact ⟨(Prod.mk.inj hx).1.symm, (Prod.mk.inj hx).2.symm⟩
    | ok r =>
      rw [rL_ok2 hz] at hx
      refine ⟨?_, ?_⟩
      · have hs : rZ most S = ((rZ most S).1, .ok r) := Prod.ext rfl hz
        cases S with
        | bad e => rw [rZ_bad] at hz; simp only [reduceCtorEq] at hz
        | ok l =>
          have := congrArg List.length (vr_rU (rZ_inv hs).1)
          rw [List.length_append] at this
          have hl' : l.length ≤ 100000000 := hl
          omega
      · rw [hN _ hz, Nat.sub_zero, ← hx, cmbN_nil]
  clear hX hl
  generalize rZ most S = Z at *
  go_enter Try.func32, Try.ntmps32
  go_wp2_with (go_at_call 53; (refine (c1 _ hR).mono ?_); rintro e w1 ⟨N, hN, hNr, rfl, R1, M1⟩)
  have hN' : N < 18446744073709551616 := hN
  have hF1 : ∀ j ∈ F, j < w1.heap.size := by
    obtain ⟨_, _, _, _, _, _, _, _, _, _, _, _, _, _, _, _, q⟩ := R1
    exact q
  go_loopw [6, 7] (fun s6 s7 wr => ∃ (i : Nat) (xs : List Int) (Si : Rs), s7 = .int .u64 (i : Int) ∧ xs.length = i ∧ i ≤ 100000001 ∧ OwI wr w1.heap.size s6 xs ∧ Hid (Rd wr p F Si) ∧ Hid (Mv w1 F wr) ∧ Hid (Lp N i xs X S' Si)) (fun _ s7 _ => N - (intOf s7).toNat)
  case atStart => exact ⟨0, [], Z.2, rfl, rfl, by omega, owi_nil _ _, Lib.hid R1, Lib.hid (Mv.refl _ _), Lib.hid (HL.out N hNr)⟩
  case round =>
    obtain ⟨i, xs, Si, rfl, rfl, hi, hO, HR, HM, HP⟩ := hrel
    obtain ⟨A6, c6, rfl, hc6, hC6, hn6, hb6⟩ := owi_form hO
    have hRi := HR.out
    obtain ⟨A, n, c, k, e, B, h1, h2, h3, h3', h4, h5, h6, h7, h8, h9, h10⟩ := hRi
    have k2 := h1.c2
    cases Si with
    | bad e' =>
      obtain ⟨rfl, he⟩ := h7
      obtain ⟨rfl, rfl⟩ := HP.out
      have t : ((e : Int) == 0) = false := by rw [beq_eq_false_iff_ne]; omega
      have t2 : ((e : Int) != 0) = true := by simp; omega
      have HF : Hid (IntsP w p F [] (.bad e) (.returned (.slice none 0 0)) wr) := Lib.hid ⟨none, 0, 0, rfl, Ci.nil _ _, rfl, Nat.le_refl _, fun b off e => absurd e (by simp), fun _ => rfl, HR.out, M1.trans (Nw.refl _ _) HM.out⟩
      clear h1 h6 HL c1
      by_cases hlt : xs.length < N
      · go_wp2_with fail
        go_ret
        exact HF.out
      · go_wp2_with fail
        go_ret
        exact HF.out
    | ok l =>
      obtain ⟨rfl, rfl⟩ := h7
      by_cases hlt : xs.length < N
      · have hlen := HP.out.1
        have hst := HP.out.2
        have t1 : (xs.length : Int) < (N : Int) := by omega
        have hO2 : OwI wr w1.heap.size (.slice A6 xs.length c6) xs := hO
        have ho : ∀ g, (Value.slice A6 xs.length c6).ownBlock = some g → g ∉ F := fun g e hg => by
          have := (World.ownsRow.lt hO2 g e).1
          have := hF1 g hg
          omega
        cases hr : rI (.ok (B.drop k)) with
        | mk x S2 =>
          have c3 := fun w h => rint_any p F (.ok (B.drop k)) x S2 (Lib.hid hr) w h
          have HP2 : Hid (Lp N (xs.length + 1) (xs ++ [x]) X S' S2) := Lib.hid (by
            cases S2 with
            | ok r =>
              have hs := rI_short hr
              refine ⟨by omega, ?_⟩
              rw [hst, show N - xs.length = (N - (xs.length + 1)) + 1 by omega, rN_ok hr, cmbN_two]
            | bad e =>
              rw [show N - xs.length = (N - (xs.length + 1)) + 1 by omega, rN_bad hr] at hst
              exact ⟨(Prod.mk.inj hst).1, (Prod.mk.inj hst).2⟩)
          have hRi := HR.out
          unfold Rst at c3
          have hB1 : w1.heap.size ≤ wr.heap.size := HM.out.size
          have hlx : xs.length ≤ 1000000000 := by omega
          have hxn : (xs ++ [x]).length = xs.length + 1 := by rw [List.length_append]; rfl
          have hi2 : xs.length + 1 ≤ 100000001 := by omega
          clear h1 h6 hst hlen hr HL c1 hC6 hO hc6
          go_wp2_with (first
            | (refine push_int rfl (.tmp 23) (.tmp 26) rfl w3 w1.heap.size (.slice A6 xs.length c6) xs x (by rfl) O3.out (by rfl) hlx hB3 ?_; intro v' w4 O4 B4 _; have R4 := Lib.hid (rd_low R3.out hF1 B4); have M4 := Lib.hid (mv_low (HM.out.trans (Nw.refl _ _) M3.out) B4))
            | (go_at_call 25; (refine (c3 _ hRi).mono ?_); rintro e w3 ⟨rfl, r3, m3⟩; have O3 := Lib.hid (owi_mv hO2 m3 ho); have R3 := Lib.hid r3; have M3 := Lib.hid m3; have hB3 : w1.heap.size ≤ w3.heap.size := Nat.le_trans hB1 m3.size; clear r3 m3))
          go_roundw
          case rel => exact ⟨xs.length + 1, xs ++ [x], S2, by go_num, hxn, hi2, O4, R4, M4, HP2⟩
          case measure => simp [intOf]; omega
      · have hst := HP.out.2
        rw [show N - xs.length = 0 by omega, rN_zero] at hst
        obtain ⟨rfl, rfl⟩ : X = xs ∧ S' = .ok (B.drop k) := by
          have e := Prod.mk.inj hst
          exact ⟨by rw [e.1, List.append_nil], e.2⟩
        have t1 : ¬ (X.length : Int) < (N : Int) := by omega
        have HF : Hid (IntsP w p F X (.ok (B.drop k)) (.returned (.slice A6 X.length c6)) wr) := Lib.hid ⟨A6, X.length, c6, rfl, hC6, rfl, hc6, fun b off e => Nat.le_trans M1.size (hb6 b off e).1, hn6, HR.out, M1.trans (Nw.refl _ _) HM.out⟩
        clear h1 h6 HL c1 hst
        go_wp2_with fail
        go_ret
        exact HF.out
end Go.Proofs.Ytpmmddemeiljjaa.wrF

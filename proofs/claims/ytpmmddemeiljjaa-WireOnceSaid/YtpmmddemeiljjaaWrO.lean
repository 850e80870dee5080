/-
  The law WireOnce, over any reader and writer that keep the records of contracts.
-/
import Derived.Test.YtpmmddemeiljjaaWrR
import Derived.Deep.RegionHeldLaw
namespace Go.Proofs.Ytpmmddemeiljjaa.wrOn
open Go.RowKit
open Go.Proofs.Ytpmmddemeiljjaa.dgM Go.Proofs.Ytpmmddemeiljjaa.wrM Go.Proofs.Ytpmmddemeiljjaa.wrO Go.Proofs.Ytpmmddemeiljjaa.wrA Go.Proofs.Ytpmmddemeiljjaa.wrB Go.Proofs.Ytpmmddemeiljjaa.wrC Go.Proofs.Ytpmmddemeiljjaa.wrE Go.Proofs.Ytpmmddemeiljjaa.wrH Go.Proofs.Ytpmmddemeiljjaa.wrQ Go.Proofs.Ytpmmddemeiljjaa.wrL Go.Proofs.Ytpmmddemeiljjaa.wrW Go.Proofs.Ytpmmddemeiljjaa.wrY Go.Proofs.Ytpmmddemeiljjaa.wrZ Go.Proofs.Ytpmmddemeiljjaa.wrR Go.Proofs.Ytpmmddemeiljjaa.wrV Go.Proofs.Ytpmmddemeiljjaa.wrX
set_option linter.unusedVariables false

/-! ### an error is not 0; what is read is in its type's bounds -/
theorem nz_U {l : List UInt8} {x : Nat} {e : Nat} (h : rU (.ok l) = (x, .bad e)) : e ≠ 0 := by
  by_cases q : (tr l).2.2 = 0
  · rw [rU_ok q] at h
    have h2 := congrArg Prod.snd h
    simp only [reduceCtorEq] at h2
  · rw [rU_no q] at h
    have h2 := congrArg Prod.snd h
    simp only [Rs.bad.injEq] at h2
    rw [← h2]; exact q
theorem nz_I {l : List UInt8} {x : Int} {e : Nat} (h : rI (.ok l) = (x, .bad e)) : e ≠ 0 := by
  unfold rI at h
  have h2 := congrArg Prod.snd h
  exact nz_U (l := l) (x := (rU (.ok l)).1) (Prod.ext rfl h2)
theorem nz_Z {m : Int} {l : List UInt8} {x : Nat} {e : Nat} (h : rZ m (.ok l) = (x, .bad e)) : e ≠ 0 := by
  unfold rZ at h
  split at h
  · split at h
    · have h2 := congrArg Prod.snd h
      simp only [Rs.bad.injEq] at h2
      omega
    · have h2 := congrArg Prod.snd h
      simp only [reduceCtorEq] at h2
  · rename_i e2
    have h2 := congrArg Prod.snd h
    simp only [Rs.bad.injEq] at h2
    rw [← h2]; exact nz_U e2
theorem nz_T {m : Int} {l : List UInt8} {x : List UInt8} {e : Nat} (h : rT m (.ok l) = (x, .bad e)) : e ≠ 0 := by
  unfold rT at h
  split at h
  · split at h
    · have h2 := congrArg Prod.snd h
      simp only [Rs.bad.injEq] at h2
      omega
    · have h2 := congrArg Prod.snd h
      simp only [reduceCtorEq] at h2
  · rename_i e2
    have h2 := congrArg Prod.snd h
    simp only [Rs.bad.injEq] at h2
    rw [← h2]; exact nz_Z e2
theorem nz_N : ∀ (k : Nat) (l : List UInt8) (x : List Int) (e : Nat), rN k (.ok l) = (x, .bad e) → e ≠ 0
  | 0, l, x, e, h => by
    rw [rN] at h
    have h2 := congrArg Prod.snd h
    simp only [reduceCtorEq] at h2
  | k + 1, l, x, e, h => by
    rw [rN] at h
    split at h
    · rename_i e2
      have h2 := congrArg Prod.snd h
      simp only [Rs.bad.injEq] at h2
      rw [← h2]; exact nz_I e2
    · split at h
      · have h2 := congrArg Prod.snd h
        simp only [reduceCtorEq] at h2
      · rename_i e2
        have h2 := congrArg Prod.snd h
        simp only [Rs.bad.injEq] at h2
        rw [← h2]; exact nz_N _ _ _ _ e2
theorem nz_L {m : Int} {l : List UInt8} {x : List Int} {e : Nat} (h : rL m (.ok l) = (x, .bad e)) : e ≠ 0 := by
  unfold rL at h
  split at h
  · exact nz_N _ _ _ _ h
  · rename_i e2
    have h2 := congrArg Prod.snd h
    simp only [Rs.bad.injEq] at h2
    rw [← h2]; exact nz_Z e2
theorem in_I (S : Rs) : -9223372036854775808 ≤ (rI S).1 ∧ (rI S).1 ≤ 9223372036854775807 := sg_in (rU_lt S)
theorem fit_N : ∀ (k : Nat) (S : Rs), Fit (rN k S).1
  | 0, S => fun _ h => absurd h (by simp [rN])
  | k + 1, S => by
    rw [rN]
    split
    · exact fun _ h => absurd h (by simp)
    · rename_i x r e
      have h1 := in_I S
      rw [e] at h1
      have h2 := fit_N k (.ok r)
      split
      · rename_i xs r2 e2
        rw [e2] at h2
        exact fun y hy => by
          rcases List.mem_cons.1 hy with q | q
          · rw [q]; exact h1
          · exact h2 y q
      · exact fun _ h => absurd h (by simp)
theorem fit_L (m : Int) (S : Rs) : Fit (rL m S).1 := by
  unfold rL
  split
  · exact fit_N _ _
  · exact fun _ h => absurd h (by simp)

/-! ### a reader, a writer and an item in a box -/
theorem ci_lt {w : World} {A : Option Addr} {l : List Int} (h : Ci w A l) (hp : 0 < l.length) {b off : Nat} (e : A = some ⟨b, off, none⟩) : b < w.heap.size := by
  obtain ⟨b', off', e', hc'⟩ := h hp
  rw [e] at e'
  injection e' with e'
  injection e' with e1 e2
  subst e1
  exact World.block_lt_of_cell? w _ (hc' 0 _ (iat_some hp))
structure Bx (P : PWr) (Q : PRd) (w0 w : World) (r : Nat) (F : List Nat) (p : Nat) (G : List Nat) (S : Rs) (l1 : List UInt8) (g : Nat) (x : It) : Prop where
  d : Duo Q.O P.O w0 w r F p G S l1
  r5 : R5 w g x
  ci : Ci w x.A x.l
  nf : g ∉ F
  ng : g ∉ G
  af : 0 < x.l.length → ∀ b off, x.A = some ⟨b, off, none⟩ → b ∉ F
  ag : 0 < x.l.length → ∀ b off, x.A = some ⟨b, off, none⟩ → b ∉ G
  gb : w0.heap.size ≤ g
section
variable {P : PWr} {Q : PRd} {w0 w w' : World} {r p g : Nat} {F F' G G' : List Nat} {S S' : Rs} {l1 l2 : List UInt8} {x : It}
theorem Bx.s1 (h : Bx P Q w0 w r F p G S l1 g x) (o : Q.O w' r F' S') (M : Mv w F w') (N : Nw w F F') : Bx P Q w0 w' r F' p G S' l1 g x :=
  ⟨h.d.s1 (kpw P) o M N, h.r5.mv M h.nf, Ci.mv h.ci M h.af, fun hg => by
    rcases N g hg with q | q
    · exact h.nf q
    · have := h.r5.lt; omega, h.ng, fun hp b off e hb => by
    rcases N b hb with q | q
    · exact h.af hp b off e q
    · have := ci_lt h.ci hp e; omega, h.ag, h.gb⟩
theorem Bx.s2 (h : Bx P Q w0 w r F p G S l1 g x) (o : P.O w' p G' l2) (M : Mv w G w') (N : Nw w G G') : Bx P Q w0 w' r F p G' S l2 g x :=
  ⟨h.d.s2 (kpr Q) o M N, h.r5.mv M h.ng, Ci.mv h.ci M h.ag, h.nf, fun hg => by
    rcases N g hg with q | q
    · exact h.ng q
    · have := h.r5.lt; omega, h.af, fun hp b off e hb => by
    rcases N b hb with q | q
    · exact h.ag hp b off e q
    · have := ci_lt h.ci hp e; omega, h.gb⟩
theorem Bx.on (h : Bx P Q w0 w r F p G S l1 g x) (B : Below w.heap.size w w') : Bx P Q w0 w' r F p G S l1 g x :=
  ⟨h.d.on (kpr Q) (kpw P) B, h.r5.mv (F := []) (Mv.of_below B) (by simp), Ci.mv (F := []) h.ci (Mv.of_below B) (fun _ _ _ _ => by simp), h.nf, h.ng, h.af, h.ag, h.gb⟩
theorem Bx.start (h : Duo Q.O P.O w0 w r F p G S l1) (v : It) (T : TypeId) (hv : v.l = []) : Bx P Q w0 (w.alloc (.cells #[.int .i64 v.kind, .int .i64 v.n, .int .u64 (v.u : Int), .string v.s, .slice v.A v.l.length v.c] T)) r F p G S l1 w.heap.size v := by
  have B := below_al w (.cells #[.int .i64 v.kind, .int .i64 v.n, .int .u64 (v.u : Int), .string v.s, .slice v.A v.l.length v.c] T)
  exact ⟨h.on (kpr Q) (kpw P) B, ⟨_, heap_alloc_new w _⟩, by rw [hv]; exact fun hp => absurd hp (by simp), fun hg => by have := Q.lt h.q _ hg; omega, fun hg => by have := P.lt h.p _ hg; omega, fun hp => absurd hp (by rw [hv]; simp), fun hp => absurd hp (by rw [hv]; simp), h.b.size⟩
/-- a cell of the box is set -/
theorem Bx.put (h : Bx P Q w0 w r F p G S l1 g x) (j : Nat) (u : Value) (y : It) (hr : R5 (w.setCell ⟨g, j, none⟩ u) g y) (hc : Ci (w.setCell ⟨g, j, none⟩ u) y.A y.l)
    (af : 0 < y.l.length → ∀ b off, y.A = some ⟨b, off, none⟩ → b ∉ F) (ag : 0 < y.l.length → ∀ b off, y.A = some ⟨b, off, none⟩ → b ∉ G) : Bx P Q w0 (w.setCell ⟨g, j, none⟩ u) r F p G S l1 g y := by
  have M : Mv w [g] (w.setCell ⟨g, j, none⟩ u) := mv_set w g j u [g] (by simp)
  exact ⟨⟨Q.mv h.d.q M (fun k hk hg => by simp at hg; subst hg; exact h.nf hk), P.mv h.d.p M (fun k hk hg => by simp at hg; subst hg; exact h.ng hk), h.d.d, h.d.g, h.d.g2, h.d.b.setCell h.gb _⟩, hr, hc, h.nf, h.ng, af, ag, h.gb⟩
theorem r5_set1 (h : R5 w g x) (v : Int) : R5 (w.setCell ⟨g, 1, none⟩ (.int .i64 v)) g { x with n := v } := by
  obtain ⟨T, h⟩ := h
  exact ⟨T, by simp [World.setCell, Array.getElem?_modify, h]⟩
theorem r5_set2 (h : R5 w g x) (v : Nat) : R5 (w.setCell ⟨g, 2, none⟩ (.int .u64 (v : Int))) g { x with u := v } := by
  obtain ⟨T, h⟩ := h
  exact ⟨T, by simp [World.setCell, Array.getElem?_modify, h]⟩
theorem r5_set3 (h : R5 w g x) (v : ByteArray) : R5 (w.setCell ⟨g, 3, none⟩ (.string v)) g { x with s := v } := by
  obtain ⟨T, h⟩ := h
  exact ⟨T, by simp [World.setCell, Array.getElem?_modify, h]⟩
theorem r5_set4 (h : R5 w g x) (A : Option Addr) (l : List Int) (c : Nat) : R5 (w.setCell ⟨g, 4, none⟩ (.slice A l.length c)) g { x with A := A, l := l, c := c } := by
  obtain ⟨T, h⟩ := h
  exact ⟨T, by simp [World.setCell, Array.getElem?_modify, h]⟩
/-- a row of one item, new, is kept by the writer -/
theorem Bx.row (h : Bx P Q w0 w r F p G S l1 g x) (T : TypeId) (hx : x.ok) : ∀ W G', Mv (w.alloc (.cells #[.int .i64 x.kind, .int .i64 x.n, .int .u64 (x.u : Int), .string x.s, .slice x.A x.l.length x.c] T)) G W → Nw (w.alloc (.cells #[.int .i64 x.kind, .int .i64 x.n, .int .u64 (x.u : Int), .string x.s, .slice x.A x.l.length x.c] T)) G G' →
    Its W (some ⟨w.heap.size, 0, none⟩) [x] ∧ ∀ k (hk : k < [x].length), 0 < [x][k].l.length → ∀ b off, [x][k].A = some ⟨b, off, none⟩ → b ∉ G' := fun W G' M N => by
  have B := below_al w (.cells #[.int .i64 x.kind, .int .i64 x.n, .int .u64 (x.u : Int), .string x.s, .slice x.A x.l.length x.c] T)
  have hb := h.on B
  have hng : w.heap.size ∉ G := fun hg => by have := P.lt h.d.p _ hg; omega
  have r5 : R5 W w.heap.size x := R5.mv (w := w.alloc (.cells #[.int .i64 x.kind, .int .i64 x.n, .int .u64 (x.u : Int), .string x.s, .slice x.A x.l.length x.c] T)) ⟨_, heap_alloc_new w _⟩ M hng
  have ci := Ci.mv hb.ci M hb.ag
  refine ⟨fun _ => ⟨w.heap.size, 0, rfl, fun j y hy => ?_⟩, fun k hk => ?_⟩
  · have hj : j = 0 := by
      have := (List.getElem?_eq_some_iff.1 hy).1
      simp at this; exact this
    subst hj
    simp at hy
    subst hy
    simp only [Nat.zero_mul, Nat.add_zero]
    exact ⟨r5.c0, r5.c1, r5.c2, r5.c3, r5.c4, ci, hx⟩
  · have hk0 : k = 0 := by simp at hk; exact hk
    subst hk0
    simp only [List.getElem_cons_zero]
    exact fun hp b off e hbg => by
      rcases N b hbg with q | q
      · exact hb.ag hp b off e q
      · have := ci_lt hb.ci hp e; omega
end

theorem zin : -9223372036854775808 ≤ (0 : Int) ∧ (0 : Int) ≤ 9223372036854775807 := by omega
theorem rT_len (m : Int) (S : Rs) : (rT m S).1.length ≤ S.left := by
  have h := left_rZ m S
  unfold rT
  split
  · rename_i n r e
    rw [e] at h
    have h' : r.length ≤ S.left := h
    split
    · exact Nat.zero_le _
    · show (r.take n).length ≤ _
      rw [List.length_take]; omega
  · exact Nat.zero_le _
/-- an item's text and list are short -/
def Small (y : It) : Prop := y.s.size ≤ 100000 ∧ y.l.length ≤ 100000
/-- the first bytes of a slice -/
theorem pre_any (A : Option Addr) (n c h : Nat) (B : List UInt8) (hh : h ≤ c) :
    (∀ W, (Instr.slice 38 (.slice A n c) none (some (.int .i64 (h : Int))) none).run Try.prog W = .ok (.slice A h c) W) ∧ (∀ W, Cb W A B → Cb W A (B.take h)) := by
  have ht' : Try.prog.underlying 38 = some (.slice (Try.prog.elem 38)) := by simp [Program.elem, Try.underlying38]
  have he : Try.prog.elem 38 = 5 := by simp [Program.elem, Try.underlying38]
  refine ⟨fun W => ?_, fun W hC hp => ?_⟩
  · rw [run_slice_h W 38 A n c ht' .i64 _ (by omega) (by omega), he, size_run]
    simp [Result.andThen, sliced]
    intro _
    cases A <;> simp [Addr.add]
  · rw [List.length_take] at hp
    obtain ⟨b, off, rfl, hcell⟩ := hC (by omega)
    refine ⟨b, off, rfl, fun j x hx => ?_⟩
    rw [List.getElem?_take] at hx
    split at hx
    · exact hcell j x hx
    · cases hx
theorem r5_free {w : World} {p : Nat} {x : It} (h : R5 w p x) (j : Nat) : w.frozen? ⟨p, j, none⟩ = false := by obtain ⟨T, h⟩ := h; simp [World.frozen?, h]

set_option maxRecDepth 10000 in
set_option maxHeartbeats 2000000 in
theorem once_in (P : PWr) (Q : PRd) (H : PFr) (A : Option Addr) (cb : Nat) (b : List UInt8) (B : Option Addr) (n c : Nat) (xs : List Ak) (hb : b.length ≤ 20000) (hc : b.length ≤ cb) (hA : A = none → cb = 0) (hn : Hid (xs.length = n)) (hN : n ≤ 200) (w : World) (hC : Cb w A b) (hI : Aks w B xs) :
    Calls Try.prog 6 #[.slice A b.length cb, .slice B n c] w fun e w' => e = .returned (.bool true) ∧ Below w.heap.size w w' := by
  have c1 := fun w h => Q.new A cb b (by omega) hc hA w h
  obtain ⟨L, hL⟩ : ∃ L, L = b.length := ⟨_, rfl⟩
  have HL := Lib.hid hL
  have HB := Lib.hid hb
  have hL2 : L ≤ 20000 := by omega
  have hc2 : L ≤ cb := by omega
  rw [← hL] at c1 ⊢
  have t1 : ¬ (20000 : Int) < (L : Int) := by omega
  have t2 : ¬ (200 : Int) < (n : Int) := by omega
  clear hb hc hA hL
  go_enter Try.func6, Try.ntmps6
  go_wp2_with (first
    | (go_at_call 22; (refine (c1 _ hC).mono ?_); rintro e w1 ⟨r, F1, rfl, O1, B1, G1⟩)
    | (go_at_call 13; (refine (P.new _).mono ?_); rintro e w2 ⟨p, F2, rfl, O2, B2, G2⟩; have D2 := Duo.start (kpr Q) O1 B1 G1 B2 O2 G2))
  go_loopw [31] (fun s31 wr => ∃ (k : Nat) (F G : List Nat) (rem l1 : List UInt8), k ≤ n ∧ s31 = .int .i64 (k : Int) ∧ Hid (l1 ++ rem = b) ∧ Hid (Duo Q.O P.O w wr r F p G (.ok rem) l1)) (fun s31 _ => n - (intOf s31).toNat)
  case atStart => exact ⟨0, F1, F2, b, [], Nat.zero_le _, rfl, Lib.hid rfl, Lib.hid D2⟩
  case round =>
    obtain ⟨k, F, G, rem, l1, hk, rfl, HS, D⟩ := hrel
    by_cases hlt : k < n
    · have hk2 : k < xs.length := by rw [hn.out]; exact hlt
      obtain ⟨b0, off0, rfl, hx0⟩ := hI.at_ (k := k) hk2
      have i0 : (0 : Int) ≤ (k : Int) := by omega
      have i1 : (k : Int) < (n : Int) := by omega
      generalize xs[k] = x at *
      have hx1 : AkAt wr b0 (off0 + k * 2) x := hx0.below D.out.b
      obtain ⟨h0, h1, h2, h3⟩ := hx1
      have D0 := D.out
      have hrl : rem.length ≤ 20000 := by
        have := congrArg List.length HS.out
        rw [List.length_append] at this
        have := HB.out
        omega
      obtain ⟨R, hR⟩ : ∃ R, R = rem.length := ⟨_, rfl⟩
      have q0 : ∀ F w, Q.O w r F (.ok rem) → Calls Try.prog 33 #[ptr r] w (Ost Q.O w r F (.int .i64 (R : Int)) (.ok rem)) := fun F w h => by
        rw [hR]; exact Q.left r F (.ok rem) (by show rem.length ≤ _; omega) w h
      have HR := Lib.hid hR
      have hR2 : R ≤ 20000 := by omega
      clear hR
      go_upto_region 11 with (go_at_call 33; (refine (q0 _ _ D0.q).mono ?_); rintro e w3 ⟨rfl, F3, O3, M3, N3⟩; have D3 := D0.s1 (kpw P) O3 M3 N3; have h3k := (hx0.below D3.b).1)
      have B4 : Bx P Q w (w3.alloc (.cells #[.int .i64 x.kind, .int .i64 0, .int .u64 0, .string ⟨#[]⟩, .slice none 0 0] 33)) r F3 p G (.ok rem) l1 w3.heap.size ⟨x.kind, 0, 0, ⟨#[]⟩, none, [], 0⟩ := Bx.start D3 ⟨x.kind, 0, 0, ⟨#[]⟩, none, [], 0⟩ 33 rfl
      have hxr : ∀ W, Below w.heap.size w W → W.cell? ⟨b0, off0 + k * 2 + 1, none⟩ = some (.int .i64 x.most) := fun W h => (hx0.below h).2.1
      have HX := Lib.hid hxr
      have hl1 : l1.length ≤ 20000 := by
        have := congrArg List.length HS.out
        rw [List.length_append] at this
        have := HB.out
        omega
      clear D0 D q0 h0 h1 h3k hxr D3 O3 M3 N3 c1 D2 O1 B1 G1 O2 B2 G2 hx0
      generalize hw4 : w3.alloc (.cells #[.int .i64 x.kind, .int .i64 0, .int .u64 0, .string ⟨#[]⟩, .slice none 0 0] 33) = w4 at *
      clear hw4
      generalize w3.heap.size = g at *
      have k0 := B4.r5.c0
      simp only at k0
      by_cases k1 : x.kind = 1
      · have t3 : (x.kind == 1) = true := by simpa using k1
        obtain ⟨V, T2, hv⟩ : ∃ V T2, rI (.ok rem) = (V, T2) := ⟨_, _, rfl⟩
        have q1 := fun F w h => Q.int r F (.ok rem) (by show rem.length ≤ _; omega) w h
        rw [hv] at q1
        have hVr := in_I (.ok rem)
        rw [hv] at hVr
        simp only at hVr
        have hy : (It.mk x.kind V 0 ⟨#[]⟩ none [] 0).ok := ⟨h2, hVr, by show 0 < A64; decide, fun _ h => absurd h (by simp), by simp, Nat.zero_le _, fun _ => rfl⟩
        have HY : ∀ r2, T2 = .ok r2 → wXs [It.mk x.kind V 0 ⟨#[]⟩ none [] 0] ++ r2 = rem := fun r2 e => by
          have h : wXs [It.mk x.kind V 0 ⟨#[]⟩ none [] 0] = wI V := by
            show wX (It.mk x.kind V 0 ⟨#[]⟩ none [] 0) ++ [] = _
            rw [List.append_nil]; exact if_pos k1
          rw [h]; exact wI_rI (by rw [hv, e])
        have HZ : ∀ e, T2 = .bad e → e ≠ 0 := fun e h => nz_I (by rw [hv, h])
        have hys : Small (It.mk x.kind V 0 ⟨#[]⟩ none [] 0) := ⟨Nat.zero_le _, Nat.zero_le _⟩
        clear k1 hv hVr
        go_upto_region 19 with (go_at_call 24; ((refine (q1 _ _ B4.d.q).mono ?_); rintro e w5 ⟨rfl, F5, O5, M5, N5⟩; have B5 := B4.s1 O5 M5 N5; have B6 := B5.put 1 (.int .i64 V) (It.mk x.kind V 0 ⟨#[]⟩ none [] 0) (r5_set1 B5.r5 V) (fun h => absurd h (Nat.lt_irrefl _)) (fun h => absurd h (Nat.lt_irrefl _)) (fun h => absurd h (Nat.lt_irrefl _)); have f5 := r5_free B5.r5 1; have k5 := B5.r5.c1; simp only at k5))
        generalize hw6 : w5.setCell ⟨g, 1, none⟩ (.int .i64 V) = w6 at *
        clear hw6 f5 k5 B5 B4 O5 M5 N5 k0 q1
        obtain ⟨y, hyy⟩ : ∃ y, y = It.mk x.kind V 0 ⟨#[]⟩ none [] 0 := ⟨_, rfl⟩
        rw [← hyy] at B6 HY hy hys
        clear hyy
        generalize hyl : wXs [y] = Y at *
        cases T2 with
        | bad e =>
          have he := HZ e rfl
          have d3 : ∀ F w, Q.O w r F (.bad e) → Calls Try.prog 35 #[ptr r] w (Ost Q.O w r F (.int .i64 (e : Int)) (.bad e)) := fun F w h => Q.err r F (.bad e) w h
          have e1 : ((e : Int) != 0) = true := by simp; omega
          have e2 : (0 : Int) ≤ (R : Int) := by omega
          go_wp2_with (first
            | (go_at_call 35; (refine (d3 _ _ B6.d.q).mono ?_); rintro e' w7 ⟨rfl, F7, O7, M7, N7⟩; have B7 := B6.s1 O7 M7 N7)
            | (go_at_call 12; (refine (awake_any P Q H _).mono ?_); rintro e' w8 ⟨rfl, B8⟩))
          go_ret
          exact ⟨rfl, below_on B7.d.b B8⟩
        | ok r2 =>
          have hYr := HY r2 rfl
          clear HY HZ
          have hrl2 : Y.length + r2.length = rem.length := by rw [← hYr, List.length_append]
          have hLN : l1.length + rem.length = L := by
            have := congrArg List.length HS.out
            rw [List.length_append, ← HL.out] at this; exact this
          obtain ⟨X, hX⟩ : ∃ X, X = l1 ++ Y := ⟨_, rfl⟩
          obtain ⟨N, hN⟩ : ∃ N, N = X.length := ⟨_, rfl⟩
          obtain ⟨R2, hR2'⟩ : ∃ R2, R2 = r2.length := ⟨_, rfl⟩
          have hXN : X.length = l1.length + Y.length := by rw [hX, List.length_append]
          have e1 : (L : Int) - (R2 : Int) = (N : Int) := by omega
          have e2 : ¬ (N : Int) < 0 := by omega
          have e3 : ¬ (L : Int) < (N : Int) := by omega
          have hNL : N ≤ L := by omega
          have hR3 : R2 ≤ 20000 := by omega
          have hXb : b.take N = X := by rw [← HS.out, ← hYr, ← List.append_assoc, ← hX, hN]; exact List.take_left
          have d3 : ∀ F w, Q.O w r F (.ok r2) → Calls Try.prog 35 #[ptr r] w (Ost Q.O w r F (.int .i64 0) (.ok r2)) := fun F w h => Q.err r F (.ok r2) w h
          have q2 : ∀ F w, Q.O w r F (.ok r2) → Calls Try.prog 33 #[ptr r] w (Ost Q.O w r F (.int .i64 (R2 : Int)) (.ok r2)) := fun F w h => by
            rw [hR2']; exact Q.left r F (.ok r2) (by show r2.length ≤ _; omega) w h
          have cw := fun a w G hI hW => write_gen P (some ⟨a, 0, none⟩) 1 1 [y] (Lib.hid rfl) (by omega) p G l1 (Lib.hid (by rw [hyl, ← hX, hXN]; omega)) (Lib.hid (fun k hk => by
            have hk0 : k = 0 := by simp at hk; exact hk
            subst hk0
            simp only [List.getElem_cons_zero]
            exact hys)) w hI hW
          rw [hyl, ← hX] at cw
          have cb' : ∀ G w, P.O w p G X → Calls Try.prog 20 #[ptr p] w fun e w' => ∃ A c F', e = .returned (.slice A N c) ∧ Cb w' A X ∧ P.O w' p F' X ∧ Mv w G w' ∧ Nw w G F' := fun G w h => (P.bytes p G X (by omega) w h).mono fun e w' ⟨A, n, c, F', q1, q2, q3, q4, q5, q6, q7, q8⟩ => by
            obtain rfl : n = N := by omega
            exact ⟨A, c, F', q1, q2, q6, q7, q8⟩
          have pre := pre_any A L cb N b (by omega)
          have hs := pre.1
          have hcv : ∀ W A c, Cb W A X → (convert 38 9 (.slice A N c)).run Try.prog W = .ok (.string ⟨X.toArray⟩) W := fun W A c h => conv_any W A N c X hN.symm h
          have hsv : ∀ W, Below w.heap.size w W → (convert 38 9 (.slice A N cb)).run Try.prog W = .ok (.string ⟨X.toArray⟩) W := fun W h => hcv W A cb (by rw [← hXb]; exact pre.2 W (hC.below h))
          have HQ : Hid (X ++ r2 = b) := Lib.hid (by rw [hX, List.append_assoc, hYr]; exact HS.out)
          clear hYr hrl2 hLN hX hN hR2' hXN hXb pre HS hl1 hrl hyl hys
          go_upto_region 23 with (first
            | (go_at_call 35; (refine (d3 _ _ B6.d.q).mono ?_); rintro e' w7 ⟨rfl, F7, O7, M7, N7⟩; have B7 := B6.s1 O7 M7 N7; have c0 := B7.r5.c0; have c1 := B7.r5.c1; have c2 := B7.r5.c2; have c3 := B7.r5.c3; have c4 := B7.r5.c4)
            | (go_at_call 15; (refine (cw _ _ _ (B7.row _ hy) (B7.on (below_al _ _)).d.p).mono ?_); rintro e' w9 ⟨rfl, G9, O9, M9, N9⟩; have B9 := (B7.on (below_al _ _)).s2 O9 M9 N9)
            | (go_at_call 33; (refine (q2 _ _ B9.d.q).mono ?_); rintro e' w10 ⟨rfl, F10, O10, M10, N10⟩; have B10 := B9.s1 O10 M10 N10))
          have D11 : Duo Q.O P.O w w10.drew r F10 p G9 (.ok r2) X := B10.d.drawn (kpr Q) (kpw P) ⟨1, rfl⟩
          have v0 := hsv _ D11.b
          clear c0 c1 c2 c3 c4 O9 M9 N9 O10 M10 N10 O7 M7 N7 B6 B7 B9 B10 cw d3 q2
          have g1 : decide ((N : Int) < 0) = false := decide_eq_false (by omega)
          have g2 : decide ((L : Int) < (N : Int)) = false := decide_eq_false (by omega)
          have g3 : decide (L < N) = false := decide_eq_false (by omega)
          go_region_held_law (fun w' => (convert 38 9 (.slice A N cb)).run Try.prog w' = .ok (.string ⟨X.toArray⟩) w') (first | exact v0 | exact v1)
            (first
              | (go_at_call 20; (with_reducible refine (cb' _ _ D11.p).mono ?_); rintro e' w11 ⟨A5, c5, G11, rfl, C5, O11, M11, N11⟩; have D12 := D11.s2 (kpr Q) O11 M11 N11; have v1 := hsv _ D12.b; have v2 := hcv w11 A5 c5 C5)
              | fail)
          all_goals
            go_wp2_with fail
            go_roundw
            case rel => exact ⟨k + 1, F10, G11, r2, X, by omega, by go_num, HQ, Lib.hid D12⟩
            case measure => simp [intOf]; omega
      have t3 : (x.kind == 1) = false := by simpa using k1
      by_cases k2 : x.kind = 2
      · have t4 : (x.kind == 2) = true := by simpa using k2
        obtain ⟨V, T2, hv⟩ : ∃ V T2, rU (.ok rem) = (V, T2) := ⟨_, _, rfl⟩
        have q1 := fun F w h => Q.uint r F (.ok rem) (by show rem.length ≤ _; omega) w h
        rw [hv] at q1
        have hVr := rU_lt (.ok rem)
        rw [hv] at hVr
        simp only at hVr
        have hy : (It.mk x.kind 0 V ⟨#[]⟩ none [] 0).ok := ⟨h2, zin, hVr, fun _ h => absurd h (by simp), by simp, Nat.zero_le _, fun _ => rfl⟩
        have HY : ∀ r2, T2 = .ok r2 → wXs [It.mk x.kind 0 V ⟨#[]⟩ none [] 0] ++ r2 = rem := fun r2 e => by
          have h : wXs [It.mk x.kind 0 V ⟨#[]⟩ none [] 0] = vr V := by
            show wX (It.mk x.kind 0 V ⟨#[]⟩ none [] 0) ++ [] = _
            rw [List.append_nil]; unfold wX; rw [if_neg k1, if_pos k2]
          rw [h]; exact vr_rU (by rw [hv, e])
        have HZ : ∀ e, T2 = .bad e → e ≠ 0 := fun e h => nz_U (by rw [hv, h])
        have hys : Small (It.mk x.kind 0 V ⟨#[]⟩ none [] 0) := ⟨Nat.zero_le _, Nat.zero_le _⟩
        clear k1 k2 hv hVr
        go_upto_region 19 with (go_at_call 26; ((refine (q1 _ _ B4.d.q).mono ?_); rintro e w5 ⟨rfl, F5, O5, M5, N5⟩; have B5 := B4.s1 O5 M5 N5; have B6 := B5.put 2 (.int .u64 (V : Int)) (It.mk x.kind 0 V ⟨#[]⟩ none [] 0) (r5_set2 B5.r5 V) (fun h => absurd h (Nat.lt_irrefl _)) (fun h => absurd h (Nat.lt_irrefl _)) (fun h => absurd h (Nat.lt_irrefl _)); have f5 := r5_free B5.r5 2; have k5 := B5.r5.c2; simp only at k5))
        generalize hw6 : w5.setCell ⟨g, 2, none⟩ (.int .u64 (V : Int)) = w6 at *
        clear hw6 f5 k5 B5 B4 O5 M5 N5 k0 q1
        obtain ⟨y, hyy⟩ : ∃ y, y = It.mk x.kind 0 V ⟨#[]⟩ none [] 0 := ⟨_, rfl⟩
        rw [← hyy] at B6 HY hy hys
        clear hyy
        generalize hyl : wXs [y] = Y at *
        cases T2 with
        | bad e =>
          have he := HZ e rfl
          have d3 : ∀ F w, Q.O w r F (.bad e) → Calls Try.prog 35 #[ptr r] w (Ost Q.O w r F (.int .i64 (e : Int)) (.bad e)) := fun F w h => Q.err r F (.bad e) w h
          have e1 : ((e : Int) != 0) = true := by simp; omega
          have e2 : (0 : Int) ≤ (R : Int) := by omega
          go_wp2_with (first
            | (go_at_call 35; (refine (d3 _ _ B6.d.q).mono ?_); rintro e' w7 ⟨rfl, F7, O7, M7, N7⟩; have B7 := B6.s1 O7 M7 N7)
            | (go_at_call 12; (refine (awake_any P Q H _).mono ?_); rintro e' w8 ⟨rfl, B8⟩))
          go_ret
          exact ⟨rfl, below_on B7.d.b B8⟩
        | ok r2 =>
          have hYr := HY r2 rfl
          clear HY HZ
          have hrl2 : Y.length + r2.length = rem.length := by rw [← hYr, List.length_append]
          have hLN : l1.length + rem.length = L := by
            have := congrArg List.length HS.out
            rw [List.length_append, ← HL.out] at this; exact this
          obtain ⟨X, hX⟩ : ∃ X, X = l1 ++ Y := ⟨_, rfl⟩
          obtain ⟨N, hN⟩ : ∃ N, N = X.length := ⟨_, rfl⟩
          obtain ⟨R2, hR2'⟩ : ∃ R2, R2 = r2.length := ⟨_, rfl⟩
          have hXN : X.length = l1.length + Y.length := by rw [hX, List.length_append]
          have e1 : (L : Int) - (R2 : Int) = (N : Int) := by omega
          have e2 : ¬ (N : Int) < 0 := by omega
          have e3 : ¬ (L : Int) < (N : Int) := by omega
          have hNL : N ≤ L := by omega
          have hR3 : R2 ≤ 20000 := by omega
          have hXb : b.take N = X := by rw [← HS.out, ← hYr, ← List.append_assoc, ← hX, hN]; exact List.take_left
          have d3 : ∀ F w, Q.O w r F (.ok r2) → Calls Try.prog 35 #[ptr r] w (Ost Q.O w r F (.int .i64 0) (.ok r2)) := fun F w h => Q.err r F (.ok r2) w h
          have q2 : ∀ F w, Q.O w r F (.ok r2) → Calls Try.prog 33 #[ptr r] w (Ost Q.O w r F (.int .i64 (R2 : Int)) (.ok r2)) := fun F w h => by
            rw [hR2']; exact Q.left r F (.ok r2) (by show r2.length ≤ _; omega) w h
          have cw := fun a w G hI hW => write_gen P (some ⟨a, 0, none⟩) 1 1 [y] (Lib.hid rfl) (by omega) p G l1 (Lib.hid (by rw [hyl, ← hX, hXN]; omega)) (Lib.hid (fun k hk => by
            have hk0 : k = 0 := by simp at hk; exact hk
            subst hk0
            simp only [List.getElem_cons_zero]
            exact hys)) w hI hW
          rw [hyl, ← hX] at cw
          have cb' : ∀ G w, P.O w p G X → Calls Try.prog 20 #[ptr p] w fun e w' => ∃ A c F', e = .returned (.slice A N c) ∧ Cb w' A X ∧ P.O w' p F' X ∧ Mv w G w' ∧ Nw w G F' := fun G w h => (P.bytes p G X (by omega) w h).mono fun e w' ⟨A, n, c, F', q1, q2, q3, q4, q5, q6, q7, q8⟩ => by
            obtain rfl : n = N := by omega
            exact ⟨A, c, F', q1, q2, q6, q7, q8⟩
          have pre := pre_any A L cb N b (by omega)
          have hs := pre.1
          have hcv : ∀ W A c, Cb W A X → (convert 38 9 (.slice A N c)).run Try.prog W = .ok (.string ⟨X.toArray⟩) W := fun W A c h => conv_any W A N c X hN.symm h
          have hsv : ∀ W, Below w.heap.size w W → (convert 38 9 (.slice A N cb)).run Try.prog W = .ok (.string ⟨X.toArray⟩) W := fun W h => hcv W A cb (by rw [← hXb]; exact pre.2 W (hC.below h))
          have HQ : Hid (X ++ r2 = b) := Lib.hid (by rw [hX, List.append_assoc, hYr]; exact HS.out)
          clear hYr hrl2 hLN hX hN hR2' hXN hXb pre HS hl1 hrl hyl hys
          go_upto_region 23 with (first
            | (go_at_call 35; (refine (d3 _ _ B6.d.q).mono ?_); rintro e' w7 ⟨rfl, F7, O7, M7, N7⟩; have B7 := B6.s1 O7 M7 N7; have c0 := B7.r5.c0; have c1 := B7.r5.c1; have c2 := B7.r5.c2; have c3 := B7.r5.c3; have c4 := B7.r5.c4)
            | (go_at_call 15; (refine (cw _ _ _ (B7.row _ hy) (B7.on (below_al _ _)).d.p).mono ?_); rintro e' w9 ⟨rfl, G9, O9, M9, N9⟩; have B9 := (B7.on (below_al _ _)).s2 O9 M9 N9)
            | (go_at_call 33; (refine (q2 _ _ B9.d.q).mono ?_); rintro e' w10 ⟨rfl, F10, O10, M10, N10⟩; have B10 := B9.s1 O10 M10 N10))
          have D11 : Duo Q.O P.O w w10.drew r F10 p G9 (.ok r2) X := B10.d.drawn (kpr Q) (kpw P) ⟨1, rfl⟩
          have v0 := hsv _ D11.b
          clear c0 c1 c2 c3 c4 O9 M9 N9 O10 M10 N10 O7 M7 N7 B6 B7 B9 B10 cw d3 q2
          have g1 : decide ((N : Int) < 0) = false := decide_eq_false (by omega)
          have g2 : decide ((L : Int) < (N : Int)) = false := decide_eq_false (by omega)
          have g3 : decide (L < N) = false := decide_eq_false (by omega)
          go_region_held_law (fun w' => (convert 38 9 (.slice A N cb)).run Try.prog w' = .ok (.string ⟨X.toArray⟩) w') (first | exact v0 | exact v1)
            (first
              | (go_at_call 20; (with_reducible refine (cb' _ _ D11.p).mono ?_); rintro e' w11 ⟨A5, c5, G11, rfl, C5, O11, M11, N11⟩; have D12 := D11.s2 (kpr Q) O11 M11 N11; have v1 := hsv _ D12.b; have v2 := hcv w11 A5 c5 C5)
              | fail)
          all_goals
            go_wp2_with fail
            go_roundw
            case rel => exact ⟨k + 1, F10, G11, r2, X, by omega, by go_num, HQ, Lib.hid D12⟩
            case measure => simp [intOf]; omega
      have t4 : (x.kind == 2) = false := by simpa using k2
      by_cases k3 : x.kind = 3
      · have t5 : (x.kind == 3) = true := by simpa using k3
        obtain ⟨V, T2, hv⟩ : ∃ V T2, rT x.most (.ok rem) = (V, T2) := ⟨_, _, rfl⟩
        have q1 := fun F w h => Q.text x.most h3.1 h3.2 r F (.ok rem) (by show rem.length ≤ _; omega) w h
        rw [hv] at q1
        have hVr := rT_len x.most (.ok rem)
        rw [hv] at hVr
        simp only at hVr
        have hVl : V.length ≤ 20000 := Nat.le_trans hVr hrl
        have hVs : (⟨V.toArray⟩ : ByteArray).size = V.length := by show V.toArray.size = _; simp
        have hy : (It.mk x.kind 0 0 ⟨V.toArray⟩ none [] 0).ok := ⟨h2, zin, by show 0 < A64; decide, fun _ h => absurd h (by simp), by simp, by show (⟨V.toArray⟩ : ByteArray).size ≤ _; rw [hVs]; omega, fun _ => rfl⟩
        have HY : ∀ r2, T2 = .ok r2 → wXs [It.mk x.kind 0 0 ⟨V.toArray⟩ none [] 0] ++ r2 = rem := fun r2 e => by
          have h : wXs [It.mk x.kind 0 0 ⟨V.toArray⟩ none [] 0] = wT V := by
            show wX (It.mk x.kind 0 0 ⟨V.toArray⟩ none [] 0) ++ [] = _
            rw [List.append_nil]; unfold wX; rw [if_neg k1, if_neg k2, if_pos k3]
          rw [h]; exact wT_rT (by rw [hv, e])
        have HZ : ∀ e, T2 = .bad e → e ≠ 0 := fun e h => nz_T (by rw [hv, h])
        have hys : Small (It.mk x.kind 0 0 ⟨V.toArray⟩ none [] 0) := ⟨by show (⟨V.toArray⟩ : ByteArray).size ≤ _; rw [hVs]; omega, Nat.zero_le _⟩
        have hm4 := HX.out _ B4.d.b
        clear k1 k2 k3 hv hVr hVl hVs
        go_upto_region 19 with (go_at_call 28; ((refine (q1 _ _ B4.d.q).mono ?_); rintro e w5 ⟨rfl, F5, O5, M5, N5⟩; have B5 := B4.s1 O5 M5 N5; have B6 := B5.put 3 (.string ⟨V.toArray⟩) (It.mk x.kind 0 0 ⟨V.toArray⟩ none [] 0) (r5_set3 B5.r5 ⟨V.toArray⟩) (fun h => absurd h (Nat.lt_irrefl _)) (fun h => absurd h (Nat.lt_irrefl _)) (fun h => absurd h (Nat.lt_irrefl _)); have f5 := r5_free B5.r5 3; have k5 := B5.r5.c3; simp only at k5))
        generalize hw6 : w5.setCell ⟨g, 3, none⟩ (.string ⟨V.toArray⟩) = w6 at *
        clear hw6 f5 k5 hm4 B5 B4 O5 M5 N5 k0 q1
        obtain ⟨y, hyy⟩ : ∃ y, y = It.mk x.kind 0 0 ⟨V.toArray⟩ none [] 0 := ⟨_, rfl⟩
        rw [← hyy] at B6 HY hy hys
        clear hyy
        generalize hyl : wXs [y] = Y at *
        cases T2 with
        | bad e =>
          have he := HZ e rfl
          have d3 : ∀ F w, Q.O w r F (.bad e) → Calls Try.prog 35 #[ptr r] w (Ost Q.O w r F (.int .i64 (e : Int)) (.bad e)) := fun F w h => Q.err r F (.bad e) w h
          have e1 : ((e : Int) != 0) = true := by simp; omega
          have e2 : (0 : Int) ≤ (R : Int) := by omega
          go_wp2_with (first
            | (go_at_call 35; (refine (d3 _ _ B6.d.q).mono ?_); rintro e' w7 ⟨rfl, F7, O7, M7, N7⟩; have B7 := B6.s1 O7 M7 N7)
            | (go_at_call 12; (refine (awake_any P Q H _).mono ?_); rintro e' w8 ⟨rfl, B8⟩))
          go_ret
          exact ⟨rfl, below_on B7.d.b B8⟩
        | ok r2 =>
          have hYr := HY r2 rfl
          clear HY HZ
          have hrl2 : Y.length + r2.length = rem.length := by rw [← hYr, List.length_append]
          have hLN : l1.length + rem.length = L := by
            have := congrArg List.length HS.out
            rw [List.length_append, ← HL.out] at this; exact this
          obtain ⟨X, hX⟩ : ∃ X, X = l1 ++ Y := ⟨_, rfl⟩
          obtain ⟨N, hN⟩ : ∃ N, N = X.length := ⟨_, rfl⟩
          obtain ⟨R2, hR2'⟩ : ∃ R2, R2 = r2.length := ⟨_, rfl⟩
          have hXN : X.length = l1.length + Y.length := by rw [hX, List.length_append]
          have e1 : (L : Int) - (R2 : Int) = (N : Int) := by omega
          have e2 : ¬ (N : Int) < 0 := by omega
          have e3 : ¬ (L : Int) < (N : Int) := by omega
          have hNL : N ≤ L := by omega
          have hR3 : R2 ≤ 20000 := by omega
          have hXb : b.take N = X := by rw [← HS.out, ← hYr, ← List.append_assoc, ← hX, hN]; exact List.take_left
          have d3 : ∀ F w, Q.O w r F (.ok r2) → Calls Try.prog 35 #[ptr r] w (Ost Q.O w r F (.int .i64 0) (.ok r2)) := fun F w h => Q.err r F (.ok r2) w h
          have q2 : ∀ F w, Q.O w r F (.ok r2) → Calls Try.prog 33 #[ptr r] w (Ost Q.O w r F (.int .i64 (R2 : Int)) (.ok r2)) := fun F w h => by
            rw [hR2']; exact Q.left r F (.ok r2) (by show r2.length ≤ _; omega) w h
          have cw := fun a w G hI hW => write_gen P (some ⟨a, 0, none⟩) 1 1 [y] (Lib.hid rfl) (by omega) p G l1 (Lib.hid (by rw [hyl, ← hX, hXN]; omega)) (Lib.hid (fun k hk => by
            have hk0 : k = 0 := by simp at hk; exact hk
            subst hk0
            simp only [List.getElem_cons_zero]
            exact hys)) w hI hW
          rw [hyl, ← hX] at cw
          have cb' : ∀ G w, P.O w p G X → Calls Try.prog 20 #[ptr p] w fun e w' => ∃ A c F', e = .returned (.slice A N c) ∧ Cb w' A X ∧ P.O w' p F' X ∧ Mv w G w' ∧ Nw w G F' := fun G w h => (P.bytes p G X (by omega) w h).mono fun e w' ⟨A, n, c, F', q1, q2, q3, q4, q5, q6, q7, q8⟩ => by
            obtain rfl : n = N := by omega
            exact ⟨A, c, F', q1, q2, q6, q7, q8⟩
          have pre := pre_any A L cb N b (by omega)
          have hs := pre.1
          have hcv : ∀ W A c, Cb W A X → (convert 38 9 (.slice A N c)).run Try.prog W = .ok (.string ⟨X.toArray⟩) W := fun W A c h => conv_any W A N c X hN.symm h
          have hsv : ∀ W, Below w.heap.size w W → (convert 38 9 (.slice A N cb)).run Try.prog W = .ok (.string ⟨X.toArray⟩) W := fun W h => hcv W A cb (by rw [← hXb]; exact pre.2 W (hC.below h))
          have HQ : Hid (X ++ r2 = b) := Lib.hid (by rw [hX, List.append_assoc, hYr]; exact HS.out)
          clear hYr hrl2 hLN hX hN hR2' hXN hXb pre HS hl1 hrl hyl hys
          go_upto_region 23 with (first
            | (go_at_call 35; (refine (d3 _ _ B6.d.q).mono ?_); rintro e' w7 ⟨rfl, F7, O7, M7, N7⟩; have B7 := B6.s1 O7 M7 N7; have c0 := B7.r5.c0; have c1 := B7.r5.c1; have c2 := B7.r5.c2; have c3 := B7.r5.c3; have c4 := B7.r5.c4)
            | (go_at_call 15; (refine (cw _ _ _ (B7.row _ hy) (B7.on (below_al _ _)).d.p).mono ?_); rintro e' w9 ⟨rfl, G9, O9, M9, N9⟩; have B9 := (B7.on (below_al _ _)).s2 O9 M9 N9)
            | (go_at_call 33; (refine (q2 _ _ B9.d.q).mono ?_); rintro e' w10 ⟨rfl, F10, O10, M10, N10⟩; have B10 := B9.s1 O10 M10 N10))
          have D11 : Duo Q.O P.O w w10.drew r F10 p G9 (.ok r2) X := B10.d.drawn (kpr Q) (kpw P) ⟨1, rfl⟩
          have v0 := hsv _ D11.b
          clear c0 c1 c2 c3 c4 O9 M9 N9 O10 M10 N10 O7 M7 N7 B6 B7 B9 B10 cw d3 q2
          have g1 : decide ((N : Int) < 0) = false := decide_eq_false (by omega)
          have g2 : decide ((L : Int) < (N : Int)) = false := decide_eq_false (by omega)
          have g3 : decide (L < N) = false := decide_eq_false (by omega)
          go_region_held_law (fun w' => (convert 38 9 (.slice A N cb)).run Try.prog w' = .ok (.string ⟨X.toArray⟩) w') (first | exact v0 | exact v1)
            (first
              | (go_at_call 20; (with_reducible refine (cb' _ _ D11.p).mono ?_); rintro e' w11 ⟨A5, c5, G11, rfl, C5, O11, M11, N11⟩; have D12 := D11.s2 (kpr Q) O11 M11 N11; have v1 := hsv _ D12.b; have v2 := hcv w11 A5 c5 C5)
              | fail)
          all_goals
            go_wp2_with fail
            go_roundw
            case rel => exact ⟨k + 1, F10, G11, r2, X, by omega, by go_num, HQ, Lib.hid D12⟩
            case measure => simp [intOf]; omega
      have t5 : (x.kind == 3) = false := by simpa using k3
      obtain ⟨V, T2, hv⟩ : ∃ V T2, rL x.most (.ok rem) = (V, T2) := ⟨_, _, rfl⟩
      have q1 := fun F w h => Q.ints x.most h3.1 h3.2 r F (.ok rem) (by show rem.length ≤ _; omega) w h
      rw [hv] at q1
      have hVr := rL_len x.most (.ok rem)
      rw [hv] at hVr
      simp only at hVr
      have hVl : V.length ≤ 20000 := Nat.le_trans hVr hrl
      have hfit := fit_L x.most (.ok rem)
      rw [hv] at hfit
      simp only at hfit
      have HY : ∀ A5 c5 r2, T2 = .ok r2 → wXs [It.mk x.kind 0 0 ⟨#[]⟩ A5 V c5] ++ r2 = rem := fun A5 c5 r2 e => by
        have h : wXs [It.mk x.kind 0 0 ⟨#[]⟩ A5 V c5] = wL V := by
          show wX (It.mk x.kind 0 0 ⟨#[]⟩ A5 V c5) ++ [] = _
          rw [List.append_nil]; unfold wX; rw [if_neg k1, if_neg k2, if_neg k3]
        rw [h]; exact wL_rL (by rw [hv, e])
      have HZ : ∀ e, T2 = .bad e → e ≠ 0 := fun e h => nz_L (by rw [hv, h])
      have hm4 := HX.out _ B4.d.b
      clear k1 k2 k3 hv hVr
      go_upto_region 19 with (go_at_call 31; ((refine (q1 _ _ B4.d.q).mono ?_); rintro e w5 ⟨A5, n5, c5, F5, rfl, C5, l5, hc5, hn5, hA5, O5, M5, N5⟩; have B5 := B4.s1 O5 M5 N5; have hg4 := B4.r5.lt; have hG4 := P.lt B4.d.p; subst l5; have B6 := B5.put 4 (.slice A5 V.length c5) (It.mk x.kind 0 0 ⟨#[]⟩ A5 V c5) (r5_set4 B5.r5 A5 V c5) (Ci.mv (F := [g]) C5 (mv_set w5 g 4 _ [g] (by simp)) (fun hp b off e => by have := (hn5 hp b off e).1; simp; omega)) (fun hp b off e => (hn5 hp b off e).2) (fun hp b off e hg => by have := (hn5 hp b off e).1; have := hG4 b hg; omega); have f5 := r5_free B5.r5 4; have k5 := B5.r5.c4; simp only at k5))
      have hy : (It.mk x.kind 0 0 ⟨#[]⟩ A5 V c5).ok := ⟨h2, zin, by show 0 < A64; decide, hfit, hc5, Nat.zero_le _, hA5⟩
      have hys : Small (It.mk x.kind 0 0 ⟨#[]⟩ A5 V c5) := ⟨Nat.zero_le _, by show V.length ≤ _; omega⟩
      have HY := HY A5 c5
      generalize hw6 : w5.setCell ⟨g, 4, none⟩ (.slice A5 V.length c5) = w6 at *
      clear hw6 f5 k5 hm4 hg4 hG4 hc5 hn5 hA5 C5 hfit B5 B4 O5 M5 N5 k0 q1
      obtain ⟨y, hyy⟩ : ∃ y, y = It.mk x.kind 0 0 ⟨#[]⟩ A5 V c5 := ⟨_, rfl⟩
      rw [← hyy] at B6 HY hy hys
      clear hyy
      generalize hyl : wXs [y] = Y at *
      cases T2 with
      | bad e =>
        have he := HZ e rfl
        have d3 : ∀ F w, Q.O w r F (.bad e) → Calls Try.prog 35 #[ptr r] w (Ost Q.O w r F (.int .i64 (e : Int)) (.bad e)) := fun F w h => Q.err r F (.bad e) w h
        have e1 : ((e : Int) != 0) = true := by simp; omega
        have e2 : (0 : Int) ≤ (R : Int) := by omega
        go_wp2_with (first
          | (go_at_call 35; (refine (d3 _ _ B6.d.q).mono ?_); rintro e' w7 ⟨rfl, F7, O7, M7, N7⟩; have B7 := B6.s1 O7 M7 N7)
          | (go_at_call 12; (refine (awake_any P Q H _).mono ?_); rintro e' w8 ⟨rfl, B8⟩))
        go_ret
        exact ⟨rfl, below_on B7.d.b B8⟩
      | ok r2 =>
        have hYr := HY r2 rfl
        clear HY HZ
        have hrl2 : Y.length + r2.length = rem.length := by rw [← hYr, List.length_append]
        have hLN : l1.length + rem.length = L := by
          have := congrArg List.length HS.out
          rw [List.length_append, ← HL.out] at this; exact this
        obtain ⟨X, hX⟩ : ∃ X, X = l1 ++ Y := ⟨_, rfl⟩
        obtain ⟨N, hN⟩ : ∃ N, N = X.length := ⟨_, rfl⟩
        obtain ⟨R2, hR2'⟩ : ∃ R2, R2 = r2.length := ⟨_, rfl⟩
        have hXN : X.length = l1.length + Y.length := by rw [hX, List.length_append]
        have e1 : (L : Int) - (R2 : Int) = (N : Int) := by omega
        have e2 : ¬ (N : Int) < 0 := by omega
        have e3 : ¬ (L : Int) < (N : Int) := by omega
        have hNL : N ≤ L := by omega
        have hR3 : R2 ≤ 20000 := by omega
        have hXb : b.take N = X := by rw [← HS.out, ← hYr, ← List.append_assoc, ← hX, hN]; exact List.take_left
        have d3 : ∀ F w, Q.O w r F (.ok r2) → Calls Try.prog 35 #[ptr r] w (Ost Q.O w r F (.int .i64 0) (.ok r2)) := fun F w h => Q.err r F (.ok r2) w h
        have q2 : ∀ F w, Q.O w r F (.ok r2) → Calls Try.prog 33 #[ptr r] w (Ost Q.O w r F (.int .i64 (R2 : Int)) (.ok r2)) := fun F w h => by
          rw [hR2']; exact Q.left r F (.ok r2) (by show r2.length ≤ _; omega) w h
        have cw := fun a w G hI hW => write_gen P (some ⟨a, 0, none⟩) 1 1 [y] (Lib.hid rfl) (by omega) p G l1 (Lib.hid (by rw [hyl, ← hX, hXN]; omega)) (Lib.hid (fun k hk => by
          have hk0 : k = 0 := by simp at hk; exact hk
          subst hk0
          simp only [List.getElem_cons_zero]
          exact hys)) w hI hW
        rw [hyl, ← hX] at cw
        have cb' : ∀ G w, P.O w p G X → Calls Try.prog 20 #[ptr p] w fun e w' => ∃ A c F', e = .returned (.slice A N c) ∧ Cb w' A X ∧ P.O w' p F' X ∧ Mv w G w' ∧ Nw w G F' := fun G w h => (P.bytes p G X (by omega) w h).mono fun e w' ⟨A, n, c, F', q1, q2, q3, q4, q5, q6, q7, q8⟩ => by
          obtain rfl : n = N := by omega
          exact ⟨A, c, F', q1, q2, q6, q7, q8⟩
        have pre := pre_any A L cb N b (by omega)
        have hs := pre.1
        have hcv : ∀ W A c, Cb W A X → (convert 38 9 (.slice A N c)).run Try.prog W = .ok (.string ⟨X.toArray⟩) W := fun W A c h => conv_any W A N c X hN.symm h
        have hsv : ∀ W, Below w.heap.size w W → (convert 38 9 (.slice A N cb)).run Try.prog W = .ok (.string ⟨X.toArray⟩) W := fun W h => hcv W A cb (by rw [← hXb]; exact pre.2 W (hC.below h))
        have HQ : Hid (X ++ r2 = b) := Lib.hid (by rw [hX, List.append_assoc, hYr]; exact HS.out)
        clear hYr hrl2 hLN hX hN hR2' hXN hXb pre HS hl1 hrl hyl hys
        go_upto_region 23 with (first
          | (go_at_call 35; (refine (d3 _ _ B6.d.q).mono ?_); rintro e' w7 ⟨rfl, F7, O7, M7, N7⟩; have B7 := B6.s1 O7 M7 N7; have c0 := B7.r5.c0; have c1 := B7.r5.c1; have c2 := B7.r5.c2; have c3 := B7.r5.c3; have c4 := B7.r5.c4)
          | (go_at_call 15; (refine (cw _ _ _ (B7.row _ hy) (B7.on (below_al _ _)).d.p).mono ?_); rintro e' w9 ⟨rfl, G9, O9, M9, N9⟩; have B9 := (B7.on (below_al _ _)).s2 O9 M9 N9)
          | (go_at_call 33; (refine (q2 _ _ B9.d.q).mono ?_); rintro e' w10 ⟨rfl, F10, O10, M10, N10⟩; have B10 := B9.s1 O10 M10 N10))
        have D11 : Duo Q.O P.O w w10.drew r F10 p G9 (.ok r2) X := B10.d.drawn (kpr Q) (kpw P) ⟨1, rfl⟩
        have v0 := hsv _ D11.b
        clear c0 c1 c2 c3 c4 O9 M9 N9 O10 M10 N10 O7 M7 N7 B6 B7 B9 B10 cw d3 q2
        have g1 : decide ((N : Int) < 0) = false := decide_eq_false (by omega)
        have g2 : decide ((L : Int) < (N : Int)) = false := decide_eq_false (by omega)
        have g3 : decide (L < N) = false := decide_eq_false (by omega)
        go_region_held_law (fun w' => (convert 38 9 (.slice A N cb)).run Try.prog w' = .ok (.string ⟨X.toArray⟩) w') (first | exact v0 | exact v1)
          (first
            | (go_at_call 20; (with_reducible refine (cb' _ _ D11.p).mono ?_); rintro e' w11 ⟨A5, c5, G11, rfl, C5, O11, M11, N11⟩; have D12 := D11.s2 (kpr Q) O11 M11 N11; have v1 := hsv _ D12.b; have v2 := hcv w11 A5 c5 C5)
            | fail)
        all_goals
          go_wp2_with fail
          go_roundw
          case rel => exact ⟨k + 1, F10, G11, r2, X, by omega, by go_num, HQ, Lib.hid D12⟩
          case measure => simp [intOf]; omega
    · obtain rfl : k = n := by omega
      have D0 := D.out
      go_wp2_with (go_at_call 12; (refine (awake_any P Q H _).mono ?_); rintro e w6 ⟨rfl, B6⟩)
      go_ret
      exact ⟨rfl, below_on D0.b B6⟩
theorem once (P : PWr) (Q : PRd) (H : PFr) (A : Option Addr) (m cb : Nat) (b : List UInt8) (B : Option Addr) (n c : Nat) (xs : List Ak) (hm : b.length = m) (hM : m ≤ 9223372036854775807) (hc : m ≤ cb) (hA : A = none → cb = 0) (hn : Hid (xs.length = n)) (hN : n ≤ 9223372036854775807) (w : World) (hC : Cb w A b) (hI : Aks w B xs) :
    Calls Try.prog 6 #[.slice A m cb, .slice B n c] w fun e w' => e = .returned (.bool true) ∧ Below w.heap.size w w' := by
  by_cases h : m ≤ 20000
  · by_cases h2 : n ≤ 200
    · subst hm
      exact once_in P Q H A cb b B n c xs h hc hA hn h2 w hC hI
    · have t1 : ¬ (20000 : Int) < (m : Int) := by omega
      have t2 : (200 : Int) < (n : Int) := by omega
      clear hm hc h h2
      go_enter Try.func6, Try.ntmps6
      go_wp2_with (go_at_call 12; (refine (awake_any P Q H _).mono ?_); rintro e w6 ⟨rfl, B6⟩)
      go_ret
      exact ⟨rfl, B6⟩
  · have t1 : (20000 : Int) < (m : Int) := by omega
    clear hm hc h
    go_enter Try.func6, Try.ntmps6
    go_wp2_with (go_at_call 12; (refine (awake_any P Q H _).mono ?_); rintro e w6 ⟨rfl, B6⟩)
    go_ret
    exact ⟨rfl, B6⟩
end Go.Proofs.Ytpmmddemeiljjaa.wrOn

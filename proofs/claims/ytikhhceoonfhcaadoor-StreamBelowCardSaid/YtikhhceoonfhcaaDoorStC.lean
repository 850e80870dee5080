/-
  Contracts of the program's numbers and of the step that it returns.
-/
import Derived.Test.YtikhhceoonfhcaaDoorStB
import Derived.Deep.RegionHeld3
namespace Go.Proofs.YtikhhceoonfhcaaDoor.stC
open Go.RowKit
open Go.Proofs.YtikhhceoonfhcaaDoor.dgM Go.Proofs.YtikhhceoonfhcaaDoor.dgA Go.Proofs.YtikhhceoonfhcaaDoor.dgB Go.Proofs.YtikhhceoonfhcaaDoor.stM Go.Proofs.YtikhhceoonfhcaaDoor.stA Go.Proofs.YtikhhceoonfhcaaDoor.stB
set_option linter.unusedVariables false

/-- what the step holds: the choice, the slice, the row -/
structure Hold (w : World) (p bc bl G n : Nat) (L : List Int) : Prop where
  c : R1 w bc (.func (.func 18) #[.pointer (some ⟨p, 0, none⟩)] #[])
  l : R1 w bl (.slice (some ⟨G, 0, none⟩) n n)
  r : Row w G L
  len : L.length = n
  n1 : p ≠ bc
  n2 : p ≠ bl
  n3 : p ≠ G
  n4 : G ≠ bc
  n5 : G ≠ bl
theorem Hold.mv {w w' : World} {p bc bl G n : Nat} {L : List Int} (h : Hold w p bc bl G n L) (hm : Mv w [p] w') : Hold w' p bc bl G n L :=
  ⟨r1_mv h.c hm (by simpa using Ne.symm h.n1), r1_mv h.l hm (by simpa using Ne.symm h.n2), row_mv h.r hm (by simpa using Ne.symm h.n3), h.len, h.n1, h.n2, h.n3, h.n4, h.n5⟩
/-- the step where the choice fails -/
theorem exch_bad (i s e m : Nat) (he : s + m = e) (h0 : 0 < m) (h1 : m ≤ 2147483648) (p a k V E k' : Nat) (ha : a < A64) (hV : Hid (bl a m k = (V, E, k'))) (hE : E ≠ 0) (bc bl G n : Nat) (L : List Int) (w : World) (hL : Lv w p a k) (hH : Hold w p bc bl G n L) (hi : (i : Int) ≤ 9223372036854775807) (hes : e ≤ 2147483648) :
    Calls Tryd.prog 34 #[.int .i64 (i : Int), .int .i64 (s : Int), .int .i64 (e : Int), .pointer (some ⟨bc, 0, none⟩), .pointer (some ⟨bl, 0, none⟩)] w (Nst w p a k' (.int .i64 (E : Int))) := by
  have cb := fun w h => below_any m h0 h1 p a k V E k' ha hV w h
  have k0 := r1_c0 hH.c
  have t : ((E : Int) != 0) = true := by simp; omega
  have e1 : (e : Int) - (s : Int) = (m : Int) := by omega
  clear hV hH
  go_enter Tryd.func34, Tryd.ntmps34
  go_wp2_with (go_at_call 18; (refine (cb _ hL).mono ?_); rintro e w1 ⟨rfl, L1, M1⟩)
  go_ret
  exact ⟨rfl, L1, M1⟩
/-- the step where the choice succeeds -/
def Xst (w : World) (p a k bc bl G n : Nat) (L : List Int) (e : Ending) (w' : World) : Prop :=
  e = .returned (.int .i64 0) ∧ Lv w' p a k ∧ Hold w' p bc bl G n L ∧ Mv w [p, G] w'
theorem hold_set {w : World} {p bc bl G n : Nat} {L : List Int} (h : Hold w p bc bl G n L) (j : Nat) (x : Int) : Hold (w.setCell ⟨G, j, none⟩ (.int .i64 x)) p bc bl G n (L.set j x) :=
  have hm : Mv w [G] (w.setCell ⟨G, j, none⟩ (.int .i64 x)) := (Mv.refl w _).set (.inl (by simp)) _ _
  ⟨r1_mv h.c hm (by simpa using Ne.symm h.n4), r1_mv h.l hm (by simpa using Ne.symm h.n5), row_set h.r _ _, by rw [List.length_set]; exact h.len, h.n1, h.n2, h.n3, h.n4, h.n5⟩
set_option maxRecDepth 10000 in
set_option maxHeartbeats 4000000 in
theorem exch_ok (i s e m : Nat) (he : s + m = e) (h0 : 0 < m) (h1 : m ≤ 2147483648) (p a k V k' : Nat) (ha : a < A64) (hV : Hid (bl a m k = (V, 0, k'))) (bc bl G n : Nat) (L : List Int) (w : World) (hL : Lv w p a k) (hH : Hold w p bc bl G n L) (hi : i < n) (hes : e ≤ n) (hn : n ≤ 2147483648) (hg : G ≠ 0) :
    Calls Tryd.prog 34 #[.int .i64 (i : Int), .int .i64 (s : Int), .int .i64 (e : Int), .pointer (some ⟨bc, 0, none⟩), .pointer (some ⟨bl, 0, none⟩)] w (Xst w p a k' bc bl G n (sw L i (s + V))) := by
  have cb := fun w h => below_any m h0 h1 p a k V 0 k' ha hV w h
  have hVm : V < m := by
    have := (bl_bl a).lt m k h0
    rw [hV.out] at this
    exact this
  have k0 := r1_c0 hH.c
  have e1 : (e : Int) - (s : Int) = (m : Int) := by omega
  have e2 : (s : Int) + (V : Int) = ((s + V : Nat) : Int) := by omega
  obtain ⟨j, hj⟩ : ∃ j, j = s + V := ⟨_, rfl⟩
  rw [← hj] at e2 ⊢
  have hjn : j < n := by omega
  clear hV hj he hVm
  go_enter Tryd.func34, Tryd.ntmps34
  go_upto_region 5 with (go_at_call 18; (refine (cb _ hL).mono ?_); rintro e w1 ⟨rfl, L1, M1⟩)
  have H1 := hH.mv M1
  have c0 := r1_c0 H1.l
  have c1 := row_cell H1.r (j := i) (by rw [H1.len]; exact hi)
  have c2 := row_cell H1.r (j := j) (by rw [H1.len]; exact hjn)
  have q1 := row_free H1.r
  have i0 : (0 : Int) ≤ (i : Int) := by omega
  have i1 : (i : Int) < (n : Int) := by omega
  have i2 : (0 : Int) ≤ (j : Int) := by omega
  have i3 : (j : Int) < (n : Int) := by omega
  have c3 := row_cell (row_set H1.r i (iat L j)) (j := j) (by rw [List.length_set, H1.len]; exact hjn)
  have q3 := row_free (row_set H1.r i (iat L j))
  have HF : Hid (∀ d, Xst w p a k' bc bl G n (sw L i j) (.returned (.int .i64 0)) (((w1.setCell ⟨G, i, none⟩ (.int .i64 (iat L j))).setCell ⟨G, j, none⟩ (.int .i64 (iat L i))).drewN d)) := Lib.hid fun d => by
    have m1 : Mv w1 [G] (((w1.setCell ⟨G, i, none⟩ (.int .i64 (iat L j))).setCell ⟨G, j, none⟩ (.int .i64 (iat L i))).drewN d) := (((Mv.refl w1 _).set (.inl (by simp)) _ _).set (.inl (by simp)) _ _).drew d
    have h2 := hold_set (hold_set H1 i (iat L j)) j (iat L i)
    exact ⟨rfl, L1.mv m1 (by simpa using H1.n3) (by simpa using Ne.symm hg), h2.mv (w' := ((w1.setCell ⟨G, i, none⟩ (.int .i64 (iat L j))).setCell ⟨G, j, none⟩ (.int .i64 (iat L i))).drewN d) ((Mv.refl _ _).drew d), (M1.sub (G := [p, G]) (by simp)).on m1 (by simp)⟩
  have n5 := H1.n5
  have n5' := Ne.symm H1.n5
  clear H1 hH cb hL
  generalize iat (L.set i (iat L j)) j = z at *
  generalize sw L i j = L' at *
  generalize iat L i = x at *
  generalize iat L j = y at *
  go_region
  go_wp2_with fail
  go_ret
  exact HF.out _

/-! ### numbers -/
def pre (n i : Nat) : List Int := up i ++ List.replicate (n - i) 0
theorem pre_len {n i : Nat} (h : i ≤ n) : (pre n i).length = n := by simp [pre, up_len]; omega
theorem pre_zero (n : Nat) : pre n 0 = List.replicate n 0 := by simp [pre, up_zero]
theorem pre_all (n : Nat) : pre n n = up n := by simp [pre]
theorem pre_set {n i : Nat} (h : i < n) : (pre n i).set i ((i : Int) + 1) = pre n (i + 1) := by
  unfold pre
  rw [List.set_append_right _ _ (by rw [up_len]; exact Nat.le_refl _), up_len, Nat.sub_self, up_succ, List.append_assoc]
  congr 1
  rw [show n - i = (n - (i + 1)) + 1 by omega, List.replicate_succ]
  rfl
theorem made_row (n : Nat) : madeCells #[.int .i64 0] n = (cI (List.replicate n 0)).toArray := by
  unfold madeCells
  apply Array.ext
  · simp
  · intro i h1 h2
    simp [Nat.mod_one]
theorem infoI : (Tryd.prog.info? 3).map (fun i => (i.zero, i.size, i.bytes)) = some (some (.int .i64 0), 1, 8) := by kernel_rfl
theorem r1_new (w : World) (v : Value) (T : TypeId) : R1 (w.alloc (.cells #[v] T)) w.heap.size v := ⟨T, heap_alloc_new w _⟩
def NumP (w : World) (p n : Nat) (e : Ending) (w' : World) : Prop :=
  ∃ bc bl G, e = .returned (.tuple #[.slice (some ⟨G, 0, none⟩) n n, .func (.func 34) #[] #[.pointer (some ⟨bc, 0, none⟩), .pointer (some ⟨bl, 0, none⟩)]]) ∧ Hold w' p bc bl G n (up n) ∧ w.heap.size ≤ G ∧ Mv w [] w'
set_option maxRecDepth 10000 in
set_option maxHeartbeats 1000000 in
theorem numbers_any (n : Nat) (hn : n ≤ 4096) (p : Nat) (w : World) (hp : p < w.heap.size) :
    Calls Tryd.prog 33 #[.int .i64 (n : Int), .func (.func 18) #[.pointer (some ⟨p, 0, none⟩)] #[]] w (NumP w p n) := by
  have hmk := fun W' => (run_make_row' (P := Tryd.prog) 39 3 (.int .i64 0) 8 Tryd.underlying39 infoI rfl .i64 .i64 n (by omega) (by omega) W')
  rw [made_row] at hmk
  have hmf : ∀ (fn : Fn) (first cap : Array Value) (w : World), (Instr.makeFunc fn first cap).run Tryd.prog w = .ok (.func fn first cap) w := fun _ _ _ _ => rfl
  have hn0 : (0 : Int) ≤ (n : Int) := by omega
  go_enter Tryd.func33, Tryd.ntmps33
  go_wp2_with fail
  obtain ⟨w4, hw4⟩ : ∃ w4, (((w.alloc (Obj.cells #[Value.func (Fn.func 18) #[Value.pointer (some { block := p, off := 0 })] #[]] 62)).alloc (Obj.cells (Array.replicate n (Value.int IntKind.i64 0)) 3)).alloc (Obj.cells #[Value.slice (some { block := w.heap.size + 1, off := 0 }) n n] 39)) = w4 := ⟨_, rfl⟩
  have r1 : R1 w4 w.heap.size (.func (.func 18) #[.pointer (some ⟨p, 0, none⟩)] #[]) := by
    rw [← hw4]
    exact r1_mv (r1_mv (r1_new w _ _) ((Mv.refl _ []).alloc _) (by simp)) ((Mv.refl _ []).alloc _) (by simp)
  have r2 : Row w4 (w.heap.size + 1) (pre n 0) := by
    rw [← hw4, pre_zero]
    have e : (cI (List.replicate n 0)).toArray = Array.replicate n (Value.int IntKind.i64 0) := by simp
    have h := row_new (w.alloc (Obj.cells #[Value.func (Fn.func 18) #[Value.pointer (some { block := p, off := 0 })] #[]] 62)) (List.replicate n 0)
    rw [e] at h
    have h2 := row_mv h ((Mv.refl _ []).alloc (Obj.cells #[Value.slice (some { block := w.heap.size + 1, off := 0 }) n n] 39)) (by simp)
    simpa using h2
  have r3 : R1 w4 (w.heap.size + 1 + 1) (.slice (some ⟨w.heap.size + 1, 0, none⟩) n n) := by
    rw [← hw4]
    have h := r1_new ((w.alloc (Obj.cells #[Value.func (Fn.func 18) #[Value.pointer (some { block := p, off := 0 })] #[]] 62)).alloc (Obj.cells (Array.replicate n (Value.int IntKind.i64 0)) 3)) (.slice (some ⟨w.heap.size + 1, 0, none⟩) n n) 39
    simpa using h
  have HM := Lib.hid (show Mv w [] w4 by rw [← hw4]; exact (((Mv.refl w []).alloc _).alloc _).alloc _)
  have HN := Lib.hid (show w.heap.size ≤ w.heap.size + 1 ∧ p ≠ w.heap.size ∧ p ≠ w.heap.size + 1 + 1 ∧ p ≠ w.heap.size + 1 ∧ w.heap.size + 1 ≠ w.heap.size ∧ w.heap.size + 1 ≠ w.heap.size + 1 + 1 by omega)
  rw [hw4]
  clear hw4 hmk
  obtain ⟨bl, hbl⟩ : ∃ x, w.heap.size + 1 + 1 = x := ⟨_, rfl⟩
  rw [hbl] at r3 HN ⊢
  clear hbl
  obtain ⟨G, hG⟩ : ∃ x, w.heap.size + 1 = x := ⟨_, rfl⟩
  rw [hG] at r2 r3 HN ⊢
  clear hG
  obtain ⟨bc, hbc⟩ : ∃ x, w.heap.size = x := ⟨_, rfl⟩
  have HC := Lib.hid hbc
  rw [hbc] at r1 HN ⊢
  clear hbc hp
  have n5 := HN.out.2.2.2.2.2
  have n5' := Ne.symm n5
  have H1 := Lib.hid r1
  have H3 := Lib.hid r3
  have R0 := Lib.hid r2
  clear r1 r2 r3
  go_loopw [13] (fun s13 wr => ∃ i : Nat, i ≤ n ∧ s13 = .int .i64 (i : Int) ∧ Hid (Row wr G (pre n i)) ∧ Hid (Mv w4 [G] wr)) (fun s13 _ => n - (intOf s13).toNat)
  case atStart => exact ⟨0, by omega, rfl, R0, Lib.hid (Mv.refl _ _)⟩
  case round =>
    obtain ⟨i, hi, rfl, HR, HW⟩ := hrel
    have c0 := r1_c0 (r1_mv H3.out HW.out (by simpa using n5'))
    by_cases hlt : i < n
    · have c1 := row_cell HR.out (j := i) (by rw [pre_len hi]; exact hlt)
      have q1 := row_free HR.out i
      have i0 : (0 : Int) ≤ (i : Int) := by omega
      have i1 : (i : Int) < (n : Int) := by omega
      have hi' : i ≤ 4096 := by omega
      have HS : Hid (Row (wr.setCell ⟨G, i, none⟩ (.int .i64 ((i : Int) + 1))) G (pre n (i + 1)) ∧ Mv w4 [G] (wr.setCell ⟨G, i, none⟩ (.int .i64 ((i : Int) + 1)))) := Lib.hid ⟨by rw [← pre_set hlt]; exact row_set HR.out _ _, HW.out.set (.inl (by simp)) _ _⟩
      generalize iat (pre n i) i = z at *
      go_wp2_with fail
      go_roundw
      case rel => exact ⟨i + 1, by omega, by go_num, Lib.hid HS.out.1, Lib.hid HS.out.2⟩
      case measure => simp [intOf]; omega
    · obtain rfl : i = n := by omega
      go_wp2_with fail
      go_ret2
      have hr := HR.out
      rw [pre_all] at hr
      have hh := HN.out
      have e := HC.out
      exact ⟨bc, bl, G, rfl, ⟨r1_mv H1.out HW.out (by simpa using Ne.symm hh.2.2.2.2.1), r1_mv H3.out HW.out (by simpa using n5'), hr, up_len _, hh.2.1, hh.2.2.1, hh.2.2.2.1, hh.2.2.2.2.1, hh.2.2.2.2.2⟩, by omega, HM.out.on HW.out (fun k hk => by simp at hk; omega)⟩
end Go.Proofs.YtikhhceoonfhcaaDoor.stC

/-
  Contracts of money.Split and of its closure.
-/
import Derived.Test.YtkblcnomjgocmaaDoorMonB
import Derived.Deep.OwnRows
import Derived.Deep.RegionHeld3
import Derived.Deep.CutBlock
import Derived.OneCell
namespace Go.Proofs.YtkblcnomjgocmaaDoor.monC
open Go.RowKit
open Go.Proofs.YtkblcnomjgocmaaDoor.numM Go.Proofs.YtkblcnomjgocmaaDoor.numA Go.Proofs.YtkblcnomjgocmaaDoor.numB Go.Proofs.YtkblcnomjgocmaaDoor.numE Go.Proofs.YtkblcnomjgocmaaDoor.monA Go.Proofs.YtkblcnomjgocmaaDoor.monM Go.Proofs.YtkblcnomjgocmaaDoor.monB
set_option linter.unusedVariables false

/-! ### rows of ints and boxes that the call has made -/
def rowA (zs : List Int) : Array Value := (zs.map (Value.int .i64)).toArray
def RowI (w : World) (g : Nat) (zs : List Int) : Prop := w.heap[g]? = some (.cells (rowA zs) 3 (0, 0))
def Box (w : World) (g : Nat) (v : Value) : Prop := w.heap[g]? = some (.cells #[v] 22 (0, 0))
section
variable {w : World} {g : Nat} {zs : List Int} {v : Value}
theorem RowI.lt (h : RowI w g zs) : g < w.heap.size := lt_of_block h
theorem RowI.cell (h : RowI w g zs) {j : Nat} (hj : j < zs.length) : w.cell? ⟨g, j, none⟩ = some (.int .i64 (at0 zs j)) := by
  rw [cell_of_row w g j _ _ _ h]
  simp [rowA, at0, List.getD, hj]
theorem RowI.frozen (h : RowI w g zs) (j : Nat) : w.frozen? ⟨g, j, none⟩ = false := by
  unfold RowI at h; simp [World.frozen?, h]
theorem RowI.ints (h : RowI w g zs) : Ints w (some ⟨g, 0, none⟩) zs := fun _ => ⟨g, 0, rfl, fun j x hx => by
  rw [Nat.zero_add, h.cell (lt_of_some hx), at0_of hx]⟩
theorem RowI.alloc (h : RowI w g zs) (o : Obj) : RowI (w.alloc o) g zs := (Below.heap_alloc w o g h.lt).trans h
theorem RowI.drewN (h : RowI w g zs) (k : Nat) : RowI (w.drewN k) g zs := h
theorem RowI.far (h : RowI w g zs) {p : Addr} (hp : g ≠ p.block) (u : Value) : RowI (w.setCell p u) g zs := (Below.heap_setCell w p u g hp).trans h
theorem RowI.set_ (h : RowI w g zs) (j : Nat) (x : Int) : RowI (w.setCell ⟨g, j, none⟩ (.int .i64 x)) g (zs.set j x) := by
  unfold RowI at h ⊢
  simp [World.setCell, Array.getElem?_modify, h, rowA, List.map_set]
theorem RowI.new_ (w : World) {g : Nat} (zs : List Int) (hg : g = w.heap.size) : RowI (w.alloc (.cells (rowA zs) 3)) g zs := by subst hg; exact heap_alloc_new w _
theorem Box.new_ (w : World) {g : Nat} (v : Value) (hg : g = w.heap.size) : Box (w.alloc (.cells #[v] 22)) g v := by subst hg; exact heap_alloc_new w _
theorem Box.cell (h : Box w g v) : w.cell? ⟨g, 0, none⟩ = some v := cell_of_one h
theorem Box.alloc (h : Box w g v) (o : Obj) : Box (w.alloc o) g v := (Below.heap_alloc w o g (lt_of_block h)).trans h
theorem Box.drewN (h : Box w g v) (k : Nat) : Box (w.drewN k) g v := h
theorem Box.far (h : Box w g v) {p : Addr} (hp : g ≠ p.block) (u : Value) : Box (w.setCell p u) g v := (Below.heap_setCell w p u g hp).trans h
end
theorem made_row (n : Nat) : madeCells #[.int .i64 0] n = rowA (List.replicate n 0) := by
  unfold madeCells rowA
  apply Array.ext
  · simp
  · intro i h1 h2
    simp [Nat.mod_one]

theorem infoInt : (Tryd.prog.info? 3).map (fun i => (i.zero, i.size, i.bytes)) = some (some (.int .i64 0), 1, 8) := by kernel_rfl

/-! ### the closure -/
set_option maxHeartbeats 1000000 in
theorem give_any (P R bp br n G : Nat) (p r : List Int) (hp : Hid (p.length = n)) (hr : Hid (r.length = n)) (hn : 0 < n) (hN : n ≤ 64) (hG : Hid (G = gr r n)) (hx : 0 ≤ at0 p G ∧ at0 p G ≤ 1000000000000000)
    (w : World) (h1 : RowI w P p) (h2 : RowI w R r) (h3 : Box w bp (.slice (some ⟨P, 0, none⟩) n n)) (h4 : Box w br (.slice (some ⟨R, 0, none⟩) n n)) (hPR : P ≠ R) (hb : P ≠ bp ∧ P ≠ br) :
    Calls Tryd.prog 34 #[.pointer (some ⟨br, 0, none⟩), .pointer (some ⟨bp, 0, none⟩)] w fun e w' => e = .returned (.tuple #[]) ∧
      w' = (w.setCell ⟨P, G, none⟩ (.int .i64 (at0 p G + 1))).setCell ⟨R, G, none⟩ (.int .i64 0) := by
  have hGn : G < n := by rw [hG.out]; exact (gr_lt r n).2 hn
  have cg := fun w (h : Ints w (some ⟨R, 0, none⟩) r) => greatest_any (some ⟨R, 0, none⟩) n n G r hr (by omega) hG w h
  have hI := h2.ints
  have c1 := h1.cell (j := G) (by rw [hp.out]; exact hGn)
  have f1 := h1.frozen G
  have c2 := h2.cell (j := G) (by rw [hr.out]; exact hGn)
  have f2 := h2.frozen G
  have b1 := h3.cell
  have b2 := h4.cell
  obtain ⟨hb1, hb2⟩ := hb
  obtain ⟨x0, x1⟩ := hx
  clear h1 h2 h3 h4
  generalize at0 p G = x at *
  generalize at0 r G = y at *
  go_enter Tryd.func34, Tryd.ntmps34
  go_wp2_with (go_at_call 35; refine (cg _ hI).mono ?_; rintro e w' ⟨rfl, rfl⟩)
  go_end0
  exact ⟨rfl, rfl⟩

/-! ### the rows on the way -/
def pre (n k : Nat) (l : List Int) : List Int := (l.take k) ++ List.replicate (n - k) 0
theorem pre_len {n k : Nat} {l : List Int} (hl : l.length = n) (hk : k ≤ n) : (pre n k l).length = n := by simp [pre]; omega
theorem pre_at {n k : Nat} {l : List Int} (hl : l.length = n) (hk : k ≤ n) (j : Nat) : at0 (pre n k l) j = if j < k then at0 l j else 0 := by
  unfold pre at0 List.getD
  by_cases h : j < k
  · rw [if_pos h, List.getElem?_append_left (by simp; omega), List.getElem?_take_of_lt h]
  · rw [if_neg h, List.getElem?_append_right (by simp; omega)]
    simp only [List.length_take, List.getElem?_replicate]
    split <;> rfl
theorem pre_set {n k : Nat} {l : List Int} (hl : l.length = n) (hk : k < n) : (pre n k l).set k (at0 l k) = pre n (k + 1) l := by
  apply ext0
  · simp [pre_len hl (show k ≤ n by omega), pre_len hl (show k + 1 ≤ n by omega)]
  · intro j _
    rw [at0_set _ _ _ _ (by rw [pre_len hl (by omega)]; exact hk), pre_at hl (by omega), pre_at hl (by omega)]
    by_cases e : j = k
    · subst e; rw [if_pos rfl, if_pos (by omega)]
    · rw [if_neg e]
      by_cases h : j < k
      · rw [if_pos h, if_pos (by omega)]
      · rw [if_neg h, if_neg (by omega)]
theorem pre_zero {n : Nat} {l : List Int} : pre n 0 l = List.replicate n 0 := by simp [pre]
theorem pre_all {n : Nat} {l : List Int} (hl : l.length = n) : pre n n l = l := by simp [pre, ← hl]

theorem md_int {a b c : Int} (ha : 0 ≤ a) (hb : 0 ≤ b) (hc : 0 < c) (hle : a * b / c ≤ 9223372036854775807) : mdE a b c = 0 ∧ mdQ a b c = a * b / c ∧ mdR a b c = a * b % c := by
  have e : mdE a b c = 0 := by unfold mdE; rw [if_neg (by omega), if_neg (by omega), if_pos hle]
  exact ⟨e, by unfold mdQ; rw [if_pos e], by unfold mdR; rw [if_pos e]⟩
theorem share_le {m x W : Int} (hm : 0 ≤ m) (hx : x ≤ W) (hW : 0 < W) : m * x / W ≤ m := by
  have h : m * x ≤ m * W := Int.mul_le_mul_of_nonneg_left hx hm
  have := Int.ediv_le_ediv hW h
  rwa [Int.mul_ediv_cancel _ (by omega)] at this

theorem ints_below {w w1 : World} {A : Option Addr} {zs : List Int} (h : Ints w A zs) (hb : Below w.heap.size w w1) : Ints w1 A zs := fun hp => by
  obtain ⟨b, off, e, hc⟩ := h hp
  exact ⟨b, off, e, fun j x hj => by
    have h1 := hc j x hj
    rw [hb.cell (p := ⟨b, off + j, none⟩) (World.block_lt_of_cell? w _ h1)]; exact h1⟩

theorem bel_drewN {B : Nat} {a w : World} (h : Below B a w) (k : Nat) : Below B a (w.drewN k) := ⟨h.os, h.tape, h.output, h.size, h.block⟩

def SplitPost (zs : List Int) (n : Nat) (w : World) (e : Ending) (w' : World) : Prop :=
  ∃ g, e = .returned (.tuple #[.slice (some ⟨g, 0, none⟩) n n, .int .i64 0]) ∧ RowI w' g zs ∧ w.heap.size ≤ g ∧ Below w.heap.size w w'

set_option maxHeartbeats 4000000 in
theorem split_ok (m : Int) (A : Option Addr) (n c : Nat) (zs : List Int) (hn : Hid (zs.length = n)) (hE : Hid (spE m zs n = 0)) (w : World) (hI : Ints w A zs) :
    Calls Tryd.prog 22 #[.int .i64 m, .slice A n c] w (SplitPost (parts m zs) n w) := by
  obtain ⟨⟨m0, m1⟩, ⟨n1, n64⟩, hw, hav, eW, W0, W1⟩ := sp_inv hn.out hE.out
  obtain ⟨W, hWd⟩ : ∃ W, W = sm zs n := ⟨_, rfl⟩
  have cw := fun w => whole_any m A n c W 0 zs hn (by omega) (Lib.hid (hWd.trans eW.symm)) (Lib.hid hE.out.symm) w
  have HW := Lib.hid hw
  have HD := Lib.hid hWd
  rw [← hWd] at W0 W1
  clear hw hav eW hWd
  have hmk := fun W' => (run_make_row' (P := Tryd.prog) 22 3 (.int .i64 0) 8 Tryd.underlying22 infoInt rfl .i64 .i64 n (by omega) (by omega) W')
  rw [made_row] at hmk
  have hmf : ∀ (fn : Fn) (first cap : Array Value) (w : World), (Instr.makeFunc fn first cap).run Tryd.prog w = .ok (.func fn first cap) w := fun _ _ _ _ => rfl
  go_enter Tryd.func22, Tryd.ntmps22
  go_wp2_with (go_at_call 32; refine (cw _ hI).mono ?_; rintro e w' ⟨rfl, rfl⟩)
  obtain ⟨w4, hw4⟩ : ∃ w4, ((((w.alloc (Obj.cells (rowA (List.replicate n 0)) 3)).alloc (Obj.cells #[Value.slice (some { block := w.heap.size, off := 0 }) n n] 22)).alloc (Obj.cells (rowA (List.replicate n 0)) 3)).alloc (Obj.cells #[Value.slice (some { block := w.heap.size + 1 + 1, off := 0 }) n n] 22)) = w4 := ⟨_, rfl⟩
  have r1 : RowI w4 w.heap.size (pre n 0 (qs m W zs)) := by
    rw [← hw4, pre_zero]; exact RowI.alloc (RowI.alloc (RowI.alloc (RowI.new_ _ _ rfl) _) _) _
  have b1 : Box w4 (w.heap.size + 1) (.slice (some ⟨w.heap.size, 0, none⟩) n n) := by
    rw [← hw4]; exact Box.alloc (Box.alloc (Box.new_ _ _ (by simp)) _) _
  have r2 : RowI w4 (w.heap.size + 1 + 1) (pre n 0 (rs m W zs)) := by
    rw [← hw4, pre_zero]; exact RowI.alloc (RowI.new_ _ _ (by simp)) _
  have b2 : Box w4 (w.heap.size + 1 + 1 + 1) (.slice (some ⟨w.heap.size + 1 + 1, 0, none⟩) n n) := by
    rw [← hw4]; exact Box.new_ _ _ (by simp)
  have bel : Below w.heap.size w w4 := by
    rw [← hw4]; exact ((((Below.refl _ _).alloc (Nat.le_refl _) _).alloc (by simp) _).alloc (by simp; omega) _).alloc (by simp; omega) _
  have HI := Lib.hid hI
  clear hI hmk
  rw [hw4]
  clear hw4
  have HP : Hid (w.heap.size ≤ w.heap.size ∧ w.heap.size ≤ w.heap.size + 1 + 1 ∧ w.heap.size ≠ w.heap.size + 1 + 1 ∧ w.heap.size ≠ w.heap.size + 1 ∧ w.heap.size ≠ w.heap.size + 1 + 1 + 1 ∧ w.heap.size + 1 + 1 ≠ w.heap.size + 1 ∧ w.heap.size + 1 + 1 ≠ w.heap.size + 1 + 1 + 1) := Lib.hid (by omega)
  obtain ⟨br, hbr⟩ : ∃ br, w.heap.size + 1 + 1 + 1 = br := ⟨_, rfl⟩
  rw [hbr] at b2 HP ⊢
  clear hbr
  obtain ⟨R, hR⟩ : ∃ R, w.heap.size + 1 + 1 = R := ⟨_, rfl⟩
  rw [hR] at r2 b2 HP ⊢
  clear hR
  obtain ⟨bp, hbp⟩ : ∃ bp, w.heap.size + 1 = bp := ⟨_, rfl⟩
  rw [hbp] at b1 HP ⊢
  clear hbp
  obtain ⟨P, hP⟩ : ∃ P, w.heap.size = P := ⟨_, rfl⟩
  rw [hP] at r1 b1 HP ⊢
  have HPd := Lib.hid hP
  clear hP
  go_loopw [10, 32] (fun l i wr => ∃ (k : Nat) (s : Int), k ≤ n ∧ i = .int .i64 k ∧ l = .int .i64 s ∧ 0 ≤ s ∧ s ≤ m ∧ Hid (s = m - sm (qs m W zs) k) ∧ RowI wr P (pre n k (qs m W zs)) ∧ RowI wr R (pre n k (rs m W zs)) ∧
      Box wr bp (.slice (some ⟨P, 0, none⟩) n n) ∧ Box wr br (.slice (some ⟨R, 0, none⟩) n n) ∧ Below P w wr) (fun _ i _ => n - (intOf i).toNat)
  case atStart => exact ⟨0, m, by omega, rfl, rfl, by omega, by omega, Lib.hid (by simp [sm]), r1, r2, b1, b2, by rw [← HPd.out]; exact bel⟩
  case round =>
    obtain ⟨k, s, hk, rfl, rfl, s0, s1, hs, r1, r2, b1, b2, bel⟩ := hrel
    by_cases hlt : k < n
    · obtain ⟨ad, off, rfl, hx⟩ := (ints_below HI.out (by rw [HPd.out]; exact bel)).at_ (k := k) (by rw [hn.out]; exact hlt)
      obtain ⟨x0, x1⟩ := HW.out k
      have x2 : at0 zs k ≤ W := by rw [HD.out]; exact sm_ge_one (fun j => (HW.out j).1) hlt
      have q1 := share_le m0 x2 W0
      have q0 : 0 ≤ m * at0 zs k / W := Int.ediv_nonneg (Int.mul_nonneg m0 x0) (by omega)
      obtain ⟨e1, e2, e3⟩ := md_int (c := W) m0 x0 W0 (by omega)
      have cd := fun w => (md_any m (at0 zs k) W (by omega) (by omega) (by omega) (by omega) (by omega) (by omega) w).1
      rw [e1, e2, e3] at cd
      have eq := qs_at m W zs k
      have er := rs_at m W zs k
      have lq := qs_len m W zs
      have lr := rs_len m W zs
      rw [hn.out] at lq lr
      have sq := pre_set (n := n) (k := k) lq hlt
      have sr := pre_set (n := n) (k := k) lr hlt
      rw [eq] at sq
      rw [er] at sr
      have hb := left_bd m0 (fun j => (HW.out j).1) (show 0 < sm zs n by rw [← HD.out]; exact W0) (k + 1) (by omega)
      rw [← HD.out, sm, eq] at hb
      have hs2 : Hid (s - m * at0 zs k / W = m - sm (qs m W zs) (k + 1)) := Lib.hid (by rw [sm, eq, hs.out]; omega)
      have s2 : m * at0 zs k / W ≤ s := by have := hs.out; omega
      have cP := r1.cell (j := k) (by rw [pre_len lq (by omega)]; exact hlt)
      have fP := r1.frozen k
      have cR := r2.cell (j := k) (by rw [pre_len lr (by omega)]; exact hlt)
      have fR := r2.frozen k
      have cbp := b1.cell
      have cbr := b2.cell
      have SQ := Lib.hid sq
      have SR := Lib.hid sr
      have HB := Lib.hid bel
      have H1 := Lib.hid r1
      have H2 := Lib.hid r2
      have H3 := Lib.hid b1
      have H4 := Lib.hid b2
      have i0 : (0 : Int) ≤ (k : Int) := by omega
      have i1 : (k : Int) < (n : Int) := by omega
      obtain ⟨p1, p2, p3, p4, p5, p6, p7⟩ := HP.out
      have p3' : R ≠ P := Ne.symm p3
      clear sq sr bel r1 r2 b1 b2 eq er lq lr hb e1 e2 e3 HP p1
      generalize at0 (pre n k (qs m W zs)) k = yp at *
      generalize at0 (pre n k (rs m W zs)) k = yr at *
      generalize m * at0 zs k / W = Q at *
      generalize m * at0 zs k % W = T at *
      generalize at0 zs k = x at *
      go_wp2_with fail
      go_region_held3 (fun w' => w'.cell? ⟨bp, 0, none⟩ = some (.slice (some ⟨P, 0, none⟩) n n) ∧ w'.cell? ⟨br, 0, none⟩ = some (.slice (some ⟨R, 0, none⟩) n n)) (go_keep)
        (first | (go_at_call 33; refine (cd _).mono ?_; rintro e w' ⟨rfl, kk, rfl⟩))
      go_wp2
      go_roundw
      case rel =>
        refine ⟨k + 1, s - Q, by omega, by go_num, rfl, by omega, by omega, hs2, ?_, ?_, ?_, ?_, ?_⟩
        · rw [← SQ.out]; exact ((H1.out.drewN _).set_ _ _).far p3 _
        · rw [← SR.out]; exact ((H2.out.drewN _).far p3' _).set_ _ _
        · exact ((H3.out.drewN _).far (Ne.symm p4) _).far (Ne.symm p6) _
        · exact ((H4.out.drewN _).far (Ne.symm p5) _).far (Ne.symm p7) _
        · exact ((bel_drewN HB.out _).setCell (p := ⟨P, k, none⟩) (Nat.le_refl _) _).setCell (p := ⟨R, k, none⟩) p2 _
      case measure => simp [intOf]; omega
    · have e : k = n := by omega
      subst e
      have lq := qs_len m W zs
      have lr := rs_len m W zs
      rw [hn.out] at lq lr
      rw [pre_all lq] at r1
      rw [pre_all lr] at r2
      have hL := left_eq m zs k
      rw [← HD.out, ← hs.out] at hL
      have HL := Lib.hid hL
      have HR : Hid (∀ j, at0 (rs m W zs) j < W) := Lib.hid fun j => (rs_bd W0 zs j).2
      have HQ : Hid (∀ j, 0 ≤ at0 (qs m W zs) j ∧ at0 (qs m W zs) j ≤ m) := Lib.hid fun j => by
        have h1 := qs_nn m0 W0 (fun j => (HW.out j).1) j
        refine ⟨h1, ?_⟩
        rw [qs_at]
        refine share_le m0 ?_ W0
        rcases Nat.lt_or_ge j k with hj | hj
        · rw [HD.out]; exact sm_ge_one (fun j => (HW.out j).1) hj
        · rw [at0_out (by rw [hn.out]; exact hj)]; omega
      have HPt : Hid (parts m zs = (give 0 (qs m W zs) (rs m W zs) s.toNat).1) := Lib.hid (by unfold parts; rw [hn.out, ← HD.out, ← hs.out])
      have LQ := Lib.hid lq
      have LR := Lib.hid lr
      clear lq lr hL hs HW HD cw hlt hk HI hE
      generalize qs m W zs = q at *
      generalize rs m W zs = r at *
      obtain ⟨L, rfl⟩ := Int.eq_ofNat_of_zero_le s0
      rw [Int.toNat_natCast] at HPt
      go_wp2
      go_loopw [63] (fun i wr => ∃ j : Nat, j ≤ L ∧ i = .int .i64 j ∧ RowI wr P (give 0 q r j).1 ∧ RowI wr R (give 0 q r j).2 ∧ Box wr bp (.slice (some ⟨P, 0, none⟩) k k) ∧ Box wr br (.slice (some ⟨R, 0, none⟩) k k) ∧ Below P w wr) (fun i _ => L - (intOf i).toNat)
      case atStart => exact ⟨0, by omega, rfl, r1, r2, b1, b2, bel⟩
      case round =>
        obtain ⟨j, hj, rfl, r1, r2, b1, b2, bel⟩ := hrel
        by_cases hlt : j < L
        · have hg := give_giv (z := 0) LQ.out LR.out (by omega) (by omega) W0 HR.out HL.out j (by omega)
          have hnx := hg.next (by omega) W0 HL.out (by omega)
          have lp := hg.lp
          have lr := hg.lr
          have e1 : Hid ((give 0 q r (j + 1)).1 = (give 0 q r j).1.set (gr (give 0 q r j).2 k) (at0 (give 0 q r j).1 (gr (give 0 q r j).2 k) + 1)) := Lib.hid (by rw [← lr]; rfl)
          have e2 : Hid ((give 0 q r (j + 1)).2 = (give 0 q r j).2.set (gr (give 0 q r j).2 k) 0) := Lib.hid (by rw [← lr]; rfl)
          have hq := HQ.out (gr (give 0 q r j).2 k)
          rw [← hnx.2.2.1] at hq
          obtain ⟨p1, p2, p3, p4, p5, p6, p7⟩ := HP.out
          clear hg hnx
          generalize (give 0 q r j).1 = p at *
          generalize (give 0 q r j).2 = rr at *
          obtain ⟨G, hG⟩ : ∃ G, G = gr rr k := ⟨_, rfl⟩
          rw [← hG] at e1 e2 hq
          have HG := Lib.hid hG
          have LP := Lib.hid lp
          have LRR := Lib.hid lr
          have H1 := Lib.hid r1
          have H2 := Lib.hid r2
          have H3 := Lib.hid b1
          have H4 := Lib.hid b2
          have HB := Lib.hid bel
          have hlt2 : (j : Int) < (L : Int) := by omega
          have h64 : L ≤ 1000000000000 := by omega
          clear hG lp lr r1 r2 b1 b2 bel
          go_wp2_with (go_at_call 34; refine (give_any P R bp br k G p rr LP LRR (by omega) (by omega) HG (by omega) wr H1.out H2.out H3.out H4.out p3 ⟨p4, p5⟩).mono ?_; rintro e w' ⟨rfl, rfl⟩)
          go_roundw
          case rel =>
            refine ⟨j + 1, by omega, by go_num, ?_, ?_, ?_, ?_, ?_⟩
            · rw [e1.out]; exact (H1.out.set_ _ _).far p3 _
            · rw [e2.out]; exact (H2.out.far (Ne.symm p3) _).set_ _ _
            · exact (H3.out.far (Ne.symm p4) _).far (Ne.symm p6) _
            · exact (H4.out.far (Ne.symm p5) _).far (Ne.symm p7) _
            · exact (HB.out.setCell (p := ⟨P, G, none⟩) (Nat.le_refl _) _).setCell (p := ⟨R, G, none⟩) p2 _
          case measure => simp [intOf]; omega
        · have e : j = L := by omega
          subst e
          have cb := b1.cell
          rw [← HPt.out] at r1
          have H1 := Lib.hid r1
          have HB := Lib.hid bel
          clear r1 r2 b1 b2 bel
          go_wp2
          go_ret2
          exact ⟨P, rfl, H1.out, Nat.le_of_eq HPd.out, by rw [HPd.out]; exact HB.out⟩
end Go.Proofs.YtkblcnomjgocmaaDoor.monC

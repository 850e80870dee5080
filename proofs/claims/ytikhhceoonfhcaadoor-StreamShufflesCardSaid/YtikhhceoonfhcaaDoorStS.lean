/-
  Rows of bools; the laws' each; the laws StreamShuffles and StreamSamples.
-/
import Derived.Test.YtikhhceoonfhcaaDoorStL
namespace Go.Proofs.YtikhhceoonfhcaaDoor.stS
open Go.RowKit
open Go.Proofs.YtikhhceoonfhcaaDoor.dgM Go.Proofs.YtikhhceoonfhcaaDoor.dgA Go.Proofs.YtikhhceoonfhcaaDoor.dgB Go.Proofs.YtikhhceoonfhcaaDoor.stM Go.Proofs.YtikhhceoonfhcaaDoor.stA Go.Proofs.YtikhhceoonfhcaaDoor.stB Go.Proofs.YtikhhceoonfhcaaDoor.stC Go.Proofs.YtikhhceoonfhcaaDoor.stD Go.Proofs.YtikhhceoonfhcaaDoor.stE Go.Proofs.YtikhhceoonfhcaaDoor.stL
set_option linter.unusedVariables false

/-! ### which numbers have been seen -/
def sn (n : Nat) (L : List Int) (i : Nat) : List Bool := (List.range (n + 1)).map fun (x : Nat) => decide ((x : Int) ∈ L.take i)
theorem sn_len (n : Nat) (L : List Int) (i : Nat) : (sn n L i).length = n + 1 := by simp [sn]
theorem sn_at {n : Nat} {L : List Int} {i Y : Nat} (h : Y ≤ n) : (sn n L i)[Y]? = some (decide ((Y : Int) ∈ L.take i)) := by
  unfold sn
  rw [List.getElem?_map, List.getElem?_range (by omega)]
  rfl
theorem sn_zero (n : Nat) (L : List Int) : sn n L 0 = List.replicate (n + 1) false := by
  apply List.ext_getElem?
  intro k
  by_cases h : k ≤ n
  · rw [sn_at h, List.getElem?_replicate, if_pos (by omega)]
    simp
  · rw [List.getElem?_eq_none (by rw [sn_len]; omega), List.getElem?_eq_none (by simp; omega)]
theorem sn_set {n : Nat} {L : List Int} {i Y : Nat} (hi : i < L.length) (hY : Y ≤ n) (h : iat L i = (Y : Int)) : (sn n L i).set Y true = sn n L (i + 1) := by
  apply List.ext_getElem?
  intro k
  by_cases hk : k ≤ n
  · rw [sn_at hk, List.getElem?_set]
    by_cases e : Y = k
    · subst e
      rw [if_pos rfl, if_pos (by rw [sn_len]; omega), take_iat hi, h]
      simp
    · rw [if_neg e, sn_at hk, take_iat hi, h]
      have : (k : Int) ≠ (Y : Int) := by omega
      simp [this]
  · rw [List.getElem?_eq_none (by rw [List.length_set, sn_len]; omega), List.getElem?_eq_none (by rw [sn_len]; omega)]
theorem sn_new {n : Nat} {L : List Int} {i Y : Nat} (hL : L.Nodup) (hi : i < L.length) (hY : Y ≤ n) (h : iat L i = (Y : Int)) : (sn n L i)[Y]? = some false := by
  rw [sn_at hY]
  congr 1
  refine decide_eq_false fun hm => ?_
  obtain ⟨j, hj, e⟩ := List.mem_iff_getElem.1 hm
  rw [List.length_take] at hj
  rw [List.getElem_take] at e
  rw [← h, iat_get hi] at e
  exact List.pairwise_iff_getElem.1 (List.nodup_iff_pairwise_ne.1 hL) j i (by omega) hi (by omega) e

/-! ### rows of bools -/
abbrev cT (bs : List Bool) : List Value := bs.map Value.bool
def RowT (w : World) (g : Nat) (bs : List Bool) : Prop := w.heap[g]? = some (.cells (cT bs).toArray 4 (0, 0))
section
variable {w w' : World} {g : Nat} {bs : List Bool}
theorem rowt_lt (h : RowT w g bs) : g < w.heap.size := block_lt h
theorem rowt_cell (h : RowT w g bs) {j : Nat} {b : Bool} (hj : bs[j]? = some b) : w.cell? ⟨g, j, none⟩ = some (.bool b) := by
  rw [cell_of_row w g j _ _ _ h]
  simp [hj]
theorem rowt_free (h : RowT w g bs) (j : Nat) : w.frozen? ⟨g, j, none⟩ = false := by
  unfold RowT at h; simp [World.frozen?, h]
theorem rowt_set (h : RowT w g bs) (j : Nat) (b : Bool) : RowT (w.setCell ⟨g, j, none⟩ (.bool b)) g (bs.set j b) := by
  unfold RowT at h ⊢
  simp [World.setCell, Array.getElem?_modify, h, List.map_set]
end
theorem made_bools (n : Nat) : madeCells #[.bool false] n = (cT (List.replicate n false)).toArray := by
  unfold madeCells
  apply Array.ext
  · simp
  · intro i h1 h2
    simp [Nat.mod_one]
theorem infoT : (Tryd.prog.info? 4).map (fun i => (i.zero, i.size, i.bytes)) = some (some (.bool false), 1, 1) := by kernel_rfl

/-! ### each -/
structure Good (n : Nat) (X : List Int) : Prop where
  nd : X.Nodup
  bd : ∀ x ∈ X, 1 ≤ x ∧ x ≤ (n : Int)
theorem Good.at_ {n : Nat} {X : List Int} (h : Good n X) {i : Nat} (hi : i < X.length) : ∃ Y : Nat, iat X i = (Y : Int) ∧ 1 ≤ Y ∧ Y ≤ n := by
  have hb := h.bd _ (iat_mem hi)
  obtain ⟨Y, hY⟩ := Int.eq_ofNat_of_zero_le (show 0 ≤ iat X i by omega)
  exact ⟨Y, hY, by omega, by omega⟩
set_option maxRecDepth 10000 in
set_option maxHeartbeats 1000000 in
theorem each_any (A : Option Addr) (n c : Nat) (X : List Int) (hn : n ≤ 4096) (hX : Hid (X.length = n)) (hG : Hid (Good n X)) (w : World) (hI : Ci w A X) :
    Calls Tryd.prog 21 #[.slice A n c, .int .i64 (n : Int)] w fun e w' => e = .returned (.bool true) ∧ Mv w [] w' := by
  obtain ⟨m, hm⟩ : ∃ m, m = n + 1 := ⟨_, rfl⟩
  have hmk := fun W' => (run_make_row' (P := Tryd.prog) 44 4 (.bool false) 1 Tryd.underlying44 infoT rfl .i64 .i64 m (by omega) (by omega) W')
  rw [made_bools] at hmk
  have e1 : (n : Int) + 1 = (m : Int) := by omega
  have hm0 : (0 : Int) ≤ (m : Int) := by omega
  have t0 : ((n : Int) != (n : Int)) = false := by simp
  have HM := Lib.hid hm
  have hm4 : m ≤ 4097 := by omega
  clear hm
  go_enter Tryd.func21, Tryd.ntmps21
  go_wp2_with fail
  obtain ⟨w4, hw4⟩ : ∃ w4, w.alloc (Obj.cells (Array.replicate m (Value.bool false)) 4) = w4 := ⟨_, rfl⟩
  have r0 : RowT w4 w.heap.size (sn n X 0) := by
    rw [← hw4, sn_zero, ← HM.out]
    have e : (cT (List.replicate m false)).toArray = Array.replicate m (Value.bool false) := by simp
    unfold RowT
    rw [e]
    exact heap_alloc_new w _
  have M4 := Lib.hid (show Mv w [] w4 by rw [← hw4]; exact (Mv.refl w []).alloc _)
  have R0 := Lib.hid r0
  rw [hw4]
  clear hw4 hmk r0
  obtain ⟨g, hg⟩ : ∃ g, w.heap.size = g := ⟨_, rfl⟩
  have HGe := Lib.hid hg
  rw [hg] at R0 ⊢
  clear hg
  go_loopw [6] (fun s6 wr => ∃ i : Nat, i ≤ n ∧ s6 = .int .i64 (i : Int) ∧ Hid (RowT wr g (sn n X i)) ∧ Hid (Mv w [] wr)) (fun s6 _ => n - (intOf s6).toNat)
  case atStart => exact ⟨0, Nat.zero_le _, rfl, R0, M4⟩
  case round =>
    obtain ⟨i, hi, rfl, HR, HW⟩ := hrel
    by_cases hlt : i < n
    · have hiX : i < X.length := by rw [hX.out]; exact hlt
      obtain ⟨b, off, rfl, hx0⟩ := hI.at_ hiX
      obtain ⟨Y, hY, y1, y2⟩ := hG.out.at_ hiX
      have hbl : b < w.heap.size := World.block_lt_of_cell? w _ hx0
      have hx : wr.cell? ⟨b, off + i, none⟩ = some (.int .i64 (Y : Int)) := by
        rw [World.cell?_of_block (w := w) (HW.out.block hbl (by simp)), hx0, hY]
      have c1 := rowt_cell HR.out (sn_new hG.out.nd hiX y2 hY)
      have q1 := rowt_free HR.out Y
      have hgb : g ≠ b := by have := HGe.out; omega
      have i0 : (0 : Int) ≤ (i : Int) := by omega
      have i1 : (i : Int) < (n : Int) := by omega
      have i2 : (0 : Int) ≤ (Y : Int) := by omega
      have i3 : (Y : Int) < (m : Int) := by have := HM.out; omega
      have d1 : decide ((Y : Int) < 1) = false := decide_eq_false (by omega)
      have d2 : decide ((n : Int) < (Y : Int)) = false := decide_eq_false (by omega)
      have d3 : decide (n < Y) = false := decide_eq_false (by omega)
      have hi1 : i + 1 ≤ n := hlt
      have HS : Hid (RowT (wr.setCell ⟨g, Y, none⟩ (.bool true)) g (sn n X (i + 1)) ∧ Mv w [] (wr.setCell ⟨g, Y, none⟩ (.bool true))) := Lib.hid ⟨by rw [← sn_set hiX y2 hY]; exact rowt_set HR.out _ _, HW.out.set (.inr (by have := HGe.out; omega)) _ _⟩
      clear hx0 hY hiX y1 y2 hbl
      go_wp2_with fail
      go_roundw
      case rel => exact ⟨i + 1, hi1, by go_num, Lib.hid HS.out.1, Lib.hid HS.out.2⟩
      case measure => simp [intOf]; omega
    · obtain rfl : i = n := by omega
      go_wp2_with fail
      go_ret
      exact ⟨rfl, HW.out⟩

/-! ### StreamShuffles -/
theorem good_perm {n : Nat} {X : List Int} (h : X.Perm (up n)) : X.length = n ∧ Good n X :=
  ⟨by rw [h.length_eq, up_len], h.nodup_iff.2 (up_nodup n), fun x hx => up_mem (h.mem_iff.1 hx)⟩
set_option maxRecDepth 10000 in
set_option maxHeartbeats 2000000 in
theorem shuffles (a : Nat) (n : Int) (ha : a < A64) (w : World) (hR : Rnd w) :
    Calls Tryd.prog 6 #[.int .u64 (a : Int), .int .i64 n] w fun e w' => e = .returned (.bool true) ∧ Below w.heap.size w w' := by
  by_cases ho : n < 0 ∨ 4096 < n
  · have c1 := fun p w => shuf_out n ho p w
    have two : Hid (n < 0 ∨ 4096 < n ∧ ¬ n < 0) := Lib.hid (by omega)
    clear ho
    rcases two.out with h | ⟨h, h'⟩
    all_goals
      go_enter Tryd.func6, Tryd.ntmps6
      go_wp2_with (first
        | (go_at_call 11; (refine (new_any a _ hR).mono ?_); rintro e w1 ⟨p, rfl, L1, g1, M1⟩)
        | (go_at_call 20; (refine (c1 _ _).mono ?_); rintro e w' ⟨rfl, rfl⟩)
        | (go_at_call 10; (refine (lives_any _ L1.rnd).mono ?_); rintro e w9 ⟨rfl, M9⟩))
      go_ret
      exact ⟨rfl, mv_below (M1.on' M9)⟩
  · obtain ⟨m, rfl⟩ := Int.eq_ofNat_of_zero_le (show 0 ≤ n by omega)
    have h1 : m ≤ 4096 := by omega
    have d1 : ¬ ((m : Int) < 0) := by omega
    have d2 : ¬ (4096 < (m : Int)) := by omega
    obtain ⟨B, hB⟩ : ∃ B, B = bl a := ⟨_, rfl⟩
    have hbl := bl_bl a
    rw [← hB] at hbl
    have hp := shR_perm hbl m 0
    cases hb : shR B m 0 with
    | mk X r =>
    obtain ⟨E, k1⟩ := r
    rw [hb] at hp
    simp only at hp
    have c1 := fun p w h => shuf_any B m h1 p a 0 E k1 X ha (Lib.hid hB) (Lib.hid hb) w h
    clear hb hB hbl ho
    rcases hp with ⟨rfl, hp⟩ | ⟨rfl, rfl⟩
    · obtain ⟨hX, hG⟩ := good_perm hp
      have ce := fun A c w h => each_any A m c X h1 (Lib.hid hX) (Lib.hid hG) w h
      have c1' : ∀ p w, Lv w p a 0 → Calls Tryd.prog 20 #[.pointer (some ⟨p, 0, none⟩), .int .i64 (m : Int)] w (Lst w p a k1 X 0) := c1
      have HX := Lib.hid hX
      clear hX hG hp c1
      go_enter Tryd.func6, Tryd.ntmps6
      go_wp2_with (first
        | (go_at_call 11; (refine (new_any a _ hR).mono ?_); rintro e w1 ⟨p, rfl, L1, g1, M1⟩)
        | (go_at_call 20; (with_reducible refine (c1' _ _ L1).mono ?_); rintro e w2 ⟨A, n', c, rfl, hn', hc, hI, hA, L2, M2⟩; (obtain rfl : m = n' := (by rw [← hn', HX.out])); have MM := Lib.hid (M1.on M2 (fun k hk => (by simp at hk; omega))); clear hn' M1 M2 L1)
        | (go_at_call 21; (with_reducible refine (ce _ _ _ hI).mono ?_); rintro e w3 ⟨rfl, M3⟩; have L3 := L2.on M3)
        | (go_at_call 10; (refine (lives_any _ L3.rnd).mono ?_); rintro e w9 ⟨rfl, M9⟩))
      go_ret
      exact ⟨rfl, mv_below ((MM.out.on' M3).on' M9)⟩
    · have c1' : ∀ p w, Lv w p a 0 → Calls Tryd.prog 20 #[.pointer (some ⟨p, 0, none⟩), .int .i64 (m : Int)] w (Lst w p a k1 [] 11) := c1
      clear c1
      go_enter Tryd.func6, Tryd.ntmps6
      go_wp2_with (first
        | (go_at_call 11; (refine (new_any a _ hR).mono ?_); rintro e w1 ⟨p, rfl, L1, g1, M1⟩)
        | (go_at_call 20; (with_reducible refine (c1' _ _ L1).mono ?_); rintro e w2 ⟨A, n', c, rfl, hn', hc, hI, hA, L2, M2⟩; (obtain rfl : 0 = n' := hn'); have MM := Lib.hid (M1.on M2 (fun k hk => (by simp at hk; omega))); clear M1 M2 L1)
        | (go_at_call 10; (refine (lives_any _ L2.rnd).mono ?_); rintro e w9 ⟨rfl, M9⟩))
      go_ret
      exact ⟨rfl, mv_below (MM.out.on' M9)⟩
end Go.Proofs.YtikhhceoonfhcaaDoor.stS

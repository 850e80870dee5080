/-
  A row of ints that grows by one; contracts of Next of comb and of the reference, of the laws' same.
-/
import Derived.Test.YtjblfmgiafdefaaCbC
import Derived.Test.YtjblfmgiafdefaaMonC
import Derived.Test.YtjblfmgiafdefaaNatG
import Derived.Deep.AppendLies
import Derived.Laws.CopyOwn
namespace Go.Proofs.Ytjblfmgiafdefaa.cbD
open Go.RowKit
open Go.Proofs.Ytjblfmgiafdefaa.numM Go.Proofs.Ytjblfmgiafdefaa.numA Go.Proofs.Ytjblfmgiafdefaa.numB Go.Proofs.Ytjblfmgiafdefaa.numE Go.Proofs.Ytjblfmgiafdefaa.monM Go.Proofs.Ytjblfmgiafdefaa.monB Go.Proofs.Ytjblfmgiafdefaa.monC Go.Proofs.Ytjblfmgiafdefaa.cbM Go.Proofs.Ytjblfmgiafdefaa.cbA Go.Proofs.Ytjblfmgiafdefaa.cbC
set_option linter.unusedVariables false

/-! ### rows that grow -/
abbrev cI (zs : List Int) : List Value := zs.map (Value.int .i64)
abbrev OwnI (w : World) (B : Nat) (v : Value) (zs : List Int) (k : Nat) : Prop := w.ownsRow B 3 1 v k (cI zs)
theorem own_ints {w : World} {B g n c : Nat} {zs : List Int} (h : OwnI w B (.slice (some ⟨g, 0, none⟩) n c) zs n) : Ints w (some ⟨g, 0, none⟩) zs := by
  rcases h.2 with ⟨h', _⟩ | ⟨g', cap', cur, h', _, hg, _, _, hcs, htake⟩
  · simp at h'
  · simp only [Value.slice.injEq, Option.some.injEq, Addr.mk.injEq, and_true, true_and] at h'
    obtain ⟨rfl, rfl⟩ := h'
    refine fun _ => ⟨g, 0, rfl, fun j x hx => ?_⟩
    have hj : j < n := by have := h.1; have := lt_of_some hx; simp at *; omega
    have h3 : (cI zs)[j]? = some (.int .i64 x) := by rw [List.getElem?_map, hx]; rfl
    rw [← htake, List.getElem?_take, if_pos (by omega)] at h3
    rw [Nat.zero_add, cell_of_row w g j _ _ _ hg]
    simpa using h3
theorem own_sliceI {w : World} {B : Nat} {v : Value} {n : Nat} {zs : List Int} (h : OwnI w B v zs n) :
    ∃ A c, v = .slice A n c ∧ n ≤ c ∧ Ints w A zs ∧ zs.length = n := by
  have hl := h.1
  have hl2 : zs.length = n := by simpa using hl
  rcases h.2 with ⟨rfl, rfl⟩ | ⟨g, cap, cur, rfl, hg, hh, hnc, _, _, _⟩
  · exact ⟨none, 0, rfl, by omega, fun hp => absurd hp (by omega), hl2⟩
  · exact ⟨some ⟨g, 0, none⟩, cap, rfl, hnc, own_ints h, hl2⟩
def PushedI (w : World) (B : Nat) (v : Value) (n : Nat) (zs : List Int) (g c : Nat) (w1 : World) : Prop :=
  OwnI w1 B (.slice (some ⟨g, 0, none⟩) (n + 1) c) zs (n + 1) ∧ Below B w w1
theorem push_int {ops : Array Oper} {rest : List Oper} {o : Oper} {a : Act} {Q : Exit → Act → World → Prop} (hgd : o.guard = none) (s x : Operand) (ho : o.op = .call { callee := .builtin .append, args := #[s, x], argTypes := #[37, 37] })
    (w : World) (B : Nat) (v : Value) (n : Nat) (zs : List Int) (y : Int) (hs : a.eval s = v) (hown : OwnI w B v zs n) (hx : a.eval x = .slice (some ⟨w.heap.size, 0, none⟩) 1 1) (hn : n ≤ 1000000) (hB : B ≤ w.heap.size)
    (h : ∀ g c w1, PushedI w B v n (zs ++ [y]) g c w1 → wpList Try.prog ops Q rest (a.put o.dst (.slice (some ⟨g, 0, none⟩) (n + 1) c)) w1) :
    wpList Try.prog ops Q (o :: rest) a (w.alloc (.cells #[.int .i64 y] 3)) := by
  obtain ⟨i0, hi0, hz0, hz1, hz2⟩ := info_parts infoInt
  refine wpList_append_lies _ hgd s x 37 ho B 3 i0 (.int .i64 0) 1 8 Try.underlying37 hi0 hz0 hz1 hz2 rfl (by omega) v n _ hs (World.ownsRow.alloc hown _) ⟨w.heap.size, 0, none⟩ 1 1 [.int .i64 y] hx rfl (World.news_of_block (cs := #[.int .i64 y]) (t := 3) (fr := (0, 0)) (heap_alloc_new w _)) (by simp [Value.oneCell']) (by omega) (by unfold maxLen; omega) ?_ (by simp; omega) (w.heap.size + 1) (by simp) ?_
  · omega
  · intro g c w1 hown1 hgrow hat hlt
    have e : cI zs ++ [.int .i64 y] = cI (zs ++ [y]) := by simp [cI]
    rw [e] at hown1
    exact h g c w1 ⟨hown1, ((Below.refl _ w).alloc hB _).grown hgrow (by simp; omega) (fun j hj => ((World.ownsRow.lt hown) j hj).1)⟩

/-! ### same -/
set_option maxHeartbeats 1000000 in
theorem same_ok (A B : Option Addr) (n c d : Nat) (zs : List Int) (hn : Hid (zs.length = n)) (hN : n ≤ 9223372036854775807) (w : World) (hI : Ints w A zs) (hJ : Ints w B zs) :
    Calls Try.prog 22 #[.slice A n c, .slice B n d] w fun e w' => e = .returned (.bool true) ∧ ∃ d, w' = w.drewN d := by
  have ne : ((n : Int) != (n : Int)) = false := by simp
  go_enter Try.func22, Try.ntmps22
  go_wp2_with fail
  go_loopw [13] (fun i wr => ∃ k d : Nat, k ≤ n ∧ i = .int .i64 k ∧ wr = w.drewN d) (fun i _ => n - (intOf i).toNat)
  case atStart => exact ⟨0, 0, Nat.zero_le _, rfl, rfl⟩
  case round =>
    obtain ⟨k, d, hk, rfl, rfl⟩ := hrel
    by_cases hlt : k < n
    · obtain ⟨ad, off, rfl, hx⟩ := hI.at_ (k := k) (by rw [hn.out]; exact hlt)
      obtain ⟨bd, bff, rfl, hy⟩ := hJ.at_ (k := k) (by rw [hn.out]; exact hlt)
      generalize at0 zs k = x at *
      have i0 : (0 : Int) ≤ (k : Int) := by omega
      have i1 : (k : Int) < (n : Int) := by omega
      have nx : (x != x) = false := by simp
      go_wp2_with fail
      go_quiet (fail)
      go_wp2_with fail
      go_roundw
      case rel => exact ⟨k + 1, _, by omega, by go_num, rfl⟩
      case measure => simp [intOf]; omega
    · obtain rfl : k = n := by omega
      go_wp2_with fail
      go_ret
      exact ⟨rfl, _, rfl⟩

/-! ### the last element that can grow -/
def lt (n : Nat) (zs : List Int) : Nat → Nat
  | 0 => 0
  | t + 1 => if at0 zs t = (n : Int) - ((zs.length : Int) - 1 - (t : Int)) then lt n zs t else t + 1
theorem lt_le (n : Nat) (zs : List Int) : ∀ k, lt n zs k ≤ k
  | 0 => Nat.le_refl _
  | k + 1 => by
    rw [lt]
    split
    · have := lt_le n zs k; omega
    · omega
theorem lt_top {n : Nat} {zs : List Int} : ∀ {k : Nat}, k ≤ zs.length → Top n zs k → Top n zs (lt n zs k) ∧ ∀ t, lt n zs k = t + 1 → at0 zs t ≠ (n : Int) - (zs.length - (t + 1) : Nat)
  | 0, _, h => ⟨h, fun t ht => by simp [lt] at ht⟩
  | k + 1, hk, h => by
    rw [lt]
    split
    case isTrue e => exact lt_top (by omega) (top_down (by omega) h (by rw [e]; omega))
    case isFalse e =>
      refine ⟨h, fun t ht => ?_⟩
      obtain rfl : k = t := by omega
      intro e2
      exact e (by rw [e2]; omega)
/-- the next combination and whether there is one -/
def nxL (n : Nat) (zs : List Int) : List Int := if lt n zs zs.length = 0 then [] else nr zs (lt n zs zs.length - 1) zs.length
def nxB (n : Nat) (zs : List Int) : Bool := !(lt n zs zs.length == 0)
theorem nx_no {n : Nat} {zs : List Int} (h : lt n zs zs.length = 0) : nxL n zs = [] ∧ nxB n zs = false := by
  unfold nxL nxB; rw [if_pos h, h]; exact ⟨rfl, rfl⟩
theorem nx_yes {n T : Nat} {zs : List Int} (h : lt n zs zs.length = T + 1) : nxL n zs = nr zs T zs.length ∧ nxB n zs = true := by
  unfold nxL nxB; rw [if_neg (by omega), h]; exact ⟨rfl, rfl⟩
def NextP (L : List Int) (b : Bool) (w : World) (e : Ending) (w' : World) : Prop :=
  ∃ A n c, e = .returned (.tuple #[.slice A n c, .bool b]) ∧ L.length = n ∧ n ≤ c ∧ Ints w' A L ∧ Below w.heap.size w w'
theorem ints_nil (w : World) (A : Option Addr) : Ints w A [] := fun h => absurd h (by simp)
theorem nr_step {zs : List Int} {T i : Nat} (hT : T < i) (hi : i < zs.length) : at0 (nr zs T i) (i - 1) = at0 zs T + 1 + ((i - 1 - T : Nat) : Int) := by
  rw [nr_at (by omega), if_pos (by omega)]
theorem row_copy {w : World} {g n : Nat} {zs : List Int} {t : TypeId} (hn : zs.length = n) (ht : t = 3) (h : w.heap[g]? = some (.cells (splice (cI (List.replicate n 0)) 0 (cI zs)).toArray t (0, 0))) : RowI w g zs := by
  have e : splice (cI (List.replicate n 0)) 0 (cI zs) = cI zs := by
    unfold splice
    simp [hn]
  rw [e, ht] at h
  exact h
theorem int_src {w : World} {A : Option Addr} {zs : List Int} {g : Nat} (h : Ints w A zs) : 0 < (cI zs).length → some (⟨g, 0, none⟩ : Addr) = some ⟨g, 0, none⟩ ∧ ∃ ad, A = some ad ∧ ∀ j v, (cI zs)[j]? = some v → w.cell? (ad.add j) = some v := fun hp => by
  obtain ⟨b, off, rfl, hc⟩ := h (by simpa using hp)
  refine ⟨rfl, _, rfl, fun j v hv => ?_⟩
  rw [List.getElem?_map] at hv
  cases hz : zs[j]? with
  | none => rw [hz] at hv; cases hv
  | some x =>
    rw [hz] at hv
    injection hv with hv
    subst hv
    rw [Addr.add_lit]
    exact hc j x hz
theorem sizeI : (Try.prog.info? 3).map (·.size) = some 1 := by kernel_rfl
theorem cI_one {zs : List Int} : ∀ v ∈ cI zs, v.oneCell' = true := by
  intro v hv
  simp only [cI, List.mem_map] at hv
  obtain ⟨x, _, rfl⟩ := hv
  rfl

set_option maxHeartbeats 1000000 in
theorem next_no (A : Option Addr) (n c : Nat) (m : Int) (zs : List Int) (hn : Hid (zs.length = n)) (hN : n ≤ 9223372036854775807) (hE : chk m zs ≠ 0) (w : World) (hI : Ints w A zs) :
    Calls Try.prog 20 #[.slice A n c, .int .i64 m] w (NextP [] false w) := by
  obtain ⟨F, hF⟩ : ∃ F, Hid (F = chk m zs) := ⟨_, Lib.hid rfl⟩
  have ck := fun w => check_any A n c m F zs hn hN hF w
  have gb : (F != 0) = true := by rw [hF.out]; simpa using hE
  clear hE hF
  go_enter Try.func20, Try.ntmps20
  go_wp2_with (first
    | (go_at_call 38; (with_reducible refine (ck _ hI).mono ?_); rintro e w' ⟨rfl, rfl⟩))
  go_ret2
  exact ⟨none, 0, 0, rfl, rfl, Nat.le_refl _, ints_nil _ _, Below.refl _ _⟩
theorem nr_first {zs : List Int} {n t : Nat} {x : Int} (hn : zs.length = n) (ht : t < n) (hx : at0 zs t = x) : zs.set t (x + 1) = nr zs t (t + 1) := by
  have := nr_set (zs := zs) (T := t) (i := t) (Nat.le_refl _) (by omega)
  rw [nr_start, hx, Nat.sub_self, Int.natCast_zero, Int.add_zero] at this
  exact this
theorem lt_step {m n t : Nat} {zs : List Int} {v : Nat} (hn : zs.length = n) (hv : (m : Int) - ((n : Int) - 1 - (t : Int)) = (v : Int)) : lt m zs (t + 1) = if at0 zs t = (v : Int) then lt m zs t else t + 1 := by rw [lt, hn, hv]
set_option maxRecDepth 4000 in
set_option maxHeartbeats 2000000 in
theorem next_yes (A : Option Addr) (n c m : Nat) (zs L : List Int) (b : Bool) (hL : Hid (L = nxL m zs)) (hb : Hid (b = nxB m zs)) (hn : Hid (zs.length = n)) (hE : Hid (chk m zs = 0)) (w : World) (hI : Ints w A zs) :
    Calls Try.prog 20 #[.slice A n c, .int .i64 (m : Int)] w (NextP L b w) := by
  obtain ⟨h80, hA, -⟩ := chk_asc hE.out
  have hroom := asc_room (by omega) hA
  rw [hn.out, Nat.zero_add] at hroom
  have HA := Lib.hid hA
  clear hA
  have ck := fun w => check_any A n c (m : Int) 0 zs hn (by omega) (Lib.hid hE.out.symm) w
  have hmk := fun W' => (run_make_row' (P := Try.prog) 37 3 (.int .i64 0) 8 Try.underlying37 infoInt rfl .i64 .i64 n (by omega) (by omega) W')
  rw [made_row] at hmk
  go_enter Try.func20, Try.ntmps20
  go_wp2_with (first
    | (go_at_call 38; (with_reducible refine (ck _ hI).mono ?_); rintro e w' ⟨rfl, rfl⟩))
  go_loop [6] (fun s => ∃ (T : Nat) (z : Int), T ≤ n ∧ s = .int .i64 z ∧ z = (T : Int) - 1 ∧ Hid (lt m zs zs.length = lt m zs T)) (fun s => (intOf s + 1).toNat)
  case atStart => exact ⟨n, _, Nat.le_refl _, rfl, by omega, Lib.hid (by rw [hn.out])⟩
  case round =>
    obtain ⟨T, z, hT, rfl, hz, H⟩ := hrel
    by_cases h0 : T = 0
    · subst h0
      have hno := nx_no (n := m) (zs := zs) H.out
      obtain rfl := hL.out.trans hno.1
      obtain rfl := hb.out.trans hno.2
      have z0 : z < 0 := by omega
      clear hno hL hb
      go_wp2_with fail
      go_ret2
      exact ⟨none, 0, 0, rfl, rfl, Nat.le_refl _, ints_nil _ _, Below.refl _ _⟩
    · obtain ⟨t, rfl⟩ : ∃ t, T = t + 1 := ⟨T - 1, by omega⟩
      obtain rfl : z = (t : Int) := by omega
      clear hz
      obtain ⟨ad, off, rfl, hx⟩ := hI.at_ (k := t) (by rw [hn.out]; omega)
      have htn : t < n := by omega
      have hat := asc_at HA.out (i := t) (by rw [hn.out]; exact htn)
      obtain ⟨q, hq⟩ : ∃ q : Nat, (n : Int) - 1 = (q : Int) := ⟨n - 1, by omega⟩
      obtain ⟨u, hu⟩ : ∃ u : Nat, (q : Int) - (t : Int) = (u : Int) := ⟨q - t, by omega⟩
      obtain ⟨v, hv⟩ : ∃ v : Nat, (m : Int) - (u : Int) = (v : Int) := ⟨m - u, by omega⟩
      obtain ⟨x, hxe⟩ : ∃ x : Nat, at0 zs t = (x : Int) := ⟨(at0 zs t).toNat, by omega⟩
      have hst := lt_step (m := m) (t := t) (zs := zs) (v := v) hn.out (by rw [hq, hu, hv])
      rw [hxe] at hst hx hat
      have hx8 : x ≤ 80 := by omega
      by_cases he : x = v
      · subst he
        have HS : Hid (lt m zs zs.length = lt m zs t) := Lib.hid (by rw [H.out, hst, if_pos rfl])
        clear hat hst hxe
        go_wp2_with fail
        go_round
        case rel => exact ⟨t, _, by omega, rfl, by omega, HS⟩
        case measure => simp [intOf]
      · have hys := nx_yes (n := m) (zs := zs) (T := t) (by rw [H.out, hst, if_neg (by omega)])
        rw [hn.out] at hys
        obtain rfl := hL.out.trans hys.1
        obtain rfl := hb.out.trans hys.2
        have he2 : ((x : Int) == (v : Int)) = false := by simp; omega
        have hxs := Lib.hid hxe
        have HI := Lib.hid hI
        have R0 : ∀ w1 : World, RowI w1 w.heap.size zs → w1.cell? ⟨w.heap.size, t, none⟩ = some (.int .i64 (x : Int)) ∧ w1.frozen? ⟨w.heap.size, t, none⟩ = false := fun w1 h => ⟨by rw [h.cell (by rw [hn.out]; exact htn), hxs.out], h.frozen t⟩
        clear hat he hys hL hb hst hxe hI
        go_wp2_with (first
          | (refine wpList_copy_splice rfl (.tmp 39) (.tmp 40) 37 37 (by rfl) 3 Try.underlying37 sizeI (some ⟨w.heap.size, 0, none⟩) (some ⟨ad, off, none⟩) n n n c (by rfl) (by rfl) w.heap.size 0 (cI (List.replicate n 0)) 3 (heap_alloc_new w _) (cI zs) (by rw [List.length_map, hn.out]; exact (Nat.min_self n).symm) (int_src (ints_below HI.out (natA.below_new _ _))) (by simp [hn.out]) cI_one w.heap.size w (natA.below_new _ _) (Nat.le_refl _) ?_; intro w4 hh hb4; have HR4 := Lib.hid (row_copy hn.out rfl hh.out); have HB4 := Lib.hid hb4; obtain ⟨hy1, hy2⟩ := R0 _ HR4.out; clear hh hb4))
        have HR5 : RowI (w4.setCell ⟨w.heap.size, t, none⟩ (.int .i64 ((x : Int) + 1))) w.heap.size (nr zs t (t + 1)) := by
          have := HR4.out.set_ t ((x : Int) + 1)
          rw [nr_first hn.out htn hxs.out] at this
          exact this
        have HB5 : Below w.heap.size w (w4.setCell ⟨w.heap.size, t, none⟩ (.int .i64 ((x : Int) + 1))) := HB4.out.setCell (Nat.le_refl _) _
        clear hy1 hy2 R0 hx hmk
        go_loopw [8] (fun s8 wr => ∃ j : Nat, t ≤ j ∧ j + 1 ≤ n ∧ s8 = .int .i64 ((j + 1 : Nat) : Int) ∧ RowI wr w.heap.size (nr zs t (j + 1)) ∧ Below w.heap.size w wr) (fun s8 _ => n - (intOf s8).toNat)
        case atStart => exact ⟨t, by omega, by omega, by go_num, HR5, HB5⟩
        case round =>
          obtain ⟨j, hj1, hj2, rfl, hrow, hbel⟩ := hrel
          by_cases hlt : j + 1 < n
          · obtain ⟨y, hy⟩ : ∃ y : Nat, y = x + 1 + (j - t) := ⟨_, rfl⟩
            have c1 := hrow.cell (j := j) (by rw [nr_len, hn.out]; omega)
            have c2 := hrow.cell (j := j + 1) (by rw [nr_len, hn.out]; omega)
            have c3 := hrow.frozen (j + 1)
            have ea : at0 (nr zs t (j + 1)) j = (y : Int) := by
              have := nr_step (zs := zs) (T := t) (i := j + 1) (by omega) (by rw [hn.out]; omega)
              rw [Nat.add_sub_cancel, hxs.out] at this
              rw [this, hy]; omega
            rw [ea] at c1
            have HS : Hid (RowI (wr.setCell ⟨w.heap.size, j + 1, none⟩ (.int .i64 ((y : Int) + 1))) w.heap.size (nr zs t (j + 1 + 1))) := Lib.hid (by
              have := hrow.set_ (j + 1) ((y : Int) + 1)
              rw [← nr_set (zs := zs) (T := t) (i := j + 1) (by omega) (by rw [hn.out]; exact hlt), hxs.out]
              rw [show (x : Int) + 1 + ((j + 1 - t : Nat) : Int) = (y : Int) + 1 by omega]
              exact this)
            have HBS : Hid (Below w.heap.size w (wr.setCell ⟨w.heap.size, j + 1, none⟩ (.int .i64 ((y : Int) + 1)))) := Lib.hid (hbel.setCell (Nat.le_refl _) _)
            generalize at0 (nr zs t (j + 1)) (j + 1) = z2 at *
            have y8 : y ≤ 1000 := by omega
            have i0 : (0 : Int) ≤ (j : Int) := by omega
            have i1 : (j : Int) < (n : Int) := by omega
            have i2 : (0 : Int) ≤ (j : Int) + 1 := by omega
            have i3 : (j : Int) + 1 < (n : Int) := by omega
            clear ea hy hrow hbel HR5 HB5
            go_wp2_with fail
            go_roundw
            case rel => exact ⟨j + 1, by omega, by omega, by go_num, HS.out, HBS.out⟩
            case measure => simp [intOf]; omega
          · obtain rfl : n = j + 1 := by omega
            have l1 : ((j : Int) + 1 < (j : Int) + 1) = False := by simp
            go_wp2_with fail
            go_ret2
            exact ⟨some ⟨w.heap.size, 0, none⟩, j + 1, j + 1, rfl, by rw [nr_len, hn.out], Nat.le_refl _, hrow.ints, hbel⟩
theorem next_any (A : Option Addr) (n c : Nat) (m : Int) (zs L : List Int) (b : Bool) (hL : Hid (L = if chk m zs = 0 then nxL m.toNat zs else [])) (hb : Hid (b = if chk m zs = 0 then nxB m.toNat zs else false)) (hn : Hid (zs.length = n)) (hN : n ≤ 9223372036854775807) (w : World) (hI : Ints w A zs) :
    Calls Try.prog 20 #[.slice A n c, .int .i64 m] w (NextP L b w) := by
  by_cases g : chk m zs = 0
  · have hr : 0 ≤ m := by
      unfold chk at g
      by_cases c : m < 0 ∨ 80 < m
      · rw [if_pos c] at g; cases g
      · omega
    obtain ⟨N, rfl⟩ := Int.eq_ofNat_of_zero_le hr
    have h1 := hL.out
    have h2 := hb.out
    rw [if_pos g, Int.toNat_natCast] at h1 h2
    exact next_yes A n c N zs L b (Lib.hid h1) (Lib.hid h2) hn (Lib.hid g) w hI
  · have h1 := hL.out
    have h2 := hb.out
    rw [if_neg g] at h1 h2
    subst h1 h2
    exact next_no A n c m zs hn hN g w hI
end Go.Proofs.Ytjblfmgiafdefaa.cbD

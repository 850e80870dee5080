/-
  Contracts of money.Split where it refuses, and of the reference's Split.
-/
import Derived.Test.YtkblcnomjgocmaaDoorMonC
import Derived.Deep.AppendLies
namespace Go.Proofs.YtkblcnomjgocmaaDoor.monD
open Go.RowKit
open Go.Proofs.YtkblcnomjgocmaaDoor.numM Go.Proofs.YtkblcnomjgocmaaDoor.numA Go.Proofs.YtkblcnomjgocmaaDoor.numB Go.Proofs.YtkblcnomjgocmaaDoor.numE Go.Proofs.YtkblcnomjgocmaaDoor.monA Go.Proofs.YtkblcnomjgocmaaDoor.monM Go.Proofs.YtkblcnomjgocmaaDoor.monB Go.Proofs.YtkblcnomjgocmaaDoor.monC
set_option linter.unusedVariables false

set_option maxHeartbeats 1000000 in
theorem split_err (m : Int) (A : Option Addr) (n c : Nat) (E : Int) (zs : List Int) (hn : Hid (zs.length = n)) (hN : n ≤ 9223372036854775807) (hE : Hid (E = spE m zs n)) (hne : (E != 0) = true) (w : World) (hI : Ints w A zs) :
    Calls Tryd.prog 22 #[.int .i64 m, .slice A n c] w fun e w' => e = .returned (.tuple #[.slice none 0 0, .int .i64 E]) ∧ w = w' := by
  have hV : spW m zs n = 0 := if_neg (by rw [← hE.out]; simpa using hne)
  have cw := fun w => whole_any m A n c 0 E zs hn hN (Lib.hid hV.symm) hE w
  clear hV
  go_enter Tryd.func22, Tryd.ntmps22
  go_wp2_with (go_at_call 32; refine (cw _ hI).mono ?_; rintro e w' ⟨rfl, rfl⟩)
  go_ret2
  exact ⟨rfl, rfl⟩
set_option maxHeartbeats 1000000 in
theorem rsplit_err (m : Int) (A : Option Addr) (n c : Nat) (E : Int) (zs : List Int) (hn : Hid (zs.length = n)) (hN : n ≤ 9223372036854775807) (hE : Hid (E = spE m zs n)) (hne : (E != 0) = true) (w : World) (hI : Ints w A zs) :
    Calls Tryd.prog 23 #[.int .i64 m, .slice A n c] w fun e w' => e = .returned (.tuple #[.slice none 0 0, .int .i64 E]) ∧ w = w' := by
  have hV : spW m zs n = 0 := if_neg (by rw [← hE.out]; simpa using hne)
  have cw := fun w => check_any m A n c 0 E zs hn hN (Lib.hid hV.symm) hE w
  clear hV
  go_enter Tryd.func23, Tryd.ntmps23
  go_wp2_with (go_at_call 36; refine (cw _ hI).mono ?_; rintro e w' ⟨rfl, rfl⟩)
  go_ret2
  exact ⟨rfl, rfl⟩

/-! ### rows that the reference grows -/
abbrev OwnI (w : World) (B : Nat) (v : Value) (zs : List Int) (k : Nat) : Prop := w.ownsRow B 3 1 v k (zs.map (Value.int .i64))
theorem own_keep1 {wr w1 : World} {B k : Nat} {v8 v9 : Value} {ys : List Int} {o : Obj} (h9 : OwnI wr B v9 ys k) (hd : ∀ g, v8.ownBlock = some g → v9.ownBlock ≠ some g) (hg : (wr.alloc o).grownBy w1 v8.ownBlock) : OwnI w1 B v9 ys k := by
  refine (World.ownsRow.alloc h9 o).kept hg ?_
  cases e : v8.ownBlock with
  | none => cases e2 : v9.ownBlock with
    | none => exact .inl rfl
    | some g => exact .inr (by simp)
  | some g => exact .inr (hd g e)
theorem own_keep2 {w1 w2 : World} {B k g : Nat} {n c : Nat} {v9 : Value} {xs : List Value} {o : Obj} (h8 : w1.ownsRow B 3 1 (.slice (some ⟨g, 0, none⟩) n c) k xs) (hne : v9.ownBlock ≠ some g) (hg : (w1.alloc o).grownBy w2 v9.ownBlock) : w2.ownsRow B 3 1 (.slice (some ⟨g, 0, none⟩) n c) k xs :=
  (World.ownsRow.alloc h8 o).kept hg (.inr (Ne.symm hne))
theorem own_ne {wr : World} {B k g8 : Nat} {v8 v9 : Value} {ys : List Int} (h9 : OwnI wr B v9 ys k) (hd : ∀ g, v8.ownBlock = some g → v9.ownBlock ≠ some g) (hat : v8.ownBlock = some g8 ∨ g8 = wr.heap.size + 1) : v9.ownBlock ≠ some g8 := by
  rcases hat with h | h
  · exact hd g8 h
  · intro e
    have := (World.ownsRow.lt h9) g8 e
    omega
theorem own_ints {w : World} {B g n c : Nat} {zs : List Int} (hn : zs.length = n) (h : OwnI w B (.slice (some ⟨g, 0, none⟩) n c) zs n) : Ints w (some ⟨g, 0, none⟩) zs := fun _ => ⟨g, 0, rfl, fun j x hx => by
  have hj := lt_of_some hx
  rw [Nat.zero_add, World.ownsRow.cellAt h j (by omega), List.getElem?_map, hx]; rfl⟩
theorem own_cell {w : World} {B g n c : Nat} {zs : List Int} (hn : zs.length = n) (h : OwnI w B (.slice (some ⟨g, 0, none⟩) n c) zs n) {j : Nat} (hj : j < n) : w.cell? ⟨g, j, none⟩ = some (.int .i64 (at0 zs j)) := by
  rw [World.ownsRow.cellAt h j (by omega), List.getElem?_map, at0_some (by omega)]; rfl
theorem own_set {w : World} {B g n c : Nat} {zs : List Int} (h : OwnI w B (.slice (some ⟨g, 0, none⟩) n c) zs n) (j : Nat) (x : Int) : OwnI (w.setCell ⟨g, j, none⟩ (.int .i64 x)) B (.slice (some ⟨g, 0, none⟩) n c) (zs.set j x) n := by
  have := (World.ownsRow.stored h j (.int .i64 x)).1
  unfold OwnI
  rw [List.map_set]; exact this
theorem own_far {w : World} {B g n c : Nat} {zs : List Int} (h : OwnI w B (.slice (some ⟨g, 0, none⟩) n c) zs n) {p : Addr} (hp : g ≠ p.block) (u : Value) : OwnI (w.setCell p u) B (.slice (some ⟨g, 0, none⟩) n c) zs n :=
  ownsRow_setCell_other h (by simpa [Value.ownBlock] using hp) u
theorem own_drewN {w : World} {B : Nat} {v : Value} {zs : List Int} {k : Nat} (h : OwnI w B v zs k) (j : Nat) : OwnI (w.drewN j) B v zs k := h
theorem take_one {l : List Int} {k : Nat} (h : k < l.length) : (l.take k).map (Value.int .i64) ++ [.int .i64 (at0 l k)] = (l.take (k + 1)).map (Value.int .i64) := by
  rw [List.take_succ_eq_append_getElem h, List.map_append]
  congr 1
  simp [at0, List.getD, h]

def RSplitPost (zs : List Int) (n : Nat) (w : World) (e : Ending) (w' : World) : Prop :=
  ∃ g c, e = .returned (.tuple #[.slice (some ⟨g, 0, none⟩) n c, .int .i64 0]) ∧ Ints w' (some ⟨g, 0, none⟩) zs ∧ w.heap.size ≤ g ∧ Below w.heap.size w w'

set_option maxHeartbeats 4000000 in
theorem rsplit_ok (m : Int) (A : Option Addr) (n c : Nat) (zs : List Int) (hn : Hid (zs.length = n)) (hE : Hid (spE m zs n = 0)) (w : World) (hI : Ints w A zs) :
    Calls Tryd.prog 23 #[.int .i64 m, .slice A n c] w (RSplitPost (parts m zs) n w) := by
  obtain ⟨i0, hi0, hz0, hz1, hz2⟩ := info_parts infoInt
  obtain ⟨⟨m0, m1⟩, ⟨n1, n64⟩, hw, hav, eW, W0, W1⟩ := sp_inv hn.out hE.out
  obtain ⟨W, hWd⟩ : ∃ W, W = sm zs n := ⟨_, rfl⟩
  have cw := fun w => check_any m A n c W 0 zs hn (by omega) (Lib.hid (hWd.trans eW.symm)) (Lib.hid hE.out.symm) w
  have HW := Lib.hid hw
  have HD := Lib.hid hWd
  rw [← hWd] at W0 W1
  clear hw hav eW hWd
  have HI := Lib.hid hI
  go_enter Tryd.func23, Tryd.ntmps23
  go_wp2_with (go_at_call 36; refine (cw _ hI).mono ?_; rintro e w' ⟨rfl, rfl⟩)
  go_loopw [8, 9, 10, 11] (fun v8 v9 l i wr => ∃ (k : Nat) (s : Int), k ≤ n ∧ i = .int .i64 k ∧ l = .int .i64 s ∧ 0 ≤ s ∧ s ≤ m ∧ Hid (s = m - sm (qs m W zs) k) ∧ OwnI wr w.heap.size v8 ((qs m W zs).take k) k ∧ OwnI wr w.heap.size v9 ((rs m W zs).take k) k ∧
      (∀ g, v8.ownBlock = some g → v9.ownBlock ≠ some g) ∧ Below w.heap.size w wr) (fun _ _ _ i _ => n - (intOf i).toNat)
  case atStart => exact ⟨0, m, by omega, rfl, rfl, by omega, by omega, Lib.hid (by simp [sm]), World.ownsRow_nil _ _ _ _, World.ownsRow_nil _ _ _ _, fun g h => by simp [Value.ownBlock] at h, Below.refl _ _⟩
  case round =>
    obtain ⟨k, s, hk, rfl, rfl, s0, s1, hs, hown8, hown9, hd, bel⟩ := hrel
    by_cases hlt : k < n
    · obtain ⟨ad, off, rfl, hx⟩ := (ints_below HI.out bel).at_ (k := k) (by rw [hn.out]; exact hlt)
      obtain ⟨x0, x1⟩ := HW.out k
      have x2 : at0 zs k ≤ W := by rw [HD.out]; exact sm_ge_one (fun j => (HW.out j).1) hlt
      have q1 := share_le m0 x2 W0
      have q0 : 0 ≤ m * at0 zs k / W := Int.ediv_nonneg (Int.mul_nonneg m0 x0) (by omega)
      obtain ⟨e1, e2, e3⟩ := md_int (c := W) m0 x0 W0 (by omega)
      have cd := fun w => (md_any m (at0 zs k) W (by omega) (by omega) (by omega) (by omega) (by omega) (by omega) w).2
      rw [e1, e2, e3] at cd
      have eq := qs_at m W zs k
      have er := rs_at m W zs k
      have lq := qs_len m W zs
      have lr := rs_len m W zs
      rw [hn.out] at lq lr
      have sq := take_one (l := qs m W zs) (k := k) (by omega)
      have sr := take_one (l := rs m W zs) (k := k) (by omega)
      rw [eq] at sq
      rw [er] at sr
      have hb := left_bd m0 (fun j => (HW.out j).1) (show 0 < sm zs n by rw [← HD.out]; exact W0) (k + 1) (by omega)
      rw [← HD.out, sm, eq] at hb
      have hs2 : Hid (s - m * at0 zs k / W = m - sm (qs m W zs) (k + 1)) := Lib.hid (by rw [sm, eq, hs.out]; omega)
      have s2 : m * at0 zs k / W ≤ s := by have := hs.out; omega
      have SQ := Lib.hid sq
      have SR := Lib.hid sr
      have HB := Lib.hid bel
      have HD' := Lib.hid hd
      have hsz := bel.size
      have O8 := Lib.hid hown8
      have O9 := Lib.hid hown9
      clear sq sr bel hown8 hown9 hd eq er lq lr hb e1 e2 e3 hI cw
      generalize m * at0 zs k / W = Q at *
      generalize m * at0 zs k % W = T at *
      generalize at0 zs k = x at *
      go_wp2_with (first
        | (go_at_call 25; refine (cd _).mono ?_; rintro e w' ⟨rfl, rfl⟩)
        | (at_builtin; refine wpList_append_lies _ rfl (.tmp 43) (.tmp 45) _ rfl w.heap.size 3 i0 (.int .i64 0) 1 8 Tryd.underlying22 hi0 hz0 hz1 hz2 rfl (by omega) _ k _ (by rfl) (World.ownsRow.alloc O8.out _) ⟨wr.heap.size, 0, none⟩ 1 1 [.int .i64 Q] rfl rfl (World.news_of_block (cs := #[.int .i64 Q]) (t := 3) (fr := (0, 0)) (heap_alloc_new wr _)) (by simp [Value.oneCell']) (by omega) (by unfold maxLen; omega) (by omega) (by simp; omega) (wr.heap.size + 1) (by simp) ?_; intro g8 c8 w1 hown8 hgrow8 hat8 hlt8; have P9 := Lib.hid (own_keep1 O9.out HD'.out hgrow8); have N9 := Lib.hid (own_ne O9.out HD'.out hat8); have B1 := Lib.hid ((HB.out.alloc hsz _).grown hgrow8 (by simp; omega) (fun j hj => ((World.ownsRow.lt O8.out) j hj).1)); have hsz1 := B1.out.size; have P8 := Lib.hid hown8; clear hown8 hgrow8 hat8)
        | (at_builtin; refine wpList_append_lies _ rfl (.tmp 47) (.tmp 49) _ rfl w.heap.size 3 i0 (.int .i64 0) 1 8 Tryd.underlying22 hi0 hz0 hz1 hz2 rfl (by omega) _ k _ (by rfl) (World.ownsRow.alloc P9.out _) ⟨w1.heap.size, 0, none⟩ 1 1 [.int .i64 T] rfl rfl (World.news_of_block (cs := #[.int .i64 T]) (t := 3) (fr := (0, 0)) (heap_alloc_new w1 _)) (by simp [Value.oneCell']) (by omega) (by unfold maxLen; omega) (by omega) (by simp; omega) (w1.heap.size + 1) (by simp) ?_; intro g9 c9 w2 hown9 hgrow9 hat9 hlt9; have R8 := Lib.hid (own_keep2 P8.out N9.out hgrow9); have B2 := Lib.hid ((B1.out.alloc hsz1 _).grown hgrow9 (by simp; omega) (fun j hj => ((World.ownsRow.lt P9.out) j hj).1)); have P9' := Lib.hid hown9; have N2 : Hid (g8 ≠ g9) := Lib.hid (fun e => by rcases hat9 with h | h; exact N9.out (h.trans (congrArg some e.symm)); omega); clear hown9 hgrow9 hat9))
      go_roundw
      case rel =>
        refine ⟨k + 1, s - Q, by omega, by go_num, rfl, by omega, by omega, hs2, ?_, ?_, ?_, B2.out⟩
        · unfold OwnI; rw [← SQ.out]; exact R8.out
        · unfold OwnI; rw [← SR.out]; exact P9'.out
        · intro g h
          simp [Value.ownBlock] at h ⊢
          have := N2.out; omega
      case measure => simp [intOf]; omega
    · have e : k = n := by omega
      subst e
      have lq := qs_len m W zs
      have lr := rs_len m W zs
      rw [hn.out] at lq lr
      rw [List.take_of_length_le (by omega)] at hown8 hown9
      obtain ⟨g8, c8, rfl, b8, lt8⟩ := World.ownsRow.form hown8 (by omega)
      obtain ⟨g9, c9, rfl, b9, lt9⟩ := World.ownsRow.form hown9 (by omega)
      have hne : g8 ≠ g9 := fun e => hd g8 rfl (by rw [e]; rfl)
      have hL := left_eq m zs k
      rw [← HD.out, ← hs.out] at hL
      have HL := Lib.hid hL
      have HR : Hid (∀ j, at0 (rs m W zs) j < W) := Lib.hid fun j => (rs_bd W0 zs j).2
      have HQ : Hid (∀ j, 0 ≤ at0 (qs m W zs) j ∧ at0 (qs m W zs) j ≤ m) := Lib.hid fun j => by
        have h1 := qs_nn m0 W0 (fun j => (HW.out j).1) j
        refine ⟨h1, ?_⟩
        rw [qs_at]
        refine share_le m0 ?_ W0
        rcases Nat.lt_or_ge j k with hj | hj
        · rw [HD.out]; exact sm_ge_one (fun j => (HW.out j).1) hj
        · rw [at0_out (by rw [hn.out]; exact hj)]; omega
      have HPt : Hid (parts m zs = (give (-1) (qs m W zs) (rs m W zs) s.toNat).1) := Lib.hid (by
        rw [give_same lq lr W0 HR.out hL s.toNat (by omega)]
        unfold parts; rw [hn.out, ← HD.out, ← hs.out])
      have LQ := Lib.hid lq
      have LR := Lib.hid lr
      clear lq lr hL hs HW HD cw hlt hk HI hE hI hd
      generalize qs m W zs = q at *
      generalize rs m W zs = r at *
      obtain ⟨L, rfl⟩ := Int.eq_ofNat_of_zero_le s0
      rw [Int.toNat_natCast] at HPt
      have NE := Lib.hid hne
      have HO8 := Lib.hid hown8
      have HO9 := Lib.hid hown9
      have HB := Lib.hid bel
      clear hown8 hown9 bel hne
      go_wp2
      go_loopw [10] (fun l wr => ∃ j d : Nat, j + d = L ∧ l = .int .i64 d ∧ OwnI wr w.heap.size (.slice (some ⟨g8, 0, none⟩) k c8) (give (-1) q r j).1 k ∧ OwnI wr w.heap.size (.slice (some ⟨g9, 0, none⟩) k c9) (give (-1) q r j).2 k ∧ Below w.heap.size w wr) (fun l _ => (intOf l).toNat)
      case atStart => exact ⟨0, L, by omega, rfl, HO8.out, HO9.out, HB.out⟩
      case round =>
        obtain ⟨j, d, hjd, rfl, hown8, hown9, bel⟩ := hrel
        have HJ := Lib.hid hjd
        have hjL : j ≤ L := by omega
        have hdL : (d : Int) ≤ 1000000000000 := by omega
        clear hjd
        by_cases hlt : 0 < d
        · have hjlt : j < L := by have := HJ.out; omega
          have hg := give_giv (z := -1) LQ.out LR.out (by omega) (by omega) W0 HR.out HL.out j (by omega)
          have hnx := hg.next (by omega) W0 HL.out (by omega)
          have lp := hg.lp
          have lr := hg.lr
          have e1 : Hid ((give (-1) q r (j + 1)).1 = (give (-1) q r j).1.set (gr (give (-1) q r j).2 k) (at0 (give (-1) q r j).1 (gr (give (-1) q r j).2 k) + 1)) := Lib.hid (by rw [← lr]; rfl)
          have e2 : Hid ((give (-1) q r (j + 1)).2 = (give (-1) q r j).2.set (gr (give (-1) q r j).2 k) (-1)) := Lib.hid (by rw [← lr]; rfl)
          have hq := HQ.out (gr (give (-1) q r j).2 k)
          have hgk := hnx.1
          rw [← hnx.2.2.1] at hq
          clear hg hnx
          generalize (give (-1) q r j).1 = p at *
          generalize (give (-1) q r j).2 = rr at *
          obtain ⟨G, hG⟩ : ∃ G, G = gr rr k := ⟨_, rfl⟩
          rw [← hG] at e1 e2 hq hgk
          have HG := Lib.hid hG
          have LP := Lib.hid lp
          have LRR := Lib.hid lr
          have c8c := own_cell lp hown8 (j := G) hgk
          have c9c := own_cell lr hown9 (j := G) hgk
          have f8 := World.ownsRow.frozenAt hown8 G
          have f9 := World.ownsRow.frozenAt hown9 G
          have I9 := Lib.hid (own_ints lr hown9)
          have O8 := Lib.hid hown8
          have O9 := Lib.hid hown9
          have HB2 := Lib.hid bel
          have n89 : g8 ≠ g9 := NE.out
          have n98 : g9 ≠ g8 := Ne.symm NE.out
          have hlt2 : (0 : Int) < (d : Int) := by omega
          have cg := fun w (h : Ints w (some ⟨g9, 0, none⟩) rr) => rgreatest_any (some ⟨g9, 0, none⟩) k c9 G rr LRR (by omega) (by omega) HG w h
          obtain ⟨d', rfl⟩ : ∃ d', d = d' + 1 := ⟨d - 1, by omega⟩
          clear hG lp lr hown8 hown9 bel HO8 HO9 HB
          generalize at0 p G = x at *
          generalize at0 rr G = y at *
          go_wp2_with (go_at_call 37; refine (cg _ I9.out).mono ?_; rintro e w' ⟨rfl, kk, rfl⟩)
          go_roundw
          case rel =>
            refine ⟨j + 1, d', by have := HJ.out; omega, by go_num, ?_, ?_, ?_⟩
            · rw [e1.out]; exact own_far (own_set (own_drewN O8.out _) G (x + 1)) (p := ⟨g9, G, none⟩) n89 _
            · rw [e2.out]; exact own_set (own_far (own_drewN O9.out _) (p := ⟨g8, G, none⟩) n98 _) G (-1)
            · exact ((bel_drewN HB2.out _).setCell (p := ⟨g8, G, none⟩) b8 _).setCell (p := ⟨g9, G, none⟩) b9 _
          case measure => simp [intOf]
        · obtain rfl : d = 0 := by omega
          have e : j = L := by have := HJ.out; omega
          subst e
          rw [← HPt.out] at hown8
          have I8 := Lib.hid (own_ints (by
            have hg := give_giv (z := -1) LQ.out LR.out (by omega) (by omega) W0 HR.out HL.out j (by omega)
            rw [HPt.out]; exact hg.lp) hown8)
          have HB2 := Lib.hid bel
          clear hown8 hown9 bel HO8 HO9 HB
          go_wp2
          go_ret2
          exact ⟨g8, c8, rfl, I8.out, b8, HB2.out⟩
end Go.Proofs.YtkblcnomjgocmaaDoor.monD

/-
  The contract of the program's Scan.
-/
import Derived.Test.YtgmnoghmkbbheaaLxH
namespace Go.Proofs.Ytgmnoghmkbbheaa.lxI
open Go.RowKit Go.Shelf
open Go.Proofs.Ytgmnoghmkbbheaa.lxM Go.Proofs.Ytgmnoghmkbbheaa.lxN Go.Proofs.Ytgmnoghmkbbheaa.lxA Go.Proofs.Ytgmnoghmkbbheaa.lxC Go.Proofs.Ytgmnoghmkbbheaa.lxE Go.Proofs.Ytgmnoghmkbbheaa.lxG Go.Proofs.Ytgmnoghmkbbheaa.lxH
set_option linter.unusedVariables false

/-! ### the position in memory, the row of tokens beside it -/
def Pos (w : World) (p : Nat) (x y : Nat) : Prop := w.heap[p]? = some (.cells #[.int .i64 (x : Int), .int .i64 (y : Int)] 39 (0, 0))
theorem pos_lt {w : World} {p x y : Nat} (h : Pos w p x y) : p < w.heap.size := by
  rcases Nat.lt_or_ge p w.heap.size with h' | h'
  · exact h'
  · unfold Pos at h; rw [Array.getElem?_eq_none h'] at h; cases h
theorem pos_c0 {w : World} {p x y : Nat} (h : Pos w p x y) : w.cell? ⟨p, 0, none⟩ = some (.int .i64 (x : Int)) := by unfold Pos at h; simp [World.cell?, h]
theorem pos_c1 {w : World} {p x y : Nat} (h : Pos w p x y) : w.cell? ⟨p, 1, none⟩ = some (.int .i64 (y : Int)) := by unfold Pos at h; simp [World.cell?, h]
theorem pos_free {w : World} {p x y : Nat} (h : Pos w p x y) (j : Nat) : w.frozen? ⟨p, j, none⟩ = false := by unfold Pos at h; simp [World.frozen?, h]
theorem pos_below {w w' : World} {p x y : Nat} (h : Pos w p x y) (hb : Below w.heap.size w w') : Pos w' p x y := (hb.block p (pos_lt h)).trans h
theorem pos_below' {w w' : World} {B p x y : Nat} (h : Pos w p x y) (hb : Below B w w') (hp : p < B) : Pos w' p x y := (hb.block p hp).trans h
theorem pos_set {w : World} {p x y : Nat} (h : Pos w p x y) (X Y : Nat) : Pos ((w.setCell ⟨p, 0, none⟩ (.int .i64 (X : Int))).setCell ⟨p, 1, none⟩ (.int .i64 (Y : Int))) p X Y := by
  unfold Pos at h ⊢
  simp [World.setCell, Array.getElem?_modify, h]
/-- a row of tokens is kept where its blocks are -/
theorem owt_keep {w w' : World} {B : Nat} {v : Value} {l : List Tk} (h : OwT w B v l) (hk : ∀ g, B ≤ g → g < w.heap.size → w'.heap[g]? = w.heap[g]?) : OwT w' B v l := by
  refine ⟨h.1, ?_⟩
  rcases h.2 with ⟨rfl, h0⟩ | ⟨g, cap, cur, rfl, hg, hh, r⟩
  · exact .inl ⟨rfl, h0⟩
  · refine .inr ⟨g, cap, cur, rfl, hg, ?_, r⟩
    rw [hk g hg (World.ownsRow.lt h g rfl).2]; exact hh
theorem owt_below {w w' : World} {B : Nat} {v : Value} {l : List Tk} (h : OwT w B v l) (hb : Below w.heap.size w w') : OwT w' B v l := owt_keep h fun g _ hg => hb.block g hg
theorem owt_set {w : World} {B : Nat} {v : Value} {l : List Tk} (h : OwT w B v l) {p : Nat} (hp : p < B) (a b : Value) : OwT ((w.setCell ⟨p, 0, none⟩ a).setCell ⟨p, 1, none⟩ b) B v l := owt_keep h fun g hg _ => by
  rw [Below.heap_setCell _ ⟨p, 1, none⟩ b g (by simp; omega), Below.heap_setCell _ ⟨p, 0, none⟩ a g (by simp; omega)]
theorem below_set2 {w0 w : World} {p : Nat} (h : Below w0.heap.size w0 w) (hp : w0.heap.size ≤ p) (a b : Value) : Below w0.heap.size w0 ((w.setCell ⟨p, 0, none⟩ a).setCell ⟨p, 1, none⟩ b) :=
  (h.setCell (p := ⟨p, 0, none⟩) hp a).setCell (p := ⟨p, 1, none⟩) hp b
theorem scp_row1 {w w' : World} {B : Nat} {v : Value} {X : List Tk} {E o : Nat} (h : OwT w' B v X) (hb : Below w.heap.size w w') : ScP w X E o (.returned (.tuple #[v, .int .i64 (E : Int), .int .i64 (o : Int)])) w' := by
  obtain ⟨A, c, rfl, hc, hT, _, _⟩ := owt_form h
  exact ⟨A, X.length, c, rfl, rfl, hc, hT, hb⟩

set_option maxRecDepth 10000 in
set_option maxHeartbeats 400000 in
theorem scan_long (s : ByteArray) (h : 32768 < s.size) (hs : s.size ≤ 1000000) (w : World) :
    Calls Try.prog 11 #[.string s] w (ScP w [] 3 0) := by
  have t : (32768 : Int) < (s.size : Int) := by omega
  go_enter Try.func11, Try.ntmps11
  go_wp2_with fail
  go_ret3
  exact scp_nil w w 3 0 (Below.refl _ _)
set_option maxRecDepth 10000 in
set_option maxHeartbeats 4000000 in
theorem scan_any (s : ByteArray) (hs : s.size ≤ 32768) (X : List Tk) (E o : Nat) (hX : Hid (Out s.data.toList (sk false s.data.toList) [] X E o)) (w : World) :
    Calls Try.prog 11 #[.string s] w (ScP w X E o) := by
  obtain ⟨L, hL⟩ : ∃ L, L = s.data.toList := ⟨_, rfl⟩
  have hsz : s.size = L.length := by rw [hL]; exact size_len s
  have hext : ∀ b d, b + d ≤ s.size → (s.extract b (b + d)).size = d ∧ (s.extract b (b + d)).data.toList = (L.drop b).take d := fun b d h => by
    have e : (s.extract b (b + d)).data.toList = (L.drop b).take d := by
      rw [hL, Lib.extract_data]; congr 1; omega
    exact ⟨by rw [size_len, e, List.length_take, List.length_drop]; omega, e⟩
  have hcut : ∀ b d, s.extract b (b + d) = cut L b d := fun b d => by
    rw [cut_s, hL]; congr 1; omega
  have HX := Lib.hid hext
  have HCt := Lib.hid hcut
  have HS := Lib.hid hsz
  rw [← hL] at hX
  have t : ¬ (32768 : Int) < (s.size : Int) := by omega
  clear hL hsz hext hcut
  go_enter Try.func11, Try.ntmps11
  go_wp2_with fail
  go_loopw [5, 7] (fun s5 s7 wr => ∃ (a x y : Nat) (pre : List Tk), a ≤ s.size ∧ s7 = .int .i64 (a : Int) ∧ x ≤ a + 1 ∧ y ≤ a + 1 ∧ Hid (x = ln L a) ∧ Hid (y + ls L a = a + 1) ∧ pre.length ≤ a ∧ Hid (Pos wr w.heap.size x y) ∧ Hid (OwT wr (w.heap.size + 1) s5 pre) ∧ Hid (Below w.heap.size w wr) ∧ Hid (Out L (a + sk false (L.drop a)) pre X E o)) (fun _ s7 _ => s.size - (intOf s7).toNat)
  case atStart => exact ⟨0, 1, 1, [], Nat.zero_le _, rfl, by omega, by omega, Lib.hid rfl, Lib.hid rfl, Nat.zero_le _, Lib.hid (heap_alloc_new w _), Lib.hid (owt_nil _ _), Lib.hid ((Below.refl _ w).alloc (Nat.le_refl _) _), Lib.hid (by rw [List.drop_zero, Nat.zero_add]; exact hX.out)⟩
  case round =>
    obtain ⟨a, x, y, pre, ha, rfl, hx, hy, HXl, HY, hpl, HPos, HO, HB, HOut⟩ := hrel
    have p0 := pos_c0 HPos.out
    have p1 := pos_c1 HPos.out
    have a0 : (0 : Int) ≤ (a : Int) := by omega
    have a1 : (a : Int) ≤ (s.size : Int) := by omega
    by_cases hlt : a < s.size
    · have hlt2 : a < L.length := by rw [← HS.out]; exact hlt
      cases hr : rd (L.drop a) with
      | mk n k =>
      have e1 : (s.extract a s.size) = s.extract a (a + (s.size - a)) := by congr 1; omega
      obtain ⟨q1, q2⟩ := HX.out a (s.size - a) (by omega)
      rw [← e1] at q1 q2
      have q3 : (s.extract a s.size).data.toList = L.drop a := by rw [q2, HS.out, List.take_of_length_le (by rw [List.length_drop]; omega)]
      have cr := fun w => read_any (s.extract a s.size) n k (by omega) (Lib.hid (by rw [q3]; exact hr)) (by omega) w
      clear e1 q1 q2 q3
      rcases lxE.step HOut.out hlt2 hr with ⟨rfl, rfl, rfl, rfl⟩ | ⟨h1, h2, rfl, h3⟩ | ⟨h1, h2, h3, h4⟩
      · go_wp2_with (go_at_call 19; (refine (cr _).mono ?_); rintro e w2 ⟨K, rfl, _, b1⟩)
        go_ret3
        exact scp_nil _ _ _ _ (below_on HB.out b1)
      · rw [← HS.out] at h2
        obtain ⟨T, hT⟩ : ∃ T, T = s.extract a (a + n) := ⟨_, rfl⟩
        obtain ⟨m1, m2⟩ := HX.out a n (by omega)
        rw [← hT] at m1 m2
        obtain ⟨X2, hX2⟩ : ∃ X2, X2 = ln L (a + n) := ⟨_, rfl⟩
        obtain ⟨Y2, hY2⟩ : ∃ Y2, Y2 + ls L (a + n) = a + n + 1 := ⟨a + n + 1 - ls L (a + n), by have := ls_le L (a + n); omega⟩
        have hbp := behind_pos HXl.out HY.out hX2 hY2 m2 (by rw [← size_len]; exact m1)
        have cb := fun w => behind_any x y X2 Y2 (ls T.data.toList T.size) T (Lib.hid rfl) (Lib.hid (by rw [m1]; exact hbp)) (by omega) (by omega) (by omega) w
        have hX3 : X2 ≤ a + n + 1 := by rw [hX2]; exact ln_le L (a + n)
        have hY3 : Y2 ≤ a + n + 1 := by omega
        have HX2 := Lib.hid hX2
        have HY2 := Lib.hid hY2
        have H3 := Lib.hid h3
        obtain ⟨z, hz⟩ : ∃ z, z = a + n := ⟨_, rfl⟩
        have hzi : IntKind.i64.wrap ((a : Int) + (n : Int)) = (z : Int) := by simp [IntKind.wrap, IntKind.bits, IntKind.signed]; omega
        rw [← hz] at hT hX3 hY3 HX2 HY2 H3
        have z0 : (0 : Int) ≤ (z : Int) := by omega
        have z1 : (z : Int) ≤ (s.size : Int) := by omega
        have z2 : (a : Int) ≤ (z : Int) := by omega
        have te : ((n : Int) == 0) = false := by rw [beq_eq_false_iff_ne]; omega
        rw [hT] at cb
        have hz3 : z ≤ s.size := by omega
        have hplz : pre.length ≤ z := by omega
        have hza : s.size - z < s.size - a := by omega
        clear hT m1 m2 hX2 hY2 hbp hr h2 h3 HXl HY hz
        go_wp2_with (first
          | (go_at_call 19; (refine (cr _).mono ?_); rintro e w2 ⟨K, rfl, hK, b1⟩; (obtain rfl := hK h1); have P2 := pos_below HPos.out b1; have c0 := pos_c0 P2; have c1 := pos_c1 P2)
          | (go_at_call 21; (refine (cb _).mono ?_); rintro e w3 ⟨rfl, b2⟩; have P3 := pos_below P2 b2; have d0 := pos_c0 P3; have d1 := pos_c1 P3; have d2 := pos_free P3 0; have d3 := pos_free P3 1))
        go_roundw
        case rel => exact ⟨z, X2, Y2, pre, hz3, rfl, hX3, hY3, HX2, HY2, hplz, Lib.hid (pos_set P3 X2 Y2), Lib.hid (owt_set (owt_below (owt_below HO.out b1) b2) (Nat.lt_succ_self _) _ _), Lib.hid (below_set2 (below_on (below_on HB.out b1) b2) (Nat.le_refl _) _ _), H3⟩
        case measure => simp [intOf]; omega
      · rw [← HS.out] at h2
        obtain ⟨T, hT⟩ : ∃ T, T = s.extract a (a + n) := ⟨_, rfl⟩
        obtain ⟨m1, m2⟩ := HX.out a n (by omega)
        rw [← hT] at m1 m2
        obtain ⟨X2, hX2⟩ : ∃ X2, X2 = ln L (a + n) := ⟨_, rfl⟩
        obtain ⟨Y2, hY2⟩ : ∃ Y2, Y2 + ls L (a + n) = a + n + 1 := ⟨a + n + 1 - ls L (a + n), by have := ls_le L (a + n); omega⟩
        have hbp := behind_pos HXl.out HY.out hX2 hY2 m2 (by rw [← size_len]; exact m1)
        have cb := fun w => behind_any x y X2 Y2 (ls T.data.toList T.size) T (Lib.hid rfl) (Lib.hid (by rw [m1]; exact hbp)) (by omega) (by omega) (by omega) w
        have hX3 : X2 ≤ a + n + 1 := by rw [hX2]; exact ln_le L (a + n)
        have hY3 : Y2 ≤ a + n + 1 := by omega
        have HX2 := Lib.hid hX2
        have HY2 := Lib.hid hY2
        have hTk : (⟨(k : Int), (x : Int), (y : Int), T⟩ : Tk) = tk L (a, n, k) := by
          have u1 := HXl.out
          have u2 := HY.out
          have u3 := ls_le L a
          show _ = (⟨(k : Int), (ln L a : Int), ((a - ls L a + 1 : Nat) : Int), cut L a n⟩ : Tk)
          rw [← u1, show a - ls L a + 1 = y by omega, hT, HCt.out]
        rw [← hTk] at h4
        have H4 := Lib.hid h4
        have ct := fun w => token_any x y k T w
        obtain ⟨z, hz⟩ : ∃ z, z = a + n := ⟨_, rfl⟩
        have hzi : IntKind.i64.wrap ((a : Int) + (n : Int)) = (z : Int) := by simp [IntKind.wrap, IntKind.bits, IntKind.signed]; omega
        rw [← hz] at hT hX3 hY3 HX2 HY2 H4
        rw [hT] at cb ct H4
        have z0 : (0 : Int) ≤ (z : Int) := by omega
        have z1 : (z : Int) ≤ (s.size : Int) := by omega
        have z2 : (a : Int) ≤ (z : Int) := by omega
        have te : ((n : Int) == 0) = false := by rw [beq_eq_false_iff_ne]; omega
        have tk0 : ((k : Int) != 0) = true := by rw [bne_iff_ne]; omega
        have hz3 : z ≤ s.size := by omega
        have hplz : pre.length + 1 ≤ z := by omega
        have hpl2 : pre.length ≤ 1000000000 := by omega
        have hza : s.size - z < s.size - a := by omega
        clear hT m1 m2 hX2 hY2 hbp hr h2 h4 HXl HY hz hTk
        go_wp2_with (first
          | (go_at_call 19; (refine (cr _).mono ?_); rintro e w2 ⟨K, rfl, hK, b1⟩; (obtain rfl := hK h1); have P2 := pos_below HPos.out b1; have c0 := pos_c0 P2; have c1 := pos_c1 P2)
          | (go_at_call 20; (refine (ct _).mono ?_); rintro e w3 ⟨rfl, b2⟩; have P3 := pos_below P2 b2; have O3 := owt_below (owt_below HO.out b1) b2; have B3 := below_on (below_on HB.out b1) b2; have l3 := pos_lt P3)
          | (refine push_tok rfl (.tmp 37) (.tmp 42) rfl w3 (w.heap.size + 1) u5 pre ⟨(K : Int), (x : Int), (y : Int), s.extract a z⟩ (by rfl) O3 (by rfl) hpl2 (by omega) ?_; intro v' w4 O4 B4; have P4 := pos_below' P3 B4 (Nat.lt_succ_self _); have c0 := pos_c0 P4; have c1 := pos_c1 P4)
          | (go_at_call 21; (refine (cb _).mono ?_); rintro e w5 ⟨rfl, b5⟩; have P5 := pos_below P4 b5; have d0 := pos_c0 P5; have d1 := pos_c1 P5; have d2 := pos_free P5 0; have d3 := pos_free P5 1))
        go_roundw
        case rel => exact ⟨z, X2, Y2, _, hz3, rfl, hX3, hY3, HX2, HY2, by rw [List.length_append]; simp; omega, Lib.hid (pos_set P5 X2 Y2), Lib.hid (owt_set (owt_below O4 b5) (Nat.lt_succ_self _) _ _), Lib.hid (below_set2 (below_on (B3.trans (B4.mono (Nat.le_succ _))) b5) (Nat.le_refl _) _ _), H4⟩
        case measure => simp [intOf]; omega
    · obtain rfl : a = s.size := by omega
      have he2 : s.size = L.length := HS.out
      have hout := HOut.out
      rw [he2, List.drop_eq_nil_of_le (Nat.le_refl _)] at hout
      obtain ⟨rfl, rfl, rfl⟩ := out_end hout
      have hTk : (⟨0, (x : Int), (y : Int), ⟨#[]⟩⟩ : Tk) = tkE L := by
        have u1 := HXl.out
        have u2 := HY.out
        rw [he2] at u1 u2
        have u3 := ls_le L L.length
        unfold tkE
        rw [← u1, show L.length - ls L L.length + 1 = y by omega]
      have HTk := Lib.hid hTk
      have ct := fun w => token_any x y 0 ⟨#[]⟩ w
      have hpl2 : pre.length ≤ 1000000000 := by omega
      clear hout he2 hTk HOut HXl HY
      go_wp2_with (first
        | (go_at_call 20; (refine (ct _).mono ?_); rintro e w3 ⟨rfl, b2⟩; have P3 := pos_below HPos.out b2; have O3 := owt_below HO.out b2; have B3 := below_on HB.out b2; have l3 := pos_lt P3)
        | (refine push_tok rfl (.tmp 50) (.tmp 53) rfl w3 (w.heap.size + 1) u5 pre ⟨0, (x : Int), (y : Int), ⟨#[]⟩⟩ (by rfl) O3 (by rfl) hpl2 (by omega) ?_; intro v' w4 O4 B4))
      go_ret3
      exact scp_row1 (by rw [← HTk.out]; exact O4) (B3.trans (B4.mono (Nat.le_succ _)))
end Go.Proofs.Ytgmnoghmkbbheaa.lxI

/-
  The law WireRoundTrips, over any writer, reader, Frame and Next that keep the records of contracts.
-/
import Derived.Test.YtpmmddemeiljjaaWrV
namespace Go.Proofs.Ytpmmddemeiljjaa.wrX
open Go.RowKit
open Go.Proofs.Ytpmmddemeiljjaa.dgM Go.Proofs.Ytpmmddemeiljjaa.wrM Go.Proofs.Ytpmmddemeiljjaa.wrO Go.Proofs.Ytpmmddemeiljjaa.wrA Go.Proofs.Ytpmmddemeiljjaa.wrB Go.Proofs.Ytpmmddemeiljjaa.wrC Go.Proofs.Ytpmmddemeiljjaa.wrE Go.Proofs.Ytpmmddemeiljjaa.wrH Go.Proofs.Ytpmmddemeiljjaa.wrQ Go.Proofs.Ytpmmddemeiljjaa.wrL Go.Proofs.Ytpmmddemeiljjaa.wrW Go.Proofs.Ytpmmddemeiljjaa.wrV
set_option linter.unusedVariables false

theorem wX_len (x : It) (hs : x.s.size ≤ 5000) (hl : x.l.length ≤ 5000) : (wX x).length ≤ 50010 := by
  unfold wX
  split
  · have := wrD.wI_len x.n; omega
  · split
    · have := vr_len x.u; omega
    · split
      · unfold wT
        have := vr_len x.s.data.toList.length
        have hz : x.s.data.toList.length = x.s.size := by show _ = x.s.data.size; simp
        rw [List.length_append]; omega
      · unfold wL
        have := vr_len x.l.length
        have := wrD.wN_len x.l
        rw [List.length_append]; omega
theorem wXs_len : ∀ (xs : List It), (∀ x ∈ xs, x.s.size ≤ 5000 ∧ x.l.length ≤ 5000) → (wXs xs).length ≤ 50010 * xs.length
  | [], _ => Nat.le_refl _
  | x :: xs, h => by
    have h1 := h x (by simp)
    have h2 := wXs_len xs (fun y hy => h y (by simp [hy]))
    have h3 := wX_len x h1.1 h1.2
    show (wX x ++ wXs xs).length ≤ _
    rw [List.length_append, List.length_cons]; omega
theorem wXs_drop {xs : List It} {k : Nat} (h : k < xs.length) : wXs (xs.drop k) = wX xs[k] ++ wXs (xs.drop (k + 1)) := by
  rw [List.drop_eq_getElem_cons h]; rfl
theorem wXs_drop_le (xs : List It) (k : Nat) : (wXs (xs.drop k)).length ≤ (wXs xs).length := by
  have h : wXs xs = wXs (xs.take k) ++ wXs (xs.drop k) := by
    unfold wXs
    rw [← List.flatMap_append, List.take_append_drop]
  rw [h, List.length_append]; omega
set_option maxRecDepth 10000 in
set_option maxHeartbeats 2000000 in
theorem roundtrips (P : PWr) (Q : PRd) (H : PFr) (A : Option Addr) (n c : Nat) (xs : List It) (hn : Hid (xs.length = n)) (hN : n ≤ 9223372036854775807) (w : World) (hI : Its w A xs) :
    Calls Try.prog 5 #[.slice A n c] w fun e w' => e = .returned (.bool true) ∧ Below w.heap.size w w' := by
  by_cases hf : Few xs
  · have cf := fun w h => few_any A n c xs hn hN true (Lib.hid ⟨fun _ => hf, fun _ => rfl⟩) w h
    have hn2 : n ≤ 200 := by rw [← hn.out]; exact hf.1
    have hall : ∀ x ∈ xs, x.s.size ≤ 5000 ∧ x.l.length ≤ 5000 := fun x hx => by
      obtain ⟨j, hj, rfl⟩ := List.mem_iff_getElem.1 hx
      exact hf.2 j hj
    have hlen : (wXs xs).length ≤ 10100000 := by
      have := wXs_len xs hall
      rw [hn.out] at this; omega
    have HF : Hid (∀ k (h : k < xs.length), xs[k].s.size ≤ 100000 ∧ xs[k].l.length ≤ 100000) := Lib.hid fun k h => by
      have := hf.2 k h; omega
    have cw := fun p F w' hb hF hW => write_any P A n c xs hn (by omega) p F [] (Lib.hid (by rw [List.nil_append]; omega)) HF w w' hI hb hF hW
    obtain ⟨X, hX⟩ : ∃ X, X = wXs xs := ⟨_, rfl⟩
    rw [List.nil_append, ← hX] at cw
    have hXl : X.length ≤ 10100000 := by rw [hX]; exact hlen
    have cb := fun p F w h => P.bytes p F X (by omega) w h
    have cn := fun A c h1 h2 w hC => Q.new A c X (by omega) h1 h2 w hC
    have HX := Lib.hid hX
    clear hX hf hall
    go_enter Try.func5, Try.ntmps5
    go_wp2_with (first
      | (go_at_call 11; (with_reducible refine (cf _ hI).mono ?_); rintro e w' ⟨rfl, rfl⟩)
      | (go_at_call 13; (refine (P.new _).mono ?_); rintro e w1 ⟨p, F1, rfl, O1, B1, G1⟩)
      | (go_at_call 15; (refine (cw _ _ _ B1 G1 O1).mono ?_); rintro e w2 ⟨rfl, F2, O2, M2, N2⟩; have B2 := M2.below B1 G1; have G2 := nw_ge N2 G1 B1.size)
      | (go_at_call 20; (refine (cb _ _ _ O2).mono ?_); rintro e w3 ⟨A3, n3, c3, F3, rfl, C3, rfl, hc3, hA3, O3, M3, N3⟩; have B3 := M3.below B2 G2)
      | (go_at_call 22; (refine (cn _ _ hc3 hA3 _ C3).mono ?_); rintro e w4 ⟨r, F4, rfl, O4, B34, G34⟩; have B4 := below_on B3 B34; have G4 : ∀ k ∈ F4, w.heap.size ≤ k := (fun k hk => Nat.le_trans B3.size (G34 k hk))))
    go_loopw [23] (fun s23 wr => ∃ (k : Nat) (G : List Nat), k ≤ n ∧ s23 = .int .i64 (k : Int) ∧ Hid (Q.O wr r G (.ok (wXs (xs.drop k)))) ∧ Below w.heap.size w wr ∧ Hid (∀ j ∈ G, w.heap.size ≤ j)) (fun s23 _ => n - (intOf s23).toNat)
    case atStart => exact ⟨0, F4, Nat.zero_le _, rfl, Lib.hid (by rw [List.drop_zero, ← HX.out]; exact O4), B4, Lib.hid G4⟩
    case round =>
      obtain ⟨k, G, hk, rfl, HO, hB, HG⟩ := hrel
      by_cases hlt : k < n
      · have hk2 : k < xs.length := by rw [hn.out]; exact hlt
        obtain ⟨b0, off0, e0, hx0⟩ := hI.at_ (k := k) hk2
        obtain ⟨b, off, rfl, hx⟩ := (hI.below hB).at_ (k := k) hk2
        obtain ⟨h0, h1, h2, h3, h4, h5, h6⟩ := hx
        have hst := wXs_drop hk2
        have hle := wXs_drop_le xs k
        have hsz2 := HF.out k hk2
        have hO := HO.out
        rw [hst] at hO hle
        have hd : 0 < xs[k].l.length → ∀ b off, xs[k].A = some ⟨b, off, none⟩ → b ∉ G := fun hp b off e hg => by
          obtain ⟨b', off', e', hc'⟩ := hx0.2.2.2.2.2.1 hp
          rw [e] at e'
          injection e' with e'
          injection e' with e1 e2
          have := World.block_lt_of_cell? w _ (hc' 0 _ (iat_some hp))
          have := HG.out b hg
          simp at *
          omega
        have ce := equal_any Q xs[k] h6 hsz2 r G (wXs (xs.drop (k + 1))) (by omega) wr hO h5 hd
        obtain ⟨rest, hrest⟩ : ∃ rest, rest = wXs (xs.drop (k + 1)) := ⟨_, rfl⟩
        rw [← hrest] at ce
        have cr : ∀ G w, Q.O w r G (.ok rest) → Calls Try.prog 35 #[ptr r] w (Ost Q.O w r G (.int .i64 0) (.ok rest)) := fun G w h => Q.err r G (.ok rest) w h
        have HR := Lib.hid hrest
        have i0 : (0 : Int) ≤ (k : Int) := by omega
        have i1 : (k : Int) < (n : Int) := by omega
        clear hx0 e0 hst hle hsz2 hd h5 h6 hO hrest
        generalize xs[k] = x at *
        go_wp2_with (first
          | (go_at_call 37; (refine ce.mono ?_); rintro e w5 ⟨rfl, F5, O5, M5, N5⟩; have B5 := M5.below hB HG.out; have G5 := nw_ge N5 HG.out hB.size)
          | (go_at_call 35; (refine (cr _ _ O5).mono ?_); rintro e w6 ⟨rfl, F6, O6, M6, N6⟩; have B6 := M6.below B5 G5; have G6 := nw_ge N6 G5 B5.size))
        go_roundw
        case rel => exact ⟨k + 1, F6, by omega, by go_num, Lib.hid (by rw [← HR.out]; exact O6), B6, Lib.hid G6⟩
        case measure => simp [intOf]; omega
      · obtain rfl : k = n := by omega
        have hO := HO.out
        have he : wXs (xs.drop k) = [] := by rw [List.drop_eq_nil_of_le (by rw [hn.out]; exact Nat.le_refl _)]; rfl
        rw [he] at hO
        have cl : ∀ G w, Q.O w r G (.ok []) → Calls Try.prog 33 #[ptr r] w (Ost Q.O w r G (.int .i64 0) (.ok [])) := fun G w h => Q.left r G (.ok []) (by decide) w h
        have cr : ∀ G w, Q.O w r G (.ok []) → Calls Try.prog 35 #[ptr r] w (Ost Q.O w r G (.int .i64 0) (.ok [])) := fun G w h => Q.err r G (.ok []) w h
        clear he
        go_wp2_with (first
          | (go_at_call 33; (refine (cl _ _ hO).mono ?_); rintro e w5 ⟨rfl, F5, O5, M5, N5⟩; have B5 := M5.below hB HG.out; have G5 := nw_ge N5 HG.out hB.size)
          | (go_at_call 35; (refine (cr _ _ O5).mono ?_); rintro e w6 ⟨rfl, F6, O6, M6, N6⟩; have B6 := M6.below B5 G5)
          | (go_at_call 12; (refine (awake_any P Q H _).mono ?_); rintro e w7 ⟨rfl, B7⟩))
        go_ret
        exact ⟨rfl, below_on B6 B7⟩
  · have cf := fun w h => few_any A n c xs hn hN false (Lib.hid ⟨fun h => absurd h (by simp), fun h => absurd h hf⟩) w h
    clear hf
    go_enter Try.func5, Try.ntmps5
    go_wp2_with (first
      | (go_at_call 11; (with_reducible refine (cf _ hI).mono ?_); rintro e w' ⟨rfl, rfl⟩)
      | (go_at_call 12; (refine (awake_any P Q H _).mono ?_); rintro e w6 ⟨rfl, B6⟩))
    go_ret
    exact ⟨rfl, B6⟩
end Go.Proofs.Ytpmmddemeiljjaa.wrX

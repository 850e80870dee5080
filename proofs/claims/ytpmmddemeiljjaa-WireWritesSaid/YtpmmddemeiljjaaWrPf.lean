/-
  Contracts of the program's Frame; of Next where it refuses.
-/
import Derived.Test.YtpmmddemeiljjaaWrPe
namespace Go.Proofs.Ytpmmddemeiljjaa.wrPf
open Go.RowKit
open Go.Proofs.Ytpmmddemeiljjaa.dgM Go.Proofs.Ytpmmddemeiljjaa.wrM Go.Proofs.Ytpmmddemeiljjaa.wrO Go.Proofs.Ytpmmddemeiljjaa.wrA Go.Proofs.Ytpmmddemeiljjaa.wrC Go.Proofs.Ytpmmddemeiljjaa.wrD Go.Proofs.Ytpmmddemeiljjaa.wrE Go.Proofs.Ytpmmddemeiljjaa.wrG Go.Proofs.Ytpmmddemeiljjaa.wrPa Go.Proofs.Ytpmmddemeiljjaa.wrPb Go.Proofs.Ytpmmddemeiljjaa.wrPc Go.Proofs.Ytpmmddemeiljjaa.wrPe
set_option linter.unusedVariables false

theorem own_mono {w : World} {B B' : Nat} {v : Value} {l : List UInt8} (h : OwB w B v l) (hB : B' ≤ B) : OwB w B' v l := by
  refine ⟨h.1, ?_⟩
  rcases h.2 with ⟨rfl, h0⟩ | ⟨g, cap, cur, rfl, hg, hh, r⟩
  · exact .inl ⟨rfl, h0⟩
  · exact .inr ⟨g, cap, cur, rfl, Nat.le_trans hB hg, hh, r⟩
/-! ### Frame -/
abbrev Z8 : Obj := .cells #[.int .u8 0, .int .u8 0, .int .u8 0, .int .u8 0, .int .u8 0, .int .u8 0, .int .u8 0, .int .u8 0] 81
theorem z8_row (w : World) : Row8 (w.alloc Z8) w.heap.size (w8 0 0) := heap_alloc_new w _
theorem cb_range {w : World} {g o : Nat} {l : List UInt8} (h : w.rangeAt g o (cB l)) : Cb w (some ⟨g, o, none⟩) l := fun _ => ⟨g, o, rfl, fun j x hx => h j (vB x) (by rw [List.getElem?_map, hx]; rfl)⟩
/-- an array in a new variable -/
theorem arr_new (w0 w : World) (G : List UInt8) (hG : G.length = 8) (hb : Below w0.heap.size w0 w) : ∃ w2, w2 = (w.alloc Z8).setCells w.heap.size 0 (cB G) ∧ Cb w2 (some ⟨w.heap.size, 0, none⟩) G ∧ Below w0.heap.size w0 w2 ∧ w.heap.size < w2.heap.size := by
  have hr := World.rangeAt_setCells_same (w.alloc Z8) w.heap.size 0 (cB G) (row8_there (z8_row w) (by rw [cB_len, hG]; rfl))
  have hb2 := below_cells (w := w0) (B := w0.heap.size) w.heap.size hb.size (cB G) 0 (w.alloc Z8) (hb.alloc hb.size _)
  have hb3 := below_cells (w := w.alloc Z8) (B := 0) w.heap.size (Nat.zero_le _) (cB G) 0 (w.alloc Z8) (Below.refl _ _)
  have hs := hb3.size
  exact ⟨_, rfl, cb_range hr, hb2, by simp at hs; omega⟩
set_option maxRecDepth 10000 in
set_option maxHeartbeats 1000000 in
theorem frame_any (A : Option Addr) (n c : Nat) (b : List UInt8) (hn : b.length = n) (hN : n ≤ 1000000) (w : World) (hb : Cb w A b) :
    Calls Try.prog 40 #[.slice A n c] w fun e w' => ∃ v, e = .returned v ∧ OwB w' w.heap.size v (fr b) ∧ Below w.heap.size w w' := by
  have hcv := conv_any w A n c b hn hb
  have cs := fun w => sumof_any ⟨b.toArray⟩ (sm s0 b) (Lib.hid (by simp)) (by show b.toArray.size ≤ _; simp; omega) w
  have HE : Hid ([] ++ wT b ++ bg (sm s0 b) = fr b) := Lib.hid (by unfold fr dg wT; rw [List.nil_append])
  have hG := bg_len (sm s0 b)
  have hL : ([] ++ wT b).length ≤ 1000010 := by unfold wT; rw [List.nil_append, List.length_append]; have := vr_len b.length; omega
  have ct : ∀ p w, Wr w p [p] [] → Calls Try.prog 44 #[.pointer (some ⟨p, 0, none⟩), .string ⟨b.toArray⟩] w (Wst w p [p] ([] ++ wT b)) := fun p w hW => text_any ⟨b.toArray⟩ (by show b.toArray.size ≤ _; simp; omega) p [p] [] (by simp) w hW
  unfold Wst at ct
  generalize [] ++ wT b = L2 at *
  generalize bg (sm s0 b) = G at *
  go_enter Try.func40, Try.ntmps40
  go_wp2_with (first
    | (go_at_call 55; (refine (cs _).mono ?_); rintro e w1 ⟨rfl, B1⟩; obtain ⟨w2, hw2, C2, B2, S2⟩ := arr_new w w1 G hG B1)
    | (refine wpList_store_mid rfl 81 (.tmp 4) (.tmp 9) rfl w1.heap.size 0 (cB G).toArray (by rfl) (by rfl) (row8_there (z8_row w1) (by simp [hG, w8_len])) (by simp [hG, i8arr]) (all_oneCell_toArray (cB_one _)) ?_; rw [← hw2]; clear hw2)
    | (go_at_call 13; (refine (new_any _).mono ?_); rintro e w3 ⟨rfl, W3, B3⟩; have C3 := C2.below B3; have D3 := below_on B2 B3)
    | (go_at_call 44; (refine (ct _ _ W3).mono ?_); rintro e w4 ⟨rfl, F4, W4, M4, N4⟩; have C4 := Cb.mv C3 M4 (fun b off e => by simp at e; simp; omega); have hF4 : ∀ k ∈ F4, w2.heap.size ≤ k := (fun k hk => by rcases N4 k hk with h | h; (simp at h; omega); (have := B3.size; omega)))
    | (go_at_call 58; (refine (put_any (some ⟨w1.heap.size, 0, none⟩) 8 8 G hG (fun e => absurd e (by simp)) w2.heap.size F4 L2 (by omega) _ W4 C4).mono ?_); rintro e w5 ⟨rfl, F5, W5, M5, N5⟩)
    | (go_at_call 20; (refine (bytes_any w2.heap.size F5 (L2 ++ G) (by rw [List.length_append]; omega) _ W5).mono ?_); rintro e w6 ⟨v6, rfl, O6, B6⟩))
  go_ret
  have D4 := M4.below D3 (fun k hk => by simp at hk; have := B2.size; omega)
  have D5 := M5.below D4 (fun k hk => by have := hF4 k hk; have := B2.size; omega)
  rw [HE.out] at O6
  exact ⟨v6, rfl, own_mono O6 D5.size, below_on D5 B6⟩

/-! ### Next, where it refuses -/
theorem next_out (A : Option Addr) (n c : Nat) (t : Int) (hN : n ≤ 1000000) (h : ¬ (0 ≤ t ∧ t ≤ (n : Int))) (w : World) :
    Calls Try.prog 38 #[.slice A n c, .int .i64 t] w fun e w' => e = .returned (.tuple #[.slice none 0 0, .int .i64 0, .int .i64 2]) ∧ w = w' := by
  by_cases h0 : t < 0
  · clear h
    go_enter Try.func38, Try.ntmps38
    go_wp2_with fail
    go_ret3
    exact ⟨rfl, rfl⟩
  · have h1 : (n : Int) < t := by omega
    clear h
    go_enter Try.func38, Try.ntmps38
    go_wp2_with fail
    go_ret3
    exact ⟨rfl, rfl⟩
set_option maxRecDepth 10000 in
set_option maxHeartbeats 1000000 in
theorem next_err (A : Option Addr) (n c k : Nat) (b : List UInt8) (hn : b.length = n) (hk : k ≤ n) (hnc : n ≤ c) (hN : n ≤ 1000000) (he : (tr (b.drop k)).2.2 ≠ 0) (w : World) (hb : Cb w A b) :
    Calls Try.prog 38 #[.slice A n c, .int .i64 (k : Int)] w (NxP w k (nx (b.drop k))) := by
  have hle : (tr (b.drop k)).2.2 ≤ 28 := tk_err_le 10 (b.drop k)
  have hx : nx (b.drop k) = ([], 0, (tr (b.drop k)).2.2) := if_pos he
  rw [hx]
  obtain ⟨A2, c2, hsl, hcb, _, hc2⟩ := sub_lo A n c k b hn hk hnc
  have ct := fun w h => varint_any A2 (n - k) c2 (b.drop k) (Lib.hid (by rw [List.length_drop, hn])) (by omega) (tr (b.drop k)).1 (tr (b.drop k)).2.1 (tr (b.drop k)).2.2 (Lib.hid rfl) w h
  have hC := hcb w hb
  generalize (tr (b.drop k)).2.2 = E at *
  generalize (tr (b.drop k)).2.1 = m at *
  generalize (tr (b.drop k)).1 = V at *
  have t : ((E : Int) != 0) = true := by simp; omega
  have HF := Lib.hid (nxp_no (w := w) (k := k) he)
  have hk' : ¬ (n : Int) < (k : Int) := by omega
  clear hx hle hcb
  generalize n - k = n2 at *
  go_enter Try.func38, Try.ntmps38
  go_wp2_with (go_at_call 50; (with_reducible refine (ct _ hC).mono ?_); rintro e w' ⟨rfl, rfl⟩)
  go_ret3
  exact HF.out
set_option maxRecDepth 10000 in
set_option maxHeartbeats 1000000 in
theorem next_short (A : Option Addr) (n c k : Nat) (b : List UInt8) (hn : b.length = n) (hk : k ≤ n) (hnc : n ≤ c) (hN : n ≤ 1000000) (he : (tr (b.drop k)).2.2 = 0) (hs : (b.drop k).length < (tr (b.drop k)).2.1 + (tr (b.drop k)).1 + 8) (w : World) (hb : Cb w A b) :
    Calls Try.prog 38 #[.slice A n c, .int .i64 (k : Int)] w (NxP w k (nx (b.drop k))) := by
  have hx : nx (b.drop k) = ([], 0, 28) := by unfold nx; rw [if_neg (fun h => h he), if_pos hs]
  rw [hx]
  obtain ⟨A2, c2, hsl, hcb, _, hc2⟩ := sub_lo A n c k b hn hk hnc
  have hV := (vr_tr he).2.2
  have hm := tr_len (b.drop k)
  have ct := fun w h => varint_any A2 (n - k) c2 (b.drop k) (Lib.hid (by rw [List.length_drop, hn])) (by omega) (tr (b.drop k)).1 (tr (b.drop k)).2.1 0 (Lib.hid (by rw [← he])) w h
  rw [List.length_drop, hn] at hs hm
  have hC := hcb w hb
  generalize (tr (b.drop k)).2.1 = m at *
  generalize (tr (b.drop k)).1 = V at *
  obtain ⟨f, hf⟩ : ∃ f, f = k + m := ⟨_, rfl⟩
  have e0 : (k : Int) + (m : Int) = (f : Int) := by omega
  have hV' : V < 18446744073709551616 := hV
  have HF := Lib.hid (nxp_no (w := w) (k := k) (E := 28) (by omega))
  have hk' : ¬ (n : Int) < (k : Int) := by omega
  have hfn : f ≤ n := by omega
  by_cases h8 : n - f < 8
  · have t : (n : Int) - (f : Int) < 8 := by omega
    clear hx hs hm hf hcb
    generalize n - k = n2 at *
    go_enter Try.func38, Try.ntmps38
    go_wp2_with (go_at_call 50; (with_reducible refine (ct _ hC).mono ?_); rintro e w' ⟨rfl, rfl⟩)
    go_ret3
    exact HF.out
  · have t : ¬ (n : Int) - (f : Int) < 8 := by omega
    have t2 : (n : Int) - (f : Int) - 8 < (V : Int) := by omega
    have e1 : IntKind.u64.wrap ((n : Int) - (f : Int) - 8) = (n : Int) - (f : Int) - 8 := by rw [IntKind.wrap_u64]; omega
    clear hx hs hm hf hcb
    generalize n - k = n2 at *
    go_enter Try.func38, Try.ntmps38
    go_wp2_with (go_at_call 50; (with_reducible refine (ct _ hC).mono ?_); rintro e w' ⟨rfl, rfl⟩)
    go_ret3
    exact HF.out
end Go.Proofs.Ytpmmddemeiljjaa.wrPf

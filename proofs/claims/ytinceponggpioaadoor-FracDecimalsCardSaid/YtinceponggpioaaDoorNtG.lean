/-
  The contract of the reference's Format.
-/
import Derived.Test.YtinceponggpioaaDoorNtF
import Derived.Test.YtinceponggpioaaDoorNatX
namespace Go.Proofs.YtinceponggpioaaDoor.ntG
open Go.RowKit
open Go.Proofs.YtinceponggpioaaDoor.natM Go.Proofs.YtinceponggpioaaDoor.natA Go.Proofs.YtinceponggpioaaDoor.natB Go.Proofs.YtinceponggpioaaDoor.natC Go.Proofs.YtinceponggpioaaDoor.natD Go.Proofs.YtinceponggpioaaDoor.natF Go.Proofs.YtinceponggpioaaDoor.natG Go.Proofs.YtinceponggpioaaDoor.natR Go.Proofs.YtinceponggpioaaDoor.natS Go.Proofs.YtinceponggpioaaDoor.natT Go.Proofs.YtinceponggpioaaDoor.natX Go.Proofs.YtinceponggpioaaDoor.numT Go.Proofs.YtinceponggpioaaDoor.ntP Go.Proofs.YtinceponggpioaaDoor.ntS Go.Proofs.YtinceponggpioaaDoor.ntM Go.Proofs.YtinceponggpioaaDoor.ntF
set_option linter.unusedVariables false

theorem app_own {K : IntKind} {T : TypeId} {w : World} {B : Nat} {v : Value} {n : Nat} {zs : List Nat} (h : w.ownsRow B T 1 v n (cells K zs)) (hn : 0 < n) :
    ∃ g cap, v = .slice (some ⟨g, 0, none⟩) n cap ∧ n ≤ cap ∧ B ≤ g ∧ Own K w g zs := by
  rcases h.2 with ⟨rfl, rfl⟩ | ⟨g, cap, cur, rfl, hg, hh, hnc, _, _, _⟩
  · omega
  · exact ⟨g, cap, rfl, hnc, hg, Own.of_own h⟩
theorem hal_some {w : World} {A : Option Addr} {n c v : Nat} (h : Hal w A n c v) (h0 : 0 < v) : 0 < n ∧ ∃ b off, A = some ⟨b, off, none⟩ ∧ ∀ j x : Nat, (dg 65536 n v)[j]? = some x → w.cell? ⟨b, off + j, none⟩ = some (.int .i64 (x : Int)) := by
  have hn : 0 < n := by rw [h.1]; exact nlen_pos (by omega) h0
  exact ⟨hn, h.2.2 (by rw [dg_len]; exact hn)⟩
theorem src_of {w : World} {b off n v : Nat} (h : ∀ j x : Nat, (dg 65536 n v)[j]? = some x → w.cell? ⟨b, off + j, none⟩ = some (.int .i64 (x : Int))) :
    ∀ j u, (cells .i64 (dg 65536 n v))[j]? = some u → w.cell? ((⟨b, off, none⟩ : Addr).add j) = some u := fun j u hj => by
  obtain ⟨x, hx, rfl⟩ := cells_at hj
  rw [Addr.add_lit]
  exact h j x hx
/-- one byte made into a string -/
theorem conv1 (W : World) (d : Nat) (hd : d < 10) (c : UInt8) (hc : c = UInt8.ofNat (48 + d)) :
    (convert 81 9 (.slice (some ⟨W.heap.size, 0, none⟩) 1 1)).run Tryd.prog (W.alloc (.cells #[.int .u8 (48 + (d : Int))] 5)) = .ok (.string ⟨#[c]⟩) (W.alloc (.cells #[.int .u8 (48 + (d : Int))] 5)) := by
  subst hc
  have := run_convert_bytes_back (P := Tryd.prog) (W.alloc (.cells #[.int .u8 (48 + (d : Int))] 5)) 81 9 5 ⟨W.heap.size, 0, none⟩ 1 [UInt8.ofNat (48 + d)] Tryd.underlying81 Tryd.underlying5 Tryd.underlying9 (fun j hj => by
    obtain rfl : j = 0 := by simp at hj; omega
    have e : (((UInt8.ofNat (48 + d)).toNat : Nat) : Int) = 48 + (d : Int) := by rw [UInt8.toNat_ofNat']; omega
    simp [Addr.add, World.cell?_alloc_new]; omega)
  exact this
theorem ten_round {X j h x : Nat} (hh : h = X / 65536 ^ (j + 1) % 10) (hx : x = X / 65536 ^ j % 65536) :
    ∃ H N M r : Nat, 65536 * (h : Int) = (H : Int) ∧ (H : Int) + (x : Int) = (N : Int) ∧ (N : Int) / 10 = (M : Int) ∧ (N : Int) % 10 = (r : Int) ∧
      H ≤ 655360 ∧ N ≤ 720896 ∧ M ≤ 65536 ∧ x < 65536 ∧ r < 10 ∧ M = X / 10 / 65536 ^ j % 65536 ∧ r = X / 65536 ^ j % 10 := by
  have hx2 : x < 65536 := by rw [hx]; exact Nat.mod_lt _ (by omega)
  have hh2 : h < 10 := by rw [hh]; exact Nat.mod_lt _ (by omega)
  have e := chunk_step (B := 65536) (X := X) (c := 10) (i := j) (by omega) (by omega)
  have e1 : (h * 65536 + x) / 10 = X / 10 / 65536 ^ j % 65536 := by rw [hh, hx]; exact e.1
  have e2 : (h * 65536 + x) % 10 = X / 65536 ^ j % 10 := by rw [hh, hx]; exact e.2
  clear e hh hx
  exact ⟨h * 65536, h * 65536 + x, (h * 65536 + x) / 10, (h * 65536 + x) % 10, by omega, by omega, by omega, by omega, by omega, by omega, by omega, hx2, Nat.mod_lt _ (by omega), e1, e2⟩
theorem put_down6 {zs : List Nat} {j n v lo : Nat} (hkn : j < n) (ho : n ≤ zs.length) (hlo : lo = v / 65536 ^ j % 65536) :
    (put zs (j + 1) (dg 65536 (n - (j + 1)) (v / 65536 ^ (j + 1)))).set j lo = put zs j (dg 65536 (n - j) (v / 65536 ^ j)) := by
  have := put_cons (zs := zs) (ys := dg 65536 (n - (j + 1)) (v / 65536 ^ (j + 1))) (o := j) (x := lo) (by rw [dg_len]; omega)
  rw [this, dg_cons hkn, hlo]
set_option maxRecDepth 4000 in
set_option maxHeartbeats 1600000 in
theorem rformat_no (A : Option Addr) (n c X : Nat) (hX : Hid (X < 4294967296 ^ n)) (ha : Hid (false = valB n X)) (hn : n ≤ 9223372036854775807) (w : World) (hI : Cel .u32 w A (dg 4294967296 n X)) :
    Calls Tryd.prog 53 #[.agg #[.slice A n c]] w fun e w' => e = .returned (.string ⟨#[]⟩) ∧ Below w.heap.size w w' := by
  have cv := fun w hI => rvalid_any A n c X false hX ha hn w hI
  have HI := Lib.hid hI
  clear hI
  go_enter Tryd.func53, Tryd.ntmps53
  go_wp2_with (go_at_call 36; (with_reducible refine (cv _ (HI.out.alloc _)).mono ?_); rintro e w1 ⟨rfl, hb⟩; have B1 := Lib.hid (below_on (below_new _ _) hb); clear hb)
  go_ret
  exact ⟨rfl, B1.out⟩
set_option maxRecDepth 4000 in
set_option maxHeartbeats 1600000 in
theorem halves_zero (A : Option Addr) (c : Nat) (w : World) :
    Calls Tryd.prog 62 #[.agg #[.slice A 0 c]] w fun e w' => e = .returned (.slice none 0 0) ∧ Below w.heap.size w w' := by
  have hX : Hid (0 < 65536 ^ 0) := Lib.hid (by decide)
  have hN : Hid (0 = nlen 65536 0) := Lib.hid (nlen_zero _).symm
  have ct : ∀ w, Calls Tryd.prog 80 #[.slice none 0 0] w fun e w' => e = .returned (.slice none 0 0) ∧ w = w' := fun w => rtrim_any none 0 0 0 0 hX hN (by omega) (by omega) w (fun h => by simp [dg] at h)
  have xa := (Bx.new_ w (.slice A 0 c) 24).cell
  go_enter Tryd.func62, Tryd.ntmps62
  go_wp2_with fail
  go_loopw [3, 4] (fun s3 s4 wr => s3 = .slice none 0 0 ∧ s4 = .int .i64 0 ∧ wr = w.alloc (.cells #[.slice A 0 c] 24)) (fun _ _ _ => 0)
  case atStart => exact ⟨rfl, rfl, rfl⟩
  case round =>
    obtain ⟨rfl, rfl, rfl⟩ := hrel
    go_wp2_with (go_at_call 80; (with_reducible refine (ct _).mono ?_); rintro e w1 ⟨rfl, rfl⟩)
    go_ret
    exact ⟨rfl, below_new _ _⟩
set_option maxRecDepth 4000 in
set_option maxHeartbeats 1600000 in
theorem rformat_zero (A : Option Addr) (c : Nat) (w : World) :
    Calls Tryd.prog 53 #[.agg #[.slice A 0 c]] w fun e w' => e = .returned (.string ⟨#[48]⟩) ∧ Below w.heap.size w w' := by
  have hX : Hid (0 < 4294967296 ^ 0) := Lib.hid (by decide)
  have ha : Hid (true = valB 0 0) := Lib.hid (valB_nil hX.out).symm
  have cv := fun w => rvalid_any A 0 c 0 true hX ha (by omega) w (fun h => by simp [dg] at h)
  have ch := fun w => halves_zero A c w
  go_enter Tryd.func53, Tryd.ntmps53
  go_wp2_with (first
    | (go_at_call 36; (with_reducible refine (cv _).mono ?_); rintro e w1 ⟨rfl, hb⟩; have B1 := Lib.hid (below_on (below_new _ _) hb); have X1 := Lib.hid ((Bx.new_ _ _ _).below hb); have xa := fun o => (X1.out.alloc o).cell; clear hb)
    | (go_at_call 62; (with_reducible refine (ch _).mono ?_); rintro e w2 ⟨rfl, hb⟩; have B2 := Lib.hid (below_on (B1.out.alloc B1.out.size _) hb); clear hb))
  go_loopw [3, 4] (fun s3 s4 wr => s3 = .slice (some ⟨w1.heap.size, 0, none⟩) 0 0 ∧ s4 = .string ⟨#[]⟩ ∧ wr = w2) (fun _ _ _ => 0)
  case atStart => exact ⟨rfl, rfl, rfl⟩
  case round =>
    obtain ⟨rfl, rfl, rfl⟩ := hrel
    go_wp2_with fail
    go_ret
    exact ⟨rfl, B2.out⟩
set_option maxRecDepth 4000 in
set_option maxHeartbeats 8000000 in
theorem rformat_pos (A : Option Addr) (n c X : Nat) (hX : Hid (X < 4294967296 ^ n)) (ha : Hid (true = valB n X)) (h0 : 0 < n) (w : World) (hI : Cel .u32 w A (dg 4294967296 n X)) :
    Calls Tryd.prog 53 #[.agg #[.slice A n c]] w fun e w' => e = .returned (.string ⟨(Lib.decDigits X).toArray⟩) ∧ Below w.heap.size w w' := by
  obtain ⟨i0, hi, hz0, hz1, hz2⟩ := info_parts infoI
  have hn64 : n ≤ 64 := (valB_iff.1 ha.out.symm).1
  have hX0 : Hid (0 < X) := Lib.hid (by
    have h1 := (valB_iff.1 ha.out.symm).2
    apply Decidable.byContradiction; intro hn
    obtain rfl : X = 0 := by omega
    rw [nlen_zero] at h1; omega)
  have h620 : Hid ((Lib.decDigits X).length ≤ 620) := Lib.hid (dec_620 ha.out.symm)
  have hL : Hid (nlen 65536 X ≤ 128) := Lib.hid (half_len hX.out hn64)
  have cv := fun w hI => rvalid_any A n c X true hX ha (by omega) w hI
  have ch := fun w hI => halves_any A n c X hX (by omega) w hI
  have HI := Lib.hid hI
  clear hI
  go_enter Tryd.func53, Tryd.ntmps53
  go_wp2_with (first
    | (go_at_call 36; (with_reducible refine (cv _ (HI.out.alloc _)).mono ?_); rintro e w1 ⟨rfl, hb⟩; have B1 := Lib.hid (below_on (below_new _ _) hb); have HI1 := Lib.hid ((HI.out.alloc _).below hb); have X1 := Lib.hid ((Bx.new_ _ _ _).below hb); have xa := fun o => (X1.out.alloc o).cell; clear hb)
    | (go_at_call 62; (with_reducible refine (ch _ (HI1.out.alloc _)).mono ?_); rintro e w4 ⟨A3, n3, c3, rfl, hh, _, hb⟩; have B4 := Lib.hid (below_on (B1.out.alloc B1.out.size _) hb); have R4 := Lib.hid (own_below (World.ownsRow_made (e := 3) (size := 1) w1 #[] 0 (Nat.le_refl _) (Nat.zero_le _) (by simp)) hb); obtain ⟨hn3, b3, o3, rfl, hc3⟩ := hal_some hh hX0.out; have H4 := Lib.hid hh; have C4 := Lib.hid hc3; have l3 : n3 ≤ 128 := by rw [hh.1]; exact hL.out
       have S4 : Hid (w1.heap.size ≤ w4.heap.size) := Lib.hid (by have := hb.size; simp at this; omega)
       clear hb hh hc3)
    | (at_builtin; refine wpList_append_own _ rfl _ _ 66 rfl w1.heap.size 3 i0 (.int .i64 0) 1 8 Tryd.underlying66 hi hz0 hz1 hz2 rfl (by omega) (.slice (some ⟨w1.heap.size, 0, none⟩) 0 0) 0 [] (by rfl) R4.out ⟨b3, o3, none⟩ n3 c3 (cells .i64 (dg 65536 n3 X)) rfl (by rw [cells_len, dg_len, Nat.mul_one]) (src_of C4.out) cells_one (by unfold maxLen; omega) (by omega) S4.out ?_; intro v' w5 hown hgrow _; rw [Nat.zero_add, List.nil_append] at hown; obtain ⟨g, c5, rfl, hc5, hg, ho⟩ := app_own hown hn3; have O5 := Lib.hid ho; have B5 := Lib.hid (B4.out.grown hgrow B4.out.size (by intro k hk; simp [Value.ownBlock] at hk; have := B1.out.size; omega)); have G5 : Hid (w.heap.size ≤ g) := Lib.hid (by have := B1.out.size; omega); clear hown hgrow ho hg))
  clear cv ch HI HI1 X1 xa R4 C4 hi hz0 hz1 hz2
  go_loopw [3, 4] (fun s3 s4 wr => ∃ (N cN V : Nat) (t : ByteArray), N ≤ 128 ∧ s3 = .slice (some ⟨g, 0, none⟩) N cN ∧ s4 = .string t ∧ t.size ≤ 620 ∧ N ≤ cN ∧ Hid (N = nlen 65536 V) ∧ Hid (gd X = gd V ++ t.data.toList) ∧ Hid (Own .i64 wr g (dg 65536 N V)) ∧ Hid (Below w.heap.size w wr)) (fun _ s4 _ => match s4 with | .string t => 700 - t.size | _ => 0)
  case atStart => exact ⟨n3, c5, X, ⟨#[]⟩, l3, rfl, rfl, by decide, hc5, Lib.hid H4.out.1, Lib.hid (by simp), O5, B5⟩
  case round =>
    clear B5 O5 H4
    obtain ⟨N, cN, V, t, hN128, rfl, rfl, ht, hNc, hN, HG, HO, HB⟩ := hrel
    have HVN : Hid (V < 65536 ^ N) := Lib.hid (by rw [hN.out]; exact nlen_lt (by omega) V)
    by_cases hN0 : 0 < N
    · have HV0 : Hid (0 < V) := Lib.hid (by
        apply Decidable.byContradiction; intro h
        obtain rfl : V = 0 := by omega
        have := hN.out; rw [nlen_zero] at this; omega)
      obtain ⟨wo, hwo⟩ : ∃ wo : World, wo = wr := ⟨_, rfl⟩
      rw [← hwo] at HO HB ⊢
      clear hwo
      go_wp2_with fail
      go_loopw [5, 6] (fun h i wr => ∃ k hh : Nat, k ≤ N ∧ h = .int .i64 (hh : Int) ∧ i = .int .i64 ((k : Int) - 1) ∧ Hid (hh = V / 65536 ^ k % 10) ∧ Hid (Own .i64 wr g (put (dg 65536 N V) k (dg 65536 (N - k) (V / 10 / 65536 ^ k)))) ∧ Hid (Below w.heap.size w wr)) (fun _ i _ => (intOf i + 1).toNat)
      case atStart => exact ⟨N, 0, by omega, rfl, rfl, Lib.hid (by rw [Nat.div_eq_of_lt HVN.out]), Lib.hid (by rw [Nat.sub_self, dg_zero, put_nil]; exact HO.out), HB⟩
      case round =>
        clear HO HB
        obtain ⟨k, hh, hk, rfl, rfl, hq, HO, HB⟩ := hrel
        by_cases h0 : k = 0
        · subst h0
          obtain ⟨U, hU⟩ : ∃ U, U = V / 10 := ⟨_, rfl⟩
          have hd10 : hh < 10 := by rw [hq.out]; exact Nat.mod_lt _ (by omega)
          have HQ : Hid (hh = V % 10) := Lib.hid (by rw [hq.out, Nat.pow_zero, Nat.div_one])
          have O2 : Hid (Own .i64 wr g (dg 65536 N U)) := Lib.hid (by
            have := HO.out
            rw [Nat.sub_zero, Nat.pow_zero, Nat.div_one, put_full (by rw [dg_len, dg_len]), ← hU] at this
            exact this)
          have hUN : Hid (U < 65536 ^ N) := Lib.hid (by rw [hU]; exact Nat.lt_of_le_of_lt (Nat.div_le_self _ _) HVN.out)
          obtain ⟨N2, hN2⟩ : ∃ N2, Hid (N2 = nlen 65536 U) := ⟨_, Lib.hid rfl⟩
          have hN2N : N2 ≤ N := by rw [hN2.out]; exact nlen_le (by omega) hUN.out
          obtain ⟨c, hc⟩ : ∃ c, c = UInt8.ofNat (48 + hh) := ⟨_, rfl⟩
          have cv := fun W => conv1 W hh hd10 c hc
          have HT : Hid ((⟨#[c]⟩ ++ t : ByteArray).data.toList = c :: t.data.toList) := Lib.hid (by simp)
          have HTs : Hid ((⟨#[c]⟩ ++ t : ByteArray).size = 1 + t.size) := Lib.hid (by rw [ByteArray.size_append]; rfl)
          have HG2 : Hid (gd X = gd U ++ (⟨#[c]⟩ ++ t : ByteArray).data.toList) := Lib.hid (by
            rw [HG.out, HT.out, gd_step HV0.out, ← HQ.out, ← hU, ← hc, List.append_assoc]; rfl)
          have HT620 : Hid ((⟨#[c]⟩ ++ t : ByteArray).size ≤ 620) := Lib.hid (by
            have h1 := congrArg List.length HG2.out
            rw [gd_pos hX0.out, List.length_append, ← size_len] at h1
            have := h620.out; omega)
          have ht2 : t.size ≤ 619 := by have := HTs.out; have := HT620.out; omega
          clear hU hc hq HO HG
          go_wp2_with (go_at_call 80; (with_reducible refine (rtrim_any (some ⟨g, 0, none⟩) N cN U N2 hUN hN2 hNc (by omega) wr O2.out.all).mono ?_); rintro e w6 ⟨rfl, rfl⟩)
          go_roundw
          case rel => exact ⟨N2, cN, U, ⟨#[c]⟩ ++ t, by omega, rfl, rfl, HT620.out, by omega, hN2, HG2, Lib.hid ((own_low O2.out hN2N).alloc _), Lib.hid (HB.out.alloc HB.out.size _)⟩
          case measure => have := HTs.out; simp at this ⊢; omega
        · obtain ⟨j, rfl⟩ : ∃ j, k = j + 1 := ⟨k - 1, by omega⟩
          have hlen : (put (dg 65536 N V) (j + 1) (dg 65536 (N - (j + 1)) (V / 10 / 65536 ^ (j + 1)))).length = N := (put_len (by rw [dg_len, dg_len]; omega)).trans (dg_len _ _ _)
          have hc := HO.out.cell (j := j) (by rw [hlen]; omega)
          have hfz := HO.out.frozen j
          rw [put_at (by rw [dg_len, dg_len]; omega), if_neg (by omega), dg_at (by omega)] at hc
          have O2 := Lib.hid (HO.out.set_ (j := j) (x := V / 10 / 65536 ^ j % 65536) (by rw [hlen]; omega))
          obtain ⟨x, hxe⟩ : ∃ x, x = V / 65536 ^ j % 65536 := ⟨_, rfl⟩
          obtain ⟨H, Y, M, r, e1, e2, e3, e4, b1, b2, b3, b4, b5, l1, l2⟩ := ten_round hq.out hxe
          rw [← hxe] at hc
          rw [← l1, put_down6 (by omega) (by rw [dg_len]; omega) l1] at O2
          have HQ := Lib.hid l2
          have G6 := Lib.hid (Nat.le_trans G5.out (Nat.le_refl g))
          have i0 : (0 : Int) ≤ (j : Int) := by omega
          have i1 : (j : Int) < (N : Int) := by omega
          have ej : (((j + 1 : Nat) : Int) - 1) = (j : Int) := by omega
          clear HO hq hxe l1 l2 hlen h0
          go_wp2
          go_roundw
          case rel => exact ⟨j, r, by omega, by rw [e4], rfl, HQ, O2, Lib.hid (HB.out.setCell (p := ⟨g, j, none⟩) G6.out _)⟩
          case measure => simp [intOf]
    · have hV0 : V = 0 := by
        have h1 : N = 0 := by omega
        have := hN.out; rw [h1] at this
        exact (nlen_zero_iff (by omega)).1 this.symm
      have HE : Hid (Lib.decDigits X = t.data.toList) := Lib.hid (by
        have := HG.out
        rw [gd_pos hX0.out, hV0, gd_zero, List.nil_append] at this; exact this)
      have tn : (t.toList == []) = false := not_nil (by
        rw [size_len, ← HE.out]
        have := (decDigits_facts X).2.2.1
        cases e : Lib.decDigits X with
        | nil => exact absurd e this
        | cons a r => simp)
      have hN00 : decide (0 < N) = false := decide_eq_false hN0
      clear hV0 HG HO
      go_wp2_with fail
      go_ret
      exact ⟨ret_str (str_eq HE.out.symm), HB.out⟩
theorem rformat_any (A : Option Addr) (n c X : Nat) (hX : Hid (X < 4294967296 ^ n)) (hn : n ≤ 9223372036854775807) (w : World) (hI : Cel .u32 w A (dg 4294967296 n X)) :
    Calls Tryd.prog 53 #[.agg #[.slice A n c]] w fun e w' => e = .returned (.string ⟨(fmtL n X).toArray⟩) ∧ Below w.heap.size w w' := by
  cases ha : valB n X with
  | false => rw [fmt_no ha]; exact rformat_no A n c X hX (Lib.hid ha.symm) hn w hI
  | true =>
    rw [fmt_yes ha]
    by_cases h0 : 0 < n
    · exact rformat_pos A n c X hX (Lib.hid ha.symm) h0 w hI
    · obtain rfl : n = 0 := by omega
      obtain rfl : X = 0 := by have := hX.out; simpa using this
      rw [dec_small (by omega)]
      exact rformat_zero A c w
end Go.Proofs.YtinceponggpioaaDoor.ntG

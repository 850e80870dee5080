/-
  The contract of Decimal of frac.
-/
import Derived.Test.YtinceponggpioaaDoorFrD
import Derived.Test.YtinceponggpioaaDoorFrTx
import Derived.Test.YtinceponggpioaaDoorNtF
import Derived.Deep.Cut
import Derived.Deep.CutBlock
namespace Go.Proofs.YtinceponggpioaaDoor.frI
open Go.RowKit
open Go.Proofs.YtinceponggpioaaDoor.natM Go.Proofs.YtinceponggpioaaDoor.natA Go.Proofs.YtinceponggpioaaDoor.natB Go.Proofs.YtinceponggpioaaDoor.natC Go.Proofs.YtinceponggpioaaDoor.natD Go.Proofs.YtinceponggpioaaDoor.natE Go.Proofs.YtinceponggpioaaDoor.natF Go.Proofs.YtinceponggpioaaDoor.natG Go.Proofs.YtinceponggpioaaDoor.natH Go.Proofs.YtinceponggpioaaDoor.natI Go.Proofs.YtinceponggpioaaDoor.natJ Go.Proofs.YtinceponggpioaaDoor.natX Go.Proofs.YtinceponggpioaaDoor.natUi Go.Proofs.YtinceponggpioaaDoor.frM Go.Proofs.YtinceponggpioaaDoor.frA Go.Proofs.YtinceponggpioaaDoor.frB Go.Proofs.YtinceponggpioaaDoor.frC Go.Proofs.YtinceponggpioaaDoor.frD Go.Proofs.YtinceponggpioaaDoor.frTx Go.Proofs.YtinceponggpioaaDoor.ntF Go.Proofs.YtinceponggpioaaDoor.ntM
set_option linter.unusedVariables false

/-- what Decimal answers: a text, an error, the world grown -/
def TxP (t : List UInt8) (E : Int) (w : World) (e : Ending) (w' : World) : Prop := e = .returned (.tuple #[.string ⟨t.toArray⟩, .int .i64 E]) ∧ Below w.heap.size w w'
theorem rep2_any (z : Nat) (hz : z ≤ 100) (w : World) : Calls Tryd.prog 51 #[.string ⟨#[48]⟩, .int .i64 (z : Int)] w fun e w' => e = .returned (.string ⟨(List.replicate z 48).toArray⟩) ∧ Below w.heap.size w w' := by
  have c := Tryd.strings_Repeat ⟨#[48]⟩ z w (by omega) (by show 1 * z ≤ _; omega)
  have e : Lib.repeatL ((⟨#[48]⟩ : ByteArray).data.toList) z = List.replicate z 48 := by
    show Lib.repeatL [48] z = _
    clear c hz
    induction z with
    | zero => rfl
    | succ z ih => rw [List.replicate_succ, ← ih]; rfl
  rw [e] at c
  exact c
theorem Kp.tab {w0 w : World} {cs : List (Option Addr × Nat × Nat)} {bs : List (Nat × Array Value)} (h : Kp w0 cs bs w) (ht : Tab w0) : Tab w := tab_on ht h.bel

set_option maxRecDepth 4000 in
set_option maxHeartbeats 2000000 in
theorem fdec_no (A B : Option Addr) (n c m d X Y : Nat) (p : Int) (b : Bool) (hX : Hid (X < 4294967296 ^ n)) (hY : Hid (Y < 4294967296 ^ m)) (i1 : n ≤ c) (i2 : m ≤ d) (j1 : n ≤ 9223372036854775807) (j2 : m ≤ 9223372036854775807) (hb : Hid (b = frB n X m Y)) (hno : b = false ∨ p < 0 ∨ 18 < p)
    (w : World) (h1 : Cel .u32 w A (dg 4294967296 n X)) (h2 : Cel .u32 w B (dg 4294967296 m Y)) :
    Calls Tryd.prog 27 #[.agg #[.slice A n c, .slice B m d], .int .i64 p] w (TxP [] 2 w) := by
  have S0 := Lib.hid (((Kp.start w).addc h2).addc h1)
  clear h1 h2
  have c1 := fun w h1 h2 => vd_any A B n c m d X Y b hX hY i1 i2 j1 j2 hb w h1 h2
  clear hX hY i1 i2 hb
  cases b with
  | false =>
    go_enter Tryd.func27, Tryd.ntmps27
    go_wp2_with (go_at_call 18; (with_reducible refine (c1 _ (S0.out.al1 _ _).c0 (S0.out.al1 _ _).c1).mono ?_); rintro e w1 ⟨rfl, hb⟩; have S1 := Lib.hid ((S0.out.al1 _ _).below hb); clear hb)
    go_ret2
    exact ⟨rfl, S1.out.bel⟩
  | true =>
    by_cases hp : p < 0
    · go_enter Tryd.func27, Tryd.ntmps27
      go_wp2_with (go_at_call 18; (with_reducible refine (c1 _ (S0.out.al1 _ _).c0 (S0.out.al1 _ _).c1).mono ?_); rintro e w1 ⟨rfl, hb⟩; have S1 := Lib.hid ((S0.out.al1 _ _).below hb); clear hb)
      go_ret2
      exact ⟨rfl, S1.out.bel⟩
    · have hp2 : 18 < p := by
        rcases hno with h | h | h
        · cases h
        · omega
        · exact h
      go_enter Tryd.func27, Tryd.ntmps27
      go_wp2_with (go_at_call 18; (with_reducible refine (c1 _ (S0.out.al1 _ _).c0 (S0.out.al1 _ _).c1).mono ?_); rintro e w1 ⟨rfl, hb⟩; have S1 := Lib.hid ((S0.out.al1 _ _).below hb); clear hb)
      go_ret2
      exact ⟨rfl, S1.out.bel⟩

theorem tup_str {a : ByteArray} {t : List UInt8} (h : a.data.toList = t) : Ending.returned (.tuple #[.string a, .int .i64 0]) = .returned (.tuple #[.string ⟨t.toArray⟩, .int .i64 0]) := by
  rw [← h]
theorem head_take (s : ByteArray) (n : Nat) : (s.extract 0 n).data.toList = s.data.toList.take n := by rw [Lib.extract_data]; simp
theorem ext_end (s : ByteArray) (n : Nat) : (s.extract n s.size).data.toList = s.data.toList.drop n := Lib.extract_to_end s n
theorem run_slice_of_hi {P : Program} {t : TypeId} (h : P.underlying t = some .string) (s : ByteArray) (j : Nat) (hj : j ≤ s.size) (w : World) : (Instr.slice t (.string s) none (some (.int .i64 (j : Int))) none).run P w = .ok (.string (s.extract 0 j)) w := by
  simp [Instr.slice, Instr.sliceBounds, Instr.sliceBound, asIntOf, run_underlying h, hj]
theorem run_slice_of_lo {P : Program} {t : TypeId} (h : P.underlying t = some .string) (s : ByteArray) (j : Nat) (hj : j ≤ s.size) (w : World) : (Instr.slice t (.string s) (some (.int .i64 (j : Int))) none none).run P w = .ok (.string (s.extract j s.size)) w := by
  simp [Instr.slice, Instr.sliceBounds, Instr.sliceBound, asIntOf, run_underlying h, hj]
theorem kp_swap {w0 w : World} {cs : List (Option Addr × Nat × Nat)} {y0 y1 : Nat × Array Value} (h : Kp w0 cs [y0, y1] w) : Kp w0 cs [y1, y0] w :=
  ⟨h.bel, h.cel, fun x hx => h.blk x (by simp at hx ⊢; rcases hx with rfl | rfl <;> simp)⟩
theorem one_ne {a b : Nat} {v : Array Value} (h : a ≠ b) : ∀ x ∈ [(a, v)], x.1 ≠ b := fun x hx => by simp at hx; subst hx; exact h
/-- a loop's number: a power of ten -/
theorem ten_step {k p t : Nat} (hk : k < p) (hp : p ≤ 18) (ht : t = 10 ^ k) : ∃ t2 : Nat, (t : Int) * 10 = (t2 : Int) ∧ t2 = 10 ^ (k + 1) ∧ t2 < 18446744073709551616 := by
  refine ⟨t * 10, by omega, by rw [ht, Nat.pow_succ], ?_⟩
  have : 10 ^ (k + 1) ≤ 10 ^ 18 := Nat.pow_le_pow_right (by omega) (by omega)
  rw [ht, ← Nat.pow_succ]
  omega
set_option maxRecDepth 4000 in
set_option maxHeartbeats 4000000 in
theorem fdec_ok (A B : Option Addr) (n c m d X Y p : Nat) (hX : Hid (X < 4294967296 ^ n)) (hY : Hid (Y < 4294967296 ^ m)) (i1 : n ≤ c) (i2 : m ≤ d) (v1 : Hid (valB n X = true)) (v2 : Hid (valB m Y = true)) (hv : Hid (frB n X m Y = true)) (hy : 0 < Y) (hp : p ≤ 18) (hbig : nlen 4294967296 (X * 10 ^ p) ≤ 64)
    (w : World) (htab : Tab w) (h1 : Cel .u32 w A (dg 4294967296 n X)) (h2 : Cel .u32 w B (dg 4294967296 m Y)) :
    Calls Tryd.prog 27 #[.agg #[.slice A n c, .slice B m d], .int .i64 (p : Int)] w (TxP (decT (X * 10 ^ p / Y) p) 0 w) := by
  have S0 := Lib.hid (((Kp.start w).addc h2).addc h1)
  have HT := Lib.hid htab
  clear h1 h2 htab
  have j1 := (valB_iff.1 v1.out).1
  have j2 := (valB_iff.1 v2.out).1
  have c1 := fun w h1 h2 => vd_any A B n c m d X Y true hX hY i1 i2 (by omega) (by omega) (Lib.hid hv.out.symm) w h1 h2
  obtain ⟨T, hT⟩ : ∃ T, T = 10 ^ p := ⟨_, rfl⟩
  have hT64 : T < 18446744073709551616 := by
    have : 10 ^ p ≤ 10 ^ 18 := Nat.pow_le_pow_right (by omega) hp
    omega
  rw [← hT] at hbig ⊢
  obtain ⟨V, hV⟩ : ∃ V, V = X * T := ⟨_, rfl⟩
  rw [← hV] at hbig ⊢
  obtain ⟨kT, hkT⟩ : ∃ k, k = nlen 4294967296 T := ⟨_, rfl⟩
  have vT : valB kT T = true := valB_iff.2 ⟨by rw [hkT]; exact Nat.le_trans (len_word hT64) (by omega), hkT.symm⟩
  have co := fun w => of_any T hT64 w
  have cm := mul_ok v1.out vT hV hbig
  obtain ⟨kV, hkV⟩ : ∃ k, k = nlen 4294967296 V := ⟨_, rfl⟩
  have vV : valB kV V = true := valB_iff.2 ⟨by omega, hkV.symm⟩
  obtain ⟨Q, hQ⟩ : ∃ Q, Q = V / Y := ⟨_, rfl⟩
  obtain ⟨R, hR⟩ : ∃ Q, Q = V % Y := ⟨_, rfl⟩
  rw [← hQ]
  have cd := div_kit vV v2.out hy hQ hR
  have vQ := val_le (V := Q) vV (by rw [hQ]; exact Nat.div_le_self _ _)
  obtain ⟨kQ, hkQ⟩ : ∃ k, k = nlen 4294967296 Q := ⟨_, rfl⟩
  rw [← hkQ] at vQ
  have cf := fun A c w ht hI => nformat_any A kQ c Q (Lib.hid (val_lt vQ)) (by have := (valB_iff.1 vQ).1; omega) w ht hI
  rw [fmt_yes vQ] at cf
  have hL := dec_620 vQ
  have HKT := Lib.hid hkT
  have HKV := Lib.hid hkV
  have HKQ := Lib.hid hkQ
  have HT10 := Lib.hid hT
  have HVv := Lib.hid v1.out
  obtain ⟨TX, hTX⟩ : ∃ TX, Hid (TX = decT Q p) := ⟨_, Lib.hid rfl⟩
  rw [← hTX.out]
  clear vQ vV hQ hR hkQ hkV hkT vT hV hbig hT hX hY i1 i2 v1 v2 hv hy
  go_enter Tryd.func27, Tryd.ntmps27
  go_wp2_with (go_at_call 18; (with_reducible refine (c1 _ (S0.out.al1 _ _).c0 (S0.out.al1 _ _).c1).mono ?_); rintro e w1 ⟨rfl, hb⟩; have S1 := Lib.hid ((S0.out.al1 _ _).below hb); clear hb)
  go_loopw [6, 26] (fun s i wr => ∃ k t : Nat, k ≤ p ∧ i = .int .i64 (k : Int) ∧ s = .int .u64 (t : Int) ∧ Hid (t = 10 ^ k) ∧ wr = w1) (fun _ i _ => p - (intOf i).toNat)
  case atStart => exact ⟨0, 1, by omega, rfl, rfl, Lib.hid rfl, rfl⟩
  case round =>
    obtain ⟨k, t, hk, rfl, rfl, ht, rfl⟩ := hrel
    by_cases hlt : k < p
    · obtain ⟨t2, e1, e2, e3⟩ := ten_step hlt hp ht.out
      have H2 := Lib.hid e2
      clear e2 ht
      have w1 : IntKind.u64.wrap (t2 : Int) = (t2 : Int) := IntWalk.u64_in _ (by omega)
      go_wp2_with fail
      go_roundw
      case rel => exact ⟨k + 1, t2, by omega, by go_num, rfl, H2, by first | trivial | rfl⟩
      case measure => simp [intOf]; omega
    · obtain rfl : k = p := by omega
      obtain rfl : t = T := by rw [ht.out, HT10.out]
      clear ht hlt hk
      go_upto_region 8 with fail
      have x1 := S1.out.b0.fst
      have l0 := S1.out.b0.lt
      have ne1 := World.new_ne wr _ x1
      go_cut [7, 8] from 14 (fun s7 s8 wx => ∃ (p7 : Nat) (A5 A6 : Option Addr) (c6 : Nat), s7 = .pointer (some ⟨p7, 0, none⟩) ∧ s8 = .int .i64 0 ∧ Hid (Kp w [(A6, kV, V), (A5, kT, t), (A, n, X), (B, m, Y)] [(w.heap.size, #[.slice A n c, .slice B m d]), (p7, #[.slice A6 kV c6])] wx))
      case first =>
        go_region_held3 (fun w' => w'.cell? ⟨w.heap.size, 0, none⟩ = some (.slice A n c)) (go_keep)
          (first
            | (go_at_call 39; first
              | ((with_reducible refine (co _).mono ?_); rintro e w5 ⟨A5, n5, c5, rfl, q, hb⟩; obtain ⟨z, q2⟩ := num_at HKT.out q; subst z; have S5 := Lib.hid ((S1.out.drew.below hb).addc q2); have x5 := S5.out.b0.fst; have ne5 := World.new_ne w5 _ x5; clear hb q q2)
              | ((with_reducible refine (co _).mono ?_); rintro e w5 ⟨A5, n5, c5, rfl, q, hb⟩; obtain ⟨z, q2⟩ := num_at HKT.out q; subst z; have S5b := Lib.hid (((S1.out.al1 _ _).drew.below hb).addc q2); have x5 := S5b.out.b1.fst; clear hb q q2))
            | (go_at_call 49; first
              | ((with_reducible refine (cm _ _ _ _ _ S5.out.c1 S5.out.c0).mono ?_); rintro e w6 ⟨A6, n6, c6, rfl, q, hb⟩; obtain ⟨z, q2⟩ := num_at HKV.out q; subst z; have S6 := Lib.hid ((S5.out.below hb).addc q2); have x6 := S6.out.b0.fst; have ne6 := World.new_ne w6 _ x6; clear hb q q2)
              | ((with_reducible refine (cm _ _ _ _ _ (S5.out.al1 _ _).c1 (S5.out.al1 _ _).c0).mono ?_); rintro e w6 ⟨A6, n6, c6, rfl, q, hb⟩; obtain ⟨z, q2⟩ := num_at HKV.out q; subst z; have S6 := Lib.hid (((S5.out.al1 _ _).below hb).addc q2); have x6 := S6.out.b1.fst; have y6 := S6.out.b0.one; have f6 := S6.out.b0.free 0; have ne6 : w5.heap.size ≠ w.heap.size := Ne.symm (Nat.ne_of_lt S5.out.b0.lt); clear hb q q2)
              | ((with_reducible refine (cm _ _ _ _ _ S5b.out.c1 S5b.out.c0).mono ?_); rintro e w6 ⟨A6, n6, c6, rfl, q, hb⟩; obtain ⟨z, q2⟩ := num_at HKV.out q; subst z; have S6 := Lib.hid ((S5b.out.below hb).addc q2); have x6 := S6.out.b1.fst; have y6 := S6.out.b0.one; have f6 := S6.out.b0.free 0; have ne6 : wr.heap.size ≠ w.heap.size := Ne.symm (Nat.ne_of_lt l0); clear hb q q2)))
        all_goals go_wp2_with fail
        all_goals go_meet
        all_goals first
          | exact ⟨_, A5, A6, c6, rfl, rfl, Lib.hid (kp_swap (S6.out.al1 _ _))⟩
          | exact ⟨_, A5, A6, c6, rfl, rfl, Lib.hid (kp_set S6.out S5.out.bel.size (one_ne (Ne.symm ne6)) _)⟩
          | exact ⟨_, A5, A6, c6, rfl, rfl, Lib.hid (kp_set S6.out S1.out.bel.size (one_ne (Ne.symm ne6)) _)⟩
      case rest =>
        obtain ⟨p7, A5, A6, c6, rfl, rfl, hk⟩ := hcut
        clear S1 S0 x1 l0 ne1 co cm c1
        have x1 := hk.out.b0.snd
        have x2 := hk.out.b1.one
        obtain ⟨L, hL2⟩ : ∃ L, L = Lib.decDigits Q := ⟨_, rfl⟩
        rw [← hL2] at cf hL
        by_cases hp0 : k = 0
        · subst hp0
          have HX := Lib.hid (show TX = L from hTX.out.trans hL2.symm)
          clear hL2
          go_wp2_with (first
            | (go_at_call 35; (with_reducible refine (cd _ _ _ _ _ hk.out.c0 hk.out.c3).mono ?_); rintro e w7 ⟨A7, n7', c7, A8, n8, c8, rfl, q, q', hb⟩; obtain ⟨z, q2⟩ := num_at HKQ.out q; subst z; have S7 := Lib.hid ((hk.out.below hb).addc q2); clear hb q q' q2)
            | (go_at_call 50; (with_reducible refine (cf _ _ _ (Kp.tab (S7.out.al2 _ _ _ _) HT.out) (S7.out.al2 _ _ _ _).c0).mono ?_); rintro e w8 ⟨rfl, hb⟩; have S8 := Lib.hid ((S7.out.al2 _ _ _ _).below hb); clear hb))
          go_ret2
          exact ⟨by rw [HX.out]; rfl, S8.out.bel⟩
        · obtain ⟨s, hs⟩ : ∃ s, s = List.replicate (k + 1 - L.length) 48 ++ L := ⟨_, rfl⟩
          have hd := dec_take (Q := Q) (p := k) (s := s) (by omega) (by rw [← hL2]; exact hs)
          have eT : decT Q k = s.take (s.length - k) ++ [46] ++ s.drop (s.length - k) := by
            unfold decT; rw [if_neg hp0, hd.2.1, hd.2.2]
          have HX := Lib.hid (show TX = s.take (s.length - k) ++ [46] ++ s.drop (s.length - k) from hTX.out.trans eT)
          obtain ⟨z, hz⟩ : ∃ z, z = k + 1 - L.length := ⟨_, rfl⟩
          have hz2 : z ≤ 100 := by omega
          have cr := rep2_any z hz2
          have hln := hd.1
          rw [← hz] at hs
          have HS := Lib.hid hs
          clear hL2 hd eT hs
          have eZ : max (0 : Int) ((k : Int) + 1 - (L.length : Int)) = (z : Int) := by omega
          clear hz
          go_wp2_with (first
            | (go_at_call 35; (with_reducible refine (cd _ _ _ _ _ hk.out.c0 hk.out.c3).mono ?_); rintro e w7 ⟨A7, n7', c7, A8, n8, c8, rfl, q, q', hb⟩; obtain ⟨z, q2⟩ := num_at HKQ.out q; subst z; have S7 := Lib.hid ((hk.out.below hb).addc q2); clear hb q q' q2)
            | (go_at_call 50; (with_reducible refine (cf _ _ _ (Kp.tab (S7.out.al2 _ _ _ _) HT.out) (S7.out.al2 _ _ _ _).c0).mono ?_); rintro e w8 ⟨rfl, hb⟩; have S8 := Lib.hid ((S7.out.al2 _ _ _ _).below hb); clear hb)
            | (go_at_call 51; (with_reducible refine (cr _).mono ?_); rintro e w9 ⟨rfl, hb⟩; have S9 := Lib.hid (S8.out.below hb); clear hb))
          obtain ⟨bs, hB⟩ : ∃ bs, ((⟨Array.replicate z 48⟩ : ByteArray) ++ ⟨L.toArray⟩) = bs := ⟨_, rfl⟩
          obtain ⟨j, hj⟩ : ∃ j, j = s.length - k := ⟨_, rfl⟩
          have hM : s.length = z + L.length := by rw [HS.out, List.length_append, List.length_replicate]
          have hBl : bs.data.toList = s := by rw [← hB, HS.out, ByteArray.data_append, Array.toList_append, Array.toList_replicate]
          have hBs : bs.size = s.length := by rw [← hBl]; exact numT.size_len bs
          have ej : (z : Int) + (L.length : Int) - (k : Int) = (j : Int) := by omega
          rw [hB, ej]
          have b0 : (0 : Int) ≤ (j : Int) := by omega
          have b1 : (j : Int) ≤ (s.length : Int) := by omega
          have b2 : j ≤ s.length := by omega
          rw [← hj] at HX
          have HB := Lib.hid hBl
          have b4 : ¬ 9223372036854775807 < j + 1 := by omega
          have b5 : ¬ 9223372036854775807 < j + 1 + (bs.size - j) := by omega
          have b6 : ¬ 9223372036854775807 < j + 1 + (s.length - j) := by omega
          have b3 : j ≤ bs.size := by omega
          have sl1 : ∀ W, (Instr.slice 9 (.string bs) none (some (.int .i64 (j : Int))) none).run Tryd.prog W = .ok (.string (bs.extract 0 j)) W := fun W => by
            have := run_slice_of_hi Tryd.underlying9 bs j b3 W
            exact this
          have sl2 : ∀ W, (Instr.slice 9 (.string bs) (some (.int .i64 (j : Int))) none none).run Tryd.prog W = .ok (.string (bs.extract j bs.size)) W := fun W => by
            have := run_slice_of_lo Tryd.underlying9 bs j b3 W
            exact this
          clear hB hj hM hBl ej hln HS eZ
          go_region
          all_goals go_wp2_with fail
          go_ret2
          exact ⟨tup_str (by
            rw [HX.out, ByteArray.data_append, Array.toList_append, ByteArray.data_append, Array.toList_append, head_take, HB.out]
            congr 1
            rw [← hBs, ext_end, HB.out]), bel_drew S9.out.bel⟩
set_option maxRecDepth 4000 in
set_option maxHeartbeats 4000000 in
theorem fdec_big (A B : Option Addr) (n c m d X Y p : Nat) (hX : Hid (X < 4294967296 ^ n)) (hY : Hid (Y < 4294967296 ^ m)) (i1 : n ≤ c) (i2 : m ≤ d) (v1 : Hid (valB n X = true)) (v2 : Hid (valB m Y = true)) (hv : Hid (frB n X m Y = true)) (hy : 0 < Y) (hp : p ≤ 18) (hbig : 64 < nlen 4294967296 (X * 10 ^ p))
    (w : World) (h1 : Cel .u32 w A (dg 4294967296 n X)) (h2 : Cel .u32 w B (dg 4294967296 m Y)) :
    Calls Tryd.prog 27 #[.agg #[.slice A n c, .slice B m d], .int .i64 (p : Int)] w (TxP [] 9 w) := by
  have S0 := Lib.hid (((Kp.start w).addc h2).addc h1)
  clear h1 h2
  have j1 := (valB_iff.1 v1.out).1
  have j2 := (valB_iff.1 v2.out).1
  have c1 := fun w h1 h2 => vd_any A B n c m d X Y true hX hY i1 i2 (by omega) (by omega) (Lib.hid hv.out.symm) w h1 h2
  obtain ⟨T, hT⟩ : ∃ T, T = 10 ^ p := ⟨_, rfl⟩
  have hT64 : T < 18446744073709551616 := by
    have : 10 ^ p ≤ 10 ^ 18 := Nat.pow_le_pow_right (by omega) hp
    omega
  rw [← hT] at hbig
  obtain ⟨V, hV⟩ : ∃ V, V = X * T := ⟨_, rfl⟩
  rw [← hV] at hbig
  obtain ⟨kT, hkT⟩ : ∃ k, k = nlen 4294967296 T := ⟨_, rfl⟩
  have vT : valB kT T = true := valB_iff.2 ⟨by rw [hkT]; exact Nat.le_trans (len_word hT64) (by omega), hkT.symm⟩
  have co := fun w => of_any T hT64 w
  have cm := mul_big v1.out vT (by rw [← hV]; exact hbig)
  have HKT := Lib.hid hkT
  have HT10 := Lib.hid hT
  clear hkT vT hV hbig hT hX hY i1 i2 v1 v2 hv hy
  go_enter Tryd.func27, Tryd.ntmps27
  go_wp2_with (go_at_call 18; (with_reducible refine (c1 _ (S0.out.al1 _ _).c0 (S0.out.al1 _ _).c1).mono ?_); rintro e w1 ⟨rfl, hb⟩; have S1 := Lib.hid ((S0.out.al1 _ _).below hb); clear hb)
  go_loopw [6, 26] (fun s i wr => ∃ k t : Nat, k ≤ p ∧ i = .int .i64 (k : Int) ∧ s = .int .u64 (t : Int) ∧ Hid (t = 10 ^ k) ∧ wr = w1) (fun _ i _ => p - (intOf i).toNat)
  case atStart => exact ⟨0, 1, by omega, rfl, rfl, Lib.hid rfl, rfl⟩
  case round =>
    obtain ⟨k, t, hk, rfl, rfl, ht, rfl⟩ := hrel
    by_cases hlt : k < p
    · obtain ⟨t2, e1, e2, e3⟩ := ten_step hlt hp ht.out
      have H2 := Lib.hid e2
      clear e2 ht
      have w1 : IntKind.u64.wrap (t2 : Int) = (t2 : Int) := IntWalk.u64_in _ (by omega)
      go_wp2_with fail
      go_roundw
      case rel => exact ⟨k + 1, t2, by omega, by go_num, rfl, H2, by first | trivial | rfl⟩
      case measure => simp [intOf]; omega
    · obtain rfl : k = p := by omega
      obtain rfl : t = T := by rw [ht.out, HT10.out]
      clear ht hlt hk
      go_upto_region 8 with fail
      have x1 := S1.out.b0.fst
      have l0 := S1.out.b0.lt
      have ne1 := World.new_ne wr _ x1
      go_cut [7, 8] from 14 (fun s7 s8 wx => ∃ (p7 : Nat), s7 = .pointer (some ⟨p7, 0, none⟩) ∧ s8 = .int .i64 9 ∧ Hid (Below w.heap.size w wx))
      case first =>
        go_region_held3 (fun w' => w'.cell? ⟨w.heap.size, 0, none⟩ = some (.slice A n c)) (go_keep)
          (first
            | (go_at_call 39; first
              | ((with_reducible refine (co _).mono ?_); rintro e w5 ⟨A5, n5, c5, rfl, q, hb⟩; obtain ⟨z, q2⟩ := num_at HKT.out q; subst z; have S5 := Lib.hid ((S1.out.drew.below hb).addc q2); have x5 := S5.out.b0.fst; have ne5 := World.new_ne w5 _ x5; clear hb q q2)
              | ((with_reducible refine (co _).mono ?_); rintro e w5 ⟨A5, n5, c5, rfl, q, hb⟩; obtain ⟨z, q2⟩ := num_at HKT.out q; subst z; have S5b := Lib.hid (((S1.out.al1 _ _).drew.below hb).addc q2); have x5 := S5b.out.b1.fst; clear hb q q2))
            | (go_at_call 49; first
              | ((with_reducible refine (cm _ _ _ _ _ S5.out.c1 S5.out.c0).mono ?_); rintro e w6 ⟨A6, n6, c6, rfl, q, hb⟩; have S6 := Lib.hid (S5.out.below hb); have x6 := S6.out.b0.fst; have ne6 := World.new_ne w6 _ x6; clear hb q)
              | ((with_reducible refine (cm _ _ _ _ _ (S5.out.al1 _ _).c1 (S5.out.al1 _ _).c0).mono ?_); rintro e w6 ⟨A6, n6, c6, rfl, q, hb⟩; have S6 := Lib.hid ((S5.out.al1 _ _).below hb); have x6 := S6.out.b1.fst; have y6 := S6.out.b0.one; have f6 := S6.out.b0.free 0; have ne6 : w5.heap.size ≠ w.heap.size := Ne.symm (Nat.ne_of_lt S5.out.b0.lt); clear hb q)
              | ((with_reducible refine (cm _ _ _ _ _ S5b.out.c1 S5b.out.c0).mono ?_); rintro e w6 ⟨A6, n6, c6, rfl, q, hb⟩; have S6 := Lib.hid (S5b.out.below hb); have x6 := S6.out.b1.fst; have y6 := S6.out.b0.one; have f6 := S6.out.b0.free 0; have ne6 : wr.heap.size ≠ w.heap.size := Ne.symm (Nat.ne_of_lt l0); clear hb q)))
        all_goals go_wp2_with fail
        all_goals go_meet
        all_goals first
          | exact ⟨_, rfl, rfl, Lib.hid (S6.out.alloc _).bel⟩
          | exact ⟨_, rfl, rfl, Lib.hid (S6.out.bel.setCell (p := ⟨_, 0, none⟩) S5.out.bel.size _)⟩
          | exact ⟨_, rfl, rfl, Lib.hid (S6.out.bel.setCell (p := ⟨_, 0, none⟩) S1.out.bel.size _)⟩
      case rest =>
        obtain ⟨p7, rfl, rfl, hk⟩ := hcut
        clear S1 S0 x1 l0 ne1 co cm c1
        go_wp2_with fail
        go_ret2
        exact ⟨rfl, hk.out⟩

/-- text and error of Decimal -/
def dcA (b : Bool) (X Y : Nat) (p : Int) : List UInt8 × Int := if b = false ∨ p < 0 ∨ 18 < p then ([], 2) else if big (X * 10 ^ p.toNat) then ([], 9) else (decT (X * 10 ^ p.toNat / Y) p.toNat, 0)
theorem fdec_any (A B : Option Addr) (n c m d X Y : Nat) (p : Int) (hX : Hid (X < 4294967296 ^ n)) (hY : Hid (Y < 4294967296 ^ m)) (i1 : n ≤ c) (i2 : m ≤ d) (j1 : n ≤ 9223372036854775807) (j2 : m ≤ 9223372036854775807)
    (w : World) (htab : Tab w) (h1 : Cel .u32 w A (dg 4294967296 n X)) (h2 : Cel .u32 w B (dg 4294967296 m Y)) :
    Calls Tryd.prog 27 #[.agg #[.slice A n c, .slice B m d], .int .i64 p] w (TxP (dcA (frB n X m Y) X Y p).1 (dcA (frB n X m Y) X Y p).2 w) := by
  unfold dcA
  by_cases hno : frB n X m Y = false ∨ p < 0 ∨ 18 < p
  · rw [if_pos hno]
    exact fdec_no A B n c m d X Y p (frB n X m Y) hX hY i1 i2 j1 j2 (Lib.hid rfl) hno w h1 h2
  · rw [if_neg hno]
    have hv : frB n X m Y = true := by
      cases h : frB n X m Y with
      | true => rfl
      | false => exact absurd (.inl h) hno
    obtain ⟨v1, v2, l⟩ := fr_low hv
    obtain ⟨q, rfl⟩ := Int.eq_ofNat_of_zero_le (show 0 ≤ p by omega)
    rw [Int.toNat_natCast]
    by_cases hb : nlen 4294967296 (X * 10 ^ q) ≤ 64
    · rw [big_no hb, if_neg (by simp)]
      exact fdec_ok A B n c m d X Y q hX hY i1 i2 (Lib.hid v1) (Lib.hid v2) (Lib.hid hv) l.1 (by omega) hb w htab h1 h2
    · rw [big_yes (by omega), if_pos rfl]
      exact fdec_big A B n c m d X Y q hX hY i1 i2 (Lib.hid v1) (Lib.hid v2) (Lib.hid hv) l.1 (by omega) (by omega) w h1 h2
end Go.Proofs.YtinceponggpioaaDoor.frI

/-
  The law of forms.
-/
import Derived.Test.YtjbckijeobmoeaaNatLb
import Derived.Deep.RegionHeld3
namespace Go.Proofs.Ytjbckijeobmoeaa.natLf
open Go.RowKit
open Go.Proofs.Ytjbckijeobmoeaa.natM Go.Proofs.Ytjbckijeobmoeaa.natA Go.Proofs.Ytjbckijeobmoeaa.natB Go.Proofs.Ytjbckijeobmoeaa.natC Go.Proofs.Ytjbckijeobmoeaa.natD Go.Proofs.Ytjbckijeobmoeaa.natE Go.Proofs.Ytjbckijeobmoeaa.natF Go.Proofs.Ytjbckijeobmoeaa.natG Go.Proofs.Ytjbckijeobmoeaa.natH Go.Proofs.Ytjbckijeobmoeaa.natI Go.Proofs.Ytjbckijeobmoeaa.natJ Go.Proofs.Ytjbckijeobmoeaa.natR Go.Proofs.Ytjbckijeobmoeaa.natS Go.Proofs.Ytjbckijeobmoeaa.natT Go.Proofs.Ytjbckijeobmoeaa.natX Go.Proofs.Ytjbckijeobmoeaa.natUi Go.Proofs.Ytjbckijeobmoeaa.natY Go.Proofs.Ytjbckijeobmoeaa.natZ Go.Proofs.Ytjbckijeobmoeaa.natDm Go.Proofs.Ytjbckijeobmoeaa.natGc Go.Proofs.Ytjbckijeobmoeaa.natLa Go.Proofs.Ytjbckijeobmoeaa.natLb
set_option linter.unusedVariables false

theorem of_len {N : Nat} (h : N < 18446744073709551616) : nlen 4294967296 N ≤ 2 := nlen_le (by omega) (by simpa using h)
theorem of_val {N : Nat} (h : N < 18446744073709551616) : valB (nlen 4294967296 N) N = true := valB_iff.2 ⟨by have := of_len h; omega, rfl⟩
theorem of_uint {N : Nat} (h : N < 18446744073709551616) : uOk (nlen 4294967296 N) N = true ∧ uV (nlen 4294967296 N) N = N := u_ok (of_val h) (of_len h)
theorem wrap_neg {C C2 : Int} (h : C2 = -C) (h1 : C = -1 ∨ C = 0 ∨ C = 1) : IntKind.i64.wrap (-C) = C2 := by
  subst h; rcases h1 with rfl | rfl | rfl <;> decide
theorem cmpV_three (n X m Y : Nat) : cmpV n X m Y = -1 ∨ cmpV n X m Y = 0 ∨ cmpV n X m Y = 1 := by
  unfold cmpV cmpI; split
  · split
    · exact Or.inl rfl
    · split
      · exact Or.inr (Or.inr rfl)
      · exact Or.inr (Or.inl rfl)
  · exact Or.inr (Or.inl rfl)
theorem cmpV_neg (n X m Y : Nat) : cmpV m Y n X = -cmpV n X m Y := by
  by_cases h : valB n X = true ∧ valB m Y = true
  · rw [cmpV_ok h.1 h.2, cmpV_ok h.2 h.1, cmpI_neg]
  · have h2 : ¬ (valB m Y = true ∧ valB n X = true) := fun ⟨a, b⟩ => h ⟨b, a⟩
    unfold cmpV; rw [if_neg h, if_neg h2]; rfl

/-- what the law holds: its boxes, its arguments -/
structure Fs (w : World) (A D : Option Addr) (n c m d X Y : Nat) (W : World) : Prop where
  bel : Below w.heap.size w W
  ba : Bx W w.heap.size (.slice A n c)
  bb : Bx W (w.heap.size + 1) (.slice D m d)
  cI : Cel .u32 W A (dg 4294967296 n X)
  cJ : Cel .u32 W D (dg 4294967296 m Y)
section
variable {w W W1 : World} {A D : Option Addr} {n c m d X Y : Nat}
theorem Fs.start2 (hI : Cel .u32 w A (dg 4294967296 n X)) (hJ : Cel .u32 w D (dg 4294967296 m Y)) {T : TypeId} :
    Fs w A D n c m d X Y ((w.alloc (.cells #[.slice A n c] T)).alloc (.cells #[.slice D m d] T)) :=
  ⟨below_two _ _ _, (bx2 _ _ _ _ _).1, (bx2 _ _ _ _ _).2, cel_two hI _ _, cel_two hJ _ _⟩
theorem Fs.below (h : Fs w A D n c m d X Y W) (hb : Below W.heap.size W W1) : Fs w A D n c m d X Y W1 :=
  ⟨below_on h.bel hb, h.ba.below hb, h.bb.below hb, h.cI.below hb, h.cJ.below hb⟩
theorem Fs.drew (h : Fs w A D n c m d X Y W) : Fs w A D n c m d X Y W.drew := ⟨bel_drew h.bel, h.ba, h.bb, h.cI, h.cJ⟩
theorem Fs.xa (h : Fs w A D n c m d X Y W) : W.cell? ⟨w.heap.size, 0, none⟩ = some (.slice A n c) := h.ba.cell
theorem Fs.xb (h : Fs w A D n c m d X Y W) : W.cell? ⟨w.heap.size + 1, 0, none⟩ = some (.slice D m d) := h.bb.cell
end

set_option maxHeartbeats 16000000 in
theorem forms_any (N : Nat) (hN : N < 18446744073709551616) (A D : Option Addr) (n c m d X Y : Nat) (hX : Hid (X < 4294967296 ^ n)) (hY : Hid (Y < 4294967296 ^ m)) (hn : n ≤ 9223372036854775807) (hm : m ≤ 9223372036854775807) (w : World) (hI : Cel .u32 w A (dg 4294967296 n X)) (hJ : Cel .u32 w D (dg 4294967296 m Y)) :
    Calls Try.prog 3 #[.int .u64 (N : Int), .agg #[.slice A n c], .agg #[.slice D m d]] w fun e w' => e = .returned (.bool true) ∧ Below w.heap.size w w' := by
  obtain ⟨V, hV⟩ : ∃ V, Hid (V = uV n X) := ⟨_, Lib.hid rfl⟩
  obtain ⟨R, hR⟩ : ∃ R, Hid (R = uOk n X) := ⟨_, Lib.hid rfl⟩
  obtain ⟨Q, hQ⟩ : ∃ Q, Hid (Q = valB n X) := ⟨_, Lib.hid rfl⟩
  obtain ⟨C, hC⟩ : ∃ C, Hid (C = cmpV n X m Y) := ⟨_, Lib.hid rfl⟩
  obtain ⟨C2, hC2⟩ : ∃ C2, Hid (C2 = cmpV m Y n X) := ⟨_, Lib.hid rfl⟩
  obtain ⟨M, hM⟩ : ∃ M, Hid (M = nlen 4294967296 N) := ⟨_, Lib.hid rfl⟩
  have wn : IntKind.i64.wrap (-C) = C2 := wrap_neg (by rw [hC.out, hC2.out, cmpV_neg]) (by rw [hC.out]; exact cmpV_three _ _ _ _)
  have hM2 : M ≤ 2 := by rw [hM.out]; exact of_len hN
  have hU : uOk M N = true ∧ uV M N = N := by rw [hM.out]; exact of_uint hN
  have hL : Hid (N < 4294967296 ^ M) := Lib.hid (by rw [hM.out]; exact nlen_lt (by omega) N)
  have k1 : ∀ w, Cel .u32 w A (dg 4294967296 n X) → Calls Try.prog 10 #[.agg #[.slice A n c]] w fun e w' => e = .returned (.tuple #[.int .u64 (V : Int), .bool R]) ∧ Below w.heap.size w w' := fun w hI => uint_any A n c X V R hX hV hR hn w hI
  have k2 : ∀ w, Cel .u32 w A (dg 4294967296 n X) → Calls Try.prog 11 #[.agg #[.slice A n c]] w fun e w' => e = .returned (.tuple #[.int .u64 (V : Int), .bool R]) ∧ Below w.heap.size w w' := fun w hI => ruint_any A n c X V R hX hV hR hn w hI
  have k3 : ∀ w, Calls Try.prog 12 #[.int .u64 (N : Int)] w (OfP N w) := fun w => of_any N hN w
  have k4 : ∀ A c w, Cel .u32 w A (dg 4294967296 M N) → Calls Try.prog 10 #[.agg #[.slice A M c]] w fun e w' => e = .returned (.tuple #[.int .u64 (N : Int), .bool true]) ∧ Below w.heap.size w w' := fun A c w hI => uint_any A M c N N true hL (Lib.hid hU.2.symm) (Lib.hid hU.1.symm) (by omega) w hI
  have k5 : ∀ w, Calls Try.prog 14 #[.int .u64 (N : Int)] w (OfP N w) := fun w => rof_any N hN w
  have k6 : ∀ A c D d w, Cel .u32 w A (dg 4294967296 M N) → Cel .u32 w D (dg 4294967296 M N) → Calls Try.prog 13 #[.agg #[.slice A M c], .agg #[.slice D M d]] w fun e w' => e = .returned (.bool true) ∧ Below w.heap.size w w' := fun A c D d w hI hJ => same_any A D M c d N (by omega) w hI hJ
  have k7 : ∀ w, Cel .u32 w A (dg 4294967296 n X) → Calls Try.prog 15 #[.agg #[.slice A n c]] w fun e w' => e = .returned (.bool Q) ∧ Below w.heap.size w w' := fun w hI => valid_any A n c X Q hX hQ hn w hI
  have k8 : ∀ w, Cel .u32 w A (dg 4294967296 n X) → Calls Try.prog 16 #[.agg #[.slice A n c]] w fun e w' => e = .returned (.bool Q) ∧ Below w.heap.size w w' := fun w hI => rvalid_any A n c X Q hX hQ hn w hI
  have k9 : ∀ w, Cel .u32 w A (dg 4294967296 n X) → Cel .u32 w D (dg 4294967296 m Y) → Calls Try.prog 17 #[.agg #[.slice A n c], .agg #[.slice D m d]] w fun e w' => e = .returned (.int .i64 C) ∧ Below w.heap.size w w' := fun w hI hJ => cmp_any A D n c m d X Y C hX hY hn hm hC w hI hJ
  have k10 : ∀ w, Cel .u32 w A (dg 4294967296 n X) → Cel .u32 w D (dg 4294967296 m Y) → Calls Try.prog 18 #[.agg #[.slice A n c], .agg #[.slice D m d]] w fun e w' => e = .returned (.int .i64 C) ∧ Below w.heap.size w w' := fun w hI hJ => rcmpx_any A D n c m d X Y C hX hY hn hm hC w hI hJ
  have k11 : ∀ w, Cel .u32 w D (dg 4294967296 m Y) → Cel .u32 w A (dg 4294967296 n X) → Calls Try.prog 17 #[.agg #[.slice D m d], .agg #[.slice A n c]] w fun e w' => e = .returned (.int .i64 C2) ∧ Below w.heap.size w w' := fun w hI hJ => cmp_any D A m d n c Y X C2 hY hX hm hn hC2 w hI hJ
  have k12 := formed_any
  have HI := Lib.hid hI
  have HJ := Lib.hid hJ
  clear hI hJ hX hY hV hR hQ hC hC2 hU hL hN hM2
  go_enter Try.func3, Try.ntmps3
  go_wp2_with (first
    | (go_at_call 10; (with_reducible refine (k1 _ (cel_al (cel_al HI.out _) _)).mono ?_); rintro e w1 ⟨rfl, hb⟩; have S1 := Lib.hid ((Fs.start2 HI.out HJ.out).below hb); have xa1 := S1.out.xa; clear hb)
    | (go_at_call 11; (with_reducible refine (k2 w1 S1.out.cI).mono ?_); rintro e w2 ⟨rfl, hb⟩; have S2 := Lib.hid (S1.out.below hb); clear hb xa1)
    | (go_at_call 12; (with_reducible refine (k3 w2).mono ?_); rintro e w3 ⟨A3, n3, c3, rfl, q3, hb⟩; obtain ⟨z, g⟩ := num_at hM.out q3; subst z; have C3 := Lib.hid g; have S3 := Lib.hid (S2.out.below hb); clear hb g q3)
    | (go_at_call 10; (with_reducible refine (k4 A3 c3 w3 C3.out).mono ?_); rintro e w4 ⟨rfl, hb⟩; have S4 := Lib.hid (S3.out.below hb); have xa4 := S4.out.xa; have xb4 := S4.out.xb; clear hb))
  clear k1 k2 k4 S1 S2 S3 C3
  go_region_held3 (fun w' => w'.cell? ⟨w.heap.size, 0, none⟩ = some (.slice A n c) ∧ w'.cell? ⟨w.heap.size + 1, 0, none⟩ = some (.slice D m d)) (go_keep)
    (first
      | (go_at_call 12; (with_reducible refine (k3 w4.drew).mono ?_); rintro e w5 ⟨A5, n5, c5, rfl, q5, hb⟩; obtain ⟨z, g⟩ := num_at hM.out q5; subst z; have C5 := Lib.hid g; have S5 := Lib.hid (S4.out.drew.below hb); have xa5 := S5.out.xa; have xb5 := S5.out.xb; clear hb g q5)
      | (go_at_call 14; (with_reducible refine (k5 w5).mono ?_); rintro e w6 ⟨A6, n6, c6, rfl, q6, hb⟩; obtain ⟨z, g⟩ := num_at hM.out q6; subst z; have C6 := Lib.hid g; have C56 := Lib.hid (C5.out.below hb); have S6 := Lib.hid (S5.out.below hb); have xa6 := S6.out.xa; have xb6 := S6.out.xb; clear hb g q6)
      | (go_at_call 13; (with_reducible refine (k6 A5 c5 A6 c6 w6 C56.out C6.out).mono ?_); rintro e w7 ⟨rfl, hb⟩; have S7 := Lib.hid (S6.out.below hb); have xa7 := S7.out.xa; have xb7 := S7.out.xb; clear hb)
      | (go_at_call 15; (with_reducible refine (k7 w7 S7.out.cI).mono ?_); rintro e w8 ⟨rfl, hb⟩; have S8 := Lib.hid (S7.out.below hb); have xa8 := S8.out.xa; have xb8 := S8.out.xb; clear hb)
      | (go_at_call 16; (with_reducible refine (k8 w8 S8.out.cI).mono ?_); rintro e w9 ⟨rfl, hb⟩; have S9 := Lib.hid (S8.out.below hb); have xa9 := S9.out.xa; have xb9 := S9.out.xb; clear hb)
      | (go_at_call 17; (with_reducible refine (k9 w9 S9.out.cI S9.out.cJ).mono ?_); rintro e w10 ⟨rfl, hb⟩; have S10 := Lib.hid (S9.out.below hb); have xa10 := S10.out.xa; have xb10 := S10.out.xb; clear hb)
      | (go_at_call 18; (with_reducible refine (k10 w10 S10.out.cI S10.out.cJ).mono ?_); rintro e w11 ⟨rfl, hb⟩; have S11 := Lib.hid (S10.out.below hb); have xa11 := S11.out.xa; have xb11 := S11.out.xb; clear hb)
      | (go_at_call 17; (with_reducible refine (k11 w11 S11.out.cJ S11.out.cI).mono ?_); rintro e w12 ⟨rfl, hb⟩; have S12 := Lib.hid (S11.out.below hb); have xa12 := S12.out.xa; have xb12 := S12.out.xb; clear hb)
      | (go_at_call 17; (with_reducible refine (k9 w12 S12.out.cI S12.out.cJ).mono ?_); rintro e w13 ⟨rfl, hb⟩; have S13 := Lib.hid (S12.out.below hb); have xa13 := S13.out.xa; have xb13 := S13.out.xb; clear hb)
      | (go_at_call 19; (with_reducible refine (k12 w13).mono ?_); rintro e w14 ⟨rfl, hb⟩; have S14 := Lib.hid (S13.out.below hb); have xa14 := S14.out.xa; have xb14 := S14.out.xb; clear hb))
  go_wp2_with fail
  go_ret
  exact ⟨rfl, S14.out.bel⟩
end Go.Proofs.Ytjbckijeobmoeaa.natLf

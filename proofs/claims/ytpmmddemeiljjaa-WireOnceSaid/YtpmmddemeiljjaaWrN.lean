/-
  The law WireNobody, over any writer, reader, Frame and Next that keep the records of contracts, and the contracts for nil.
-/
import Derived.Test.YtpmmddemeiljjaaWrR
namespace Go.Proofs.Ytpmmddemeiljjaa.wrNo
open Go.RowKit
open Go.Proofs.Ytpmmddemeiljjaa.dgM Go.Proofs.Ytpmmddemeiljjaa.wrM Go.Proofs.Ytpmmddemeiljjaa.wrO Go.Proofs.Ytpmmddemeiljjaa.wrA Go.Proofs.Ytpmmddemeiljjaa.wrB Go.Proofs.Ytpmmddemeiljjaa.wrC Go.Proofs.Ytpmmddemeiljjaa.wrE Go.Proofs.Ytpmmddemeiljjaa.wrH Go.Proofs.Ytpmmddemeiljjaa.wrQ Go.Proofs.Ytpmmddemeiljjaa.wrL Go.Proofs.Ytpmmddemeiljjaa.wrW Go.Proofs.Ytpmmddemeiljjaa.wrV
set_option linter.unusedVariables false

/-- what is returned, with new memory alone -/
abbrev Ret (w : World) (v : Value) (e : Ending) (w' : World) : Prop := e = .returned v ∧ Below w.heap.size w w'
abbrev Ret0 (w : World) (e : Ending) (w' : World) : Prop := (∃ A c, e = .returned (.slice A 0 c)) ∧ Below w.heap.size w w'
/-- a nil writer's and a nil reader's functions -/
structure PN (wint wuint wtext wints wbytes rint ruint rtext rints rleft rerr : FuncId) : Prop where
  wint : ∀ (x : Int), -9223372036854775808 ≤ x → x ≤ 9223372036854775807 → ∀ w, Calls Try.prog wint #[.pointer none, .int .i64 x] w (Ret w (.tuple #[]))
  wuint : ∀ (x : Nat), x < A64 → ∀ w, Calls Try.prog wuint #[.pointer none, .int .u64 (x : Int)] w (Ret w (.tuple #[]))
  wtext : ∀ (x : ByteArray), x.size ≤ 9223372036854775807 → ∀ w, Calls Try.prog wtext #[.pointer none, .string x] w (Ret w (.tuple #[]))
  wints : ∀ (A : Option Addr) (c : Nat) (zs : List Int), Fit zs → zs.length ≤ 9223372036854775807 → ∀ w, Ci w A zs → Calls Try.prog wints #[.pointer none, .slice A zs.length c] w (Ret w (.tuple #[]))
  wbytes : ∀ w, Calls Try.prog wbytes #[.pointer none] w (Ret0 w)
  rint : ∀ w, Calls Try.prog rint #[.pointer none] w (Ret w (.int .i64 0))
  ruint : ∀ w, Calls Try.prog ruint #[.pointer none] w (Ret w (.int .u64 0))
  rtext : ∀ (m : Int) w, Calls Try.prog rtext #[.pointer none, .int .i64 m] w (Ret w (.string ⟨#[]⟩))
  rints : ∀ (m : Int) w, Calls Try.prog rints #[.pointer none, .int .i64 m] w (Ret0 w)
  rleft : ∀ w, Calls Try.prog rleft #[.pointer none] w (Ret w (.int .i64 0))
  rerr : ∀ w, Calls Try.prog rerr #[.pointer none] w (Ret w (.int .i64 5))
abbrev PNi := PN 43 42 44 45 20
  24 26 28 31 33 35

set_option maxRecDepth 10000 in
set_option maxHeartbeats 2000000 in
/-- a nil writer is written one item -/
theorem write_nil (N : PNi) (g : Nat) (x : It) (hok : x.ok) (hll : x.l.length ≤ 9223372036854775807) (w : World) (h5 : R5 w g x) (hI : Ci w x.A x.l) :
    Calls Try.prog 15 #[.pointer none, .slice (some ⟨g, 0, none⟩) 1 1] w (Ret w (.tuple #[])) := by
  have n1 := fun w => N.wint x.n hok.2.1.1 hok.2.1.2 w
  have n2 := fun w => N.wuint x.u hok.2.2.1 w
  have n3 := fun w => N.wtext x.s hok.2.2.2.2.2.1 w
  have n4 := fun w h => N.wints x.A x.c x.l hok.2.2.2.1 hll w h
  unfold Ret at n1 n2 n3 n4 ⊢
  clear hok hll
  go_enter Try.func15, Try.ntmps15
  go_wp2_with fail
  go_loopw [7] (fun s7 wr => ∃ (k : Nat), k ≤ 1 ∧ s7 = .int .i64 (k : Int) ∧ Below w.heap.size w wr) (fun s7 _ => 1 - (intOf s7).toNat)
  case atStart => exact ⟨0, by omega, rfl, Below.refl _ _⟩
  case round =>
    obtain ⟨k, hk, rfl, hB⟩ := hrel
    by_cases hlt : k = 0
    · subst hlt
      have r5 : R5 wr g x := R5.mv (F := []) h5 (Mv.of_below hB) (by simp)
      have c0 := r5.c0
      have c1 := r5.c1
      have c2 := r5.c2
      have c3 := r5.c3
      have c4 := r5.c4
      have hIr := hI.below hB
      by_cases k1 : x.kind = 1
      · have t1 : (x.kind == 1) = true := by simpa using k1
        clear k1
        go_wp2_with (go_at_call 43; (refine (n1 _).mono ?_); rintro e w3 ⟨rfl, B3⟩)
        go_roundw
        case rel => exact ⟨1, by omega, by go_num, below_on hB B3⟩
        case measure => simp [intOf]
      have t1 : (x.kind == 1) = false := by simpa using k1
      by_cases k2 : x.kind = 2
      · have t2 : (x.kind == 2) = true := by simpa using k2
        clear k1 k2
        go_wp2_with (go_at_call 42; (refine (n2 _).mono ?_); rintro e w3 ⟨rfl, B3⟩)
        go_roundw
        case rel => exact ⟨1, by omega, by go_num, below_on hB B3⟩
        case measure => simp [intOf]
      have t2 : (x.kind == 2) = false := by simpa using k2
      by_cases k3 : x.kind = 3
      · have t3 : (x.kind == 3) = true := by simpa using k3
        clear k1 k2 k3
        go_wp2_with (go_at_call 44; (refine (n3 _).mono ?_); rintro e w3 ⟨rfl, B3⟩)
        go_roundw
        case rel => exact ⟨1, by omega, by go_num, below_on hB B3⟩
        case measure => simp [intOf]
      have t3 : (x.kind == 3) = false := by simpa using k3
      clear k1 k2 k3
      go_wp2_with (go_at_call 45; (refine (n4 _ hIr).mono ?_); rintro e w3 ⟨rfl, B3⟩)
      go_roundw
      case rel => exact ⟨1, by omega, by go_num, below_on hB B3⟩
      case measure => simp [intOf]
    · obtain rfl : k = 1 := by omega
      go_wp2_with fail
      go_end0
      exact ⟨rfl, hB⟩
set_option maxRecDepth 10000 in
set_option maxHeartbeats 2000000 in
theorem nobody (P : PWr) (Q : PRd) (H : PFr) (N : PNi) (x : It) (hok : x.ok) (hll : x.l.length ≤ 9223372036854775807) (m : Int) (w : World) (hI : Ci w x.A x.l) :
    Calls Try.prog 10 #[.agg #[.int .i64 x.kind, .int .i64 x.n, .int .u64 (x.u : Int), .string x.s, .slice x.A x.l.length x.c], .int .i64 m] w fun e w' => e = .returned (.bool true) ∧ Below w.heap.size w w' := by
  have hR : R5 ((w.alloc (.cells #[.int .i64 x.kind, .int .i64 x.n, .int .u64 (x.u : Int), .string x.s, .slice x.A x.l.length x.c] 33)).alloc (.cells #[.int .i64 x.kind, .int .i64 x.n, .int .u64 (x.u : Int), .string x.s, .slice x.A x.l.length x.c] 33)) (w.heap.size + 1) x := by
    have e : (w.alloc (.cells #[.int .i64 x.kind, .int .i64 x.n, .int .u64 (x.u : Int), .string x.s, .slice x.A x.l.length x.c] 33)).heap.size = w.heap.size + 1 := by simp
    rw [← e]; exact ⟨_, heap_alloc_new _ _⟩
  have hBa : Below w.heap.size w ((w.alloc (.cells #[.int .i64 x.kind, .int .i64 x.n, .int .u64 (x.u : Int), .string x.s, .slice x.A x.l.length x.c] 33)).alloc (.cells #[.int .i64 x.kind, .int .i64 x.n, .int .u64 (x.u : Int), .string x.s, .slice x.A x.l.length x.c] 33)) := below_on (below_al w _) (below_al _ _)
  go_enter Try.func10, Try.ntmps10
  go_wp2_with (first
    | (go_at_call 15; (refine (write_nil N _ x hok hll _ hR (hI.below hBa)).mono ?_); rintro e w1 ⟨rfl, B1⟩; have D1 := below_on hBa B1)
    | (go_at_call 20; (refine (N.wbytes _).mono ?_); rintro e w2 ⟨⟨A2, c2, rfl⟩, B2⟩; have D2 := below_on D1 B2)
    | (go_at_call 24; (refine (N.rint _).mono ?_); rintro e w3 ⟨rfl, B3⟩; have D3 := below_on D2 B3)
    | (go_at_call 26; (refine (N.ruint _).mono ?_); rintro e w4 ⟨rfl, B4⟩; have D4 := below_on D3 B4)
    | (go_at_call 28; (refine (N.rtext _ _).mono ?_); rintro e w5 ⟨rfl, B5⟩; have D5 := below_on D4 B5)
    | (go_at_call 31; (refine (N.rints _ _).mono ?_); rintro e w6 ⟨⟨A6, c6, rfl⟩, B6⟩; have D6 := below_on D5 B6)
    | (go_at_call 33; (refine (N.rleft _).mono ?_); rintro e w7 ⟨rfl, B7⟩; have D7 := below_on D6 B7)
    | (go_at_call 35; (refine (N.rerr _).mono ?_); rintro e w8 ⟨rfl, B8⟩; have D8 := below_on D7 B8)
    | (go_at_call 12; (refine (awake_any P Q H _).mono ?_); rintro e w9 ⟨rfl, B9⟩))
  go_ret
  exact ⟨rfl, below_on D8 B9⟩
end Go.Proofs.Ytpmmddemeiljjaa.wrNo

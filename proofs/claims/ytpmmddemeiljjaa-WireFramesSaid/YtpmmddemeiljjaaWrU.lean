/-
  The law WireFrames, over any Frame and Next that keep the record of contracts.
-/
import Derived.Test.YtpmmddemeiljjaaWrW
import Derived.Deep.RegionHeldLaw
namespace Go.Proofs.Ytpmmddemeiljjaa.wrU
open Go.RowKit
open Go.Proofs.Ytpmmddemeiljjaa.dgM Go.Proofs.Ytpmmddemeiljjaa.wrM Go.Proofs.Ytpmmddemeiljjaa.wrO Go.Proofs.Ytpmmddemeiljjaa.wrA Go.Proofs.Ytpmmddemeiljjaa.wrB Go.Proofs.Ytpmmddemeiljjaa.wrC Go.Proofs.Ytpmmddemeiljjaa.wrD Go.Proofs.Ytpmmddemeiljjaa.wrE Go.Proofs.Ytpmmddemeiljjaa.wrH Go.Proofs.Ytpmmddemeiljjaa.wrQ Go.Proofs.Ytpmmddemeiljjaa.wrL Go.Proofs.Ytpmmddemeiljjaa.wrW
set_option linter.unusedVariables false

theorem un_drew {w v : World} (h : Below w.drew.heap.size w.drew v) : Below w.heap.size w v := ⟨h.os, h.tape, h.output, h.size, h.block⟩
set_option maxRecDepth 10000 in
set_option maxHeartbeats 2000000 in
theorem frames (P : PWr) (Q : PRd) (H : PFr) (A : Option Addr) (n c : Nat) (b : List UInt8) (t : Int) (hn : b.length = n) (hN : n ≤ 9223372036854775807) (hc : n ≤ c) (hA : A = none → c = 0) (w : World) (hC : Cb w A b) :
    Calls Try.prog 7 #[.slice A n c, .int .i64 t] w fun e w' => e = .returned (.bool true) ∧ Below w.heap.size w w' := by
  by_cases h : n ≤ 20000
  · have t1 : ¬ (20000 : Int) < (n : Int) := by omega
    subst hn
    have c1 := fun w h => H.next A c b t (by omega) hc hA w h
    have c2 := fun w h => refF.next A c b t (by omega) hc hA w h
    have c3 := fun w h => H.frame A c b (by omega) hc hA w h
    have c4 := fun w h => refF.frame A c b (by omega) hc hA w h
    obtain ⟨X, hX⟩ : ∃ X, X = (nxt b t).1 := ⟨_, rfl⟩
    rw [← hX] at c1 c2
    clear hX
    generalize (nxt b t).2.1 = N at *
    generalize (nxt b t).2.2 = E at *
    generalize fr b = Y at *
    obtain ⟨n, hn⟩ : ∃ n, n = b.length := ⟨_, rfl⟩
    rw [← hn] at c1 c2 c3 c4 t1 ⊢
    clear hn h hc hN
    go_enter Try.func7, Try.ntmps7
    go_upto_region 5 with (first
      | (go_at_call 38; (with_reducible refine (c1 _ hC).mono ?_); rintro e w1 ⟨A1, n1, k1, rfl, C1, rfl, hk1, hA1, hnw1, B1⟩; have hC1 := hC.below B1)
      | (go_at_call 39; (with_reducible refine (c2 _ hC1).mono ?_); rintro e w2 ⟨A2, n2, k2, rfl, C2, rfl, hk2, hA2, hnw2, B2⟩; have hC2 := hC1.below B2; have C12 := C1.below B2; have B2' := below_on B1 B2))
    have hCd : Cb w2.drew A b := hC2.drewN 1
    have cvx : ∀ A' k W, Cb W A' X → (convert 38 9 (.slice A' X.length k)).run Try.prog W = .ok (.string ⟨X.toArray⟩) W := fun A' k W h => conv_any W A' X.length k X rfl h
    have cvy : ∀ A' k W, Cb W A' Y → (convert 38 9 (.slice A' Y.length k)).run Try.prog W = .ok (.string ⟨Y.toArray⟩) W := fun A' k W h => conv_any W A' Y.length k Y rfl h
    have p0 := cvx A1 k1 w2.drew (C12.drewN 1)
    have q0 := cvx A2 k2 w2.drew (C2.drewN 1)
    go_region_held_law (fun w' => (convert 38 9 (.slice A1 X.length k1)).run Try.prog w' = .ok (.string ⟨X.toArray⟩) w' ∧ (convert 38 9 (.slice A2 X.length k2)).run Try.prog w' = .ok (.string ⟨X.toArray⟩) w') (first | exact ⟨p0, q0⟩ | exact ⟨p3, q3⟩ | exact ⟨p4, q4⟩ | exact ⟨p6, q6⟩)
      (first
        | (go_at_call 40; (with_reducible refine (c3 _ hCd).mono ?_); rintro e w3 ⟨A3, n3, k3, rfl, C3, rfl, hk3, hA3, hnw3, B3⟩; have B3' := un_drew B3; have hC3 := hC2.below B3'; have v3 := cvy A3 k3 w3 C3; have p3 := cvx A1 k1 w3 (C12.below B3'); have q3 := cvx A2 k2 w3 (C2.below B3'))
        | (go_at_call 41; (with_reducible refine (c4 _ hC3).mono ?_); rintro e w4 ⟨A4, n4, k4, rfl, C4, rfl, hk4, hA4, hnw4, B4⟩; have v4 := cvy A4 k4 w4 C4; have v5 := cvy A3 k3 w4 (C3.below B4); have p4 := cvx A1 k1 w4 ((C12.below B3').below B4); have q4 := cvx A2 k2 w4 ((C2.below B3').below B4); have B4' := below_on (below_on B2' B3') B4)
        | (go_at_call 12; (with_reducible refine (awake_any P Q H _).mono ?_); rintro e w6 ⟨rfl, B6⟩; have p6 := cvx A1 k1 w6 (((C12.below B3').below B4).below B6); have q6 := cvx A2 k2 w6 (((C2.below B3').below B4).below B6))
        | fail)
    all_goals
      go_wp2_with fail
      go_ret
      exact ⟨rfl, below_on B4' B6⟩
  · have t1 : (20000 : Int) < (n : Int) := by omega
    clear hn h hc
    go_enter Try.func7, Try.ntmps7
    go_wp2_with (go_at_call 12; (with_reducible refine (awake_any P Q H _).mono ?_); rintro e w6 ⟨rfl, B6⟩)
    go_ret
    exact ⟨rfl, B6⟩
end Go.Proofs.Ytpmmddemeiljjaa.wrU

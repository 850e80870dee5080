/-
  The law WireReads, over any reader that keeps the record of contracts, beside the reference's.
-/
import Derived.Test.YtpmmddemeiljjaaWrW
import Derived.Deep.RegionHeld3
namespace Go.Proofs.Ytpmmddemeiljjaa.wrY
open Go.RowKit
open Go.Proofs.Ytpmmddemeiljjaa.dgM Go.Proofs.Ytpmmddemeiljjaa.wrM Go.Proofs.Ytpmmddemeiljjaa.wrO Go.Proofs.Ytpmmddemeiljjaa.wrA Go.Proofs.Ytpmmddemeiljjaa.wrB Go.Proofs.Ytpmmddemeiljjaa.wrC Go.Proofs.Ytpmmddemeiljjaa.wrE Go.Proofs.Ytpmmddemeiljjaa.wrH Go.Proofs.Ytpmmddemeiljjaa.wrQ Go.Proofs.Ytpmmddemeiljjaa.wrL Go.Proofs.Ytpmmddemeiljjaa.wrW
set_option linter.unusedVariables false

/-! ### calls asked -/
structure Ak where
  kind : Int
  most : Int
def Ak.ok (x : Ak) : Prop := (-9223372036854775808 ≤ x.kind ∧ x.kind ≤ 9223372036854775807) ∧ -9223372036854775808 ≤ x.most ∧ x.most ≤ 9223372036854775807
def AkAt (w : World) (b off : Nat) (x : Ak) : Prop := w.cell? ⟨b, off, none⟩ = some (.int .i64 x.kind) ∧ w.cell? ⟨b, off + 1, none⟩ = some (.int .i64 x.most) ∧ x.ok
def Aks (w : World) (A : Option Addr) (xs : List Ak) : Prop :=
  0 < xs.length → ∃ b off, A = some ⟨b, off, none⟩ ∧ ∀ (j : Nat) (x : Ak), xs[j]? = some x → AkAt w b (off + j * 2) x
theorem AkAt.below {w w' : World} {b off : Nat} {x : Ak} (h : AkAt w b off x) (hb : Below w.heap.size w w') : AkAt w' b off x := by
  have hlt : b < w.heap.size := World.block_lt_of_cell? w _ h.1
  exact ⟨by rw [hb.cell (p := ⟨b, off, none⟩) hlt]; exact h.1, by rw [hb.cell (p := ⟨b, off + 1, none⟩) hlt]; exact h.2.1, h.2.2⟩
theorem Aks.below {w w' : World} {A : Option Addr} {xs : List Ak} (h : Aks w A xs) (hb : Below w.heap.size w w') : Aks w' A xs := fun hp => by
  obtain ⟨b, off, e, hc⟩ := h hp
  exact ⟨b, off, e, fun j x hx => (hc j x hx).below hb⟩
theorem Aks.at_ {w : World} {A : Option Addr} {xs : List Ak} (h : Aks w A xs) {k : Nat} (hk : k < xs.length) : ∃ b off, A = some ⟨b, off, none⟩ ∧ AkAt w b (off + k * 2) xs[k] := by
  obtain ⟨b, off, e, hc⟩ := h (by omega)
  exact ⟨b, off, e, hc k _ (by rw [List.getElem?_eq_getElem hk])⟩
/-! ### what is left does not grow -/
theorem left_rU (S : Rs) : (rU S).2.left ≤ S.left := by
  cases S with
  | bad e => exact Nat.le_refl _
  | ok l =>
    by_cases h : (tr l).2.2 = 0
    · rw [rU_ok h]; show (l.drop _).length ≤ l.length; rw [List.length_drop]; omega
    · rw [rU_no h]; exact Nat.zero_le _
theorem left_rI (S : Rs) : (rI S).2.left ≤ S.left := left_rU S
theorem left_rZ (m : Int) (S : Rs) : (rZ m S).2.left ≤ S.left := by
  have h := left_rU S
  unfold rZ
  split
  · rename_i n r e
    rw [e] at h
    split
    · exact Nat.zero_le _
    · exact h
  · exact Nat.zero_le _
theorem left_rT (m : Int) (S : Rs) : (rT m S).2.left ≤ S.left := by
  have h := left_rZ m S
  unfold rT
  split
  · rename_i n r e
    rw [e] at h
    split
    · exact Nat.zero_le _
    · show (r.drop n).length ≤ _
      have h' : r.length ≤ S.left := h
      rw [List.length_drop]; omega
  · exact Nat.zero_le _
theorem left_rN : ∀ (k : Nat) (S : Rs), (rN k S).2.left ≤ S.left
  | 0, S => Nat.le_refl _
  | k + 1, S => by
    have h := left_rI S
    rw [rN]
    split
    · exact Nat.zero_le _
    · rename_i x r e
      rw [e] at h
      have h2 := left_rN k (.ok r)
      split
      · rename_i xs r2 e2
        rw [e2] at h2
        exact Nat.le_trans h2 h
      · exact Nat.zero_le _
theorem left_rL (m : Int) (S : Rs) : (rL m S).2.left ≤ S.left := by
  have h := left_rZ m S
  unfold rL
  split
  · rename_i n r e
    rw [e] at h
    exact Nat.le_trans (left_rN n (.ok r)) h
  · exact Nat.zero_le _
/-! ### two readers side by side -/
structure Two (Q : PRd) (w0 w : World) (r : Nat) (G : List Nat) (v : Nat) (G2 : List Nat) (S T : Rs) : Prop where
  q : Q.O w r G S
  p : refR.O w v G2 T
  d : ∀ k ∈ G, k ∉ G2
  g : ∀ k ∈ G, w0.heap.size ≤ k
  g2 : ∀ k ∈ G2, w0.heap.size ≤ k
  b : Below w0.heap.size w0 w
theorem Two.s1 {Q : PRd} {w0 w w' : World} {r v : Nat} {G G' G2 : List Nat} {S T S' : Rs} (h : Two Q w0 w r G v G2 S T) (O : Q.O w' r G' S') (M : Mv w G w') (N : Nw w G G') : Two Q w0 w' r G' v G2 S' T :=
  ⟨O, refR.mv h.p M (fun k hk hg => h.d k hg hk), fun k hk hg => by
    rcases N k hk with x | x
    · exact h.d k x hg
    · have := refR.lt h.p k hg; omega, nw_ge N h.g h.b.size, h.g2, M.below h.b h.g⟩
theorem Two.s2 {Q : PRd} {w0 w w' : World} {r v : Nat} {G G2 G2' : List Nat} {S T T' : Rs} (h : Two Q w0 w r G v G2 S T) (O : refR.O w' v G2' T') (M : Mv w G2 w') (N : Nw w G2 G2') : Two Q w0 w' r G v G2' S T' :=
  ⟨Q.mv h.q M h.d, O, fun k hk hg => by
    rcases N k hg with x | x
    · exact h.d k hk x
    · have := Q.lt h.q k hk; omega, h.g, nw_ge N h.g2 h.b.size, M.below h.b h.g2⟩
theorem Two.drew {Q : PRd} {w0 w : World} {r v : Nat} {G G2 : List Nat} {S T : Rs} (h : Two Q w0 w r G v G2 S T) : Two Q w0 w.drew r G v G2 S T :=
  ⟨Q.mv h.q (G := []) ((Mv.refl _ _).drew 1) (fun _ _ => by simp), refR.mv h.p (G := []) ((Mv.refl _ _).drew 1) (fun _ _ => by simp), h.d, h.g, h.g2, h.b.drew⟩
theorem Two.drawn {Q : PRd} {w0 w w' : World} {r v : Nat} {G G2 : List Nat} {S T : Rs} (h : Two Q w0 w r G v G2 S T) (hd : ∃ d, w' = w.drewN d) : Two Q w0 w' r G v G2 S T := by
  obtain ⟨d, rfl⟩ := hd
  exact ⟨Q.mv h.q (G := []) ((Mv.refl _ _).drew d) (fun _ _ => by simp), refR.mv h.p (G := []) ((Mv.refl _ _).drew d) (fun _ _ => by simp), h.d, h.g, h.g2, ⟨h.b.os, h.b.tape, h.b.output, h.b.size, h.b.block⟩⟩
end Go.Proofs.Ytpmmddemeiljjaa.wrY

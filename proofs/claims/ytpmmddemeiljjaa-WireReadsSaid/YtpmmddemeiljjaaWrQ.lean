/-
  What a writer and a reader answer, as one record of contracts for any code's functions; the reference's own.
-/
import Derived.Test.YtpmmddemeiljjaaWrG
import Derived.Test.YtpmmddemeiljjaaWrH
namespace Go.Proofs.Ytpmmddemeiljjaa.wrQ
open Go.RowKit
open Go.Proofs.Ytpmmddemeiljjaa.dgM Go.Proofs.Ytpmmddemeiljjaa.wrM Go.Proofs.Ytpmmddemeiljjaa.wrO Go.Proofs.Ytpmmddemeiljjaa.wrA Go.Proofs.Ytpmmddemeiljjaa.wrB Go.Proofs.Ytpmmddemeiljjaa.wrC Go.Proofs.Ytpmmddemeiljjaa.wrE
set_option linter.unusedVariables false

abbrev ptr (p : Nat) : Value := .pointer (some ⟨p, 0, none⟩)
/-- a step that returns v and leaves the object p as S -/
def Ost {σ : Type} (O : World → Nat → List Nat → σ → Prop) (w : World) (p : Nat) (F : List Nat) (v : Value) (S : σ) (e : Ending) (w' : World) : Prop :=
  e = .returned v ∧ ∃ F', O w' p F' S ∧ Mv w F w' ∧ Nw w F F'
/-- a slice of bytes that is returned -/
def Obs {σ : Type} (O : World → Nat → List Nat → σ → Prop) (w : World) (p : Nat) (F : List Nat) (X : List UInt8) (S : σ) (e : Ending) (w' : World) : Prop :=
  ∃ A n c F', e = .returned (.slice A n c) ∧ Cb w' A X ∧ X.length = n ∧ n ≤ c ∧ (A = none → c = 0) ∧ O w' p F' S ∧ Mv w F w' ∧ Nw w F F'
/-- a slice of ints that is returned, in new memory apart from the object -/
def Ois {σ : Type} (O : World → Nat → List Nat → σ → Prop) (w : World) (p : Nat) (F : List Nat) (X : List Int) (S : σ) (e : Ending) (w' : World) : Prop :=
  ∃ A n c F', e = .returned (.slice A n c) ∧ Ci w' A X ∧ X.length = n ∧ n ≤ c ∧ (0 < X.length → ∀ b off, A = some ⟨b, off, none⟩ → w.heap.size ≤ b ∧ b ∉ F') ∧ (A = none → c = 0) ∧ O w' p F' S ∧ Mv w F w' ∧ Nw w F F'
/-- a new object -/
def Onew {σ : Type} (O : World → Nat → List Nat → σ → Prop) (w : World) (S : σ) (e : Ending) (w' : World) : Prop :=
  ∃ p F, e = .returned (ptr p) ∧ O w' p F S ∧ Below w.heap.size w w' ∧ ∀ k ∈ F, w.heap.size ≤ k

/-- a writer's functions -/
structure PW (fnew fint fuint ftext fints fbytes : FuncId) where
  O : World → Nat → List Nat → List UInt8 → Prop
  mv : ∀ {w w' : World} {p : Nat} {F G : List Nat} {l : List UInt8}, O w p F l → Mv w G w' → (∀ k ∈ F, k ∉ G) → O w' p F l
  lt : ∀ {w : World} {p : Nat} {F : List Nat} {l : List UInt8}, O w p F l → ∀ k ∈ F, k < w.heap.size
  new : ∀ w, Calls Try.prog fnew #[] w (Onew O w [])
  uint : ∀ (x : Nat), x < A64 → ∀ p F l, l.length ≤ 100000000 → ∀ w, O w p F l → Calls Try.prog fuint #[ptr p, .int .u64 (x : Int)] w (Ost O w p F (.tuple #[]) (l ++ vr x))
  int : ∀ (x : Int), -9223372036854775808 ≤ x → x ≤ 9223372036854775807 → ∀ p F l, l.length ≤ 100000000 → ∀ w, O w p F l → Calls Try.prog fint #[ptr p, .int .i64 x] w (Ost O w p F (.tuple #[]) (l ++ wI x))
  text : ∀ (t : ByteArray), t.size ≤ 100000 → ∀ p F l, l.length ≤ 100000000 → ∀ w, O w p F l → Calls Try.prog ftext #[ptr p, .string t] w (Ost O w p F (.tuple #[]) (l ++ wT t.data.toList))
  ints : ∀ (A : Option Addr) (c : Nat) (zs : List Int), Fit zs → zs.length ≤ 100000 → zs.length ≤ c → (A = none → c = 0) → ∀ p F l, l.length ≤ 100000000 → ∀ w, O w p F l → Ci w A zs → (0 < zs.length → ∀ b off, A = some ⟨b, off, none⟩ → b ∉ F) →
    Calls Try.prog fints #[ptr p, .slice A zs.length c] w (Ost O w p F (.tuple #[]) (l ++ wL zs))
  bytes : ∀ p F l, l.length ≤ 100000000 → ∀ w, O w p F l → Calls Try.prog fbytes #[ptr p] w (Obs O w p F l l)
/-- a reader's functions -/
structure PR (fnew fint fuint ftext fints fleft ferr : FuncId) where
  O : World → Nat → List Nat → Rs → Prop
  mv : ∀ {w w' : World} {p : Nat} {F G : List Nat} {S : Rs}, O w p F S → Mv w G w' → (∀ k ∈ F, k ∉ G) → O w' p F S
  lt : ∀ {w : World} {p : Nat} {F : List Nat} {S : Rs}, O w p F S → ∀ k ∈ F, k < w.heap.size
  new : ∀ (A : Option Addr) (c : Nat) (b : List UInt8), b.length ≤ 100000000 → b.length ≤ c → (A = none → c = 0) → ∀ w, Cb w A b → Calls Try.prog fnew #[.slice A b.length c] w (Onew O w (.ok b))
  uint : ∀ p F S, S.left ≤ 100000000 → ∀ w, O w p F S → Calls Try.prog fuint #[ptr p] w (Ost O w p F (.int .u64 ((rU S).1 : Int)) (rU S).2)
  int : ∀ p F S, S.left ≤ 100000000 → ∀ w, O w p F S → Calls Try.prog fint #[ptr p] w (Ost O w p F (.int .i64 (rI S).1) (rI S).2)
  text : ∀ (most : Int), -9223372036854775808 ≤ most → most ≤ 9223372036854775807 → ∀ p F S, S.left ≤ 100000000 → ∀ w, O w p F S → Calls Try.prog ftext #[ptr p, .int .i64 most] w (Ost O w p F (.string ⟨(rT most S).1.toArray⟩) (rT most S).2)
  ints : ∀ (most : Int), -9223372036854775808 ≤ most → most ≤ 9223372036854775807 → ∀ p F S, S.left ≤ 100000000 → ∀ w, O w p F S → Calls Try.prog fints #[ptr p, .int .i64 most] w (Ois O w p F (rL most S).1 (rL most S).2)
  left : ∀ p F S, S.left ≤ 100000000 → ∀ w, O w p F S → Calls Try.prog fleft #[ptr p] w (Ost O w p F (.int .i64 (S.left : Int)) S)
  err : ∀ p F S, ∀ w, O w p F S → Calls Try.prog ferr #[ptr p] w (Ost O w p F (.int .i64 (S.err : Int)) S)

/-! ### the reference's -/
theorem ost_of {σ : Type} {O : World → Nat → List Nat → σ → Prop} {w : World} {p : Nat} {F : List Nat} {v : Value} {S : σ} {e : Ending} {w' : World} (h1 : e = .returned v) (h2 : O w' p F S) (h3 : Mv w F w') : Ost O w p F v S e w' := ⟨h1, F, h2, h3, Nw.refl _ _⟩
def refW : PW 14 16 17 18 19 21 where
  O := Wr
  mv := fun h hm hd => h.mv hm hd
  lt := fun h => by obtain ⟨_, _, _, _, _, _, h5⟩ := h; exact h5
  new := fun w => (wrD.rnew_any w).mono fun e w' ⟨h1, h2, h3⟩ => ⟨w.heap.size, [w.heap.size], h1, h2, h3, fun k hk => by simp at hk; omega⟩
  uint := fun x hx p F l hl w hW => wrD.ruint_any x hx p F l (by omega) w hW
  int := fun x h0 h1 p F l hl w hW => wrD.rint_any x h0 h1 p F l (by omega) w hW
  text := fun t ht p F l hl w hW => wrD.rtext_any t (by omega) p F l (by omega) w hW
  ints := fun A c zs hf hn hc hA p F l hl w hW hI hd => wrD.rints_any A zs.length c zs (Lib.hid rfl) (Lib.hid hf) (by omega) p F l (by omega) w hW hI hd
  bytes := fun p F l hl w hW => (wrD.rbytes_any p F l (by omega) w hW).mono fun e w' ⟨v, h1, h2, h3⟩ => by
    obtain ⟨A, c, rfl, hc, hC, hA, _⟩ := own_form h2
    exact ⟨A, l.length, c, F, h1, hC, rfl, hc, hA, hW.mv (G := []) (Mv.of_below h3) (fun _ _ => by simp), Mv.of_below h3, Nw.refl _ _⟩
theorem rst_ost {w : World} {p : Nat} {F : List Nat} {v : Value} {S : Rs} {e : Ending} {w' : World} (h : Rst w p F v S e w') : Ost Rd w p F v S e w' := ost_of h.1 h.2.1 h.2.2
theorem rd_lt {w : World} {p : Nat} {F : List Nat} {S : Rs} (h : Rd w p F S) : ∀ k ∈ F, k < w.heap.size := by
  obtain ⟨_, _, _, _, _, _, _, _, _, _, _, _, _, _, _, _, q⟩ := h
  exact q
def refR : PR 23 25 27 29 32 34 36 where
  O := Rd
  mv := fun h hm hd => h.mv hm hd
  lt := fun h => rd_lt h
  new := fun A c b hn hc hA w hb => wrF.rnewr_any A b.length c b rfl hA (by omega) w hb
  uint := fun p F S hl w hR => (ruint_any p F S _ _ (Lib.hid rfl) w hR).mono fun _ _ h => rst_ost h
  int := fun p F S hl w hR => (rint_any p F S _ _ (Lib.hid rfl) w hR).mono fun _ _ h => rst_ost h
  text := fun most h0 h1 p F S hl w hR => (rtext_any most h0 h1 p F S _ _ (Lib.hid rfl) w hR).mono fun _ _ h => rst_ost h
  ints := fun most h0 h1 p F S hl w hR => (wrF.rints_any most h0 h1 p F S _ _ (Lib.hid rfl) hl w hR).mono fun e w' ⟨A, n, c, h1, h2, h3, h4, h5, h6, h7, h8⟩ =>
    ⟨A, n, c, F, h1, h2, h3, h4, fun _ b off e => ⟨h5 b off e, fun hb => by have := rd_lt hR b hb; have := h5 b off e; omega⟩, h6, h7, h8, Nw.refl _ _⟩
  left := fun p F S hl w hR => (rleft_any p F S w hR).mono fun _ _ h => rst_ost h
  err := fun p F S w hR => (rerr_any p F S w hR).mono fun e w' ⟨h1, h2⟩ => by subst h2; exact ost_of h1 hR (Mv.refl _ _)
end Go.Proofs.Ytpmmddemeiljjaa.wrQ

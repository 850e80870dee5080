/-
  The record of contracts that lex owes; what a walk carries; the laws' examples; the laws LexScans, LexWrites.
-/
import Derived.Test.YtgmnoghmkbbheaaLxC
import Derived.Test.YtgmnoghmkbbheaaLxD
namespace Go.Proofs.Ytgmnoghmkbbheaa.lxQ
open Go.RowKit
open Go.Proofs.Ytgmnoghmkbbheaa.lxM Go.Proofs.Ytgmnoghmkbbheaa.lxN Go.Proofs.Ytgmnoghmkbbheaa.lxA Go.Proofs.Ytgmnoghmkbbheaa.lxB Go.Proofs.Ytgmnoghmkbbheaa.lxC Go.Proofs.Ytgmnoghmkbbheaa.lxD
set_option linter.unusedVariables false

/-- what the program's Scan and Join answer -/
structure PLx where
  inv : World → Prop
  stay : ∀ {w w' : World}, inv w → Below w.heap.size w w' → inv w'
  scan : ∀ (s : ByteArray) (X : List Tk) (E o : Nat), s.size ≤ 32768 → Hid (Out s.data.toList (sk false s.data.toList) [] X E o) → ∀ w, inv w →
    Calls Try.prog 11 #[.string s] w (ScP w X E o)
  long : ∀ s : ByteArray, 32768 < s.size → s.size ≤ 1000000 → ∀ w, inv w → Calls Try.prog 11 #[.string s] w (ScP w [] 3 0)
  join : ∀ (A : Option Addr) (n c : Nat) (X : List Tk) (T : By), Hid (X.length = n) → n ≤ 1000000 → n ≤ c → Hid (T = jn (fore (X.map pr))) → T.length ≤ 1000000000 → ∀ w, inv w → Tks w A X →
    Calls Try.prog 15 #[.slice A n c] w (JnP w T)
/-- what a walk carries -/
structure Kx (P : PLx) (w0 w : World) : Prop where
  inv : P.inv w
  bel : Below w0.heap.size w0 w
theorem Kx.start {P : PLx} {w : World} (h : P.inv w) : Kx P w w := ⟨h, Below.refl _ _⟩
theorem Kx.on {P : PLx} {w0 w w' : World} (h : Kx P w0 w) (hb : Below w.heap.size w w') : Kx P w0 w' := ⟨P.stay h.inv hb, below_on h.bel hb⟩
theorem Kx.drawn {P : PLx} {w0 w w' : World} (h : Kx P w0 w) (hb : ∃ d, w' = w.drewN d) : Kx P w0 w' := by
  obtain ⟨d, rfl⟩ := hb
  exact h.on (below_draw _ _)

/-! ### the examples -/
def eg1 : ByteArray := ⟨#[112, 114, 105, 99, 101, 32, 50, 48, 48, 59, 32, 35, 32, 99, 104, 101, 97, 112]⟩
def eg2 : ByteArray := ⟨#[97, 10, 65]⟩
def eg3 : ByteArray := ⟨#[120, 32, 48, 48, 55]⟩
def want : List Tk := [⟨1, 1, 1, ⟨#[112, 114, 105, 99, 101]⟩⟩, ⟨2, 1, 7, ⟨#[50, 48, 48]⟩⟩, ⟨3, 1, 10, ⟨#[59]⟩⟩, ⟨0, 1, 19, ⟨#[]⟩⟩]
theorem sx1 : Sx eg1.data.toList 0 [(0, 5, 1), (6, 3, 2), (9, 1, 3)] := by
  refine Sx.tok (by decide) (by decide +kernel) (by decide) ?_
  rw [show 0 + 5 + sk false (eg1.data.toList.drop (0 + 5)) = 6 by decide +kernel]
  refine Sx.tok (by decide) (by decide +kernel) (by decide) ?_
  rw [show 6 + 3 + sk false (eg1.data.toList.drop (6 + 3)) = 9 by decide +kernel]
  refine Sx.tok (by decide) (by decide +kernel) (by decide) ?_
  rw [show 9 + 1 + sk false (eg1.data.toList.drop (9 + 1)) = eg1.data.toList.length by decide +kernel]
  exact Sx.fin
theorem out1 : Out eg1.data.toList (sk false eg1.data.toList) [] want 0 0 := .inl ⟨[(0, 5, 1), (6, 3, 2), (9, 1, 3)], sx1, rfl, rfl, rfl⟩
theorem out2 : Out eg2.data.toList (sk false eg2.data.toList) [] [] 1 2 := .inr ⟨by
  rw [show sk false eg2.data.toList = 0 by decide +kernel]
  refine Ex.there (n := 1) (k := 1) (by decide) (by decide +kernel) (by decide) ?_
  rw [show 0 + 1 + sk false (eg2.data.toList.drop (0 + 1)) = 2 by decide +kernel]
  exact Ex.here (by decide) (by decide +kernel), rfl, rfl⟩
theorem out3 : Out eg3.data.toList (sk false eg3.data.toList) [] [] 1 2 := .inr ⟨by
  rw [show sk false eg3.data.toList = 0 by decide +kernel]
  refine Ex.there (n := 1) (k := 1) (by decide) (by decide +kernel) (by decide) ?_
  rw [show 0 + 1 + sk false (eg3.data.toList.drop (0 + 1)) = 2 by decide +kernel]
  exact Ex.here (by decide) (by decide +kernel), rfl, rfl⟩
theorem jn1 : ([112, 114, 105, 99, 101, 32, 50, 48, 48, 32, 59, 10] : By) = jn (fore (want.map pr)) := by rfl
theorem want_lies (w : World) : Tks (w.alloc (.cells (cTs want).toArray 32)) (some ⟨w.heap.size, 0, none⟩) want := fun _ => ⟨w.heap.size, 0, rfl, fun j x hx => by
  have hc : ∀ i, i < 4 → (w.alloc (.cells (cTs want).toArray 32)).cell? ⟨w.heap.size, j * 4 + i, none⟩ = (cT x)[i]? := fun i hi => by
    rw [cell_of_row _ w.heap.size (j * 4 + i) _ _ _ (heap_alloc_new w _), ← cTs_at want j x hx i hi]
    simp
  rw [Nat.zero_add]
  exact ⟨hc 0 (by omega), hc 1 (by omega), hc 2 (by omega), hc 3 (by omega)⟩⟩
set_option maxRecDepth 10000 in
set_option maxHeartbeats 1000000 in
theorem awake_any (P : PLx) (w0 w : World) (K0 : Kx P w0 w) :
    Calls Try.prog 10 #[] w fun e w' => e = .returned (.bool true) ∧ Kx P w0 w' := by
  have c1 : ∀ w, P.inv w → Calls Try.prog 11 #[.string ⟨#[112, 114, 105, 99, 101, 32, 50, 48, 48, 59, 32, 35, 32, 99, 104, 101, 97, 112]⟩] w (ScP w want 0 0) := fun w h => P.scan eg1 want 0 0 (by decide) (Lib.hid out1) w h
  have c2 : ∀ w, P.inv w → Calls Try.prog 11 #[.string ⟨#[97, 10, 65]⟩] w (ScP w [] 1 2) := fun w h => P.scan eg2 [] 1 2 (by decide) (Lib.hid out2) w h
  have c3 : ∀ w, P.inv w → Calls Try.prog 11 #[.string ⟨#[120, 32, 48, 48, 55]⟩] w (ScP w [] 1 2) := fun w h => P.scan eg3 [] 1 2 (by decide) (Lib.hid out3) w h
  have cs := fun A B c d w hI hJ => same_ok A B 4 c d want (Lib.hid rfl) (by omega) w hI hJ
  have cj := fun A c hc w h hI => P.join A 4 c want [112, 114, 105, 99, 101, 32, 50, 48, 48, 32, 59, 10] (Lib.hid rfl) (by omega) hc (Lib.hid jn1) (by decide) w h hI
  have wl : ∀ w : World, Tks (w.alloc (.cells #[.int .i64 1, .int .i64 1, .int .i64 1, .string ⟨#[112, 114, 105, 99, 101]⟩, .int .i64 2, .int .i64 1, .int .i64 7, .string ⟨#[50, 48, 48]⟩, .int .i64 3, .int .i64 1, .int .i64 10, .string ⟨#[59]⟩, .int .i64 0, .int .i64 1, .int .i64 19, .string ⟨#[]⟩] 32)) (some ⟨w.heap.size, 0, none⟩) want := want_lies
  go_enter Try.func10, Try.ntmps10
  go_wp2_with (first
    | (go_at_call 11; first
      | ((with_reducible refine (c1 _ K0.inv).mono ?_); rintro e w1 ⟨A, n, c, rfl, hn, hc, hT, hb⟩; (obtain rfl : 4 = n := hn); have K1 := K0.on hb; clear hb)
      | ((with_reducible refine (c2 _ K1.inv).mono ?_); rintro e w2 ⟨A2, n2, q2, rfl, hn2, hc2, hT2, hb⟩; have K2 := K1.on hb; have hT := hT.below hb; clear hb hn2 hT2 hc2)
      | ((with_reducible refine (c3 _ K2.inv).mono ?_); rintro e w3 ⟨A3, n3, q3, rfl, hn3, hc3, hT3, hb⟩; have K3 := K2.on hb; have hT := hT.below hb; have wl3 := wl w3; have bl3 := ((Below.refl w3.heap.size w3).alloc (Nat.le_refl _) (.cells #[.int .i64 1, .int .i64 1, .int .i64 1, .string ⟨#[112, 114, 105, 99, 101]⟩, .int .i64 2, .int .i64 1, .int .i64 7, .string ⟨#[50, 48, 48]⟩, .int .i64 3, .int .i64 1, .int .i64 10, .string ⟨#[59]⟩, .int .i64 0, .int .i64 1, .int .i64 19, .string ⟨#[]⟩] 32)); have hT := hT.below bl3; have K4 := K3.on bl3; clear hb hn3 hT3 hc3 bl3))
    | (go_at_call 13; (refine (cs _ _ _ _ _ hT wl3).mono ?_); rintro e w5 ⟨rfl, b5⟩; have K5 := K4.drawn b5; (obtain ⟨d5, rfl⟩ := b5); have wl5 := wl3.below (below_draw _ d5))
    | (go_at_call 15; (refine (cj _ _ (by omega) _ K5.inv wl5).mono ?_); rintro e w6 ⟨t, rfl, ht, b6⟩; have K6 := K5.on b6; have tt : (t.toList == [112, 114, 105, 99, 101, 32, 50, 48, 48, 32, 59, 10]) = true := (by rw [Go.ByteArray.toList_eq, ht]; rfl)))
  go_ret
  exact ⟨rfl, K6⟩
end Go.Proofs.Ytgmnoghmkbbheaa.lxQ

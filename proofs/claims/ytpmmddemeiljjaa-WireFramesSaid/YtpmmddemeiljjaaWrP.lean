/-
  The program keeps the records of contracts: its writer, its reader, Frame and Next, nil.
-/
import Derived.Test.YtpmmddemeiljjaaWrPd
import Derived.Test.YtpmmddemeiljjaaWrPg
import Derived.Test.YtpmmddemeiljjaaWrPn
import Derived.Test.YtpmmddemeiljjaaWrW
namespace Go.Proofs.Ytpmmddemeiljjaa.wrP
open Go.RowKit
open Go.Proofs.Ytpmmddemeiljjaa.dgM Go.Proofs.Ytpmmddemeiljjaa.wrM Go.Proofs.Ytpmmddemeiljjaa.wrO Go.Proofs.Ytpmmddemeiljjaa.wrA Go.Proofs.Ytpmmddemeiljjaa.wrC Go.Proofs.Ytpmmddemeiljjaa.wrD Go.Proofs.Ytpmmddemeiljjaa.wrE Go.Proofs.Ytpmmddemeiljjaa.wrQ Go.Proofs.Ytpmmddemeiljjaa.wrL Go.Proofs.Ytpmmddemeiljjaa.wrW Go.Proofs.Ytpmmddemeiljjaa.wrNo Go.Proofs.Ytpmmddemeiljjaa.wrPc Go.Proofs.Ytpmmddemeiljjaa.wrPd
set_option linter.unusedVariables false

def iP : PWr where
  O := Wr
  mv := fun h hm hd => h.mv hm hd
  lt := fun h => by obtain ⟨_, _, _, _, _, _, h5⟩ := h; exact h5
  new := fun w => (wrPb.new_any w).mono fun e w' ⟨h1, h2, h3⟩ => ⟨w.heap.size, [w.heap.size], h1, h2, h3, fun k hk => by simp at hk; omega⟩
  uint := fun x hx p F l hl w hW => wrPb.uint_any x hx p F l (by omega) w hW
  int := fun x h0 h1 p F l hl w hW => wrPb.int_any x h0 h1 p F l (by omega) w hW
  text := fun t ht p F l hl w hW => wrPb.text_any t (by omega) p F l (by omega) w hW
  ints := fun A c zs hf hn hc hA p F l hl w hW hI hd => wrPb.ints_any A zs.length c zs (Lib.hid rfl) (Lib.hid hf) (by omega) p F l (by omega) w hW hI hd
  bytes := fun p F l hl w hW => (wrPb.bytes_any p F l (by omega) w hW).mono fun e w' ⟨v, h1, h2, h3⟩ => by
    obtain ⟨A, c, rfl, hc, hC, hA, _⟩ := own_form h2
    exact ⟨A, l.length, c, F, h1, hC, rfl, hc, hA, hW.mv (G := []) (Mv.of_below h3) (fun _ _ => by simp), Mv.of_below h3, Nw.refl _ _⟩
theorem pst_ost {w : World} {p : Nat} {F : List Nat} {v : Value} {S : Rs} {e : Ending} {w' : World} (h : Pst w p F v S e w') : Ost Rp w p F v S e w' := ost_of h.1 h.2.1 h.2.2
theorem rp_lt {w : World} {p : Nat} {F : List Nat} {S : Rs} (h : Rp w p F S) : ∀ k ∈ F, k < w.heap.size := by
  obtain ⟨_, _, _, _, _, _, _, _, _, _, _, _, _, _, q⟩ := h
  exact q
def iQ : PRd where
  O := Rp
  mv := fun h hm hd => h.mv hm hd
  lt := fun h => rp_lt h
  new := fun A c b hn hc hA w hb => newr_any A b.length c b rfl hA (by omega) w hb
  uint := fun p F S hl w hR => (wrPc.ruint_any p F S _ _ (Lib.hid rfl) w hR).mono fun _ _ h => pst_ost h
  int := fun p F S hl w hR => (wrPc.rint_any p F S _ _ (Lib.hid rfl) w hR).mono fun _ _ h => pst_ost h
  text := fun most h0 h1 p F S hl w hR => (wrPc.rtext_any most h0 h1 p F S _ _ (Lib.hid rfl) w hR).mono fun _ _ h => pst_ost h
  ints := fun most h0 h1 p F S hl w hR => (wrPd.rints_any most h0 h1 p F S _ _ (Lib.hid rfl) hl w hR).mono fun e w' ⟨A, n, c, h1, h2, h3, h4, h5, h6, h7, h8⟩ =>
    ⟨A, n, c, F, h1, h2, h3, h4, fun _ b off e => ⟨h5 b off e, fun hb => by have := rp_lt hR b hb; have := h5 b off e; omega⟩, h6, h7, h8, Nw.refl _ _⟩
  left := fun p F S hl w hR => (left_any p F S w hR).mono fun e w' ⟨h1, h2⟩ => by subst h2; exact ost_of h1 hR (Mv.refl _ _)
  err := fun p F S w hR => (err_any p F S w hR).mono fun e w' ⟨h1, h2⟩ => by subst h2; exact ost_of h1 hR (Mv.refl _ _)
theorem iH : PFr where
  frame := fun A c b hb hc hA w hC => (wrPf.frame_any A b.length c b rfl (by omega) w hC).mono fun e w' ⟨v, h1, h2, h3⟩ => by
    obtain ⟨A', c', rfl, hc', hC', hA', hl'⟩ := own_form h2
    exact ⟨A', _, c', h1, hC', rfl, hc', hA', fun b off e => (hl' b (by rw [e]; rfl)).1, h3⟩
  next := fun A c b t hb hc hA w hC => by
    by_cases h : 0 ≤ t ∧ t ≤ (b.length : Int)
    · obtain ⟨k, rfl⟩ := Int.eq_ofNat_of_zero_le h.1
      have e : nxt b (k : Int) = ((nx (b.drop k)).1, (if (nx (b.drop k)).2.2 = 0 then k + (nx (b.drop k)).2.1 else 0), (nx (b.drop k)).2.2) := by
        unfold nxt; rw [if_pos h]; simp
      rw [e]
      exact (wrPg.next_in A b.length c k b rfl (by omega) hc (by omega) w hC).mono fun e w' ⟨A', n', c', h1, h2⟩ => ⟨A', n', c', h1, h2⟩
    · have e : nxt b t = ([], 0, 2) := if_neg h
      rw [e]
      exact (wrPf.next_out A b.length c t (by omega) h w).mono fun e w' ⟨h1, h2⟩ => by
        subst h2
        exact ⟨none, 0, 0, h1, Cb.nil _ _, rfl, Nat.le_refl _, fun _ => rfl, fun b off e => absurd e (by simp), Below.refl _ _⟩
theorem iN : PNi where
  wint := fun x h0 h1 w => wrPn.wint x h0 h1 w
  wuint := fun x hx w => wrPn.wuint x hx w
  wtext := fun x hx w => wrPn.wtext x hx w
  wints := fun A c zs hf hl w hI => wrPn.wints A c zs hf hl w hI
  wbytes := fun w => wrPn.wbytes w
  rint := fun w => wrPn.rint w
  ruint := fun w => wrPn.ruint w
  rtext := fun m w => wrPn.rtext m w
  rints := fun m w => wrPn.rints m w
  rleft := fun w => wrPn.rleft w
  rerr := fun w => wrPn.rerr w
end Go.Proofs.Ytpmmddemeiljjaa.wrP

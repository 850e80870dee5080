/-
  Contracts of Format, of money and of the reference.
-/
import Derived.Test.YtkblcnomjgocmaaDoorMonU
namespace Go.Proofs.YtkblcnomjgocmaaDoor.monV
open Go.RowKit
open Go.Proofs.YtkblcnomjgocmaaDoor.numM Go.Proofs.YtkblcnomjgocmaaDoor.numB Go.Proofs.YtkblcnomjgocmaaDoor.numT Go.Proofs.YtkblcnomjgocmaaDoor.numS Go.Proofs.YtkblcnomjgocmaaDoor.numG Go.Proofs.YtkblcnomjgocmaaDoor.monA Go.Proofs.YtkblcnomjgocmaaDoor.monB Go.Proofs.YtkblcnomjgocmaaDoor.monX Go.Proofs.YtkblcnomjgocmaaDoor.monT
set_option linter.unusedVariables false

abbrev Tab (w : World) : Prop := Lib.TabIs Tryd.prog w "internal/strconv.uint64pow10" .u64 Lib.pow10Tab
theorem tab_on {w w1 : World} (h : Tab w) (hb : Below w.heap.size w w1) : Tab w1 := Lib.tabBelow_of_tabIs h w1 hb
theorem below_on {w w1 w2 : World} (h : Below w.heap.size w w1) (h2 : Below w1.heap.size w1 w2) : Below w.heap.size w w2 := h.trans (h2.mono h.size)
theorem below_draw (w : World) (k : Nat) : Below w.heap.size w (w.drewN k) := monC.bel_drewN (Below.refl _ _) k
theorem itoa_nat (n : Nat) : Lib.itoa (n : Int) = Lib.decDigits n := by
  unfold Lib.itoa; rw [if_neg (by omega)]; simp

set_option maxHeartbeats 1000000 in
theorem format_out (m : Int) (h : vB m = false) (w : World) :
    Calls Tryd.prog 29 #[.int .i64 m] w fun e w' => e = .returned (.string ⟨#[]⟩) ∧ w = w' := by
  have cv := fun w => valid_any m false (Lib.hid h.symm) w
  clear h
  go_enter Tryd.func29, Tryd.ntmps29
  go_wp2_with (go_at_call 14; refine (cv _).mono ?_; rintro e w' ⟨rfl, rfl⟩)
  go_ret
  exact ⟨rfl, rfl⟩
set_option maxHeartbeats 1000000 in
theorem rformat_out (m : Int) (h : vB m = false) (w : World) :
    Calls Tryd.prog 30 #[.int .i64 m] w fun e w' => e = .returned (.string ⟨#[]⟩) ∧ w = w' := by
  have cv := fun w => rvalid_any m false (Lib.hid h.symm) w
  clear h
  go_enter Tryd.func30, Tryd.ntmps30
  go_wp2_with (go_at_call 15; refine (cv _).mono ?_; rintro e w' ⟨rfl, rfl⟩)
  go_ret
  exact ⟨rfl, rfl⟩

set_option maxHeartbeats 1600000 in
theorem format_in (m : Nat) (hm : m ≤ 1000000000000) (X : ByteArray) (hX : Hid (X = ⟨(fmtL m).toArray⟩)) (w : World) (htab : Tab w) :
    Calls Tryd.prog 29 #[.int .i64 (m : Int)] w fun e w' => e = .returned (.string X) ∧ Below w.heap.size w w' := by
  have cv := fun w => valid_any (m : Int) true (Lib.hid (vB_yes (by omega) (by omega)).symm) w
  obtain ⟨q, hq⟩ : ∃ q, q = m / 100 := ⟨_, rfl⟩
  obtain ⟨l, hl⟩ : ∃ l, l = m % 100 := ⟨_, rfl⟩
  obtain ⟨a, ha⟩ : ∃ a, a = l / 10 := ⟨_, rfl⟩
  obtain ⟨b, hb⟩ : ∃ b, b = l % 10 := ⟨_, rfl⟩
  have e1 : (m : Int) / 100 = (q : Int) := by omega
  have e2 : (m : Int) % 100 = (l : Int) := by omega
  have e3 : (l : Int) / 10 = (a : Int) := by omega
  have e4 : (l : Int) % 10 = (b : Int) := by omega
  have a10 : a < 10 := by omega
  have b10 : b < 10 := by omega
  obtain ⟨Q, hQ⟩ : ∃ Q : ByteArray, Q = ⟨(Lib.itoa (q : Int)).toArray⟩ := ⟨_, rfl⟩
  obtain ⟨A, hA⟩ : ∃ A : ByteArray, A = ⟨(Lib.itoa (a : Int)).toArray⟩ := ⟨_, rfl⟩
  obtain ⟨B, hB⟩ : ∃ B : ByteArray, B = ⟨(Lib.itoa (b : Int)).toArray⟩ := ⟨_, rfl⟩
  have k1 := fun w (h : Tab w) => numG.format_any (q : Int) Q hQ (by omega) (by omega) w h
  have k2 := fun w (h : Tab w) => numG.format_any (a : Int) A hA (by omega) (by omega) w h
  have k3 := fun w (h : Tab w) => numG.format_any (b : Int) B hB (by omega) (by omega) w h
  have HE : Hid (Q.data.toList ++ [46] ++ A.data.toList ++ B.data.toList = X.data.toList) := Lib.hid (by
    rw [hX.out, hQ, hA, hB]
    show Lib.itoa q ++ [46] ++ Lib.itoa a ++ Lib.itoa b = fmtL m
    rw [itoa_nat, itoa_nat, itoa_nat, Lib.decDigits_one a10, Lib.decDigits_one b10]
    unfold fmtL
    rw [← hq, show m / 10 % 10 = a by omega, show m % 10 = b by omega]
    simp)
  have zx : X.size ≤ 20 := by rw [size_len, hX.out]; exact fmt_len hm
  have hz : Q.size + 1 + A.size + B.size = X.size := by
    rw [size_len, size_len, size_len, size_len, ← HE.out]; simp only [List.length_append, List.length_cons, List.length_nil]
  have zq : Q.size ≤ 20 := by omega
  have za : A.size ≤ 20 := by omega
  have zb : B.size ≤ 20 := by omega
  clear hq hl ha hb hQ hA hB hX hz a10 b10
  go_enter Tryd.func29, Tryd.ntmps29
  go_wp2_with (first
    | (go_at_call 14; refine (cv _).mono ?_; rintro e w' ⟨rfl, rfl⟩)
    | (go_at_call 45; first | ((with_reducible refine (k1 _ htab).mono ?_); rintro e w1 ⟨rfl, hb1⟩; have t1 := tab_on htab hb1) | ((with_reducible refine (k2 _ t1).mono ?_); rintro e w2 ⟨rfl, hb2⟩; have t2 := tab_on t1 hb2) | ((with_reducible refine (k3 _ t2).mono ?_); rintro e w3 ⟨rfl, hb3⟩)))
  go_ret
  refine ⟨ret_str (str_eq ?_), below_on (below_on hb1 hb2) hb3⟩
  rw [← HE.out]; simp

theorem conv1g (W : World) (g : Nat) (hg : W.heap.size = g) (d : Nat) (hd : d < 10) (c : UInt8) (hc : c = UInt8.ofNat (48 + d)) :
    (convert 50 9 (.slice (some ⟨g, 0, none⟩) 1 1)).run Tryd.prog (W.alloc (.cells #[.int .u8 (48 + (d : Int))] 5)) = .ok (.string ⟨#[c]⟩) (W.alloc (.cells #[.int .u8 (48 + (d : Int))] 5)) := by
  subst hg; exact conv1 W d hd c hc
/-- three bytes made into a string -/
theorem conv3 (W : World) (a b : Nat) (ha : a < 10) (hb : b < 10) (c d : UInt8) (hc : c = UInt8.ofNat (48 + a)) (hd : d = UInt8.ofNat (48 + b)) :
    (convert 50 9 (.slice (some ⟨W.heap.size, 0, none⟩) 3 3)).run Tryd.prog (W.alloc (.cells #[.int .u8 46, .int .u8 (48 + (a : Int)), .int .u8 (48 + (b : Int))] 5)) =
      .ok (.string ⟨#[46, c, d]⟩) (W.alloc (.cells #[.int .u8 46, .int .u8 (48 + (a : Int)), .int .u8 (48 + (b : Int))] 5)) := by
  subst hc hd
  have := run_convert_bytes_back (P := Tryd.prog) (W.alloc (.cells #[.int .u8 46, .int .u8 (48 + (a : Int)), .int .u8 (48 + (b : Int))] 5)) 50 9 5 ⟨W.heap.size, 0, none⟩ 3 [46, UInt8.ofNat (48 + a), UInt8.ofNat (48 + b)] Tryd.underlying50 Tryd.underlying5 Tryd.underlying9 (fun j hj => by
    have e1 : (((UInt8.ofNat (48 + a)).toNat : Nat) : Int) = 48 + (a : Int) := by rw [UInt8.toNat_ofNat']; omega
    have e2 : (((UInt8.ofNat (48 + b)).toNat : Nat) : Int) = 48 + (b : Int) := by rw [UInt8.toNat_ofNat']; omega
    match j, hj with
    | 0, _ => simp [Addr.add, World.cell?_alloc_new]
    | 1, _ => simp [Addr.add, World.cell?_alloc_new]; omega
    | 2, _ => simp [Addr.add, World.cell?_alloc_new]; omega)
  exact this

def FJ (l : List UInt8) (z : Nat) (x : List UInt8) : Prop := l = (if z = 0 then [] else Lib.decDigits z) ++ x
theorem FJ.step {l : List UInt8} {z : Nat} {x : List UInt8} (h : FJ l z x) (hz : 0 < z) : FJ l (z / 10) (UInt8.ofNat (48 + z % 10) :: x) := by
  unfold FJ at *
  rw [h, if_neg (by omega)]
  by_cases h1 : z < 10
  · rw [if_pos (by omega), Lib.decDigits_one h1, Nat.mod_eq_of_lt h1]; rfl
  · rw [if_neg (by omega), Lib.decDigits, dif_neg h1]; simp
theorem FJ.start (q : Nat) (t : List UInt8) : FJ (Lib.decDigits q ++ t) (q / 10) (UInt8.ofNat (48 + q % 10) :: t) := by
  unfold FJ
  by_cases h1 : q < 10
  · rw [if_pos (by omega), Lib.decDigits_one h1, Nat.mod_eq_of_lt h1]; rfl
  · rw [if_neg (by omega), Lib.decDigits, dif_neg h1]; simp
theorem FJ.len {l : List UInt8} {z : Nat} {x : List UInt8} (h : FJ l z x) : x.length ≤ l.length := by
  unfold FJ at h; rw [h]; simp

set_option maxHeartbeats 1600000 in
theorem rformat_in (m : Nat) (hm : m ≤ 1000000000000) (X : ByteArray) (hX : Hid (X = ⟨(fmtL m).toArray⟩)) (w : World) :
    Calls Tryd.prog 30 #[.int .i64 (m : Int)] w fun e w' => e = .returned (.string X) ∧ Below w.heap.size w w' := by
  have cv := fun w => rvalid_any (m : Int) true (Lib.hid (vB_yes (by omega) (by omega)).symm) w
  have HL : Hid (X.data.toList = fmtL m) := Lib.hid (by rw [hX.out])
  have HZ : Hid ((fmtL m).length ≤ 20) := Lib.hid (fmt_len hm)
  obtain ⟨q, hq⟩ : ∃ q, q = m / 100 := ⟨_, rfl⟩
  obtain ⟨u, hu⟩ : ∃ u, u = m / 10 := ⟨_, rfl⟩
  obtain ⟨a, ha⟩ : ∃ a, a = u % 10 := ⟨_, rfl⟩
  obtain ⟨b, hb⟩ : ∃ b, b = m % 10 := ⟨_, rfl⟩
  obtain ⟨d, hd⟩ : ∃ d, d = q % 10 := ⟨_, rfl⟩
  obtain ⟨z, hz⟩ : ∃ z, z = q / 10 := ⟨_, rfl⟩
  obtain ⟨ca, hca⟩ : ∃ c, c = UInt8.ofNat (48 + a) := ⟨_, rfl⟩
  obtain ⟨cb, hcb⟩ : ∃ c, c = UInt8.ofNat (48 + b) := ⟨_, rfl⟩
  obtain ⟨cd, hcd⟩ : ∃ c, c = UInt8.ofNat (48 + d) := ⟨_, rfl⟩
  have e1 : (m : Int) / 100 = (q : Int) := by omega
  have e2 : (m : Int) / 10 = (u : Int) := by omega
  have e3 : (u : Int) % 10 = (a : Int) := by omega
  have e4 : (m : Int) % 10 = (b : Int) := by omega
  have e5 : (q : Int) % 10 = (d : Int) := by omega
  have e6 : (q : Int) / 10 = (z : Int) := by omega
  have a10 : a < 10 := by omega
  have b10 : b < 10 := by omega
  have d10 : d < 10 := by omega
  have z1 : (z : Int) ≤ 1000000000000 := by omega
  have cv3 := fun W => conv3 W a b a10 b10 ca cb hca hcb
  have cv1 := conv1g (w.alloc (.cells #[.int .u8 46, .int .u8 (48 + (a : Int)), .int .u8 (48 + (b : Int))] 5)) (w.heap.size + 1) (by simp) d d10 cd hcd
  have HS : Hid (FJ (fmtL m) z (cd :: [46, ca, cb])) := Lib.hid (by
    have := FJ.start q [46, ca, cb]
    rw [hcd, hd, hz]
    unfold fmtL
    rw [← hq, show m / 10 % 10 = a by omega, show m % 10 = b by omega, ← hca, ← hcb]
    exact this)
  clear hq hu ha hb hd hz hca hcb hcd hX
  go_enter Tryd.func30, Tryd.ntmps30
  go_wp2_with (go_at_call 15; refine (cv _).mono ?_; rintro e w' ⟨rfl, rfl⟩)
  have bel : Below w.heap.size w ((w.alloc (.cells #[.int .u8 46, .int .u8 (48 + (a : Int)), .int .u8 (48 + (b : Int))] 5)).alloc (.cells #[.int .u8 (48 + (d : Int))] 5)) :=
    ((Below.refl _ _).alloc (Nat.le_refl _) _).alloc (by simp) _
  clear cv3 cv1 e1 e2 e3 e4 e5 e6
  go_loopw [3, 4] (fun s3 s4 wr => ∃ (y : Nat) (x : ByteArray), s4 = .int .i64 (y : Int) ∧ s3 = .string x ∧ (y : Int) ≤ 1000000000000 ∧ Hid (FJ (fmtL m) y x.data.toList) ∧ Below w.heap.size w wr) (fun _ s4 _ => (intOf s4).toNat)
  case atStart => exact ⟨z, _, rfl, rfl, z1, by simpa using HS, bel⟩
  case round =>
    obtain ⟨y, x, rfl, rfl, y1, HF, hbel⟩ := hrel
    by_cases hy : 0 < y
    · have HF2 := Lib.hid (HF.out.step hy)
      have hx : x.size ≤ 20 := by have h1 := HF.out.len; have h2 := HZ.out; rw [← size_len] at h1; omega
      obtain ⟨f, hf⟩ : ∃ f, f = y % 10 := ⟨_, rfl⟩
      obtain ⟨g, hg⟩ : ∃ g, g = y / 10 := ⟨_, rfl⟩
      have e1 : (y : Int) % 10 = (f : Int) := by omega
      have e2 : (y : Int) / 10 = (g : Int) := by omega
      have f10 : f < 10 := by omega
      have gy : g < y := by omega
      rw [← hf, ← hg] at HF2
      obtain ⟨c, hc⟩ : ∃ c, c = UInt8.ofNat (48 + f) := ⟨_, rfl⟩
      rw [← hc] at HF2
      have cv1 := conv1 wr f f10 c hc
      have hy' : (0 : Int) < (y : Int) := by omega
      have ES : Hid ((⟨#[c]⟩ ++ x : ByteArray).data.toList = c :: x.data.toList) := Lib.hid (by simp)
      have e3 : (⟨#[c]⟩ : ByteArray).size = 1 := rfl
      have HB := Lib.hid hbel
      clear hf hg hc HF hbel
      go_wp2_with fail
      go_roundw
      case rel => exact ⟨g, ⟨#[c]⟩ ++ x, rfl, rfl, by omega, Lib.hid (by rw [ES.out]; exact HF2.out), HB.out.alloc HB.out.size _⟩
      case measure => simp [intOf]; omega
    · obtain rfl : y = 0 := by omega
      have e : x = X := str_eq (by
        rw [HL.out]; have := HF.out
        unfold FJ at this; rw [if_pos rfl] at this; exact this.symm)
      subst e
      have HB := Lib.hid hbel
      clear HF hbel
      go_wp2_with fail
      go_ret
      exact ⟨rfl, HB.out⟩
end Go.Proofs.YtkblcnomjgocmaaDoor.monV

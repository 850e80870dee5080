/-
  Contracts of digest.Hex and of the reference's Hex: the text of sixteen digits; new memory alone.
-/
import Derived.Test.YthnbddacglfldaaDoorDgB
import Derived.Test.YthnbddacglfldaaDoorDgP
import Derived.Laws.IdiomStrings
import Derived.OwnWalk
import Derived.OneCell
import Derived.Lib.SmallJoins
namespace Go.Proofs.YthnbddacglfldaaDoor.dgH
open Go.RowKit
open Go.Proofs.YthnbddacglfldaaDoor.dgM Go.Proofs.YthnbddacglfldaaDoor.dgA Go.Proofs.YthnbddacglfldaaDoor.dgX Go.Proofs.YthnbddacglfldaaDoor.dgP
set_option linter.unusedVariables false

theorem str_eq {a b : ByteArray} (h : a.data.toList = b.data.toList) : a = b := by
  cases a with | mk a => cases b with | mk b => cases a; cases b; simp at h; rw [h]
theorem ret_str {a b : ByteArray} (h : a = b) : Ending.returned (.string a) = .returned (.string b) := by rw [h]
abbrev Dig (w : World) : Prop := Lib.TabIs Tryd.prog w "lottery/digest.digits" .u8 [48, 49, 50, 51, 52, 53, 54, 55, 56, 57, 97, 98, 99, 100, 101, 102]
theorem gDig : Tryd.prog.globalNamed "lottery/digest.digits" = some 1 := by kernel_rfl
theorem sixteen {d : Nat} (h : d < 16) : d = 0 ∨ d = 1 ∨ d = 2 ∨ d = 3 ∨ d = 4 ∨ d = 5 ∨ d = 6 ∨ d = 7 ∨ d = 8 ∨ d = 9 ∨ d = 10 ∨ d = 11 ∨ d = 12 ∨ d = 13 ∨ d = 14 ∨ d = 15 := by omega
theorem dig_cell {w : World} (h : Dig w) (d : Nat) (hd : d < 16) : w.cell? ⟨1, d, none⟩ = some (.int .u8 (hn d : Int)) := by
  rw [Lib.TabIs.cell h gDig d hd]
  rcases sixteen hd with rfl | rfl | rfl | rfl | rfl | rfl | rfl | rfl | rfl | rfl | rfl | rfl | rfl | rfl | rfl | rfl <;> rfl
theorem and_u64 (a b : Nat) (ha : a < 18446744073709551616) (hb : b < 18446744073709551616) : bits .and .u64 (a : Int) (b : Int) = ((a &&& b : Nat) : Int) := by
  have hx : a &&& b < 2 ^ 64 := Nat.and_lt_two_pow _ (by omega)
  have h1 : (BitVec.ofInt 64 (a : Int)).toNat = a := by
    rw [BitVec.ofInt_natCast, BitVec.toNat_ofNat]; exact Nat.mod_eq_of_lt (by omega)
  have h2 : (BitVec.ofInt 64 (b : Int)).toNat = b := by
    rw [BitVec.ofInt_natCast, BitVec.toNat_ofNat]; exact Nat.mod_eq_of_lt (by omega)
  show IntKind.u64.wrap ((BitVec.ofInt 64 (a : Int) &&& BitVec.ofInt 64 (b : Int)).toNat : Int) = _
  rw [BitVec.toNat_and, h1, h2, IntKind.wrap_u64]
  omega
theorem and_fact {a : Nat} (ha : a < A64) : bits .and .u64 (a : Int) 15 = ((a % 16 : Nat) : Int) := by
  have h := and_u64 a 15 ha (by omega)
  have e : a &&& 15 = a % 16 := Nat.and_two_pow_sub_one_eq_mod a 4
  rw [e] at h
  exact h

/-! ### the bytes of the text in memory -/
def cb (l : List UInt8) : Array Value := (l.map fun c => Value.int .u8 (c.toNat : Int)).toArray
def Row (w : World) (g : Nat) (l : List UInt8) : Prop := w.heap[g]? = some (.cells (cb l) 44 (0, 0))
theorem lt_of_block {w : World} {g : Nat} {o : Obj} (h : w.heap[g]? = some o) : g < w.heap.size := by
  rcases Nat.lt_or_ge g w.heap.size with h' | h'
  · exact h'
  · rw [Array.getElem?_eq_none h'] at h; cases h
theorem Row.cell {w : World} {g : Nat} {l : List UInt8} (h : Row w g l) {j : Nat} (hj : j < l.length) : w.cell? ⟨g, j, none⟩ = some (.int .u8 ((l[j].toNat : Nat) : Int)) := by
  unfold Row at h
  simp [World.cell?, h, cb, hj]
theorem Row.frozen {w : World} {g : Nat} {l : List UInt8} (h : Row w g l) (j : Nat) : w.frozen? ⟨g, j, none⟩ = false := by
  unfold Row at h; simp [World.frozen?, h]
theorem Row.set_ {w : World} {g : Nat} {l : List UInt8} (h : Row w g l) (j : Nat) (c : UInt8) : Row (w.setCell ⟨g, j, none⟩ (.int .u8 (c.toNat : Int))) g (l.set j c) := by
  unfold Row at h ⊢
  simp [World.setCell, Array.getElem?_modify, h, cb, List.map_set]
/-- the text while it is written from its end -/
def wt (X k : Nat) : List UInt8 := List.replicate (16 - k) 0 ++ hl X k
theorem wt_len (X k : Nat) (h : k ≤ 16) : (wt X k).length = 16 := by unfold wt; rw [List.length_append, List.length_replicate, hl_len]; omega
theorem set_rep : ∀ (n : Nat) (c : UInt8) (l : List UInt8), (List.replicate (n + 1) 0 ++ l).set n c = List.replicate n 0 ++ c :: l
  | 0, c, l => rfl
  | n + 1, c, l => by
    rw [List.replicate_succ, List.cons_append, List.set_cons_succ, set_rep n c l, List.replicate_succ, List.cons_append]
theorem wt_set (X k n : Nat) (h : n + k = 15) : (wt X k).set n (hd (X / 16 ^ k % 16)) = wt X (k + 1) := by
  unfold wt
  rw [show 16 - k = n + 1 by omega, show 16 - (k + 1) = n by omega, set_rep]
  rfl
theorem wt_all (X : Nat) : wt X 16 = hl X 16 := rfl
theorem div_pow (X k : Nat) : X / 16 ^ k / 16 = X / 16 ^ (k + 1) := by rw [Nat.pow_succ, Nat.div_div_eq_div_mul]

theorem conv16 (W : World) (g X : Nat) (S : ByteArray) (hS : S.data.toList = hl X 16) (h : Row W g (wt X 16)) :
    (convert 26 9 (.slice (some ⟨g, 0, none⟩) 16 16)).run Tryd.prog W = .ok (.string S) W := by
  have hL : (hl X 16).length = 16 := hl_len X 16
  have := run_convert_bytes_back (P := Tryd.prog) W 26 9 5 ⟨g, 0, none⟩ 16 (hl X 16) Tryd.underlying26 Tryd.underlying5 Tryd.underlying9 (fun j hj => by
    have e : (Addr.add ⟨g, 0, none⟩ j) = ⟨g, j, none⟩ := by
      unfold Addr.add; split <;> simp_all
    rw [e]
    exact h.cell (j := j) hj)
  rw [hL] at this
  rw [this]
  congr 2
  exact str_eq (by rw [hS])
set_option maxHeartbeats 400000 in
theorem hex_any (X : Nat) (hx : X < A64) (S : ByteArray) (hS : Hid (S.data.toList = hl X 16)) (w : World) (hD : Dig w) :
    Calls Tryd.prog 22 #[.int .u64 (X : Int)] w fun e w' => e = .returned (.string S) ∧ Below w.heap.size w w' := by
  go_enter Tryd.func22, Tryd.ntmps22
  go_wp2_with fail
  go_loopw [0, 4] (fun s0 s4 wr => ∃ (k v : Nat) (i : Int), k ≤ 16 ∧ i + (k : Int) = 15 ∧ s4 = .int .i64 i ∧ s0 = .int .u64 (v : Int) ∧ Hid (v = X / 16 ^ k) ∧ Row wr w.heap.size (wt X k) ∧ Below w.heap.size w wr) (fun _ s4 _ => (intOf s4 + 1).toNat)
  case atStart => exact ⟨0, X, 15, by omega, by omega, rfl, rfl, Lib.hid (by rw [Nat.pow_zero, Nat.div_one]), heap_alloc_new w _, (Below.refl _ _).alloc (Nat.le_refl _) _⟩
  case round =>
    obtain ⟨k, v, i, hk, hi, rfl, rfl, HV, HR, HB⟩ := hrel
    by_cases hlt : k < 16
    · obtain ⟨n, rfl⟩ := Int.eq_ofNat_of_zero_le (show 0 ≤ i by omega)
      have hnk : n + k = 15 := by omega
      have bv : v < A64 := by rw [HV.out]; exact Nat.lt_of_le_of_lt (Nat.div_le_self _ _) hx
      have a1 := and_fact bv
      have hD2 : Dig wr := Joins.tab_stays gDig hD HB (Nat.le_refl _)
      have bd : v % 16 < 16 := Nat.mod_lt _ (by omega)
      have c1 := dig_cell hD2 (v % 16) bd
      have c2 := HR.cell (j := n) (by rw [wt_len _ _ hk]; omega)
      have f2 := HR.frozen n
      have H2 := HR.set_ n (hd (v % 16))
      rw [HV.out, wt_set X k n hnk, ← HV.out, hd_nat bd] at H2
      have H2' := Lib.hid H2
      have B2 := Lib.hid (HB.setCell (p := ⟨w.heap.size, n, none⟩) (Nat.le_refl _) (.int .u8 (hn (v % 16) : Int)))
      have HV2 : Hid (v / 16 = X / 16 ^ (k + 1)) := Lib.hid (by rw [HV.out, div_pow])
      have e1 : (v : Int) / 16 = ((v / 16 : Nat) : Int) := by omega
      clear H2 HR HB HV hD2 hnk
      generalize v / 16 = u at *
      generalize hn (v % 16) = y at *
      generalize v % 16 = d at *
      go_wp2_with fail
      go_roundw
      case rel => exact ⟨k + 1, u, (n : Int) - 1, by omega, by omega, rfl, rfl, HV2, H2'.out, B2.out⟩
      case measure => simp [intOf]
    · obtain rfl : k = 16 := by omega
      have t : ¬ (0 : Int) ≤ i := by omega
      have cv := conv16 wr w.heap.size X S hS.out HR
      go_wp2_with fail
      go_ret
      exact ⟨rfl, HB⟩

/-! ### the reference's Hex -/
def lit16 : ByteArray := ⟨#[48, 49, 50, 51, 52, 53, 54, 55, 56, 57, 97, 98, 99, 100, 101, 102]⟩
theorem app_list (a b : ByteArray) : (a ++ b).data.toList = a.data.toList ++ b.data.toList := by simp
theorem lit_cut (d : Nat) (h : d < 16) : (lit16.extract d (d + 1)).data.toList = [hd d] := by
  rcases sixteen h with rfl | rfl | rfl | rfl | rfl | rfl | rfl | rfl | rfl | rfl | rfl | rfl | rfl | rfl | rfl | rfl <;> rfl
set_option maxHeartbeats 400000 in
theorem rhex_any (X : Nat) (hx : X < A64) (S : ByteArray) (hS : Hid (S.data.toList = hl X 16)) (w : World) :
    Calls Tryd.prog 24 #[.int .u64 (X : Int)] w fun e w' => e = .returned (.string S) ∧ Below w.heap.size w w' := by
  go_enter Tryd.func24, Tryd.ntmps24
  go_wp2_with fail
  go_loopw [0, 3, 4] (fun s0 s3 s4 wr => ∃ (k v : Nat) (T : ByteArray), k ≤ 16 ∧ s4 = .int .i64 (k : Int) ∧ s0 = .int .u64 (v : Int) ∧ s3 = .string T ∧ T.size ≤ 16 ∧ Hid (v = X / 16 ^ k) ∧ Hid (T.data.toList = hl X k) ∧ Below w.heap.size w wr) (fun _ _ s4 _ => 16 - (intOf s4).toNat)
  case atStart => exact ⟨0, X, ⟨#[]⟩, by omega, rfl, rfl, rfl, by decide, Lib.hid (by rw [Nat.pow_zero, Nat.div_one]), Lib.hid rfl, Below.refl _ _⟩
  case round =>
    obtain ⟨k, v, T, hk, rfl, rfl, rfl, hT, HV, HT, HB⟩ := hrel
    by_cases hlt : k < 16
    · have bv : v < A64 := by rw [HV.out]; exact Nat.lt_of_le_of_lt (Nat.div_le_self _ _) hx
      have bd : v % 16 < 16 := Nat.mod_lt _ (by omega)
      have HT2 : Hid ((lit16.extract (v % 16) (v % 16 + 1)).data.toList ++ T.data.toList = hl X (k + 1)) := Lib.hid (by rw [lit_cut _ bd, HT.out, hl, ← HV.out]; rfl)
      have HV2 : Hid (v / 16 = X / 16 ^ (k + 1)) := Lib.hid (by rw [HV.out, div_pow])
      have e1 : (v : Int) / 16 = ((v / 16 : Nat) : Int) := by omega
      have e2 : (v : Int) % 16 = ((v % 16 : Nat) : Int) := by omega
      have bu : v / 16 < 18446744073709551616 := Nat.lt_of_le_of_lt (Nat.div_le_self _ _) bv
      clear HV HT
      generalize v / 16 = u at *
      generalize v % 16 = d at *
      go_wp2_with fail
      go_roundw
      case rel => 
        have hT3 : ((⟨#[48, 49, 50, 51, 52, 53, 54, 55, 56, 57, 97, 98, 99, 100, 101, 102]⟩ : ByteArray).extract d (d + 1) ++ T).data.toList = hl X (k + 1) := by rw [app_list]; exact HT2.out
        exact ⟨k + 1, u, _, by omega, by go_num, rfl, rfl, by rw [← size_len, hT3, hl_len]; omega, HV2, Lib.hid hT3, HB⟩
      case measure => simp [intOf]; omega
    · obtain rfl : k = 16 := by omega
      obtain rfl : T = S := str_eq (by rw [HT.out, hS.out])
      go_wp2_with fail
      go_ret
      exact ⟨rfl, HB⟩
end Go.Proofs.YthnbddacglfldaaDoor.dgH

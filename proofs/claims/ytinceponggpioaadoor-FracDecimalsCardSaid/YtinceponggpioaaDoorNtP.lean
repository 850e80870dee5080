/-
  What a text is as a number; the contract of nat.Parse.
-/
import Derived.Test.YtinceponggpioaaDoorNatX
import Derived.Test.YtinceponggpioaaDoorNtS
namespace Go.Proofs.YtinceponggpioaaDoor.ntP
open Go.RowKit
open Go.Proofs.YtinceponggpioaaDoor.natM Go.Proofs.YtinceponggpioaaDoor.natA Go.Proofs.YtinceponggpioaaDoor.natB Go.Proofs.YtinceponggpioaaDoor.natC Go.Proofs.YtinceponggpioaaDoor.natD Go.Proofs.YtinceponggpioaaDoor.natF Go.Proofs.YtinceponggpioaaDoor.natG Go.Proofs.YtinceponggpioaaDoor.numT Go.Proofs.YtinceponggpioaaDoor.ntS
set_option linter.unusedVariables false

theorem valA_app : ∀ (l : List UInt8) (acc : Nat), valA acc l = acc * 10 ^ l.length + valA 0 l
  | [], acc => by simp [valA]
  | c :: r, acc => by
    show valA (10 * acc + (c.toNat - 48)) r = _
    rw [valA_app r (10 * acc + (c.toNat - 48))]
    show _ = acc * 10 ^ (r.length + 1) + valA (10 * 0 + (c.toNat - 48)) r
    rw [valA_app r (10 * 0 + (c.toNat - 48)), Nat.add_mul, Nat.pow_succ, Nat.mul_zero, Nat.zero_add, Nat.mul_comm 10 acc, Nat.mul_assoc, Nat.mul_comm 10 (10 ^ r.length)]
    omega
theorem valN_app (p c : List UInt8) : valN (p ++ c) = valN p * 10 ^ c.length + valN c := by
  show valA 0 (p ++ c) = _
  rw [show valA 0 (p ++ c) = valA (valA 0 p) c by simp [valA], valA_app]; rfl
def npE (l : List UInt8) : Int := if 620 < l.length then 3 else if refB l = true then rE true true (valN l) else 1
def npV (l : List UInt8) : Nat := if 620 < l.length then 0 else if refB l = true then rV true true (valN l) else 0
theorem np_long {l : List UInt8} (h : 620 < l.length) : npE l = 3 ∧ npV l = 0 := ⟨if_pos h, if_pos h⟩
theorem np_no {l : List UInt8} (h : ¬ 620 < l.length) (hb : refB l = false) : npE l = 1 ∧ npV l = 0 := by
  unfold npE npV; rw [if_neg h, if_neg h, hb]; exact ⟨rfl, rfl⟩
theorem np_yes {l : List UInt8} (h : ¬ 620 < l.length) (hb : refB l = true) : npE l = rE true true (valN l) ∧ npV l = rV true true (valN l) := by
  unfold npE npV; rw [if_neg h, if_neg h, hb]; exact ⟨rfl, rfl⟩
theorem refB_digs {l : List UInt8} (h : refB l = true) : digs l = true := by
  unfold refB at h
  rcases Bool.or_eq_true .. ▸ h with h | h
  · have : l = [48] := by simpa using h
    subst this; rfl
  · exact (numB_iff.1 h).2.2

/-- what is read of a text, and what is left of it -/
def Pst (l : List UInt8) (t : ByteArray) (V : Nat) : Prop := ∃ p, l = p ++ t.data.toList ∧ V = valN p ∧ (p = [] ∨ t.size % 9 = 0)
theorem pst_start (s : ByteArray) : Pst s.data.toList s 0 := ⟨[], rfl, rfl, .inl rfl⟩
theorem pow_chain {a k m n M : Nat} (ha : 0 < a) (h : k ≤ m * n) (hM : (a ^ m) ^ n ≤ M) : a ^ k ≤ M := by
  have := Nat.pow_le_pow_right ha h
  rw [Nat.pow_mul] at this
  exact Nat.le_trans this hM
theorem big_pow {k : Nat} (h : k ≤ 620) : (10 : Nat) ^ k ≤ 4294967296 ^ 65 := pow_chain (m := 20) (n := 31) (by omega) h (by decide)
theorem digs_app (p q : List UInt8) : digs (p ++ q) = (digs p && digs q) := by simp [digs]
theorem digs_l {p q : List UInt8} (h : digs (p ++ q) = true) : digs p = true := by rw [digs_app, Bool.and_eq_true] at h; exact h.1
theorem digs_r {p q : List UInt8} (h : digs (p ++ q) = true) : digs q = true := by rw [digs_app, Bool.and_eq_true] at h; exact h.2
theorem pst_len {l : List UInt8} {t : ByteArray} {V : Nat} (h : Pst l t V) (hd : digs l = true) (hl : ¬ 620 < l.length) : nlen 4294967296 V ≤ 65 := by
  obtain ⟨p, e, hv, _⟩ := h
  have hp : digs p = true := digs_l (e ▸ hd)
  have h1 := digs_lt p hp
  have h2 : p.length ≤ 620 := by rw [e, List.length_append] at hl; omega
  rw [← hv] at h1
  exact nlen_le (by omega) (Nat.lt_of_lt_of_le h1 (big_pow h2))
theorem pst_end {l : List UInt8} {t : ByteArray} {V : Nat} (h : Pst l t V) (h0 : ¬ 0 < t.size) : V = valN l := by
  obtain ⟨p, e, hv, _⟩ := h
  have : t.data.toList = [] := List.length_eq_zero_iff.1 (by rw [← size_len]; omega)
  rw [e, this, List.append_nil]; exact hv
theorem ext_take (t : ByteArray) (z : Nat) : (t.extract 0 z).data.toList = t.data.toList.take z := by
  simp [List.extract]
theorem ext_drop (t : ByteArray) (z : Nat) : (t.extract z t.size).data.toList = t.data.toList.drop z := Lib.extract_to_end t z
theorem pst_step {l : List UInt8} {t : ByteArray} {V z : Nat} (h : Pst l t V) (hd : digs l = true) (h0 : 0 < t.size) (hz : z = (t.size - 1) % 9 + 1) :
    digs (t.extract 0 z).data.toList = true ∧ (t.extract 0 z).size ≤ 9 ∧ Pst l (t.extract z t.size) (valN (t.extract 0 z).data.toList + 1000000000 * V) ∧ (t.extract z t.size).size < t.size ∧ valN (t.extract 0 z).data.toList < 1000000000 := by
  obtain ⟨p, e, hv, hp⟩ := h
  have hz9 : z ≤ 9 := by omega
  have hzt : z ≤ t.size := by omega
  have hdt : digs t.data.toList = true := digs_r (e ▸ hd)
  have hdc : digs (t.extract 0 z).data.toList = true := by rw [ext_take]; exact digs_of_take hdt z
  have hsz : (t.extract 0 z).size = z := by rw [ByteArray.size_extract]; omega
  have hst : (t.extract z t.size).size = t.size - z := by rw [ByteArray.size_extract]; omega
  have hlt := digs_lt _ hdc
  rw [← size_len, hsz] at hlt
  have h9 : (10 : Nat) ^ z ≤ 10 ^ 9 := Nat.pow_le_pow_right (by omega) hz9
  refine ⟨hdc, by omega, ⟨p ++ (t.extract 0 z).data.toList, ?_, ?_, .inr (by rw [hst]; omega)⟩, by omega, by omega⟩
  · rw [ext_take, ext_drop, List.append_assoc, List.take_append_drop]; exact e
  · rw [valN_app, ← size_len, hsz, ← hv]
    rcases hp with rfl | hp
    · have : V = 0 := hv
      subst this; omega
    · have : z = 9 := by omega
      subst this
      rw [show (10 : Nat) ^ 9 = 1000000000 by decide]; omega

theorem addT_chunk (g n cx m cy X Y : Nat) (A : Option Addr) (hY : Hid (Y < 4294967296 ^ m)) (hn : n ≤ 9223372036854775807) (hm : m ≤ 9223372036854775807) (w : World) (hx : Own .u32 w g (dg 4294967296 n X)) (hI : Cel .u32 w A (dg 4294967296 m Y)) (hF : Far A m g) :
    Calls Tryd.prog 69 #[.slice (some ⟨g, 0, none⟩) n cx, .slice A m cy, .int .u32 1000000000] w fun e w' => e = .returned (.tuple #[]) ∧ Own .u32 w' g (dg 4294967296 n (X + 1000000000 * Y)) ∧ w.grownBy w' (some g) := by
  have := addT_any g 0 n cx m cy 1000000000 X Y A (dg 4294967296 n X) (by rw [dg_len]; omega) (Lib.hid fun j hj => by rw [Nat.zero_add, dg_at hj]) hY (by omega) hn hm w hx hI hF
  rw [put_full (by rw [dg_len, dg_len])] at this
  exact this
theorem dg_first {n v : Nat} (h : v < 4294967296) : (dg 4294967296 (n + 1) 0).set 0 v = dg 4294967296 (n + 1) v := by
  apply dg_ext (by rw [List.length_set, dg_len])
  intro k hk
  rw [at0_set _ _ _ _ (by rw [dg_len]; omega)]
  split
  · rename_i e; subst e; rw [Nat.pow_zero, Nat.div_one, Nat.mod_eq_of_lt h]
  · rename_i e
    rw [dg_at hk, Nat.zero_div, Nat.zero_mod]
    have h1 : v < 4294967296 ^ k := Nat.lt_of_lt_of_le (by simpa using h) (Nat.pow_le_pow_right (by omega) (show 1 ≤ k by omega))
    rw [Nat.div_eq_of_lt h1]
theorem cel_of {w : World} {A : Option Addr} {n c v : Nat} (h : Num w A n c v) : Cel .u32 w A (dg 4294967296 n v) := h.2.2
theorem set_first {n v : Nat} (h : v < 4294967296) : ((dg 4294967296 (n + 1) 0).map fun x : Nat => Value.int .u32 (x : Int)).set 0 (.int .u32 (v : Int)) = (dg 4294967296 (n + 1) v).map fun x : Nat => Value.int .u32 (x : Int) := by
  rw [← dg_first (v := v) h, List.map_set]
theorem cel_low {K : IntKind} {w : World} {A : Option Addr} {B n k v : Nat} (h : Cel K w A (dg B n v)) (hk : k ≤ n) : Cel K w A (dg B k v) := fun hp => by
  rw [dg_len] at hp
  obtain ⟨b, off, e, hc⟩ := h (by rw [dg_len]; omega)
  refine ⟨b, off, e, fun j x hj => hc j x ?_⟩
  rw [← dg_take hk, List.getElem?_take] at hj
  split at hj
  · exact hj
  · cases hj
theorem rV_le (a b : Bool) (V : Nat) : rV a b V ≤ V := by
  unfold rV; split
  · split <;> omega
  · omega
theorem far_of {A FA : Option Addr} {N FN b : Nat} (h : Far A N b) (e : FA = A ∨ FA = none) (hn : FN ≤ N) : Far FA FN b := by
  rcases e with e | e
  · rw [e]; exact fun hp => h (by omega)
  · rw [e]; exact Far.none_
theorem step_lt {V N p : Nat} (hV : V < 4294967296 ^ N) (hp : p < 1000000000) : p + 1000000000 * V < 4294967296 ^ (N + 1) := by
  rw [Nat.pow_succ]; omega
end Go.Proofs.YtinceponggpioaaDoor.ntP

/-
  What a text is as a number; the contract of nat.Parse.
-/
import Derived.Test.YtjbckijeobmoeaaDoorNatX
import Derived.Test.YtjbckijeobmoeaaDoorNtS
namespace Go.Proofs.YtjbckijeobmoeaaDoor.ntP
open Go.RowKit
open Go.Proofs.YtjbckijeobmoeaaDoor.natM Go.Proofs.YtjbckijeobmoeaaDoor.natA Go.Proofs.YtjbckijeobmoeaaDoor.natB Go.Proofs.YtjbckijeobmoeaaDoor.natC Go.Proofs.YtjbckijeobmoeaaDoor.natD Go.Proofs.YtjbckijeobmoeaaDoor.natF Go.Proofs.YtjbckijeobmoeaaDoor.natG Go.Proofs.YtjbckijeobmoeaaDoor.numT Go.Proofs.YtjbckijeobmoeaaDoor.ntS
set_option linter.unusedVariables false

theorem valA_app : ∀ (l : List UInt8) (acc : Nat), valA acc l = acc * 10 ^ l.length + valA 0 l
  | [], acc => by simp [valA]
  | c :: r, acc => by
    show valA (10 * acc + (c.toNat - 48)) r = _
    rw [valA_app r (10 * acc + (c.toNat - 48))]
    show _ = acc * 10 ^ (r.length + 1) + valA (10 * 0 + (c.toNat - 48)) r
    rw [valA_app r (10 * 0 + (c.toNat - 48)), Nat.add_mul, Nat.pow_succ, Nat.mul_zero, Nat.zero_add, Nat.mul_comm 10 acc, Nat.mul_assoc, Nat.mul_comm 10 (10 ^ r.length)]
    omega
theorem valN_app (p c : List UInt8) : valN (p ++ c) = valN p * 10 ^ c.length + valN c := by
  show valA 0 (p ++ c) = _
  rw [show valA 0 (p ++ c) = valA (valA 0 p) c by simp [valA], valA_app]; rfl
def npE (l : List UInt8) : Int := if 620 < l.length then 3 else if refB l = true then rE true true (valN l) else 1
def npV (l : List UInt8) : Nat := if 620 < l.length then 0 else if refB l = true then rV true true (valN l) else 0
theorem np_long {l : List UInt8} (h : 620 < l.length) : npE l = 3 ∧ npV l = 0 := ⟨if_pos h, if_pos h⟩
theorem np_no {l : List UInt8} (h : ¬ 620 < l.length) (hb : refB l = false) : npE l = 1 ∧ npV l = 0 := by
  unfold npE npV; rw [if_neg h, if_neg h, hb]; exact ⟨rfl, rfl⟩
theorem np_yes {l : List UInt8} (h : ¬ 620 < l.length) (hb : refB l = true) : npE l = rE true true (valN l) ∧ npV l = rV true true (valN l) := by
  unfold npE npV; rw [if_neg h, if_neg h, hb]; exact ⟨rfl, rfl⟩
theorem refB_digs {l : List UInt8} (h : refB l = true) : digs l = true := by
  unfold refB at h
  rcases Bool.or_eq_true .. ▸ h with h | h
  · have : l = [48] := by simpa using h
    subst this; rfl
  · exact (numB_iff.1 h).2.2

/-- what is read of a text, and what is left of it -/
def Pst (l : List UInt8) (t : ByteArray) (V : Nat) : Prop := ∃ p, l = p ++ t.data.toList ∧ V = valN p ∧ (p = [] ∨ t.size % 9 = 0)
theorem pst_start (s : ByteArray) : Pst s.data.toList s 0 := ⟨[], rfl, rfl, .inl rfl⟩
theorem pow_chain {a k m n M : Nat} (ha : 0 < a) (h : k ≤ m * n) (hM : (a ^ m) ^ n ≤ M) : a ^ k ≤ M := by
  have := Nat.pow_le_pow_right ha h
  rw [Nat.pow_mul] at this
  exact Nat.le_trans this hM
theorem big_pow {k : Nat} (h : k ≤ 620) : (10 : Nat) ^ k ≤ 4294967296 ^ 65 := pow_chain (m := 20) (n := 31) (by omega) h (by decide)
theorem digs_app (p q : List UInt8) : digs (p ++ q) = (digs p && digs q) := by simp [digs]
theorem digs_l {p q : List UInt8} (h : digs (p ++ q) = true) : digs p = true := by rw [digs_app, Bool.and_eq_true] at h; exact h.1
theorem digs_r {p q : List UInt8} (h : digs (p ++ q) = true) : digs q = true := by rw [digs_app, Bool.and_eq_true] at h; exact h.2
theorem pst_len {l : List UInt8} {t : ByteArray} {V : Nat} (h : Pst l t V) (hd : digs l = true) (hl : ¬ 620 < l.length) : nlen 4294967296 V ≤ 65 := by
  obtain ⟨p, e, hv, _⟩ := h
  have hp : digs p = true := digs_l (e ▸ hd)
  have h1 := digs_lt p hp
  have h2 : p.length ≤ 620 := by rw [e, List.length_append] at hl; omega
  rw [← hv] at h1
  exact nlen_le (by omega) (Nat.lt_of_lt_of_le h1 (big_pow h2))
theorem pst_end {l : List UInt8} {t : ByteArray} {V : Nat} (h : Pst l t V) (h0 : ¬ 0 < t.size) : V = valN l := by
  obtain ⟨p, e, hv, _⟩ := h
  have : t.data.toList = [] := List.length_eq_zero_iff.1 (by rw [← size_len]; omega)
  rw [e, this, List.append_nil]; exact hv
theorem ext_take (t : ByteArray) (z : Nat) : (t.extract 0 z).data.toList = t.data.toList.take z := by
  simp [List.extract]
theorem ext_drop (t : ByteArray) (z : Nat) : (t.extract z t.size).data.toList = t.data.toList.drop z := Lib.extract_to_end t z
theorem pst_step {l : List UInt8} {t : ByteArray} {V z : Nat} (h : Pst l t V) (hd : digs l = true) (h0 : 0 < t.size) (hz : z = (t.size - 1) % 9 + 1) :
    digs (t.extract 0 z).data.toList = true ∧ (t.extract 0 z).size ≤ 9 ∧ Pst l (t.extract z t.size) (valN (t.extract 0 z).data.toList + 1000000000 * V) ∧ (t.extract z t.size).size < t.size ∧ valN (t.extract 0 z).data.toList < 1000000000 := by
  obtain ⟨p, e, hv, hp⟩ := h
  have hz9 : z ≤ 9 := by omega
  have hzt : z ≤ t.size := by omega
  have hdt : digs t.data.toList = true := digs_r (e ▸ hd)
  have hdc : digs (t.extract 0 z).data.toList = true := by rw [ext_take]; exact digs_of_take hdt z
  have hsz : (t.extract 0 z).size = z := by rw [ByteArray.size_extract]; omega
  have hst : (t.extract z t.size).size = t.size - z := by rw [ByteArray.size_extract]; omega
  have hlt := digs_lt _ hdc
  rw [← size_len, hsz] at hlt
  have h9 : (10 : Nat) ^ z ≤ 10 ^ 9 := Nat.pow_le_pow_right (by omega) hz9
  refine ⟨hdc, by omega, ⟨p ++ (t.extract 0 z).data.toList, ?_, ?_, .inr (by rw [hst]; omega)⟩, by omega, by omega⟩
  · rw [ext_take, ext_drop, List.append_assoc, List.take_append_drop]; exact e
  · rw [valN_app, ← size_len, hsz, ← hv]
    rcases hp with rfl | hp
    · have : V = 0 := hv
      subst this; omega
    · have : z = 9 := by omega
      subst this
      rw [show (10 : Nat) ^ 9 = 1000000000 by decide]; omega

set_option maxHeartbeats 1600000 in
theorem nparse_long (s : ByteArray) (hs : s.size ≤ 9223372036854775807) (h : (620 : Int) < (s.size : Int)) (w : World) :
    Calls Tryd.prog 4 #[.string s] w (ResP 0 3 w) := by
  go_enter Tryd.func4, Tryd.ntmps4
  go_wp2_with fail
  refine bodyPost_ret (v := .tuple #[.agg #[.slice none 0 0], .int .i64 3]) (by simp [results, Tryd.results4, go_sem, World.cell?_alloc_new]) rfl ?_
  exact ⟨none, 0, 0, rfl, Num.nil _, below_new _ _⟩
set_option maxHeartbeats 1600000 in
theorem nparse_no (s : ByteArray) (hs : s.size ≤ 9223372036854775807) (h : decide ((620 : Int) < (s.size : Int)) = false) (hb : Hid (false = refB s.data.toList)) (w : World) :
    Calls Tryd.prog 4 #[.string s] w (ResP 0 1 w) := by
  have cd := fun w => nisdec_any s false hb hs w
  go_enter Tryd.func4, Tryd.ntmps4
  go_wp2_with (go_at_call 11; (with_reducible refine (cd _).mono ?_); rintro e w1 ⟨rfl, rfl⟩)
  refine bodyPost_ret (v := .tuple #[.agg #[.slice none 0 0], .int .i64 1]) (by simp [results, Tryd.results4, go_sem, World.cell?_alloc_new]) rfl ?_
  exact ⟨none, 0, 0, rfl, Num.nil _, below_new _ _⟩

theorem addT_chunk (g n cx m cy X Y : Nat) (A : Option Addr) (hY : Hid (Y < 4294967296 ^ m)) (hn : n ≤ 9223372036854775807) (hm : m ≤ 9223372036854775807) (w : World) (hx : Own .u32 w g (dg 4294967296 n X)) (hI : Cel .u32 w A (dg 4294967296 m Y)) (hF : Far A m g) :
    Calls Tryd.prog 13 #[.slice (some ⟨g, 0, none⟩) n cx, .slice A m cy, .int .u32 1000000000] w fun e w' => e = .returned (.tuple #[]) ∧ Own .u32 w' g (dg 4294967296 n (X + 1000000000 * Y)) ∧ w.grownBy w' (some g) := by
  have := addT_any g 0 n cx m cy 1000000000 X Y A (dg 4294967296 n X) (by rw [dg_len]; omega) (Lib.hid fun j hj => by rw [Nat.zero_add, dg_at hj]) hY (by omega) hn hm w hx hI hF
  rw [put_full (by rw [dg_len, dg_len])] at this
  exact this
theorem dg_first {n v : Nat} (h : v < 4294967296) : (dg 4294967296 (n + 1) 0).set 0 v = dg 4294967296 (n + 1) v := by
  apply dg_ext (by rw [List.length_set, dg_len])
  intro k hk
  rw [at0_set _ _ _ _ (by rw [dg_len]; omega)]
  split
  · rename_i e; subst e; rw [Nat.pow_zero, Nat.div_one, Nat.mod_eq_of_lt h]
  · rename_i e
    rw [dg_at hk, Nat.zero_div, Nat.zero_mod]
    have h1 : v < 4294967296 ^ k := Nat.lt_of_lt_of_le (by simpa using h) (Nat.pow_le_pow_right (by omega) (show 1 ≤ k by omega))
    rw [Nat.div_eq_of_lt h1]
theorem cel_of {w : World} {A : Option Addr} {n c v : Nat} (h : Num w A n c v) : Cel .u32 w A (dg 4294967296 n v) := h.2.2
theorem set_first {n v : Nat} (h : v < 4294967296) : ((dg 4294967296 (n + 1) 0).map fun x : Nat => Value.int .u32 (x : Int)).set 0 (.int .u32 (v : Int)) = (dg 4294967296 (n + 1) v).map fun x : Nat => Value.int .u32 (x : Int) := by
  rw [← dg_first (v := v) h, List.map_set]
theorem cel_low {K : IntKind} {w : World} {A : Option Addr} {B n k v : Nat} (h : Cel K w A (dg B n v)) (hk : k ≤ n) : Cel K w A (dg B k v) := fun hp => by
  rw [dg_len] at hp
  obtain ⟨b, off, e, hc⟩ := h (by rw [dg_len]; omega)
  refine ⟨b, off, e, fun j x hj => hc j x ?_⟩
  rw [← dg_take hk, List.getElem?_take] at hj
  split at hj
  · exact hj
  · cases hj
theorem rV_le (a b : Bool) (V : Nat) : rV a b V ≤ V := by
  unfold rV; split
  · split <;> omega
  · omega
theorem far_of {A FA : Option Addr} {N FN b : Nat} (h : Far A N b) (e : FA = A ∨ FA = none) (hn : FN ≤ N) : Far FA FN b := by
  rcases e with e | e
  · rw [e]; exact fun hp => h (by omega)
  · rw [e]; exact Far.none_
theorem step_lt {V N p : Nat} (hV : V < 4294967296 ^ N) (hp : p < 1000000000) : p + 1000000000 * V < 4294967296 ^ (N + 1) := by
  rw [Nat.pow_succ]; omega
set_option maxHeartbeats 4000000 in
theorem nparse_yes (s : ByteArray) (hs : s.size ≤ 9223372036854775807) (h : decide ((620 : Int) < (s.size : Int)) = false) (hl : Hid (¬ 620 < s.data.toList.length)) (hb : Hid (true = refB s.data.toList)) (w : World) :
    Calls Tryd.prog 4 #[.string s] w (ResP (rV true true (valN s.data.toList)) (rE true true (valN s.data.toList)) w) := by
  have cd := fun w => nisdec_any s true hb hs w
  have HD : Hid (digs s.data.toList = true) := Lib.hid (refB_digs hb.out.symm)
  go_enter Tryd.func4, Tryd.ntmps4
  go_wp2_with (go_at_call 11; (with_reducible refine (cd _).mono ?_); rintro e w1 ⟨rfl, rfl⟩)
  have ht0 : s.size ≤ 620 := by simp at h; omega
  go_loopw [0, 4] (fun s0 s4 wr => ∃ (t : ByteArray) (A : Option Addr) (N c V : Nat), t.size ≤ 620 ∧ s0 = .string t ∧ s4 = .slice A N c ∧ Hid (Pst s.data.toList t V) ∧ Hid (Num wr A N c V) ∧ Hid (Far A N w.heap.size) ∧ Hid (Bx wr w.heap.size (.slice none 0 0)) ∧ Hid (Below w.heap.size w wr)) (fun s0 _ _ => match s0 with | .string t => t.size | _ => 0)
  case atStart => exact ⟨s, none, 0, 0, 0, ht0, rfl, rfl, Lib.hid (pst_start s), Lib.hid (Num.nil _), Lib.hid Far.none_, Lib.hid (Bx.new_ _ _ _), Lib.hid (below_new _ _)⟩
  case round =>
    obtain ⟨t, A, N, c, V, ht, rfl, rfl, HP, HN, HF, HX, HB⟩ := hrel
    have hN65 : N ≤ 65 := by rw [HN.out.1]; exact pst_len HP.out HD.out hl.out
    by_cases h0 : 0 < t.size
    · obtain ⟨z, hz⟩ : ∃ z, z = (t.size - 1) % 9 + 1 := ⟨_, rfl⟩
      obtain ⟨m, hm⟩ : ∃ m, m = t.size - 1 := ⟨_, rfl⟩
      have ps := pst_step HP.out HD.out h0 hz
      have q1 : (t.size : Int) - 1 = (m : Int) := by omega
      obtain ⟨r, hr⟩ : ∃ r, r = m % 9 := ⟨_, rfl⟩
      have q2 : (m : Int) % 9 = (r : Int) := by omega
      have hz2 : (r : Int) + 1 = (z : Int) := by omega
      have zle : (z : Int) ≤ (t.size : Int) := by omega
      have zle2 : z ≤ t.size := by omega
      have cp := fun w => pchunk_any (t.extract 0 z) (Lib.hid ps.1) ps.2.1 w
      have tsz : (t.extract z t.size).size < t.size := ps.2.2.2.1
      have hp9 := ps.2.2.2.2
      have HP2 := Lib.hid ps.2.2.1
      clear ps hz hm hr
      generalize valN (t.extract 0 z).data.toList = P at *
      obtain ⟨N2, hN2⟩ : ∃ N2, Hid (N2 = nlen 4294967296 (P + 1000000000 * V)) := ⟨_, Lib.hid rfl⟩
      have hVlt : Hid (V < 4294967296 ^ N) := Lib.hid HN.out.lt
      have hlt2 : Hid (P + 1000000000 * V < 4294967296 ^ (N + 1)) := Lib.hid (step_lt hVlt.out hp9)
      have hmk := make_u32 (N + 1) (by omega)
      have e0 : ((N + 1 : Nat) : Int) = (N : Int) + 1 := by omega
      rw [e0] at hmk
      obtain ⟨g, hg⟩ : ∃ g, g = wr.heap.size := ⟨_, rfl⟩
      have O1 := Own.new_ .u32 wr 32 (dg 4294967296 (N + 1) 0) hg
      have hc := O1.cell (j := 0) (by rw [dg_len]; omega)
      have hfz := O1.frozen 0
      have hset : ((dg 4294967296 (N + 1) 0).map fun x : Nat => Value.int .u32 (x : Int)).set 0 (.int .u32 (P : Int)) = (dg 4294967296 (N + 1) P).map fun x : Nat => Value.int .u32 (x : Int) := set_first (by omega)
      subst hg
      have O2 : Hid (Own .u32 (wr.alloc (.cells (((dg 4294967296 (N + 1) 0).map fun x : Nat => Value.int .u32 (x : Int)).set 0 (.int .u32 (P : Int))).toArray 32)) wr.heap.size (dg 4294967296 (N + 1) P)) := Lib.hid (by rw [hset]; exact Own.new_ .u32 wr 32 (dg 4294967296 (N + 1) P) rfl)
      rw [dg_at (by omega), Nat.zero_div, Nat.zero_mod] at hc
      have hne : w.heap.size ≠ wr.heap.size := by have := HX.out.lt; omega
      have farg : Far A N wr.heap.size := by have := HN.out.2.2.far (Nat.le_refl _); rwa [dg_len] at this
      have N3 := Lib.hid (HN.out.below (below_new wr (.cells (((dg 4294967296 (N + 1) 0).map fun x : Nat => Value.int .u32 (x : Int)).set 0 (.int .u32 (P : Int))).toArray 32)))
      have B3 := Lib.hid (HB.out.alloc HB.out.size (.cells (((dg 4294967296 (N + 1) 0).map fun x : Nat => Value.int .u32 (x : Int)).set 0 (.int .u32 (P : Int))).toArray 32))
      have X3 := Lib.hid (HX.out.alloc (.cells (((dg 4294967296 (N + 1) 0).map fun x : Nat => Value.int .u32 (x : Int)).set 0 (.int .u32 (P : Int))).toArray 32))
      have FG := Lib.hid farg
      have NE := Lib.hid hne
      have n0 : (0 : Int) < (N : Int) + 1 := by omega
      clear O1 e0 hset hne farg HP HN HF HX hp9
      go_wp2_with (first
        | (go_at_call 12; (with_reducible refine (cp _).mono ?_); rintro e w4 ⟨rfl, rfl⟩)
        | (go_at_call 13; (with_reducible refine (addT_chunk wr.heap.size (N + 1) (N + 1) N c P V A hVlt (by omega) (by omega) _ O2.out (cel_of N3.out) FG.out).mono ?_); rintro e w5 ⟨rfl, ho, hg⟩; have O5 := Lib.hid ho; have B5 := Lib.hid (below_grown B3.out hg (by have := HB.out.size; omega) B3.out.size); have X5 := Lib.hid (X3.out.grown hg (by have := NE.out; simpa using this)); clear ho hg)
        | (go_at_call 14; (with_reducible refine (trim_any (some ⟨wr.heap.size, 0, none⟩) (N + 1) (N + 1) (P + 1000000000 * V) N2 hlt2 hN2 (Nat.le_refl _) (by omega) w5 O5.out.all).mono ?_); rintro e w6 ⟨rfl, rfl⟩))
      go_roundw
      case rel => exact ⟨t.extract z t.size, some ⟨wr.heap.size, 0, none⟩, N2, N2, P + 1000000000 * V, by omega, rfl, rfl, HP2, Lib.hid ⟨hN2.out, Nat.le_refl _, cel_low O5.out.all (by rw [hN2.out]; exact nlen_le (by omega) hlt2.out)⟩, Lib.hid (Far.ne (by have := NE.out; simpa using this.symm)), X5, B5⟩
      case measure => simpa using tsz
    · have hV : V = valN s.data.toList := pst_end HP.out h0
      obtain ⟨FA, FN, FE, cf, hf⟩ := fit_any A N c V (Lib.hid HN.out.lt) HN.out.2.1 (by omega)
      have FF := Lib.hid hf
      have HC := Lib.hid HN.out.2.2
      have h0' : decide (0 < t.size) = false := decide_eq_false h0
      have HV := Lib.hid hV
      have NN := Lib.hid HN.out.1
      clear hf hV HN h0
      go_wp2_with (go_at_call 15; (with_reducible refine (cf _ HC.out).mono ?_); rintro e w6 ⟨rfl, hb6⟩; have NF := Lib.hid (FF.out.2.2 _ (HC.out.below hb6)); have X6 := Lib.hid (HX.out.below hb6); have B6 := Lib.hid (below_on HB.out hb6); have xr := X6.out.cell; have fr := X6.out.free; clear hb6)
      have xs := set_same X6.out
      refine bodyPost_ret (v := .tuple #[.agg #[.slice FA FN FN], .int .i64 FE]) (by simp [results, Tryd.results4, go_sem, xs]) rfl ?_
      refine ⟨FA, FN, FN, by rw [FF.out.1, HV.out], ?_, B6.out.setCell (by simp) _⟩
      rw [← HV.out]
      exact num_set NF.out (far_of HF.out FF.out.2.1 (by rw [NF.out.1, NN.out]; exact nlen_mono (by omega) (rV_le _ _ _))) _

theorem nparse_any (s : ByteArray) (hs : s.size ≤ 9223372036854775807) (w : World) :
    Calls Tryd.prog 4 #[.string s] w (ResP (npV s.data.toList) (npE s.data.toList) w) := by
  by_cases h : 620 < s.data.toList.length
  · rw [(np_long h).1, (np_long h).2]
    rw [← size_len] at h
    exact nparse_long s hs (by omega) w
  · have h2 : decide ((620 : Int) < (s.size : Int)) = false := decide_eq_false (by rw [size_len]; omega)
    cases hb : refB s.data.toList with
    | false => rw [(np_no h hb).1, (np_no h hb).2]; exact nparse_no s hs h2 (Lib.hid hb.symm) w
    | true => rw [(np_yes h hb).1, (np_yes h hb).2]; exact nparse_yes s hs h2 (Lib.hid h) (Lib.hid hb.symm) w
end Go.Proofs.YtjbckijeobmoeaaDoor.ntP

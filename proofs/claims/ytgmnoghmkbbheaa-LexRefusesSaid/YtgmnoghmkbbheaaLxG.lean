/-
  Contracts of the program's number, read.
-/
import Derived.Test.YtgmnoghmkbbheaaLxF
namespace Go.Proofs.Ytgmnoghmkbbheaa.lxG
open Go.RowKit Go.Shelf
open Go.Proofs.Ytgmnoghmkbbheaa.lxM Go.Proofs.Ytgmnoghmkbbheaa.lxN Go.Proofs.Ytgmnoghmkbbheaa.lxA Go.Proofs.Ytgmnoghmkbbheaa.lxE Go.Proofs.Ytgmnoghmkbbheaa.lxY Go.Proofs.Ytgmnoghmkbbheaa.lxF
set_option linter.unusedVariables false

theorem below_two {w w1 w2 : World} (h : Below w.heap.size w w1) (h2 : Below w1.heap.size w1 w2) : Below w.heap.size w w2 := below_on h h2
theorem ent_B : Enters Try.prog 30 := enters_of Try.func30 (by kernel_rfl) rfl
theorem ent_R : Enters Try.prog 32 := enters_of Try.func32 (by kernel_rfl) rfl
theorem ent_W : Enters Try.prog 34 := enters_of Try.func34 (by kernel_rfl) rfl
theorem ent_D : Enters Try.prog 35 := enters_of Try.func35 (by kernel_rfl) rfl
theorem head_s {s : ByteArray} {c : UInt8} {l : By} (h : s.data.toList = c :: l) : ∃ hp : 0 < s.size, s[0]'hp = c := by
  have hl : 0 < s.size := by rw [size_len, h]; exact Nat.zero_lt_succ _
  refine ⟨hl, ?_⟩
  rw [bat_s s 0 hl, h]
  rfl
set_option maxHeartbeats 1000000 in
theorem number_any (s : ByteArray) (c : UInt8) (l : By) (hL : s.data.toList = c :: l) (hd : dgt c = true) (n k : Nat) (hn : Hid (tl (c :: l) = (n, k))) (hs : s.size ≤ 1000000) (w : World) :
    Calls Try.prog 36 #[.string s] w fun e w' => e = .returned (.int .i64 (n : Int)) ∧ Below w.heap.size w w' := by
  obtain ⟨z, hz⟩ : ∃ z, z = rn dgt (c :: l) := ⟨_, rfl⟩
  have cs := fun w => span_any 35 ent_D pD false isDigit_any top_D s z hs (Lib.hid (by rw [hL]; exact hz)) w
  obtain ⟨h0, hc0⟩ := head_s hL
  have hz2 : z = rn dgt l + 1 := by rw [hz, rn_cons hd]
  have hzl : z ≤ s.size := by rw [hz, size_len, hL]; exact rn_le dgt (c :: l)
  have h00 : (0 : Int) < (s.size : Int) := by omega
  by_cases h18 : 18 < z
  · rw [tl_long hd (by omega)] at hn
    obtain ⟨rfl, rfl⟩ := Prod.mk.inj hn.out
    have t1 : (18 : Int) < (z : Int) := by omega
    clear hn hz hz2 hL hd
    go_enter Try.func36, Try.ntmps36
    go_wp2_with (go_at_call 31; (refine (cs _).mono ?_); rintro e w1 ⟨rfl, b1⟩)
    go_ret
    exact ⟨rfl, b1⟩
  · have t1 : ¬ (18 : Int) < (z : Int) := by omega
    by_cases h1 : 1 < z
    · have t2 : (1 : Int) < (z : Int) := by omega
      by_cases hc : c.toNat = 48
      · rw [tl_long hd (by omega)] at hn
        obtain ⟨rfl, rfl⟩ := Prod.mk.inj hn.out
        have t3 : (((s[0]'h0).toNat : Int) == 48) = true := by rw [hc0, beq_iff_eq]; omega
        clear hn hz hz2 hL hd hc0
        go_enter Try.func36, Try.ntmps36
        go_wp2_with (go_at_call 31; (refine (cs _).mono ?_); rintro e w1 ⟨rfl, b1⟩)
        go_ret
        exact ⟨rfl, b1⟩
      · rw [tl_num hd (by omega)] at hn
        obtain ⟨e1, rfl⟩ := Prod.mk.inj hn.out
        obtain rfl : z = n := by omega
        have t3 : (((s[0]'h0).toNat : Int) == 48) = false := by rw [hc0, beq_eq_false_iff_ne]; omega
        clear hn hz hz2 hL hd hc0 e1
        go_enter Try.func36, Try.ntmps36
        go_wp2_with (go_at_call 31; (refine (cs _).mono ?_); rintro e w1 ⟨rfl, b1⟩)
        go_ret
        exact ⟨rfl, b1⟩
    · have t2 : ¬ (1 : Int) < (z : Int) := by omega
      rw [tl_num hd (by omega)] at hn
      obtain ⟨e1, rfl⟩ := Prod.mk.inj hn.out
      obtain rfl : z = n := by omega
      clear hn hz hz2 hL hd hc0 e1
      go_enter Try.func36, Try.ntmps36
      go_wp2_with (go_at_call 31; (refine (cs _).mono ?_); rintro e w1 ⟨rfl, b1⟩)
      go_ret
      exact ⟨rfl, b1⟩

/-! ### read -/
/-- a step that answers a kind and a size -/
def RdP (w : World) (n k : Nat) (e : Ending) (w' : World) : Prop := ∃ K : Nat, e = .returned (.tuple #[.int .i64 (K : Int), .int .i64 (n : Int)]) ∧ (0 < n → K = k) ∧ Below w.heap.size w w'
set_option maxHeartbeats 2000000 in
theorem read_any (s : ByteArray) (n k : Nat) (h0 : 0 < s.size) (hn : Hid (rd s.data.toList = (n, k))) (hs : s.size ≤ 1000000) (w : World) :
    Calls Try.prog 19 #[.string s] w (RdP w n k) := by
  obtain ⟨c, l, hL⟩ : ∃ c l, s.data.toList = c :: l := by
    cases h : s.data.toList with
    | nil => rw [size_len, h] at h0; exact absurd h0 (by simp)
    | cons c l => exact ⟨c, l, rfl⟩
  obtain ⟨_, hc0⟩ := head_s hL
  obtain ⟨r, hr⟩ : ∃ r, r = c.toNat := ⟨_, rfl⟩
  have hr2 : r < 256 := by rw [hr]; exact c.toNat_lt
  have hr0 : (s[0]'h0).toNat = r := by rw [hc0, hr]
  have fc : IntKind.i32.wrap ((s[0]'h0).toNat : Int) = (r : Int) := by rw [hr0]; simp [IntKind.wrap, IntKind.bits, IntKind.signed]; omega
  obtain ⟨bB, hB⟩ : ∃ b, b = pB r := ⟨_, rfl⟩
  obtain ⟨bL, hLt⟩ : ∃ b, b = pL r := ⟨_, rfl⟩
  obtain ⟨bD, hD⟩ : ∃ b, b = pD r := ⟨_, rfl⟩
  obtain ⟨bM, hM⟩ : ∃ b, b = pM r := ⟨_, rfl⟩
  have cB := fun w => isBlank_any r bB (by omega) (Lib.hid hB) w
  have cL := fun w => isLetter_any r bL (by omega) (Lib.hid hLt) w
  have cD := fun w => isDigit_any r bD (by omega) (Lib.hid hD) w
  have cM := fun w => isMark_any r bM (by omega) (Lib.hid hM) w
  have qB : blk c = bB := by rw [hB, hr]; rfl
  have qL : ltr c = bL := by rw [hLt, hr]; rfl
  have qD : dgt c = bD := by rw [hD, hr]; rfl
  have qM : mrk c = bM := by rw [hM, hr]; rfl
  rw [hL] at hn
  have hr35 : ((r : Int) == 35) = (r == 35) := by
    cases h : r == 35 with
    | true => rw [beq_iff_eq] at h ⊢; omega
    | false => rw [beq_eq_false_iff_ne] at h ⊢; omega
  cases bB with
  | true =>
    rw [rd_blk qB] at hn
    obtain ⟨e1, rfl⟩ := Prod.mk.inj hn.out
    have cs := fun w => span_any 30 ent_B pB false isBlank_any top_B s n hs (Lib.hid (by rw [hL]; exact e1.symm)) w
    clear hn e1 hr35 hB hLt hD hM qB qL qD qM hL hc0 hr0 hr
    go_enter Try.func19, Try.ntmps19
    go_wp2_with (first
      | (go_at_call 30; (refine (cB _).mono ?_); rintro e w' ⟨rfl, rfl⟩)
      | (go_at_call 31; (refine (cs _).mono ?_); rintro e w1 ⟨rfl, b1⟩))
    go_ret2
    exact ⟨0, rfl, fun _ => rfl, b1⟩
  | false =>
  cases h35 : r == 35 with
  | true =>
    rw [h35] at hr35
    rw [beq_iff_eq] at h35
    rw [rd_hash (by omega)] at hn
    obtain ⟨e1, rfl⟩ := Prod.mk.inj hn.out
    have cs := fun w => span_any 32 ent_R pR true isRemark_any top_R s n hs (Lib.hid (by rw [hL]; exact e1.symm)) w
    clear hn e1 hB hLt hD hM qB qL qD qM hL hc0 hr0 hr h35
    go_enter Try.func19, Try.ntmps19
    go_wp2_with (first
      | (go_at_call 30; (refine (cB _).mono ?_); rintro e w' ⟨rfl, rfl⟩)
      | (go_at_call 31; (refine (cs _).mono ?_); rintro e w1 ⟨rfl, b1⟩))
    go_ret2
    exact ⟨0, rfl, fun _ => rfl, b1⟩
  | false =>
  rw [h35] at hr35
  rw [beq_eq_false_iff_ne] at h35
  rw [rd_tl qB (by omega)] at hn
  cases bL with
  | true =>
    rw [tl_word qL] at hn
    obtain ⟨e1, rfl⟩ := Prod.mk.inj hn.out
    have hw : wch c = true := by unfold wch; rw [qL]; rfl
    have cs := fun w => span_any 34 ent_W pW false isWord_any top_W s n hs (Lib.hid (by
      rw [hL, ← e1]
      exact (rn_cons hw).symm)) w
    clear hn e1 hB hLt hD hM qB qL qD qM hL hc0 hr0 hr h35 hw
    go_enter Try.func19, Try.ntmps19
    go_wp2_with (first
      | (go_at_call 30; (refine (cB _).mono ?_); rintro e w' ⟨rfl, rfl⟩)
      | (go_at_call 33; (refine (cL _).mono ?_); rintro e w' ⟨rfl, rfl⟩)
      | (go_at_call 31; (refine (cs _).mono ?_); rintro e w1 ⟨rfl, b1⟩))
    go_ret2
    exact ⟨1, rfl, fun _ => rfl, b1⟩
  | false =>
  cases bD with
  | true =>
    have cn := fun w => number_any s c l hL qD n k hn hs w
    have hk : 0 < n → (2 : Nat) = k := fun hp => by
      have h := hn.out
      by_cases h2 : rn dgt l + 1 ≤ 18 ∧ (c.toNat ≠ 48 ∨ rn dgt l = 0)
      · rw [tl_num qD h2] at h
        exact (Prod.mk.inj h).2
      · rw [tl_long qD h2] at h
        have := (Prod.mk.inj h).1
        omega
    clear hn hB hLt hD hM qB qL qD qM hL hc0 hr0 hr h35
    go_enter Try.func19, Try.ntmps19
    go_wp2_with (first
      | (go_at_call 30; (refine (cB _).mono ?_); rintro e w' ⟨rfl, rfl⟩)
      | (go_at_call 33; (refine (cL _).mono ?_); rintro e w' ⟨rfl, rfl⟩)
      | (go_at_call 35; (refine (cD _).mono ?_); rintro e w' ⟨rfl, rfl⟩)
      | (go_at_call 36; (refine (cn _).mono ?_); rintro e w1 ⟨rfl, b1⟩))
    go_ret2
    exact ⟨2, rfl, hk, b1⟩
  | false =>
  cases bM with
  | true =>
    rw [tl_mark qM] at hn
    obtain ⟨rfl, rfl⟩ := Prod.mk.inj hn.out
    clear hn hB hLt hD hM qB qL qD qM hL hc0 hr0 hr h35
    go_enter Try.func19, Try.ntmps19
    go_wp2_with (first
      | (go_at_call 30; (refine (cB _).mono ?_); rintro e w' ⟨rfl, rfl⟩)
      | (go_at_call 33; (refine (cL _).mono ?_); rintro e w' ⟨rfl, rfl⟩)
      | (go_at_call 35; (refine (cD _).mono ?_); rintro e w' ⟨rfl, rfl⟩)
      | (go_at_call 37; (refine (cM _).mono ?_); rintro e w' ⟨rfl, rfl⟩))
    go_ret2
    exact ⟨3, rfl, fun _ => rfl, Below.refl _ _⟩
  | false =>
    rw [tl_none qM qL qD] at hn
    obtain ⟨rfl, rfl⟩ := Prod.mk.inj hn.out
    clear hn hB hLt hD hM qB qL qD qM hL hc0 hr0 hr h35
    go_enter Try.func19, Try.ntmps19
    go_wp2_with (first
      | (go_at_call 30; (refine (cB _).mono ?_); rintro e w' ⟨rfl, rfl⟩)
      | (go_at_call 33; (refine (cL _).mono ?_); rintro e w' ⟨rfl, rfl⟩)
      | (go_at_call 35; (refine (cD _).mono ?_); rintro e w' ⟨rfl, rfl⟩)
      | (go_at_call 37; (refine (cM _).mono ?_); rintro e w' ⟨rfl, rfl⟩))
    go_ret2
    exact ⟨0, rfl, fun h => absurd h (by omega), Below.refl _ _⟩
end Go.Proofs.Ytgmnoghmkbbheaa.lxG

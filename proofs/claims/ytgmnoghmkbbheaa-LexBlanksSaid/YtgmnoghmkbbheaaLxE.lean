/-
  Plain mathematics for the program's Scan: runs of blanks and remarks one after the other, what begins at a place (rd), a step of the loop, lines of a piece.
-/
import Derived.Test.YtgmnoghmkbbheaaLxC
import Derived.Lib.LastIndexByte
import Derived.Lib.Bytealg
namespace Go.Proofs.Ytgmnoghmkbbheaa.lxE
open Go.Proofs.Ytgmnoghmkbbheaa.lxM Go.Proofs.Ytgmnoghmkbbheaa.lxN Go.Proofs.Ytgmnoghmkbbheaa.lxA Go.Proofs.Ytgmnoghmkbbheaa.lxC
set_option linter.unusedVariables false

/-! ### kinds of characters -/
def pB (r : Nat) : Bool := r == 32 || r == 9 || r == 13 || r == 10
def pR (r : Nat) : Bool := r != 10
def pL (r : Nat) : Bool := decide (97 ≤ r) && decide (r ≤ 122)
def pD (r : Nat) : Bool := decide (48 ≤ r) && decide (r ≤ 57)
def pM (r : Nat) : Bool := r == 123 || r == 125 || r == 59 || r == 58
def pW (r : Nat) : Bool := pL r || pD r || r == 45
/-- the bytes of a kind -/
def by_ (P : Nat → Bool) (c : UInt8) : Bool := P c.toNat
theorem by_B : by_ pB = blk := rfl
theorem by_L : by_ pL = ltr := rfl
theorem by_D : by_ pD = dgt := rfl
theorem by_M : by_ pM = mrk := rfl
theorem by_W : by_ pW = wch := rfl
/-- all characters from 128 on are of one kind -/
def Top (P : Nat → Bool) (q : Bool) : Prop := ∀ r, 128 ≤ r → P r = q
theorem top_B : Top pB false := fun r h => by
  unfold pB
  rw [beq_eq_false_iff_ne.2 (by omega), beq_eq_false_iff_ne.2 (by omega), beq_eq_false_iff_ne.2 (by omega), beq_eq_false_iff_ne.2 (by omega)]
  rfl
theorem top_R : Top pR true := fun r h => by
  unfold pR
  rw [bne_iff_ne]; omega
theorem top_L : Top pL false := fun r h => by
  unfold pL
  rw [decide_eq_false (p := r ≤ 122) (by omega), Bool.and_false]
theorem top_D : Top pD false := fun r h => by
  unfold pD
  rw [decide_eq_false (p := r ≤ 57) (by omega), Bool.and_false]
theorem top_W : Top pW false := fun r h => by
  unfold pW
  rw [top_L r h, top_D r h, beq_eq_false_iff_ne.2 (by omega)]
  rfl

/-! ### runs -/
theorem rn_cons {p : UInt8 → Bool} {c : UInt8} {l : By} (h : p c = true) : rn p (c :: l) = rn p l + 1 := by rw [rn, if_pos h]
theorem rn_stop {p : UInt8 → Bool} {c : UInt8} {l : By} (h : p c = false) : rn p (c :: l) = 0 := by rw [rn, if_neg (by simp [h])]
theorem sk_blanks : ∀ l : By, sk false l = rn blk l + sk false (l.drop (rn blk l))
  | [] => rfl
  | c :: l => by
    cases h : blk c with
    | true =>
      have ih := sk_blanks l
      rw [rn_cons h, sk_blk h, List.drop_succ_cons]
      omega
    | false => rw [rn_stop h, Nat.zero_add, List.drop_zero]
theorem sk_remark : ∀ l : By, sk true l = rn (by_ pR) l + sk false (l.drop (rn (by_ pR) l))
  | [] => rfl
  | c :: l => by
    by_cases h : c.toNat = 10
    · have hp : by_ pR c = false := by unfold by_ pR; rw [bne_eq_false_iff_eq]; exact h
      have hb : blk c = true := blk_iff.2 (.inr (.inr (.inr h)))
      rw [rn_stop hp, Nat.zero_add, List.drop_zero, sk_blk hb, sk, if_pos (by simp), show (c.toNat != 10) = false from bne_eq_false_iff_eq.2 h]
      rfl
    · have hp : by_ pR c = true := by unfold by_ pR; rw [bne_iff_ne]; exact h
      have ih := sk_remark l
      rw [rn_cons hp, List.drop_succ_cons, sk, if_pos (by simp), show (c.toNat != 10) = true from bne_iff_ne.2 h, Bool.true_or, Bool.true_and]
      omega
theorem sk_hash {c : UInt8} {l : By} (h : c.toNat = 35) : sk false (c :: l) = rn (by_ pR) (c :: l) + sk false ((c :: l).drop (rn (by_ pR) (c :: l))) := by
  have hp : by_ pR c = true := by unfold by_ pR; rw [bne_iff_ne]; omega
  have ih := sk_remark l
  rw [rn_cons hp, List.drop_succ_cons, sk, if_pos (by simp [h]), show (c.toNat != 10) = true from bne_iff_ne.2 (by omega), show (c.toNat == 35) = true from beq_iff_eq.2 h, Bool.or_true, Bool.true_and]
  omega
/-- what begins a text: how many bytes, and which kind; kind 0: they are skipped; no bytes: nothing begins -/
def rd : By → Nat × Nat
  | [] => (0, 0)
  | c :: l => if blk c = true then (rn blk (c :: l), 0) else if c.toNat = 35 then (rn (by_ pR) (c :: l), 0) else tl (c :: l)
theorem rd_blk {c : UInt8} {l : By} (h : blk c = true) : rd (c :: l) = (rn blk (c :: l), 0) := by rw [rd, if_pos h]
theorem rd_hash {c : UInt8} {l : By} (h : c.toNat = 35) : rd (c :: l) = (rn (by_ pR) (c :: l), 0) := by
  have hb : ¬ blk c = true := by rw [blk_iff]; omega
  rw [rd, if_neg hb, if_pos h]
theorem rd_tl {c : UInt8} {l : By} (h : blk c = false) (h2 : c.toNat ≠ 35) : rd (c :: l) = tl (c :: l) := by
  rw [rd, if_neg (by simp [h]), if_neg h2]
/-- a step -/
theorem step {L : By} {p : Nat} {pre X : List Tk} {E o n k : Nat} (h : Out L (p + sk false (L.drop p)) pre X E o) (hp : p < L.length) (hr : rd (L.drop p) = (n, k)) :
    (n = 0 ∧ X = [] ∧ E = 1 ∧ o = p) ∨ (0 < n ∧ p + n ≤ L.length ∧ k = 0 ∧ Out L (p + n + sk false (L.drop (p + n))) pre X E o) ∨
    (0 < n ∧ p + n ≤ L.length ∧ k ≠ 0 ∧ Out L (p + n + sk false (L.drop (p + n))) (pre ++ [tk L (p, n, k)]) X E o) := by
  obtain ⟨c, l, hcl⟩ : ∃ c l, L.drop p = c :: l := ⟨_, _, drop_bat hp⟩
  have hlen : L.length = p + (l.length + 1) := by
    have := congrArg List.length hcl
    rw [List.length_drop, List.length_cons] at this
    omega
  have skp : ∀ q : UInt8 → Bool, q c = true → rd (L.drop p) = (rn q (c :: l), 0) → sk false (c :: l) = rn q (c :: l) + sk false ((c :: l).drop (rn q (c :: l))) → n = rn q (c :: l) ∧ k = 0 ∧ 0 < n ∧ p + n ≤ L.length ∧ Out L (p + n + sk false (L.drop (p + n))) pre X E o := fun q hq h1 h2 => by
    rw [hr] at h1
    obtain ⟨rfl, rfl⟩ := Prod.mk.inj h1
    have hle := rn_le q (c :: l)
    rw [List.length_cons] at hle
    refine ⟨rfl, rfl, by rw [rn_cons hq]; omega, by omega, ?_⟩
    rw [← List.drop_drop, hcl]
    rw [hcl, h2] at h
    rw [Nat.add_assoc]
    exact h
  cases hb : blk c with
  | true =>
    obtain ⟨_, h1, h2, h3, h4⟩ := skp blk hb (by rw [hcl]; exact rd_blk hb) (sk_blanks _)
    exact .inr (.inl ⟨h2, h3, h1, h4⟩)
  | false =>
    by_cases hh : c.toNat = 35
    · have hp2 : by_ pR c = true := by unfold by_ pR; rw [bne_iff_ne]; omega
      obtain ⟨_, h1, h2, h3, h4⟩ := skp (by_ pR) hp2 (by rw [hcl]; exact rd_hash hh) (sk_hash hh)
      exact .inr (.inl ⟨h2, h3, h1, h4⟩)
    · have hgo : sk false (L.drop p) = 0 := by rw [hcl]; exact go_cons hb hh
      rw [hgo, Nat.add_zero] at h
      rw [hcl, rd_tl hb hh, ← hcl] at hr
      have h3 := tl_le (L.drop p)
      rw [hr] at h3
      simp only at h3
      rcases out_step h hp hr with ⟨rfl, rfl, rfl, rfl⟩ | ⟨hk, hnew⟩
      · refine .inl ⟨?_, rfl, rfl, rfl⟩
        rw [hcl] at hr
        cases h1 : mrk c with
        | true => rw [tl_mark h1] at hr; cases hr
        | false =>
          cases h2 : ltr c with
          | true => rw [tl_word h2] at hr; cases hr
          | false =>
            cases h4 : dgt c with
            | false => rw [tl_none h1 h2 h4] at hr; exact (Prod.mk.inj hr).1.symm
            | true =>
              by_cases hc : rn dgt l + 1 ≤ 18 ∧ (c.toNat ≠ 48 ∨ rn dgt l = 0)
              · rw [tl_num h4 hc] at hr; cases hr
              · rw [tl_long h4 hc] at hr; exact (Prod.mk.inj hr).1.symm
      · have hn := (h3.2.1 hk).1
        have hl := h3.1
        rw [List.length_drop] at hl
        exact .inr (.inr ⟨hn, by omega, hk, hnew⟩)

/-! ### lines of a piece -/
theorem ls_none (T : By) : ∀ n, ls T n = 0 → ln T n = 1
  | 0, _ => rfl
  | n + 1, h => by
    rw [ls] at h
    rw [ln]
    split at h
    · omega
    · rename_i hc
      rw [if_neg hc]
      exact ls_none T n h
theorem ln_count (T : By) : ∀ n, n ≤ T.length → ln T n = 1 + (T.take n).count 10
  | 0, _ => by rw [List.take_zero]; rfl
  | n + 1, h => by
    have ih := ln_count T n (by omega)
    rw [ln, List.take_succ_eq_append_getElem (by omega), List.count_append, ih, ← bat_get (by omega)]
    by_cases hc : (bat T n).toNat = 10
    · have e : bat T n = 10 := UInt8.toNat_inj.1 hc
      rw [if_pos hc, e]; simp; omega
    · have e : bat T n ≠ 10 := fun e => hc (by rw [e]; rfl)
      rw [if_neg hc, List.count_singleton, if_neg (by simpa using e), Nat.add_zero]
theorem ln_all (T : By) : ln T T.length = 1 + Lib.countByte T 10 := by
  rw [ln_count T T.length (Nat.le_refl _), List.take_length]; rfl
theorem last_ls (s : ByteArray) : ∀ k, k ≤ s.size → Lib.lastIdx s 10 k + 1 = (ls s.data.toList k : Int)
  | 0, _ => rfl
  | k + 1, h => by
    have ih := last_ls s k (by omega)
    have e : s.data[k]! = bat s.data.toList k := by
      have hk : k < s.data.toList.length := by rw [← size_len]; exact h
      rw [bat_get hk]
      have hk' : k < s.data.size := h
      rw [getElem!_pos s.data k hk']
      simp
    rw [Lib.lastIdx, ls, e]
    by_cases hc : (bat s.data.toList k).toNat = 10
    · rw [if_pos (by omega), if_pos hc]; rfl
    · rw [if_neg (by omega), if_neg hc]; exact ih
theorem last_all (s : ByteArray) : Lib.lastIndexByte s 10 + 1 = (ls s.data.toList s.size : Int) := last_ls s s.size (Nat.le_refl _)
/-- line and column behind a piece -/
theorem behind_pos {L : By} {p n x y X Y : Nat} (hx : x = ln L p) (hy : y + ls L p = p + 1) (hX : X = ln L (p + n)) (hY : Y + ls L (p + n) = p + n + 1) {T : By} (hT : T = (L.drop p).take n) (hn : T.length = n) :
    (ls T n = 0 ∧ X = x ∧ Y = y + n) ∨ (0 < ls T n ∧ X = x + Lib.countByte T 10 ∧ Y + ls T n = n + 1) := by
  obtain ⟨q1, q2, q3⟩ := ln_part (L := L) (b := p) (d := n) n (Nat.le_refl _)
  rw [← hT] at q1 q2 q3
  have hc := ln_all T
  rw [hn] at hc
  by_cases h0 : ls T n = 0
  · have h1 := ls_none T n h0
    have h2 := (q2 h1).1
    exact .inl ⟨h0, by omega, by omega⟩
  · have h1 : 1 < ln T n := by
      have := ln_pos T n
      rcases Nat.lt_or_ge 1 (ln T n) with h | h
      · exact h
      · have := (q2 (by omega)).2; omega
    have h2 := q3 h1
    exact .inr ⟨by omega, by omega, by omega⟩
end Go.Proofs.Ytgmnoghmkbbheaa.lxE

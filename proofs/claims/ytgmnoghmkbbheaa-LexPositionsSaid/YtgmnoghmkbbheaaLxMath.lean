/-
  Plain mathematics of tokens: what begins at a place, what is skipped, which tokens a text has (Sx), where it is refused (Ex), lines and columns, joined texts; what a text before, behind changes.
-/
import Derived.Test.YtgmnoghmkbbheaaChecked
namespace Go.Proofs.Ytgmnoghmkbbheaa.lxM
set_option linter.unusedVariables false

abbrev By := List UInt8
def blk (c : UInt8) : Bool := c.toNat == 32 || c.toNat == 9 || c.toNat == 13 || c.toNat == 10
def ltr (c : UInt8) : Bool := decide (97 ≤ c.toNat) && decide (c.toNat ≤ 122)
def dgt (c : UInt8) : Bool := decide (48 ≤ c.toNat) && decide (c.toNat ≤ 57)
def mrk (c : UInt8) : Bool := c.toNat == 123 || c.toNat == 125 || c.toNat == 59 || c.toNat == 58
def wch (c : UInt8) : Bool := ltr c || dgt c || c.toNat == 45
theorem ltr_iff {c : UInt8} : ltr c = true ↔ 97 ≤ c.toNat ∧ c.toNat ≤ 122 := by simp [ltr]
theorem dgt_iff {c : UInt8} : dgt c = true ↔ 48 ≤ c.toNat ∧ c.toNat ≤ 57 := by simp [dgt]
theorem mrk_iff {c : UInt8} : mrk c = true ↔ c.toNat = 123 ∨ c.toNat = 125 ∨ c.toNat = 59 ∨ c.toNat = 58 := by simp [mrk, or_assoc]
theorem blk_iff {c : UInt8} : blk c = true ↔ c.toNat = 32 ∨ c.toNat = 9 ∨ c.toNat = 13 ∨ c.toNat = 10 := by simp [blk, or_assoc]
theorem wch_iff {c : UInt8} : wch c = true ↔ (97 ≤ c.toNat ∧ c.toNat ≤ 122) ∨ (48 ≤ c.toNat ∧ c.toNat ≤ 57) ∨ c.toNat = 45 := by simp [wch, ltr, dgt, or_assoc]
theorem dgt_wch {c : UInt8} (h : dgt c = true) : wch c = true := by rw [wch_iff]; exact .inr (.inl (dgt_iff.1 h))

/-! ### what is skipped -/
/-- how many bytes are skipped; r: within a remark -/
def sk : Bool → By → Nat
  | _, [] => 0
  | r, c :: l => if (r || blk c || c.toNat == 35) = true then sk (c.toNat != 10 && (r || c.toNat == 35)) l + 1 else 0
theorem sk_le : ∀ (r : Bool) (l : By), sk r l ≤ l.length
  | _, [] => Nat.le_refl _
  | r, c :: l => by
    rw [sk]
    split
    · have := sk_le (c.toNat != 10 && (r || c.toNat == 35)) l
      rw [List.length_cons]; omega
    · exact Nat.zero_le _
theorem sk_blk {c : UInt8} {l : By} (h : blk c = true) : sk false (c :: l) = sk false l + 1 := by
  have h2 := blk_iff.1 h
  have e : (c.toNat == 35) = false := by rw [beq_eq_false_iff_ne]; omega
  rw [sk, if_pos (by simp [h]), e]
  simp
/-- where a token could begin nothing is skipped -/
def go (l : By) : Prop := sk false l = 0
theorem go_nil : go [] := rfl
theorem go_cons {c : UInt8} {l : By} (h : blk c = false) (h2 : c.toNat ≠ 35) : go (c :: l) := by
  unfold go
  rw [sk, if_neg (by simp [h, h2])]
theorem sk_drop : ∀ (r : Bool) (l : By), go (l.drop (sk r l))
  | _, [] => rfl
  | r, c :: l => by
    rw [sk]
    split
    · rw [List.drop_succ_cons]; exact sk_drop _ l
    · rename_i h
      have h' : (blk c = false ∧ ¬ c.toNat = 35) := by
        cases r <;> simp_all
      rw [List.drop_zero]
      exact go_cons h'.1 h'.2

/-! ### what begins -/
/-- how many of the first bytes are of a kind -/
def rn (p : UInt8 → Bool) : By → Nat
  | [] => 0
  | c :: l => if p c = true then rn p l + 1 else 0
theorem rn_le (p : UInt8 → Bool) : ∀ l, rn p l ≤ l.length
  | [] => Nat.le_refl _
  | c :: l => by
    rw [rn]
    have := rn_le p l
    split
    · rw [List.length_cons]; omega
    · exact Nat.zero_le _
theorem rn_app {p : UInt8 → Bool} {u : By} (hu : ∀ c r, u = c :: r → p c = false) : ∀ l, rn p (l ++ u) = rn p l
  | [] => by
    rw [List.nil_append]
    cases u with
    | nil => rfl
    | cons c r =>
      have h := hu c r rfl
      simp [rn, h]
  | c :: l => by
    rw [List.cons_append, rn, rn, rn_app hu l]
theorem rn_all {p : UInt8 → Bool} : ∀ {l : By}, (∀ c ∈ l, p c = true) → rn p l = l.length
  | [], _ => rfl
  | c :: l, h => by
    rw [rn, if_pos (h c List.mem_cons_self), rn_all fun d hd => h d (List.mem_cons_of_mem _ hd)]; rfl
theorem rn_take {p : UInt8 → Bool} : ∀ (l : By), ∀ c ∈ l.take (rn p l), p c = true
  | [], c, h => by simp [rn] at h
  | d :: l, c, h => by
    rw [rn] at h
    split at h
    · rename_i hd
      rw [List.take_succ_cons] at h
      rcases List.mem_cons.1 h with rfl | h
      · exact hd
      · exact rn_take l c h
    · simp at h
/-- length and kind of the token that begins a text; kind 0: none does -/
def tl : By → Nat × Nat
  | [] => (0, 0)
  | c :: l => if mrk c = true then (1, 3) else if ltr c = true then (rn wch l + 1, 1) else if dgt c = true then (if rn dgt l + 1 ≤ 18 ∧ (c.toNat ≠ 48 ∨ rn dgt l = 0) then (rn dgt l + 1, 2) else (0, 0)) else (0, 0)
theorem tl_mark {c : UInt8} {l : By} (h : mrk c = true) : tl (c :: l) = (1, 3) := by rw [tl, if_pos h]
theorem mrk_no {c : UInt8} (h : mrk c = true) : ltr c = false ∧ dgt c = false := by
  have := mrk_iff.1 h
  constructor
  · rw [← Bool.not_eq_true, ltr_iff]; omega
  · rw [← Bool.not_eq_true, dgt_iff]; omega
theorem ltr_no {c : UInt8} (h : ltr c = true) : mrk c = false ∧ dgt c = false := by
  have := ltr_iff.1 h
  constructor
  · rw [← Bool.not_eq_true, mrk_iff]; omega
  · rw [← Bool.not_eq_true, dgt_iff]; omega
theorem dgt_no {c : UInt8} (h : dgt c = true) : mrk c = false ∧ ltr c = false := by
  have := dgt_iff.1 h
  constructor
  · rw [← Bool.not_eq_true, mrk_iff]; omega
  · rw [← Bool.not_eq_true, ltr_iff]; omega
theorem tl_word {c : UInt8} {l : By} (h : ltr c = true) : tl (c :: l) = (rn wch l + 1, 1) := by rw [tl, if_neg (by simp [(ltr_no h).1]), if_pos h]
theorem tl_num {c : UInt8} {l : By} (h : dgt c = true) (h2 : rn dgt l + 1 ≤ 18 ∧ (c.toNat ≠ 48 ∨ rn dgt l = 0)) : tl (c :: l) = (rn dgt l + 1, 2) := by
  rw [tl, if_neg (by simp [(dgt_no h).1]), if_neg (by simp [(dgt_no h).2]), if_pos h, if_pos h2]
theorem tl_long {c : UInt8} {l : By} (h : dgt c = true) (h2 : ¬ (rn dgt l + 1 ≤ 18 ∧ (c.toNat ≠ 48 ∨ rn dgt l = 0))) : tl (c :: l) = (0, 0) := by
  rw [tl, if_neg (by simp [(dgt_no h).1]), if_neg (by simp [(dgt_no h).2]), if_pos h, if_neg h2]
theorem tl_none {c : UInt8} {l : By} (h1 : mrk c = false) (h2 : ltr c = false) (h3 : dgt c = false) : tl (c :: l) = (0, 0) := by
  rw [tl, if_neg (by simp [h1]), if_neg (by simp [h2]), if_neg (by simp [h3])]
theorem tl_le : ∀ l, (tl l).1 ≤ l.length ∧ ((tl l).2 ≠ 0 → 0 < (tl l).1 ∧ l ≠ []) ∧ (tl l).2 ≤ 3
  | [] => ⟨Nat.le_refl _, fun h => absurd rfl h, Nat.zero_le _⟩
  | c :: l => by
    have h1 := rn_le wch l
    have h2 := rn_le dgt l
    rw [tl]
    split
    · exact ⟨by simp, fun _ => ⟨by simp, by simp⟩, by simp⟩
    split
    · exact ⟨by simp; exact h1, fun _ => ⟨by simp, by simp⟩, by simp⟩
    split
    · split
      · exact ⟨by simp; exact h2, fun _ => ⟨by simp, by simp⟩, by simp⟩
      · exact ⟨by simp, fun h => absurd rfl h, by simp⟩
    · exact ⟨by simp, fun h => absurd rfl h, by simp⟩
/-- a text behind that begins with no byte of a word changes no token -/
theorem tl_app {u : By} (hu : ∀ c r, u = c :: r → wch c = false) : ∀ {l : By}, l ≠ [] → tl (l ++ u) = tl l
  | [], h => absurd rfl h
  | c :: l, _ => by
    have e1 := rn_app hu l
    have e2 := rn_app (p := dgt) (u := u) (fun c r e => by
      have h := hu c r e
      cases hd : dgt c with
      | false => rfl
      | true => rw [dgt_wch hd] at h; cases h) l
    rw [List.cons_append, tl, tl, e1, e2]
/-- where a token begins nothing is skipped -/
theorem tl_go {l : By} (h : (tl l).2 ≠ 0) : go l := by
  cases l with
  | nil => rfl
  | cons c l =>
    have hc : mrk c = true ∨ ltr c = true ∨ dgt c = true := by
      cases h1 : mrk c with
      | true => exact .inl rfl
      | false =>
        cases h2 : ltr c with
        | true => exact .inr (.inl rfl)
        | false =>
          cases h3 : dgt c with
          | true => exact .inr (.inr rfl)
          | false => rw [tl_none h1 h2 h3] at h; exact absurd rfl h
    have hn : c.toNat ≠ 35 ∧ ¬ (c.toNat = 32 ∨ c.toNat = 9 ∨ c.toNat = 13 ∨ c.toNat = 10) := by
      rcases hc with h | h | h
      · have := mrk_iff.1 h; omega
      · have := ltr_iff.1 h; omega
      · have := dgt_iff.1 h; omega
    exact go_cons (by rw [← Bool.not_eq_true, blk_iff]; exact hn.2) hn.1

/-! ### the tokens of a text -/
/-- a token: its offset, length, kind -/
abbrev T3 := Nat × Nat × Nat
/-- from the place at on the text L has just these tokens -/
inductive Sx (L : By) : Nat → List T3 → Prop
  | fin : Sx L L.length []
  | tok {a n k ts} : a < L.length → tl (L.drop a) = (n, k) → k ≠ 0 → Sx L (a + n + sk false (L.drop (a + n))) ts → Sx L a ((a, n, k) :: ts)
/-- from the place at on the text L is refused at o -/
inductive Ex (L : By) : Nat → Nat → Prop
  | here {a} : a < L.length → (tl (L.drop a)).2 = 0 → Ex L a a
  | there {a n k o} : a < L.length → tl (L.drop a) = (n, k) → k ≠ 0 → Ex L (a + n + sk false (L.drop (a + n))) o → Ex L a o
theorem next_le {L : By} {a n k : Nat} (ha : a < L.length) (ht : tl (L.drop a) = (n, k)) (hk : k ≠ 0) : a < a + n + sk false (L.drop (a + n)) ∧ a + n + sk false (L.drop (a + n)) ≤ L.length ∧ 0 < n ∧ a + n ≤ L.length := by
  have h := tl_le (L.drop a)
  rw [ht, List.length_drop] at h
  obtain ⟨h1, h2, _⟩ := h
  have h3 := (h2 hk).1
  have h4 := sk_le false (L.drop (a + n))
  rw [List.length_drop] at h4
  simp only at h1 h3
  omega
theorem sx_or (L : By) : ∀ (d a : Nat), a ≤ L.length → L.length - a ≤ d → (∃ ts, Sx L a ts) ∨ ∃ o, Ex L a o
  | 0, a, h, hd => by
    obtain rfl : a = L.length := by omega
    exact .inl ⟨[], .fin⟩
  | d + 1, a, h, hd => by
    by_cases e : a = L.length
    · subst e; exact .inl ⟨[], .fin⟩
    · have ha : a < L.length := by omega
      cases ht : tl (L.drop a) with
      | mk n k =>
        by_cases hk : k = 0
        · exact .inr ⟨a, .here ha (by rw [ht]; exact hk)⟩
        · have hn := next_le ha ht hk
          rcases sx_or L d (a + n + sk false (L.drop (a + n))) hn.2.1 (by omega) with ⟨ts, h⟩ | ⟨o, h⟩
          · exact .inl ⟨_, .tok ha ht hk h⟩
          · exact .inr ⟨o, .there ha ht hk h⟩
theorem sx_any (L : By) : (∃ ts, Sx L (sk false L) ts) ∨ ∃ o, Ex L (sk false L) o := sx_or L L.length _ (sk_le false L) (by omega)
theorem sx_le {L : By} {a : Nat} {ts : List T3} (h : Sx L a ts) : a ≤ L.length := by
  cases h with
  | fin => exact Nat.le_refl _
  | tok ha _ _ _ => exact Nat.le_of_lt ha
theorem sx_inv {L : By} {a : Nat} {ts : List T3} (h : Sx L a ts) (ha : a < L.length) : ∃ n k ts', ts = (a, n, k) :: ts' ∧ tl (L.drop a) = (n, k) ∧ k ≠ 0 ∧ Sx L (a + n + sk false (L.drop (a + n))) ts' := by
  cases h with
  | fin => omega
  | tok _ ht hk hs => exact ⟨_, _, _, rfl, ht, hk, hs⟩
theorem sx_end {L : By} {ts : List T3} (h : Sx L L.length ts) : ts = [] := by
  cases h with
  | fin => rfl
  | tok ha _ _ _ => omega
theorem ex_lt {L : By} {a o : Nat} (h : Ex L a o) : a < L.length := by
  cases h with
  | here ha _ => exact ha
  | there ha _ _ _ => exact ha
theorem ex_in {L : By} {a o : Nat} (h : Ex L a o) : a ≤ o ∧ o < L.length := by
  induction h with
  | here ha _ => exact ⟨Nat.le_refl _, ha⟩
  | there ha ht hk _ ih =>
    have := next_le ha ht hk
    exact ⟨by omega, ih.2⟩
/-- tokens lie one behind another within the text, and each is the token that begins there -/
def In (L : By) : Nat → List T3 → Prop
  | _, [] => True
  | a, (o, n, k) :: ts => a ≤ o ∧ 0 < n ∧ o + n ≤ L.length ∧ tl (L.drop o) = (n, k) ∧ k ≠ 0 ∧ In L (o + n) ts
theorem in_up {L : By} {a b : Nat} (hb : b ≤ a) : ∀ {ts : List T3}, In L a ts → In L b ts
  | [], _ => trivial
  | (o, n, k) :: ts, h => ⟨Nat.le_trans hb h.1, h.2⟩
theorem sx_in {L : By} {a : Nat} {ts : List T3} (h : Sx L a ts) : In L a ts := by
  induction h with
  | fin => trivial
  | tok ha ht hk _ ih =>
    have hn := next_le ha ht hk
    exact ⟨Nat.le_refl _, hn.2.2.1, hn.2.2.2, ht, hk, in_up (by omega) ih⟩
/-- kinds and texts -/
def kt (L : By) (t : T3) : Int × By := ((t.2.2 : Int), (L.drop t.1).take t.2.1)
def al (L : By) (ts : List T3) : List (Int × By) := ts.map (kt L)

/-! ### a text before -/
theorem drop_pre (P L : By) (a : Nat) : (P ++ L).drop (P.length + a) = L.drop a := by
  rw [List.drop_append, List.drop_eq_nil_of_le (by omega), List.nil_append]
  congr 1; omega
def sh (d : Nat) (t : T3) : T3 := (d + t.1, t.2)
theorem sx_pre (P : By) {L : By} {a : Nat} {ts : List T3} (h : Sx L a ts) : Sx (P ++ L) (P.length + a) (ts.map (sh P.length)) := by
  induction h with
  | fin =>
    have := Sx.fin (L := P ++ L)
    rw [List.length_append] at this
    exact this
  | @tok a n k ts ha ht hk _ ih =>
    refine Sx.tok (a := P.length + a) (n := n) (k := k) (by rw [List.length_append]; omega) (by rw [drop_pre]; exact ht) hk ?_
    rw [show P.length + a + n = P.length + (a + n) by omega, drop_pre, show P.length + (a + n) + sk false (L.drop (a + n)) = P.length + (a + n + sk false (L.drop (a + n))) by omega]
    exact ih
theorem ex_pre (P : By) {L : By} {a o : Nat} (h : Ex L a o) : Ex (P ++ L) (P.length + a) (P.length + o) := by
  induction h with
  | here ha ht => exact Ex.here (by rw [List.length_append]; omega) (by rw [drop_pre]; exact ht)
  | @there a n k o ha ht hk _ ih =>
    refine Ex.there (a := P.length + a) (n := n) (k := k) (by rw [List.length_append]; omega) (by rw [drop_pre]; exact ht) hk ?_
    rw [show P.length + a + n = P.length + (a + n) by omega, drop_pre, show P.length + (a + n) + sk false (L.drop (a + n)) = P.length + (a + n + sk false (L.drop (a + n))) by omega]
    exact ih
theorem al_pre (P L : By) (ts : List T3) : al (P ++ L) (ts.map (sh P.length)) = al L ts := by
  unfold al
  rw [List.map_map]
  apply List.map_congr_left
  intro t _
  show kt (P ++ L) (sh P.length t) = kt L t
  unfold kt sh
  rw [drop_pre]

/-! ### a text behind -/
/-- u behind a text is skipped but for what is left from d on -/
def Bh (u : By) (d : Nat) : Prop := (∀ r l, sk r (l ++ u) = if sk r l = l.length then l.length + d else sk r l) ∧ (∀ c r, u = c :: r → wch c = false) ∧ d ≤ u.length
theorem bh_of {u : By} {d : Nat} (h0 : ∀ r, sk r u = d) (h1 : ∀ c r, u = c :: r → wch c = false) : Bh u d := by
  refine ⟨fun r l => ?_, h1, by rw [← h0 false]; exact sk_le _ _⟩
  induction l generalizing r with
  | nil => rw [List.nil_append, h0]; simp [sk]
  | cons c l ih =>
    rw [List.cons_append, sk, sk]
    by_cases h : (r || blk c || c.toNat == 35) = true
    · rw [if_pos h, if_pos h, ih, List.length_cons]
      split
      · rename_i e; rw [if_pos (by omega)]; omega
      · rename_i e; rw [if_neg (by omega)]
    · rw [if_neg h, if_neg h, if_neg (by simp)]
/-- one blank -/
theorem bh_blk {b : UInt8} (h : blk b = true) : Bh [b] 1 := by
  have h' := blk_iff.1 h
  refine bh_of (fun r => ?_) fun c r e => ?_
  · rw [sk, if_pos (by simp [h]), sk]
  · obtain ⟨rfl, _⟩ := List.cons.inj e
    rw [← Bool.not_eq_true, wch_iff]; omega
/-- a line feed and what comes then -/
theorem bh_lf (t : By) : Bh (10 :: t) (sk false t + 1) := by
  refine bh_of (fun r => ?_) fun c r e => ?_
  · rw [sk, if_pos (by simp [blk])]
    simp
  · obtain ⟨rfl, _⟩ := List.cons.inj e
    decide
section
variable {L u : By} {d : Nat}
def bt (L : By) (d a : Nat) : Nat := if a = L.length then L.length + d else a
theorem bt_sk (hu : Bh u d) : bt L d (sk false L) = sk false (L ++ u) := by
  rw [hu.1]; rfl
theorem bt_next (hu : Bh u d) {a n : Nat} (h : a + n ≤ L.length) : a + n + sk false ((L ++ u).drop (a + n)) = bt L d (a + n + sk false (L.drop (a + n))) := by
  rw [List.drop_append_of_le_length h, hu.1, List.length_drop]
  unfold bt
  by_cases e : sk false (L.drop (a + n)) = L.length - (a + n)
  · rw [if_pos e, if_pos (by omega)]; omega
  · rw [if_neg e, if_neg (by omega)]
theorem tl_bh (hu : Bh u d) {a : Nat} (h : a < L.length) : tl ((L ++ u).drop a) = tl (L.drop a) := by
  rw [List.drop_append_of_le_length (by omega)]
  exact tl_app hu.2.1 (fun e => by
    have := congrArg List.length e
    rw [List.length_drop, List.length_nil] at this; omega)
theorem sx_bh (hu : Bh u d) {us : List T3} (hs : Sx (L ++ u) (L.length + d) us) {a : Nat} {ts : List T3} (h : Sx L a ts) : Sx (L ++ u) (bt L d a) (ts ++ us) := by
  induction h with
  | fin => unfold bt; rw [if_pos rfl]; exact hs
  | @tok a n k ts ha ht hk _ ih =>
    have hn := next_le ha ht hk
    rw [show bt L d a = a by unfold bt; rw [if_neg (by omega)]]
    refine Sx.tok (by rw [List.length_append]; omega) (by rw [tl_bh hu ha]; exact ht) hk ?_
    rw [bt_next hu hn.2.2.2]
    exact ih
theorem ex_bh (hu : Bh u d) {o : Nat} (hs : Ex (L ++ u) (L.length + d) o) {a : Nat} {ts : List T3} (h : Sx L a ts) : Ex (L ++ u) (bt L d a) o := by
  induction h with
  | fin => unfold bt; rw [if_pos rfl]; exact hs
  | @tok a n k ts ha ht hk _ ih =>
    have hn := next_le ha ht hk
    rw [show bt L d a = a by unfold bt; rw [if_neg (by omega)]]
    refine Ex.there (by rw [List.length_append]; omega) (by rw [tl_bh hu ha]; exact ht) hk ?_
    rw [bt_next hu hn.2.2.2]
    exact ih
theorem ex_bh2 (hu : Bh u d) {a o : Nat} (h : Ex L a o) : Ex (L ++ u) (bt L d a) o := by
  induction h with
  | here ha ht =>
    rw [show bt L d _ = _ by unfold bt; rw [if_neg (by omega)]]
    exact Ex.here (by rw [List.length_append]; omega) (by rw [tl_bh hu ha]; exact ht)
  | @there a n k o ha ht hk _ ih =>
    have hn := next_le ha ht hk
    rw [show bt L d a = a by unfold bt; rw [if_neg (by omega)]]
    refine Ex.there (by rw [List.length_append]; omega) (by rw [tl_bh hu ha]; exact ht) hk ?_
    rw [bt_next hu hn.2.2.2]
    exact ih
end
theorem al_bh {L : By} (u : By) : ∀ {ts : List T3} {a : Nat}, In L a ts → al (L ++ u) ts = al L ts
  | [], _, _ => rfl
  | (o, n, k) :: ts, a, h => by
    show kt (L ++ u) (o, n, k) :: al (L ++ u) ts = kt L (o, n, k) :: al L ts
    rw [al_bh u h.2.2.2.2.2]
    have h3 : o + n ≤ L.length := h.2.2.1
    have e : ((L ++ u).drop o).take n = (L.drop o).take n := by
      rw [List.drop_append_of_le_length (by omega), List.take_append_of_le_length (by rw [List.length_drop]; omega)]
    show ((k : Int), ((L ++ u).drop o).take n) :: al L ts = ((k : Int), (L.drop o).take n) :: al L ts
    rw [e]
end Go.Proofs.Ytgmnoghmkbbheaa.lxM

/-
  Plain mathematics of tokens, part two: a joined text has the same tokens; lines and columns; a number between a word and a mark; the tokens as they are returned.
-/
import Derived.Test.YtgmnoghmkbbheaaLxMath
namespace Go.Proofs.Ytgmnoghmkbbheaa.lxN
open Go.Proofs.Ytgmnoghmkbbheaa.lxM
set_option linter.unusedVariables false

/-! ### joined texts -/
/-- behind this token stands a line feed -/
def lf (x : Int × By) : Bool := x.1 == 3 && (x.2 == [123] || x.2 == [125] || x.2 == [59])
def sp (x : Int × By) (last : Bool) : By := if lf x then [10] else if last then [] else [32]
/-- the text of these tokens -/
def jn : List (Int × By) → By
  | [] => []
  | x :: r => x.2 ++ (sp x r.isEmpty ++ jn r)
/-- those before the first of the kind 0 -/
def fore : List (Int × By) → List (Int × By)
  | [] => []
  | x :: r => if x.1 = 0 then [] else x :: fore r
theorem fore_all {xs : List (Int × By)} (h : ∀ x ∈ xs, x.1 ≠ 0) (y : Int × By) (hy : y.1 = 0) (r : List (Int × By)) : fore (xs ++ y :: r) = xs := by
  induction xs with
  | nil => rw [List.nil_append, fore, if_pos hy]
  | cons x xs ih =>
    rw [List.cons_append, fore, if_neg (h x List.mem_cons_self), ih fun z hz => h z (List.mem_cons_of_mem _ hz)]
/-- a token by itself -/
structure Val (x : Int × By) : Prop where
  ne : x.2 ≠ []
  tl : ∀ u : By, (∀ c r, u = c :: r → wch c = false) → ∃ k : Nat, x.1 = (k : Int) ∧ k ≠ 0 ∧ tl (x.2 ++ u) = (x.2.length, k)
theorem val_of {l : By} {n k : Nat} (h : tl l = (n, k)) (hk : k ≠ 0) : Val ((k : Int), l.take n) := by
  cases l with
  | nil => rw [lxM.tl] at h; simp at h; omega
  | cons c l =>
    cases h1 : mrk c with
    | true =>
      rw [tl_mark h1] at h
      obtain ⟨rfl, rfl⟩ := Prod.mk.inj h
      exact ⟨by simp, fun u _ => ⟨3, rfl, by omega, by rw [List.take_succ_cons, List.take_zero, List.cons_append, tl_mark h1]; rfl⟩⟩
    | false =>
      cases h2 : ltr c with
      | true =>
        rw [tl_word h2] at h
        obtain ⟨rfl, rfl⟩ := Prod.mk.inj h
        refine ⟨by simp, fun u hu => ⟨1, rfl, by omega, ?_⟩⟩
        rw [List.take_succ_cons, List.cons_append, tl_word h2, rn_app hu, rn_all (rn_take l)]
        rfl
      | false =>
        cases h3 : dgt c with
        | false => rw [tl_none h1 h2 h3] at h; simp at h; omega
        | true =>
          by_cases hc : rn dgt l + 1 ≤ 18 ∧ (c.toNat ≠ 48 ∨ rn dgt l = 0)
          · rw [tl_num h3 hc] at h
            obtain ⟨rfl, rfl⟩ := Prod.mk.inj h
            have hlen : (l.take (rn dgt l)).length = rn dgt l := by
              rw [List.length_take]
              have := rn_le dgt l
              omega
            have e : ∀ u : By, (∀ c r, u = c :: r → wch c = false) → rn dgt (l.take (rn dgt l) ++ u) = rn dgt l := fun u hu => by
              rw [rn_app (fun c r e => by
                have h := hu c r e
                cases hd : dgt c with
                | false => rfl
                | true => rw [dgt_wch hd] at h; cases h), rn_all (rn_take l), hlen]
            refine ⟨by simp, fun u hu => ⟨2, rfl, by omega, ?_⟩⟩
            rw [List.take_succ_cons, List.cons_append, tl_num h3 (by rw [e u hu]; exact hc), e u hu, List.length_cons, hlen]
          · rw [tl_long h3 hc] at h; simp at h; omega
theorem val_in {L : By} : ∀ {ts : List T3} {a : Nat}, In L a ts → ∀ x ∈ al L ts, Val x
  | [], _, _, x, hx => by simp [al] at hx
  | (o, n, k) :: ts, a, h, x, hx => by
    rcases List.mem_cons.1 hx with rfl | hx
    · exact val_of h.2.2.2.1 h.2.2.2.2.1
    · exact val_in h.2.2.2.2.2 x hx
theorem val_go {x : Int × By} (h : Val x) (u : By) (hu : ∀ c r, u = c :: r → wch c = false) : go (x.2 ++ u) := by
  obtain ⟨k, _, hk, e⟩ := h.tl u hu
  exact tl_go (by rw [e]; exact hk)
theorem sp_head (x : Int × By) {r : List (Int × By)} : ∀ c l, sp x r.isEmpty ++ jn r = c :: l → wch c = false := by
  intro c l h
  unfold sp at h
  split at h
  · obtain ⟨rfl, _⟩ := List.cons.inj h; decide
  · split at h
    · rename_i he
      rw [List.isEmpty_iff.1 he] at h
      cases h
    · obtain ⟨rfl, _⟩ := List.cons.inj h; decide
theorem go_jn {xs : List (Int × By)} (h : ∀ x ∈ xs, Val x) : go (jn xs) := by
  cases xs with
  | nil => rfl
  | cons x r => exact val_go (h x List.mem_cons_self) _ (sp_head x)
theorem sk_sp {x : Int × By} {r : List (Int × By)} (h : go (jn r)) : sk false (sp x r.isEmpty ++ jn r) = (sp x r.isEmpty).length := by
  unfold sp
  split
  · rw [List.cons_append, List.nil_append, sk_blk (by decide), h]; rfl
  · split
    · rename_i he
      rw [List.isEmpty_iff.1 he]; rfl
    · rw [List.cons_append, List.nil_append, sk_blk (by decide), h]; rfl
theorem sx_jn : ∀ {xs : List (Int × By)}, (∀ x ∈ xs, Val x) → ∀ P : By, ∃ ts, Sx (P ++ jn xs) P.length ts ∧ al (P ++ jn xs) ts = xs
  | [], _, P => ⟨[], by
      have := Sx.fin (L := P ++ jn [])
      rw [show P ++ jn [] = P by rw [jn, List.append_nil]] at this ⊢
      exact this, rfl⟩
  | x :: r, h, P => by
    have hr : ∀ y ∈ r, Val y := fun y hy => h y (List.mem_cons_of_mem _ hy)
    have hx := h x List.mem_cons_self
    obtain ⟨k, e1, hk, e2⟩ := hx.tl _ (sp_head x (r := r))
    obtain ⟨ts, h1, h2⟩ := sx_jn hr (P ++ x.2 ++ sp x r.isEmpty)
    have eJ : P ++ x.2 ++ sp x r.isEmpty ++ jn r = P ++ jn (x :: r) := by rw [jn]; simp
    rw [eJ] at h1 h2
    have hd : (P ++ jn (x :: r)).drop P.length = x.2 ++ (sp x r.isEmpty ++ jn r) := by rw [List.drop_left]; rfl
    have hd2 : (P ++ jn (x :: r)).drop (P.length + x.2.length) = sp x r.isEmpty ++ jn r := by
      rw [← List.drop_drop, hd, List.drop_left]
    have hlen : 0 < x.2.length := List.length_pos_iff.2 hx.ne
    refine ⟨(P.length, x.2.length, k) :: ts, Sx.tok ?_ (by rw [hd]; exact e2) hk ?_, ?_⟩
    · rw [List.length_append, jn, List.length_append]; omega
    · rw [hd2, sk_sp (go_jn hr)]
      have e3 : P.length + x.2.length + (sp x r.isEmpty).length = (P ++ x.2 ++ sp x r.isEmpty).length := by simp; omega
      rw [e3]; exact h1
    · show kt (P ++ jn (x :: r)) (P.length, x.2.length, k) :: al (P ++ jn (x :: r)) ts = x :: r
      rw [h2]
      congr 1
      show ((k : Int), ((P ++ jn (x :: r)).drop P.length).take x.2.length) = x
      rw [hd, List.take_left, ← e1]
/-- what is joined has the same tokens -/
theorem sx_join {L : By} {a : Nat} {ts : List T3} (h : Sx L a ts) : ∃ us, Sx (jn (al L ts)) (sk false (jn (al L ts))) us ∧ al (jn (al L ts)) us = al L ts := by
  have hv := val_in (sx_in h)
  obtain ⟨us, h1, h2⟩ := sx_jn hv []
  rw [List.nil_append] at h1 h2
  exact ⟨us, by rw [go_jn hv]; exact h1, h2⟩
theorem jn_len : ∀ xs : List (Int × By), (jn xs).length ≤ (xs.map fun x => x.2.length + 1).sum
  | [] => Nat.le_refl _
  | x :: r => by
    have := jn_len r
    have h : (sp x r.isEmpty).length ≤ 1 := by unfold sp; split <;> simp; split <;> simp
    rw [jn, List.length_append, List.length_append, List.map_cons, List.sum_cons]
    omega

/-! ### lines and columns -/
def bat (l : By) (k : Nat) : UInt8 := l.getD k 0
theorem bat_some {l : By} {k : Nat} (h : k < l.length) : l[k]? = some (bat l k) := by simp [bat, List.getD, h]
theorem bat_get {l : By} {k : Nat} (h : k < l.length) : bat l k = l[k] := by simp [bat, List.getD, h]
theorem drop_bat {l : By} {k : Nat} (h : k < l.length) : l.drop k = bat l k :: l.drop (k + 1) := by
  rw [List.drop_eq_getElem_cons h, bat_get h]
theorem bat_drop (l : By) (a k : Nat) : bat (l.drop a) k = bat l (a + k) := by simp [bat, List.getD]
/-- the line of an offset, and where it begins -/
def ln (L : By) : Nat → Nat
  | 0 => 1
  | o + 1 => if (bat L o).toNat = 10 then ln L o + 1 else ln L o
def ls (L : By) : Nat → Nat
  | 0 => 0
  | o + 1 => if (bat L o).toNat = 10 then o + 1 else ls L o
theorem ls_le (L : By) : ∀ o, ls L o ≤ o
  | 0 => Nat.le_refl _
  | o + 1 => by
    rw [ls]
    have := ls_le L o
    split <;> omega
theorem ln_up (L : By) (a : Nat) : ∀ d, ln L a ≤ ln L (a + d)
  | 0 => Nat.le_refl _
  | d + 1 => by
    have := ln_up L a d
    rw [← Nat.add_assoc, ln]
    split <;> omega
theorem ln_same (L : By) (a : Nat) : ∀ d, ln L a = ln L (a + d) → ls L a = ls L (a + d)
  | 0, _ => rfl
  | d + 1, h => by
    have h1 := ln_up L a d
    rw [← Nat.add_assoc, ln] at h
    rw [← Nat.add_assoc, ls]
    split at h
    · omega
    · rename_i hc
      rw [if_neg hc]
      exact ln_same L a d h
theorem ln_flat (L : By) (a : Nat) : ∀ d, (∀ j, j < d → (bat L (a + j)).toNat ≠ 10) → ln L (a + d) = ln L a ∧ ls L (a + d) = ls L a
  | 0, _ => ⟨rfl, rfl⟩
  | d + 1, h => by
    have ih := ln_flat L a d fun j hj => h j (by omega)
    have hc := h d (by omega)
    rw [← Nat.add_assoc, ln, ls, if_neg hc, if_neg hc]
    exact ih
theorem ln_pos (L : By) : ∀ o, 1 ≤ ln L o
  | 0 => Nat.le_refl _
  | o + 1 => by
    rw [ln]
    have := ln_pos L o
    split <;> omega
theorem ln_le (L : By) : ∀ o, ln L o ≤ o + 1
  | 0 => Nat.le_refl _
  | o + 1 => by
    rw [ln]
    have := ln_le L o
    split <;> omega
/-- no token has a line feed -/
theorem rn_bat {p : UInt8 → Bool} : ∀ {l : By} {j : Nat}, j < rn p l → p (bat l j) = true
  | [], j, h => by simp [rn] at h
  | c :: l, j, h => by
    rw [rn] at h
    split at h
    · rename_i hc
      cases j with
      | zero => exact hc
      | succ j => exact rn_bat (l := l) (j := j) (by omega)
    · omega
theorem wch_lf {c : UInt8} (h : wch c = true) : c.toNat ≠ 10 := by have := wch_iff.1 h; omega
theorem tl_flat {l : By} {n k : Nat} (h : tl l = (n, k)) {j : Nat} (hj : j < n) : (bat l j).toNat ≠ 10 := by
  cases l with
  | nil => rw [lxM.tl] at h; simp at h; omega
  | cons c l =>
    cases h1 : mrk c with
    | true =>
      rw [tl_mark h1] at h
      obtain ⟨rfl, rfl⟩ := Prod.mk.inj h
      obtain rfl : j = 0 := by omega
      have := mrk_iff.1 h1
      show c.toNat ≠ 10
      omega
    | false =>
      cases h2 : ltr c with
      | true =>
        rw [tl_word h2] at h
        obtain ⟨rfl, rfl⟩ := Prod.mk.inj h
        cases j with
        | zero => have := ltr_iff.1 h2; show c.toNat ≠ 10; omega
        | succ j => exact wch_lf (rn_bat (l := l) (j := j) (by omega))
      | false =>
        cases h3 : dgt c with
        | false => rw [tl_none h1 h2 h3] at h; simp at h; omega
        | true =>
          by_cases hc : rn dgt l + 1 ≤ 18 ∧ (c.toNat ≠ 48 ∨ rn dgt l = 0)
          · rw [tl_num h3 hc] at h
            obtain ⟨rfl, rfl⟩ := Prod.mk.inj h
            cases j with
            | zero => have := dgt_iff.1 h3; show c.toNat ≠ 10; omega
            | succ j => exact wch_lf (dgt_wch (rn_bat (l := l) (j := j) (by omega)))
          · rw [tl_long h3 hc] at h; simp at h; omega
theorem tok_flat {L : By} {o n k : Nat} (h : tl (L.drop o) = (n, k)) : ln L (o + n) = ln L o ∧ ls L (o + n) = ls L o :=
  ln_flat L o n fun j hj => by
    have := tl_flat h hj
    rwa [bat_drop] at this

/-! ### the tokens as they are returned -/
structure Tk where
  kind : Int
  line : Int
  col : Int
  text : ByteArray
def cut (L : By) (o n : Nat) : ByteArray := ⟨((L.drop o).take n).toArray⟩
def tk (L : By) (t : T3) : Tk := ⟨(t.2.2 : Int), (ln L t.1 : Int), ((t.1 - ls L t.1 + 1 : Nat) : Int), cut L t.1 t.2.1⟩
def tkE (L : By) : Tk := ⟨0, (ln L L.length : Int), ((L.length - ls L L.length + 1 : Nat) : Int), ⟨#[]⟩⟩
/-- what Scan answers of a text that is accepted -/
def tks (L : By) (ts : List T3) : List Tk := ts.map (tk L) ++ [tkE L]
theorem tks_len (L : By) (ts : List T3) : (tks L ts).length = ts.length + 1 := by simp [tks]
def pr (x : Tk) : Int × By := (x.kind, x.text.data.toList)
theorem pr_tk (L : By) (t : T3) : pr (tk L t) = kt L t := by simp [pr, tk, cut, kt]
theorem pr_tks (L : By) (ts : List T3) : (tks L ts).map pr = al L ts ++ [(0, [])] := by
  unfold tks al
  rw [List.map_append, List.map_map]
  congr 1
theorem in_ne {L : By} : ∀ {ts : List T3} {a : Nat}, In L a ts → ∀ x ∈ al L ts, x.1 ≠ 0
  | [], _, _, x, hx => by simp [al] at hx
  | (o, n, k) :: ts, a, h, x, hx => by
    rcases List.mem_cons.1 hx with rfl | hx
    · have := h.2.2.2.2.1
      show (k : Int) ≠ 0
      omega
    · exact in_ne h.2.2.2.2.2 x hx
theorem fore_tks {L : By} {a : Nat} {ts : List T3} (h : Sx L a ts) : fore ((tks L ts).map pr) = al L ts := by
  rw [pr_tks]
  exact fore_all (in_ne (sx_in h)) _ rfl _
theorem in_len {L : By} : ∀ {ts : List T3} {a : Nat}, In L a ts → a ≤ L.length → ts.length ≤ L.length - a
  | [], _, _, _ => Nat.zero_le _
  | (o, n, k) :: ts, a, h, ha => by
    obtain ⟨h1, h2, h3, _, _, h6⟩ := h
    have := in_len h6 h3
    rw [List.length_cons]; omega
theorem sx_len {L : By} {a : Nat} {ts : List T3} (h : Sx L a ts) : ts.length ≤ L.length := by
  have := in_len (sx_in h) (sx_le h)
  omega

/-! ### a number between a word and a mark -/
theorem num_ok {ds : By} (h0 : ds ≠ []) (hd : ∀ c ∈ ds, dgt c = true) (h1 : ds.length ≤ 18) (h2 : ds.length = 1 ∨ (bat ds 0).toNat ≠ 48) :
    Sx (97 :: 32 :: (ds ++ [59])) (sk false (97 :: 32 :: (ds ++ [59]))) [(0, 1, 1), (2, ds.length, 2), (2 + ds.length, 1, 3)] := by
  cases ds with
  | nil => exact absurd rfl h0
  | cons c r =>
    have hc := hd c List.mem_cons_self
    have hr : rn dgt (r ++ [59]) = r.length := by
      rw [rn_app (fun c r e => by obtain ⟨rfl, _⟩ := List.cons.inj e; decide), rn_all fun d hd' => hd d (List.mem_cons_of_mem _ hd')]
    have t2 : tl (c :: (r ++ [59])) = (r.length + 1, 2) := by
      rw [tl_num hc (by
        rw [hr]
        refine ⟨h1, ?_⟩
        rcases h2 with h | h
        · right; simp at h; rw [h]; rfl
        · left; exact h), hr]
    have g2 : go (c :: (r ++ [59])) := tl_go (by rw [t2]; simp)
    have s0 : sk false (97 :: 32 :: ((c :: r) ++ [59])) = 0 := tl_go (by rw [tl_word (by decide)]; simp)
    rw [s0]
    have hL : (97 :: 32 :: ((c :: r) ++ [59]) : By).length = r.length + 4 := by simp
    refine Sx.tok (by omega) (by rw [List.drop_zero, tl_word (by decide), rn, if_neg (by decide)]) (by omega) ?_
    have e1 : (97 :: 32 :: ((c :: r) ++ [59]) : By).drop (0 + 1) = 32 :: (c :: (r ++ [59])) := rfl
    rw [e1, sk_blk (by decide), g2]
    refine Sx.tok (by omega) (n := r.length + 1) (k := 2) (by exact t2) (by omega) ?_
    have e2 : (97 :: 32 :: ((c :: r) ++ [59]) : By).drop (0 + 1 + (0 + 1) + (r.length + 1)) = [59] := by
      rw [show 0 + 1 + (0 + 1) + (r.length + 1) = (r.length + 1) + 2 by omega, List.drop_succ_cons, List.drop_succ_cons, show r.length + 1 = (c :: r).length by rfl, List.drop_left]
    have s2 : sk false ([59] : By) = 0 := by decide
    rw [e2, s2]
    refine Sx.tok (n := 1) (k := 3) (by rw [hL]; omega) (by
      show tl ((97 :: 32 :: ((c :: r) ++ [59]) : By).drop (0 + 1 + (0 + 1) + (r.length + 1))) = (1, 3)
      rw [e2]; decide) (by omega) ?_
    have e3 : (97 :: 32 :: ((c :: r) ++ [59]) : By).drop (0 + 1 + (0 + 1) + (r.length + 1) + 0 + 1) = [] := by
      apply List.drop_eq_nil_of_le
      rw [hL]; omega
    rw [e3, show 0 + 1 + (0 + 1) + (r.length + 1) + 0 + 1 + sk false [] = (97 :: 32 :: ((c :: r) ++ [59]) : By).length by rw [hL, sk]; omega]
    exact Sx.fin
theorem num_no {ds : By} (h0 : ds ≠ []) (hd : ∀ c ∈ ds, dgt c = true) (h : 18 < ds.length ∨ 1 < ds.length ∧ (bat ds 0).toNat = 48) :
    Ex (97 :: 32 :: (ds ++ [59])) (sk false (97 :: 32 :: (ds ++ [59]))) 2 := by
  cases ds with
  | nil => exact absurd rfl h0
  | cons c r =>
    have hc := hd c List.mem_cons_self
    have hr : rn dgt (r ++ [59]) = r.length := by
      rw [rn_app (fun c r e => by obtain ⟨rfl, _⟩ := List.cons.inj e; decide), rn_all fun d hd' => hd d (List.mem_cons_of_mem _ hd')]
    have t2 : tl (c :: (r ++ [59])) = (0, 0) := by
      rw [tl_long hc]
      rw [hr]
      simp only [List.length_cons] at h
      intro hh
      rcases h with h | ⟨h, h'⟩
      · omega
      · rcases hh.2 with hh | hh
        · exact hh h'
        · omega
    have g2 : go (c :: (r ++ [59])) := by
      have := dgt_iff.1 hc
      exact go_cons (by rw [← Bool.not_eq_true, blk_iff]; omega) (by omega)
    have s0 : sk false (97 :: 32 :: ((c :: r) ++ [59])) = 0 := tl_go (by rw [tl_word (by decide)]; simp)
    rw [s0]
    have hL : (97 :: 32 :: ((c :: r) ++ [59]) : By).length = r.length + 4 := by simp
    refine Ex.there (n := 1) (k := 1) (by omega) (by rw [List.drop_zero, tl_word (by decide), rn, if_neg (by decide)]) (by omega) ?_
    have e1 : (97 :: 32 :: ((c :: r) ++ [59]) : By).drop (0 + 1) = 32 :: (c :: (r ++ [59])) := rfl
    rw [e1, sk_blk (by decide), g2]
    exact Ex.here (by omega) (by
      show (tl (c :: (r ++ [59]))).2 = 0
      rw [t2])
end Go.Proofs.Ytgmnoghmkbbheaa.lxN

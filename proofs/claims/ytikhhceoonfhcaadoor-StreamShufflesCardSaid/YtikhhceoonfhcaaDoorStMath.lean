/-
  Plain mathematics of a stream: states, values, Below, shuffles and samples as functions of the seed and of the number of values made.
-/
import Derived.Test.YtikhhceoonfhcaaDoorDgMath
namespace Go.Proofs.YtikhhceoonfhcaaDoor.stM
open Go.Proofs.YtikhhceoonfhcaaDoor.dgM
set_option linter.unusedVariables false

/-- the state behind k values -/
def sta (a : Nat) : Nat → Nat
  | 0 => a
  | k + 1 => (sta a k + 11400714819323198485) % A64
theorem sta_lt {a : Nat} (ha : a < A64) : ∀ k, sta a k < A64
  | 0 => ha
  | k + 1 => Nat.mod_lt _ (by decide)
/-- the k-th value -/
def vl (a k : Nat) : Nat := mx (sta a k)
theorem vl_lt {a : Nat} (ha : a < A64) (k : Nat) : vl a k < A64 := mx_lt (sta_lt ha k)

/-! ### Below -/
/-- the last value that is taken -/
def lst (n : Nat) : Nat := A64 - 1 - A64 % n
theorem lst_prog {n : Nat} (h0 : 0 < n) (h1 : n ≤ A64) : A64 - 1 - (A64 - n) % n = lst n := by
  unfold lst
  rw [← Nat.mod_eq_sub_mod h1]
theorem rest_ref {n : Nat} : ((A64 - 1) % n + 1) % n = A64 % n := by
  rw [Nat.mod_add_mod]
  rfl
/-- what f tries give: the number, the error, how many values have been made -/
def trv (a n : Nat) : Nat → Nat → Nat × Nat × Nat
  | 0, k => (0, 11, k)
  | f + 1, k => if vl a (k + 1) ≤ lst n then (vl a (k + 1) % n, 0, k + 1) else trv a n f (k + 1)
theorem trv_yes {a n f k : Nat} (h : vl a (k + 1) ≤ lst n) : trv a n (f + 1) k = (vl a (k + 1) % n, 0, k + 1) := by
  rw [trv, if_pos h]
theorem trv_no {a n f k : Nat} (h : ¬ vl a (k + 1) ≤ lst n) : trv a n (f + 1) k = trv a n f (k + 1) := by
  rw [trv, if_neg h]
theorem trv_lt {a n : Nat} (hn : 0 < n) : ∀ f k, (trv a n f k).1 < n
  | 0, k => hn
  | f + 1, k => by
    rw [trv]
    split
    · exact Nat.mod_lt _ hn
    · exact trv_lt hn f (k + 1)
theorem trv_err {a n : Nat} : ∀ f k, (trv a n f k).2.1 = 0 ∨ (trv a n f k).2.1 = 11
  | 0, k => .inr rfl
  | f + 1, k => by
    rw [trv]
    split
    · exact .inl rfl
    · exact trv_err f (k + 1)
def bl (a n k : Nat) : Nat × Nat × Nat := trv a n 64 k
/-- what is known of it -/
structure Bl (B : Nat → Nat → Nat × Nat × Nat) : Prop where
  lt : ∀ n k, 0 < n → (B n k).1 < n
  err : ∀ n k, (B n k).2.1 = 0 ∨ (B n k).2.1 = 11
theorem bl_bl (a : Nat) : Bl (bl a) := ⟨fun n k hn => trv_lt hn 64 k, fun n k => trv_err 64 k⟩
/-- Below of 1 takes the first value -/
theorem lst_one : lst 1 = A64 - 1 := by decide
theorem bl_one {a : Nat} (ha : a < A64) (k : Nat) : bl a 1 k = (0, 0, k + 1) := by
  have h : vl a (k + 1) ≤ lst 1 := by
    have := vl_lt ha (k + 1)
    rw [lst_one]; exact Nat.le_pred_of_lt this
  rw [bl, trv_yes h, Nat.mod_one]

/-! ### lists -/
def iat (zs : List Int) (k : Nat) : Int := zs.getD k 0
theorem iat_some {l : List Int} {k : Nat} (h : k < l.length) : l[k]? = some (iat l k) := by
  simp [iat, List.getD, h]
theorem iat_of {l : List Int} {k : Nat} {x : Int} (h : l[k]? = some x) : iat l k = x := by
  simp [iat, List.getD, h]
theorem iat_get {l : List Int} {k : Nat} (h : k < l.length) : iat l k = l[k] := by
  simp [iat, List.getD, h]
theorem iat_mem {l : List Int} {k : Nat} (h : k < l.length) : iat l k ∈ l := List.mem_of_getElem? (iat_some h)
theorem take_iat {l : List Int} {k : Nat} (h : k < l.length) : l.take (k + 1) = l.take k ++ [iat l k] := by
  rw [List.take_add_one, iat_some h]; rfl
theorem iat_take {l : List Int} {c k : Nat} (h : k < c) : iat (l.take c) k = iat l k := by
  simp [iat, List.getD, List.getElem?_take_of_lt h]
/-- two elements exchanged -/
def sw (L : List Int) (i j : Nat) : List Int := (L.set i (iat L j)).set j (iat L i)
theorem sw_len (L : List Int) (i j : Nat) : (sw L i j).length = L.length := by simp [sw]
theorem sw_perm {L : List Int} {i j : Nat} (hi : i < L.length) (hj : j < L.length) : (sw L i j).Perm L := by
  unfold sw
  rw [iat_get hi, iat_get hj]
  exact List.set_set_perm hi hj
theorem sw_take {L : List Int} {i j c : Nat} (hi : c ≤ i) (hj : c ≤ j) : (sw L i j).take c = L.take c := by
  unfold sw
  rw [List.take_set_of_le hj, List.take_set_of_le hi]
/-- 1 to n -/
def up (n : Nat) : List Int := (List.range n).map fun (i : Nat) => (i : Int) + 1
theorem up_len (n : Nat) : (up n).length = n := by simp [up]
theorem up_zero : up 0 = [] := rfl
theorem up_succ (n : Nat) : up (n + 1) = up n ++ [(n : Int) + 1] := by
  simp [up, List.range_succ]
theorem up_mem {n : Nat} {x : Int} (h : x ∈ up n) : 1 ≤ x ∧ x ≤ n := by
  obtain ⟨i, hi, rfl⟩ := List.mem_map.1 h
  have := List.mem_range.1 hi
  omega
theorem up_nodup (n : Nat) : (up n).Nodup := by
  unfold up
  rw [List.nodup_iff_pairwise_ne, List.pairwise_map]
  exact List.nodup_range.imp fun h e => h (by omega)

/-! ### Shuffle: B says what Below answers -/
section
variable {B : Nat → Nat → Nat × Nat × Nat}
def shf (B : Nat → Nat → Nat × Nat × Nat) : Nat → List Int → Nat → List Int × Nat × Nat
  | 0, L, k => (L, 0, k)
  | i + 1, L, k => if (B (i + 2) k).2.1 = 0 then shf B i (sw L (i + 1) (B (i + 2) k).1) (B (i + 2) k).2.2 else ([], (B (i + 2) k).2.1, (B (i + 2) k).2.2)
theorem shf_ok {i V k k' : Nat} {L : List Int} (h : B (i + 2) k = (V, 0, k')) : shf B (i + 1) L k = shf B i (sw L (i + 1) V) k' := by
  rw [shf, h, if_pos rfl]
theorem shf_bad {i V E k k' : Nat} {L : List Int} (h : B (i + 2) k = (V, E, k')) (hE : E ≠ 0) : shf B (i + 1) L k = ([], E, k') := by
  rw [shf, h, if_neg hE]
theorem shf_perm (hB : Bl B) : ∀ {i : Nat} {L : List Int} {k : Nat}, (i = 0 ∨ i < L.length) → ((shf B i L k).2.1 = 0 ∧ (shf B i L k).1.Perm L) ∨ ((shf B i L k).2.1 = 11 ∧ (shf B i L k).1 = [])
  | 0, L, k, _ => .inl ⟨rfl, List.Perm.refl _⟩
  | i + 1, L, k, h => by
    have hi : i + 1 < L.length := by omega
    have hb := hB.lt (i + 2) k (by omega)
    rcases hB.err (i + 2) k with e | e
    · rw [shf, if_pos e]
      have hp : (sw L (i + 1) (B (i + 2) k).1).Perm L := sw_perm hi (by omega)
      rcases shf_perm hB (i := i) (L := sw L (i + 1) (B (i + 2) k).1) (k := (B (i + 2) k).2.2) (.inr (by rw [sw_len]; omega)) with ⟨h1, h2⟩ | ⟨h1, h2⟩
      · exact .inl ⟨h1, h2.trans hp⟩
      · exact .inr ⟨h1, h2⟩
    · rw [shf, if_neg (by omega)]
      exact .inr ⟨e, rfl⟩
/-- what Shuffle of n answers -/
def shR (B : Nat → Nat → Nat × Nat × Nat) (n k : Nat) : List Int × Nat × Nat := shf B (n - 1) (up n) k
theorem shR_perm (hB : Bl B) (n k : Nat) : ((shR B n k).2.1 = 0 ∧ (shR B n k).1.Perm (up n)) ∨ ((shR B n k).2.1 = 11 ∧ (shR B n k).1 = []) :=
  shf_perm hB (by rw [up_len]; omega)

/-! ### Sample -/
def smf (B : Nat → Nat → Nat × Nat × Nat) (n : Nat) : Nat → Nat → List Int → Nat → List Int × Nat × Nat
  | 0, _, L, k => (L, 0, k)
  | c + 1, i, L, k => if (B (n - i) k).2.1 = 0 then smf B n c (i + 1) (sw L i (i + (B (n - i) k).1)) (B (n - i) k).2.2 else ([], (B (n - i) k).2.1, (B (n - i) k).2.2)
theorem smf_ok {n c i V k k' : Nat} {L : List Int} (h : B (n - i) k = (V, 0, k')) : smf B n (c + 1) i L k = smf B n c (i + 1) (sw L i (i + V)) k' := by
  rw [smf, h, if_pos rfl]
theorem smf_bad {n c i V E k k' : Nat} {L : List Int} (h : B (n - i) k = (V, E, k')) (hE : E ≠ 0) : smf B n (c + 1) i L k = ([], E, k') := by
  rw [smf, h, if_neg hE]
theorem smf_perm (hB : Bl B) {n : Nat} : ∀ {c i : Nat} {L : List Int} {k : Nat}, L.length = n → i + c ≤ n → ((smf B n c i L k).2.1 = 0 ∧ (smf B n c i L k).1.Perm L ∧ (smf B n c i L k).1.take i = L.take i) ∨ ((smf B n c i L k).2.1 = 11 ∧ (smf B n c i L k).1 = [])
  | 0, i, L, k, _, _ => .inl ⟨rfl, List.Perm.refl _, rfl⟩
  | c + 1, i, L, k, hL, hi => by
    have hb := hB.lt (n - i) k (by omega)
    rcases hB.err (n - i) k with e | e
    · rw [smf, if_pos e]
      have hp : (sw L i (i + (B (n - i) k).1)).Perm L := sw_perm (by omega) (by omega)
      rcases smf_perm hB (n := n) (c := c) (i := i + 1) (L := sw L i (i + (B (n - i) k).1)) (k := (B (n - i) k).2.2) (by rw [sw_len]; exact hL) (by omega) with ⟨h1, h2, h3⟩ | ⟨h1, h2⟩
      · refine .inl ⟨h1, h2.trans hp, ?_⟩
        have := congrArg (List.take i) h3
        rw [List.take_take, List.take_take, Nat.min_eq_left (by omega), sw_take (Nat.le_refl _) (by omega)] at this
        exact this
      · exact .inr ⟨h1, h2⟩
    · rw [smf, if_neg (by omega)]
      exact .inr ⟨e, rfl⟩
/-- fewer rounds, then the others -/
theorem smf_two (hB : Bl B) {n : Nat} : ∀ {c d i : Nat} {L : List Int} {k : Nat}, (smf B n c i L k).2.1 = 0 → smf B n (c + d) i L k = smf B n d (i + c) (smf B n c i L k).1 (smf B n c i L k).2.2
  | 0, d, i, L, k, _ => by rw [Nat.zero_add]; rfl
  | c + 1, d, i, L, k, h => by
    rw [show c + 1 + d = (c + d) + 1 by omega]
    rw [smf] at h ⊢
    rcases hB.err (n - i) k with e | e
    · rw [if_pos e] at h
      rw [if_pos e, smf_two hB h, show i + 1 + c = i + (c + 1) by omega]
      rw [smf, if_pos e]
    · rw [if_neg (by omega)] at h
      simp only at h
      omega
/-- what Sample of n and c answers -/
def smR (B : Nat → Nat → Nat × Nat × Nat) (n c k : Nat) : List Int × Nat × Nat := ((smf B n c 0 (up n) k).1.take c, (smf B n c 0 (up n) k).2)
theorem smR_err (hB : Bl B) {n c : Nat} (k : Nat) (h : c ≤ n) : (smR B n c k).2.1 = 0 ∨ (smR B n c k).2.1 = 11 := by
  rcases smf_perm hB (n := n) (c := c) (i := 0) (L := up n) (k := k) (up_len n) (by omega) with ⟨h1, _⟩ | ⟨h1, _⟩
  · exact .inl h1
  · exact .inr h1
theorem smR_bad (hB : Bl B) {n c k : Nat} (h : c ≤ n) (e : (smR B n c k).2.1 ≠ 0) : (smR B n c k).1 = [] := by
  rcases smf_perm hB (n := n) (c := c) (i := 0) (L := up n) (k := k) (up_len n) (by omega) with ⟨h1, _⟩ | ⟨_, h1⟩
  · exact absurd h1 e
  · show List.take c _ = []
    rw [h1, List.take_nil]
theorem smR_ok (hB : Bl B) {n c k : Nat} (h : c ≤ n) (e : (smR B n c k).2.1 = 0) : (smR B n c k).1.length = c ∧ (smR B n c k).1.Nodup ∧ ∀ x ∈ (smR B n c k).1, 1 ≤ x ∧ x ≤ (n : Int) := by
  rcases smf_perm hB (n := n) (c := c) (i := 0) (L := up n) (k := k) (up_len n) (by omega) with ⟨h1, h2, _⟩ | ⟨h1, _⟩
  · have hl : (smf B n c 0 (up n) k).1.length = n := by rw [h2.length_eq, up_len]
    refine ⟨?_, ?_, fun x hx => ?_⟩
    · show (List.take c _).length = c
      rw [List.length_take, hl]; omega
    · exact (h2.nodup_iff.2 (up_nodup n)).sublist (List.take_sublist _ _)
    · exact up_mem (h2.mem_iff.1 (List.mem_of_mem_take hx))
  · have : (smR B n c k).2.1 = 11 := h1
    omega
/-- a smaller sample is a prefix -/
theorem smR_less (hB : Bl B) {n c l k : Nat} (h : c ≤ n) (hl : l ≤ c) (e : (smR B n c k).2.1 = 0) (f : (smR B n l k).2.1 = 0) : (smR B n c k).1.take l = (smR B n l k).1 := by
  obtain ⟨d, rfl⟩ : ∃ d, c = l + d := ⟨c - l, by omega⟩
  have h2 := smf_two hB (n := n) (c := l) (d := d) (i := 0) (L := up n) (k := k) f
  have e' : (smf B n (l + d) 0 (up n) k).2.1 = 0 := e
  show List.take l (List.take (l + d) _) = List.take l _
  rw [List.take_take, Nat.min_eq_left hl]
  rw [h2] at e' ⊢
  rcases smf_perm hB (n := n) (c := l) (i := 0) (L := up n) (k := k) (up_len n) (by omega) with ⟨_, p1, _⟩ | ⟨q1, _⟩
  · rcases smf_perm hB (n := n) (c := d) (i := 0 + l) (L := (smf B n l 0 (up n) k).1) (k := (smf B n l 0 (up n) k).2.2) (by rw [p1.length_eq, up_len]) (by omega) with ⟨_, _, g⟩ | ⟨g, _⟩
    · rw [Nat.zero_add] at g ⊢
      exact g
    · omega
  · have : (smR B n l k).2.1 = 11 := q1
    omega
end
end Go.Proofs.YtikhhceoonfhcaaDoor.stM

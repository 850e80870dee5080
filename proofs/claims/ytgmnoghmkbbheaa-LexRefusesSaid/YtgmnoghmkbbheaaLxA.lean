/-
  Tokens in memory, rows of tokens that grow, texts' bytes; contracts of the reference's blank, letter, digit, mark, skip, end, Place.
-/
import Derived.Test.YtgmnoghmkbbheaaLxMore
import Derived.WalkKit
import Derived.IntWalk
import Derived.WalkLawsBesides
import Derived.Laws.Bits64
import Derived.Lib.Hide
import Derived.Lib.Strings
import Derived.WalkSmall
import Derived.WalkSpells
import Derived.Deep.QuietTactic
import Derived.BigQuiet
import Derived.Deep.OwnRows
import Derived.OneCell
import Derived.OwnWalk
import Derived.Deep.AppendLies
import Derived.Laws.OwnMore
import Derived.Deep.DeepCutAuto
namespace Go.Proofs.Ytgmnoghmkbbheaa.lxA
open Go.RowKit
open Go.Proofs.Ytgmnoghmkbbheaa.lxM Go.Proofs.Ytgmnoghmkbbheaa.lxN
set_option linter.unusedVariables false

/-! ### tokens in memory -/
abbrev cT (x : Tk) : List Value := [.int .i64 x.kind, .int .i64 x.line, .int .i64 x.col, .string x.text]
abbrev cTs (l : List Tk) : List Value := l.flatMap cT
theorem cTs_cons (x : Tk) (l : List Tk) : cTs (x :: l) = cT x ++ cTs l := List.flatMap_cons
theorem cTs_len : ∀ l : List Tk, (cTs l).length = l.length * 4
  | [] => rfl
  | x :: l => by
    have := cTs_len l
    rw [cTs_cons, List.length_append, this, List.length_cons]
    show 4 + l.length * 4 = (l.length + 1) * 4
    omega
theorem cTs_at : ∀ (l : List Tk) (j : Nat) (x : Tk), l[j]? = some x → ∀ i, i < 4 → (cTs l)[j * 4 + i]? = (cT x)[i]?
  | [], j, x, h, i, hi => by simp at h
  | y :: l, 0, x, h, i, hi => by
    simp at h
    subst h
    rw [cTs_cons, List.getElem?_append_left (by show 0 * 4 + i < 4; omega), Nat.zero_mul, Nat.zero_add]
  | y :: l, j + 1, x, h, i, hi => by
    rw [cTs_cons, List.getElem?_append_right (by show 4 ≤ (j + 1) * 4 + i; omega)]
    have := cTs_at l j x (by simpa using h) i hi
    rw [← this]
    congr 1
    show (j + 1) * 4 + i - 4 = j * 4 + i
    omega
def TkAt (w : World) (b off : Nat) (x : Tk) : Prop :=
  w.cell? ⟨b, off, none⟩ = some (.int .i64 x.kind) ∧ w.cell? ⟨b, off + 1, none⟩ = some (.int .i64 x.line) ∧ w.cell? ⟨b, off + 2, none⟩ = some (.int .i64 x.col) ∧ w.cell? ⟨b, off + 3, none⟩ = some (.string x.text)
def Tks (w : World) (A : Option Addr) (xs : List Tk) : Prop :=
  0 < xs.length → ∃ b off, A = some ⟨b, off, none⟩ ∧ ∀ (j : Nat) (x : Tk), xs[j]? = some x → TkAt w b (off + j * 4) x
theorem TkAt.below {w w' : World} {b off : Nat} {x : Tk} (h : TkAt w b off x) (hb : Below w.heap.size w w') : TkAt w' b off x := by
  obtain ⟨h0, h1, h2, h3⟩ := h
  have hlt : b < w.heap.size := World.block_lt_of_cell? w _ h0
  refine ⟨?_, ?_, ?_, ?_⟩
  · rw [hb.cell (p := ⟨b, off, none⟩) hlt]; exact h0
  · rw [hb.cell (p := ⟨b, off + 1, none⟩) hlt]; exact h1
  · rw [hb.cell (p := ⟨b, off + 2, none⟩) hlt]; exact h2
  · rw [hb.cell (p := ⟨b, off + 3, none⟩) hlt]; exact h3
theorem Tks.below {w w' : World} {A : Option Addr} {xs : List Tk} (h : Tks w A xs) (hb : Below w.heap.size w w') : Tks w' A xs := fun hp => by
  obtain ⟨b, off, e, hc⟩ := h hp
  exact ⟨b, off, e, fun j x hx => (hc j x hx).below hb⟩
theorem Tks.nil (w : World) (A : Option Addr) : Tks w A [] := fun h => absurd h (by simp)
def tat (l : List Tk) (k : Nat) : Tk := l.getD k ⟨0, 0, 0, ⟨#[]⟩⟩
theorem tat_some {l : List Tk} {k : Nat} (h : k < l.length) : l[k]? = some (tat l k) := by simp [tat, List.getD, h]
theorem Tks.at_ {w : World} {A : Option Addr} {xs : List Tk} (h : Tks w A xs) {k : Nat} (hk : k < xs.length) : ∃ b off, A = some ⟨b, off, none⟩ ∧ TkAt w b (off + k * 4) (tat xs k) := by
  obtain ⟨b, off, e, hc⟩ := h (by omega)
  exact ⟨b, off, e, hc k _ (tat_some hk)⟩
theorem below_on {w v u : World} (h : Below w.heap.size w v) (h2 : Below v.heap.size v u) : Below w.heap.size w u := h.trans (h2.mono h.size)
theorem below_draw (w : World) (k : Nat) : Below w.heap.size w (w.drewN k) := ⟨rfl, rfl, rfl, Nat.le_refl _, fun _ _ => rfl⟩

/-! ### rows of tokens that grow -/
abbrev OwT (w : World) (B : Nat) (v : Value) (l : List Tk) : Prop := w.ownsRow B 32 4 v l.length (cTs l)
theorem infoK : (Try.prog.info? 32).map (fun i => (i.zero, i.size, i.bytes)) = some (some (.agg #[.int .i64 0, .int .i64 0, .int .i64 0, .string ⟨#[]⟩]), 4, 40) := by kernel_rfl
theorem owt_nil (w : World) (B : Nat) : OwT w B (.slice none 0 0) [] := ⟨rfl, .inl ⟨rfl, rfl⟩⟩
theorem owt_form {w : World} {B : Nat} {v : Value} {l : List Tk} (h : OwT w B v l) : ∃ A c, v = .slice A l.length c ∧ l.length ≤ c ∧ Tks w A l ∧ (A = none → c = 0) ∧ (∀ b off, A = some ⟨b, off, none⟩ → B ≤ b ∧ b < w.heap.size) := by
  have hlt := World.ownsRow.lt h
  rcases h.2 with ⟨rfl, h0⟩ | ⟨g, cap, cur, rfl, hg, hh, hnc, _, _, htake⟩
  · have hl : l = [] := List.eq_nil_of_length_eq_zero h0
    subst hl
    exact ⟨none, 0, rfl, by simp, Tks.nil _ _, fun _ => rfl, fun b off e => absurd e (by simp)⟩
  · refine ⟨some ⟨g, 0, none⟩, cap, rfl, hnc, fun _ => ⟨g, 0, rfl, fun j x hx => ?_⟩, fun e => absurd e (by simp), fun b off e => ?_⟩
    · have hj : j < l.length := (List.getElem?_eq_some_iff.1 hx).1
      have hc : ∀ i, i < 4 → w.cell? ⟨g, j * 4 + i, none⟩ = (cT x)[i]? := fun i hi => by
        rw [cell_of_row w g (j * 4 + i) _ _ _ hh]
        have h3 := cTs_at l j x hx i hi
        rw [← htake, List.getElem?_take, if_pos (by omega)] at h3
        rw [← h3]
        simp
      rw [Nat.zero_add]
      exact ⟨hc 0 (by omega), hc 1 (by omega), hc 2 (by omega), hc 3 (by omega)⟩
    · injection e with e
      injection e with e1 e2
      exact e1 ▸ hlt g rfl
theorem push_tok {ops : Array Oper} {rest : List Oper} {o : Oper} {a : Act} {Q : Exit → Act → World → Prop} (hgd : o.guard = none) (s x : Operand) (ho : o.op = .call { callee := .builtin .append, args := #[s, x], argTypes := #[23, 23] })
    (w : World) (B : Nat) (v : Value) (l : List Tk) (y : Tk) (hs : a.eval s = v) (hown : OwT w B v l) (hx : a.eval x = .slice (some ⟨w.heap.size, 0, none⟩) 1 1) (hn : l.length ≤ 1000000000) (hB : B ≤ w.heap.size)
    (h : ∀ v' w1, OwT w1 B v' (l ++ [y]) → Below B w w1 → wpList Try.prog ops Q rest (a.put o.dst v') w1) :
    wpList Try.prog ops Q (o :: rest) a (w.alloc (.cells #[.int .i64 y.kind, .int .i64 y.line, .int .i64 y.col, .string y.text] 32)) := by
  obtain ⟨i0, hi0, hz0, hz1, hz2⟩ := info_parts infoK
  refine wpList_append_own _ hgd s x 23 ho B 32 i0 (.agg #[.int .i64 0, .int .i64 0, .int .i64 0, .string ⟨#[]⟩]) 4 40 Try.underlying23 hi0 hz0 hz1 hz2 rfl (by omega) v l.length _ hs (World.ownsRow.alloc hown _) ⟨w.heap.size, 0, none⟩ 1 1 (cT y) hx rfl (World.news_of_block (cs := #[.int .i64 y.kind, .int .i64 y.line, .int .i64 y.col, .string y.text]) (t := 32) (fr := (0, 0)) (heap_alloc_new w _)) (by simp [Value.oneCell']) (by unfold maxLen; omega) (by omega) (by simp; omega) ?_
  intro v' w1 hown1 hgrow _
  refine h v' w1 ?_ (((Below.refl _ w).alloc hB _).grown hgrow (by simp; omega) (fun j hj => ((World.ownsRow.lt hown) j hj).1))
  have e : cTs l ++ cT y = cTs (l ++ [y]) := by simp [cTs]
  rw [e] at hown1
  have e2 : l.length + 1 = (l ++ [y]).length := by simp
  rw [e2] at hown1
  exact hown1

/-! ### a text's bytes -/
theorem size_len (s : ByteArray) : s.size = s.data.toList.length := by show s.data.size = _; simp
theorem bat_s (s : ByteArray) (k : Nat) (h : k < s.size) : s[k] = bat s.data.toList k := by
  have h' : k < s.data.toList.length := by rw [← size_len]; exact h
  rw [bat_get h']
  rfl
theorem cut_s (s : ByteArray) (i j : Nat) : s.extract i j = cut s.data.toList i (j - i) := by
  apply ByteArray.ext
  apply Array.toList_inj.1
  rw [Lib.extract_data]
  simp [cut]
theorem beq_u8 {c : UInt8} {n : Nat} : ((c.toNat : Int) == (n : Int)) = (c.toNat == n) := by
  cases h : c.toNat == n with
  | true => rw [beq_iff_eq] at h; rw [beq_iff_eq]; omega
  | false => rw [beq_eq_false_iff_ne] at h; rw [beq_eq_false_iff_ne]; omega

/-! ### kinds of bytes -/
theorem rblank_any (c : UInt8) (b : Bool) (hb : Hid (b = blk c)) (w : World) :
    Calls Try.prog 40 #[.int .u8 (c.toNat : Int)] w fun e w' => e = .returned (.bool b) ∧ w = w' := by
  have hb' := hb.out
  have hi := @blk_iff c
  rw [← hb'] at hi
  clear hb hb'
  by_cases h1 : c.toNat = 32
  · obtain rfl : b = true := hi.2 (.inl h1)
    have t1 : ((c.toNat : Int) == 32) = true := by rw [beq_iff_eq]; omega
    clear hi h1
    go_enter Try.func40, Try.ntmps40
    go_wp2_with fail
    go_ret
    exact ⟨rfl, rfl⟩
  have t1 : ((c.toNat : Int) == 32) = false := by rw [beq_eq_false_iff_ne]; omega
  by_cases h2 : c.toNat = 9
  · obtain rfl : b = true := hi.2 (.inr (.inl h2))
    have t2 : ((c.toNat : Int) == 9) = true := by rw [beq_iff_eq]; omega
    clear hi h1 h2
    go_enter Try.func40, Try.ntmps40
    go_wp2_with fail
    go_ret
    exact ⟨rfl, rfl⟩
  have t2 : ((c.toNat : Int) == 9) = false := by rw [beq_eq_false_iff_ne]; omega
  by_cases h3 : c.toNat = 13
  · obtain rfl : b = true := hi.2 (.inr (.inr (.inl h3)))
    have t3 : ((c.toNat : Int) == 13) = true := by rw [beq_iff_eq]; omega
    clear hi h1 h2 h3
    go_enter Try.func40, Try.ntmps40
    go_wp2_with fail
    go_ret
    exact ⟨rfl, rfl⟩
  have t3 : ((c.toNat : Int) == 13) = false := by rw [beq_eq_false_iff_ne]; omega
  have t4 : ((c.toNat : Int) == 10) = b := by
    cases b with
    | true => rw [beq_iff_eq]; have := hi.1 rfl; omega
    | false =>
      rw [beq_eq_false_iff_ne]
      intro h
      have := hi.2 (.inr (.inr (.inr (by omega))))
      cases this
  clear hi h1 h2 h3
  go_enter Try.func40, Try.ntmps40
  go_wp2_with fail
  go_ret
  exact ⟨rfl, rfl⟩
theorem rmark_any (c : UInt8) (b : Bool) (hb : Hid (b = mrk c)) (w : World) :
    Calls Try.prog 41 #[.int .u8 (c.toNat : Int)] w fun e w' => e = .returned (.bool b) ∧ w = w' := by
  have hb' := hb.out
  have hi := @mrk_iff c
  rw [← hb'] at hi
  clear hb hb'
  by_cases h1 : c.toNat = 123
  · obtain rfl : b = true := hi.2 (.inl h1)
    have t1 : ((c.toNat : Int) == 123) = true := by rw [beq_iff_eq]; omega
    clear hi h1
    go_enter Try.func41, Try.ntmps41
    go_wp2_with fail
    go_ret
    exact ⟨rfl, rfl⟩
  have t1 : ((c.toNat : Int) == 123) = false := by rw [beq_eq_false_iff_ne]; omega
  by_cases h2 : c.toNat = 125
  · obtain rfl : b = true := hi.2 (.inr (.inl h2))
    have t2 : ((c.toNat : Int) == 125) = true := by rw [beq_iff_eq]; omega
    clear hi h1 h2
    go_enter Try.func41, Try.ntmps41
    go_wp2_with fail
    go_ret
    exact ⟨rfl, rfl⟩
  have t2 : ((c.toNat : Int) == 125) = false := by rw [beq_eq_false_iff_ne]; omega
  by_cases h3 : c.toNat = 59
  · obtain rfl : b = true := hi.2 (.inr (.inr (.inl h3)))
    have t3 : ((c.toNat : Int) == 59) = true := by rw [beq_iff_eq]; omega
    clear hi h1 h2 h3
    go_enter Try.func41, Try.ntmps41
    go_wp2_with fail
    go_ret
    exact ⟨rfl, rfl⟩
  have t3 : ((c.toNat : Int) == 59) = false := by rw [beq_eq_false_iff_ne]; omega
  have t4 : ((c.toNat : Int) == 58) = b := by
    cases b with
    | true => rw [beq_iff_eq]; have := hi.1 rfl; omega
    | false =>
      rw [beq_eq_false_iff_ne]
      intro h
      have := hi.2 (.inr (.inr (.inr (by omega))))
      cases this
  clear hi h1 h2 h3
  go_enter Try.func41, Try.ntmps41
  go_wp2_with fail
  go_ret
  exact ⟨rfl, rfl⟩
theorem rletter_any (c : UInt8) (b : Bool) (hb : Hid (b = ltr c)) (w : World) :
    Calls Try.prog 42 #[.int .u8 (c.toNat : Int)] w fun e w' => e = .returned (.bool b) ∧ w = w' := by
  have hb' := hb.out
  unfold ltr at hb'
  by_cases h1 : 97 ≤ c.toNat
  · have t1 : (97 : Int) ≤ (c.toNat : Int) := by omega
    have t2 : decide ((c.toNat : Int) ≤ 122) = b := by
      rw [hb', decide_eq_true h1, Bool.true_and]
      exact decide_eq_decide.2 (by omega)
    clear hb hb' h1
    go_enter Try.func42, Try.ntmps42
    go_wp2_with fail
    go_ret
    exact ⟨rfl, rfl⟩
  · have t1 : ¬ (97 : Int) ≤ (c.toNat : Int) := by omega
    obtain rfl : b = false := by rw [hb', decide_eq_false h1, Bool.false_and]
    clear hb hb' h1
    go_enter Try.func42, Try.ntmps42
    go_wp2_with fail
    go_ret
    exact ⟨rfl, rfl⟩
theorem rdigit_any (c : UInt8) (b : Bool) (hb : Hid (b = dgt c)) (w : World) :
    Calls Try.prog 43 #[.int .u8 (c.toNat : Int)] w fun e w' => e = .returned (.bool b) ∧ w = w' := by
  have hb' := hb.out
  unfold dgt at hb'
  by_cases h1 : 48 ≤ c.toNat
  · have t1 : (48 : Int) ≤ (c.toNat : Int) := by omega
    have t2 : decide ((c.toNat : Int) ≤ 57) = b := by
      rw [hb', decide_eq_true h1, Bool.true_and]
      exact decide_eq_decide.2 (by omega)
    clear hb hb' h1
    go_enter Try.func43, Try.ntmps43
    go_wp2_with fail
    go_ret
    exact ⟨rfl, rfl⟩
  · have t1 : ¬ (48 : Int) ≤ (c.toNat : Int) := by omega
    obtain rfl : b = false := by rw [hb', decide_eq_false h1, Bool.false_and]
    clear hb hb' h1
    go_enter Try.func43, Try.ntmps43
    go_wp2_with fail
    go_ret
    exact ⟨rfl, rfl⟩
end Go.Proofs.Ytgmnoghmkbbheaa.lxA

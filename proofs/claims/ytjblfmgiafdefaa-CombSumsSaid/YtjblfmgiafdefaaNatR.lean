/-
  The reference's lists of digits: trim, digit, cmp, Halves, Whole.
-/
import Derived.Test.YtjblfmgiafdefaaNatJ
namespace Go.Proofs.Ytjblfmgiafdefaa.natR
open Go.RowKit
open Go.Proofs.Ytjblfmgiafdefaa.natM Go.Proofs.Ytjblfmgiafdefaa.natA Go.Proofs.Ytjblfmgiafdefaa.natB Go.Proofs.Ytjblfmgiafdefaa.natC Go.Proofs.Ytjblfmgiafdefaa.natD Go.Proofs.Ytjblfmgiafdefaa.natE Go.Proofs.Ytjblfmgiafdefaa.natF Go.Proofs.Ytjblfmgiafdefaa.natG
set_option linter.unusedVariables false

set_option maxHeartbeats 1000000 in
theorem rtrim_any (A : Option Addr) (n c v N : Nat) (hv : Hid (v < 65536 ^ n)) (hN : Hid (N = nlen 65536 v)) (hnc : n ≤ c) (hn : n ≤ 9223372036854775807) (w : World) (hI : Cel .i64 w A (dg 65536 n v)) :
    Calls Try.prog 60 #[.slice A n c] w fun e w' => e = .returned (.slice A N c) ∧ w = w' := by
  have hNn : N ≤ n := by rw [hN.out]; exact nlen_le (by omega) hv.out
  go_enter Try.func60, Try.ntmps60
  go_wp2
  go_loop [3] (fun s => ∃ k : Nat, k ≤ n ∧ N ≤ k ∧ s = .int .i64 (k : Int)) (fun s => (intOf s).toNat)
  case atStart => exact ⟨n, Nat.le_refl _, hNn, rfl⟩
  case round =>
    obtain ⟨k, hk, hNk, rfl⟩ := hrel
    by_cases h0 : k = 0
    · subst h0
      have eN : N = 0 := by omega
      subst eN
      go_wp2
      go_ret
      exact ⟨rfl, rfl⟩
    · obtain ⟨j, rfl⟩ : ∃ j, k = j + 1 := ⟨k - 1, by omega⟩
      obtain ⟨b, off, rfl, hx⟩ := hI.at_ (k := j) (by rw [dg_len]; omega)
      have hd := dg_at (B := 65536) (n := n) (v := v) (k := j) (by omega)
      have hvk : Hid (v < 65536 ^ (j + 1)) := Lib.hid (Nat.lt_of_lt_of_le (nlen_lt (B := 65536) (by omega) v) (Nat.pow_le_pow_right (by omega) (by rw [← hN.out]; exact hNk)))
      have HD := Lib.hid hd
      clear hd
      generalize at0 (dg 65536 n v) j = x at *
      by_cases hx0 : x = 0
      · have hNj : N ≤ j := by rw [hN.out]; exact nlen_le (by omega) (top_zero hvk.out (by rw [← HD.out]; exact hx0))
        subst hx0
        clear h0
        go_wp2
        go_round
        case rel => exact ⟨j, by omega, hNj, rfl⟩
        case measure => simp [intOf]
      · have eN : N = j + 1 := by
          have h1 := nlen_gt (B := 65536) (by omega) (top_pos (B := 65536) (v := v) (n := j) (by rw [← HD.out]; exact hx0))
          rw [← hN.out] at h1; omega
        subst eN
        have hx1 : ((x : Int) == 0) = false := by simpa using hx0
        clear h0 hx0
        go_wp2
        go_ret
        exact ⟨rfl, rfl⟩

theorem dig_outH {Y m k : Nat} (h : Y < 65536 ^ m) (hk : m ≤ k) : Y / 65536 ^ k % 65536 = 0 := by
  have : (65536 : Nat) ^ m ≤ 65536 ^ k := Nat.pow_le_pow_right (by omega) hk
  rw [Nat.div_eq_of_lt (by omega)]
set_option maxHeartbeats 400000 in
theorem digit_any (A : Option Addr) (n c v i x : Nat) (hv : Hid (v < 65536 ^ n)) (hx : Hid (x = v / 65536 ^ i % 65536)) (hi : i ≤ 9223372036854775807) (hn : n ≤ 9223372036854775807) (w : World) (hI : Cel .i64 w A (dg 65536 n v)) :
    Calls Try.prog 61 #[.slice A n c, .int .i64 (i : Int)] w fun e w' => e = .returned (.int .i64 (x : Int)) ∧ w = w' := by
  by_cases h : i < n
  · obtain ⟨b, off, rfl, hc⟩ := hI.at_ (k := i) (by rw [dg_len]; omega)
    rw [dg_at h, ← hx.out] at hc
    go_enter Try.func61, Try.ntmps61
    go_wp2
    go_ret
    exact ⟨rfl, rfl⟩
  · have e : x = 0 := hx.out.trans (dig_outH hv.out (by omega))
    subst e
    go_enter Try.func61, Try.ntmps61
    go_wp2
    go_ret
    exact ⟨rfl, rfl⟩

set_option maxHeartbeats 1000000 in
theorem rcmp_any (A D : Option Addr) (n c m d X Y : Nat) (C : Int) (hX : Hid (X < 65536 ^ n)) (hY : Hid (Y < 65536 ^ m)) (hnm : nlen 65536 X = n ∧ nlen 65536 Y = m) (hC : Hid (C = cmpI X Y)) (hn : n ≤ 9223372036854775807) (hm : m ≤ 9223372036854775807)
    (w : World) (hI : Cel .i64 w A (dg 65536 n X)) (hJ : Cel .i64 w D (dg 65536 m Y)) :
    Calls Try.prog 67 #[.slice A n c, .slice D m d] w fun e w' => e = .returned (.int .i64 C) ∧ ∃ k, w' = w.drewN k := by
  by_cases e : n = m
  · subst e
    clear hnm
    go_enter Try.func67, Try.ntmps67
    go_wp2
    go_loopw [5] (fun s wr => ∃ k dd : Nat, k ≤ n ∧ s = .int .i64 ((k : Int) - 1) ∧ Hid (X / 65536 ^ k = Y / 65536 ^ k) ∧ wr = w.drewN dd) (fun s _ => (intOf s + 1).toNat)
    case atStart => exact ⟨n, 0, Nat.le_refl _, rfl, Lib.hid (by rw [Nat.div_eq_of_lt hX.out, Nat.div_eq_of_lt hY.out]), rfl⟩
    case round =>
      obtain ⟨k, dd, hk, rfl, hq, rfl⟩ := hrel
      by_cases h0 : k = 0
      · subst h0
        have eC : C = 0 := by rw [hC.out]; apply cmpI_eq; have := hq.out; simpa using this
        subst eC
        go_wp2
        go_ret
        exact ⟨rfl, _, rfl⟩
      · obtain ⟨j, rfl⟩ : ∃ j, k = j + 1 := ⟨k - 1, by omega⟩
        obtain ⟨b, off, rfl, hx⟩ := hI.at_ (k := j) (by rw [dg_len]; omega)
        obtain ⟨b2, off2, rfl, hy⟩ := hJ.at_ (k := j) (by rw [dg_len]; omega)
        have hdx := dg_at (B := 65536) (n := n) (v := X) (k := j) (by omega)
        have hdy := dg_at (B := 65536) (n := n) (v := Y) (k := j) (by omega)
        have hs := cmp_step hq.out
        rw [← hdx, ← hdy] at hs
        have HS := Lib.hid hs
        clear hdx hdy hs h0
        have ej : (((j + 1 : Nat) : Int) - 1) = (j : Int) := by omega
        have i0 : (0 : Int) ≤ (j : Int) := by omega
        have i1 : (j : Int) < (n : Int) := by omega
        generalize at0 (dg 65536 n X) j = x at *
        generalize at0 (dg 65536 n Y) j = y at *
        rcases Nat.lt_trichotomy x y with h | h | h
        · have eC : C = -1 := hC.out.trans (cmpI_lt (HS.out.1 h))
          subst eC
          have hxy : decide (x < y) = true := by simpa using h
          clear h
          go_wp2_with fail
          go_quiet (fail)
          go_wp2_with fail
          go_ret
          exact ⟨rfl, _, drew_two _ _ _⟩
        · subst h
          have h2 := HS.out.2.1 rfl
          have H2 := Lib.hid h2
          have hxy : decide (x < x) = false := by simp
          clear h2
          go_wp2_with fail
          go_quiet (fail)
          go_wp2_with fail
          go_quiet (fail)
          go_wp2_with fail
          go_roundw
          case rel => exact ⟨j, _, by omega, by go_num, H2, rfl⟩
          case measure => simp [intOf]
        · have eC : C = 1 := hC.out.trans (cmpI_gt (HS.out.2.2 h))
          subst eC
          have hxy : decide (x < y) = false := by simp; omega
          have hyx : decide (y < x) = true := by simpa using h
          clear h
          go_wp2_with fail
          go_quiet (fail)
          go_wp2_with fail
          go_quiet (fail)
          go_wp2_with fail
          go_ret
          exact ⟨rfl, _, drew_three _ _ _ _⟩
  · obtain ⟨eX, eY⟩ := hnm
    have e' : ((n : Int) != (m : Int)) = true := by simp; omega
    rcases Nat.lt_or_gt_of_ne e with h | h
    · have eC : C = -1 := hC.out.trans (cmpI_lt (lt_of_nlen (B := 65536) (by omega) (by omega)))
      subst eC
      clear e eX eY
      go_enter Try.func67, Try.ntmps67
      go_wp2
      go_ret
      exact ⟨rfl, 0, rfl⟩
    · have eC : C = 1 := hC.out.trans (cmpI_gt (lt_of_nlen (B := 65536) (by omega) (by omega)))
      subst eC
      have hlt : ¬ n < m := by omega
      clear e eX eY
      go_enter Try.func67, Try.ntmps67
      go_wp2
      go_ret
      exact ⟨rfl, 0, rfl⟩

/-! ### a row that grows by one -/
theorem cells_snoc (K : IntKind) (zs : List Nat) (y : Nat) : cells K zs ++ [.int K (y : Int)] = cells K (zs ++ [y]) := by simp [cells]
/-- what an append of one element leaves -/
def Pushed (K : IntKind) (T : TypeId) (w : World) (B : Nat) (v : Value) (n : Nat) (zs : List Nat) (g c : Nat) (w1 : World) : Prop :=
  w1.ownsRow B T 1 (.slice (some ⟨g, 0, none⟩) (n + 1) c) (n + 1) (cells K zs) ∧ Below B w w1 ∧ (∀ b, b < w.heap.size → v.ownBlock ≠ some b → w1.heap[b]? = w.heap[b]?) ∧ (v.ownBlock = some g ∨ w.heap.size ≤ g)

theorem push_any {K : IntKind} {T t : TypeId} {by_ : Nat} (hinfo : (Try.prog.info? T).map (fun i => (i.zero, i.size, i.bytes)) = some (some (.int K 0), 1, by_)) (hu : Try.prog.underlying t = some (.slice T)) (hby : by_ ≤ 8)
    {ops : Array Oper} {rest : List Oper} {o : Oper} {a : Act} {Q : Exit → Act → World → Prop} (hgd : o.guard = none) (s x : Operand) (ho : o.op = .call { callee := .builtin .append, args := #[s, x], argTypes := #[t, t] })
    (w : World) (B : Nat) (v : Value) (n : Nat) (zs : List Nat) (y : Nat) (hs : a.eval s = v) (hown : w.ownsRow B T 1 v n (cells K zs)) (hx : a.eval x = .slice (some ⟨w.heap.size, 0, none⟩) 1 1) (hn : n ≤ 1000000) (hB : B ≤ w.heap.size)
    (h : ∀ g c w1, Pushed K T w B v n (zs ++ [y]) g c w1 → wpList Try.prog ops Q rest (a.put o.dst (.slice (some ⟨g, 0, none⟩) (n + 1) c)) w1) :
    wpList Try.prog ops Q (o :: rest) a (w.alloc (.cells #[.int K (y : Int)] T)) := by
  obtain ⟨i0, hi0, hz0, hz1, hz2⟩ := info_parts hinfo
  refine wpList_append_lies _ hgd s x t ho B T i0 (.int K 0) 1 by_ hu hi0 hz0 hz1 hz2 rfl (by omega) v n _ hs (World.ownsRow.alloc hown _) ⟨w.heap.size, 0, none⟩ 1 1 [.int K (y : Int)] hx rfl (World.news_of_block (cs := #[.int K (y : Int)]) (t := T) (fr := (0, 0)) (heap_alloc_new w _)) (by simp [Value.oneCell']) (by omega) (by unfold maxLen; omega) ?_ (by simp; omega) (w.heap.size + 1) (by simp) ?_
  · have : (n + 1) * by_ ≤ (n + 1) * 8 := Nat.mul_le_mul_left _ hby
    omega
  · intro g c w1 hown1 hgrow hat hlt
    rw [cells_snoc] at hown1
    refine h g c w1 ⟨hown1, ((Below.refl _ w).alloc hB _).grown hgrow (by simp; omega) (fun j hj => ((World.ownsRow.lt hown) j hj).1), fun b hb hne => ?_, ?_⟩
    · rw [hgrow.block b (by simp; omega) (Ne.symm hne)]
      exact Below.heap_alloc w _ b hb
    · rcases hat with e | e
      · exact .inl e
      · exact .inr (by omega)
theorem infoI : (Try.prog.info? 3).map (fun i => (i.zero, i.size, i.bytes)) = some (some (.int .i64 0), 1, 8) := by kernel_rfl
theorem push_i64 {ops : Array Oper} {rest : List Oper} {o : Oper} {a : Act} {Q : Exit → Act → World → Prop} (hgd : o.guard = none) (s x : Operand) (ho : o.op = .call { callee := .builtin .append, args := #[s, x], argTypes := #[37, 37] })
    (w : World) (B : Nat) (v : Value) (n : Nat) (zs : List Nat) (y : Nat) (hs : a.eval s = v) (hown : w.ownsRow B 3 1 v n (cells .i64 zs)) (hx : a.eval x = .slice (some ⟨w.heap.size, 0, none⟩) 1 1) (hn : n ≤ 1000000) (hB : B ≤ w.heap.size)
    (h : ∀ g c w1, Pushed .i64 3 w B v n (zs ++ [y]) g c w1 → wpList Try.prog ops Q rest (a.put o.dst (.slice (some ⟨g, 0, none⟩) (n + 1) c)) w1) :
    wpList Try.prog ops Q (o :: rest) a (w.alloc (.cells #[.int .i64 (y : Int)] 3)) :=
  push_any infoI Try.underlying37 (Nat.le_refl _) hgd s x ho w B v n zs y hs hown hx hn hB h
theorem push_u32 {ops : Array Oper} {rest : List Oper} {o : Oper} {a : Act} {Q : Exit → Act → World → Prop} (hgd : o.guard = none) (s x : Operand) (ho : o.op = .call { callee := .builtin .append, args := #[s, x], argTypes := #[22, 22] })
    (w : World) (B : Nat) (v : Value) (n : Nat) (zs : List Nat) (y : Nat) (hs : a.eval s = v) (hown : w.ownsRow B 55 1 v n (cells .u32 zs)) (hx : a.eval x = .slice (some ⟨w.heap.size, 0, none⟩) 1 1) (hn : n ≤ 1000000) (hB : B ≤ w.heap.size)
    (h : ∀ g c w1, Pushed .u32 55 w B v n (zs ++ [y]) g c w1 → wpList Try.prog ops Q rest (a.put o.dst (.slice (some ⟨g, 0, none⟩) (n + 1) c)) w1) :
    wpList Try.prog ops Q (o :: rest) a (w.alloc (.cells #[.int .u32 (y : Int)] 55)) :=
  push_any infoU Try.underlying22 (by omega) hgd s x ho w B v n zs y hs hown hx hn hB h
end Go.Proofs.Ytjblfmgiafdefaa.natR

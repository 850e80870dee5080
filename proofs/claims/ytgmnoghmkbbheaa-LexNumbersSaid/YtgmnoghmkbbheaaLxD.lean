/-
  Contracts of the reference's Join, Same, Alike.
-/
import Derived.Test.YtgmnoghmkbbheaaLxA
import Derived.Laws.StructEq
namespace Go.Proofs.Ytgmnoghmkbbheaa.lxD
open Go.RowKit
open Go.Proofs.Ytgmnoghmkbbheaa.lxM Go.Proofs.Ytgmnoghmkbbheaa.lxN Go.Proofs.Ytgmnoghmkbbheaa.lxA
set_option linter.unusedVariables false

/-! ### Same, Alike -/
set_option maxRecDepth 10000 in
set_option maxHeartbeats 1000000 in
theorem same_ok (A B : Option Addr) (n c d : Nat) (X : List Tk) (hn : Hid (X.length = n)) (hN : n ≤ 9223372036854775807) (w : World) (hI : Tks w A X) (hJ : Tks w B X) :
    Calls Try.prog 13 #[.slice A n c, .slice B n d] w fun e w' => e = .returned (.bool true) ∧ ∃ d, w' = w.drewN d := by
  have ne : ((n : Int) != (n : Int)) = false := by simp
  go_enter Try.func13, Try.ntmps13
  go_wp2_with fail
  go_loopw [5] (fun i wr => ∃ k d : Nat, k ≤ n ∧ i = .int .i64 k ∧ wr = w.drewN d) (fun i _ => n - (intOf i).toNat)
  case atStart => exact ⟨0, 0, Nat.zero_le _, rfl, rfl⟩
  case round =>
    obtain ⟨k, d, hk, rfl, rfl⟩ := hrel
    by_cases hlt : k < n
    · obtain ⟨ad, off, rfl, hx⟩ := hI.at_ (k := k) (by rw [hn.out]; exact hlt)
      obtain ⟨bd, bff, rfl, hy⟩ := hJ.at_ (k := k) (by rw [hn.out]; exact hlt)
      generalize tat X k = x at *
      obtain ⟨x0, x1, x2, x3⟩ := hx
      obtain ⟨y0, y1, y2, y3⟩ := hy
      obtain ⟨k0, l0, c0, t0⟩ := x
      simp only at x0 x1 x2 x3 y0 y1 y2 y3
      have i0 : (0 : Int) ≤ (k : Int) := by omega
      have i1 : (k : Int) < (n : Int) := by omega
      have f0 : (k0 == k0) = true := by simp
      have f1 : (l0 == l0) = true := by simp
      have f2 : (c0 == c0) = true := by simp
      have f3 : (t0.toList == t0.toList) = true := by simp
      go_wp2_with fail
      go_quiet (fail)
      go_wp2_with fail
      go_roundw
      case rel => exact ⟨k + 1, _, by omega, by go_num, rfl⟩
      case measure => simp [intOf]; omega
    · obtain rfl : k = n := by omega
      go_wp2_with fail
      go_ret
      exact ⟨rfl, _, rfl⟩

theorem pr_at {X Y : List Tk} (h : X.map pr = Y.map pr) {k : Nat} (hk : k < X.length) : pr (tat X k) = pr (tat Y k) ∧ k < Y.length := by
  have hl : X.length = Y.length := by
    have := congrArg List.length h
    simpa using this
  have h1 : (X.map pr)[k]? = some (pr (tat X k)) := by rw [List.getElem?_map, tat_some hk]; rfl
  have h2 : (Y.map pr)[k]? = some (pr (tat Y k)) := by rw [List.getElem?_map, tat_some (by rw [← hl]; exact hk)]; rfl
  rw [h] at h1
  exact ⟨Option.some.inj (h1.symm.trans h2), by rw [← hl]; exact hk⟩
theorem text_eq {a b : ByteArray} (h : a.data.toList = b.data.toList) : a = b := by
  apply ByteArray.ext
  exact Array.toList_inj.1 h
set_option maxRecDepth 10000 in
set_option maxHeartbeats 1000000 in
theorem alike_ok (A B : Option Addr) (n c d : Nat) (X Y : List Tk) (hn : Hid (X.length = n)) (hm : Hid (Y.length = n)) (hp : Hid (X.map pr = Y.map pr)) (hN : n ≤ 9223372036854775807) (w : World) (hI : Tks w A X) (hJ : Tks w B Y) :
    Calls Try.prog 17 #[.slice A n c, .slice B n d] w fun e w' => e = .returned (.bool true) ∧ ∃ d, w' = w.drewN d := by
  have ne : ((n : Int) != (n : Int)) = false := by simp
  go_enter Try.func17, Try.ntmps17
  go_wp2_with fail
  go_loopw [5] (fun i wr => ∃ k d : Nat, k ≤ n ∧ i = .int .i64 k ∧ wr = w.drewN d) (fun i _ => n - (intOf i).toNat)
  case atStart => exact ⟨0, 0, Nat.zero_le _, rfl, rfl⟩
  case round =>
    obtain ⟨k, d, hk, rfl, rfl⟩ := hrel
    by_cases hlt : k < n
    · obtain ⟨ad, off, rfl, hx⟩ := hI.at_ (k := k) (by rw [hn.out]; exact hlt)
      obtain ⟨bd, bff, rfl, hy⟩ := hJ.at_ (k := k) (by rw [hm.out]; exact hlt)
      have he := (pr_at hp.out (k := k) (by rw [hn.out]; exact hlt)).1
      generalize tat X k = x at *
      generalize tat Y k = y at *
      obtain ⟨x0, x1, x2, x3⟩ := hx
      obtain ⟨y0, y1, y2, y3⟩ := hy
      obtain ⟨k0, l0, c0, t0⟩ := x
      obtain ⟨k1, l1, c1, t1⟩ := y
      obtain ⟨h1, h2⟩ := Prod.mk.inj he
      obtain rfl : k0 = k1 := h1
      obtain rfl : t0 = t1 := text_eq h2
      simp only at x0 x1 x2 x3 y0 y1 y2 y3
      have i0 : (0 : Int) ≤ (k : Int) := by omega
      have i1 : (k : Int) < (n : Int) := by omega
      have f0 : (k0 != k0) = false := by simp
      have f3 : (t0.toList == t0.toList) = true := by simp
      clear he
      go_wp2_with fail
      go_quiet (fail)
      go_wp2_with fail
      go_roundw
      case rel => exact ⟨k + 1, _, by omega, by go_num, rfl⟩
      case measure => simp [intOf]; omega
    · obtain rfl : k = n := by omega
      go_wp2_with fail
      go_ret
      exact ⟨rfl, _, rfl⟩

/-! ### Join -/
theorem fore_le : ∀ xs : List (Int × By), (fore xs).length ≤ xs.length
  | [] => Nat.le_refl _
  | x :: r => by
    rw [fore]
    split
    · exact Nat.zero_le _
    · have := fore_le r
      rw [List.length_cons, List.length_cons]; omega
theorem fore_get : ∀ {xs : List (Int × By)} {i : Nat}, i < (fore xs).length → ∃ x, xs[i]? = some x ∧ (fore xs)[i]? = some x ∧ x.1 ≠ 0
  | [], i, h => by simp [fore] at h
  | x :: r, i, h => by
    rw [fore] at h ⊢
    split at h
    · simp at h
    · rename_i hx
      rw [if_neg hx]
      cases i with
      | zero => exact ⟨x, rfl, rfl, hx⟩
      | succ i =>
        obtain ⟨y, h1, h2, h3⟩ := fore_get (xs := r) (i := i) (by simpa using h)
        exact ⟨y, by simpa using h1, by simpa using h2, h3⟩
theorem fore_stop : ∀ {xs : List (Int × By)}, (fore xs).length < xs.length → ∃ x, xs[(fore xs).length]? = some x ∧ x.1 = 0
  | [], h => by simp at h
  | x :: r, h => by
    rw [fore] at h ⊢
    by_cases hx : x.1 = 0
    · rw [if_pos hx]; exact ⟨x, rfl, hx⟩
    · rw [if_neg hx] at h ⊢
      obtain ⟨y, h1, h2⟩ := fore_stop (xs := r) (by simpa using h)
      exact ⟨y, by simpa using h1, h2⟩
theorem jn_step {F : List (Int × By)} {i : Nat} {x : Int × By} (h : F[i]? = some x) : jn (F.drop i) = x.2 ++ (sp x (decide (i + 1 = F.length)) ++ jn (F.drop (i + 1))) := by
  obtain ⟨hi, he⟩ := List.getElem?_eq_some_iff.1 h
  rw [List.drop_eq_getElem_cons hi, jn, he]
  congr 3
  cases hd : F.drop (i + 1) with
  | nil =>
    have := congrArg List.length hd
    rw [List.length_drop, List.length_nil] at this
    exact (decide_eq_true (by omega)).symm
  | cons y r =>
    have := congrArg List.length hd
    rw [List.length_drop, List.length_cons] at this
    exact (decide_eq_false (by omega)).symm
theorem jn_drop_le : ∀ {F : List (Int × By)} (i : Nat), (jn (F.drop i)).length ≤ (jn F).length
  | F, 0 => Nat.le_refl _
  | [], i + 1 => Nat.le_refl _
  | x :: r, i + 1 => by
    rw [List.drop_succ_cons, jn, List.length_append, List.length_append]
    have := jn_drop_le (F := r) i
    omega
/-- a text that an own step has made -/
def JnP (w : World) (T : By) (e : Ending) (w' : World) : Prop := ∃ t : ByteArray, e = .returned (.string t) ∧ t.data.toList = T ∧ Below w.heap.size w w'
theorem lf_of {k : Int} {t : ByteArray} : lf (k, t.data.toList) = (k == 3 && (t.toList == [123] || t.toList == [125] || t.toList == [59])) := by
  rw [Go.ByteArray.toList_eq]; rfl
set_option maxRecDepth 10000 in
set_option maxHeartbeats 4000000 in
theorem rjoin_any (A : Option Addr) (n c : Nat) (X : List Tk) (T : By) (hn : Hid (X.length = n)) (hN : n ≤ 1000000) (hT : Hid (T = jn (fore (X.map pr)))) (hl : T.length ≤ 1000000000) (w : World) (hI : Tks w A X) :
    Calls Try.prog 16 #[.slice A n c] w (JnP w T) := by
  obtain ⟨F, hF⟩ : ∃ F, F = fore (X.map pr) := ⟨_, rfl⟩
  have hfl := fore_le (X.map pr)
  have hget := fun {i} => @fore_get (X.map pr) i
  have hstop := @fore_stop (X.map pr)
  rw [List.length_map] at hstop hfl
  rw [← hF] at hT hfl hstop
  simp only [← hF] at hget
  obtain ⟨f, hf⟩ : ∃ f, f = F.length := ⟨_, rfl⟩
  rw [← hf] at hfl hstop hget
  rw [hn.out] at hfl hstop
  have HG := Lib.hid (fun i => @hget i)
  have HST := Lib.hid hstop
  have HF := Lib.hid hf
  clear hF hf hget hstop
  go_enter Try.func16, Try.ntmps16
  go_wp2_with fail
  go_loop [3] (fun s3 => ∃ i : Nat, i ≤ f ∧ s3 = .int .i64 (i : Int)) (fun s3 => f - (intOf s3).toNat)
  case atStart => exact ⟨0, Nat.zero_le _, rfl⟩
  case round =>
    obtain ⟨i, hi, rfl⟩ := hrel
    by_cases hlt : i < f
    · obtain ⟨y, g1, g2, g3⟩ := HG.out i hlt
      obtain ⟨ad, off, rfl, hx⟩ := hI.at_ (k := i) (by rw [hn.out]; omega)
      have e : y = pr (tat X i) := by
        rw [List.getElem?_map, tat_some (by rw [hn.out]; omega)] at g1
        exact (Option.some.inj g1).symm
      subst e
      generalize tat X i = x at *
      obtain ⟨x0, x1, x2, x3⟩ := hx
      have g3' : (x.kind != 0) = true := by rw [bne_iff_ne]; exact g3
      obtain ⟨k0, l0, c0, t0⟩ := x
      simp only at x0 x1 x2 x3 g3'
      have i0 : (0 : Int) ≤ (i : Int) := by omega
      have i1 : (i : Int) < (n : Int) := by omega
      clear g1 g2 g3
      go_wp2_with fail
      go_round
      case rel => exact ⟨i + 1, by omega, by go_num⟩
      case measure => simp [intOf]; omega
    · obtain rfl : i = f := by omega
      have ex : Hid (i = n ∨ i < n ∧ (tat X i).kind = 0) := Lib.hid (by
        rcases Nat.lt_or_ge i n with h | h
        · obtain ⟨y, g1, g2⟩ := HST.out h
          rw [List.getElem?_map, tat_some (by rw [hn.out]; exact h)] at g1
          have e := (Option.some.inj g1).symm
          rw [e] at g2
          exact .inr ⟨h, g2⟩
        · exact .inl (by omega))
      have two : Hid (∃ b : Bool, (i = n ∧ b = true) ∨ (i < n ∧ b = false)) := Lib.hid (by
        rcases ex.out with h | ⟨h, _⟩
        · exact ⟨true, .inl ⟨h, rfl⟩⟩
        · exact ⟨false, .inr ⟨h, rfl⟩⟩)
      rcases Nat.lt_or_ge i n with hin | hin
      · obtain ⟨ad, off, rfl, hx⟩ := hI.at_ (k := i) (by rw [hn.out]; exact hin)
        have hk0 : (tat X i).kind = 0 := by rcases ex.out with h | ⟨_, h⟩ <;> first | omega | exact h
        have x0 := hx.1
        rw [hk0] at x0
        have i0 : (0 : Int) ≤ (i : Int) := by omega
        have i1 : (i : Int) < (n : Int) := by omega
        clear hx hk0 ex two
        go_wp2_with fail
        go_loopw [4, 5] (fun s4 s5 wr => ∃ (j : Nat) (O : ByteArray), j ≤ i ∧ s5 = .int .i64 (j : Int) ∧ s4 = .string O ∧ Hid (O.data.toList ++ jn (F.drop j) = T) ∧ Hid (Below w.heap.size w wr)) (fun _ s5 _ => i - (intOf s5).toNat)
        case atStart => exact ⟨0, ⟨#[]⟩, Nat.zero_le _, rfl, rfl, Lib.hid (by rw [List.drop_zero, hT.out]; rfl), Lib.hid (Below.refl _ _)⟩
        case round =>
          obtain ⟨j, O, hj, rfl, rfl, HO, HB⟩ := hrel
          by_cases hlt2 : j < i
          · obtain ⟨y, g1, g2, g3⟩ := HG.out j hlt2
            obtain ⟨bd, bff, eb, hy0⟩ := hI.at_ (k := j) (by rw [hn.out]; omega)
            have e : y = pr (tat X j) := by
              rw [List.getElem?_map, tat_some (by rw [hn.out]; omega)] at g1
              exact (Option.some.inj g1).symm
            subst e
            have hst := jn_step g2
            rw [← HF.out] at hst
            have ho := HO.out
            rw [hst] at ho
            have hy := hy0.below HB.out
            generalize tat X j = x at *
            obtain ⟨k0, l0, c0, t0⟩ := x
            obtain ⟨x0, x1, x2, x3⟩ := hy
            simp only at x0 x1 x2 x3
            obtain ⟨rfl, rfl⟩ : ad = bd ∧ off = bff := by (injection eb with eb; injection eb with e1 e2; exact ⟨e1, e2⟩)
            have hlens : O.size + t0.size + 1 ≤ 2000000000 := by
              have h1 := congrArg List.length ho
              rw [List.length_append, List.length_append] at h1
              have h2 : (pr ⟨k0, l0, c0, t0⟩).2.length = t0.size := (size_len t0).symm
              rw [h2, ← size_len] at h1
              omega
            have j0 : (0 : Int) ≤ (j : Int) := by omega
            have j1 : (j : Int) < (n : Int) := by omega
            have j2 : (j : Int) < (i : Int) := by omega
            have hj1 : j + 1 ≤ i := hlt2
            have hlf := @lf_of k0 t0
            have hsp : ∀ b, sp (pr ⟨k0, l0, c0, t0⟩) b = if lf (k0, t0.data.toList) then [10] else if b then [] else [32] := fun b => rfl
            have ho2 : O.data.toList ++ (t0.data.toList ++ ((if lf (k0, t0.data.toList) then [10] else if decide (j + 1 = i) then [] else [32]) ++ jn (F.drop (j + 1)))) = T := by rw [← hsp]; exact ho
            clear hsp ho g1 g2 g3 hst HO hy0
            cases c3 : (k0 == 3 && (t0.toList == [123] || t0.toList == [125] || t0.toList == [59])) with
            | true =>
              rw [hlf, c3, if_pos rfl] at ho2
              have HO2 := Lib.hid ho2
              rw [Bool.and_eq_true] at c3
              obtain ⟨c4, c5⟩ := c3
              clear hlf ho2
              cases d1 : (t0.toList == [123]) with
              | true =>
                clear c5
                go_wp2_with fail
                go_roundw
                case rel => exact ⟨j + 1, _, hj1, by go_num, rfl, Lib.hid (by rw [← HO2.out]; simp), Lib.hid (HB.out.alloc HB.out.size _)⟩
                case measure => simp [intOf]; omega
              | false =>
                cases d2 : (t0.toList == [125]) with
                | true =>
                  clear c5
                  go_wp2_with fail
                  go_roundw
                  case rel => exact ⟨j + 1, _, hj1, by go_num, rfl, Lib.hid (by rw [← HO2.out]; simp), Lib.hid (HB.out.alloc HB.out.size _)⟩
                  case measure => simp [intOf]; omega
                | false =>
                  have d3 : (t0.toList == [59]) = true := by rw [d1, d2] at c5; simpa using c5
                  clear c5
                  go_wp2_with fail
                  go_roundw
                  case rel => exact ⟨j + 1, _, hj1, by go_num, rfl, Lib.hid (by rw [← HO2.out]; simp), Lib.hid (HB.out.alloc HB.out.size _)⟩
                  case measure => simp [intOf]; omega
            | false =>
              rw [hlf, c3, if_neg (by simp)] at ho2
              clear hlf
              have hkk : (k0 == 3) = false ∨ (k0 == 3) = true ∧ (t0.toList == [123]) = false ∧ (t0.toList == [125]) = false ∧ (t0.toList == [59]) = false := by
                cases q : (k0 == 3) with
                | false => exact .inl rfl
                | true =>
                  rw [q, Bool.true_and, Bool.or_eq_false_iff, Bool.or_eq_false_iff] at c3
                  exact .inr ⟨rfl, c3.1.1, c3.1.2, c3.2⟩
              clear c3
              by_cases hlast : j + 1 = i
              · rw [decide_eq_true hlast, if_pos rfl] at ho2
                have HO2 := Lib.hid ho2
                have jl : ¬ ((j : Int) + 1 < (i : Int)) := by omega
                clear ho2 hlast
                rcases hkk with q | ⟨q, q1, q2, q3⟩
                all_goals
                  go_wp2_with fail
                  go_roundw
                  case rel => exact ⟨j + 1, _, hj1, by go_num, rfl, Lib.hid (by rw [← HO2.out]; simp), Lib.hid (HB.out.alloc HB.out.size _)⟩
                  case measure => simp [intOf]; omega
              · rw [decide_eq_false hlast, if_neg (by simp)] at ho2
                have HO2 := Lib.hid ho2
                have jl : (j : Int) + 1 < (i : Int) := by omega
                clear ho2 hlast
                rcases hkk with q | ⟨q, q1, q2, q3⟩
                all_goals
                  go_wp2_with fail
                  go_roundw
                  case rel => exact ⟨j + 1, _, hj1, by go_num, rfl, Lib.hid (by rw [← HO2.out]; simp), Lib.hid (HB.out.alloc HB.out.size _)⟩
                  case measure => simp [intOf]; omega
          · obtain rfl : j = i := by omega
            have hdr : jn (F.drop j) = [] := by rw [List.drop_eq_nil_of_le (by rw [← HF.out]; exact Nat.le_refl _)]; rfl
            have ho := HO.out
            rw [hdr, List.append_nil] at ho
            go_wp2_with fail
            go_ret
            exact ⟨O, rfl, ho, HB.out⟩
      · have i1 : ¬ (i : Int) < (n : Int) := by omega
        clear ex two
        go_wp2_with fail
        go_loopw [4, 5] (fun s4 s5 wr => ∃ (j : Nat) (O : ByteArray), j ≤ i ∧ s5 = .int .i64 (j : Int) ∧ s4 = .string O ∧ Hid (O.data.toList ++ jn (F.drop j) = T) ∧ Hid (Below w.heap.size w wr)) (fun _ s5 _ => i - (intOf s5).toNat)
        case atStart => exact ⟨0, ⟨#[]⟩, Nat.zero_le _, rfl, rfl, Lib.hid (by rw [List.drop_zero, hT.out]; rfl), Lib.hid (Below.refl _ _)⟩
        case round =>
          obtain ⟨j, O, hj, rfl, rfl, HO, HB⟩ := hrel
          by_cases hlt2 : j < i
          · obtain ⟨y, g1, g2, g3⟩ := HG.out j hlt2
            obtain ⟨bd, bff, eb, hy0⟩ := hI.at_ (k := j) (by rw [hn.out]; omega)
            have e : y = pr (tat X j) := by
              rw [List.getElem?_map, tat_some (by rw [hn.out]; omega)] at g1
              exact (Option.some.inj g1).symm
            subst e
            have hst := jn_step g2
            rw [← HF.out] at hst
            have ho := HO.out
            rw [hst] at ho
            have hy := hy0.below HB.out
            generalize tat X j = x at *
            obtain ⟨k0, l0, c0, t0⟩ := x
            obtain ⟨x0, x1, x2, x3⟩ := hy
            simp only at x0 x1 x2 x3
            subst eb
            have hlens : O.size + t0.size + 1 ≤ 2000000000 := by
              have h1 := congrArg List.length ho
              rw [List.length_append, List.length_append] at h1
              have h2 : (pr ⟨k0, l0, c0, t0⟩).2.length = t0.size := (size_len t0).symm
              rw [h2, ← size_len] at h1
              omega
            have j0 : (0 : Int) ≤ (j : Int) := by omega
            have j1 : (j : Int) < (n : Int) := by omega
            have j2 : (j : Int) < (i : Int) := by omega
            have hj1 : j + 1 ≤ i := hlt2
            have hlf := @lf_of k0 t0
            have hsp : ∀ b, sp (pr ⟨k0, l0, c0, t0⟩) b = if lf (k0, t0.data.toList) then [10] else if b then [] else [32] := fun b => rfl
            have ho2 : O.data.toList ++ (t0.data.toList ++ ((if lf (k0, t0.data.toList) then [10] else if decide (j + 1 = i) then [] else [32]) ++ jn (F.drop (j + 1)))) = T := by rw [← hsp]; exact ho
            clear hsp ho g1 g2 g3 hst HO hy0
            cases c3 : (k0 == 3 && (t0.toList == [123] || t0.toList == [125] || t0.toList == [59])) with
            | true =>
              rw [hlf, c3, if_pos rfl] at ho2
              have HO2 := Lib.hid ho2
              rw [Bool.and_eq_true] at c3
              obtain ⟨c4, c5⟩ := c3
              clear hlf ho2
              cases d1 : (t0.toList == [123]) with
              | true =>
                clear c5
                go_wp2_with fail
                go_roundw
                case rel => exact ⟨j + 1, _, hj1, by go_num, rfl, Lib.hid (by rw [← HO2.out]; simp), Lib.hid (HB.out.alloc HB.out.size _)⟩
                case measure => simp [intOf]; omega
              | false =>
                cases d2 : (t0.toList == [125]) with
                | true =>
                  clear c5
                  go_wp2_with fail
                  go_roundw
                  case rel => exact ⟨j + 1, _, hj1, by go_num, rfl, Lib.hid (by rw [← HO2.out]; simp), Lib.hid (HB.out.alloc HB.out.size _)⟩
                  case measure => simp [intOf]; omega
                | false =>
                  have d3 : (t0.toList == [59]) = true := by rw [d1, d2] at c5; simpa using c5
                  clear c5
                  go_wp2_with fail
                  go_roundw
                  case rel => exact ⟨j + 1, _, hj1, by go_num, rfl, Lib.hid (by rw [← HO2.out]; simp), Lib.hid (HB.out.alloc HB.out.size _)⟩
                  case measure => simp [intOf]; omega
            | false =>
              rw [hlf, c3, if_neg (by simp)] at ho2
              clear hlf
              have hkk : (k0 == 3) = false ∨ (k0 == 3) = true ∧ (t0.toList == [123]) = false ∧ (t0.toList == [125]) = false ∧ (t0.toList == [59]) = false := by
                cases q : (k0 == 3) with
                | false => exact .inl rfl
                | true =>
                  rw [q, Bool.true_and, Bool.or_eq_false_iff, Bool.or_eq_false_iff] at c3
                  exact .inr ⟨rfl, c3.1.1, c3.1.2, c3.2⟩
              clear c3
              by_cases hlast : j + 1 = i
              · rw [decide_eq_true hlast, if_pos rfl] at ho2
                have HO2 := Lib.hid ho2
                have jl : ¬ ((j : Int) + 1 < (i : Int)) := by omega
                clear ho2 hlast
                rcases hkk with q | ⟨q, q1, q2, q3⟩
                all_goals
                  go_wp2_with fail
                  go_roundw
                  case rel => exact ⟨j + 1, _, hj1, by go_num, rfl, Lib.hid (by rw [← HO2.out]; simp), Lib.hid (HB.out.alloc HB.out.size _)⟩
                  case measure => simp [intOf]; omega
              · rw [decide_eq_false hlast, if_neg (by simp)] at ho2
                have HO2 := Lib.hid ho2
                have jl : (j : Int) + 1 < (i : Int) := by omega
                clear ho2 hlast
                rcases hkk with q | ⟨q, q1, q2, q3⟩
                all_goals
                  go_wp2_with fail
                  go_roundw
                  case rel => exact ⟨j + 1, _, hj1, by go_num, rfl, Lib.hid (by rw [← HO2.out]; simp), Lib.hid (HB.out.alloc HB.out.size _)⟩
                  case measure => simp [intOf]; omega
          · obtain rfl : j = i := by omega
            have hdr : jn (F.drop j) = [] := by rw [List.drop_eq_nil_of_le (by rw [← HF.out]; exact Nat.le_refl _)]; rfl
            have ho := HO.out
            rw [hdr, List.append_nil] at ho
            go_wp2_with fail
            go_ret
            exact ⟨O, rfl, ho, HB.out⟩
end Go.Proofs.Ytgmnoghmkbbheaa.lxD

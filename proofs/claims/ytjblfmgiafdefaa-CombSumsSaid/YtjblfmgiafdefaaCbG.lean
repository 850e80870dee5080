/-
  Contracts of Choose of comb and of the reference.
-/
import Derived.Test.YtjblfmgiafdefaaCbA
import Derived.Test.YtjblfmgiafdefaaFrC
import Derived.Test.YtjblfmgiafdefaaNatZ
import Derived.Test.YtjblfmgiafdefaaNatDm
import Derived.Test.YtjblfmgiafdefaaNatI
import Derived.Deep.DeepCutAuto
namespace Go.Proofs.Ytjblfmgiafdefaa.cbG
open Go.RowKit
open Go.Proofs.Ytjblfmgiafdefaa.natM Go.Proofs.Ytjblfmgiafdefaa.natA Go.Proofs.Ytjblfmgiafdefaa.natB Go.Proofs.Ytjblfmgiafdefaa.natF Go.Proofs.Ytjblfmgiafdefaa.natG Go.Proofs.Ytjblfmgiafdefaa.natI Go.Proofs.Ytjblfmgiafdefaa.natJ Go.Proofs.Ytjblfmgiafdefaa.natZ Go.Proofs.Ytjblfmgiafdefaa.natDm Go.Proofs.Ytjblfmgiafdefaa.natUi Go.Proofs.Ytjblfmgiafdefaa.frA Go.Proofs.Ytjblfmgiafdefaa.frB Go.Proofs.Ytjblfmgiafdefaa.frC Go.Proofs.Ytjblfmgiafdefaa.cbM Go.Proofs.Ytjblfmgiafdefaa.cbA
set_option linter.unusedVariables false

/-- what Choose answers -/
def chE (n : Int) : Int := if n < 0 ∨ 80 < n then 2 else 0
def chV (n k : Int) : Nat := if n < 0 ∨ 80 < n then 0 else cC n k
theorem set_at {w : World} {b : Nat} {v : Value} (h : Bk w b #[v]) (u : Value) : (w.setCell ⟨b, 0, none⟩ u).cell? ⟨b, 0, none⟩ = some u := (h.set_ 0 u).one
theorem nil_p {E : Int} {w w' : World} (hb : Below w.heap.size w w') : ResP 0 E w (.returned (.tuple #[.agg #[.slice none 0 0], .int .i64 E])) w' := ⟨none, 0, 0, rfl, Num.nil _, hb⟩

set_option maxHeartbeats 1000000 in
theorem choose_out (n k : Int) (h : n < 0 ∨ 80 < n) (w : World) :
    Calls Try.prog 10 #[.int .i64 n, .int .i64 k] w (ResP 0 2 w) := by
  have cs := fun w => size_any n false (Lib.hid (decide_eq_false (by omega)).symm) w
  have B0 := (Kp.start w).al1 #[.slice none 0 0] 24
  have xs := B0.b0.one
  go_enter Try.func10, Try.ntmps10
  go_wp2_with (go_at_call 26; refine (cs _).mono ?_; rintro e w' ⟨rfl, rfl⟩)
  refine bodyPost_ret (v := .tuple #[.agg #[.slice none 0 0], .int .i64 2]) (by simp [results, Try.results10, go_sem, xs]) rfl ?_
  exact nil_p B0.bel
set_option maxHeartbeats 1000000 in
theorem choose_zero (n k : Int) (h0 : 0 ≤ n) (h1 : n ≤ 80) (h : k < 0 ∨ n < k) (w : World) :
    Calls Try.prog 10 #[.int .i64 n, .int .i64 k] w (ResP 0 0 w) := by
  have cs := fun w => size_any n true (Lib.hid (decide_eq_true ⟨h0, h1⟩).symm) w
  have B0 := (Kp.start w).al1 #[.slice none 0 0] 24
  have xs := B0.b0.one
  by_cases hk : k < 0
  · go_enter Try.func10, Try.ntmps10
    go_wp2_with (go_at_call 26; refine (cs _).mono ?_; rintro e w' ⟨rfl, rfl⟩)
    refine bodyPost_ret (v := .tuple #[.agg #[.slice none 0 0], .int .i64 0]) (by simp [results, Try.results10, go_sem, xs]) rfl ?_
    exact nil_p B0.bel
  · have hn : n < k := by omega
    go_enter Try.func10, Try.ntmps10
    go_wp2_with (go_at_call 26; refine (cs _).mono ?_; rintro e w' ⟨rfl, rfl⟩)
    refine bodyPost_ret (v := .tuple #[.agg #[.slice none 0 0], .int .i64 0]) (by simp [results, Try.results10, go_sem, xs]) rfl ?_
    exact nil_p B0.bel
theorem ch_len {n i : Nat} (h : n ≤ 80) : nlen 4294967296 (ch n i) ≤ 3 := nlen_le (by omega) (Nat.lt_of_le_of_lt (ch_80 h) (by omega))
theorem prod_len {n i m : Nat} (h : n ≤ 80) (hm : m ≤ 80) : nlen 4294967296 (ch n i * m) ≤ 3 := nlen_le (by omega) (by
  have h1 := ch_80 (k := i) h
  have h2 : ch n i * m ≤ 1208925819614629174706176 * 80 := Nat.mul_le_mul h1 hm
  exact Nat.lt_of_le_of_lt h2 (by omega))
theorem small_len {m : Nat} (hm : m ≤ 80) : nlen 4294967296 m ≤ 1 := nlen_le (by omega) (by omega)
theorem val_of {k v : Nat} (hk : k = nlen 4294967296 v) (h : k ≤ 64) : valB k v = true := valB_iff.2 ⟨h, hk.symm⟩
theorem lt_pw {k v : Nat} (hk : k = nlen 4294967296 v) : Hid (v < 4294967296 ^ k) := Lib.hid (by rw [hk]; exact nlen_lt (by omega) v)
/-- a product that fits -/
theorem mul_fit {n X m Y : Nat} (a : n = nlen 4294967296 X) (a2 : n ≤ 64) (b : m = nlen 4294967296 Y) (b2 : m ≤ 64) (h : nlen 4294967296 (X * Y) ≤ 64) : mulV n X m Y = X * Y ∧ mulE n X m Y = 0 := by
  unfold mulV mulE
  rw [val_of a a2, val_of b b2]
  exact ⟨(r_ok h).2, (r_ok h).1⟩
theorem div_fit {n X m Y : Nat} (a : n = nlen 4294967296 X) (a2 : n ≤ 64) (b : m = nlen 4294967296 Y) (b2 : m ≤ 64) (h : 0 < Y) : divQ n X m Y = X / Y ∧ divE n X m Y = 0 := by
  unfold divQ divE dQ dE
  rw [val_of a a2, val_of b b2]
  simp [show Y ≠ 0 by omega]
section
variable {w0 W : World} {x : Option Addr × Nat × Nat} {cs : List (Option Addr × Nat × Nat)} {y0 y1 y2 : Nat × Array Value} {b : Nat} {a : Option Addr} {n c : Nat}
theorem kp_sub {cs cs' : List (Option Addr × Nat × Nat)} {bs bs' : List (Nat × Array Value)} (h : Kp w0 cs bs W) (h1 : ∀ x ∈ cs', x ∈ cs) (h2 : ∀ x ∈ bs', x ∈ bs) : Kp w0 cs' bs' W := ⟨h.bel, fun x hx => h.cel x (h1 x hx), fun x hx => h.blk x (h2 x hx)⟩
theorem ka (h : Kp w0 (x :: cs) [y1, y2] W) (u : Value) (T : TypeId) : Kp w0 [x] [(W.heap.size, #[u]), y1, y2] (W.alloc (.cells #[u] T)) :=
  kp_sub (h.al1 #[u] T) (by simp) (by simp)
theorem kb (h : Kp w0 (x :: cs) [(b, #[.slice a n c]), y1, y2] W) (hl : w0.heap.size ≤ b) (n1 : y1.1 ≠ b) (n2 : y2.1 ≠ b) (u : Value) : Kp w0 [x] [(b, #[u]), y1, y2] (W.setCell ⟨b, 0, none⟩ u) :=
  kp_sub (kp_set h hl (by simp [n1, n2]) u) (by simp) (by simp)
theorem kc (h : Kp w0 (x :: cs) [y0, (b, #[.slice a n c]), y2] W) (hl : w0.heap.size ≤ b) (n2 : y2.1 ≠ b) (u : Value) : Kp w0 [x] [(b, #[u]), y2] (W.setCell ⟨b, 0, none⟩ u) :=
  kp_sub (kp_set (kp_sub h (cs' := [x]) (bs' := [(b, #[.slice a n c]), y2]) (by simp) (by simp)) hl (by simp [n2]) u) (by simp) (by simp)
theorem ke (h : Kp w0 (x :: cs) [(b, #[.slice a n c]), y2] W) (hl : w0.heap.size ≤ b) (n2 : y2.1 ≠ b) (u : Value) : Kp w0 [x] [(b, #[u]), y2] (W.setCell ⟨b, 0, none⟩ u) :=
  kp_sub (kp_set (kp_sub h (cs' := [x]) (bs' := [(b, #[.slice a n c]), y2]) (by simp) (by simp)) hl (by simp [n2]) u) (by simp) (by simp)
theorem kd (h : Kp w0 (x :: cs) [y0, (b, #[.slice a n c])] W) (hl : w0.heap.size ≤ b) (u : Value) : Kp w0 [x] [] (W.setCell ⟨b, 0, none⟩ u) :=
  kp_sub (kp_set (kp_sub h (cs' := [x]) (bs' := [(b, #[.slice a n c])]) (by simp) (by simp)) hl (by simp) u) (by simp) (by simp)
end
set_option maxRecDepth 4000 in
set_option maxHeartbeats 4000000 in
theorem choose_in (n k : Nat) (h1 : n ≤ 80) (hk : k ≤ n) (w : World) :
    Calls Try.prog 10 #[.int .i64 (n : Int), .int .i64 (k : Int)] w (ResP (ch n k) 0 w) := by
  have cs := fun w => size_any (n : Int) true (Lib.hid (decide_eq_true ⟨by omega, by omega⟩).symm) w
  have k0 : decide ((k : Int) < 0) = false := decide_eq_false (by omega)
  have k1 : decide (n < k) = false := decide_eq_false (by omega)
  have ew : IntKind.i64.wrap ((n : Int) - (k : Int)) = ((n - k : Nat) : Int) := by rw [IntWalk.i64_in _ (by omega)]; omega
  obtain ⟨m, hm⟩ : ∃ m, m = min k (n - k) := ⟨_, rfl⟩
  have em : min (k : Int) ((n - k : Nat) : Int) = (m : Int) := by omega
  have hmn : m ≤ n := by omega
  have hck : Hid (ch n m = ch n k) := Lib.hid (by
    by_cases c : k ≤ n - k
    · rw [show m = k by omega]
    · rw [show m = n - k by omega, ch_symm hk])
  clear hm
  have co : ∀ w, Calls Try.prog 27 #[.int .u64 1] w (OfP 1 w) := fun w => of_any 1 (by omega) w
  have S0 := Lib.hid ((Kp.start w).al1 #[.slice none 0 0] 24)
  go_enter Try.func10, Try.ntmps10
  go_wp2_with (first
    | (go_at_call 26; refine (cs _).mono ?_; rintro e w' ⟨rfl, rfl⟩)
    | (go_at_call 27; (with_reducible refine (co _).mono ?_); rintro e w1 ⟨A1, k1, c1, rfl, q, hb⟩; have Q1 := Lib.hid q; have S1 := Lib.hid ((S0.out.below hb).addc q.2.2); clear hb q))
  have S2 := Lib.hid (S1.out.al1 #[.slice A1 k1 c1] 24)
  have hq1 := Q1.out
  obtain ⟨w2, hw2⟩ : ∃ w2, w1.alloc (Obj.cells #[.slice A1 k1 c1] 24) = w2 := ⟨_, rfl⟩
  obtain ⟨p6, hp6⟩ : ∃ p, w1.heap.size = p := ⟨_, rfl⟩
  rw [hw2, hp6] at S2
  rw [hw2, hp6]
  have hk1 : k1 ≤ c1 := hq1.2.1
  have HK1 : Hid (k1 = nlen 4294967296 1) := Lib.hid hq1.1
  have lo6 : w.heap.size < p6 := by rw [← hp6]; exact S1.out.b0.lt
  clear hw2 hp6 hq1 Q1 S1 S0 co cs
  go_loopg [28] m (fun g s28 wr => ∃ (i kV c V : Nat) (A : Option Addr), m - i = g ∧ i ≤ m ∧ s28 = .int .i64 (i : Int) ∧ kV ≤ c ∧ Hid (kV = nlen 4294967296 V) ∧ Hid (V = ch n i) ∧ Hid (Kp w [(A, kV, V)] [(p6, #[.slice A kV c]), (w.heap.size, #[.slice none 0 0])] wr))
  case atStart => exact ⟨0, k1, c1, 1, A1, by omega, by omega, rfl, hk1, HK1, Lib.hid (ch_zero n).symm, S2⟩
  case round =>
    clear S2 HK1 hk1
    obtain ⟨i, kV, c, V, A, hg, hi, rfl, hkc, HV, HVi, S⟩ := hrel
    by_cases hlt : i < m
    · obtain ⟨Y, hY⟩ : ∃ Y, Y = n - i := ⟨_, rfl⟩
      obtain ⟨kY, hkY⟩ : ∃ k, k = nlen 4294967296 Y := ⟨_, rfl⟩
      obtain ⟨P, hP⟩ : ∃ P, P = V * Y := ⟨_, rfl⟩
      obtain ⟨kP, hkP⟩ : ∃ k, k = nlen 4294967296 P := ⟨_, rfl⟩
      obtain ⟨kZ, hkZ⟩ : ∃ k, k = nlen 4294967296 (i + 1) := ⟨_, rfl⟩
      obtain ⟨Q, hQ⟩ : ∃ Q, Q = ch n (i + 1) := ⟨_, rfl⟩
      obtain ⟨kQ, hkQ⟩ : ∃ k, k = nlen 4294967296 Q := ⟨_, rfl⟩
      have lV : kV ≤ 3 := by rw [HV.out, HVi.out]; exact ch_len h1
      have lY : kY ≤ 1 := by rw [hkY]; exact small_len (by omega)
      have lP : kP ≤ 3 := by rw [hkP, hP, HVi.out]; exact prod_len h1 (by omega)
      have lZ : kZ ≤ 1 := by rw [hkZ]; exact small_len (by omega)
      have eQ : P / (i + 1) = Q := by
        have := ch_step n i
        rw [← HVi.out, ← hY, ← hP, ← hQ] at this
        rw [← this]; exact Nat.mul_div_cancel _ (by omega)
      have mf := mul_fit HV.out (by omega) hkY (by omega) (by rw [← hP, ← hkP]; omega)
      have df := div_fit (X := P) (Y := i + 1) hkP (by omega) hkZ (by omega) (by omega)
      rw [← hP] at mf
      rw [eQ] at df
      have co1 : ∀ w, Calls Try.prog 27 #[.int .u64 (Y : Int)] w (OfP Y w) := fun w => of_any Y (by omega) w
      have co2 : ∀ w, Calls Try.prog 27 #[.int .u64 ((i : Int) + 1)] w (OfP (i + 1) w) := fun w => by have := of_any (i + 1) (by omega) w; rwa [Int.natCast_succ] at this
      have cm := fun A D c d w h1 h2 => mul_any A D kV c kY d V Y (lt_pw HV.out) (lt_pw hkY) (by omega) (by omega) w h1 h2
      rw [mf.1, mf.2] at cm
      have cd := fun A D c d w h1 h2 => divmod_any A D kP c kZ d P (i + 1) (lt_pw hkP) (lt_pw hkZ) (by omega) (by omega) w h1 h2
      rw [df.1, df.2] at cd
      have HY := Lib.hid hkY
      have HP := Lib.hid hkP
      have HZ := Lib.hid hkZ
      have HQ := Lib.hid hkQ
      have HQi := Lib.hid hQ
      have e1 : IntKind.i64.wrap ((n : Int) - (i : Int)) = (Y : Int) := by rw [IntWalk.i64_in _ (by omega)]; omega
      have Y8 : Y ≤ 80 := by omega
      have e2 : IntKind.u64.wrap (Y : Int) = (Y : Int) := IntWalk.u64_in _ (by omega)
      have e4 : IntKind.i64.wrap ((i : Int) + 1) = (i : Int) + 1 := IntWalk.i64_in _ (by omega)
      have e3 : IntKind.u64.wrap ((i : Int) + 1) = (i : Int) + 1 := IntWalk.u64_in _ (by omega)
      clear hY hkY hP hkP hkZ hQ hkQ eQ mf df lV lY lP lZ
      go_upto_region 9 with fail
      have x1 := S.out.b0.one
      have ne1 := World.new_ne wr _ x1
      go_cut [8, 9] (fun s8 s9 wx => ∃ (p8 : Nat) (A6 : Option Addr) (c6 : Nat), s8 = .pointer (some ⟨p8, 0, none⟩) ∧ s9 = .int .i64 0 ∧ p6 < p8 ∧ Hid (Kp w [(A6, kP, P)] [(p8, #[.slice A6 kP c6]), (p6, #[.slice A kV c]), (w.heap.size, #[.slice none 0 0])] wx))
      case first =>
        go_region_held3 (fun w' => w'.cell? ⟨p6, 0, none⟩ = some (.slice A kV c)) (go_keep)
          (first
            | (go_at_call 27; first
              | ((with_reducible refine (co1 _).mono ?_); rintro e w5 ⟨A5, n5, c5, rfl, q, hb⟩; obtain ⟨z, q2⟩ := num_at HY.out q; subst z; have S5 := Lib.hid ((S.out.drew.below hb).addc q2); have x5 := S5.out.b0.one; have ne5 := World.new_ne w5 _ x5; clear hb q q2)
              | ((with_reducible refine (co1 _).mono ?_); rintro e w5 ⟨A5, n5, c5, rfl, q, hb⟩; obtain ⟨z, q2⟩ := num_at HY.out q; subst z; have S5b := Lib.hid (((S.out.al1 _ _).drew.below hb).addc q2); have x5 := S5b.out.b1.one; clear hb q q2))
            | (go_at_call 28; first
              | ((with_reducible refine (cm _ _ _ _ _ S5.out.c1 S5.out.c0).mono ?_); rintro e w6 ⟨A6, n6, c6, rfl, q, hb⟩; obtain ⟨z, q2⟩ := num_at HP.out q; subst z; have S6 := Lib.hid ((S5.out.below hb).addc q2); have x6 := S6.out.b0.one; have ne6 := World.new_ne w6 _ x6; clear hb q q2)
              | ((with_reducible refine (cm _ _ _ _ _ (S5.out.al1 _ _).c1 (S5.out.al1 _ _).c0).mono ?_); rintro e w6 ⟨A6, n6, c6, rfl, q, hb⟩; obtain ⟨z, q2⟩ := num_at HP.out q; subst z; have S6 := Lib.hid (((S5.out.al1 _ _).below hb).addc q2); have x6 := S6.out.b1.one; have y6 := S6.out.b0.one; have f6 := S6.out.b0.free 0; have ne6 := ne5; clear hb q q2)
              | ((with_reducible refine (cm _ _ _ _ _ S5b.out.c1 S5b.out.c0).mono ?_); rintro e w6 ⟨A6, n6, c6, rfl, q, hb⟩; obtain ⟨z, q2⟩ := num_at HP.out q; subst z; have S6 := Lib.hid ((S5b.out.below hb).addc q2); have x6 := S6.out.b1.one; have y6 := S6.out.b0.one; have f6 := S6.out.b0.free 0; have ne6 := ne1; clear hb q q2)))
        all_goals go_wp2_with fail
        all_goals go_meet
        all_goals first
          | exact ⟨_, A6, c6, rfl, rfl, S5.out.b0.lt, Lib.hid (kb S6.out S5.out.bel.size (Nat.ne_of_lt S5.out.b0.lt) (Nat.ne_of_lt S5.out.b1.lt) _)⟩
          | exact ⟨_, A6, c6, rfl, rfl, S.out.b0.lt, Lib.hid (kb S6.out S.out.bel.size (Nat.ne_of_lt S.out.b0.lt) (Nat.ne_of_lt S.out.b1.lt) _)⟩
          | exact ⟨_, A6, c6, rfl, rfl, S6.out.b0.lt, Lib.hid (ka S6.out _ _)⟩
      case rest =>
        obtain ⟨p8, A6, c6, rfl, rfl, l68, hk⟩ := hcut
        have ne8 : p6 ≠ p8 := by omega
        have ne8' : p8 ≠ p6 := by omega
        clear x1 ne1 co1 cm S
        have x8 := hk.out.b0.one
        go_upto_region 10 with fail
        go_region_held3 (fun w' => w'.cell? ⟨p8, 0, none⟩ = some (.slice A6 kP c6)) (go_keep)
          (first
            | (go_at_call 27; first
              | ((with_reducible refine (co2 _).mono ?_); rintro e w7 ⟨A7, n7, c7, rfl, q, hb⟩; obtain ⟨z, q2⟩ := num_at HZ.out q; subst z; have S7 := Lib.hid ((hk.out.drew.below hb).addc q2); have x7 := S7.out.b0.one; clear hb q q2))
            | (go_at_call 29; first
              | ((with_reducible refine (cd _ _ _ _ _ S7.out.c1 S7.out.c0).mono ?_); rintro e w9 ⟨A9, n9, c9, A10, n10, c10, rfl, q, q', hb⟩; obtain ⟨z, q2⟩ := num_at HQ.out q; subst z; have qc := q.2.1; have S9 := Lib.hid ((S7.out.below hb).addc q2); have x9 := S9.out.b0.one; have y9 := S9.out.b1.one; have f9 := S9.out.b1.free 0; clear hb q q' q2)))
        go_wp2_with fail
        go_roundg (m - (i + 1))
        case measure => omega
        case rel => exact ⟨i + 1, kQ, c9, Q, A9, rfl, by omega, by go_num, qc, HQ, HQi, Lib.hid (kc S9.out (by omega) (Nat.ne_of_lt lo6) _)⟩
    · obtain rfl : i = m := by omega
      have x1 := S.out.b0.one
      have x2 := S.out.b1.one
      have x3 := S.out.b1.free 0
      have hVk : V = ch n k := HVi.out.trans hck.out
      go_wp2_with fail
      have xs := set_at S.out.b1 (.slice A kV c)
      refine bodyPost_ret (v := .tuple #[.agg #[.slice A kV c], .int .i64 0]) (by simp [results, Try.results10, go_sem, xs]) rfl ?_
      have SE := kd S.out (Nat.le_refl _) (.slice A kV c)
      have hv := HV.out
      rw [← hVk]
      exact ⟨A, kV, c, rfl, ⟨hv, hkc, SE.c0⟩, SE.bel⟩
theorem choose_any (n k : Int) (V : Nat) (E : Int) (hV : Hid (V = chV n k)) (hE : Hid (E = chE n)) (w : World) :
    Calls Try.prog 10 #[.int .i64 n, .int .i64 k] w (ResP V E w) := by
  rw [hV.out, hE.out]
  unfold chV chE
  by_cases h : n < 0 ∨ 80 < n
  · rw [if_pos h, if_pos h]; exact choose_out n k h w
  · rw [if_neg h, if_neg h]
    by_cases h2 : k < 0 ∨ n < k
    · have hz : cC n k = 0 := by
        rcases h2 with h2 | h2
        · exact cC_neg h2
        · exact cC_big (by omega) h2
      rw [hz]; exact choose_zero n k (by omega) (by omega) h2 w
    · obtain ⟨N, rfl⟩ := Int.eq_ofNat_of_zero_le (show 0 ≤ n by omega)
      obtain ⟨K, rfl⟩ := Int.eq_ofNat_of_zero_le (show 0 ≤ k by omega)
      rw [cC_nat]; exact choose_in N K (by omega) (by omega) w

/-! ### the reference's -/
set_option maxHeartbeats 1000000 in
theorem rchoose_out (n k : Int) (h : n < 0 ∨ 80 < n) (w : World) :
    Calls Try.prog 11 #[.int .i64 n, .int .i64 k] w (ResP 0 2 w) := by
  have cs := fun w => in_any n 80 false (Lib.hid (decide_eq_false (by omega)).symm) w
  have B0 := (Kp.start w).al1 #[.slice none 0 0] 24
  have xs := B0.b0.one
  go_enter Try.func11, Try.ntmps11
  go_wp2_with (go_at_call 30; refine (cs _).mono ?_; rintro e w' ⟨rfl, rfl⟩)
  refine bodyPost_ret (v := .tuple #[.agg #[.slice none 0 0], .int .i64 2]) (by simp [results, Try.results11, go_sem, xs]) rfl ?_
  exact nil_p B0.bel
set_option maxHeartbeats 1000000 in
theorem rchoose_zero (n k : Int) (h0 : 0 ≤ n) (h1 : n ≤ 80) (h : k < 0 ∨ n < k) (w : World) :
    Calls Try.prog 11 #[.int .i64 n, .int .i64 k] w (ResP 0 0 w) := by
  have cs := fun w => in_any n 80 true (Lib.hid (decide_eq_true ⟨h0, h1⟩).symm) w
  have ck := fun w => in_any k n false (Lib.hid (decide_eq_false (by omega)).symm) w
  have B0 := (Kp.start w).al1 #[.slice none 0 0] 24
  have xs := B0.b0.one
  go_enter Try.func11, Try.ntmps11
  go_wp2_with (go_at_call 30; first | ((with_reducible refine (cs _).mono ?_); rintro e w' ⟨rfl, rfl⟩) | ((with_reducible refine (ck _).mono ?_); rintro e w' ⟨rfl, rfl⟩))
  refine bodyPost_ret (v := .tuple #[.agg #[.slice none 0 0], .int .i64 0]) (by simp [results, Try.results11, go_sem, xs]) rfl ?_
  exact nil_p B0.bel
set_option maxRecDepth 4000 in
set_option maxHeartbeats 4000000 in
theorem rchoose_in (n k : Nat) (h1 : n ≤ 80) (hk : k ≤ n) (w : World) :
    Calls Try.prog 11 #[.int .i64 (n : Int), .int .i64 (k : Int)] w (ResP (ch n k) 0 w) := by
  have cs := fun w => in_any (n : Int) 80 true (Lib.hid (decide_eq_true ⟨by omega, by omega⟩).symm) w
  have ck := fun w => in_any (k : Int) n true (Lib.hid (decide_eq_true ⟨by omega, by omega⟩).symm) w
  have co : ∀ w, Calls Try.prog 31 #[.int .u64 1] w (OfP 1 w) := fun w => rof_any 1 (by omega) w
  have S0 := Lib.hid ((Kp.start w).al1 #[.slice none 0 0] 24)
  go_enter Try.func11, Try.ntmps11
  go_wp2_with (first
    | (go_at_call 30; first | ((with_reducible refine (cs _).mono ?_); rintro e w' ⟨rfl, rfl⟩) | ((with_reducible refine (ck _).mono ?_); rintro e w' ⟨rfl, rfl⟩))
    | (go_at_call 31; (with_reducible refine (co _).mono ?_); rintro e w1 ⟨A1, k1, c1, rfl, q, hb⟩; have Q1 := Lib.hid q; have S1 := Lib.hid ((S0.out.below hb).addc q.2.2); clear hb q))
  have S2 := Lib.hid (S1.out.al1 #[.slice A1 k1 c1] 24)
  have hq1 := Q1.out
  obtain ⟨w2, hw2⟩ : ∃ w2, w1.alloc (Obj.cells #[.slice A1 k1 c1] 24) = w2 := ⟨_, rfl⟩
  obtain ⟨p6, hp6⟩ : ∃ p, w1.heap.size = p := ⟨_, rfl⟩
  rw [hw2, hp6] at S2
  rw [hw2, hp6]
  have hk1 : k1 ≤ c1 := hq1.2.1
  have HK1 : Hid (k1 = nlen 4294967296 1) := Lib.hid hq1.1
  have lo6 : w.heap.size < p6 := by rw [← hp6]; exact S1.out.b0.lt
  clear hw2 hp6 hq1 Q1 S1 S0 co cs ck
  go_loopg [7] k (fun g s7 wr => ∃ (i kV c V : Nat) (A : Option Addr), k + 1 - i = g ∧ 1 ≤ i ∧ i ≤ k + 1 ∧ s7 = .int .i64 (i : Int) ∧ kV ≤ c ∧ Hid (kV = nlen 4294967296 V) ∧ Hid (V = ch (n - k + (i - 1)) (i - 1)) ∧ Hid (Kp w [(A, kV, V)] [(p6, #[.slice A kV c]), (w.heap.size, #[.slice none 0 0])] wr))
  case atStart => exact ⟨1, k1, c1, 1, A1, by omega, by omega, by omega, rfl, hk1, HK1, Lib.hid (ch_zero _).symm, S2⟩
  case round =>
    clear S2 HK1 hk1
    obtain ⟨i, kV, c, V, A, hg, hi1, hi, rfl, hkc, HV, HVi, S⟩ := hrel
    by_cases hlt : i ≤ k
    · obtain ⟨Y, hY⟩ : ∃ Y, Y = n - k + i := ⟨_, rfl⟩
      obtain ⟨kY, hkY⟩ : ∃ k, k = nlen 4294967296 Y := ⟨_, rfl⟩
      obtain ⟨P, hP⟩ : ∃ P, P = V * Y := ⟨_, rfl⟩
      obtain ⟨kP, hkP⟩ : ∃ k, k = nlen 4294967296 P := ⟨_, rfl⟩
      obtain ⟨kZ, hkZ⟩ : ∃ k, k = nlen 4294967296 i := ⟨_, rfl⟩
      obtain ⟨Q, hQ⟩ : ∃ Q, Q = ch (n - k + i) i := ⟨_, rfl⟩
      obtain ⟨kQ, hkQ⟩ : ∃ k, k = nlen 4294967296 Q := ⟨_, rfl⟩
      have lV : kV ≤ 3 := by rw [HV.out, HVi.out]; exact ch_len (by omega)
      have lY : kY ≤ 1 := by rw [hkY]; exact small_len (by omega)
      have lP : kP ≤ 3 := by rw [hkP, hP, HVi.out]; exact prod_len (by omega) (by omega)
      have lZ : kZ ≤ 1 := by rw [hkZ]; exact small_len (by omega)
      have eQ : P / i = Q := by
        have := ch_absorb (n - k + (i - 1)) (i - 1)
        rw [← HVi.out, show n - k + (i - 1) + 1 = n - k + i by omega, show i - 1 + 1 = i by omega, ← hY, ← hP] at this
        rw [← this, hY, ← hQ]; exact Nat.mul_div_cancel _ (by omega)
      have mf := mul_fit HV.out (by omega) hkY (by omega) (by rw [← hP, ← hkP]; omega)
      have df := div_fit (X := P) (Y := i) hkP (by omega) hkZ (by omega) (by omega)
      rw [← hP] at mf
      rw [eQ] at df
      have co1 : ∀ w, Calls Try.prog 31 #[.int .u64 (Y : Int)] w (OfP Y w) := fun w => rof_any Y (by omega) w
      have co2 : ∀ w, Calls Try.prog 31 #[.int .u64 (i : Int)] w (OfP i w) := fun w => rof_any i (by omega) w
      have cm := fun A D c d w h1 h2 => rxmul_any A D kV c kY d V Y (lt_pw HV.out) (lt_pw hkY) (by omega) (by omega) w h1 h2
      rw [mf.1, mf.2] at cm
      have cd := fun A D c d w h1 h2 => rxdiv_any A D kP c kZ d P i (lt_pw hkP) (lt_pw hkZ) (by omega) (by omega) w h1 h2
      rw [df.1, df.2] at cd
      have HY := Lib.hid hkY
      have HP := Lib.hid hkP
      have HZ := Lib.hid hkZ
      have HQ := Lib.hid hkQ
      have HQi : Hid (Q = ch (n - k + (i + 1 - 1)) (i + 1 - 1)) := Lib.hid (by rw [Nat.add_sub_cancel]; exact hQ)
      have e0 : IntKind.i64.wrap ((n : Int) - (k : Int)) = ((n - k : Nat) : Int) := by rw [IntWalk.i64_in _ (by omega)]; omega
      have e1 : IntKind.i64.wrap (((n - k : Nat) : Int) + (i : Int)) = (Y : Int) := by rw [IntWalk.i64_in _ (by omega)]; omega
      have e2 : IntKind.u64.wrap (Y : Int) = (Y : Int) := IntWalk.u64_in _ (by omega)
      have e3 : IntKind.u64.wrap (i : Int) = (i : Int) := IntWalk.u64_in _ (by omega)
      clear hY hkY hP hkP hkZ hQ hkQ eQ mf df lV lY lP lZ
      go_upto_region 9 with fail
      have x1 := S.out.b0.one
      go_region_with
        (first
          | (go_at_call 31; first
            | ((with_reducible refine (co1 _).mono ?_); rintro e w5 ⟨A5, n5, c5, rfl, q, hb⟩; obtain ⟨z, q2⟩ := num_at HY.out q; subst z; have S5 := Lib.hid ((S.out.drew.below hb).addc q2); have x5 := S5.out.b0.one; clear hb q q2))
          | (go_at_call 32; first
            | ((with_reducible refine (cm _ _ _ _ _ S5.out.c1 S5.out.c0).mono ?_); rintro e w6 ⟨A6, n6, c6, rfl, q, hb⟩; obtain ⟨z, q2⟩ := num_at HP.out q; subst z; have S6 := Lib.hid ((S5.out.below hb).addc q2); have x6 := S6.out.b0.one; have f6 := S6.out.b0.free 0; clear hb q q2)))
      all_goals
        obtain ⟨w8, hw8⟩ : ∃ w8, w6.setCell ⟨p6, 0, none⟩ (.slice A6 kP c6) = w8 := ⟨_, rfl⟩
        have S8 := ke S6.out (by omega) (Nat.ne_of_lt lo6) (.slice A6 kP c6)
        rw [hw8] at S8
        rw [hw8]
        have T8 := Lib.hid S8
        clear hw8 S8 co1 cm x1 x5 x6 f6 S5 S6 S e1 e2
        go_upto_region 10 with fail
        have x8 := T8.out.b0.one
        go_region_with
          (first
            | (go_at_call 31; first
              | ((with_reducible refine (co2 _).mono ?_); rintro e w7 ⟨A7, n7, c7, rfl, q, hb⟩; obtain ⟨z, q2⟩ := num_at HZ.out q; subst z; have S7 := Lib.hid ((T8.out.drew.below hb).addc q2); have x7 := S7.out.b0.one; clear hb q q2))
            | (go_at_call 33; first
              | ((with_reducible refine (cd _ _ _ _ _ S7.out.c1 S7.out.c0).mono ?_); rintro e w9 ⟨A9, n9, c9, A10, n10, c10, rfl, q, q', hb⟩; obtain ⟨z, q2⟩ := num_at HQ.out q; subst z; have qc := q.2.1; have S9 := Lib.hid ((S7.out.below hb).addc q2); have x9 := S9.out.b0.one; have f9 := S9.out.b0.free 0; clear hb q q' q2)))
      all_goals
        go_wp2_with fail
        go_roundg (k - i)
        case measure => omega
        case rel => exact ⟨i + 1, kQ, c9, Q, A9, by omega, by omega, by omega, by go_num, qc, HQ, HQi, Lib.hid (ke S9.out (by omega) (Nat.ne_of_lt lo6) _)⟩
    · obtain rfl : i = k + 1 := by omega
      have x1 := S.out.b0.one
      have x2 := S.out.b1.one
      have x3 := S.out.b1.free 0
      have hVk : V = ch n k := by
        have := HVi.out
        rw [Nat.add_sub_cancel, show n - k + k = n by omega] at this
        exact this
      go_wp2_with fail
      have xs := set_at S.out.b1 (.slice A kV c)
      refine bodyPost_ret (v := .tuple #[.agg #[.slice A kV c], .int .i64 0]) (by simp [results, Try.results11, go_sem, xs]) rfl ?_
      have SE := kd S.out (Nat.le_refl _) (.slice A kV c)
      have hv := HV.out
      rw [← hVk]
      exact ⟨A, kV, c, rfl, ⟨hv, hkc, SE.c0⟩, SE.bel⟩
theorem rchoose_any (n k : Int) (V : Nat) (E : Int) (hV : Hid (V = chV n k)) (hE : Hid (E = chE n)) (w : World) :
    Calls Try.prog 11 #[.int .i64 n, .int .i64 k] w (ResP V E w) := by
  rw [hV.out, hE.out]
  unfold chV chE
  by_cases h : n < 0 ∨ 80 < n
  · rw [if_pos h, if_pos h]; exact rchoose_out n k h w
  · rw [if_neg h, if_neg h]
    by_cases h2 : k < 0 ∨ n < k
    · have hz : cC n k = 0 := by
        rcases h2 with h2 | h2
        · exact cC_neg h2
        · exact cC_big (by omega) h2
      rw [hz]; exact rchoose_zero n k (by omega) (by omega) h2 w
    · obtain ⟨N, rfl⟩ := Int.eq_ofNat_of_zero_le (show 0 ≤ n by omega)
      obtain ⟨K, rfl⟩ := Int.eq_ofNat_of_zero_le (show 0 ≤ k by omega)
      rw [cC_nat]; exact rchoose_in N K (by omega) (by omega) w
end Go.Proofs.Ytjblfmgiafdefaa.cbG

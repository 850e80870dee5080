/-
  Rows of bytes that grow; the law LexNumbers, over any Scan and Join that keep the record of contracts.
-/
import Derived.Test.YtgmnoghmkbbheaaLxS
namespace Go.Proofs.Ytgmnoghmkbbheaa.lxU
open Go.RowKit
open Go.Proofs.Ytgmnoghmkbbheaa.lxM Go.Proofs.Ytgmnoghmkbbheaa.lxN Go.Proofs.Ytgmnoghmkbbheaa.lxA Go.Proofs.Ytgmnoghmkbbheaa.lxB Go.Proofs.Ytgmnoghmkbbheaa.lxC Go.Proofs.Ytgmnoghmkbbheaa.lxD Go.Proofs.Ytgmnoghmkbbheaa.lxQ Go.Proofs.Ytgmnoghmkbbheaa.lxL Go.Proofs.Ytgmnoghmkbbheaa.lxR
set_option linter.unusedVariables false

/-! ### bytes in memory, rows of bytes that grow -/
abbrev vB (c : UInt8) : Value := .int .u8 (c.toNat : Int)
abbrev cB (l : By) : List Value := l.map vB
def Cb (w : World) (A : Option Addr) (l : By) : Prop :=
  0 < l.length → ∃ b off, A = some ⟨b, off, none⟩ ∧ ∀ j x, l[j]? = some x → w.cell? ⟨b, off + j, none⟩ = some (vB x)
theorem Cb.nil (w : World) (A : Option Addr) : Cb w A [] := fun h => absurd h (by simp)
theorem Cb.at_ {w : World} {A : Option Addr} {l : By} (h : Cb w A l) {k : Nat} (hk : k < l.length) : ∃ b off, A = some ⟨b, off, none⟩ ∧ w.cell? ⟨b, off + k, none⟩ = some (vB (bat l k)) := by
  obtain ⟨b, off, e, hc⟩ := h (by omega)
  exact ⟨b, off, e, hc k _ (bat_some hk)⟩
theorem Cb.below {w w' : World} {A : Option Addr} {l : By} (h : Cb w A l) (hb : Below w.heap.size w w') : Cb w' A l := fun hp => by
  obtain ⟨b, off, e, hc⟩ := h hp
  refine ⟨b, off, e, fun j x hx => ?_⟩
  have h1 := hc j x hx
  rw [hb.cell (p := ⟨b, off + j, none⟩) (World.block_lt_of_cell? w _ h1)]; exact h1
abbrev OwB (w : World) (B : Nat) (v : Value) (l : By) : Prop := w.ownsRow B 5 1 v l.length (cB l)
theorem infoB : (Try.prog.info? 5).map (fun i => (i.zero, i.size, i.bytes)) = some (some (.int .u8 0), 1, 1) := by kernel_rfl
theorem owb_nil (w : World) (B : Nat) : OwB w B (.slice none 0 0) [] := ⟨rfl, .inl ⟨rfl, rfl⟩⟩
theorem owb_form {w : World} {B : Nat} {v : Value} {l : By} (h : OwB w B v l) : ∃ A c, v = .slice A l.length c ∧ l.length ≤ c ∧ Cb w A l := by
  rcases h.2 with ⟨rfl, h0⟩ | ⟨g, cap, cur, rfl, hg, hh, hnc, _, _, htake⟩
  · have hl : l = [] := List.eq_nil_of_length_eq_zero h0
    subst hl
    exact ⟨none, 0, rfl, by simp, Cb.nil _ _⟩
  · refine ⟨some ⟨g, 0, none⟩, cap, rfl, hnc, fun _ => ⟨g, 0, rfl, fun j x hx => ?_⟩⟩
    have hj : j < l.length := (List.getElem?_eq_some_iff.1 hx).1
    have h3 : (cB l)[j]? = some (vB x) := by rw [List.getElem?_map, hx]; rfl
    rw [← htake, List.getElem?_take, if_pos (by omega)] at h3
    rw [Nat.zero_add, cell_of_row w g j _ _ _ hh]
    simpa using h3
theorem push_byte {ops : Array Oper} {rest : List Oper} {o : Oper} {a : Act} {Q : Exit → Act → World → Prop} (hgd : o.guard = none) (s x : Operand) (ho : o.op = .call { callee := .builtin .append, args := #[s, x], argTypes := #[36, 36] })
    (w : World) (B : Nat) (v : Value) (l : By) (y : UInt8) (hs : a.eval s = v) (hown : OwB w B v l) (hx : a.eval x = .slice (some ⟨w.heap.size, 0, none⟩) 1 1) (hn : l.length ≤ 1000000000) (hB : B ≤ w.heap.size)
    (h : ∀ v' w1, OwB w1 B v' (l ++ [y]) → Below B w w1 → wpList Try.prog ops Q rest (a.put o.dst v') w1) :
    wpList Try.prog ops Q (o :: rest) a (w.alloc (.cells #[vB y] 5)) := by
  obtain ⟨i0, hi0, hz0, hz1, hz2⟩ := info_parts infoB
  refine wpList_append_own _ hgd s x 36 ho B 5 i0 (.int .u8 0) 1 1 Try.underlying36 hi0 hz0 hz1 hz2 rfl (by omega) v l.length _ hs (World.ownsRow.alloc hown _) ⟨w.heap.size, 0, none⟩ 1 1 [vB y] hx rfl (World.news_of_block (cs := #[vB y]) (t := 5) (fr := (0, 0)) (heap_alloc_new w _)) (by simp [Value.oneCell']) (by unfold maxLen; omega) (by omega) (by simp; omega) ?_
  intro v' w1 hown1 hgrow _
  refine h v' w1 ?_ (((Below.refl _ w).alloc hB _).grown hgrow (by simp; omega) (fun j hj => ((World.ownsRow.lt hown) j hj).1))
  have e : cB l ++ [vB y] = cB (l ++ [y]) := by simp
  rw [e] at hown1
  have e2 : l.length + 1 = (l ++ [y]).length := by simp
  rw [e2] at hown1
  exact hown1
theorem add_at (b off j : Nat) : (⟨b, off, none⟩ : Addr).add j = ⟨b, off + j, none⟩ := by
  unfold Addr.add; split <;> simp_all
theorem conv_any (W : World) (A : Option Addr) (m c : Nat) (l : By) (hm : l.length = m) (h : Cb W A l) :
    (convert 36 9 (.slice A m c)).run Try.prog W = .ok (.string ⟨l.toArray⟩) W := by
  cases A with
  | none =>
    have h0 : l = [] := by
      apply List.eq_nil_of_length_eq_zero
      rcases Nat.eq_zero_or_pos l.length with h' | h'
      · exact h'
      · obtain ⟨b, off, e, _⟩ := h h'; cases e
    subst h0
    subst hm
    exact Lib.run_convert_nil_bytes W 36 9 5 c Try.underlying36 Try.underlying5 Try.underlying9
  | some ad =>
    have := run_convert_bytes_back (P := Try.prog) W 36 9 5 ad c l Try.underlying36 Try.underlying5 Try.underlying9 (fun j hj => by
      obtain ⟨b, off, e, hc⟩ := h (by omega)
      injection e with e
      subst e
      rw [add_at]
      exact hc j _ (by rw [List.getElem?_eq_getElem hj]))
    rw [hm] at this
    exact this

/-! ### digits of bytes -/
def dg (x : UInt8) : UInt8 := UInt8.ofNat (48 + x.toNat % 10)
theorem dg_nat (x : UInt8) : (dg x).toNat = 48 + x.toNat % 10 := by
  unfold dg
  rw [UInt8.toNat_ofNat', Nat.mod_eq_of_lt (by omega)]
theorem dg_dgt (x : UInt8) : dgt (dg x) = true := by rw [dgt_iff, dg_nat]; omega
theorem dgs_take {B : By} {i : Nat} (h : i < B.length) : (B.take (i + 1)).map dg = (B.take i).map dg ++ [dg (bat B i)] := by
  rw [List.take_add_one, bat_some h, List.map_append]; rfl
/-- what Scan answers of a number between a word and a mark -/
theorem num_pack (P : PLx) (S : ByteArray) (h0 : 0 < S.size) (h4 : S.size ≤ 40) (hd : ∀ c ∈ S.data.toList, dgt c = true) :
    ((18 < S.size ∨ 1 < S.size ∧ (bat S.data.toList 0).toNat = 48) ∧ ∀ w, P.inv w → Calls Try.prog 11 #[.string (⟨#[97, 32]⟩ ++ S ++ ⟨#[59]⟩)] w (ScP w [] 1 2)) ∨
    ((S.size ≤ 18 ∧ (S.size = 1 ∨ (bat S.data.toList 0).toNat ≠ 48)) ∧ ∃ X : List Tk, X.length = 4 ∧ tat X 1 = ⟨2, 1, 3, S⟩ ∧ ∀ w, P.inv w → Calls Try.prog 11 #[.string (⟨#[97, 32]⟩ ++ S ++ ⟨#[59]⟩)] w (ScP w X 0 0)) := by
  have hL : (⟨#[97, 32]⟩ ++ S ++ ⟨#[59]⟩ : ByteArray).data.toList = 97 :: 32 :: (S.data.toList ++ [59]) := by rw [app_list, app_list]; rfl
  have hz : (⟨#[97, 32]⟩ ++ S ++ ⟨#[59]⟩ : ByteArray).size ≤ 32768 := by
    rw [size_len, hL]
    simp; omega
  have hne : S.data.toList ≠ [] := fun e => by rw [size_len, e] at h0; simp at h0
  have hc := fun X E o (h : Out (97 :: 32 :: (S.data.toList ++ [59])) (sk false (97 :: 32 :: (S.data.toList ++ [59]))) [] X E o) w hw => P.scan (⟨#[97, 32]⟩ ++ S ++ ⟨#[59]⟩) X E o hz (Lib.hid (by rw [hL]; exact h)) w hw
  by_cases hb : 18 < S.size ∨ 1 < S.size ∧ (bat S.data.toList 0).toNat = 48
  · exact .inl ⟨hb, fun w hw => hc [] 1 2 (.inr ⟨num_no hne hd (by rw [← size_len]; exact hb), rfl, rfl⟩) w hw⟩
  · have hg : S.size ≤ 18 ∧ (S.size = 1 ∨ (bat S.data.toList 0).toNat ≠ 48) := by
      refine ⟨by omega, ?_⟩
      by_cases h1 : S.size = 1
      · exact .inl h1
      · exact .inr fun e => hb (.inr ⟨by omega, e⟩)
    refine .inr ⟨hg, _, ?_, ?_, fun w hw => hc _ 0 0 (.inl ⟨_, num_ok hne hd (by rw [← size_len]; exact hg.1) (by rw [← size_len]; exact hg.2), rfl, rfl, rfl⟩) w hw⟩
    · rw [List.nil_append, tks_len]; rfl
    · show (⟨2, (ln (97 :: 32 :: (S.data.toList ++ [59])) 2 : Int), ((2 - ls (97 :: 32 :: (S.data.toList ++ [59])) 2 + 1 : Nat) : Int), cut (97 :: 32 :: (S.data.toList ++ [59])) 2 S.data.toList.length⟩ : Tk) = ⟨2, 1, 3, S⟩
      have e1 : cut (97 :: 32 :: (S.data.toList ++ [59])) 2 S.data.toList.length = S := by
        apply text_eq
        simp [cut]
      rw [e1]
      rfl
set_option maxRecDepth 10000 in
set_option maxHeartbeats 4000000 in
theorem numbers (P : PLx) (A : Option Addr) (n c : Nat) (B : By) (hn : Hid (B.length = n)) (hN : n ≤ 9223372036854775807) (w : World) (hC : Cb w A B) (hi : P.inv w) :
    Calls Try.prog 9 #[.slice A n c] w fun e w' => e = .returned (.bool true) ∧ Below w.heap.size w w' := by
  have K0 := Kx.start hi
  clear hi
  by_cases h : n = 0
  · have t : ((n : Int) == 0) = true := by rw [beq_iff_eq]; omega
    clear h
    go_enter Try.func9, Try.ntmps9
    go_wp2_with (go_at_call 10; (refine (awake_any P _ _ K0).mono ?_); rintro e w9 ⟨rfl, K9⟩)
    go_ret
    exact ⟨rfl, K9.bel⟩
  have t : ((n : Int) == 0) = false := by rw [beq_eq_false_iff_ne]; omega
  by_cases h4 : 40 < n
  · have t4 : (40 : Int) < (n : Int) := by omega
    clear h h4
    go_enter Try.func9, Try.ntmps9
    go_wp2_with (go_at_call 10; (refine (awake_any P _ _ K0).mono ?_); rintro e w9 ⟨rfl, K9⟩)
    go_ret
    exact ⟨rfl, K9.bel⟩
  have t4 : ¬ (40 : Int) < (n : Int) := by omega
  have hn4 : n ≤ 40 := by omega
  have hn0 : 0 < n := by omega
  obtain ⟨S, hS⟩ : ∃ S : ByteArray, S.data.toList = B.map dg := ⟨⟨(B.map dg).toArray⟩, rfl⟩
  have hSz : S.size = n := by rw [size_len, hS, List.length_map, hn.out]
  have pack := num_pack P S (by omega) (by omega) (fun c hc => by
    rw [hS] at hc
    obtain ⟨x, _, rfl⟩ := List.mem_map.1 hc
    exact dg_dgt x)
  have HS := Lib.hid hS
  have PK := Lib.hid pack
  clear pack h h4 hS
  have HK := Lib.hid K0
  clear K0
  go_enter Try.func9, Try.ntmps9
  go_wp2_with fail
  go_loopw [3, 4] (fun s3 s4 wr => ∃ i : Nat, i ≤ n ∧ s4 = .int .i64 (i : Int) ∧ Hid (OwB wr w.heap.size s3 ((B.take i).map dg)) ∧ Hid (Below w.heap.size w wr)) (fun _ s4 _ => n - (intOf s4).toNat)
  case atStart => exact ⟨0, Nat.zero_le _, rfl, Lib.hid (by rw [List.take_zero]; exact owb_nil _ _), Lib.hid (Below.refl _ _)⟩
  case round =>
    obtain ⟨i, hi, rfl, HO, HB⟩ := hrel
    have hO : OwB wr w.heap.size u3 ((B.take i).map dg) := HO.out
    by_cases hlt : i < n
    · have hiB : i < B.length := by rw [hn.out]; exact hlt
      obtain ⟨ad, off, rfl, hx⟩ := (hC.below HB.out).at_ hiB
      have hst := dgs_take hiB
      have hl : ((B.take i).map dg).length ≤ 1000000000 := by rw [List.length_map, List.length_take]; omega
      generalize bat B i = x at *
      have e1 : 48 + (x.toNat : Int) % 10 = ((dg x).toNat : Int) := by rw [dg_nat]; omega
      have e2 : IntKind.u8.wrap (48 + (x.toNat : Int) % 10) = ((dg x).toNat : Int) := by rw [IntKind.wrap_u8, dg_nat]; omega
      have i0 : (0 : Int) ≤ (i : Int) := by omega
      have i1 : (i : Int) < (n : Int) := by omega
      have hi1 : i + 1 ≤ n := hlt
      have HST := Lib.hid hst
      clear hst
      go_wp2_with (refine push_byte rfl (.tmp 24) (.tmp 31) rfl wr w.heap.size u3 ((B.take i).map dg) (dg x) (by rfl) hO (by rfl) hl HB.out.size ?_; intro v' w1 O1 B1)
      go_roundw
      case rel => exact ⟨i + 1, hi1, by go_num, Lib.hid (by rw [HST.out]; exact O1), Lib.hid (HB.out.trans B1)⟩
      case measure => simp [intOf]; omega
    · obtain rfl : i = n := by omega
      have e : (B.take i).map dg = S.data.toList := by rw [List.take_of_length_le (by rw [hn.out]; exact Nat.le_refl _), HS.out]
      rw [e] at hO
      obtain ⟨A3, q3, rfl, hc3, hC3⟩ := owb_form hO
      have hcv : (convert 36 9 (.slice A3 S.data.toList.length q3)).run Try.prog wr = .ok (.string S) wr := conv_any wr A3 S.data.toList.length q3 S.data.toList rfl hC3
      have Kr : Hid (Kx P w wr) := Lib.hid (HK.out.on HB.out)
      have s0 : 0 < S.size := by omega
      have hb0 := bat_s S 0 s0
      clear hO HO hC3 e
      generalize S.data.toList.length = m3 at *
      rcases PK.out with ⟨hbad, c1⟩ | ⟨⟨g1, g2⟩, X, hX, hX1, c1⟩
      · have h0 : Hid (([] : List Tk).length = 0) := Lib.hid rfl
        rw [← hb0] at hbad
        have bad : (18 < S.size) ∨ (¬ 18 < S.size ∧ 1 < S.size ∧ (S[0]'s0).toNat = 48) := by omega
        clear hbad PK hb0
        rcases bad with b1 | ⟨b1, b2, b3⟩
        · have f1 : (18 : Int) < (S.size : Int) := by omega
          clear b1
          go_wp2_with (first
            | (go_at_call 11; (with_reducible refine (c1 _ Kr.out.inv).mono ?_); rintro e w1 r1; (obtain ⟨A, q1, rfl, hc, hT, hb⟩ := scn_of h0 r1); have K1 := Kr.out.on hb; clear r1 hb)
            | (go_at_call 10; (refine (awake_any P _ _ K1).mono ?_); rintro e w9 ⟨rfl, K9⟩))
          go_ret
          exact ⟨rfl, K9.bel⟩
        · have f1 : ¬ (18 : Int) < (S.size : Int) := by omega
          have f2 : (1 : Int) < (S.size : Int) := by omega
          have f3 : (((S[0]'s0).toNat : Int) == 48) = true := by rw [beq_iff_eq]; omega
          clear b1 b2 b3
          go_wp2_with (first
            | (go_at_call 11; (with_reducible refine (c1 _ Kr.out.inv).mono ?_); rintro e w1 r1; (obtain ⟨A, q1, rfl, hc, hT, hb⟩ := scn_of h0 r1); have K1 := Kr.out.on hb; clear r1 hb)
            | (go_at_call 10; (refine (awake_any P _ _ K1).mono ?_); rintro e w9 ⟨rfl, K9⟩))
          go_ret
          exact ⟨rfl, K9.bel⟩
      · rw [← hb0] at g2
        have h4 : Hid (X.length = 4) := Lib.hid hX
        have HX1 := Lib.hid hX1
        have f1 : ¬ (18 : Int) < (S.size : Int) := by omega
        have good : (¬ 1 < S.size) ∨ (1 < S.size ∧ (S[0]'s0).toNat ≠ 48) := by omega
        have ss : (S.toList == S.toList) = true := by simp
        clear PK hb0 g1 g2 hX hX1
        rcases good with b2 | ⟨b2, b3⟩
        · have f2 : ¬ (1 : Int) < (S.size : Int) := by omega
          clear b2
          go_wp2_with (first
            | (go_at_call 11; (with_reducible refine (c1 _ Kr.out.inv).mono ?_); rintro e w1 r1; (obtain ⟨A5, q1, rfl, hc, hT, hb⟩ := scn_of h4 r1); have K1 := Kr.out.on hb; (obtain ⟨b5, off5, rfl, x0, x1, x2, x3⟩ := hT.at_ (k := 1) (by rw [h4.out]; omega)); rw [HX1.out] at x0 x1 x2 x3; clear r1 hb)
            | (go_at_call 10; (refine (awake_any P _ _ K1).mono ?_); rintro e w9 ⟨rfl, K9⟩))
          go_ret
          exact ⟨rfl, K9.bel⟩
        · have f2 : (1 : Int) < (S.size : Int) := by omega
          have f3 : (((S[0]'s0).toNat : Int) == 48) = false := by rw [beq_eq_false_iff_ne]; omega
          clear b2 b3
          go_wp2_with (first
            | (go_at_call 11; (with_reducible refine (c1 _ Kr.out.inv).mono ?_); rintro e w1 r1; (obtain ⟨A5, q1, rfl, hc, hT, hb⟩ := scn_of h4 r1); have K1 := Kr.out.on hb; (obtain ⟨b5, off5, rfl, x0, x1, x2, x3⟩ := hT.at_ (k := 1) (by rw [h4.out]; omega)); rw [HX1.out] at x0 x1 x2 x3; clear r1 hb)
            | (go_at_call 10; (refine (awake_any P _ _ K1).mono ?_); rintro e w9 ⟨rfl, K9⟩))
          go_ret
          exact ⟨rfl, K9.bel⟩
end Go.Proofs.Ytgmnoghmkbbheaa.lxU

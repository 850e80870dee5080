/-
  A strings.Builder that a call has made: contracts of its copyCheck, WriteByte, WriteString, String at this program.
-/
import Derived.Test.YtgmnoghmkbbheaaLxA
import Derived.Test.YtgmnoghmkbbheaaShelf
import Derived.Laws.Externs
import Derived.Lib.OthersKept
import Derived.Lib.UnsafeStr
import Derived.Lib.AppendStr
import Derived.Lib.Builder
import Derived.Lib.Hide
namespace Go.Proofs.Ytgmnoghmkbbheaa.lxJ
open Go.RowKit Go.Shelf
open Go.Proofs.Ytgmnoghmkbbheaa.lxM Go.Proofs.Ytgmnoghmkbbheaa.lxN Go.Proofs.Ytgmnoghmkbbheaa.lxA
set_option linter.unusedVariables false

abbrev vS (b : Nat) : Value := .pointer (some ⟨b, 0, none⟩)
abbrev cB (l : By) : List Value := Lib.byteCells l
/-- the builder in block b holds these bytes; p: what it knows of its own place -/
def Bd (w : World) (B b : Nat) (p : Value) (l : By) : Prop :=
  B ≤ b ∧ ∃ v, w.heap[b]? = some (.cells #[p, v] 49 (0, 0)) ∧ w.ownsRow B 5 1 v l.length (cB l) ∧ v.ownBlock ≠ some b
def Bw (w : World) (B b : Nat) (l : By) : Prop := Bd w B b (.pointer none) l ∨ Bd w B b (vS b) l
/-- what a write keeps -/
structure Kept (w : World) (B b : Nat) (w' : World) : Prop where
  bel : Below B w w'
  oth : Lib.OthersKept 5 (some b) w w'
theorem Kept.refl (w : World) (B b : Nat) : Kept w B b w := ⟨Below.refl _ _, Lib.OthersKept.refl _ _ _⟩
theorem Kept.on {w w1 w2 : World} {B b : Nat} (h : Kept w B b w1) (h2 : Kept w1 B b w2) : Kept w B b w2 := ⟨h.bel.trans h2.bel, h.oth.trans h2.oth⟩
theorem Kept.put {w w1 : World} {B b : Nat} (h : Kept w B b w1) (hb : B ≤ b) (j : Nat) (v : Value) : Kept w B b (w1.setCell ⟨b, j, none⟩ v) :=
  ⟨h.bel.setCell (p := ⟨b, j, none⟩) hb v, h.oth.setCell ⟨b, j, none⟩ rfl v⟩
theorem at_lt {w : World} {b : Nat} {o : Obj} (h : w.heap[b]? = some o) : b < w.heap.size := by
  rcases Nat.lt_or_ge b w.heap.size with h' | h'
  · exact h'
  · rw [Array.getElem?_eq_none h'] at h; cases h
theorem row_kept {w w' : World} {B n : Nat} {v : Value} {xs : List Value} (h : w.ownsRow B 5 1 v n xs) (hk : ∀ g, v.ownBlock = some g → w'.heap[g]? = w.heap[g]?) : w'.ownsRow B 5 1 v n xs := by
  refine ⟨h.1, ?_⟩
  rcases h.2 with hn | ⟨g, cap, cur, rfl, hg, hh, r⟩
  · exact .inl hn
  · exact .inr ⟨g, cap, cur, rfl, hg, (hk g rfl).trans hh, r⟩
theorem bd_set0 {w : World} {B b : Nat} {p : Value} {l : By} (h : Bd w B b p l) (q : Value) : Bd (w.setCell ⟨b, 0, none⟩ q) B b q l := by
  obtain ⟨hB, v, hb, ho, hne⟩ := h
  exact ⟨hB, v, by simp [World.setCell, Array.getElem?_modify, hb], row_kept ho fun g hg => Below.heap_setCell w ⟨b, 0, none⟩ q g (fun e => hne (by rw [hg, e])), hne⟩
theorem bw_keep {w w' : World} {B b : Nat} {l : By} (h : Bw w B b l) (hb : Below w.heap.size w w') : Bw w' B b l := by
  have one : ∀ p, Bd w B b p l → Bd w' B b p l := fun p ⟨hB, v, hh, ho, hne⟩ =>
    ⟨hB, v, (hb.block b (at_lt hh)).trans hh, row_kept ho fun g hg => hb.block g (World.ownsRow.lt ho g hg).2, hne⟩
  exact h.elim (fun h => .inl (one _ h)) (fun h => .inr (one _ h))
theorem bw_new (w : World) : Bw (w.alloc (.cells #[.pointer none, .slice none 0 0] 49)) w.heap.size w.heap.size [] :=
  .inl ⟨Nat.le_refl _, .slice none 0 0, heap_alloc_new w _, ⟨rfl, .inl ⟨rfl, rfl⟩⟩, by simp [Value.ownBlock]⟩
theorem bw_lib {w : World} {B b : Nat} {l : By} (h : Bw w B b l) : Lib.IsBuilder 49 5 B b (Lib.byteCells l) w := by
  have one : ∀ p, Bd w B b p l → Lib.BuilderAt 49 5 B b p (Lib.byteCells l) w := fun p ⟨hB, v, hh, ho, hne⟩ =>
    ⟨hB, v, hh, by rw [Lib.byteCells_length]; exact ho, hne⟩
  exact h.elim (fun h => .inl (one _ h)) (fun h => .inr (one _ h))

/-! ### copyCheck -/
theorem infoBd : (Try.prog.info? 49).map (·.size) = some 2 := by kernel_rfl
theorem liesBd : liesAt Try.prog Try.prog.depth 49 (2 / Try.prog.cellsOf 49) 0 49 1 = true := by kernel_rfl
theorem infoB8 : (Try.prog.info? 5).map (fun i => (i.zero, i.size, i.bytes)) = some (some (.int .u8 0), 1, 1) := by kernel_rfl
set_option maxHeartbeats 1000000 in
theorem check_any (B b : Nat) (l : By) (w : World) (h : Bw w B b l) :
    Calls Try.prog 44 #[vS b] w fun e w' => e = .returned (.tuple #[]) ∧ Bd w' B b (vS b) l ∧ Kept w B b w' := by
  obtain ⟨j, hj, hjs⟩ := Option.map_eq_some_iff.1 infoBd
  rcases h with h | h
  · obtain ⟨hB, v, hb, ho, hne⟩ := id h
    have c0 : w.cell? ⟨b, 0, none⟩ = some (.pointer none) := by simp [World.cell?, hb]
    have hsh : w.shape? b = some (49, 2) := by simp [World.shape?, hb]
    have hf : w.frozen? ⟨b, 0, none⟩ = false := by simp [World.frozen?, hb]
    have g1 := Lib.run_to_unsafe (P := Try.prog) w ⟨b, 0, none⟩ Try.underlying47 Try.underlying63 hj (by rw [hjs]; decide) hsh (Nat.zero_lt_succ 1)
    have g2 := Lib.run_from_unsafe (P := Try.prog) w ⟨b, 0, none⟩ Try.underlying63 Try.underlying47 hj hsh liesBd
    have g3 : (callFunc 49 #[vS b]).run Try.prog w = .ok (.value (vS b)) w := by
      rw [run_callFunc_extern Try.func49 (by kernel_rfl) (by kernel_rfl) (by kernel_rfl) (e := Extern.AbiNoEscape.same) (by kernel_rfl), Lib.run_noEscape]
      rfl
    go_enter Try.func44, Try.ntmps44
    go_wp2_with fail
    go_end0
    exact ⟨rfl, bd_set0 h _, (Kept.refl w B b).put hB 0 _⟩
  · obtain ⟨hB, v, hb, ho, hne⟩ := id h
    have c0 : w.cell? ⟨b, 0, none⟩ = some (vS b) := by simp [World.cell?, hb]
    have g1 := Lib.run_neq_ptr_same (P := Try.prog) w ⟨b, 0, none⟩ Try.underlying47 hj
    go_enter Try.func44, Try.ntmps44
    go_wp2_with fail
    go_end0
    exact ⟨rfl, h, Kept.refl _ _ _⟩

/-! ### writes -/
theorem bd_grown {w1 w2 : World} {B b : Nat} {p v v' : Value} {l r : By} (hB : B ≤ b) (hb : w1.heap[b]? = some (.cells #[p, v] 49 (0, 0))) (hb2 : w2.heap[b]? = some (.cells #[p, v] 49 (0, 0)))
    (ho : w2.ownsRow B 5 1 v' (l.length + r.length) (cB l ++ cB r)) : Bd (w2.setCell ⟨b, 1, none⟩ v') B b p (l ++ r) := by
  have hne : v'.ownBlock ≠ some b := Lib.ownBlock_ne ho hb2 (by decide)
  refine ⟨hB, v', by simp [World.setCell, Array.getElem?_modify, hb2], ?_, hne⟩
  have h2 : w2.ownsRow B 5 1 v' (l ++ r).length (cB (l ++ r)) := by
    rw [List.length_append]
    unfold cB
    rw [Lib.byteCells_append]
    exact ho
  exact row_kept h2 fun g hg => Below.heap_setCell w2 ⟨b, 1, none⟩ v' g (fun e => hne (by rw [hg, e]))
theorem own_type {w : World} {B n : Nat} {v : Value} {xs : List Value} (h : w.ownsRow B 5 1 v n xs) : ∀ g, v.ownBlock = some g → ∃ c fz, w.heap[g]? = some (.cells c 5 fz) := by
  intro g hg
  rcases h.2 with ⟨rfl, _⟩ | ⟨g', cap, cur, rfl, _, hh, _⟩
  · simp [Value.ownBlock] at hg
  · simp [Value.ownBlock] at hg
    subst hg
    exact ⟨cur, (0, 0), hh⟩
theorem own_slice {w : World} {B n : Nat} {v : Value} {xs : List Value} (h : w.ownsRow B 5 1 v n xs) : ∃ A n c, v = .slice A n c := by
  rcases h.2 with ⟨hv, _⟩ | ⟨g, cap, cur, hv, _⟩
  · exact ⟨_, _, _, hv⟩
  · exact ⟨_, _, _, hv⟩
theorem kept_grown {w w1 w2 : World} {B b n : Nat} {v : Value} {xs : List Value} (h : Kept w B b w1) (ho : w1.ownsRow B 5 1 v n xs) (hB1 : B ≤ w1.heap.size) (hg : w1.grownBy w2 v.ownBlock) : Kept w B b w2 :=
  ⟨h.bel.grown hg hB1 fun k hk => (World.ownsRow.lt ho k hk).1, h.oth.grown hg (own_type ho)⟩
set_option maxHeartbeats 2000000 in
theorem wstr_any (B b : Nat) (l : By) (s : ByteArray) (w : World) (h : Bw w B b l) (hlen : l.length + s.size ≤ 2000000000) (hBw : B ≤ w.heap.size) :
    Calls Try.prog 26 #[vS b, .string s] w fun e w' => e = .returned (.tuple #[.int .i64 (s.size : Int), .nilIface]) ∧ Bw w' B b (l ++ s.data.toList) ∧ Kept w B b w' := by
  obtain ⟨i0, hi0, hz0, hz1, hz2⟩ := info_parts infoB8
  have cc := check_any B b l w h
  have hl : s.data.toList.length = s.size := (size_len s).symm
  clear h
  go_enter Try.func26, Try.ntmps26
  go_wp2_with (first
    | (go_at_call 44; (refine cc.mono ?_); rintro e w1 ⟨rfl, ⟨hB, v, hb, ho, hne⟩, k1⟩; have c1 : w1.cell? ⟨b, 1, none⟩ = some v := (by simp [World.cell?, hb]); have hB1 : B ≤ w1.heap.size := Nat.le_trans hBw k1.bel.size)
    | (refine Lib.wpList_append_own_string w1 rfl (.tmp 12) (.tmp 13) 36 9 rfl B 5 i0 Try.underlying36 Try.underlying9 hi0 hz0 hz1 hz2 v l.length (cB l) (by rfl) ho s (by rfl) (by unfold maxLen; omega) (by omega) hB1 ?_; intro v' w2 ho2 hg _; have hb2 : w2.heap[b]? = some (.cells #[vS b, v] 49 (0, 0)) := ((hg.block b (at_lt hb) (fun e => hne e.symm)).trans hb); have d1 : w2.cell? ⟨b, 1, none⟩ = some v := (by simp [World.cell?, hb2]); have d2 : w2.frozen? ⟨b, 1, none⟩ = false := (by simp [World.frozen?, hb2]); (obtain ⟨A2, n2, q2, hv2⟩ : ∃ A n c, v' = .slice A n c := own_slice ho2); have fin := bd_grown (l := l) (v' := v') (r := s.data.toList) hB hb hb2 (by rw [hl]; exact ho2); have k2 := (kept_grown k1 ho hB1 hg).put hB 1 v'; clear ho2 hg; subst hv2))

  go_ret2
  exact ⟨rfl, .inr fin, k2⟩
set_option maxHeartbeats 2000000 in
theorem wbyte_any (B b : Nat) (l : By) (c : UInt8) (C : Int) (hC : C = (c.toNat : Int)) (w : World) (h : Bw w B b l) (hlen : l.length + 1 ≤ 2000000000) (hBw : B ≤ w.heap.size) :
    Calls Try.prog 28 #[vS b, .int .u8 C] w fun e w' => e = .returned .nilIface ∧ Bw w' B b (l ++ [c]) ∧ Kept w B b w' := by
  obtain ⟨i0, hi0, hz0, hz1, hz2⟩ := info_parts infoB8
  have cc := check_any B b l w h
  have HC := Lib.hid hC
  clear h hC
  go_enter Try.func28, Try.ntmps28
  go_wp2_with (first
    | (go_at_call 44; (refine cc.mono ?_); rintro e w1 ⟨rfl, ⟨hB, v, hb, ho, hne⟩, k1⟩; have c1 : w1.cell? ⟨b, 1, none⟩ = some v := (by simp [World.cell?, hb]); have hB1 : B ≤ w1.heap.size := Nat.le_trans hBw k1.bel.size)
    | (refine wpList_append_own _ rfl (.tmp 11) (.tmp 13) 36 rfl B 5 i0 (.int .u8 0) 1 1 Try.underlying36 hi0 hz0 hz1 hz2 rfl (by omega) v l.length (cB l) (by rfl) (World.ownsRow.alloc ho _) ⟨w1.heap.size, 0, none⟩ 1 1 [.int .u8 C] (by rfl) rfl (World.news_of_block (cs := #[.int .u8 C]) (t := 5) (fr := (0, 0)) (heap_alloc_new w1 _)) (by simp [Value.oneCell']) (by unfold maxLen; omega) (by omega) (by simp; omega) ?_; intro v' w2 ho2 hg _; have k1' : Kept w B b (w1.alloc (.cells #[.int .u8 C] 5)) := ⟨k1.bel.alloc hB1 _, k1.oth.alloc _⟩; have ho1 := World.ownsRow.alloc ho (.cells #[.int .u8 C] 5); have hb1 : (w1.alloc (.cells #[.int .u8 C] 5)).heap[b]? = some (.cells #[vS b, v] 49 (0, 0)) := ((Lib.alloc_old w1 _ b (at_lt hb)).trans hb); have hb2 : w2.heap[b]? = some (.cells #[vS b, v] 49 (0, 0)) := ((hg.block b (at_lt hb1) (fun e => hne e.symm)).trans hb1); have d1 : w2.cell? ⟨b, 1, none⟩ = some v := (by simp [World.cell?, hb2]); have d2 : w2.frozen? ⟨b, 1, none⟩ = false := (by simp [World.frozen?, hb2]); (obtain ⟨A2, n2, q2, hv2⟩ : ∃ A n c, v' = .slice A n c := own_slice ho2); have fin := bd_grown (l := l) (v' := v') (r := [c]) hB hb1 hb2 (by rw [HC.out] at ho2; exact ho2); have k2 := (kept_grown k1' ho1 (by simp; omega) hg).put hB 1 v'; clear ho2 hg; subst hv2))
  go_ret
  exact ⟨rfl, .inr fin, k2⟩
theorem bstr_any (B b : Nat) (l : By) (w : World) (h : Bw w B b l) (hBw : B ≤ w.heap.size) :
    Calls Try.prog 29 #[vS b] w fun e w' => e = .returned (.string ⟨l.toArray⟩) ∧ Below B w w' := Try.Builder_String_any B b l w (bw_lib h) hBw
end Go.Proofs.Ytgmnoghmkbbheaa.lxJ

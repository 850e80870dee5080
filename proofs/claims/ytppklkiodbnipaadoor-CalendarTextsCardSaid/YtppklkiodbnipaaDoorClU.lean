/-
  Contracts of the reference's Parse: the text's form, the row of numbers, the time.
-/
import Derived.Test.YtppklkiodbnipaaDoorClT
import Derived.Test.YtppklkiodbnipaaDoorClE
import Derived.Deep.OwnRows
import Derived.Deep.RegionHeld3
import Derived.Deep.AppendLies
import Derived.Laws.CopyOwn
import Derived.Deep.RegionLaw
namespace Go.Proofs.YtppklkiodbnipaaDoor.clU
open Go.RowKit
open Go.Proofs.YtppklkiodbnipaaDoor.numT Go.Proofs.YtppklkiodbnipaaDoor.clM Go.Proofs.YtppklkiodbnipaaDoor.clA Go.Proofs.YtppklkiodbnipaaDoor.clB Go.Proofs.YtppklkiodbnipaaDoor.clC Go.Proofs.YtppklkiodbnipaaDoor.clD Go.Proofs.YtppklkiodbnipaaDoor.clE Go.Proofs.YtppklkiodbnipaaDoor.clX Go.Proofs.YtppklkiodbnipaaDoor.clT
set_option linter.unusedVariables false

/-! ### rows of ints that the call makes -/
abbrev cI (zs : List Int) : List Value := zs.map (Value.int .i64)
def at0 (zs : List Int) (k : Nat) : Int := zs.getD k 0
def RowI (w : World) (g : Nat) (zs : List Int) : Prop := w.heap[g]? = some (.cells (cI zs).toArray 3 (0, 0))
theorem lt_of_block {w : World} {g : Nat} {o : Obj} (h : w.heap[g]? = some o) : g < w.heap.size := by
  rcases Nat.lt_or_ge g w.heap.size with h' | h'
  · exact h'
  · rw [Array.getElem?_eq_none h'] at h; cases h
theorem RowI.lt {w : World} {g : Nat} {zs : List Int} (h : RowI w g zs) : g < w.heap.size := lt_of_block h
theorem RowI.cell {w : World} {g : Nat} {zs : List Int} (h : RowI w g zs) {j : Nat} (hj : j < zs.length) : w.cell? ⟨g, j, none⟩ = some (.int .i64 (at0 zs j)) := by
  unfold RowI at h
  simp [World.cell?, h, at0, List.getD, hj]
theorem RowI.below {w v : World} {g : Nat} {zs : List Int} (h : RowI w g zs) (hb : Below w.heap.size w v) : RowI v g zs := (hb.block g h.lt).trans h
theorem RowI.drewN {w : World} {g : Nat} {zs : List Int} (h : RowI w g zs) (k : Nat) : RowI (w.drewN k) g zs := h
theorem infoInt : (Tryd.prog.info? 3).map (fun i => (i.zero, i.size, i.bytes)) = some (some (.int .i64 0), 1, 8) := by kernel_rfl
abbrev OwnI (w : World) (B : Nat) (v : Value) (zs : List Int) (k : Nat) : Prop := w.ownsRow B 3 1 v k (cI zs)
theorem own_nil (w : World) (B : Nat) : OwnI w B (.slice none 0 0) [] 0 := ⟨rfl, .inl ⟨rfl, rfl⟩⟩
theorem own_drewN {w : World} {B : Nat} {v : Value} {zs : List Int} {k : Nat} (h : OwnI w B v zs k) (d : Nat) : OwnI (w.drewN d) B v zs k := h
/-- a row of six, read in its block -/
def Six (w : World) (g : Nat) (zs : List Int) : Prop := ∀ j, j < 6 → w.cell? ⟨g, j, none⟩ = some (.int .i64 (at0 zs j))
theorem Six.below {w v : World} {g : Nat} {zs : List Int} (h : Six w g zs) (hb : Below w.heap.size w v) : Six v g zs := fun j hj => by
  rw [hb.cell (p := ⟨g, j, none⟩) (by
    have := h j hj
    rcases Nat.lt_or_ge g w.heap.size with h' | h'
    · exact h'
    · simp [World.cell?, Array.getElem?_eq_none h'] at this)]
  exact h j hj
theorem own_six {w : World} {B g c : Nat} {zs : List Int} (h : OwnI w B (.slice (some ⟨g, 0, none⟩) 6 c) zs 6) : Six w g zs := by
  rcases h.2 with ⟨h', _⟩ | ⟨g', cap', cur, h', _, hg, _, _, hcs, htake⟩
  · simp at h'
  · simp only [Value.slice.injEq, Option.some.injEq, Addr.mk.injEq, and_true, true_and] at h'
    obtain ⟨rfl, rfl⟩ := h'
    intro j hj
    have hl : zs.length = 6 := by have := h.1; simpa using this
    have h3 : (cI zs)[j]? = some (.int .i64 (at0 zs j)) := by
      rw [List.getElem?_map]; simp [at0, List.getD, show j < zs.length by omega]
    rw [← htake, List.getElem?_take, if_pos (by omega)] at h3
    simp only [World.cell?, hg]
    simpa using h3
def PushedI (w : World) (B : Nat) (v : Value) (n : Nat) (zs : List Int) (g c : Nat) (w1 : World) : Prop :=
  OwnI w1 B (.slice (some ⟨g, 0, none⟩) (n + 1) c) zs (n + 1) ∧ Below B w w1
theorem push_int {ops : Array Oper} {rest : List Oper} {o : Oper} {a : Act} {Q : Exit → Act → World → Prop} (hgd : o.guard = none) (s x : Operand) (ho : o.op = .call { callee := .builtin .append, args := #[s, x], argTypes := #[50, 50] })
    (w : World) (B : Nat) (v : Value) (n : Nat) (zs : List Int) (y : Int) (hs : a.eval s = v) (hown : OwnI w B v zs n) (hx : a.eval x = .slice (some ⟨w.heap.size, 0, none⟩) 1 1) (hn : n ≤ 1000000) (hB : B ≤ w.heap.size)
    (h : ∀ g c w1, PushedI w B v n (zs ++ [y]) g c w1 → wpList Tryd.prog ops Q rest (a.put o.dst (.slice (some ⟨g, 0, none⟩) (n + 1) c)) w1) :
    wpList Tryd.prog ops Q (o :: rest) a (w.alloc (.cells #[.int .i64 y] 3)) := by
  obtain ⟨i0, hi0, hz0, hz1, hz2⟩ := info_parts infoInt
  refine wpList_append_lies _ hgd s x 50 ho B 3 i0 (.int .i64 0) 1 8 Tryd.underlying50 hi0 hz0 hz1 hz2 rfl (by omega) v n _ hs (World.ownsRow.alloc hown _) ⟨w.heap.size, 0, none⟩ 1 1 [.int .i64 y] hx rfl (World.news_of_block (cs := #[.int .i64 y]) (t := 3) (fr := (0, 0)) (heap_alloc_new w _)) (by simp [Value.oneCell']) (by omega) (by unfold maxLen; omega) ?_ (by simp; omega) (w.heap.size + 1) (by simp) ?_
  · omega
  · intro g c w1 hown1 hgrow hat hlt
    have e : cI zs ++ [.int .i64 y] = cI (zs ++ [y]) := by simp [cI]
    rw [e] at hown1
    exact h g c w1 ⟨hown1, ((Below.refl _ w).alloc hB _).grown hgrow (by simp; omega) (fun j hj => ((World.ownsRow.lt hown) j hj).1)⟩

theorem step_push {ops : Array Oper} {o : Oper} {a : Act} {K : Act → World → Prop} {Q : Exit → Act → World → Prop} {F : Prop} (hgd : o.guard = none) (s x : Operand) (ho : o.op = .call { callee := .builtin .append, args := #[s, x], argTypes := #[50, 50] })
    (w : World) (B : Nat) (v : Value) (n : Nat) (zs : List Int) (y : Int) (hs : a.eval s = v) (hown : OwnI w B v zs n) (hx : a.eval x = .slice (some ⟨w.heap.size, 0, none⟩) 1 1) (hn : n ≤ 1000000) (hB : B ≤ w.heap.size)
    (h : ∀ g c w1, PushedI w B v n (zs ++ [y]) g c w1 → K (a.put o.dst (.slice (some ⟨g, 0, none⟩) (n + 1) c)) w1) :
    if Region.wanted o (yielded ops a.tmps) = true then Oper.wp Tryd.prog o a (w.alloc (.cells #[.int .i64 y] 3)) K Q else F := by
  obtain ⟨i0, hi0, hz0, hz1, hz2⟩ := info_parts infoInt
  refine step_append_lies _ hgd s x 50 ho B 3 i0 (.int .i64 0) 1 8 Tryd.underlying50 hi0 hz0 hz1 hz2 rfl (by omega) v n _ hs (World.ownsRow.alloc hown _) ⟨w.heap.size, 0, none⟩ 1 1 [.int .i64 y] hx rfl (World.news_of_block (cs := #[.int .i64 y]) (t := 3) (fr := (0, 0)) (heap_alloc_new w _)) (by simp [Value.oneCell']) (by omega) (by unfold maxLen; omega) ?_ (by simp; omega) (w.heap.size + 1) (by simp) ?_
  · omega
  · intro g c w1 hown1 hgrow hat hlt
    have e : cI zs ++ [.int .i64 y] = cI (zs ++ [y]) := by simp [cI]
    rw [e] at hown1
    exact h g c w1 ⟨hown1, ((Below.refl _ w).alloc hB _).grown hgrow (by simp; omega) (fun j hj => ((World.ownsRow.lt hown) j hj).1)⟩

/-! ### the text's form -/
theorem litd_at (k : Nat) (h : k < (⟨#[100, 100, 100, 100, 45, 100, 100, 45, 100, 100, 32, 100, 100, 58, 100, 100]⟩ : ByteArray).size) : ((⟨#[100, 100, 100, 100, 45, 100, 100, 45, 100, 100, 32, 100, 100, 58, 100, 100]⟩ : ByteArray)[k]).toNat = if pat k = 48 then 100 else pat k := by
  have h' : k < 16 := h
  rcases pats h' with rfl | rfl | rfl | rfl | rfl | rfl | rfl | rfl | rfl | rfl | rfl | rfl | rfl | rfl | rfl | rfl <;> rfl
theorem pat_100 {k : Nat} : pat k ≠ 100 := by unfold pat; split <;> (try split) <;> (try split) <;> omega
set_option maxRecDepth 4000 in
set_option maxHeartbeats 1000000 in
theorem rp_form (s : ByteArray) (hf : frm s.data.toList = false) (hs : s.size ≤ 281474976710656) (w : World) :
    Calls Tryd.prog 23 #[.string s] w fun e w' => e = .returned (.tuple #[.int .i64 0, .int .i64 1]) ∧ ∃ d, w' = w.drewN d := by
  by_cases h16 : s.size = 16
  · have hl : s.data.toList.length = 16 := by rw [← size_len]; exact h16
    have HG : Hid (¬ ∀ k, k < 16 → okAt k (ats s.data.toList k) = true) := Lib.hid fun h => by
      have := frm_iff.2 ⟨hl, h⟩
      rw [hf] at this; cases this
    have t : ((s.size : Int) != 16) = false := by simp; omega
    clear hf hl
    go_enter Tryd.func23, Tryd.ntmps23
    go_wp2_with fail
    go_loopw [5] (fun s5 wr => ∃ k d : Nat, k ≤ 16 ∧ s5 = .int .i64 (k : Int) ∧ Hid (∀ j, j < k → okAt j (ats s.data.toList j) = true) ∧ wr = w.drewN d) (fun s5 _ => 16 - (intOf s5).toNat)
    case atStart => exact ⟨0, 0, by omega, rfl, Lib.hid fun j hj => absurd hj (by omega), rfl⟩
    case round =>
      obtain ⟨k, d, hk, rfl, HK, rfl⟩ := hrel
      by_cases hlt : k < 16
      · have hks : k < s.size := by omega
        have hlt' : (k : Int) < 16 := by omega
        have hp : ∀ h, ((((⟨#[100, 100, 100, 100, 45, 100, 100, 45, 100, 100, 32, 100, 100, 58, 100, 100]⟩ : ByteArray)[k]'h).toNat : Nat) : Int) = ((if pat k = 48 then 100 else pat k : Nat) : Int) := fun h => by rw [litd_at k h]
        have EA := Lib.hid (at_ats s k hks)
        have HN : Hid (okAt k s[k] = true → ∀ j, j < k + 1 → okAt j (ats s.data.toList j) = true) := Lib.hid fun h j hj => by
          by_cases e : j = k
          · rw [e, ← EA.out]; exact h
          · exact HK.out j (by omega)
        by_cases h48 : pat k = 48
        · have hdg : okAt k s[k] = dig s[k] := okAt_dig (pat_dig h48 hlt)
          rw [hdg] at HN
          rw [if_pos h48] at hp
          by_cases c1 : (s[k].toNat : Int) < 48
          · clear HN hdg h48 HG
            go_wp2_with fail
            go_quiet (fail)
            go_wp2_with fail
            go_ret2
            exact ⟨rfl, _, World.drewN_drewN _ _ _⟩
          · have c1' : decide ((s[k].toNat : Int) < 48) = false := decide_eq_false c1
            by_cases c2 : (57 : Int) < (s[k].toNat : Int)
            · clear HN hdg h48 HG c1
              go_wp2_with fail
              go_quiet (fail)
              go_wp2_with fail
              go_ret2
              exact ⟨rfl, _, World.drewN_drewN _ _ _⟩
            · have H2 := Lib.hid (HN.out (dig_yes c1 c2))
              have c2' : decide ((57 : Int) < (s[k].toNat : Int)) = false := decide_eq_false c2
              clear HN hdg h48 c1 c2
              go_wp2_with fail
              go_quiet (fail)
              go_wp2_with fail
              go_roundw
              case rel => exact ⟨k + 1, _, by omega, by go_num, H2, rfl⟩
              case measure => simp [intOf]; omega
        · have hel := pat_else h48 s[k]
          rw [hel] at HN
          rw [if_neg h48] at hp
          have tp : (((pat k : Nat) : Int) == 100) = false := by have := pat_100 (k := k); simp; omega
          have tp2 : (((pat k : Nat) : Int) != 100) = true := by have := pat_100 (k := k); simp; omega
          by_cases c1 : s[k].toNat = pat k
          · have H2 := Lib.hid (HN.out (decide_eq_true c1))
            have c1' : ((s[k].toNat : Int) != ((pat k : Nat) : Int)) = false := by rw [c1]; simp
            clear HN hel h48 c1
            generalize pat k = p at *
            go_wp2_with fail
            go_quiet (fail)
            go_wp2_with fail
            go_roundw
            case rel => exact ⟨k + 1, _, by omega, by go_num, H2, rfl⟩
            case measure => simp [intOf]; omega
          · have c1' : ((s[k].toNat : Int) != ((pat k : Nat) : Int)) = true := by simp; omega
            clear HN hel h48 HG c1
            generalize pat k = p at *
            go_wp2_with fail
            go_quiet (fail)
            go_wp2_with fail
            go_ret2
            exact ⟨rfl, _, World.drewN_drewN _ _ _⟩
      · obtain rfl : k = 16 := by omega
        exact absurd HK.out HG.out
  · have t : ((s.size : Int) != 16) = true := by simp; omega
    clear h16 hf
    go_enter Tryd.func23, Tryd.ntmps23
    go_wp2_with fail
    go_ret2
    exact ⟨rfl, 0, rfl⟩
end Go.Proofs.YtppklkiodbnipaaDoor.clU

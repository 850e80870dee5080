/-
  Rows of bytes that grow; what a step may change; contracts of the reference's Varint, NewWriter and its methods Uint, Int, Text, Ints, Bytes.
-/
import Derived.Test.YtpmmddemeiljjaaWrA
import Derived.Lib.AppendStr
import Derived.Deep.RegionHeld3
import Derived.Deep.RegionLaw
import Derived.Laws.OwnMore
import Derived.Maps.AppendAt
namespace Go.Proofs.Ytpmmddemeiljjaa.wrC
open Go.RowKit
open Go.Proofs.Ytpmmddemeiljjaa.dgM Go.Proofs.Ytpmmddemeiljjaa.wrM Go.Proofs.Ytpmmddemeiljjaa.wrO Go.Proofs.Ytpmmddemeiljjaa.wrA
set_option linter.unusedVariables false

/-! ### rows of bytes that the call has made -/
abbrev OwB (w : World) (B : Nat) (v : Value) (l : List UInt8) : Prop := w.ownsRow B 5 1 v l.length (cB l)
theorem infoB : (Try.prog.info? 5).map (fun i => (i.zero, i.size, i.bytes)) = some (some (.int .u8 0), 1, 1) := by kernel_rfl
theorem cB_len (l : List UInt8) : (cB l).length = l.length := by simp
theorem cB_app (a b : List UInt8) : cB a ++ cB b = cB (a ++ b) := by simp
theorem cB_one (l : List UInt8) : ∀ u ∈ cB l, u.oneCell' = true := by
  intro u hu
  obtain ⟨c, _, rfl⟩ := List.mem_map.1 hu
  rfl
theorem own_nil (w : World) (B : Nat) : OwB w B (.slice none 0 0) [] := ⟨rfl, .inl ⟨rfl, rfl⟩⟩
/-- what a row's slice looks like -/
theorem own_form {w : World} {B : Nat} {v : Value} {l : List UInt8} (h : OwB w B v l) : ∃ A c, v = .slice A l.length c ∧ l.length ≤ c ∧ Cb w A l ∧ (A = none → c = 0) ∧ (∀ g, v.ownBlock = some g → B ≤ g ∧ g < w.heap.size) := by
  have hlt := World.ownsRow.lt h
  rcases h.2 with ⟨rfl, h0⟩ | ⟨g, cap, cur, rfl, hg, hh, hnc, _, _, htake⟩
  · have hl : l = [] := List.eq_nil_of_length_eq_zero h0
    subst hl
    exact ⟨none, 0, rfl, by simp, Cb.nil _ _, fun _ => rfl, hlt⟩
  · refine ⟨some ⟨g, 0, none⟩, cap, rfl, hnc, fun _ => ⟨g, 0, rfl, fun j x hx => ?_⟩, fun e => absurd e (by simp), hlt⟩
    have hj : j < l.length := (List.getElem?_eq_some_iff.1 hx).1
    have h3 : (cB l)[j]? = some (vB x) := by rw [List.getElem?_map, hx]; rfl
    rw [← htake, List.getElem?_take, if_pos (by omega)] at h3
    rw [Nat.zero_add, cell_of_row w g j _ _ _ hh]
    simpa using h3
/-- an append of one byte, laid in a block of its own first -/
theorem push_byte {ops : Array Oper} {rest : List Oper} {o : Oper} {a : Act} {Q : Exit → Act → World → Prop} (hgd : o.guard = none) (s x : Operand) (ho : o.op = .call { callee := .builtin .append, args := #[s, x], argTypes := #[38, 38] })
    (w : World) (B : Nat) (v : Value) (l : List UInt8) (y : UInt8) (hs : a.eval s = v) (hown : OwB w B v l) (hx : a.eval x = .slice (some ⟨w.heap.size, 0, none⟩) 1 1) (hn : l.length ≤ 1000000000) (hB : B ≤ w.heap.size)
    (h : ∀ v' w1, OwB w1 B v' (l ++ [y]) → Below B w w1 → wpList Try.prog ops Q rest (a.put o.dst v') w1) :
    wpList Try.prog ops Q (o :: rest) a (w.alloc (.cells #[vB y] 5)) := by
  obtain ⟨i0, hi0, hz0, hz1, hz2⟩ := info_parts infoB
  refine wpList_append_own _ hgd s x 38 ho B 5 i0 (.int .u8 0) 1 1 Try.underlying38 hi0 hz0 hz1 hz2 rfl (by omega) v l.length _ hs (World.ownsRow.alloc hown _) ⟨w.heap.size, 0, none⟩ 1 1 [vB y] hx rfl (World.news_of_block (cs := #[vB y]) (t := 5) (fr := (0, 0)) (heap_alloc_new w _)) (by simp [Value.oneCell']) (by unfold maxLen; omega) (by omega) (by simp; omega) ?_
  intro v' w1 hown1 hgrow _
  refine h v' w1 ?_ (((Below.refl _ w).alloc hB _).grown hgrow (by simp; omega) (fun j hj => ((World.ownsRow.lt hown) j hj).1))
  have e : cB l ++ [vB y] = cB (l ++ [y]) := cB_app l [y]
  rw [e] at hown1
  have e2 : l.length + 1 = (l ++ [y]).length := by simp
  rw [e2] at hown1
  exact hown1

/-! ### Varint -/
set_option maxRecDepth 10000 in
set_option maxHeartbeats 400000 in
theorem rvarint_any (x : Nat) (hx : x < A64) (w : World) :
    Calls Try.prog 47 #[.int .u64 (x : Int)] w fun e w' => ∃ v, e = .returned v ∧ OwB w' w.heap.size v (vr x) ∧ Below w.heap.size w w' := by
  go_enter Try.func47, Try.ntmps47
  go_wp2_with fail
  go_loopw [0, 3] (fun s0 s3 wr => ∃ (i y : Nat) (l : List UInt8), i ≤ 9 ∧ s0 = .int .u64 (y : Int) ∧ y < A64 ∧ l.length ≤ 10 ∧ OwB wr w.heap.size s3 l ∧ Below w.heap.size w wr ∧ Hid (l ++ vn (i + 1) y = vr x ∧ y < cap (i + 1))) (fun s0 _ _ => (intOf s0).toNat)
  case atStart => exact ⟨9, x, [], by omega, rfl, hx, by simp, own_nil _ _, Below.refl _ _, Lib.hid ⟨rfl, by rw [cap_ten]; exact hx⟩⟩
  case round =>
    obtain ⟨i, y, l, hi, rfl, hy, hl, hO, hB, HV⟩ := hrel
    obtain ⟨A, cc, rfl, _, _, _⟩ := own_form hO
    have hy' : y < 18446744073709551616 := hy
    by_cases hlt : y < 128
    · have t : decide ((128 : Int) ≤ (y : Int)) = false := decide_eq_false (by omega)
      have e : IntKind.u8.wrap (y : Int) = (((by8 y).toNat : Nat) : Int) := by rw [by8_nat (by omega), IntKind.wrap_u8]; omega
      have HE : Hid (l ++ [by8 y] = vr x) := Lib.hid (by rw [← HV.out.1, vn_small hlt])
      clear HV hlt hy hy' hx
      generalize by8 y = c at *
      go_wp2_with (refine push_byte rfl (.tmp 15) (.tmp 18) rfl wr w.heap.size (.slice A l.length cc) l c (by rfl) hO (by rfl) (by omega) hB.size ?_; intro v' w1 O1 B1)
      go_ret
      exact ⟨v', rfl, by rw [← HE.out]; exact O1, hB.trans B1⟩
    · have t : (128 : Int) ≤ (y : Int) := by omega
      have e : IntKind.u8.wrap ((y : Int) % 128 + 128) = (((by8 (y % 128 + 128)).toNat : Nat) : Int) := by rw [by8_nat (by omega), IntKind.wrap_u8]; omega
      have e0 : IntKind.u64.wrap ((y : Int) % 128 + 128) = (y : Int) % 128 + 128 := by rw [IntKind.wrap_u64]; omega
      have e1 : (y : Int) / 128 = ((y / 128 : Nat) : Int) := by omega
      have h0 : i ≠ 0 := fun z => by
        have := HV.out.2
        rw [z] at this
        have h2 : y < 2 := this
        omega
      obtain ⟨j, rfl⟩ : ∃ j, i = j + 1 := ⟨i - 1, by omega⟩
      have HE : Hid (l ++ [by8 (y % 128 + 128)] ++ vn (j + 1) (y / 128) = vr x ∧ y / 128 < cap (j + 1)) := Lib.hid ⟨by rw [← HV.out.1, vn_big hlt, List.append_assoc]; rfl, by
        have : y < 128 * cap (j + 1) := HV.out.2
        omega⟩
      have by2 : y / 128 < A64 := by show y / 128 < 18446744073709551616; omega
      have hl9 : l.length ≤ 9 := by
        have := congrArg List.length HE.out.1
        have h10 := vr_len x
        have hp := vn_pos j (y / 128)
        simp only [List.length_append, List.length_cons, List.length_nil] at this
        omega
      have hm : y / 128 < y := by omega
      have bz : y / 128 < 18446744073709551616 := by omega
      clear HV hlt hy hy' hx h0 hl
      generalize by8 (y % 128 + 128) = c at *
      generalize y / 128 = z at *
      go_wp2_with (refine push_byte rfl (.tmp 6) (.tmp 11) rfl wr w.heap.size (.slice A l.length cc) l c (by rfl) hO (by rfl) (by omega) hB.size ?_; intro v' w1 O1 B1)
      go_roundw
      case rel => exact ⟨j, z, l ++ [c], by omega, rfl, by2, by rw [List.length_append]; simp; omega, O1, hB.trans B1, HE⟩
      case measure => simp [intOf]; omega

/-! ### what a step may change: the blocks F and new ones -/
def Mv (w : World) (F : List Nat) (w' : World) : Prop := w'.os = w.os ∧ w'.tape = w.tape ∧ w'.output = w.output ∧ w.heap.size ≤ w'.heap.size ∧ ∀ k, k < w.heap.size → k ∉ F → w'.heap[k]? = w.heap[k]?
/-- what is held behind it lies in F or is new -/
def Nw (w : World) (F F' : List Nat) : Prop := ∀ k ∈ F', k ∈ F ∨ w.heap.size ≤ k
theorem Mv.refl (w : World) (F : List Nat) : Mv w F w := ⟨rfl, rfl, rfl, Nat.le_refl _, fun _ _ _ => rfl⟩
theorem Nw.refl (w : World) (F : List Nat) : Nw w F F := fun _ h => .inl h
theorem Mv.trans {w w1 w2 : World} {F F1 : List Nat} (h : Mv w F w1) (hn : Nw w F F1) (h2 : Mv w1 F1 w2) : Mv w F w2 :=
  ⟨h2.1.trans h.1, h2.2.1.trans h.2.1, h2.2.2.1.trans h.2.2.1, Nat.le_trans h.2.2.2.1 h2.2.2.2.1, fun k hk hF => by
    rw [h2.2.2.2.2 k (Nat.lt_of_lt_of_le hk h.2.2.2.1) (fun hh => by
      rcases hn k hh with x | x
      · exact hF x
      · omega), h.2.2.2.2 k hk hF]⟩
theorem Nw.trans {w w1 : World} {F F1 F2 : List Nat} (h : Nw w F F1) (hs : w.heap.size ≤ w1.heap.size) (h2 : Nw w1 F1 F2) : Nw w F F2 := fun k hk => by
  rcases h2 k hk with x | x
  · exact h k x
  · exact .inr (by omega)
theorem Mv.of_below {w w' : World} {F : List Nat} (h : Below w.heap.size w w') : Mv w F w' := ⟨h.os, h.tape, h.output, h.size, fun k hk _ => h.block k hk⟩
theorem Mv.size {w w' : World} {F : List Nat} (h : Mv w F w') : w.heap.size ≤ w'.heap.size := h.2.2.2.1
theorem Mv.block {w w' : World} {F : List Nat} (h : Mv w F w') {k : Nat} (hk : k < w.heap.size) (hF : k ∉ F) : w'.heap[k]? = w.heap[k]? := h.2.2.2.2 k hk hF
theorem Mv.drew {w w' : World} {F : List Nat} (h : Mv w F w') (k : Nat) : Mv w F (w'.drewN k) := h
/-- old blocks do not change where only new ones are held -/
theorem Mv.below {w0 w w' : World} {F : List Nat} (h : Mv w F w') (hb : Below w0.heap.size w0 w) (hF : ∀ k ∈ F, w0.heap.size ≤ k) : Below w0.heap.size w0 w' :=
  ⟨h.1.trans hb.os, h.2.1.trans hb.tape, h.2.2.1.trans hb.output, Nat.le_trans hb.size h.size, fun k hk => by
    rw [h.block (Nat.lt_of_lt_of_le hk hb.size) (fun x => by have := hF k x; omega), hb.block k hk]⟩
theorem Cb.mv {w w' : World} {A : Option Addr} {l : List UInt8} {F : List Nat} (h : Cb w A l) (hm : Mv w F w') (hF : ∀ b off, A = some ⟨b, off, none⟩ → b ∉ F) : Cb w' A l := fun hp => by
  obtain ⟨b, off, e, hc⟩ := h hp
  refine ⟨b, off, e, fun j x hx => ?_⟩
  have h1 := hc j x hx
  have hlt : b < w.heap.size := World.block_lt_of_cell? w _ h1
  rw [World.cell?_of_block (w := w) (hm.block hlt (hF b off e))]; exact h1
theorem Ci.mv {w w' : World} {A : Option Addr} {l : List Int} {F : List Nat} (h : Ci w A l) (hm : Mv w F w') (hF : 0 < l.length → ∀ b off, A = some ⟨b, off, none⟩ → b ∉ F) : Ci w' A l := fun hp => by
  obtain ⟨b, off, e, hc⟩ := h hp
  refine ⟨b, off, e, fun j x hx => ?_⟩
  have h1 := hc j x hx
  have hlt : b < w.heap.size := World.block_lt_of_cell? w _ h1
  rw [World.cell?_of_block (w := w) (hm.block hlt (hF hp b off e))]; exact h1
theorem own_mv {w w' : World} {B : Nat} {v : Value} {l : List UInt8} {F : List Nat} (h : OwB w B v l) (hm : Mv w F w') (hF : ∀ g, v.ownBlock = some g → g ∉ F) : OwB w' B v l := by
  refine ⟨h.1, ?_⟩
  rcases h.2 with ⟨rfl, h0⟩ | ⟨g, cap, cur, rfl, hg, hh, r⟩
  · exact .inl ⟨rfl, h0⟩
  · refine .inr ⟨g, cap, cur, rfl, hg, ?_, r⟩
    have hlt : g < w.heap.size := (World.ownsRow.lt h g rfl).2
    rw [hm.block hlt (hF g rfl)]; exact hh

/-! ### a writer -/
/-- the block p holds a slice that owns these bytes; both lie in F -/
def Wr (w : World) (p : Nat) (F : List Nat) (l : List UInt8) : Prop :=
  ∃ v T, w.heap[p]? = some (.cells #[v] T (0, 0)) ∧ OwB w 0 v l ∧ p ∈ F ∧ (∀ g, v.ownBlock = some g → g ∈ F ∧ g ≠ p) ∧ ∀ k ∈ F, k < w.heap.size
theorem Wr.mv {w w' : World} {p : Nat} {F G : List Nat} {l : List UInt8} (h : Wr w p F l) (hm : Mv w G w') (hd : ∀ k ∈ F, k ∉ G) : Wr w' p F l := by
  obtain ⟨v, T, h1, h2, h3, h4, h5⟩ := h
  exact ⟨v, T, by rw [hm.block (h5 p h3) (hd p h3)]; exact h1, own_mv h2 hm (fun g hg => hd g (h4 g hg).1), h3, h4, fun k hk => Nat.lt_of_lt_of_le (h5 k hk) hm.size⟩
/-- a writer's row has grown, and its block holds the new slice -/
theorem Wr.put {w w1 : World} {p : Nat} {F : List Nat} {v v' : Value} {T : TypeId} {l' : List UInt8} (hp : w.heap[p]? = some (.cells #[v] T (0, 0))) (hpF : p ∈ F) (h4 : ∀ g, v.ownBlock = some g → g ∈ F ∧ g ≠ p) (h5 : ∀ k ∈ F, k < w.heap.size)
    (wm : World) (hb : Below w.heap.size w wm) (ho : OwB w1 0 v' l') (hg : wm.grownBy w1 v.ownBlock) (hl : ∀ g, v'.ownBlock = some g → v.ownBlock = some g ∨ w.heap.size ≤ g) :
    ∃ F', Wr (w1.setCell ⟨p, 0, none⟩ v') p F' l' ∧ Mv w F (w1.setCell ⟨p, 0, none⟩ v') ∧ Nw w F F' := by
  have hpl : p < w.heap.size := h5 p hpF
  have hpm : some p ≠ v.ownBlock := fun e => (h4 p e.symm).2 rfl
  have hsz : w.heap.size ≤ w1.heap.size := Nat.le_trans hb.size hg.size
  have hp1 : w1.heap[p]? = some (.cells #[v] T (0, 0)) := by
    rw [hg.block p (Nat.lt_of_lt_of_le hpl hb.size) hpm, hb.block p hpl]; exact hp
  have hne : ∀ g, v'.ownBlock = some g → g ≠ p := fun g e => by
    rcases hl g e with x | x
    · exact (h4 g x).2
    · omega
  refine ⟨p :: (match v'.ownBlock with | some g => [g] | none => []), ⟨v', T, ?_, ?_, by simp, ?_, ?_⟩, ⟨?_, ?_, ?_, ?_, ?_⟩, ?_⟩
  · simp [World.setCell, Array.getElem?_modify, hp1]
  · refine ⟨ho.1, ?_⟩
    rcases ho.2 with ⟨e, h0⟩ | ⟨g, cap, cur, e, hg', hh, r⟩
    · exact .inl ⟨e, h0⟩
    · exact .inr ⟨g, cap, cur, e, hg', by rw [Below.heap_setCell w1 ⟨p, 0, none⟩ v' g (hne g (by rw [e]; rfl))]; exact hh, r⟩
  · intro g e
    exact ⟨by rw [e]; simp, hne g e⟩
  · intro k hk
    have e : (w1.setCell ⟨p, 0, none⟩ v').heap.size = w1.heap.size := by simp [World.setCell]
    rw [e]
    cases hv : v'.ownBlock with
    | none => rw [hv] at hk; simp at hk; omega
    | some g =>
      rw [hv] at hk
      simp at hk
      have := (World.ownsRow.lt ho g hv).2
      rcases hk with rfl | rfl <;> omega
  · exact hg.os.trans hb.os
  · exact hg.tape.trans hb.tape
  · exact hg.output.trans hb.output
  · have e : (w1.setCell ⟨p, 0, none⟩ v').heap.size = w1.heap.size := by simp [World.setCell]
    rw [e]; exact hsz
  · intro k hk hF
    have h1 : k ≠ p := fun e => hF (e ▸ hpF)
    rw [Below.heap_setCell w1 ⟨p, 0, none⟩ v' k h1, hg.block k (Nat.lt_of_lt_of_le hk hb.size) (fun e => hF (h4 k e.symm).1), hb.block k hk]
  · intro k hk
    cases hv : v'.ownBlock with
    | none => rw [hv] at hk; simp at hk; exact .inl (hk ▸ hpF)
    | some g =>
      rw [hv] at hk
      simp at hk
      rcases hk with rfl | rfl
      · exact .inl hpF
      · rcases hl _ hv with x | x
        · exact .inl (h4 _ x).1
        · exact .inr x


/-! ### appends: what is appended, and where the row lies then -/
/-- behind an append -/
def App (w : World) (B : Nat) (v : Value) (l : List UInt8) (v' : Value) (w' : World) : Prop :=
  OwB w' B v' l ∧ w.grownBy w' v.ownBlock ∧ ∀ g, v'.ownBlock = some g → v.ownBlock = some g ∨ w.heap.size ≤ g
theorem App.same {w : World} {B : Nat} {v : Value} {l : List UInt8} (h : OwB w B v l) : App w B v l v w := ⟨h, ⟨rfl, rfl, rfl, Nat.le_refl _, fun _ _ _ => rfl⟩, fun _ e => .inl e⟩
theorem add_at (b off j : Nat) : (⟨b, off, none⟩ : Addr).add j = ⟨b, off + j, none⟩ := by
  unfold Addr.add; split <;> simp_all
theorem cB_news {w : World} {b off : Nat} {r : List UInt8} (h : ∀ j x, r[j]? = some x → w.cell? ⟨b, off + j, none⟩ = some (vB x)) : ∀ j u, (cB r)[j]? = some u → w.cell? ((⟨b, off, none⟩ : Addr).add j) = some u := by
  intro j u hu
  rw [List.getElem?_map] at hu
  obtain ⟨x, hx, rfl⟩ := Option.map_eq_some_iff.1 hu
  rw [add_at]
  exact h j x hx
theorem app_slice (w : World) (ty : TypeId) (B : Nat) (v : Value) (l : List UInt8) (hown : OwB w B v l) (A : Option Addr) (m : Nat) (r : List UInt8) (hm : r.length = m) (hr : Cb w A r) (c : Nat) (hA : A = none → c = 0)
    (h63 : l.length + m ≤ 140737488355328) (hB : B ≤ w.heap.size) :
    ∃ v' w', (Builtin.append_ #[38, 38] ty #[v, .slice A m c]).run Try.prog w = .ok v' w' ∧ App w B v (l ++ r) v' w' := by
  obtain ⟨i0, hi0, hz0, hz1, hz2⟩ := info_parts infoB
  cases A with
  | none =>
    have h0 : r = [] := by
      apply List.eq_nil_of_length_eq_zero
      rcases Nat.eq_zero_or_pos r.length with h | h
      · exact h
      · obtain ⟨b, off, e, _⟩ := hr h; cases e
    subst h0
    subst hm
    obtain rfl := hA rfl
    rw [List.append_nil]
    exact ⟨v, w, run_append_owned_none w B 38 ty 5 i0 1 Try.underlying38 hi0 v l.length (cB l) hown, App.same hown⟩
  | some ad =>
    have hnews : ∀ j u, (cB r)[j]? = some u → w.cell? (ad.add j) = some u := by
      rcases Nat.eq_zero_or_pos r.length with h | h
      · have : r = [] := List.eq_nil_of_length_eq_zero h
        subst this
        intro j u hu; simp at hu
      · obtain ⟨b, off, e, hc⟩ := hr h
        injection e with e
        subst e
        exact cB_news hc
    obtain ⟨v', w', h1, h2, h3, _, h5⟩ := run_append_own_at (P := Try.prog) w B 38 ty 5 i0 (.int .u8 0) 1 1 Try.underlying38 hi0 hz0 hz1 hz2 rfl (by omega) v l.length (cB l) hown ad m c (cB r) (by rw [cB_len, hm, Nat.mul_one]) hnews (cB_one r) (by unfold maxLen; omega) (by omega) hB
    refine ⟨v', w', h1, ?_, h3, fun g e => ?_⟩
    · rw [cB_app] at h2
      rw [← hm, ← List.length_append] at h2
      exact h2
    · rcases h5 with q | q
      · exact .inl (q ▸ e)
      · rw [q] at e
        injection e with e
        exact .inr (by omega)
/-- a string's bytes -/
theorem strCells_cB (s : ByteArray) : Lib.strCells s = cB s.data.toList := by
  simp [Lib.strCells, cB]
theorem app_str (w : World) (ty : TypeId) (B : Nat) (v : Value) (l : List UInt8) (hown : OwB w B v l) (s : ByteArray) (h63 : l.length + s.size ≤ 140737488355328) (hB : B ≤ w.heap.size) :
    ∃ v' w', (Builtin.append_ #[38, 9] ty #[v, .string s]).run Try.prog w = .ok v' w' ∧ App w B v (l ++ s.data.toList) v' w' := by
  obtain ⟨i0, hi0, hz0, hz1, hz2⟩ := info_parts infoB
  have hl : s.data.toList.length = s.size := by show _ = s.data.size; simp
  have fin : ∀ v' w', w'.ownsRow B 5 1 v' (l.length + s.size) (cB l ++ Lib.strCells s) → OwB w' B v' (l ++ s.data.toList) := fun v' w' h => by
    rw [strCells_cB, cB_app, ← hl, ← List.length_append] at h
    exact h
  rcases hown.2 with ⟨rfl, h0⟩ | ⟨g, cap, cur, rfl, hg, hh, hnc, hcm, hcs, htake⟩
  · have h0' : l = [] := List.eq_nil_of_length_eq_zero h0
    subst h0'
    obtain ⟨v', w', h1, h2, h3, _⟩ := Lib.run_append_own_string (P := Try.prog) w w.heap.size 38 9 ty 5 i0 Try.underlying38 Try.underlying9 hi0 hz0 hz1 hz2 (.slice none 0 0) 0 [] (own_nil w w.heap.size) s (by unfold maxLen; simp at h63; omega) (by simp at h63; omega) (Nat.le_refl _)
    refine ⟨v', w', h1, ?_, h3, fun g e => .inr (World.ownsRow.lt h2 g e).1⟩
    refine ⟨?_, ?_⟩
    · simp
    · rcases h2.2 with ⟨rfl, q⟩ | ⟨g, cap, cur, rfl, q1, q2, q3, q4, q5, q6⟩
      · refine .inl ⟨rfl, ?_⟩
        rw [List.nil_append, hl]; omega
      · refine .inr ⟨g, cap, cur, ?_, by omega, q2, ?_, q4, q5, ?_⟩
        · rw [List.nil_append, hl, Nat.zero_add]
        · rw [List.nil_append, hl]; omega
        · rw [List.nil_append, hl, ← strCells_cB]
          simpa using q6
  · by_cases hroom : l.length + s.size ≤ cap
    · have hr := Lib.run_append_room_string (P := Try.prog) w 38 9 ty 5 i0 Try.underlying38 Try.underlying9 hi0 hz1 g l.length cap cur hh s hroom (by omega)
      obtain ⟨v', w', h1, h2, h3, _⟩ := Lib.run_append_own_string (P := Try.prog) w B 38 9 ty 5 i0 Try.underlying38 Try.underlying9 hi0 hz0 hz1 hz2 _ l.length (cB l) hown s (by unfold maxLen; omega) h63 hB
      have e := h1.symm.trans hr
      injection e with e1 e2
      refine ⟨v', w', h1, fin _ _ h2, h3, fun g' eg => .inl ?_⟩
      rw [e1] at eg
      exact eg
    · have holds : ∀ j u, (cB l)[j]? = some u → w.cell? ((⟨g, 0, none⟩ : Addr).add j) = some u := World.ownsRow.cells hown (g := g) rfl
      have hr := Lib.run_append_grow_string (P := Try.prog) w 38 9 ty 5 i0 (.int .u8 0) Try.underlying38 Try.underlying9 hi0 hz0 ⟨g, 0, none⟩ l.length cap (cB l) (by rw [hz1, cB_len, Nat.mul_one]) holds s (by omega) (by omega) (by rw [hz2]; exact growslice_fits (by omega) (by omega))
      obtain ⟨v', w', h1, h2, h3, _⟩ := Lib.run_append_own_string (P := Try.prog) w B 38 9 ty 5 i0 Try.underlying38 Try.underlying9 hi0 hz0 hz1 hz2 _ l.length (cB l) hown s (by unfold maxLen; omega) h63 hB
      have e := h1.symm.trans hr
      injection e with e1 e2
      refine ⟨v', w', h1, fin _ _ h2, h3, fun g' eg => .inr ?_⟩
      rw [e1] at eg
      have : w.heap.size = g' := by injection eg
      omega
/-- the same, behind an append -/
theorem Wr.app {w wm w1 : World} {p : Nat} {F : List Nat} {v v' : Value} {T : TypeId} {l' : List UInt8} (hp : w.heap[p]? = some (.cells #[v] T (0, 0))) (hpF : p ∈ F) (h4 : ∀ g, v.ownBlock = some g → g ∈ F ∧ g ≠ p) (h5 : ∀ k ∈ F, k < w.heap.size)
    (hb : Below w.heap.size w wm) (ha : App wm 0 v l' v' w1) :
    ∃ F', Wr (w1.setCell ⟨p, 0, none⟩ v') p F' l' ∧ Mv w F (w1.setCell ⟨p, 0, none⟩ v') ∧ Nw w F F' :=
  Wr.put hp hpF h4 h5 wm hb ha.1 ha.2.1 fun g e => by
    rcases ha.2.2 g e with x | x
    · exact .inl x
    · exact .inr (Nat.le_trans hb.size x)
/-- the block of a writer is not touched by its append -/
theorem App.keep {wm w1 : World} {p : Nat} {v v' : Value} {T : TypeId} {l' : List UInt8} (ha : App wm 0 v l' v' w1) (hp : wm.heap[p]? = some (.cells #[v] T (0, 0))) (h4 : ∀ g, v.ownBlock = some g → g ≠ p) : w1.heap[p]? = some (.cells #[v] T (0, 0)) := by
  have hlt : p < wm.heap.size := by
    rcases Nat.lt_or_ge p wm.heap.size with h | h
    · exact h
    · rw [Array.getElem?_eq_none h] at hp; cases hp
  rw [ha.2.1.block p hlt (fun e => h4 p e.symm rfl)]; exact hp
theorem free_of {w : World} {p : Nat} {v : Value} {T : TypeId} (h : w.heap[p]? = some (.cells #[v] T (0, 0))) : w.frozen? ⟨p, 0, none⟩ = false := by simp [World.frozen?, h]
end Go.Proofs.Ytpmmddemeiljjaa.wrC

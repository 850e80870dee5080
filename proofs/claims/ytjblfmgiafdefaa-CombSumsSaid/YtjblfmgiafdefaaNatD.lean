/-
  Contracts of slices.Clone, shiftLeft and takeDigit of nat.
-/
import Derived.Test.YtjblfmgiafdefaaNatC
import Derived.Laws.MakeOwn
import Derived.Lib.SliceRun
namespace Go.Proofs.Ytjblfmgiafdefaa.natD
open Go.RowKit
open Go.Proofs.Ytjblfmgiafdefaa.natM Go.Proofs.Ytjblfmgiafdefaa.natA Go.Proofs.Ytjblfmgiafdefaa.natB Go.Proofs.Ytjblfmgiafdefaa.natC
set_option linter.unusedVariables false

theorem infoU : (Try.prog.info? 55).map (fun i => (i.zero, i.size, i.bytes)) = some (some (.int .u32 0), 1, 4) := by kernel_rfl

/-- a copy of a list: new memory, or nil -/
def CloneP (n v : Nat) (w : World) (e : Ending) (w' : World) : Prop :=
  ∃ A c, e = .returned (.slice A n c) ∧ n ≤ c ∧ ((A = none ∧ n = 0) ∨ ∃ g, A = some ⟨g, 0, none⟩ ∧ w.heap.size ≤ g ∧ Own .u32 w' g (dg 4294967296 n v)) ∧ Below w.heap.size w w'

def cells (K : IntKind) (zs : List Nat) : List Value := zs.map fun x : Nat => Value.int K (x : Int)
theorem cells_one {K : IntKind} {zs : List Nat} : ∀ u ∈ cells K zs, u.oneCell' = true := by
  intro u hu
  simp only [cells, List.mem_map] at hu
  obtain ⟨x, _, rfl⟩ := hu; rfl
theorem cells_at {K : IntKind} {zs : List Nat} {j : Nat} {u : Value} (h : (cells K zs)[j]? = some u) : ∃ x, zs[j]? = some x ∧ u = .int K (x : Int) := by
  simp only [cells, List.getElem?_map] at h
  cases e : zs[j]? with
  | none => rw [e] at h; cases h
  | some x => rw [e] at h; injection h with h; exact ⟨x, rfl, h.symm⟩
theorem cells_len (K : IntKind) (zs : List Nat) : (cells K zs).length = zs.length := by simp [cells]

set_option maxHeartbeats 1000000 in
theorem clone_nil (c : Nat) (w : World) : Calls Try.prog 62 #[.slice none 0 c] w fun e w' => e = .returned (.slice none 0 0) ∧ w = w' := by
  have q : ∀ (w : World) (a : Option Addr) (n c n' c' : Nat), (binOp .eql 22 (.slice a n c) (.slice none n' c')).run Try.prog w = .ok (.bool a.isNone) w := fun w a n c n' c' => Lib.run_eql_slice_nil w _ _ a n c n' c' Try.underlying22
  go_enter Try.func62, Try.ntmps62
  go_wp2
  go_ret
  exact ⟨rfl, rfl⟩
/-- a copy of a list that is not nil -/
def CloneS (n v : Nat) (w : World) (e : Ending) (w' : World) : Prop :=
  ∃ g c, e = .returned (.slice (some ⟨g, 0, none⟩) n c) ∧ n ≤ c ∧ w.heap.size ≤ g ∧ Own .u32 w' g (dg 4294967296 n v) ∧ Below w.heap.size w w'
set_option maxRecDepth 4000 in
set_option maxHeartbeats 1000000 in
theorem clone_some (ad : Addr) (n c v : Nat) (hn : n * 4 ≤ 140737488355328) (w : World) (hI : Cel .u32 w (some ad) (dg 4294967296 n v)) :
    Calls Try.prog 62 #[.slice (some ad) n c] w (CloneS n v w) := by
  obtain ⟨i0, hi, hz0, hz1, hz2⟩ := info_parts infoU
  have q : ∀ (w : World) (a : Option Addr) (n c n' c' : Nat), (binOp .eql 22 (.slice a n c) (.slice none n' c')).run Try.prog w = .ok (.bool a.isNone) w := fun w a n c n' c' => Lib.run_eql_slice_nil w _ _ a n c n' c' Try.underlying22
  have HI := Lib.hid (hI.alloc (Obj.cells #[] 55))
  clear hI
  go_enter Try.func62, Try.ntmps62
  go_wp2_with (at_builtin; refine wpList_append_own _ rfl _ _ 22 rfl w.heap.size 55 i0 (.int .u32 0) 1 4 Try.underlying22 hi hz0 hz1 hz2 rfl (by omega) _ _ _ rfl (World.ownsRow_made w #[] 0 (Nat.le_refl _) (Nat.zero_le _) (by simp)) ad n c (cells .u32 (dg 4294967296 n v)) rfl ?qc1 ?qc2 ?qc3 ?qc4 ?qc5 ?qc6 ?_)
  case qc1 => rw [cells_len, dg_len, Nat.mul_one]
  case qc2 =>
    intro j u hj
    obtain ⟨x, hx, rfl⟩ := cells_at hj
    obtain ⟨b2, off2, e, hc⟩ := HI.out (by have := lt_of_some hx; omega)
    injection e with e
    subst e
    rw [Addr.add_lit]
    exact hc j x hx
  case qc3 => exact cells_one
  case qc4 => unfold maxLen; omega
  case qc5 => omega
  case qc6 => simp
  intro v' w1 hown hgrow hnil
  have HO := Lib.hid hown
  have HG := Lib.hid hgrow
  have HN := Lib.hid hnil
  clear hown hgrow hnil
  go_wp2
  go_ret
  rcases HO.out.2 with ⟨e, _⟩ | ⟨g, cap, cur, e, hg, hh, hnc, hcm, hcs, ht⟩
  · exact absurd e HN.out
  · subst e
    have ho : w1.ownsRow w.heap.size 55 1 (.slice (some ⟨g, 0, none⟩) n cap) n (cells .u32 (dg 4294967296 n v)) := HO.out
    refine ⟨g, cap, rfl, by omega, hg, Own.of_own ho, ?_⟩
    exact ((Below.refl _ w).alloc (Nat.le_refl _) _).grown HG.out (by simp) (by intro k hk; simp [Value.ownBlock] at hk; omega)
theorem clone_any (A : Option Addr) (n c v : Nat) (hn : n * 4 ≤ 140737488355328) (w : World) (hI : Cel .u32 w A (dg 4294967296 n v)) :
    Calls Try.prog 62 #[.slice A n c] w (CloneP n v w) := by
  cases A with
  | none =>
    have hn0 : n = 0 := by
      apply Decidable.byContradiction; intro h
      obtain ⟨_, _, e, _⟩ := hI (by rw [dg_len]; omega)
      cases e
    subst hn0
    exact (clone_nil c w).mono fun e w' ⟨he, hw⟩ => ⟨none, 0, he, by omega, .inl ⟨rfl, rfl⟩, by subst hw; exact Below.refl _ _⟩
  | some a => exact (clone_some a n c v hn w hI).mono fun e w' ⟨g, cc, he, hc, hg, ho, hb⟩ => ⟨some ⟨g, 0, none⟩, cc, he, hc, .inr ⟨g, rfl, hg, ho⟩, hb⟩

/-! ### shiftLeft -/
def ShlP (n V : Nat) (w : World) (e : Ending) (w' : World) : Prop :=
  ∃ g, e = .returned (.slice (some ⟨g, 0, none⟩) n n) ∧ w.heap.size ≤ g ∧ Own .u32 w' g (dg 4294967296 n V) ∧ Below w.heap.size w w'
theorem shl_one (s : Nat) (hs : s ≤ 31) : ∃ f : Nat, f = 2 ^ s ∧ (2 : Int) ^ s = (f : Int) ∧ f < 4294967296 := by
  obtain ⟨T, h1, h2, h3⟩ := two_pow_s s hs
  exact ⟨2 ^ s, rfl, by rw [Int.natCast_pow]; rfl, by omega⟩
theorem make_u32 (n : Nat) (hn : n ≤ 1000000) (W : World) : (Instr.makeSlice 22 (.int .i64 (n : Int)) (.int .i64 (n : Int))).run Try.prog W =
    .ok (.slice (some ⟨W.heap.size, 0, none⟩) n n) (W.alloc (.cells ((dg 4294967296 n 0).map fun x : Nat => Value.int .u32 (x : Int)).toArray 55)) := by
  have := run_make_row' (P := Try.prog) 22 55 (.int .u32 0) 4 Try.underlying22 infoU rfl .i64 .i64 n (by omega) (by omega) W
  rw [zero_row .u32 n, ← dg_of_zero 4294967296 n] at this
  exact this

set_option maxHeartbeats 1000000 in
theorem shl_any (A : Option Addr) (n c s X : Nat) (hX : Hid (X < 4294967296 ^ n)) (hs : s ≤ 31) (hn : n ≤ 100000) (w : World) (hI : Cel .u32 w A (dg 4294967296 n X)) :
    Calls Try.prog 64 #[.slice A n c, .int .i64 (s : Int)] w (ShlP (n + 1) (X * 2 ^ s) w) := by
  obtain ⟨f, hf, e1, f1⟩ := shl_one s hs
  have hmk := make_u32 (n + 1) (by omega)
  have own := Own.new_ .u32 w 55 (dg 4294967296 (n + 1) 0) rfl
  have ca := addT_any w.heap.size 0 (n + 1) (n + 1) n c f 0 X A (dg 4294967296 (n + 1) 0) (by rw [dg_len]; omega) (Lib.hid fun j hj => by rw [Nat.zero_add, dg_at hj]) hX f1 (by omega) (by omega) _ own (hI.alloc _) (by have := hI.far (g := w.heap.size) (Nat.le_refl _); rwa [dg_len] at this)
  rw [put_full (by rw [dg_len, dg_len]), Nat.zero_add, hf, Nat.mul_comm, ← hf] at ca
  have HF := Lib.hid hf
  have e0 : ((n + 1 : Nat) : Int) = (n : Int) + 1 := by omega
  rw [e0] at hmk
  clear own hI hf hX
  go_enter Try.func64, Try.ntmps64
  go_wp2_with (go_at_call 47; refine ca.mono ?_; rintro e w1 ⟨rfl, ho, hg⟩; have HO := Lib.hid ho; have HG := Lib.hid hg; clear ho hg)
  go_ret
  refine ⟨w.heap.size, rfl, Nat.le_refl _, by rw [← HF.out]; exact HO.out, ?_⟩
  exact below_grown (below_new _ _) HG.out (Nat.le_refl _) (by simp)
end Go.Proofs.Ytjblfmgiafdefaa.natD

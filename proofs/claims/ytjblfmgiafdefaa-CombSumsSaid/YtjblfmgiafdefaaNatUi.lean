/-
  Of and Uint, of nat and of the reference.
-/
import Derived.Test.YtjblfmgiafdefaaNatX
namespace Go.Proofs.Ytjblfmgiafdefaa.natUi
open Go.RowKit
open Go.Proofs.Ytjblfmgiafdefaa.natM Go.Proofs.Ytjblfmgiafdefaa.natA Go.Proofs.Ytjblfmgiafdefaa.natB Go.Proofs.Ytjblfmgiafdefaa.natC Go.Proofs.Ytjblfmgiafdefaa.natD Go.Proofs.Ytjblfmgiafdefaa.natE Go.Proofs.Ytjblfmgiafdefaa.natF Go.Proofs.Ytjblfmgiafdefaa.natG Go.Proofs.Ytjblfmgiafdefaa.natR Go.Proofs.Ytjblfmgiafdefaa.natS Go.Proofs.Ytjblfmgiafdefaa.natT
set_option linter.unusedVariables false

/-! ### Uint -/
def uOk (n X : Nat) : Bool := valB n X && decide (n ≤ 2)
def uV (n X : Nat) : Nat := if uOk n X = true then X else 0
theorem u_bad {n X : Nat} (h : valB n X = false) : uOk n X = false ∧ uV n X = 0 := by unfold uV uOk; simp [h]
theorem u_long {n X : Nat} (h : 2 < n) : uOk n X = false ∧ uV n X = 0 := by
  have h2 : ¬ n ≤ 2 := by omega
  unfold uV uOk; simp [h2]
theorem u_ok {n X : Nat} (h : valB n X = true) (h2 : n ≤ 2) : uOk n X = true ∧ uV n X = X := by unfold uV uOk; simp [h, h2]
theorem or_shift (a x q : Nat) (ha : a < 2 ^ q) (h : a + x * 2 ^ q < 18446744073709551616) : bits .or .u64 (a : Int) ((x * 2 ^ q : Nat) : Int) = ((a + x * 2 ^ q : Nat) : Int) := by
  rw [bits_or_u64_nat a (x * 2 ^ q) (by omega) (by omega), Nat.or_comm, Nat.mul_comm x, ← Nat.two_pow_add_eq_or_of_lt ha, Nat.add_comm]
theorem uint_round {X n k a x : Nat} (hn : n ≤ 2) (hk : k < n) (hX : X < 4294967296 ^ n) (ha : a = X % 4294967296 ^ k) (hx : x = X / 4294967296 ^ k % 4294967296) :
    ∃ q z a2 : Nat, (k : Int) * 32 = (q : Int) ∧ IntKind.u64.wrap ((x : Int) * 2 ^ q) = (z : Int) ∧ bits .or .u64 (a : Int) (z : Int) = (a2 : Int) ∧ q ≤ 32 ∧ z < 18446744073709551616 ∧ a2 < 18446744073709551616 ∧ x < 4294967296 ∧ a2 = X % 4294967296 ^ (k + 1) := by
  have hx2 : x < 4294967296 := by rw [hx]; exact Nat.mod_lt _ (by omega)
  have ek : k = 0 ∨ k = 1 := by omega
  have e : X % 4294967296 ^ (k + 1) = a + x * 4294967296 ^ k := by rw [ha, hx, Nat.pow_succ, Nat.mod_mul, Nat.mul_comm (4294967296 ^ k)]
  have hp : (4294967296 : Nat) ^ k = 2 ^ (32 * k) := by rw [Nat.pow_mul]
  have hlt : X % 4294967296 ^ (k + 1) < 18446744073709551616 := by
    have h1 := Nat.mod_lt X (Nat.pow_pos (show 0 < 4294967296 by omega) (n := k + 1))
    have h2 : (4294967296 : Nat) ^ (k + 1) ≤ 4294967296 ^ 2 := Nat.pow_le_pow_right (by omega) (by omega)
    have h3 : (4294967296 : Nat) ^ 2 = 18446744073709551616 := by rfl
    omega
  have ha2 : a < 2 ^ (32 * k) := by rw [ha, ← hp]; exact Nat.mod_lt _ (Nat.pow_pos (by omega))
  rw [e, hp] at hlt
  refine ⟨32 * k, x * 2 ^ (32 * k), a + x * 2 ^ (32 * k), by omega, ?_, or_shift a x _ ha2 hlt, by omega, by omega, hlt, hx2, by rw [e, hp]⟩
  rw [IntKind.wrap_u64]
  have e2 : (x : Int) * 2 ^ (32 * k) = ((x * 2 ^ (32 * k) : Nat) : Int) := by rw [Int.natCast_mul, Int.natCast_pow]; rfl
  rw [e2]; omega

/-! ### Of -/
def OfP (v : Nat) (w : World) (e : Ending) (w' : World) : Prop := ∃ A n c, e = .returned (.agg #[.slice A n c]) ∧ Num w' A n c v ∧ Below w.heap.size w w'
theorem two_limbs {w : World} {T : TypeId} {v lo hi : Nat} (hlo : lo = v % 4294967296) (hhi : hi = v / 4294967296 % 4294967296) :
    Own .u32 (w.alloc (.cells #[.int .u32 (lo : Int), .int .u32 (hi : Int)] T)) w.heap.size (dg 4294967296 2 v) := by
  have e : dg 4294967296 2 v = [lo, hi] := by simp only [dg]; rw [hlo, hhi]
  rw [e]
  exact Own.new_ .u32 w T [lo, hi] rfl

set_option maxRecDepth 4000 in
set_option maxHeartbeats 2000000 in
theorem of_any (v : Nat) (hv : v < 18446744073709551616) (w : World) : Calls Try.prog 27 #[.int .u64 (v : Int)] w (OfP v w) := by
  obtain ⟨lo, hlo⟩ : ∃ lo, lo = v % 4294967296 := ⟨_, rfl⟩
  obtain ⟨hi, hhi⟩ : ∃ hi, hi = v / 4294967296 := ⟨_, rfl⟩
  have e1 : bits .and .u64 (v : Int) 4294967295 = (lo : Int) := by rw [hlo]; exact and_mask v hv
  have e2 : (v : Int) / 4294967296 = (hi : Int) := by omega
  have b1 : lo < 4294967296 := by omega
  have b2 : hi < 4294967296 := by omega
  obtain ⟨N, hN⟩ : ∃ N, Hid (N = nlen 4294967296 v) := ⟨_, rfl⟩
  have hv2 : Hid (v < 4294967296 ^ 2) := Lib.hid (by rw [show (4294967296 : Nat) ^ 2 = 18446744073709551616 by rfl]; exact hv)
  have ct : Calls Try.prog 45 #[.slice (some ⟨w.heap.size + 1, 0, none⟩) 2 2] ((w.alloc (.cells #[.slice none 0 0] 24)).alloc (.cells #[.int .u32 (lo : Int), .int .u32 (hi : Int)] 55)) fun e w' => e = .returned (.slice (some ⟨w.heap.size + 1, 0, none⟩) N N) ∧ ((w.alloc (.cells #[.slice none 0 0] 24)).alloc (.cells #[.int .u32 (lo : Int), .int .u32 (hi : Int)] 55)) = w' := by
    have := two_limbs (w := w.alloc (.cells #[.slice none 0 0] 24)) (T := 55) hlo (show hi = v / 4294967296 % 4294967296 by rw [Nat.mod_eq_of_lt (by omega)]; exact hhi)
    rw [show (w.alloc (.cells #[.slice none 0 0] 24)).heap.size = w.heap.size + 1 by simp] at this
    exact trim_any (some ⟨w.heap.size + 1, 0, none⟩) 2 2 v N hv2 hN (by omega) (by omega) _ this.all
  have HO : Hid (∀ o, Own .u32 ((w.alloc o).alloc (.cells #[.int .u32 (lo : Int), .int .u32 (hi : Int)] 55)) (w.heap.size + 1) (dg 4294967296 2 v)) := Lib.hid (fun o => by
    have := two_limbs (w := w.alloc o) (T := 55) hlo (show hi = v / 4294967296 % 4294967296 by rw [Nat.mod_eq_of_lt (by omega)]; exact hhi)
    rw [show (w.alloc o).heap.size = w.heap.size + 1 by simp] at this
    exact this)
  have HN2 : Hid (N ≤ 2) := Lib.hid (by rw [hN.out]; exact nlen_le (by omega) hv2.out)
  clear hlo hhi
  go_enter Try.func27, Try.ntmps27
  go_wp2_with (go_at_call 45; (with_reducible refine ct.mono ?_); rintro e w' ⟨rfl, rfl⟩)
  refine bodyPost_ret (v := .agg #[.slice (some ⟨w.heap.size + 1, 0, none⟩) N N]) (by simp [results, Try.results27, go_sem]) rfl ?_
  exact ⟨_, N, N, rfl, ⟨hN.out, Nat.le_refl _, own_dg (HO.out _) HN2.out⟩, below_two _ _ _⟩

set_option maxRecDepth 4000 in
set_option maxHeartbeats 4000000 in
theorem rof_any (v : Nat) (hv : v < 18446744073709551616) (w : World) : Calls Try.prog 31 #[.int .u64 (v : Int)] w (OfP v w) := by
  have hv2 : Hid (v < 4294967296 ^ 2) := Lib.hid (by rw [show (4294967296 : Nat) ^ 2 = 18446744073709551616 by rfl]; exact hv)
  have HN2 : Hid (nlen 4294967296 v ≤ 2) := Lib.hid (nlen_le (by omega) hv2.out)
  obtain ⟨w2, hw2⟩ : ∃ w2, (w.alloc (.cells #[.slice none 0 0] 24)).alloc (.cells #[.slice none 0 0] 24) = w2 := ⟨_, rfl⟩
  have HX := Lib.hid (hw2 ▸ bx2 w (.slice none 0 0) (.slice none 0 0) 24 24)
  have HB : Hid (Below w.heap.size w w2) := Lib.hid (by rw [← hw2]; exact below_two _ _ _)
  have HZ : Hid (w2.heap.size = w.heap.size + 1 + 1) := Lib.hid (by rw [← hw2]; simp)
  have HW := Lib.hid hw2
  clear hw2
  go_enter Try.func31, Try.ntmps31
  go_wp2_with fail
  rw [HW.out]
  go_loopw [0] (fun s wr => ∃ (k u : Nat) (A1 : Option Addr) (c1 : Nat), k ≤ 2 ∧ s = .int .u64 (u : Int) ∧ u < 18446744073709551616 ∧ Hid (u = v / 4294967296 ^ k ∧ k ≤ nlen 4294967296 v) ∧ Hid (Bx wr w.heap.size (.slice none 0 0)) ∧ Hid (Bx wr (w.heap.size + 1) (.slice A1 k c1)) ∧
      Hid (wr.ownsRow w2.heap.size 55 1 (.slice A1 k c1) k (cells .u32 (dg 4294967296 k v))) ∧ Hid (Below w.heap.size w wr ∧ w2.heap.size ≤ wr.heap.size)) (fun s _ => (intOf s).toNat)
  case atStart => exact ⟨0, v, none, 0, by omega, rfl, hv, Lib.hid ⟨by rw [Nat.pow_zero, Nat.div_one], by omega⟩, Lib.hid HX.out.1, Lib.hid HX.out.2, Lib.hid (World.ownsRow_nil _ _ _ _), Lib.hid ⟨HB.out, Nat.le_refl _⟩⟩
  case round =>
    obtain ⟨k, u, A1, c1, hk2, rfl, hu, huk, hx0, hx1, hown, hbel⟩ := hrel
    have xb := hx1.out.cell
    have fb := hx1.out.free
    by_cases hlt : 0 < u
    · have hkn : k < nlen 4294967296 v := nlen_gt (by omega) (by
        apply Decidable.byContradiction; intro hn0
        have := huk.out.1
        rw [Nat.div_eq_of_lt (by omega)] at this; omega)
      obtain ⟨x, hx⟩ : ∃ x, x = u % 4294967296 := ⟨_, rfl⟩
      obtain ⟨u2, hu2⟩ : ∃ u2, u2 = u / 4294967296 := ⟨_, rfl⟩
      have e1 : (u : Int) % 4294967296 = (x : Int) := by omega
      have e2 : (u : Int) / 4294967296 = (u2 : Int) := by omega
      have b1 : x < 4294967296 := by omega
      have b2 : u2 < u := by omega
      have D : Hid (dg 4294967296 k v ++ [x] = dg 4294967296 (k + 1) v) := Lib.hid (by rw [dg_snoc, hx, huk.out.1])
      have HU : Hid (u2 = v / 4294967296 ^ (k + 1) ∧ k + 1 ≤ nlen 4294967296 v) := Lib.hid ⟨by rw [hu2, huk.out.1, Nat.div_div_eq_div_mul, ← Nat.pow_succ], hkn⟩
      have hk3 : k + 1 ≤ 2 := by have := HN2.out; omega
      have hB2 := hbel.out.2
      clear hx hu2 hkn huk
      go_wp2_with (refine push_u32 (by rfl) (.tmp 7) (.tmp 11) (by rfl) wr w2.heap.size _ k (dg 4294967296 k v) x (by rfl) hown.out (by rfl) (by omega) hB2 ?_; intro g cg w3 hp; rw [D.out] at hp; have HP := Lib.hid hp; have y1 := Lib.hid (show Bx w3 (w.heap.size + 1) (.slice A1 k c1) from (let ⟨T, h⟩ := hx1.out; ⟨T, (hp.2.1.block _ (by have := HZ.out; omega)).trans h⟩)); have y0 := Lib.hid (show Bx w3 w.heap.size (.slice none 0 0) from (let ⟨T, h⟩ := hx0.out; ⟨T, (hp.2.1.block _ (by have := HZ.out; omega)).trans h⟩)); have xb3 := y1.out.cell; have fb3 := y1.out.free; clear hp)
      go_roundw
      case rel =>
        exact ⟨k + 1, u2, some ⟨g, 0, none⟩, cg, hk3, rfl, by omega, HU, Lib.hid (y0.out.far (by simp) _), Lib.hid (set_bx y1.out _), Lib.hid (ownsRow_setCell_below HP.out.1 (by have := HZ.out; simp; omega) _), Lib.hid ⟨(hbel.out.1.trans (HP.out.2.1.mono (by have := HZ.out; omega))).setCell (by simp) _, by have := HP.out.2.1.size; simp [World.setCell]; omega⟩⟩
      case measure => simp [intOf]; omega
    · have hu0 : u = 0 := by omega
      have hkL : Hid (k = nlen 4294967296 v) := Lib.hid (by
        have h1 := huk.out.1
        rw [hu0] at h1
        have h2 : v < 4294967296 ^ k := by
          apply Decidable.byContradiction; intro hn0
          have := Nat.div_pos (show 4294967296 ^ k ≤ v by omega) (Nat.pow_pos (show 0 < 4294967296 by omega))
          omega
        have h3 := nlen_le (B := 4294967296) (by omega) h2
        have := huk.out.2; omega)
      subst hu0
      have xr := hx0.out.cell
      have fr := hx0.out.free
      obtain ⟨A2, c2, hv2', hc2, hcel, hnew⟩ := own_slice hown.out
      injection hv2' with e1 _ e3
      subst e1 e3
      have HC := Lib.hid hcel
      have HNW := Lib.hid hnew
      have xs := set_same hx0.out
      clear hcel hnew
      go_wp2_with fail
      refine bodyPost_ret (v := .agg #[.slice A1 k c1]) (by simp [results, Try.results31, go_sem, xs]) rfl ?_
      exact ⟨A1, k, c1, rfl, ⟨hkL.out, hc2, HC.out.set_ (fun hp ad e => by have := HNW.out ad e; have := HZ.out; simp; omega) _⟩, hbel.out.1.setCell (by simp) _⟩
end Go.Proofs.Ytjblfmgiafdefaa.natUi

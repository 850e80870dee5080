/-
  Plain mathematics: what a writer writes, what a reader reads (a reader is a list of bytes that are left, or an error), frames; what was written is read, what was read was written; a spoilt byte is seen.
-/
import Derived.Test.YtpmmddemeiljjaaWrMath
namespace Go.Proofs.Ytpmmddemeiljjaa.wrO
open Go.Proofs.Ytpmmddemeiljjaa.dgM Go.Proofs.Ytpmmddemeiljjaa.wrM
set_option linter.unusedVariables false

/-! ### what is written -/
def wI (x : Int) : List UInt8 := vr (zz x)
def wT (s : List UInt8) : List UInt8 := vr s.length ++ s
def wN : List Int → List UInt8
  | [] => []
  | x :: l => wI x ++ wN l
def wL (l : List Int) : List UInt8 := vr l.length ++ wN l
theorem wN_append : ∀ (a b : List Int), wN (a ++ b) = wN a ++ wN b
  | [], b => rfl
  | x :: a, b => by rw [List.cons_append, wN, wN, wN_append a b, List.append_assoc]

/-! ### a reader -/
inductive Rs where
  | ok (l : List UInt8)
  | bad (e : Nat)
def Rs.left : Rs → Nat
  | .ok l => l.length
  | .bad _ => 0
def Rs.err : Rs → Nat
  | .ok _ => 0
  | .bad e => e
def rU : Rs → Nat × Rs
  | .bad e => (0, .bad e)
  | .ok l => if (tr l).2.2 = 0 then ((tr l).1, .ok (l.drop (tr l).2.1)) else (0, .bad (tr l).2.2)
def rI (s : Rs) : Int × Rs := (sg (rU s).1, (rU s).2)
/-- a length of at most `most` -/
def rZ (most : Int) (s : Rs) : Nat × Rs :=
  match rU s with
  | (n, .ok r) => if most.toNat < n then (0, .bad 3) else (n, .ok r)
  | (_, .bad e) => (0, .bad e)
def rT (most : Int) (s : Rs) : List UInt8 × Rs :=
  match rZ most s with
  | (n, .ok r) => if r.length < n then ([], .bad 28) else (r.take n, .ok (r.drop n))
  | (_, .bad e) => ([], .bad e)
/-- k elements -/
def rN : Nat → Rs → List Int × Rs
  | 0, s => ([], s)
  | k + 1, s =>
    match rI s with
    | (_, .bad e) => ([], .bad e)
    | (x, .ok r) =>
      match rN k (.ok r) with
      | (xs, .ok r2) => (x :: xs, .ok r2)
      | (_, .bad e) => ([], .bad e)
def rL (most : Int) (s : Rs) : List Int × Rs :=
  match rZ most s with
  | (n, .ok r) => rN n (.ok r)
  | (_, .bad e) => ([], .bad e)
theorem rU_bad (e : Nat) : rU (.bad e) = (0, .bad e) := rfl
theorem rU_ok {l : List UInt8} (h : (tr l).2.2 = 0) : rU (.ok l) = ((tr l).1, .ok (l.drop (tr l).2.1)) := by rw [rU, if_pos h]
theorem rU_no {l : List UInt8} (h : (tr l).2.2 ≠ 0) : rU (.ok l) = (0, .bad (tr l).2.2) := by rw [rU, if_neg h]
theorem rU_lt (s : Rs) : (rU s).1 < A64 := by
  cases s with
  | bad e => show 0 < A64; decide
  | ok l =>
    by_cases h : (tr l).2.2 = 0
    · rw [rU_ok h]; exact (vr_tr h).2.2
    · rw [rU_no h]; show 0 < A64; decide
/-! ### what was written is read -/
theorem drop_append (a b : List UInt8) : (a ++ b).drop a.length = b := by simp
theorem rU_vr {x : Nat} (hx : x < A64) (r : List UInt8) : rU (.ok (vr x ++ r)) = (x, .ok r) := by
  have h := tr_vr hx r
  rw [rU_ok (by rw [h]), h, drop_append]
theorem rI_wI {x : Int} (h0 : -9223372036854775808 ≤ x) (h1 : x ≤ 9223372036854775807) (r : List UInt8) : rI (.ok (wI x ++ r)) = (x, .ok r) := by
  unfold rI wI
  rw [rU_vr (zz_lt h0 h1), sg_zz]
theorem rZ_vr {most : Int} {n : Nat} (hn : n < A64) (hm : n ≤ most.toNat) (r : List UInt8) : rZ most (.ok (vr n ++ r)) = (n, .ok r) := by
  unfold rZ
  rw [rU_vr hn]
  exact if_neg (by omega)
theorem rT_wT {s : List UInt8} (hs : s.length < A64) (r : List UInt8) : rT (s.length : Int) (.ok (wT s ++ r)) = (s, .ok r) := by
  unfold rT wT
  rw [List.append_assoc, rZ_vr hs (by simp)]
  simp only [List.length_append]
  rw [if_neg (by omega)]
  simp
/-- the ints of a list fit -/
def Fit (l : List Int) : Prop := ∀ x ∈ l, -9223372036854775808 ≤ x ∧ x ≤ 9223372036854775807
theorem rN_wN : ∀ (l : List Int) (r : List UInt8), Fit l → rN l.length (.ok (wN l ++ r)) = (l, .ok r)
  | [], r, _ => rfl
  | x :: l, r, h => by
    have hx := h x (by simp)
    rw [List.length_cons, rN, wN, List.append_assoc, rI_wI hx.1 hx.2]
    simp only
    rw [rN_wN l r (fun y hy => h y (by simp [hy]))]
theorem rL_wL {l : List Int} (hl : l.length < A64) (h : Fit l) (r : List UInt8) : rL (l.length : Int) (.ok (wL l ++ r)) = (l, .ok r) := by
  unfold rL wL
  rw [List.append_assoc, rZ_vr hl (by simp)]
  exact rN_wN l r h
/-! ### what was read was written -/
theorem vr_rU {l r : List UInt8} {x : Nat} (h : rU (.ok l) = (x, .ok r)) : vr x ++ r = l := by
  by_cases e : (tr l).2.2 = 0
  · rw [rU_ok e] at h
    have h1 := congrArg Prod.fst h
    have h2 := congrArg Prod.snd h
    simp only [Rs.ok.injEq] at h1 h2
    rw [← h1, ← h2]
    exact (vr_tr e).1
  · rw [rU_no e] at h
    have h2 := congrArg Prod.snd h
    simp only [reduceCtorEq] at h2
theorem wI_rI {l r : List UInt8} {x : Int} (h : rI (.ok l) = (x, .ok r)) : wI x ++ r = l := by
  unfold rI at h
  have h1 := congrArg Prod.fst h
  have h2 := congrArg Prod.snd h
  simp only at h1 h2
  unfold wI
  rw [← h1, zz_sg]
  exact vr_rU (Prod.ext rfl h2)
theorem rZ_inv {most : Int} {s : Rs} {r : List UInt8} {n : Nat} (h : rZ most s = (n, .ok r)) : rU s = (n, .ok r) ∧ n ≤ most.toNat := by
  unfold rZ at h
  split at h
  · rename_i m q e
    split at h
    · have h2 := congrArg Prod.snd h
      simp only [reduceCtorEq] at h2
    · have h1 := congrArg Prod.fst h
      have h2 := congrArg Prod.snd h
      simp only [Rs.ok.injEq] at h1 h2
      subst h1; subst h2
      exact ⟨e, by omega⟩
  · have h2 := congrArg Prod.snd h
    simp only [reduceCtorEq] at h2
theorem wT_rT {most : Int} {l r s : List UInt8} (h : rT most (.ok l) = (s, .ok r)) : wT s ++ r = l := by
  unfold rT at h
  split at h
  · rename_i m q e
    split at h
    · have h2 := congrArg Prod.snd h
      simp only [reduceCtorEq] at h2
    · rename_i hq
      have h1 := congrArg Prod.fst h
      have h2 := congrArg Prod.snd h
      simp only [Rs.ok.injEq] at h1 h2
      have k := vr_rU (rZ_inv e).1
      rw [← h1, ← h2]
      unfold wT
      rw [List.length_take, Nat.min_eq_left (by omega), List.append_assoc, List.take_append_drop]
      exact k
  · have h2 := congrArg Prod.snd h
    simp only [reduceCtorEq] at h2
theorem wN_rN : ∀ (k : Nat) (l r : List UInt8) (xs : List Int), rN k (.ok l) = (xs, .ok r) → wN xs ++ r = l ∧ xs.length = k
  | 0, l, r, xs, h => by
    rw [rN] at h
    have h1 := congrArg Prod.fst h
    have h2 := congrArg Prod.snd h
    simp only [Rs.ok.injEq] at h1 h2
    rw [← h1, ← h2]; exact ⟨rfl, rfl⟩
  | k + 1, l, r, xs, h => by
    rw [rN] at h
    split at h
    · have h2 := congrArg Prod.snd h
      simp only [reduceCtorEq] at h2
    · rename_i x q e
      split at h
      · rename_i ys r2 e2
        have h1 := congrArg Prod.fst h
        have h2 := congrArg Prod.snd h
        simp only [Rs.ok.injEq] at h1 h2
        have i := wN_rN k q r2 ys e2
        rw [← h1, ← h2, wN, List.append_assoc, i.1, List.length_cons, i.2]
        exact ⟨wI_rI e, rfl⟩
      · have h2 := congrArg Prod.snd h
        simp only [reduceCtorEq] at h2
theorem wL_rL {most : Int} {l r : List UInt8} {xs : List Int} (h : rL most (.ok l) = (xs, .ok r)) : wL xs ++ r = l := by
  unfold rL at h
  split at h
  · rename_i m q e
    have k := vr_rU (rZ_inv e).1
    have i := wN_rN m q r xs h
    unfold wL
    rw [i.2, List.append_assoc, i.1]
    exact k
  · have h2 := congrArg Prod.snd h
    simp only [reduceCtorEq] at h2
/-- an error stays, and gives nothing -/
theorem rI_bad (e : Nat) : rI (.bad e) = (0, .bad e) := by
  show (sg 0, Rs.bad e) = _
  rw [show sg 0 = 0 by decide]
theorem rZ_bad (m : Int) (e : Nat) : rZ m (.bad e) = (0, .bad e) := rfl
theorem rT_bad (m : Int) (e : Nat) : rT m (.bad e) = ([], .bad e) := rfl
theorem rL_bad (m : Int) (e : Nat) : rL m (.bad e) = ([], .bad e) := rfl

/-! ### eight bytes of a number -/
def bl (X : Nat) : Nat → List UInt8
  | 0 => []
  | k + 1 => by8 (X / 256 ^ k % 256) :: bl X k
def bv (a : Nat) (l : List UInt8) : Nat := l.foldl (fun a c => 256 * a + c.toNat) a
def bg (X : Nat) : List UInt8 := bl X 8
theorem bl_len (X : Nat) : ∀ k, (bl X k).length = k
  | 0 => rfl
  | k + 1 => by rw [bl, List.length_cons, bl_len X k]
theorem bg_len (X : Nat) : (bg X).length = 8 := bl_len X 8
theorem bv_cons (a : Nat) (c : UInt8) (l : List UInt8) : bv a (c :: l) = bv (256 * a + c.toNat) l := rfl
theorem bv_bl (X : Nat) : ∀ k a, bv a (bl X k) = a * 256 ^ k + X % 256 ^ k
  | 0, a => by rw [bl, Nat.pow_zero, Nat.mod_one, Nat.mul_one]; rfl
  | k + 1, a => by
    rw [bl, bv_cons, bv_bl X k, by8_nat (Nat.mod_lt _ (by omega)), Nat.mod_pow_succ, Nat.pow_succ, Nat.add_mul, Nat.mul_comm (256 ^ k) (X / 256 ^ k % 256)]
    have e : 256 * a * 256 ^ k = a * (256 ^ k * 256) := by rw [Nat.mul_comm (256 ^ k) 256, ← Nat.mul_assoc, Nat.mul_comm a 256]
    rw [e]
    generalize a * (256 ^ k * 256) = A at *
    generalize X / 256 ^ k % 256 * 256 ^ k = B at *
    omega
theorem pow256 : (256 : Nat) ^ 8 = A64 := by decide
theorem bv_bg {X : Nat} (h : X < A64) : bv 0 (bg X) = X := by
  unfold bg; rw [bv_bl, pow256, Nat.zero_mul, Nat.zero_add, Nat.mod_eq_of_lt h]
theorem bg_inj {X Y : Nat} (hX : X < A64) (hY : Y < A64) (h : bg X = bg Y) : X = Y := by rw [← bv_bg hX, ← bv_bg hY, h]
theorem bv_lin : ∀ (l : List UInt8) (a : Nat), bv a l = a * 256 ^ l.length + bv 0 l
  | [], a => by show a = a * 1 + 0; omega
  | c :: l, a => by
    rw [bv_cons, bv_cons, bv_lin l (256 * a + c.toNat), bv_lin l (256 * 0 + c.toNat), List.length_cons, Nat.pow_succ, Nat.add_mul, Nat.add_mul, Nat.mul_comm (256 ^ l.length) 256, ← Nat.mul_assoc a, Nat.mul_comm a 256]
    omega
theorem bv_lt : ∀ (l : List UInt8), bv 0 l < 256 ^ l.length
  | [] => by show 0 < 1; omega
  | c :: l => by
    have i := bv_lt l
    have j := c.toNat_lt
    rw [bv_cons, bv_lin, List.length_cons, Nat.pow_succ, show 256 * 0 + c.toNat = c.toNat by omega]
    have : c.toNat * 256 ^ l.length ≤ 255 * 256 ^ l.length := Nat.mul_le_mul_right _ (by omega)
    omega
theorem bl_bv : ∀ (l : List UInt8) (a : Nat), bl (bv a l) l.length = l
  | [], _ => rfl
  | c :: l, a => by
    have b := bv_lt l
    have j := c.toNat_lt
    rw [List.length_cons, bl, bv_cons, bl_bv l]
    congr 1
    rw [bv_lin, Nat.mul_comm, Nat.mul_add_div (Nat.pow_pos (by omega)), Nat.div_eq_of_lt b, Nat.add_zero, show (256 * a + c.toNat) % 256 = c.toNat by omega, by8_back]
/-- eight bytes are those of a number exactly if they make it -/
theorem bg_bv {l : List UInt8} (h : l.length = 8) : bg (bv 0 l) = l := by
  have := bl_bv l 0
  rw [h] at this
  exact this

/-! ### frames -/
def dg (b : List UInt8) : List UInt8 := bg (sm s0 b)
def fr (b : List UInt8) : List UInt8 := vr b.length ++ b ++ dg b
theorem dg_len (b : List UInt8) : (dg b).length = 8 := bg_len _
theorem s0_lt : s0 < A64 := by decide
/-- what is read of a frame: its contents, how many bytes it has, the error -/
def nx (l : List UInt8) : List UInt8 × Nat × Nat :=
  if (tr l).2.2 ≠ 0 then ([], 0, (tr l).2.2)
  else if l.length < (tr l).2.1 + (tr l).1 + 8 then ([], 0, 28)
  else if ((l.drop ((tr l).2.1 + (tr l).1)).take 8 == dg ((l.drop (tr l).2.1).take (tr l).1)) = false then ([], 0, 27)
  else ((l.drop (tr l).2.1).take (tr l).1, (tr l).2.1 + (tr l).1 + 8, 0)
/-- a length, some contents, some eight bytes -/
theorem nx_parts {b d r : List UInt8} (hb : b.length < A64) (hd : d.length = 8) :
    nx (vr b.length ++ (b ++ (d ++ r))) = if d = dg b then (b, (vr b.length).length + b.length + 8, 0) else ([], 0, 27) := by
  have h := tr_vr hb (b ++ (d ++ r))
  have e1 : (vr b.length ++ (b ++ (d ++ r))).drop (vr b.length).length = b ++ (d ++ r) := drop_append _ _
  have e2 : (vr b.length ++ (b ++ (d ++ r))).drop ((vr b.length).length + b.length) = d ++ r := by
    rw [← List.drop_drop, e1, drop_append]
  have e3 : (b ++ (d ++ r)).take b.length = b := by simp
  have e4 : (d ++ r).take 8 = d := by rw [← hd]; simp
  unfold nx
  rw [h]
  simp only
  rw [if_neg (by omega), if_neg (by simp only [List.length_append]; omega), e1, e2, e3, e4]
  by_cases q : d = dg b
  · rw [if_pos q, if_neg (by rw [q]; simp)]
  · rw [if_neg q, if_pos (by simpa using q)]
theorem nx_fr {b r : List UInt8} (hb : b.length < A64) : nx (fr b ++ r) = (b, (fr b).length, 0) := by
  unfold fr
  rw [List.append_assoc, List.append_assoc, nx_parts hb (dg_len b), if_pos rfl]
  simp only [List.length_append, dg_len]
theorem nx_nil : nx [] = ([], 0, 28) := by
  unfold nx; rw [tr_nil]; exact if_pos (by decide)

/-! ### a spoilt byte -/
def pI : Nat := 14886173955864302971
theorem p_inv : 1099511628211 * pI % A64 = 1 := by decide +kernel
theorem xor_canc {a b z : Nat} (h : a ^^^ z = b ^^^ z) : a = b := by
  apply Nat.eq_of_testBit_eq
  intro i
  have := congrArg (fun n => Nat.testBit n i) h
  simp only [Nat.testBit_xor] at this
  cases e : a.testBit i <;> cases f : b.testBit i <;> cases g : z.testBit i <;> simp_all
theorem u8_lt (c : UInt8) : c.toNat < A64 := Nat.lt_of_lt_of_le c.toNat_lt (by decide)
theorem mu_inj {m n x y : Nat} (h : m * n % A64 = 1) (hx : x < A64) (hy : y < A64) (e : mu m x = mu m y) : x = y := by
  rw [← mu_mu h hx, ← mu_mu h hy, e]
theorem fs_mu (x : Nat) (c : UInt8) : fs x c = mu 1099511628211 (x ^^^ c.toNat) := rfl
theorem fs_inj {x y : Nat} {c : UInt8} (hx : x < A64) (hy : y < A64) (h : fs x c = fs y c) : x = y :=
  xor_canc (mu_inj p_inv (xor_lt hx (u8_lt c)) (xor_lt hy (u8_lt c)) h)
theorem fs_inj2 {x : Nat} {c d : UInt8} (hx : x < A64) (h : fs x c = fs x d) : c = d := by
  have := mu_inj p_inv (xor_lt hx (u8_lt c)) (xor_lt hx (u8_lt d)) h
  apply UInt8.toNat_inj.1
  exact xor_canc (z := x) (by rw [Nat.xor_comm _ x, Nat.xor_comm _ x]; exact this)
theorem sm_cons (x : Nat) (c : UInt8) (l : List UInt8) : sm x (c :: l) = sm (fs x c) l := rfl
theorem sm_inj : ∀ (l : List UInt8) (x y : Nat), x < A64 → y < A64 → sm x l = sm y l → x = y
  | [], x, y, _, _, h => h
  | c :: l, x, y, hx, hy, h => fs_inj hx hy (sm_inj l _ _ (fs_lt x c) (fs_lt y c) h)
theorem sm_other {a r : List UInt8} {c d : UInt8} (h : sm s0 (a ++ c :: r) = sm s0 (a ++ d :: r)) : c = d := by
  rw [sm_append, sm_append, sm_cons, sm_cons] at h
  exact fs_inj2 (sm_lt s0_lt a) (sm_inj r _ _ (fs_lt _ _) (fs_lt _ _) h)
/-- another byte in the contents -/
theorem nx_spoil1 {a r : List UInt8} {c d : UInt8} (hb : (a ++ c :: r).length < A64) (h : c ≠ d) :
    nx (vr (a ++ c :: r).length ++ ((a ++ d :: r) ++ dg (a ++ c :: r))) = ([], 0, 27) := by
  have e : (a ++ c :: r).length = (a ++ d :: r).length := by simp
  have n := nx_parts (b := a ++ d :: r) (d := dg (a ++ c :: r)) (r := []) (by rw [← e]; exact hb) (dg_len _)
  rw [← e, List.append_nil] at n
  rw [n, if_neg]
  intro q
  exact h (sm_other (bg_inj (sm_lt s0_lt _) (sm_lt s0_lt _) q))
/-- another byte in the digest -/
theorem nx_spoil2 {b u v : List UInt8} {c d : UInt8} (hb : b.length < A64) (hd : dg b = u ++ c :: v) (h : c ≠ d) :
    nx (vr b.length ++ (b ++ (u ++ d :: v))) = ([], 0, 27) := by
  have l8 := dg_len b
  rw [hd] at l8
  have n := nx_parts (b := b) (d := u ++ d :: v) (r := []) hb (by rw [← l8]; simp)
  rw [List.append_nil] at n
  rw [n, if_neg]
  intro q
  rw [hd] at q
  have := List.append_cancel_left q
  exact h (List.cons.inj this).1.symm
end Go.Proofs.Ytpmmddemeiljjaa.wrO

/-
  The examples of the chapter: awake.
-/
import Derived.Test.YtinceponggpioaaDoorFrE
import Derived.Test.YtinceponggpioaaDoorFrH
import Derived.Test.YtinceponggpioaaDoorFrI
import Derived.Test.YtinceponggpioaaDoorFrX
namespace Go.Proofs.YtinceponggpioaaDoor.frY
open Go.RowKit
open Go.Proofs.YtinceponggpioaaDoor.natM Go.Proofs.YtinceponggpioaaDoor.natA Go.Proofs.YtinceponggpioaaDoor.natB Go.Proofs.YtinceponggpioaaDoor.natC Go.Proofs.YtinceponggpioaaDoor.natD Go.Proofs.YtinceponggpioaaDoor.natF Go.Proofs.YtinceponggpioaaDoor.natG Go.Proofs.YtinceponggpioaaDoor.natX Go.Proofs.YtinceponggpioaaDoor.natUi Go.Proofs.YtinceponggpioaaDoor.frM Go.Proofs.YtinceponggpioaaDoor.frA Go.Proofs.YtinceponggpioaaDoor.frB Go.Proofs.YtinceponggpioaaDoor.frC Go.Proofs.YtinceponggpioaaDoor.frD Go.Proofs.YtinceponggpioaaDoor.frE Go.Proofs.YtinceponggpioaaDoor.frG Go.Proofs.YtinceponggpioaaDoor.frH Go.Proofs.YtinceponggpioaaDoor.frI Go.Proofs.YtinceponggpioaaDoor.frTx Go.Proofs.YtinceponggpioaaDoor.ntF Go.Proofs.YtinceponggpioaaDoor.ntM Go.Proofs.YtinceponggpioaaDoor.frX
set_option linter.unusedVariables false

/-- the limbs of a fraction -/
def Fq (w : World) (A : Option Addr) (n X : Nat) (B : Option Addr) (m Y : Nat) : Prop := Cel .u32 w A (dg 4294967296 n X) ∧ Cel .u32 w B (dg 4294967296 m Y)
section
variable {w w1 : World} {A B : Option Addr} {n X m Y : Nat}
theorem Fq.below (h : Fq w A n X B m Y) (hb : Below w.heap.size w w1) : Fq w1 A n X B m Y := ⟨h.1.below hb, h.2.below hb⟩
theorem Fq.al (h : Fq w A n X B m Y) (o : Obj) : Fq (w.alloc o) A n X B m Y := ⟨h.1.alloc o, h.2.alloc o⟩
theorem Fq.dr (h : Fq w A n X B m Y) : Fq w.drew A n X B m Y := h
theorem bk_dr {b : Nat} {cs : Array Value} (h : Bk w b cs) : Bk w.drew b cs := h
theorem bk_al {b : Nat} {cs : Array Value} (h : Bk w b cs) (o : Obj) : Bk (w.alloc o) b cs := h.alloc o
end
theorem tab_al {w : World} (h : Tab w) (o : Obj) : Tab (w.alloc o) := tab_on h (below_new _ _)
def OfC (L M x y : Nat) (w : World) (e : Ending) (w' : World) : Prop := ∃ A c B d, e = .returned (.agg #[.slice A L c, .slice B M d]) ∧ (L ≤ c ∧ M ≤ d) ∧ Fq w' A L x B M y ∧ Below w.heap.size w w'
def FrC (E : Int) (L M N D : Nat) (w : World) (e : Ending) (w' : World) : Prop := ∃ A c B d, e = .returned (.tuple #[.agg #[.slice A L c, .slice B M d], .int .i64 E]) ∧ (L ≤ c ∧ M ≤ d) ∧ Fq w' A L N B M D ∧ Below w.heap.size w w'
theorem ofc {L M x y : Nat} {w w' : World} {e : Ending} (hL : nlen 4294967296 x = L) (hM : nlen 4294967296 y = M) (h : OfF x y w e w') : OfC L M x y w e w' := by
  obtain ⟨A, n, c, B, m, d, he, h1, h2, hb⟩ := h
  obtain rfl : n = L := h1.1.trans hL
  obtain rfl : m = M := h2.1.trans hM
  exact ⟨A, c, B, d, he, ⟨h1.2.1, h2.2.1⟩, ⟨h1.2.2, h2.2.2⟩, hb⟩
theorem frc {E : Int} {L M N D : Nat} {r : Ans} (hr : r = (E, N, D)) (hL : nlen 4294967296 N = L) (hM : nlen 4294967296 D = M) {w w' : World} {e : Ending} (h : FrP r w e w') : FrC E L M N D w e w' := by
  subst hr
  obtain ⟨A, n, c, B, m, d, he, h1, h2, hb⟩ := h
  obtain rfl : n = L := h1.1.trans hL
  obtain rfl : m = M := h2.1.trans hM
  exact ⟨A, c, B, d, he, ⟨h1.2.1, h2.2.1⟩, ⟨h1.2.2, h2.2.2⟩, hb⟩
theorem nl {x : Nat} (h0 : 0 < x) (h1 : x < 4294967296) : nlen 4294967296 x = 1 := nlen_eq (n := 0) (by omega) (by omega) (by omega)
theorem pw1 {x : Nat} (h1 : x < 4294967296) : Hid (x < 4294967296 ^ 1) := Lib.hid (by omega)
theorem fr11 {x y : Nat} (h0 : 0 < x) (h1 : x < 4294967296) (h2 : 0 < y) (h3 : y < 4294967296) : frB 1 x 1 y = (Nat.gcd x y == 1) := by
  unfold frB
  rw [show valB 1 x = true from valB_iff.2 ⟨by omega, nl h0 h1⟩, show valB 1 y = true from valB_iff.2 ⟨by omega, nl h2 h3⟩, decide_eq_true h2]; rfl
theorem fr01 : frB 0 0 1 1 = true := by
  unfold frB
  rw [show valB 0 0 = true from valB_iff.2 ⟨by omega, nlen_zero _⟩, show valB 1 1 = true from valB_iff.2 ⟨by omega, nl (by omega) (by omega)⟩]; rfl
theorem bigs {v : Nat} (h : v < 4294967296) : big v = false := big_no (Nat.le_trans (nlen_le (n := 1) (by omega) (by omega)) (by omega))
theorem a_add : addA (frB 1 1 1 6) (frB 1 1 1 10) 1 6 1 10 = (0, 4, 15) := by
  rw [fr11 (by omega) (by omega) (by omega) (by omega), fr11 (by omega) (by omega) (by omega) (by omega)]
  unfold addA
  rw [bigs (by omega), bigs (by omega), bigs (by omega), bigs (by omega)]; rfl
theorem a_sub : subA (frB 1 1 1 10) (frB 1 1 1 6) 1 10 1 6 = (2, 0, 0) := by
  rw [fr11 (by omega) (by omega) (by omega) (by omega), fr11 (by omega) (by omega) (by omega) (by omega)]; rfl
theorem a_mul : mulA (frB 1 2 1 3) (frB 1 3 1 4) 2 3 3 4 = (0, 1, 2) := by
  rw [fr11 (by omega) (by omega) (by omega) (by omega), fr11 (by omega) (by omega) (by omega) (by omega)]
  unfold mulA
  rw [bigs (by omega), bigs (by omega)]; rfl
theorem a_div : divA (frB 1 1 1 2) (frB 0 0 1 1) 1 2 0 1 = (10, 0, 0) := by
  rw [fr11 (by omega) (by omega) (by omega) (by omega), fr01]; rfl
theorem a_of : ofA 6 4 = (0, 3, 2) := rfl
theorem a_of0 : ofA 1 0 = (10, 0, 0) := rfl
theorem a_cmp : (-1 : Int) = fcV (frB 1 1 1 2) (frB 1 2 1 3) 1 2 2 3 := by
  rw [fr11 (by omega) (by omega) (by omega) (by omega), fr11 (by omega) (by omega) (by omega) (by omega)]; rfl
theorem dec0 : Lib.decDigits 0 = [48] := by rw [dec_small (by omega)]; rfl
theorem dec6 : Lib.decDigits 6666 = [54, 54, 54, 54] := by
  rw [Lib.decDigits, dif_neg (by omega), Lib.decDigits, dif_neg (by omega), Lib.decDigits, dif_neg (by omega), dec_small (by omega)]; rfl
theorem a_dec : dcA (frB 1 2 1 3) 2 3 4 = ([48, 46, 54, 54, 54, 54], 0) := by
  rw [fr11 (by omega) (by omega) (by omega) (by omega)]
  unfold dcA
  rw [if_neg (by decide), show ((4 : Int).toNat) = 4 from rfl, bigs (by omega), if_neg (by simp)]
  unfold decT padp
  rw [if_neg (by omega), show 2 * 10 ^ 4 / 3 / 10 ^ 4 = 0 by omega, show 2 * 10 ^ 4 / 3 % 10 ^ 4 = 6666 by omega, dec0, dec6]; rfl

theorem k_1_6 (w : World) : Calls Tryd.prog 31 #[.int .u32 1, .int .u32 6] w (OfC 1 1 1 6 w) := by
  have h := ofl_pos 1 6 (by omega) (by omega) (by omega) (by omega) w
  exact h.mono fun e w' hh => ofc (nl (by omega) (by omega)) (nl (by omega) (by omega)) hh
theorem k_1_10 (w : World) : Calls Tryd.prog 31 #[.int .u32 1, .int .u32 10] w (OfC 1 1 1 10 w) := by
  have h := ofl_pos 1 10 (by omega) (by omega) (by omega) (by omega) w
  exact h.mono fun e w' hh => ofc (nl (by omega) (by omega)) (nl (by omega) (by omega)) hh
theorem k_2_3 (w : World) : Calls Tryd.prog 31 #[.int .u32 2, .int .u32 3] w (OfC 1 1 2 3 w) := by
  have h := ofl_pos 2 3 (by omega) (by omega) (by omega) (by omega) w
  exact h.mono fun e w' hh => ofc (nl (by omega) (by omega)) (nl (by omega) (by omega)) hh
theorem k_3_4 (w : World) : Calls Tryd.prog 31 #[.int .u32 3, .int .u32 4] w (OfC 1 1 3 4 w) := by
  have h := ofl_pos 3 4 (by omega) (by omega) (by omega) (by omega) w
  exact h.mono fun e w' hh => ofc (nl (by omega) (by omega)) (nl (by omega) (by omega)) hh
theorem k_1_2 (w : World) : Calls Tryd.prog 31 #[.int .u32 1, .int .u32 2] w (OfC 1 1 1 2 w) := by
  have h := ofl_pos 1 2 (by omega) (by omega) (by omega) (by omega) w
  exact h.mono fun e w' hh => ofc (nl (by omega) (by omega)) (nl (by omega) (by omega)) hh
theorem k_0_1 (w : World) : Calls Tryd.prog 31 #[.int .u32 0, .int .u32 1] w (OfC 0 1 0 1 w) := by
  have h := ofl_zero 1 (by omega) (by omega) w
  exact h.mono fun e w' hh => ofc (nlen_zero _) (nl (by omega) (by omega)) hh
theorem k_3_2 (w : World) : Calls Tryd.prog 31 #[.int .u32 3, .int .u32 2] w (OfC 1 1 3 2 w) := by
  have h := ofl_pos 3 2 (by omega) (by omega) (by omega) (by omega) w
  exact h.mono fun e w' hh => ofc (nl (by omega) (by omega)) (nl (by omega) (by omega)) hh
theorem k_4_15 (w : World) : Calls Tryd.prog 31 #[.int .u32 4, .int .u32 15] w (OfC 1 1 4 15 w) := by
  have h := ofl_pos 4 15 (by omega) (by omega) (by omega) (by omega) w
  exact h.mono fun e w' hh => ofc (nl (by omega) (by omega)) (nl (by omega) (by omega)) hh
theorem k_2_4 (w : World) : Calls Tryd.prog 31 #[.int .u32 2, .int .u32 4] w (OfC 1 1 2 4 w) := by
  have h := ofl_pos 2 4 (by omega) (by omega) (by omega) (by omega) w
  exact h.mono fun e w' hh => ofc (nl (by omega) (by omega)) (nl (by omega) (by omega)) hh
theorem k_add (A : Option Addr) (c : Nat) (B : Option Addr) (d : Nat) (A2 : Option Addr) (c2 : Nat) (B2 : Option Addr) (d2 : Nat) (w : World) (h : 1 ≤ c ∧ 1 ≤ d) (h2 : 1 ≤ c2 ∧ 1 ≤ d2) (q : Fq w A 1 1 B 1 6) (q2 : Fq w A2 1 1 B2 1 10) :
    Calls Tryd.prog 29 #[.agg #[.slice A 1 c, .slice B 1 d], .agg #[.slice A2 1 c2, .slice B2 1 d2]] w (FrC 0 1 1 4 15 w) := by
  have k := fadd_any A B A2 B2 1 c 1 d 1 c2 1 d2 1 6 1 10 (Lib.hid (by omega)) (Lib.hid (by omega)) (Lib.hid (by omega)) (Lib.hid (by omega)) h.1 h.2 h2.1 h2.2 (by omega) (by omega) (by omega) (by omega) w q.1 q.2 q2.1 q2.2
  exact k.mono fun e w' hh => frc a_add (nl (by omega) (by omega)) (nl (by omega) (by omega)) hh
theorem k_sub (A : Option Addr) (c : Nat) (B : Option Addr) (d : Nat) (A2 : Option Addr) (c2 : Nat) (B2 : Option Addr) (d2 : Nat) (w : World) (h : 1 ≤ c ∧ 1 ≤ d) (h2 : 1 ≤ c2 ∧ 1 ≤ d2) (q : Fq w A 1 1 B 1 10) (q2 : Fq w A2 1 1 B2 1 6) :
    Calls Tryd.prog 30 #[.agg #[.slice A 1 c, .slice B 1 d], .agg #[.slice A2 1 c2, .slice B2 1 d2]] w (FrC 2 0 0 0 0 w) := by
  have k := fsub_any A B A2 B2 1 c 1 d 1 c2 1 d2 1 10 1 6 (Lib.hid (by omega)) (Lib.hid (by omega)) (Lib.hid (by omega)) (Lib.hid (by omega)) h.1 h.2 h2.1 h2.2 (by omega) (by omega) (by omega) (by omega) w q.1 q.2 q2.1 q2.2
  exact k.mono fun e w' hh => frc a_sub (nlen_zero _) (nlen_zero _) hh
theorem k_mul (A : Option Addr) (c : Nat) (B : Option Addr) (d : Nat) (A2 : Option Addr) (c2 : Nat) (B2 : Option Addr) (d2 : Nat) (w : World) (h : 1 ≤ c ∧ 1 ≤ d) (h2 : 1 ≤ c2 ∧ 1 ≤ d2) (q : Fq w A 1 2 B 1 3) (q2 : Fq w A2 1 3 B2 1 4) :
    Calls Tryd.prog 23 #[.agg #[.slice A 1 c, .slice B 1 d], .agg #[.slice A2 1 c2, .slice B2 1 d2]] w (FrC 0 1 1 1 2 w) := by
  have k := fmul_any A B A2 B2 1 c 1 d 1 c2 1 d2 2 3 3 4 (Lib.hid (by omega)) (Lib.hid (by omega)) (Lib.hid (by omega)) (Lib.hid (by omega)) h.1 h.2 h2.1 h2.2 (by omega) (by omega) (by omega) (by omega) w q.1 q.2 q2.1 q2.2
  exact k.mono fun e w' hh => frc a_mul (nl (by omega) (by omega)) (nl (by omega) (by omega)) hh
theorem k_div (A : Option Addr) (c : Nat) (B : Option Addr) (d : Nat) (A2 : Option Addr) (c2 : Nat) (B2 : Option Addr) (d2 : Nat) (w : World) (h : 1 ≤ c ∧ 1 ≤ d) (h2 : 0 ≤ c2 ∧ 1 ≤ d2) (q : Fq w A 1 1 B 1 2) (q2 : Fq w A2 0 0 B2 1 1) :
    Calls Tryd.prog 25 #[.agg #[.slice A 1 c, .slice B 1 d], .agg #[.slice A2 0 c2, .slice B2 1 d2]] w (FrC 10 0 0 0 0 w) := by
  have k := fdiv_any A B A2 B2 1 c 1 d 0 c2 1 d2 1 2 0 1 (Lib.hid (by omega)) (Lib.hid (by omega)) (Lib.hid (by omega)) (Lib.hid (by omega)) h.1 h.2 h2.1 h2.2 (by omega) (by omega) (by omega) (by omega) w q.1 q.2 q2.1 q2.2
  exact k.mono fun e w' hh => frc a_div (nlen_zero _) (nlen_zero _) hh
theorem k_of (w : World) : Calls Tryd.prog 16 #[.int .i64 6, .int .i64 4] w (FrC 0 1 1 3 2 w) := by
  have k := fof_any 6 4 (by omega) (by omega) w
  exact k.mono fun e w' hh => frc a_of (nl (by omega) (by omega)) (nl (by omega) (by omega)) hh
theorem k_of0 (w : World) : Calls Tryd.prog 16 #[.int .i64 1, .int .i64 0] w (FrC 10 0 0 0 0 w) := by
  have k := fof_any 1 0 (by omega) (by omega) w
  exact k.mono fun e w' hh => frc a_of0 (nlen_zero _) (nlen_zero _) hh
theorem k_dec (A : Option Addr) (c : Nat) (B : Option Addr) (d : Nat) (w : World) (ht : Tab w) (h : 1 ≤ c ∧ 1 ≤ d) (q : Fq w A 1 2 B 1 3) :
    Calls Tryd.prog 27 #[.agg #[.slice A 1 c, .slice B 1 d], .int .i64 4] w fun e w' => e = .returned (.tuple #[.string ⟨#[48, 46, 54, 54, 54, 54]⟩, .int .i64 0]) ∧ Below w.heap.size w w' := by
  have k := fdec_any A B 1 c 1 d 2 3 4 (Lib.hid (by omega)) (Lib.hid (by omega)) h.1 h.2 (by omega) (by omega) w ht q.1 q.2
  rw [a_dec] at k
  exact k
theorem k_valid (x y : Nat) (R : Bool) (hR : R = frB 1 x 1 y) (hx : x < 4294967296) (hy : y < 4294967296) (A : Option Addr) (c : Nat) (B : Option Addr) (d : Nat) (w : World) (h : 1 ≤ c ∧ 1 ≤ d) (q : Fq w A 1 x B 1 y) :
    Calls Tryd.prog 18 #[.agg #[.slice A 1 c, .slice B 1 d]] w fun e w' => e = .returned (.bool R) ∧ Below w.heap.size w w' :=
  vd_any A B 1 c 1 d x y R (pw1 hx) (pw1 hy) h.1 h.2 (by omega) (by omega) (Lib.hid hR) w q.1 q.2
theorem k_cmp (A : Option Addr) (c : Nat) (B : Option Addr) (d : Nat) (A2 : Option Addr) (c2 : Nat) (B2 : Option Addr) (d2 : Nat) (w : World) (h : 1 ≤ c ∧ 1 ≤ d) (h2 : 1 ≤ c2 ∧ 1 ≤ d2) (q : Fq w A 1 1 B 1 2) (q2 : Fq w A2 1 2 B2 1 3) :
    Calls Tryd.prog 21 #[.agg #[.slice A 1 c, .slice B 1 d], .agg #[.slice A2 1 c2, .slice B2 1 d2]] w fun e w' => e = .returned (.int .i64 (-1)) ∧ Below w.heap.size w w' :=
  fcmp_any A B A2 B2 1 c 1 d 1 c2 1 d2 1 2 2 3 (-1) (Lib.hid (by omega)) (Lib.hid (by omega)) (Lib.hid (by omega)) (Lib.hid (by omega)) h.1 h.2 h2.1 h2.2 (by omega) (by omega) (by omega) (by omega) (Lib.hid a_cmp) w q.1 q.2 q2.1 q2.2
theorem k_same (x y : Nat) (hx : x < 4294967296) (hy : y < 4294967296) (A : Option Addr) (c : Nat) (B : Option Addr) (d : Nat) (A2 : Option Addr) (c2 : Nat) (B2 : Option Addr) (d2 : Nat) (w : World) (q : Fq w A 1 x B 1 y) (q2 : Fq w A2 1 x B2 1 y) :
    Calls Tryd.prog 15 #[.agg #[.slice A 1 c, .slice B 1 d], .agg #[.slice A2 1 c2, .slice B2 1 d2]] w fun e w' => e = .returned (.bool true) ∧ Below w.heap.size w w' :=
  sm_any A B A2 B2 1 c 1 d 1 c2 1 d2 x y x y true (pw1 hx) (pw1 hy) (pw1 hx) (pw1 hy) (by omega) (by omega) (by omega) (by omega) (Lib.hid (by unfold smB; simp)) w q.1 q.2 q2.1 q2.2
set_option maxRecDepth 8000 in
set_option maxHeartbeats 8000000 in
theorem awake_any (w : World) (htab : Tab w) : Calls Tryd.prog 12 #[] w fun e w' => e = .returned (.bool true) ∧ Below w.heap.size w w' := by
  have HT := Lib.hid htab
  clear htab
  have kv1 : true = frB 1 1 1 2 := by rw [fr11 (by omega) (by omega) (by omega) (by omega)]; rfl
  have kv2 : false = frB 1 2 1 4 := by rw [fr11 (by omega) (by omega) (by omega) (by omega)]; rfl
  have KV1 := Lib.hid kv1
  have KV2 := Lib.hid kv2
  clear kv1 kv2
  go_enter Tryd.func12, Tryd.ntmps12
  go_wp2_with (first
    | (go_at_call 16; first
      | ((with_reducible refine (k_of _).mono ?_); rintro e w1 ⟨Aa, ca, Ba, da, rfl, Ha, q, hb⟩; have B1 := Lib.hid hb; have Qa_1 := Lib.hid q; clear hb q)
      | ((with_reducible refine (k_of0 _).mono ?_); rintro e w16 ⟨Ax3, cx3, Bx3, dx3, rfl, Hx3, q, hb⟩; have B16 := Lib.hid (below_on B15.out hb); have Qa_16 := Lib.hid ((Qa_15.out).below hb); have Qb_16 := Lib.hid ((Qb_15.out).below hb); have Qcc_16 := Lib.hid ((Qcc_15.out).below hb); have Xa_16 := Lib.hid (Xa_15.out.below hb); have Xb_16 := Lib.hid (Xb_15.out.below hb); have Xcc_16 := Lib.hid (Xcc_15.out.below hb); clear hb q))
    | (go_at_call 31; first
      | ((with_reducible refine (k_1_6 _).mono ?_); rintro e w2 ⟨At1, ct1, Bt1, dt1, rfl, Ht1, q, hb⟩; have B2 := Lib.hid (below_on (B1.out.alloc B1.out.size _) hb); have Qa_2 := Lib.hid ((Qa_1.out.al _).below hb); have Xa_2 := Lib.hid ((Bk.n0 _ _ _).below hb); have Qt1_2 := Lib.hid q; clear hb q)
      | ((with_reducible refine (k_1_10 _).mono ?_); rintro e w3 ⟨At2, ct2, Bt2, dt2, rfl, Ht2, q, hb⟩; have B3 := Lib.hid (below_on B2.out hb); have Qa_3 := Lib.hid ((Qa_2.out).below hb); have Qt1_3 := Lib.hid ((Qt1_2.out).below hb); have Xa_3 := Lib.hid (Xa_2.out.below hb); have Qt2_3 := Lib.hid q; clear hb q)
      | ((with_reducible refine (k_1_10 _).mono ?_); rintro e w5 ⟨At3, ct3, Bt3, dt3, rfl, Ht3, q, hb⟩; have B5 := Lib.hid (below_on (B4.out.alloc B4.out.size _) hb); have Qa_5 := Lib.hid ((Qa_4.out.al _).below hb); have Qb_5 := Lib.hid ((Qb_4.out.al _).below hb); have Xa_5 := Lib.hid ((bk_al Xa_4.out _).below hb); have Xb_5 := Lib.hid ((Bk.n0 _ _ _).below hb); have Qt3_5 := Lib.hid q; clear hb q)
      | ((with_reducible refine (k_1_6 _).mono ?_); rintro e w6 ⟨At4, ct4, Bt4, dt4, rfl, Ht4, q, hb⟩; have B6 := Lib.hid (below_on B5.out hb); have Qa_6 := Lib.hid ((Qa_5.out).below hb); have Qb_6 := Lib.hid ((Qb_5.out).below hb); have Qt3_6 := Lib.hid ((Qt3_5.out).below hb); have Xa_6 := Lib.hid (Xa_5.out.below hb); have Xb_6 := Lib.hid (Xb_5.out.below hb); have Qt4_6 := Lib.hid q; clear hb q)
      | ((with_reducible refine (k_2_3 _).mono ?_); rintro e w8 ⟨At5, ct5, Bt5, dt5, rfl, Ht5, q, hb⟩; have B8 := Lib.hid (below_on (B7.out.alloc B7.out.size _) hb); have Qa_8 := Lib.hid ((Qa_7.out.al _).below hb); have Qb_8 := Lib.hid ((Qb_7.out.al _).below hb); have Xa_8 := Lib.hid ((bk_al Xa_7.out _).below hb); have Xb_8 := Lib.hid ((bk_al Xb_7.out _).below hb); have Qt5_8 := Lib.hid q; clear hb q)
      | ((with_reducible refine (k_3_4 _).mono ?_); rintro e w9 ⟨At6, ct6, Bt6, dt6, rfl, Ht6, q, hb⟩; have B9 := Lib.hid (below_on B8.out hb); have Qa_9 := Lib.hid ((Qa_8.out).below hb); have Qb_9 := Lib.hid ((Qb_8.out).below hb); have Qt5_9 := Lib.hid ((Qt5_8.out).below hb); have Xa_9 := Lib.hid (Xa_8.out.below hb); have Xb_9 := Lib.hid (Xb_8.out.below hb); have Qt6_9 := Lib.hid q; clear hb q)
      | ((with_reducible refine (k_1_2 _).mono ?_); rintro e w11 ⟨At7, ct7, Bt7, dt7, rfl, Ht7, q, hb⟩; have B11 := Lib.hid (below_on (B10.out.alloc B10.out.size _) hb); have Qa_11 := Lib.hid ((Qa_10.out.al _).below hb); have Qb_11 := Lib.hid ((Qb_10.out.al _).below hb); have Qcc_11 := Lib.hid ((Qcc_10.out.al _).below hb); have Xa_11 := Lib.hid ((bk_al Xa_10.out _).below hb); have Xb_11 := Lib.hid ((bk_al Xb_10.out _).below hb); have Xcc_11 := Lib.hid ((Bk.n0 _ _ _).below hb); have Qt7_11 := Lib.hid q; clear hb q)
      | ((with_reducible refine (k_0_1 _).mono ?_); rintro e w12 ⟨At8, ct8, Bt8, dt8, rfl, Ht8, q, hb⟩; have B12 := Lib.hid (below_on B11.out hb); have Qa_12 := Lib.hid ((Qa_11.out).below hb); have Qb_12 := Lib.hid ((Qb_11.out).below hb); have Qcc_12 := Lib.hid ((Qcc_11.out).below hb); have Qt7_12 := Lib.hid ((Qt7_11.out).below hb); have Xa_12 := Lib.hid (Xa_11.out.below hb); have Xb_12 := Lib.hid (Xb_11.out.below hb); have Xcc_12 := Lib.hid (Xcc_11.out.below hb); have Qt8_12 := Lib.hid q; clear hb q)
      | ((with_reducible refine (k_2_3 _).mono ?_); rintro e w14 ⟨At9, ct9, Bt9, dt9, rfl, Ht9, q, hb⟩; have B14 := Lib.hid (below_on (B13.out.alloc B13.out.size _) hb); have Qa_14 := Lib.hid ((Qa_13.out.al _).below hb); have Qb_14 := Lib.hid ((Qb_13.out.al _).below hb); have Qcc_14 := Lib.hid ((Qcc_13.out.al _).below hb); have Xa_14 := Lib.hid ((bk_al Xa_13.out _).below hb); have Xb_14 := Lib.hid ((bk_al Xb_13.out _).below hb); have Xcc_14 := Lib.hid ((bk_al Xcc_13.out _).below hb); have Qt9_14 := Lib.hid q; clear hb q))
    | (go_at_call 29; first
      | ((with_reducible refine (k_add At1 ct1 Bt1 dt1 At2 ct2 Bt2 dt2 _ Ht1 Ht2 (Qt1_3.out) (Qt2_3.out)).mono ?_); rintro e w4 ⟨Ab, cb, Bb, db, rfl, Hb, q, hb⟩; have B4 := Lib.hid (below_on B3.out hb); have Qa_4 := Lib.hid ((Qa_3.out).below hb); have Xa_4 := Lib.hid (Xa_3.out.below hb); have Qb_4 := Lib.hid q; clear hb q))
    | (go_at_call 30; first
      | ((with_reducible refine (k_sub At3 ct3 Bt3 dt3 At4 ct4 Bt4 dt4 _ Ht3 Ht4 (Qt3_6.out) (Qt4_6.out)).mono ?_); rintro e w7 ⟨Ax1, cx1, Bx1, dx1, rfl, Hx1, q, hb⟩; have B7 := Lib.hid (below_on B6.out hb); have Qa_7 := Lib.hid ((Qa_6.out).below hb); have Qb_7 := Lib.hid ((Qb_6.out).below hb); have Xa_7 := Lib.hid (Xa_6.out.below hb); have Xb_7 := Lib.hid (Xb_6.out.below hb); clear hb q))
    | (go_at_call 23; first
      | ((with_reducible refine (k_mul At5 ct5 Bt5 dt5 At6 ct6 Bt6 dt6 _ Ht5 Ht6 (Qt5_9.out) (Qt6_9.out)).mono ?_); rintro e w10 ⟨Acc, ccc, Bcc, dcc, rfl, Hcc, q, hb⟩; have B10 := Lib.hid (below_on B9.out hb); have Qa_10 := Lib.hid ((Qa_9.out).below hb); have Qb_10 := Lib.hid ((Qb_9.out).below hb); have Xa_10 := Lib.hid (Xa_9.out.below hb); have Xb_10 := Lib.hid (Xb_9.out.below hb); have Qcc_10 := Lib.hid q; clear hb q))
    | (go_at_call 25; first
      | ((with_reducible refine (k_div At7 ct7 Bt7 dt7 At8 ct8 Bt8 dt8 _ Ht7 Ht8 (Qt7_12.out) (Qt8_12.out)).mono ?_); rintro e w13 ⟨Ax2, cx2, Bx2, dx2, rfl, Hx2, q, hb⟩; have B13 := Lib.hid (below_on B12.out hb); have Qa_13 := Lib.hid ((Qa_12.out).below hb); have Qb_13 := Lib.hid ((Qb_12.out).below hb); have Qcc_13 := Lib.hid ((Qcc_12.out).below hb); have Xa_13 := Lib.hid (Xa_12.out.below hb); have Xb_13 := Lib.hid (Xb_12.out.below hb); have Xcc_13 := Lib.hid (Xcc_12.out.below hb); clear hb q))
    | (go_at_call 27; first
      | ((with_reducible refine (k_dec At9 ct9 Bt9 dt9 _ (tab_on HT.out B14.out) Ht9 (Qt9_14.out)).mono ?_); rintro e w15 ⟨rfl, hb⟩; have B15 := Lib.hid (below_on B14.out hb); have Qa_15 := Lib.hid ((Qa_14.out).below hb); have Qb_15 := Lib.hid ((Qb_14.out).below hb); have Qcc_15 := Lib.hid ((Qcc_14.out).below hb); have Xa_15 := Lib.hid (Xa_14.out.below hb); have Xb_15 := Lib.hid (Xb_14.out.below hb); have Xcc_15 := Lib.hid (Xcc_14.out.below hb); clear hb)))
  have ya1 := fun o => (bk_al Xa_16.out o).fst
  have ya2 := fun o => (bk_al Xa_16.out o).snd
  have yb1 := fun o => (bk_al Xb_16.out o).fst
  have yb2 := fun o => (bk_al Xb_16.out o).snd
  have ycc1 := fun o => (bk_al Xcc_16.out o).fst
  have ycc2 := fun o => (bk_al Xcc_16.out o).snd
  go_region_held3 (fun w' => w'.cell? ⟨w1.heap.size, 0, none⟩ = some (.slice Aa 1 ca) ∧ w'.cell? ⟨w1.heap.size, 1, none⟩ = some (.slice Ba 1 da) ∧ w'.cell? ⟨w4.heap.size, 0, none⟩ = some (.slice Ab 1 cb) ∧ w'.cell? ⟨w4.heap.size, 1, none⟩ = some (.slice Bb 1 db) ∧ w'.cell? ⟨w10.heap.size, 0, none⟩ = some (.slice Acc 1 ccc) ∧ w'.cell? ⟨w10.heap.size, 1, none⟩ = some (.slice Bcc 1 dcc)) (simp (maxDischargeDepth := 9) [*])
    (first
      | (go_at_call 31; first
        | ((with_reducible refine (k_3_2 _).mono ?_); rintro e w17 ⟨Au1, cu1, Bu1, du1, rfl, Hu1, q, hb⟩; have B17 := Lib.hid (below_on (bel_drew (B16.out.alloc B16.out.size _)) hb); have Qa_17 := Lib.hid (((Qa_16.out.al _).dr).below hb); have Qb_17 := Lib.hid (((Qb_16.out.al _).dr).below hb); have Qcc_17 := Lib.hid (((Qcc_16.out.al _).dr).below hb); have Xa_17 := Lib.hid ((bk_dr (bk_al Xa_16.out _)).below hb); have Xb_17 := Lib.hid ((bk_dr (bk_al Xb_16.out _)).below hb); have Xcc_17 := Lib.hid ((bk_dr (bk_al Xcc_16.out _)).below hb); have Qu1_17 := Lib.hid q; have ya1 := Xa_17.out.fst; have ya2 := Xa_17.out.snd; have yb1 := Xb_17.out.fst; have yb2 := Xb_17.out.snd; have ycc1 := Xcc_17.out.fst; have ycc2 := Xcc_17.out.snd; clear hb q)
        | ((with_reducible refine (k_4_15 _).mono ?_); rintro e w19 ⟨Au2, cu2, Bu2, du2, rfl, Hu2, q, hb⟩; have B19 := Lib.hid (below_on B18.out hb); have Qb_19 := Lib.hid ((Qb_18.out).below hb); have Qcc_19 := Lib.hid ((Qcc_18.out).below hb); have Xa_19 := Lib.hid (Xa_18.out.below hb); have Xb_19 := Lib.hid (Xb_18.out.below hb); have Xcc_19 := Lib.hid (Xcc_18.out.below hb); have Qu2_19 := Lib.hid q; have ya1 := Xa_19.out.fst; have ya2 := Xa_19.out.snd; have yb1 := Xb_19.out.fst; have yb2 := Xb_19.out.snd; have ycc1 := Xcc_19.out.fst; have ycc2 := Xcc_19.out.snd; clear hb q)
        | ((with_reducible refine (k_1_2 _).mono ?_); rintro e w21 ⟨Au3, cu3, Bu3, du3, rfl, Hu3, q, hb⟩; have B21 := Lib.hid (below_on B20.out hb); have Qcc_21 := Lib.hid ((Qcc_20.out).below hb); have Xa_21 := Lib.hid (Xa_20.out.below hb); have Xb_21 := Lib.hid (Xb_20.out.below hb); have Xcc_21 := Lib.hid (Xcc_20.out.below hb); have Qu3_21 := Lib.hid q; have ya1 := Xa_21.out.fst; have ya2 := Xa_21.out.snd; have yb1 := Xb_21.out.fst; have yb2 := Xb_21.out.snd; have ycc1 := Xcc_21.out.fst; have ycc2 := Xcc_21.out.snd; clear hb q)
        | ((with_reducible refine (k_1_2 _).mono ?_); rintro e w23 ⟨Au4, cu4, Bu4, du4, rfl, Hu4, q, hb⟩; have B23 := Lib.hid (below_on B22.out hb); have Xa_23 := Lib.hid (Xa_22.out.below hb); have Xb_23 := Lib.hid (Xb_22.out.below hb); have Xcc_23 := Lib.hid (Xcc_22.out.below hb); have Qu4_23 := Lib.hid q; have ya1 := Xa_23.out.fst; have ya2 := Xa_23.out.snd; have yb1 := Xb_23.out.fst; have yb2 := Xb_23.out.snd; have ycc1 := Xcc_23.out.fst; have ycc2 := Xcc_23.out.snd; clear hb q)
        | ((with_reducible refine (k_2_4 _).mono ?_); rintro e w25 ⟨Au5, cu5, Bu5, du5, rfl, Hu5, q, hb⟩; have B25 := Lib.hid (below_on B24.out hb); have Xa_25 := Lib.hid (Xa_24.out.below hb); have Xb_25 := Lib.hid (Xb_24.out.below hb); have Xcc_25 := Lib.hid (Xcc_24.out.below hb); have Qu5_25 := Lib.hid q; have ya1 := Xa_25.out.fst; have ya2 := Xa_25.out.snd; have yb1 := Xb_25.out.fst; have yb2 := Xb_25.out.snd; have ycc1 := Xcc_25.out.fst; have ycc2 := Xcc_25.out.snd; clear hb q)
        | ((with_reducible refine (k_1_2 _).mono ?_); rintro e w27 ⟨Au6, cu6, Bu6, du6, rfl, Hu6, q, hb⟩; have B27 := Lib.hid (below_on B26.out hb); have Xa_27 := Lib.hid (Xa_26.out.below hb); have Xb_27 := Lib.hid (Xb_26.out.below hb); have Xcc_27 := Lib.hid (Xcc_26.out.below hb); have Qu6_27 := Lib.hid q; have ya1 := Xa_27.out.fst; have ya2 := Xa_27.out.snd; have yb1 := Xb_27.out.fst; have yb2 := Xb_27.out.snd; have ycc1 := Xcc_27.out.fst; have ycc2 := Xcc_27.out.snd; clear hb q)
        | ((with_reducible refine (k_2_3 _).mono ?_); rintro e w28 ⟨Au7, cu7, Bu7, du7, rfl, Hu7, q, hb⟩; have B28 := Lib.hid (below_on B27.out hb); have Qu6_28 := Lib.hid ((Qu6_27.out).below hb); have Xa_28 := Lib.hid (Xa_27.out.below hb); have Xb_28 := Lib.hid (Xb_27.out.below hb); have Xcc_28 := Lib.hid (Xcc_27.out.below hb); have Qu7_28 := Lib.hid q; have ya1 := Xa_28.out.fst; have ya2 := Xa_28.out.snd; have yb1 := Xb_28.out.fst; have yb2 := Xb_28.out.snd; have ycc1 := Xcc_28.out.fst; have ycc2 := Xcc_28.out.snd; clear hb q))
      | (go_at_call 15; first
        | ((with_reducible refine (k_same 3 2 (by omega) (by omega) Aa ca Ba da Au1 cu1 Bu1 du1 _ (Qa_17.out) (Qu1_17.out)).mono ?_); rintro e w18 ⟨rfl, hb⟩; have B18 := Lib.hid (below_on B17.out hb); have Qb_18 := Lib.hid ((Qb_17.out).below hb); have Qcc_18 := Lib.hid ((Qcc_17.out).below hb); have Xa_18 := Lib.hid (Xa_17.out.below hb); have Xb_18 := Lib.hid (Xb_17.out.below hb); have Xcc_18 := Lib.hid (Xcc_17.out.below hb); have ya1 := Xa_18.out.fst; have ya2 := Xa_18.out.snd; have yb1 := Xb_18.out.fst; have yb2 := Xb_18.out.snd; have ycc1 := Xcc_18.out.fst; have ycc2 := Xcc_18.out.snd; clear hb)
        | ((with_reducible refine (k_same 4 15 (by omega) (by omega) Ab cb Bb db Au2 cu2 Bu2 du2 _ (Qb_19.out) (Qu2_19.out)).mono ?_); rintro e w20 ⟨rfl, hb⟩; have B20 := Lib.hid (below_on B19.out hb); have Qcc_20 := Lib.hid ((Qcc_19.out).below hb); have Xa_20 := Lib.hid (Xa_19.out.below hb); have Xb_20 := Lib.hid (Xb_19.out.below hb); have Xcc_20 := Lib.hid (Xcc_19.out.below hb); have ya1 := Xa_20.out.fst; have ya2 := Xa_20.out.snd; have yb1 := Xb_20.out.fst; have yb2 := Xb_20.out.snd; have ycc1 := Xcc_20.out.fst; have ycc2 := Xcc_20.out.snd; clear hb)
        | ((with_reducible refine (k_same 1 2 (by omega) (by omega) Acc ccc Bcc dcc Au3 cu3 Bu3 du3 _ (Qcc_21.out) (Qu3_21.out)).mono ?_); rintro e w22 ⟨rfl, hb⟩; have B22 := Lib.hid (below_on B21.out hb); have Xa_22 := Lib.hid (Xa_21.out.below hb); have Xb_22 := Lib.hid (Xb_21.out.below hb); have Xcc_22 := Lib.hid (Xcc_21.out.below hb); have ya1 := Xa_22.out.fst; have ya2 := Xa_22.out.snd; have yb1 := Xb_22.out.fst; have yb2 := Xb_22.out.snd; have ycc1 := Xcc_22.out.fst; have ycc2 := Xcc_22.out.snd; clear hb))
      | (go_at_call 18; first
        | ((with_reducible refine (k_valid 1 2 true KV1.out (by omega) (by omega) Au4 cu4 Bu4 du4 _ Hu4 (Qu4_23.out)).mono ?_); rintro e w24 ⟨rfl, hb⟩; have B24 := Lib.hid (below_on B23.out hb); have Xa_24 := Lib.hid (Xa_23.out.below hb); have Xb_24 := Lib.hid (Xb_23.out.below hb); have Xcc_24 := Lib.hid (Xcc_23.out.below hb); have ya1 := Xa_24.out.fst; have ya2 := Xa_24.out.snd; have yb1 := Xb_24.out.fst; have yb2 := Xb_24.out.snd; have ycc1 := Xcc_24.out.fst; have ycc2 := Xcc_24.out.snd; clear hb)
        | ((with_reducible refine (k_valid 2 4 false KV2.out (by omega) (by omega) Au5 cu5 Bu5 du5 _ Hu5 (Qu5_25.out)).mono ?_); rintro e w26 ⟨rfl, hb⟩; have B26 := Lib.hid (below_on B25.out hb); have Xa_26 := Lib.hid (Xa_25.out.below hb); have Xb_26 := Lib.hid (Xb_25.out.below hb); have Xcc_26 := Lib.hid (Xcc_25.out.below hb); have ya1 := Xa_26.out.fst; have ya2 := Xa_26.out.snd; have yb1 := Xb_26.out.fst; have yb2 := Xb_26.out.snd; have ycc1 := Xcc_26.out.fst; have ycc2 := Xcc_26.out.snd; clear hb))
      | (go_at_call 21; first
        | ((with_reducible refine (k_cmp Au6 cu6 Bu6 du6 Au7 cu7 Bu7 du7 _ Hu6 Hu7 (Qu6_28.out) (Qu7_28.out)).mono ?_); rintro e w29 ⟨rfl, hb⟩; have B29 := Lib.hid (below_on B28.out hb); have Xa_29 := Lib.hid (Xa_28.out.below hb); have Xb_29 := Lib.hid (Xb_28.out.below hb); have Xcc_29 := Lib.hid (Xcc_28.out.below hb); have ya1 := Xa_29.out.fst; have ya2 := Xa_29.out.snd; have yb1 := Xb_29.out.fst; have yb2 := Xb_29.out.snd; have ycc1 := Xcc_29.out.fst; have ycc2 := Xcc_29.out.snd; clear hb)))
  go_wp2_with fail
  go_ret
  exact ⟨rfl, B29.out⟩
end Go.Proofs.YtinceponggpioaaDoor.frY

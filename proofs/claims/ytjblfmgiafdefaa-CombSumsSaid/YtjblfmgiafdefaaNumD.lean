/-
  The contract of math/bits.Div64 (Go's own text), for a divisor above the high word: quotient and remainder of the two words; the world is as it was, but for draws.
-/
import Derived.Test.YtjblfmgiafdefaaNumB
import Derived.Deep.CutBlock
import Derived.Deep.LoopGhost
import Derived.Deep.QuietTactic
import Derived.BigQuiet
import Derived.Laws.Bits64b
namespace Go.Proofs.Ytjblfmgiafdefaa.numD
open Go.RowKit
set_option linter.unusedVariables false
open Go.Proofs.Ytjblfmgiafdefaa.numM Go.Proofs.Ytjblfmgiafdefaa.numA Go.Proofs.Ytjblfmgiafdefaa.numB

/-- the facts on a loop's round: the trial quotient q, what is left r -/
structure Tr (u a T q r : Nat) : Prop where
  eq : q * a + r = u
  le : T ≤ q
  hi : q ≤ 4294967297
  small : r < 4294967296

theorem Tr.start {u a b c : Nat} (ha0 : 2147483648 ≤ a) (ha1 : a < 4294967296) (hb1 : b < 4294967296) (hc : c < 4294967296) (hu : u < a * 4294967296 + b) :
    Tr u a ((u * 4294967296 + c) / (a * 4294967296 + b)) (u / a) (u - u / a * a) :=
  ⟨numM.start_eq u a, numM.start_le u a b c (by omega) hc, numM.start_bd u a b ha0 hb1 hu, by have := numM.start_r u a (by omega); omega⟩
/-- what the quotient's digit is -/
def Dig (u a b c T : Nat) : Prop := T = (u * 4294967296 + c) / (a * 4294967296 + b) ∧ 2147483648 ≤ a ∧ b < 4294967296 ∧ c < 4294967296 ∧ u < a * 4294967296 + b
theorem Tr.of {u a b c T : Nat} (ha1 : a < 4294967296) (h : Dig u a b c T) : Tr u a T (u / a) (u - u / a * a) := by
  obtain ⟨rfl, h0, h1, h2, h3⟩ := h
  exact Tr.start h0 ha1 h1 h2 h3
def Dn (u a T q r : Nat) : Prop := 1 ≤ q ∧ (q - 1) * a + (r + a) = u ∧ T ≤ q - 1 ∧ q ≤ 4294967297
theorem Tr.down_of {u a b c T q r : Nat} (D : Dig u a b c T) (h : Tr u a T q r) (hlt : u * 4294967296 + c < q * (a * 4294967296 + b)) : Dn u a T q r := by
  obtain ⟨rfl, h0, h1, h2, h3⟩ := D
  obtain ⟨k1, k2⟩ := numM.down u a b c q (by omega) hlt
  exact ⟨k2, numM.down_eq u a q r k2 h.eq, k1, h.hi⟩
theorem Tr.down_big {u a b c T q r : Nat} (D : Dig u a b c T) (h : Tr u a T q r) (hq : (4294967296 : Int) ≤ (q : Int)) : Dn u a T q r :=
  Tr.down_of D h (big_lt u a b c q D.2.2.2.1 D.2.2.2.2 (by omega))
theorem Tr.down_test {u a b c T q r m : Nat} (D : Dig u a b c T) (h : Tr u a T q r) (hm : m = q * b) (ht : 4294967296 * (r : Int) + (c : Int) < (m : Int)) : Dn u a T q r :=
  Tr.down_of D h (test_lt u a b c q r h.eq (by omega))
theorem Tr.next {u a T q r : Nat} (h : Dn u a T q r) (hr : ¬ (4294967296 : Int) ≤ (r : Int) + (a : Int)) : Tr u a T (q - 1) (r + a) :=
  ⟨h.2.1, h.2.2.1, by have := h.2.2.2; omega, by omega⟩
theorem Tr.brk {u a b c T q r : Nat} (D : Dig u a b c T) (h : Dn u a T q r) (hr : (4294967296 : Int) ≤ (r : Int) + (a : Int)) : q - 1 = T := by
  obtain ⟨rfl, h0, h1, h2, h3⟩ := D
  obtain ⟨k1, k2, k3, k4⟩ := h
  exact stop_eq u a b c (q - 1) (r + a) (by omega) k3 k2 (break_le b c (q - 1) (r + a) h1 (by omega) (by omega))
theorem Tr.stop {u a b c T q r m : Nat} (D : Dig u a b c T) (h : Tr u a T q r) (hm : m = q * b) (ht : ¬ 4294967296 * (r : Int) + (c : Int) < (m : Int)) : q = T := by
  obtain ⟨rfl, h0, h1, h2, h3⟩ := D
  exact stop_eq u a b c q r (by omega) h.le h.eq (by omega)
theorem small_mul (q b : Nat) (hq : ¬ (4294967296 : Int) ≤ (q : Int)) (hb : b < 4294967296) : IntKind.u64.wrap ((q : Int) * (b : Int)) = ((q * b : Nat) : Int) := by
  have := Lib.half_mul_le (a := q) (b := b) (by omega) (by omega)
  rw [mulN]; exact wrapN _ (by omega)
theorem u64_eq {a b : Int} (h : a = b) : Value.int .u64 a = .int .u64 b := by rw [h]

/-- the trial quotient, as the text computes it -/
theorem trial {u a b c T Y : Nat} (hY : Y < 18446744073709551616) (hYe : Y = a * 4294967296 + b) (ha1 : a < 4294967296) (D : Dig u a b c T) :
    ∃ q0 p0 r0 : Nat, (u : Int) / (a : Int) = (q0 : Int) ∧ IntKind.u64.wrap ((q0 : Int) * (a : Int)) = (p0 : Int) ∧ p0 ≤ u ∧ (u : Int) - (p0 : Int) = (r0 : Int) ∧ q0 ≤ 4294967297 ∧ Tr u a T q0 r0 := by
  have h := Tr.of ha1 D
  have hle : u / a * a ≤ u := Nat.div_mul_le_self u a
  refine ⟨u / a, u / a * a, u - u / a * a, rfl, ?_, hle, by omega, h.hi, h⟩
  rw [mulN]; exact wrapN _ (by have := D.2.2.2.2; omega)
/-- what is left behind a digit, as the text computes it -/
theorem digit (u c Y : Nat) (hu : u < Y) (hY : Y < 18446744073709551616) :
    ∃ E1 E2 E3 v : Nat, IntKind.u64.wrap ((u : Int) * 4294967296) = (E1 : Int) ∧ IntKind.u64.wrap ((E1 : Int) + (c : Int)) = (E2 : Int) ∧ IntKind.u64.wrap ((((u * 4294967296 + c) / Y : Nat) : Int) * (Y : Int)) = (E3 : Int) ∧
      IntKind.u64.wrap ((E2 : Int) - (E3 : Int)) = (v : Int) ∧ v = (u * 4294967296 + c) % Y ∧ v < Y := by
  have hv : (u * 4294967296 + c) % Y < Y := Nat.mod_lt _ (by omega)
  have e := Nat.div_add_mod (u * 4294967296 + c) Y
  rw [Nat.mul_comm] at e
  refine ⟨u * 4294967296 % 18446744073709551616, (u * 4294967296 + c) % 18446744073709551616, (u * 4294967296 + c) / Y * Y % 18446744073709551616, (u * 4294967296 + c) % Y, ?_, ?_, ?_, ?_, rfl, hv⟩
  · rw [IntKind.wrap_u64]; omega
  · rw [IntKind.wrap_u64]; omega
  · rw [mulN, wrapM]
  · rw [IntKind.wrap_u64]; exact wsub _ _ _ (by omega) e.symm
theorem digit_lt {u a b c T : Nat} (D : Dig u a b c T) : T < 4294967296 := by
  obtain ⟨rfl, h0, h1, h2, h3⟩ := D
  rw [Nat.div_lt_iff_lt_mul (by omega)]; omega

theorem two_eq {k : IntKind} {a b c d : Int} (h : a = c) (h' : b = d) : Ending.returned (.tuple #[.int k a, .int k b]) = .returned (.tuple #[.int k c, .int k d]) := by rw [h, h']
set_option maxRecDepth 100000 in
set_option maxHeartbeats 2000000 in
theorem div_big (hi lo y s Y a b u L c d T : Nat) (h1 : 1 ≤ hi) (hlt : hi < y) (hlo : lo < 18446744073709551616) (hy : y < 18446744073709551616) (hs : s ≤ 63)
   (hY : IntKind.u64.wrap ((y : Int) * 2 ^ s) = (Y : Int)) (hY0 : 9223372036854775808 ≤ Y) (hY1 : Y < 18446744073709551616)
   (ha : (Y : Int) / 4294967296 = (a : Int)) (hb : bits .and .u64 (Y : Int) 4294967295 = (b : Int))
   (ha0 : 2147483648 ≤ a) (ha1 : a < 4294967296) (hb1 : b < 4294967296)
   (hU : bits .or .u64 (IntKind.u64.wrap ((hi : Int) * 2 ^ s)) ((lo : Int) / 2 ^ (64 - s)) = (u : Int)) (hu : u < Y)
   (hL : IntKind.u64.wrap ((lo : Int) * 2 ^ s) = (L : Int)) (hL1 : L < 18446744073709551616)
   (hc : (L : Int) / 4294967296 = (c : Int)) (hd : bits .and .u64 (L : Int) 4294967295 = (d : Int)) (hc1 : c < 4294967296) (hd1 : d < 4294967296)
   (D1 : Hid (Dig u a b c T)) (hYe : Hid (Y = a * 4294967296 + b))
   (HF : Hid ((hi * 18446744073709551616 + lo) / y = T * 4294967296 + ((u * 4294967296 + c) % Y * 4294967296 + d) / Y ∧ (hi * 18446744073709551616 + lo) % y = ((u * 4294967296 + c) % Y * 4294967296 + d) % Y / 2 ^ s))
   (cz : ∀ w, Calls Try.prog 69 #[.int .u64 y] w fun e w' => e = .returned (.int .i64 (s : Int)) ∧ w' = w) (w : World) :
    Calls Try.prog 53 #[.int .u64 hi, .int .u64 lo, .int .u64 y] w fun e w' => e = .returned (.tuple #[.int .u64 (((hi * 18446744073709551616 + lo) / y : Nat) : Int), .int .u64 (((hi * 18446744073709551616 + lo) % y : Nat) : Int)]) ∧ w = w' := by
  obtain ⟨q0, p0, r0, hq, hp, hp0, hr, hq0, H0'⟩ := trial hY1 hYe.out ha1 D1.out
  have H0 := Lib.hid H0'
  clear H0'
  have e0 : ((hi : Int) == 0) = false := by simp; omega
  have e1 : ((y : Int) == 0) = false := by simp; omega
  have e2 : ¬ (y : Int) ≤ (hi : Int) := by omega
  go_enter Try.func53, Try.ntmps53
  go_upto_block 0 with (go_at_call 69; refine (cz _).mono ?_; rintro e w' ⟨rfl, rfl⟩)
  clear e0 e1 e2 hU hL hq hp hr hY ha hb hd hc hY0 hlt hlo hy cz hL1 hp0
  go_cut [15, 16] from 67 to 85 (fun s15 s16 wx => s15 = .int .u64 (T : Int) ∧ (∃ n : Nat, s16 = .int .u64 (n : Int)) ∧ wx = w')
  case first =>
    go_wp2_with fail
    go_loopg [15, 16] q0 (fun k s15 s16 wx => ∃ q r : Nat, q = k ∧ s15 = .int .u64 (q : Int) ∧ s16 = .int .u64 (r : Int) ∧ Hid (Tr u a T q r) ∧ wx = w')
    case atStart => exact ⟨q0, r0, rfl, rfl, rfl, H0, rfl⟩
    case round =>
      obtain ⟨q, r, rfl, rfl, rfl, H, rfl⟩ := hrel
      have hr1 : (r : Int) < 4294967296 := by have := H.out.small; omega
      have hq1 : (q : Int) ≤ 4294967297 := by have := H.out.hi; omega
      by_cases h1 : (4294967296 : Int) ≤ (q : Int)
      · have G : Hid (Dn u a T q r) := Lib.hid (Tr.down_big D1.out H.out h1)
        have g1 : (1 : Int) ≤ (q : Int) := by have := G.out.1; omega
        by_cases h2 : (4294967296 : Int) ≤ (r : Int) + (a : Int)
        · go_wp2
          go_meet
          exact ⟨u64_eq (by have := Tr.brk D1.out G.out h2; omega), ⟨r + a, rfl⟩, rfl⟩
        · go_wp2
          go_roundg (q - 1)
          case measure => omega
          case rel => exact ⟨q - 1, r + a, rfl, u64_eq (by omega), rfl, Tr.next G.out (by omega), rfl⟩
      · obtain ⟨m, hm⟩ : ∃ m : Nat, m = q * b := ⟨_, rfl⟩
        have hmw := small_mul q b h1 hb1
        rw [← hm] at hmw
        have HM := Lib.hid hm
        clear hm
        by_cases h3 : 4294967296 * (r : Int) + (c : Int) < (m : Int)
        · have G : Hid (Dn u a T q r) := Lib.hid (Tr.down_test D1.out H.out HM.out h3)
          have g1 : (1 : Int) ≤ (q : Int) := by have := G.out.1; omega
          by_cases h2 : (4294967296 : Int) ≤ (r : Int) + (a : Int)
          · go_wp2
            go_meet
            exact ⟨u64_eq (by have := Tr.brk D1.out G.out h2; omega), ⟨r + a, rfl⟩, rfl⟩
          · go_wp2
            go_roundg (q - 1)
            case measure => omega
            case rel => exact ⟨q - 1, r + a, rfl, u64_eq (by omega), rfl, Tr.next G.out (by omega), rfl⟩
        · go_wp2
          go_meet
          exact ⟨u64_eq (by have := Tr.stop D1.out H.out HM.out (by omega); omega), ⟨r, rfl⟩, rfl⟩
  case rest =>
    obtain ⟨rfl, ⟨n, rfl⟩, rfl⟩ := hcut
    obtain ⟨E1, E2, E3, v, f1, f2, f3, f4, f5, f6⟩ := digit u c Y hu hY1
    rw [show (u * 4294967296 + c) / Y = T by rw [hYe.out]; exact D1.out.1.symm] at f3
    have F5 := Lib.hid f5
    clear f5 H0
    have D2 : Dig v a b d ((v * 4294967296 + d) / (a * 4294967296 + b)) := ⟨rfl, ha0, hb1, hd1, hYe.out ▸ f6⟩
    obtain ⟨G1, G2, G3, R, g1, g2, g3, g4, g5, g6⟩ := digit v d Y f6 hY1
    have e3 : (v * 4294967296 + d) / (a * 4294967296 + b) = (v * 4294967296 + d) / Y := by rw [hYe.out]
    rw [e3] at D2
    clear e3
    have hT1 := digit_lt D1.out
    have hT2 := digit_lt D2
    have HR := Lib.hid g5
    clear g5
    obtain ⟨T2, e4⟩ : ∃ T2, T2 = (v * 4294967296 + d) / Y := ⟨_, rfl⟩
    rw [← e4] at D2 hT2 g3
    have D2' := Lib.hid D2
    obtain ⟨q1, p1, r1, hq, hp, hp1, hr, hq1, H1'⟩ := trial hY1 hYe.out ha1 D2
    have H1 := Lib.hid H1'
    have E4 := Lib.hid e4
    clear H1' e4 D2
    go_upto_block 2 with fail
    clear hq hp hp1 hr f1 f2 f3 f4 f6
    go_cut [18, 16] from 102 to 120 (fun s18 s16 wx => s18 = .int .u64 (T2 : Int) ∧ (∃ n : Nat, s16 = .int .u64 (n : Int)) ∧ wx = wc)
    case first =>
      go_wp2_with fail
      go_loopg [18, 16] q1 (fun k s18 s16 wx => ∃ q r : Nat, q = k ∧ s18 = .int .u64 (q : Int) ∧ s16 = .int .u64 (r : Int) ∧ Hid (Tr v a T2 q r) ∧ wx = wc)
      case atStart => exact ⟨q1, r1, rfl, rfl, rfl, H1, rfl⟩
      case round =>
        obtain ⟨q, r, rfl, rfl, rfl, H, hw⟩ := hrel
        subst hw
        have hr1 : (r : Int) < 4294967296 := by have := H.out.small; omega
        have hq1 : (q : Int) ≤ 4294967297 := by have := H.out.hi; omega
        by_cases h1 : (4294967296 : Int) ≤ (q : Int)
        · have G : Hid (Dn v a T2 q r) := Lib.hid (Tr.down_big D2'.out H.out h1)
          have g1 : (1 : Int) ≤ (q : Int) := by have := G.out.1; omega
          by_cases h2 : (4294967296 : Int) ≤ (r : Int) + (a : Int)
          · go_wp2
            go_meet
            exact ⟨u64_eq (by have := Tr.brk D2'.out G.out h2; omega), ⟨r + a, rfl⟩, rfl⟩
          · go_wp2
            go_roundg (q - 1)
            case measure => omega
            case rel => exact ⟨q - 1, r + a, rfl, u64_eq (by omega), rfl, Tr.next G.out (by omega), rfl⟩
        · obtain ⟨m, hm⟩ : ∃ m : Nat, m = q * b := ⟨_, rfl⟩
          have hmw := small_mul q b h1 hb1
          rw [← hm] at hmw
          have HM := Lib.hid hm
          clear hm
          by_cases h3 : 4294967296 * (r : Int) + (d : Int) < (m : Int)
          · have G : Hid (Dn v a T2 q r) := Lib.hid (Tr.down_test D2'.out H.out HM.out h3)
            have g1 : (1 : Int) ≤ (q : Int) := by have := G.out.1; omega
            by_cases h2 : (4294967296 : Int) ≤ (r : Int) + (a : Int)
            · go_wp2
              go_meet
              exact ⟨u64_eq (by have := Tr.brk D2'.out G.out h2; omega), ⟨r + a, rfl⟩, rfl⟩
            · go_wp2
              go_roundg (q - 1)
              case measure => omega
              case rel => exact ⟨q - 1, r + a, rfl, u64_eq (by omega), rfl, Tr.next G.out (by omega), rfl⟩
          · go_wp2
            go_meet
            exact ⟨u64_eq (by have := Tr.stop D2'.out H.out HM.out (by omega); omega), ⟨r, rfl⟩, rfl⟩
    case rest =>
      obtain ⟨rfl, ⟨n, rfl⟩, hw⟩ := hcut
      subst hw
      go_wp2
      go_ret2
      have z1 : (T : Int) * 4294967296 + (T2 : Int) = (((hi * 18446744073709551616 + lo) / y : Nat) : Int) := by
        rw [HF.out.1, E4.out, F5.out]; omega
      have z2 : (R : Int) / 2 ^ s = (((hi * 18446744073709551616 + lo) % y : Nat) : Int) := by
        rw [HF.out.2, HR.out, F5.out, Int.natCast_ediv, Int.natCast_pow]; rfl
      exact ⟨two_eq z1 z2, rfl⟩

/-- no high word: Go divides at once, in an order that it leaves open -/
theorem div_0 (lo y : Nat) (h1 : 1 ≤ y) (hlo : lo < 18446744073709551616) (hy : y < 18446744073709551616) (w : World) :
    Calls Try.prog 53 #[.int .u64 0, .int .u64 lo, .int .u64 y] w fun e w' => e = .returned (.tuple #[.int .u64 ((lo / y : Nat) : Int), .int .u64 ((lo % y : Nat) : Int)]) ∧ ∃ k, w' = w.drewN k := by
  have hy0 : ((y : Int) == 0) = false := by simp; omega
  have hp : (0 : Int) < (y : Int) := by omega
  have hn : ¬ (y : Int) ≤ 0 := by omega
  have hq : IntKind.u64.wrap ((lo : Int) / (y : Int)) = ((lo / y : Nat) : Int) := by
    have : lo / y ≤ lo := Nat.div_le_self _ _
    rw [← Int.natCast_ediv]; exact wrapN _ (by omega)
  go_enter Try.func53, Try.ntmps53
  go_wp2
  go_quiet (fail)
  go_wp2
  go_ret2
  exact ⟨rfl, _, rfl⟩

theorem split_bd (Y : Nat) (h1 : Y < 18446744073709551616) : Y / 4294967296 < 4294967296 ∧ Y % 4294967296 < 4294967296 ∧ Y = Y / 4294967296 * 4294967296 + Y % 4294967296 := by omega
theorem split_lo (Y : Nat) (h1 : 9223372036854775808 ≤ Y) : 2147483648 ≤ Y / 4294967296 := by omega
/-- the shifted dividend and divisor, and what two digits give -/
theorem div_any (hi lo y : Nat) (hlt : hi < y) (hlo : lo < 18446744073709551616) (hy : y < 18446744073709551616) (w : World) :
    Calls Try.prog 53 #[.int .u64 hi, .int .u64 lo, .int .u64 y] w fun e w' => e = .returned (.tuple #[.int .u64 (((hi * 18446744073709551616 + lo) / y : Nat) : Int), .int .u64 (((hi * 18446744073709551616 + lo) % y : Nat) : Int)]) ∧ ∃ k, w' = w.drewN k := by
  by_cases h0 : hi = 0
  · subst h0
    have := div_0 lo y (by omega) hlo hy w
    rw [Nat.zero_mul, Nat.zero_add]; exact this
  · obtain ⟨s, es, hs, hY0, hY1⟩ := norm_s y (by omega) hy
    obtain ⟨hU1, hU2, hU3, hU4, hU5⟩ := norm_u hi lo y s hs hlt hlo hY1
    have hP : 0 < 2 ^ s := Nat.pos_of_ne_zero (by simp)
    have cz : ∀ w, Calls Try.prog 69 #[.int .u64 y] w fun e w' => e = .returned (.int .i64 (s : Int)) ∧ w' = w := fun w => by
      have := Try.bits_LeadingZeros64 (y : Int) w (by omega) (by omega)
      rw [show ((y : Int)).toNat = y from rfl, es] at this; exact this
    have eY : ((y : Int) * 2 ^ s) = ((y * 2 ^ s : Nat) : Int) := by rw [Int.natCast_mul, Int.natCast_pow]; rfl
    have eH : ((hi : Int) * 2 ^ s) = ((hi * 2 ^ s : Nat) : Int) := by rw [Int.natCast_mul, Int.natCast_pow]; rfl
    have eL : ((lo : Int) * 2 ^ s) = ((lo * 2 ^ s : Nat) : Int) := by rw [Int.natCast_mul, Int.natCast_pow]; rfl
    have eQ : ((lo : Int) / 2 ^ (64 - s)) = ((lo / 2 ^ (64 - s) : Nat) : Int) := by rw [Int.natCast_ediv, Int.natCast_pow]; rfl
    have sh1 : (hi * 18446744073709551616 + lo) / y = ((hi * 18446744073709551616 + lo) * 2 ^ s) / (y * 2 ^ s) := (Nat.mul_div_mul_right _ _ hP).symm
    have sh2 : (hi * 18446744073709551616 + lo) % y = ((hi * 18446744073709551616 + lo) * 2 ^ s) % (y * 2 ^ s) / 2 ^ s := (shift_mod _ _ _ hP).symm
    rw [← hU5] at sh1 sh2
    have oU := bits_or_u64_nat (hi * 2 ^ s) (lo / 2 ^ (64 - s)) hU1 hU2
    rw [hU3] at oU
    have aY := Mul64.maskN (y * 2 ^ s) hY1
    have hL1 : lo * 2 ^ s % 18446744073709551616 < 18446744073709551616 := Nat.mod_lt _ (by omega)
    have aL := Mul64.maskN (lo * 2 ^ s % 18446744073709551616) hL1
    generalize hYn : y * 2 ^ s = Y at *
    generalize hUn : hi * 2 ^ s + lo / 2 ^ (64 - s) = u at *
    generalize hLn : lo * 2 ^ s % 18446744073709551616 = L at *
    obtain ⟨y1, y2, eYd⟩ := split_bd Y hY1
    obtain ⟨l1, l2, eLd⟩ := split_bd L hL1
    have y0 := split_lo Y hY0
    have hu' : u < Y / 4294967296 * 4294967296 + Y % 4294967296 := by rw [← eYd]; exact hU4
    have h1' : 1 ≤ hi := Nat.pos_of_ne_zero h0
    have td := two_digits u Y (L / 4294967296) (L % 4294967296) (Nat.lt_of_le_of_lt (Nat.zero_le _) hU4) hU4 l1 l2
    have eUL : u * 18446744073709551616 + L / 4294967296 * 4294967296 + L % 4294967296 = u * 18446744073709551616 + L := by rw [Nat.add_assoc, ← eLd]
    rw [eUL] at td
    refine (div_big hi lo y s Y (Y / 4294967296) (Y % 4294967296) u L (L / 4294967296) (L % 4294967296) ((u * 4294967296 + L / 4294967296) / Y) h1' hlt hlo hy hs
      (by rw [eY]; exact wrapN _ hY1) hY0 hY1 (divN Y) aY y0 y1 y2
      (by rw [eH, wrapN _ hU1, eQ]; exact oU) hU4 (by rw [eL, wrapM, hLn]) hL1 (divN L) aL l1 l2
      ⟨by rw [← eYd], y0, y2, l1, hu'⟩ eYd ⟨by rw [sh1, ← td.1], by rw [sh2, ← td.2]⟩ cz w).mono ?_
    rintro e w1 ⟨h, rfl⟩
    exact ⟨h, 0, rfl⟩
end Go.Proofs.Ytjblfmgiafdefaa.numD

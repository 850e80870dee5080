/-
  The contract of Decimal of the reference.
-/
import Derived.Test.YtinceponggpioaaDoorFrV
import Derived.Test.YtinceponggpioaaDoorFrI
import Derived.Test.YtinceponggpioaaDoorNtG
namespace Go.Proofs.YtinceponggpioaaDoor.frJ
open Go.RowKit
open Go.Proofs.YtinceponggpioaaDoor.natM Go.Proofs.YtinceponggpioaaDoor.natA Go.Proofs.YtinceponggpioaaDoor.natB Go.Proofs.YtinceponggpioaaDoor.natC Go.Proofs.YtinceponggpioaaDoor.natD Go.Proofs.YtinceponggpioaaDoor.natE Go.Proofs.YtinceponggpioaaDoor.natF Go.Proofs.YtinceponggpioaaDoor.natG Go.Proofs.YtinceponggpioaaDoor.natH Go.Proofs.YtinceponggpioaaDoor.natI Go.Proofs.YtinceponggpioaaDoor.natJ Go.Proofs.YtinceponggpioaaDoor.natX Go.Proofs.YtinceponggpioaaDoor.natUi Go.Proofs.YtinceponggpioaaDoor.frM Go.Proofs.YtinceponggpioaaDoor.frA Go.Proofs.YtinceponggpioaaDoor.frB Go.Proofs.YtinceponggpioaaDoor.frC Go.Proofs.YtinceponggpioaaDoor.frD Go.Proofs.YtinceponggpioaaDoor.frTx Go.Proofs.YtinceponggpioaaDoor.ntF Go.Proofs.YtinceponggpioaaDoor.ntM Go.Proofs.YtinceponggpioaaDoor.ntG Go.Proofs.YtinceponggpioaaDoor.frR Go.Proofs.YtinceponggpioaaDoor.frV Go.Proofs.YtinceponggpioaaDoor.frI
set_option linter.unusedVariables false

theorem Bk.set1 {w : World} {b : Nat} {u v : Value} (h : Bk w b #[u]) : Bk (w.setCell ⟨b, 0, none⟩ v) b #[v] := h.set_ 0 v
theorem kp_of {w0 w : World} {A1 A2 A3 : Option Addr} {n1 X1 n2 X2 n3 X3 b1 b2 b3 : Nat} {v1 v2 v3 : Array Value} (h0 : Below w0.heap.size w0 w) (h1 : Cel .u32 w A1 (dg 4294967296 n1 X1)) (h2 : Cel .u32 w A2 (dg 4294967296 n2 X2)) (h3 : Cel .u32 w A3 (dg 4294967296 n3 X3))
    (g1 : Bk w b1 v1) (g2 : Bk w b2 v2) (g3 : Bk w b3 v3) : Kp w0 [(A1, n1, X1), (A2, n2, X2), (A3, n3, X3)] [(b1, v1), (b2, v2), (b3, v3)] w :=
  ⟨h0, fun x hx => by simp at hx; rcases hx with rfl | rfl | rfl <;> assumption, fun x hx => by simp at hx; rcases hx with rfl | rfl | rfl <;> assumption⟩
section
variable {w0 W : World} {x0 x1 x2 x3 : Option Addr × Nat × Nat} {cs : List (Option Addr × Nat × Nat)} {q b g : Nat} {vq : Array Value} {bs : List (Nat × Array Value)} {a1 a2 : Option Addr} {n1 c1 n2 c2 : Nat}
theorem kp_sub {cs cs' : List (Option Addr × Nat × Nat)} {bs bs' : List (Nat × Array Value)} (h : Kp w0 cs bs W) (h1 : ∀ x ∈ cs', x ∈ cs) (h2 : ∀ x ∈ bs', x ∈ bs) : Kp w0 cs' bs' W := ⟨h.bel, fun x hx => h.cel x (h1 x hx), fun x hx => h.blk x (h2 x hx)⟩
theorem kp_put {cs : List (Option Addr × Nat × Nat)} (h : Kp w0 cs ((b, #[.slice a1 n1 c1]) :: bs) W) (hl : w0.heap.size ≤ b) (hne : ∀ x ∈ bs, x.1 ≠ b) (u : Value) : Kp w0 cs ((b, #[u]) :: bs) (W.setCell ⟨b, 0, none⟩ u) :=
  ⟨h.bel.setCell (p := ⟨b, 0, none⟩) hl u, fun x hx => (h.cel x hx).set_ (p := ⟨b, 0, none⟩) (far_bk1 (h.cel x hx) h.b0) u, fun x hx => by
    rcases List.mem_cons.1 hx with rfl | hx
    · exact h.b0.set_ 0 u
    · exact (h.blk x (.tail _ hx)).far (p := ⟨b, 0, none⟩) (hne x hx) u⟩
theorem two_ne {a c : Nat} {v v2 : Array Value} (h : a ≠ b) (h2 : c ≠ b) : ∀ x ∈ [(a, v), (c, v2)], x.1 ≠ b := fun x hx => by simp at hx; rcases hx with rfl | rfl <;> assumption
theorem mem3 {a b c : Option Addr × Nat × Nat} {d : Option Addr × Nat × Nat} {l : List (Option Addr × Nat × Nat)} : ∀ x ∈ [a, b, d], x ∈ a :: b :: c :: d :: l := fun x hx => by simp at hx ⊢; rcases hx with rfl | rfl | rfl <;> simp
theorem mem3b {a b c : Nat × Array Value} {l : List (Nat × Array Value)} : ∀ x ∈ [a, b, c], x ∈ a :: b :: c :: l := fun x hx => by simp at hx ⊢; rcases hx with rfl | rfl | rfl <;> simp
theorem mem3s {a b c : Nat × Array Value} {l : List (Nat × Array Value)} : ∀ x ∈ [a, b, c], x ∈ b :: a :: c :: l := fun x hx => by simp at hx ⊢; rcases hx with rfl | rfl | rfl <;> simp
theorem end1 (h : Kp w0 (x0 :: x1 :: x2 :: x3 :: cs) ((q, vq) :: bs) W) (u v : Value) (T : TypeId) : Kp w0 [x0, x1, x3] [(W.heap.size, #[u]), (W.heap.size + 1, #[v]), (q, vq)] ((W.alloc (.cells #[u] T)).alloc (.cells #[v] T)) := kp_sub (h.al2 #[u] #[v] T T) mem3 mem3s
theorem end2 (h : Kp w0 (x0 :: x1 :: x2 :: x3 :: cs) ((q, vq) :: bs) W) (u v : Value) (T : TypeId) : Kp w0 [x0, x1, x3] [(W.heap.size + 1, #[u]), (W.heap.size, #[v]), (q, vq)] ((W.alloc (.cells #[v] T)).alloc (.cells #[u] T)) := kp_sub (h.al2 #[v] #[u] T T) mem3 mem3b
theorem end4 (h : Kp w0 (x0 :: x1 :: x2 :: x3 :: cs) ((b, #[.slice a1 n1 c1]) :: (g, #[.slice a2 n2 c2]) :: (q, vq) :: bs) W) (hb : b ≠ g) (h1 : q ≠ b) (h2 : q ≠ g) (l1 : w0.heap.size ≤ b) (l2 : w0.heap.size ≤ g) (u v : Value) :
    Kp w0 [x0, x1, x3] [(b, #[u]), (g, #[v]), (q, vq)] ((W.setCell ⟨b, 0, none⟩ u).setCell ⟨g, 0, none⟩ v) := by
  have k1 := kp_put (kp_sub h (mem3 (l := cs)) mem3b) l1 (two_ne hb.symm h1) u
  have k2 := kp_put (kp_sub k1 (fun x hx => hx) (mem3s (l := []))) l2 (two_ne hb h2) v
  exact kp_sub k2 (fun x hx => hx) (mem3s (l := []))
theorem end4s (h : Kp w0 (x0 :: x1 :: x2 :: x3 :: cs) ((g, #[.slice a2 n2 c2]) :: (b, #[.slice a1 n1 c1]) :: (q, vq) :: bs) W) (hb : b ≠ g) (h1 : q ≠ b) (h2 : q ≠ g) (l1 : w0.heap.size ≤ b) (l2 : w0.heap.size ≤ g) (u v : Value) :
    Kp w0 [x0, x1, x3] [(b, #[u]), (g, #[v]), (q, vq)] ((W.setCell ⟨b, 0, none⟩ u).setCell ⟨g, 0, none⟩ v) := by
  have k1 := kp_put (kp_sub h (mem3 (l := cs)) (mem3s (l := bs))) l1 (two_ne hb.symm h1) u
  have k2 := kp_put (kp_sub k1 (fun x hx => hx) (mem3s (l := []))) l2 (two_ne hb h2) v
  exact kp_sub k2 (fun x hx => hx) (mem3s (l := []))
theorem end3 (h : Kp w0 (x0 :: x1 :: x2 :: x3 :: cs) ((b, #[.slice a1 n1 c1]) :: (q, vq) :: bs) W) (h1 : q ≠ b) (l1 : w0.heap.size ≤ b) (u v : Value) (T : TypeId) :
    Kp w0 [x0, x1, x3] [(b, #[u]), (W.heap.size, #[v]), (q, vq)] (((W.alloc (.cells #[.slice none 0 0] T)).setCell ⟨b, 0, none⟩ u).setCell ⟨W.heap.size, 0, none⟩ v) :=
  end4s (h.al1 #[.slice none 0 0] T) (Nat.ne_of_lt h.b0.lt) h1 (Nat.ne_of_lt h.b1.lt) l1 h.bel.size u v
theorem end5 (h : Kp w0 (x0 :: x1 :: x2 :: x3 :: cs) ((g, #[.slice a1 n1 c1]) :: (q, vq) :: bs) W) (h1 : q ≠ g) (l1 : w0.heap.size ≤ g) (u v : Value) (T : TypeId) :
    Kp w0 [x0, x1, x3] [(W.heap.size, #[u]), (g, #[v]), (q, vq)] ((W.alloc (.cells #[u] T)).setCell ⟨g, 0, none⟩ v) := by
  have k1 := kp_sub (h.al1 #[u] T) (mem3 (l := cs)) (mem3s (l := bs))
  have k2 := kp_put k1 l1 (two_ne (Nat.ne_of_gt h.b0.lt) h1) v
  exact kp_sub k2 (fun x hx => hx) (mem3s (l := []))
end
set_option maxRecDepth 4000 in
set_option maxHeartbeats 2000000 in
theorem rdec_no (A B : Option Addr) (n c m d X Y : Nat) (p : Int) (b : Bool) (hX : Hid (X < 4294967296 ^ n)) (hY : Hid (Y < 4294967296 ^ m)) (j1 : n ≤ 9223372036854775807) (j2 : m ≤ 9223372036854775807) (hb : Hid (b = frB n X m Y)) (hno : b = false ∨ p < 0 ∨ 18 < p)
    (w : World) (h1 : Cel .u32 w A (dg 4294967296 n X)) (h2 : Cel .u32 w B (dg 4294967296 m Y)) :
    Calls Tryd.prog 28 #[.agg #[.slice A n c, .slice B m d], .int .i64 p] w (TxP [] 2 w) := by
  have S0 := Lib.hid (((Kp.start w).addc h2).addc h1)
  clear h1 h2
  have c1 := fun w h1 h2 => rvd_any A B n c m d X Y hX hY b j1 j2 hb w h1 h2
  clear hX hY hb
  cases b with
  | false =>
    go_enter Tryd.func28, Tryd.ntmps28
    go_wp2_with (go_at_call 20; (with_reducible refine (c1 _ (S0.out.al1 _ _).c0 (S0.out.al1 _ _).c1).mono ?_); rintro e w1 ⟨rfl, hb⟩; have S1 := Lib.hid ((S0.out.al1 _ _).below hb); clear hb)
    go_ret2
    exact ⟨rfl, S1.out.bel⟩
  | true =>
    by_cases hp : p < 0
    · go_enter Tryd.func28, Tryd.ntmps28
      go_wp2_with (go_at_call 20; (with_reducible refine (c1 _ (S0.out.al1 _ _).c0 (S0.out.al1 _ _).c1).mono ?_); rintro e w1 ⟨rfl, hb⟩; have S1 := Lib.hid ((S0.out.al1 _ _).below hb); clear hb)
      go_ret2
      exact ⟨rfl, S1.out.bel⟩
    · have hp2 : 18 < p := by
        rcases hno with h | h | h
        · cases h
        · omega
        · exact h
      go_enter Tryd.func28, Tryd.ntmps28
      go_wp2_with (go_at_call 20; (with_reducible refine (c1 _ (S0.out.al1 _ _).c0 (S0.out.al1 _ _).c1).mono ?_); rintro e w1 ⟨rfl, hb⟩; have S1 := Lib.hid ((S0.out.al1 _ _).below hb); clear hb)
      go_ret2
      exact ⟨rfl, S1.out.bel⟩

set_option maxRecDepth 4000 in
set_option maxHeartbeats 8000000 in
theorem rdec_big (A B : Option Addr) (n c m d X Y p : Nat) (hX : Hid (X < 4294967296 ^ n)) (hY : Hid (Y < 4294967296 ^ m)) (v1 : Hid (valB n X = true)) (v2 : Hid (valB m Y = true)) (hv : Hid (frB n X m Y = true)) (hy : 0 < Y) (hp : p ≤ 18) (hbig : 64 < nlen 4294967296 (X * 10 ^ p))
    (w : World) (h1 : Cel .u32 w A (dg 4294967296 n X)) (h2 : Cel .u32 w B (dg 4294967296 m Y)) :
    Calls Tryd.prog 28 #[.agg #[.slice A n c, .slice B m d], .int .i64 (p : Int)] w (TxP [] 9 w) := by
  have S0 := Lib.hid (((Kp.start w).addc h2).addc h1)
  clear h1 h2
  have j1 := (valB_iff.1 v1.out).1
  have j2 := (valB_iff.1 v2.out).1
  have c1 := fun w h1 h2 => rvd_any A B n c m d X Y hX hY true (by omega) (by omega) (Lib.hid hv.out.symm) w h1 h2
  obtain ⟨T, hT⟩ : ∃ T, T = 10 ^ p := ⟨_, rfl⟩
  have hT64 : T < 18446744073709551616 := by
    have : 10 ^ p ≤ 10 ^ 18 := Nat.pow_le_pow_right (by omega) hp
    omega
  have hT0 : 0 < T := by rw [hT]; exact Nat.pow_pos (by omega)
  rw [← hT] at hbig
  obtain ⟨kT, hkT⟩ : ∃ k, k = nlen 4294967296 T := ⟨_, rfl⟩
  have vT : valB kT T = true := valB_iff.2 ⟨by rw [hkT]; exact Nat.le_trans (len_word hT64) (by omega), hkT.symm⟩
  have co := fun w => rof_any T hT64 w
  have cm := rmul_big v1.out vT rfl hbig
  have HKT := Lib.hid hkT
  have HT10 := Lib.hid hT
  clear hkT vT hbig hT hX hY v1 v2 hv hy
  go_enter Tryd.func28, Tryd.ntmps28
  go_wp2_with (go_at_call 20; (with_reducible refine (c1 _ (S0.out.al1 _ _).c0 (S0.out.al1 _ _).c1).mono ?_); rintro e w1 ⟨rfl, hb⟩; have S1 := Lib.hid ((S0.out.al1 _ _).below hb); clear hb)
  go_loopw [6, 7] (fun s i wr => ∃ k t : Nat, k ≤ p ∧ i = .int .i64 (k : Int) ∧ s = .int .u64 (t : Int) ∧ Hid (t = 10 ^ k) ∧ wr = w1) (fun _ i _ => p - (intOf i).toNat)
  case atStart => exact ⟨0, 1, by omega, rfl, rfl, Lib.hid rfl, rfl⟩
  case round =>
    obtain ⟨k, t, hk, rfl, rfl, ht, rfl⟩ := hrel
    by_cases hlt : k < p
    · obtain ⟨t2, e1, e2, e3⟩ := ten_step hlt hp ht.out
      have H2 := Lib.hid e2
      clear e2 ht
      have e1' : (10 : Int) * (t : Int) = (t2 : Int) := by omega
      have w1 : IntKind.u64.wrap (t2 : Int) = (t2 : Int) := IntWalk.u64_in _ (by omega)
      go_wp2_with fail
      go_roundw
      case rel => exact ⟨k + 1, t2, by omega, by go_num, rfl, H2, by first | trivial | rfl⟩
      case measure => simp [intOf]; omega
    · obtain rfl : k = p := by omega
      obtain rfl : t = T := by rw [ht.out, HT10.out]
      clear ht hlt hk
      go_upto_region 8 with fail
      have x1 := S1.out.b0.fst
      have l0 := S1.out.b0.lt
      have ne1 := World.new_ne wr _ x1
      go_cut [8, 9] from 18 (fun s7 s8 wx => ∃ (p7 : Nat), s7 = .pointer (some ⟨p7, 0, none⟩) ∧ s8 = .int .i64 9 ∧ Hid (Below w.heap.size w wx))
      case first =>
        go_region_held3 (fun w' => w'.cell? ⟨w.heap.size, 0, none⟩ = some (.slice A n c)) (go_keep)
          (first
            | (go_at_call 40; first
              | ((with_reducible refine (co _).mono ?_); rintro e w5 ⟨A5, n5, c5, rfl, q, hb⟩; obtain ⟨z, q2⟩ := num_at HKT.out q; subst z; have S5 := Lib.hid ((S1.out.drew.below hb).addc q2); have x5 := S5.out.b0.fst; have ne5 := World.new_ne w5 _ x5; clear hb q q2)
              | ((with_reducible refine (co _).mono ?_); rintro e w5 ⟨A5, n5, c5, rfl, q, hb⟩; obtain ⟨z, q2⟩ := num_at HKT.out q; subst z; have S5b := Lib.hid (((S1.out.al1 _ _).drew.below hb).addc q2); have x5 := S5b.out.b1.fst; clear hb q q2))
            | (go_at_call 48; first
              | ((with_reducible refine (cm _ _ _ _ _ S5.out.c1 S5.out.c0).mono ?_); rintro e w6 ⟨A6, n6, c6, rfl, q, hb⟩; have S6 := Lib.hid ((S5.out.below hb)); have x6 := S6.out.b0.fst; have ne6 := World.new_ne w6 _ x6; clear hb q)
              | ((with_reducible refine (cm _ _ _ _ _ (S5.out.al1 _ _).c1 (S5.out.al1 _ _).c0).mono ?_); rintro e w6 ⟨A6, n6, c6, rfl, q, hb⟩; have S6 := Lib.hid (((S5.out.al1 _ _).below hb)); have x6 := S6.out.b1.fst; have y6 := S6.out.b0.one; have f6 := S6.out.b0.free 0; have ne6 : w5.heap.size ≠ w.heap.size := Ne.symm (Nat.ne_of_lt S5.out.b0.lt); clear hb q)
              | ((with_reducible refine (cm _ _ _ _ _ S5b.out.c1 S5b.out.c0).mono ?_); rintro e w6 ⟨A6, n6, c6, rfl, q, hb⟩; have S6 := Lib.hid ((S5b.out.below hb)); have x6 := S6.out.b1.fst; have y6 := S6.out.b0.one; have f6 := S6.out.b0.free 0; have ne6 : wr.heap.size ≠ w.heap.size := Ne.symm (Nat.ne_of_lt l0); clear hb q)))
        all_goals go_wp2_with fail
        all_goals go_meet
        all_goals first
          | exact ⟨_, rfl, rfl, Lib.hid (S6.out.alloc _).bel⟩
          | exact ⟨_, rfl, rfl, Lib.hid (S6.out.bel.setCell (p := ⟨_, 0, none⟩) S5.out.bel.size _)⟩
          | exact ⟨_, rfl, rfl, Lib.hid (S6.out.bel.setCell (p := ⟨_, 0, none⟩) S1.out.bel.size _)⟩
      case rest =>
        obtain ⟨p7, rfl, rfl, hk⟩ := hcut
        clear S1 S0 x1 l0 ne1 co cm c1
        go_wp2_with fail
        go_ret2
        exact ⟨rfl, hk.out⟩
end Go.Proofs.YtinceponggpioaaDoor.frJ

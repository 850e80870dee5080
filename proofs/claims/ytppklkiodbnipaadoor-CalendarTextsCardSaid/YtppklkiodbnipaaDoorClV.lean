/-
  The contract of the reference's Parse, of a text that has the form.
-/
import Derived.Test.YtppklkiodbnipaaDoorClU
namespace Go.Proofs.YtppklkiodbnipaaDoor.clV
open Go.RowKit
open Go.Proofs.YtppklkiodbnipaaDoor.numT Go.Proofs.YtppklkiodbnipaaDoor.clM Go.Proofs.YtppklkiodbnipaaDoor.clA Go.Proofs.YtppklkiodbnipaaDoor.clB Go.Proofs.YtppklkiodbnipaaDoor.clC Go.Proofs.YtppklkiodbnipaaDoor.clD Go.Proofs.YtppklkiodbnipaaDoor.clE Go.Proofs.YtppklkiodbnipaaDoor.clX Go.Proofs.YtppklkiodbnipaaDoor.clT Go.Proofs.YtppklkiodbnipaaDoor.clU
set_option linter.unusedVariables false

/-- where two digits begin -/
def pos (k : Nat) : Nat := [0, 2, 5, 8, 11, 14].getD k 0
theorem pos_ok {k : Nat} (h : k < 6) : pos k ≤ 14 ∧ dgAt (pos k) ∧ dgAt (pos k + 1) ∧ at0 [0, 2, 5, 8, 11, 14] k = (pos k : Int) := by
  rcases (show k = 0 ∨ k = 1 ∨ k = 2 ∨ k = 3 ∨ k = 4 ∨ k = 5 by omega) with rfl | rfl | rfl | rfl | rfl | rfl <;> exact ⟨by decide, by unfold dgAt pos; decide, by unfold dgAt pos; decide, rfl⟩
/-- the numbers of a text -/
def nums (l : List UInt8) : List Int := [(nu l 0 : Int), (nu l 2 : Int), (nu l 5 : Int), (nu l 8 : Int), (nu l 11 : Int), (nu l 14 : Int)]
theorem nums_at (l : List UInt8) {k : Nat} (h : k < 6) : at0 (nums l) k = (nu l (pos k) : Int) := by
  rcases (show k = 0 ∨ k = 1 ∨ k = 2 ∨ k = 3 ∨ k = 4 ∨ k = 5 by omega) with rfl | rfl | rfl | rfl | rfl | rfl <;> rfl
theorem take_snoc' {L : List Int} {k : Nat} (h : k < L.length) : L.take k ++ [at0 L k] = L.take (k + 1) := by
  rw [List.take_succ_eq_append_getElem h]
  simp [at0, List.getD, h]

/-- what the text's numbers say, and what is answered -/
def Out (Y M D H I : Nat) (V E : Int) : Prop :=
  ((∀ n, Dt (Y : Int) (M : Int) (D : Int) n → 4100 < (Y : Int)) ∧ V = 0 ∧ E = 2) ∨
  ∃ n, Is n Y M D ∧ Y ≤ 4100 ∧ ((23 < H ∧ V = 0 ∧ E = 2) ∨ (H ≤ 23 ∧ 59 < I ∧ V = 0 ∧ E = 2) ∨ (H ≤ 23 ∧ I ≤ 59 ∧ 1073741824 < 1440 * n + 60 * H + I ∧ V = 0 ∧ E = 2) ∨ (H ≤ 23 ∧ I ≤ 59 ∧ 1440 * n + 60 * H + I ≤ 1073741824 ∧ V = ((1440 * n + 60 * H + I : Nat) : Int) ∧ E = 0))
set_option maxRecDepth 4000 in
set_option maxHeartbeats 4000000 in
theorem rp_yes (s : ByteArray) (hf : Hid (frm s.data.toList = true)) (h16 : s.size = 16) (A B Y M D H I : Nat) (hN : Hid (nums s.data.toList = [(A : Int), (B : Int), (M : Int), (D : Int), (H : Int), (I : Int)])) (hY : Y = 100 * A + B) (bA : A ≤ 99) (bB : B ≤ 99) (bM : M ≤ 99) (bD : D ≤ 99) (bH : H ≤ 99) (bI : I ≤ 99) (V E : Int) (hO : Hid (Out Y M D H I V E)) (w : World) :
    Calls Tryd.prog 23 #[.string s] w fun e w' => e = .returned (.tuple #[.int .i64 V, .int .i64 E]) ∧ Below w.heap.size w w' := by
  have t : ((s.size : Int) != 16) = false := by simp; omega
  have HD : Hid (∀ k, k < 16 → dgAt k → dig (ats s.data.toList k) = true) := Lib.hid fun k a b => frm_dig hf.out a b
  have HO : Hid (∀ k, k < 16 → okAt k (ats s.data.toList k) = true) := Lib.hid (frm_iff.1 hf.out).2
  go_enter Tryd.func23, Tryd.ntmps23
  go_wp2_with fail
  go_loopw [5] (fun s5 wr => ∃ k d : Nat, k ≤ 16 ∧ s5 = .int .i64 (k : Int) ∧ wr = w.drewN d) (fun s5 _ => 16 - (intOf s5).toNat)
  case atStart => exact ⟨0, 0, by omega, rfl, rfl⟩
  case round =>
    obtain ⟨k, d, hk, rfl, rfl⟩ := hrel
    by_cases hlt : k < 16
    · have hks : k < s.size := by omega
      have hlt' : (k : Int) < 16 := by omega
      have hp : ∀ h, ((((⟨#[100, 100, 100, 100, 45, 100, 100, 45, 100, 100, 32, 100, 100, 58, 100, 100]⟩ : ByteArray)[k]'h).toNat : Nat) : Int) = ((if pat k = 48 then 100 else pat k : Nat) : Int) := fun h => by rw [litd_at k h]
      have EA := at_ats s k hks
      have ho := HO.out k hlt
      rw [← EA] at ho
      by_cases h48 : pat k = 48
      · rw [okAt_dig (pat_dig h48 hlt), dig_iff] at ho
        rw [if_pos h48] at hp
        have c1 : decide ((s[k].toNat : Int) < 48) = false := decide_eq_false (by omega)
        have c2 : decide ((57 : Int) < (s[k].toNat : Int)) = false := decide_eq_false (by omega)
        clear ho h48 EA
        go_wp2_with fail
        go_quiet (fail)
        go_wp2_with fail
        go_roundw
        case rel => exact ⟨k + 1, _, by omega, by go_num, rfl⟩
        case measure => simp [intOf]; omega
      · rw [pat_else h48, decide_eq_true_iff] at ho
        rw [if_neg h48] at hp
        have tp : (((pat k : Nat) : Int) == 100) = false := by have := pat_100 (k := k); simp; omega
        have tp2 : (((pat k : Nat) : Int) != 100) = true := by have := pat_100 (k := k); simp; omega
        have c1' : ((s[k].toNat : Int) != ((pat k : Nat) : Int)) = false := by rw [ho]; simp
        clear ho h48 EA
        generalize pat k = p at *
        go_wp2_with fail
        go_quiet (fail)
        go_wp2_with fail
        go_roundw
        case rel => exact ⟨k + 1, _, by omega, by go_num, rfl⟩
        case measure => simp [intOf]; omega
    · have k16 : decide ((k : Int) < 16) = false := decide_eq_false (by omega)
      clear HO hlt
      go_wp2_with fail
      obtain ⟨w1, hw1⟩ : ∃ w1, (w.drewN d).alloc (Obj.cells #[.int .i64 0, .int .i64 2, .int .i64 5, .int .i64 8, .int .i64 11, .int .i64 14] 3) = w1 := ⟨_, rfl⟩
      have R1 : RowI w1 w.heap.size [0, 2, 5, 8, 11, 14] := by rw [← hw1]; exact heap_alloc_new (w.drewN d) _
      have B1 : Below w.heap.size w w1 := by rw [← hw1]; exact below_on (below_draw w d) (below_al _ _)
      rw [hw1]
      clear hw1
      go_loopw [7, 8] (fun s7 s8 wr => ∃ k : Nat, k ≤ 6 ∧ s8 = .int .i64 (k : Int) ∧ Hid (OwnI wr w1.heap.size s7 ((nums s.data.toList).take k) k) ∧ Below w1.heap.size w1 wr) (fun _ s8 _ => 6 - (intOf s8).toNat)
      case atStart => exact ⟨0, by omega, rfl, Lib.hid (own_nil _ _), Below.refl _ _⟩
      case round =>
        obtain ⟨k, hk, rfl, hown, hbel⟩ := hrel
        by_cases hlt : k < 6
        · have R2 := R1.below hbel
          have hx := R2.cell (j := k) hlt
          obtain ⟨p14, pd1, pd2, pe⟩ := pos_ok hlt
          rw [pe] at hx
          have hps : pos k < s.size := by omega
          have hps1 : pos k + 1 < s.size := by omega
          have g1 := dig_iff.1 (HD.out (pos k) (by omega) pd1)
          have g2 := dig_iff.1 (HD.out (pos k + 1) (by omega) pd2)
          rw [← at_ats s _ hps] at g1
          rw [← at_ats s _ hps1] at g2
          have D1 : Hid ((nums s.data.toList).take k ++ [(nu s.data.toList (pos k) : Int)] = (nums s.data.toList).take (k + 1)) := Lib.hid (by rw [← nums_at _ hlt]; exact take_snoc' (by show k < 6; exact hlt))
          have en : nu s.data.toList (pos k) = 10 * (s[pos k].toNat - 48) + (s[pos k + 1].toNat - 48) := by rw [at_ats s _ hps, at_ats s _ hps1]; rfl
          generalize nu s.data.toList (pos k) = q at *
          clear pe pd1 pd2 R2
          generalize pos k = p at *
          obtain ⟨u, hu⟩ : ∃ u, u = s[p].toNat := ⟨_, rfl⟩
          obtain ⟨v, hv⟩ : ∃ v, v = s[p + 1].toNat := ⟨_, rfl⟩
          rw [← hu] at g1 en
          rw [← hv] at g2 en
          have eu : (s[p].toNat : Int) = (u : Int) := by rw [hu]
          have ev : (s[p + 1].toNat : Int) = (v : Int) := by rw [hv]
          obtain ⟨a, ha⟩ : ∃ a, a = u - 48 := ⟨_, rfl⟩
          obtain ⟨b, hb⟩ : ∃ b, b = 10 * a := ⟨_, rfl⟩
          obtain ⟨c, hc⟩ : ∃ c, c = b + v := ⟨_, rfl⟩
          have r0 : IntKind.i64.wrap ((p : Int) + 1) = (p : Int) + 1 := IntWalk.i64_in _ (by omega)
          have r0a : (0 : Int) ≤ (p : Int) + 1 := by omega
          have r0b : ((p : Int) + 1).toNat = p + 1 := by omega
          have r0c : (p : Int) + 1 < 16 := by omega
          have r0d : (p : Int) < 16 := by omega
          have k0 : (0 : Int) ≤ (k : Int) := by omega
          have k1 : (k : Int) < 6 := by omega
          have ru : IntKind.i64.wrap (u : Int) = (u : Int) := IntWalk.i64_in _ (by omega)
          have rv : IntKind.i64.wrap (v : Int) = (v : Int) := IntWalk.i64_in _ (by omega)
          have r1 : IntKind.i64.wrap ((u : Int) - 48) = (a : Int) := by rw [IntWalk.i64_in _ (by omega)]; omega
          have r2 : IntKind.i64.wrap (10 * (a : Int)) = (b : Int) := by rw [IntWalk.i64_in _ (by omega)]; omega
          have r3 : IntKind.i64.wrap ((b : Int) + (v : Int)) = (c : Int) := by rw [IntWalk.i64_in _ (by omega)]; omega
          have r4 : IntKind.i64.wrap ((c : Int) - 48) = (q : Int) := by rw [IntWalk.i64_in _ (by omega)]; omega
          have hs16 : (s.size : Int) = 16 := by omega
          have HB := hbel.size
          have HBel := Lib.hid hbel
          clear hu hv ha hb hc en g1 g2 hbel
          go_wp2_with fail
          go_region_law (refine step_push (by rfl) (.tmp 56) (.tmp 76) (by rfl) wr.drew w1.heap.size _ k _ (q : Int) (by rfl) hown.out (by rfl) (by omega) HB ?_; intro g cg w3 hpp; unfold PushedI at hpp; rw [D1.out] at hpp; have HP := Lib.hid hpp; clear hpp)
          all_goals
            go_wp2_with fail
            go_roundw
            case rel => exact ⟨k + 1, by omega, by go_num, Lib.hid HP.out.1, (Below.drew HBel.out).trans HP.out.2⟩
            case measure => simp [intOf]; omega
        · obtain rfl : k = 6 := by omega
          have ho := hown.out
          rw [List.take_of_length_le (by show 6 ≤ 6; omega), hN.out] at ho
          obtain ⟨g, c, rfl, _, _⟩ := World.ownsRow.form ho (by omega)
          have S1 := own_six ho
          have HB := Lib.hid (below_on B1 hbel)
          have x0 := S1 0 (by omega)
          have x1 := S1 1 (by omega)
          have rA : IntKind.i64.wrap (100 * (A : Int)) = 100 * (A : Int) := IntWalk.i64_in _ (by omega)
          have rB : IntKind.i64.wrap (100 * (A : Int) + (B : Int)) = (Y : Int) := by rw [IntWalk.i64_in _ (by omega)]; omega
          have eY : 100 * (A : Int) + (B : Int) = (Y : Int) := by omega
          have bY : Y ≤ 9999 := by omega
          clear hY
          have xe0 : at0 [(A : Int), (B : Int), (M : Int), (D : Int), (H : Int), (I : Int)] 0 = (A : Int) := rfl
          have xe1 : at0 [(A : Int), (B : Int), (M : Int), (D : Int), (H : Int), (I : Int)] 1 = (B : Int) := rfl
          rw [xe0] at x0
          rw [xe1] at x1
          have HS1 := Lib.hid S1
          clear ho hown hbel B1 R1 S1 xe0 xe1 hN
          go_wp2_with fail
          go_quiet (fail)
          clear x0 x1 rA rB eY
          obtain ⟨w2, hw2⟩ : ∃ w2, wr.drewN nq = w2 := ⟨_, rfl⟩
          have S2 : Hid (Six w2 g [(A : Int), (B : Int), (M : Int), (D : Int), (H : Int), (I : Int)]) := Lib.hid (by rw [← hw2]; exact HS1.out)
          have B2 : Hid (Below w.heap.size w w2) := Lib.hid (by rw [← hw2]; exact below_on HB.out (below_draw _ _))
          rw [hw2]
          clear hw2 HS1 HB
          have x2 : w2.cell? ⟨g, 2, none⟩ = some (.int .i64 (M : Int)) := S2.out 2 (by omega)
          have x3 : w2.cell? ⟨g, 3, none⟩ = some (.int .i64 (D : Int)) := S2.out 3 (by omega)
          have u4 : w2.cell? ⟨g, 4, none⟩ = some (.int .i64 (H : Int)) := S2.out 4 (by omega)
          have u5 : w2.cell? ⟨g, 5, none⟩ = some (.int .i64 (I : Int)) := S2.out 5 (by omega)
          rcases hO.out with ⟨ho1, rfl, rfl⟩ | ⟨n, hI, hY4, ho2⟩
          · have cx := fun w => rex_no (Y : Int) (M : Int) (D : Int) ho1 w
            clear ho1 hO
            go_wp2_with fail
            first | (go_region_with (go_at_call 26; (with_reducible refine (cx _).mono ?_); rintro e w3 ⟨rfl, hb3⟩; have B3 := Lib.hid (below_on (Below.drew B2.out) hb3); clear hb3)) | fail
            all_goals
              go_wp2_with fail
              go_ret2
              exact ⟨rfl, B3.out⟩
          · have cx := fun w => rex_yes n Y M D hI hY4 w
            rcases ho2 with ⟨h1, rfl, rfl⟩ | ⟨h1, h2, rfl, rfl⟩ | ⟨h1, h2, h3, rfl, rfl⟩ | ⟨h1, h2, h3, hVT, rfl⟩
            · have z1 : (23 : Int) < (H : Int) := by omega
              clear hO hI
              go_wp2_with fail
              first | (go_region_with (go_at_call 26; (with_reducible refine (cx _).mono ?_); rintro e w3 ⟨rfl, hb3⟩; have B3 := Lib.hid (below_on (Below.drew B2.out) hb3); have S3 : Hid (Six w3 g [(A : Int), (B : Int), (M : Int), (D : Int), (H : Int), (I : Int)]) := Lib.hid (Six.below (w := w2.drew) S2.out hb3); have x6 : w3.cell? ⟨g, 2, none⟩ = some (.int .i64 (M : Int)) := S3.out 2 (by omega); have x7 : w3.cell? ⟨g, 3, none⟩ = some (.int .i64 (D : Int)) := S3.out 3 (by omega); have x4 : w3.cell? ⟨g, 4, none⟩ = some (.int .i64 (H : Int)) := S3.out 4 (by omega); have x5 : w3.cell? ⟨g, 5, none⟩ = some (.int .i64 (I : Int)) := S3.out 5 (by omega); clear hb3)) | fail
              all_goals
                go_wp2_with fail
                go_ret2
                exact ⟨rfl, B3.out⟩
            · have z1 : decide ((23 : Int) < (H : Int)) = false := decide_eq_false (by omega)
              have z2 : (59 : Int) < (I : Int) := by omega
              clear hO hI
              go_wp2_with fail
              go_region_held3 (fun w' => w'.cell? ⟨g, 2, none⟩ = some (.int .i64 (M : Int)) ∧ w'.cell? ⟨g, 3, none⟩ = some (.int .i64 (D : Int)) ∧ w'.cell? ⟨g, 4, none⟩ = some (.int .i64 (H : Int)) ∧ w'.cell? ⟨g, 5, none⟩ = some (.int .i64 (I : Int))) (go_keep)
                (first | (go_at_call 26; (with_reducible refine (cx _).mono ?_); rintro e w3 ⟨rfl, hb3⟩; have B3 := Lib.hid (below_on (Below.drew B2.out) hb3); have S3 : Hid (Six w3 g [(A : Int), (B : Int), (M : Int), (D : Int), (H : Int), (I : Int)]) := Lib.hid (Six.below (w := w2.drew) S2.out hb3); have x6 : w3.cell? ⟨g, 2, none⟩ = some (.int .i64 (M : Int)) := S3.out 2 (by omega); have x7 : w3.cell? ⟨g, 3, none⟩ = some (.int .i64 (D : Int)) := S3.out 3 (by omega); have x4 : w3.cell? ⟨g, 4, none⟩ = some (.int .i64 (H : Int)) := S3.out 4 (by omega); have x5 : w3.cell? ⟨g, 5, none⟩ = some (.int .i64 (I : Int)) := S3.out 5 (by omega); clear hb3) | fail)
              go_wp2_with fail
              go_ret2
              exact ⟨rfl, B3.out⟩
            · skip
              have cn := fun w => rnum_any n Y M D hI (by omega) w
              have bn := Is.year hI
              have bn2 : yS (Y + 1) ≤ 90000000 := by unfold yS lq; omega
              have bn3 : n ≤ 90000000 := by omega
              clear bn bn2
              obtain ⟨a1, ha1⟩ : ∃ a1, a1 = 1440 * n := ⟨_, rfl⟩
              obtain ⟨a2, ha2⟩ : ∃ a2, a2 = 60 * H := ⟨_, rfl⟩
              obtain ⟨a3, ha3⟩ : ∃ a3, a3 = a1 + a2 := ⟨_, rfl⟩
              obtain ⟨T, hT⟩ : ∃ T, T = a3 + I := ⟨_, rfl⟩
              have q1 : 1440 * (n : Int) = (a1 : Int) := by omega
              have q2 : 60 * (H : Int) = (a2 : Int) := by omega
              have q3 : (a1 : Int) + (a2 : Int) = (a3 : Int) := by omega
              have q4 : (a3 : Int) + (I : Int) = (T : Int) := by omega
              have p1 : IntKind.i64.wrap (a1 : Int) = (a1 : Int) := IntWalk.i64_in _ (by omega)
              have p2 : IntKind.i64.wrap (a2 : Int) = (a2 : Int) := IntWalk.i64_in _ (by omega)
              have p3 : IntKind.i64.wrap (a3 : Int) = (a3 : Int) := IntWalk.i64_in _ (by omega)
              have p4 : IntKind.i64.wrap (T : Int) = (T : Int) := IntWalk.i64_in _ (by omega)
              have z1 : decide ((23 : Int) < (H : Int)) = false := decide_eq_false (by omega)
              have z2 : decide ((59 : Int) < (I : Int)) = false := decide_eq_false (by omega)
              have z3 : (1073741824 : Int) < (T : Int) := by omega
              clear hO hI ha1 ha2 ha3 hT h3
              go_wp2_with fail
              go_region_held3 (fun w' => w'.cell? ⟨g, 2, none⟩ = some (.int .i64 (M : Int)) ∧ w'.cell? ⟨g, 3, none⟩ = some (.int .i64 (D : Int)) ∧ w'.cell? ⟨g, 4, none⟩ = some (.int .i64 (H : Int)) ∧ w'.cell? ⟨g, 5, none⟩ = some (.int .i64 (I : Int))) (go_keep)
                (first | (go_at_call 26; (with_reducible refine (cx _).mono ?_); rintro e w3 ⟨rfl, hb3⟩; have B3 := Lib.hid (below_on (Below.drew B2.out) hb3); have S3 : Hid (Six w3 g [(A : Int), (B : Int), (M : Int), (D : Int), (H : Int), (I : Int)]) := Lib.hid (Six.below (w := w2.drew) S2.out hb3); have x6 : w3.cell? ⟨g, 2, none⟩ = some (.int .i64 (M : Int)) := S3.out 2 (by omega); have x7 : w3.cell? ⟨g, 3, none⟩ = some (.int .i64 (D : Int)) := S3.out 3 (by omega); have x4 : w3.cell? ⟨g, 4, none⟩ = some (.int .i64 (H : Int)) := S3.out 4 (by omega); have x5 : w3.cell? ⟨g, 5, none⟩ = some (.int .i64 (I : Int)) := S3.out 5 (by omega); clear hb3) | fail)
              go_wp2_with fail
              go_region_held3 (fun w' => w'.cell? ⟨g, 2, none⟩ = some (.int .i64 (M : Int)) ∧ w'.cell? ⟨g, 3, none⟩ = some (.int .i64 (D : Int)) ∧ w'.cell? ⟨g, 4, none⟩ = some (.int .i64 (H : Int)) ∧ w'.cell? ⟨g, 5, none⟩ = some (.int .i64 (I : Int))) (go_keep)
                (first
                  | (go_at_call 27; (with_reducible refine (cn _).mono ?_); rintro e w4 ⟨rfl, hb4⟩; have B4 := Lib.hid (below_on (Below.drew B3.out) hb4); have S4 : Hid (Six w4 g [(A : Int), (B : Int), (M : Int), (D : Int), (H : Int), (I : Int)]) := Lib.hid (Six.below (w := w3.drew) S3.out hb4); have y2 : w4.cell? ⟨g, 2, none⟩ = some (.int .i64 (M : Int)) := S4.out 2 (by omega); have y3 : w4.cell? ⟨g, 3, none⟩ = some (.int .i64 (D : Int)) := S4.out 3 (by omega); have x8 : w4.cell? ⟨g, 4, none⟩ = some (.int .i64 (H : Int)) := S4.out 4 (by omega); have x9 : w4.cell? ⟨g, 5, none⟩ = some (.int .i64 (I : Int)) := S4.out 5 (by omega); clear hb4)
                  | fail)
              go_wp2_with fail
              go_ret2
              exact ⟨rfl, B4.out⟩
            · skip
              have cn := fun w => rnum_any n Y M D hI (by omega) w
              have bn := Is.year hI
              have bn2 : yS (Y + 1) ≤ 90000000 := by unfold yS lq; omega
              have bn3 : n ≤ 90000000 := by omega
              clear bn bn2
              obtain ⟨a1, ha1⟩ : ∃ a1, a1 = 1440 * n := ⟨_, rfl⟩
              obtain ⟨a2, ha2⟩ : ∃ a2, a2 = 60 * H := ⟨_, rfl⟩
              obtain ⟨a3, ha3⟩ : ∃ a3, a3 = a1 + a2 := ⟨_, rfl⟩
              obtain ⟨T, hT⟩ : ∃ T, T = a3 + I := ⟨_, rfl⟩
              have q1 : 1440 * (n : Int) = (a1 : Int) := by omega
              have q2 : 60 * (H : Int) = (a2 : Int) := by omega
              have q3 : (a1 : Int) + (a2 : Int) = (a3 : Int) := by omega
              have q4 : (a3 : Int) + (I : Int) = (T : Int) := by omega
              have p1 : IntKind.i64.wrap (a1 : Int) = (a1 : Int) := IntWalk.i64_in _ (by omega)
              have p2 : IntKind.i64.wrap (a2 : Int) = (a2 : Int) := IntWalk.i64_in _ (by omega)
              have p3 : IntKind.i64.wrap (a3 : Int) = (a3 : Int) := IntWalk.i64_in _ (by omega)
              have p4 : IntKind.i64.wrap (T : Int) = (T : Int) := IntWalk.i64_in _ (by omega)
              have z1 : decide ((23 : Int) < (H : Int)) = false := decide_eq_false (by omega)
              have z2 : decide ((59 : Int) < (I : Int)) = false := decide_eq_false (by omega)
              have z3 : decide ((1073741824 : Int) < (T : Int)) = false := decide_eq_false (by omega)
              obtain rfl : V = (T : Int) := by omega
              clear hO hI ha1 ha2 ha3 hT h3 hVT
              go_wp2_with fail
              go_region_held3 (fun w' => w'.cell? ⟨g, 2, none⟩ = some (.int .i64 (M : Int)) ∧ w'.cell? ⟨g, 3, none⟩ = some (.int .i64 (D : Int)) ∧ w'.cell? ⟨g, 4, none⟩ = some (.int .i64 (H : Int)) ∧ w'.cell? ⟨g, 5, none⟩ = some (.int .i64 (I : Int))) (go_keep)
                (first | (go_at_call 26; (with_reducible refine (cx _).mono ?_); rintro e w3 ⟨rfl, hb3⟩; have B3 := Lib.hid (below_on (Below.drew B2.out) hb3); have S3 : Hid (Six w3 g [(A : Int), (B : Int), (M : Int), (D : Int), (H : Int), (I : Int)]) := Lib.hid (Six.below (w := w2.drew) S2.out hb3); have x6 : w3.cell? ⟨g, 2, none⟩ = some (.int .i64 (M : Int)) := S3.out 2 (by omega); have x7 : w3.cell? ⟨g, 3, none⟩ = some (.int .i64 (D : Int)) := S3.out 3 (by omega); have x4 : w3.cell? ⟨g, 4, none⟩ = some (.int .i64 (H : Int)) := S3.out 4 (by omega); have x5 : w3.cell? ⟨g, 5, none⟩ = some (.int .i64 (I : Int)) := S3.out 5 (by omega); clear hb3) | fail)
              go_wp2_with fail
              go_region_held3 (fun w' => w'.cell? ⟨g, 2, none⟩ = some (.int .i64 (M : Int)) ∧ w'.cell? ⟨g, 3, none⟩ = some (.int .i64 (D : Int)) ∧ w'.cell? ⟨g, 4, none⟩ = some (.int .i64 (H : Int)) ∧ w'.cell? ⟨g, 5, none⟩ = some (.int .i64 (I : Int))) (go_keep)
                (first
                  | (go_at_call 27; (with_reducible refine (cn _).mono ?_); rintro e w4 ⟨rfl, hb4⟩; have B4 := Lib.hid (below_on (Below.drew B3.out) hb4); have S4 : Hid (Six w4 g [(A : Int), (B : Int), (M : Int), (D : Int), (H : Int), (I : Int)]) := Lib.hid (Six.below (w := w3.drew) S3.out hb4); have y2 : w4.cell? ⟨g, 2, none⟩ = some (.int .i64 (M : Int)) := S4.out 2 (by omega); have y3 : w4.cell? ⟨g, 3, none⟩ = some (.int .i64 (D : Int)) := S4.out 3 (by omega); have x8 : w4.cell? ⟨g, 4, none⟩ = some (.int .i64 (H : Int)) := S4.out 4 (by omega); have x9 : w4.cell? ⟨g, 5, none⟩ = some (.int .i64 (I : Int)) := S4.out 5 (by omega); clear hb4)
                  | fail)
              go_wp2_with fail
              go_ret2
              exact ⟨rfl, B4.out⟩
end Go.Proofs.YtppklkiodbnipaaDoor.clV

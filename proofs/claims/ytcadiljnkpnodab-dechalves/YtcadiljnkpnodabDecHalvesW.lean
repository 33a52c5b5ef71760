/- The walk of DecHalves: it returns true. -/
import Derived.Test.YtcadiljnkpnodabKnown
import Derived.Test.YtcadiljnkpnodabTMod
import Derived.Test.YtcadiljnkpnodabMath4
namespace Go.Proofs.Ytcadiljnkpnodab
open Go.RowKit

set_option maxHeartbeats 800000 in
theorem decHalves_out (n g : Int) (w : World) (h : n < -100000000000 ∨ 100000000000 < n ∨ g < 0 ∨ 99999 < g) :
    Calls Try.prog 4 #[.int .i64 n, .int .i64 g] w fun e w' => e = .returned (.bool true) ∧ Below w.heap.size w w' := by
  by_cases c1 : n < -100000000000
  · clear h
    go_enter Try.func4, Try.ntmps4
    go_wp2
    go_ret
    exact ⟨rfl, Below.refl _ _⟩
  · by_cases c2 : 100000000000 < n
    · clear h
      go_enter Try.func4, Try.ntmps4
      go_wp2
      go_ret
      exact ⟨rfl, Below.refl _ _⟩
    · by_cases c3 : g < 0
      · clear h
        go_enter Try.func4, Try.ntmps4
        go_wp2
        go_ret
        exact ⟨rfl, Below.refl _ _⟩
      · have c4 : 99999 < g := by omega
        clear h
        go_enter Try.func4, Try.ntmps4
        go_wp2
        go_ret
        exact ⟨rfl, Below.refl _ _⟩

set_option maxHeartbeats 4000000 in
theorem decHalves_held (n g x : Int) (w : World) (n1 : -100000000000 ≤ n) (n2 : n ≤ 100000000000) (g1 : 0 ≤ g) (g2 : g ≤ 99999) (hx : n * 100000 + g = x) (M : Int) (S : Nat) (s1 : S ≤ 4) (m1 : -1000000000 ≤ M) (m2 : M ≤ 1000000000)
    (HUP : Hid (M * p10 (4 - S) = half x 10000)) (v1 : -1000000000 ≤ half x 10000) (v2 : half x 10000 ≤ 1000000000)
    (HC : Hid (∀ w, Calls Try.prog 8 #[.int .i64 x, .int .i64 8] w fun e w' => e = .returned (.tuple #[.agg #[.int .i64 M, .int .i64 S], .int .i64 0]) ∧ Below w.heap.size w w')) :
    Calls Try.prog 4 #[.int .i64 n, .int .i64 g] w fun e w' => e = .returned (.bool true) ∧ Below w.heap.size w w' := by
  have d1 : decide (n < -100000000000) = false := decide_eq_false (by omega)
  have d2 : decide (100000000000 < n) = false := decide_eq_false (by omega)
  have d3 : decide (g < 0) = false := decide_eq_false (by omega)
  have d4 : decide (99999 < g) = false := decide_eq_false (by omega)
  have x1 : -20000000000000000 ≤ x := by omega
  have x2 : x ≤ 20000000000000000 := by omega
  have qb := div_abs x 10000 20000000000000000 (by omega) (by omega) x1 x2
  have r1 := Int.emod_nonneg x (b := 10000) (by omega)
  have r2 := Int.emod_lt_of_pos x (b := 10000) (by omega)
  have tb := tdiv_bd x 10000 20000000000000000 (by omega) (by omega) x1 x2
  have ⟨fa, fb⟩ := tmod_facts x 10000 (by omega)
  have t2 := i64_and1 (x / 10000)
  have hq : half x 10000 = if 10000 < 2 * (x % 10000) ∨ (2 * (x % 10000) = 10000 ∧ (x / 10000) % 2 ≠ 0) then x / 10000 + 1 else x / 10000 := rfl
  generalize half x 10000 = q at *
  generalize x / 10000 = q0 at *
  generalize x % 10000 = r at *
  have HQ := hide hq
  clear hq
  by_cases hneg : x.tmod 10000 < 0
  · have ⟨e1, e2⟩ := fa hneg
    have tb2 : -20000000000000000 ≤ x.tmod 10000 := by omega
    clear fa fb
    by_cases c1 : 5000 < r
    · replace HQ := hide ((unhide HQ).trans (if_pos (Or.inl (show 10000 < 2 * r by omega))))
      clear t2
      have g1 : -1000000000 ≤ q0 + 1 := by have := unhide HQ; omega
      have g2 : q0 + 1 ≤ 1000000000 := by have := unhide HQ; omega
      replace HUP := hide ((unhide HUP).trans (unhide HQ))
      clear HQ v1 v2
      go_enter Try.func4, Try.ntmps4
      go_wp2_with fail
      refine (unhide HC _).mono ?_
      rintro e w1 ⟨rfl, k1⟩
      have z1 := k1.size
      go_wp2_with fail
      go_loop [10, 11] (fun m i => ∃ j : Nat, S ≤ j ∧ j ≤ 4 ∧ m = .int .i64 (M * p10 (j - S)) ∧ i = .int .i64 j) (fun _ i => 4 - (intOf i).toNat)
      case atStart => exact ⟨S, Nat.le_refl _, s1, by rw [Nat.sub_self]; show _ = Value.int .i64 (M * 1); rw [Int.mul_one], rfl⟩
      case round =>
        obtain ⟨j, j1, j2, rfl, rfl⟩ := hrel
        by_cases hlt : j < 4
        · have pb := p10_pos (j - S)
          have pb2 := p10_bd (n := j - S) (by omega)
          have mb := mul_bd M (p10 (j - S)) 1000000000 100000000 m1 m2 (by omega) pb2 (by omega)
          have HS := hide (show M * p10 (j - S) * 10 = M * p10 (j + 1 - S) by rw [show j + 1 - S = (j - S) + 1 by omega, p10_succ, Int.mul_assoc])
          go_wp2
          go_round
          case rel => exact ⟨j + 1, by omega, by omega, by rw [unhide HS], by go_num⟩
          case measure => simp [intOf]; omega
        · have e : j = 4 := by omega
          subst e
          rw [unhide HUP]
          clear HUP
          go_wp2_with fail
          refine (known_any _).mono ?_
          rintro e w2 ⟨rfl, k2⟩
          go_wp2
          go_ret
          exact ⟨rfl, bstep (k1.alloc z1 _) k2⟩
    · by_cases c2 : r = 5000
      · by_cases c3 : q0 % 2 ≠ 0
        · replace HQ := hide ((unhide HQ).trans (if_pos (Or.inr ⟨show 2 * r = 10000 by omega, c3⟩)))
          have t3 : (bits .and .i64 q0 1 == 1) = true := by rw [t2]; simp; omega
          have c4 : (r == 5000) = true := by simp [c2]
          clear t2 c3
          have C2 := hide c2
          clear c2
          have g1 : -1000000000 ≤ q0 + 1 := by have := unhide HQ; omega
          have g2 : q0 + 1 ≤ 1000000000 := by have := unhide HQ; omega
          replace HUP := hide ((unhide HUP).trans (unhide HQ))
          clear HQ v1 v2
          go_enter Try.func4, Try.ntmps4
          go_wp2_with fail
          refine (unhide HC _).mono ?_
          rintro e w1 ⟨rfl, k1⟩
          have z1 := k1.size
          go_wp2_with fail
          go_loop [10, 11] (fun m i => ∃ j : Nat, S ≤ j ∧ j ≤ 4 ∧ m = .int .i64 (M * p10 (j - S)) ∧ i = .int .i64 j) (fun _ i => 4 - (intOf i).toNat)
          case atStart => exact ⟨S, Nat.le_refl _, s1, by rw [Nat.sub_self]; show _ = Value.int .i64 (M * 1); rw [Int.mul_one], rfl⟩
          case round =>
            obtain ⟨j, j1, j2, rfl, rfl⟩ := hrel
            by_cases hlt : j < 4
            · have pb := p10_pos (j - S)
              have pb2 := p10_bd (n := j - S) (by omega)
              have mb := mul_bd M (p10 (j - S)) 1000000000 100000000 m1 m2 (by omega) pb2 (by omega)
              have HS := hide (show M * p10 (j - S) * 10 = M * p10 (j + 1 - S) by rw [show j + 1 - S = (j - S) + 1 by omega, p10_succ, Int.mul_assoc])
              go_wp2
              go_round
              case rel => exact ⟨j + 1, by omega, by omega, by rw [unhide HS], by go_num⟩
              case measure => simp [intOf]; omega
            · have e : j = 4 := by omega
              subst e
              rw [unhide HUP]
              clear HUP
              go_wp2_with fail
              refine (known_any _).mono ?_
              rintro e w2 ⟨rfl, k2⟩
              go_wp2
              go_ret
              exact ⟨rfl, bstep (k1.alloc z1 _) k2⟩
        · replace HQ := hide ((unhide HQ).trans (if_neg (by omega)))
          have t3 : (bits .and .i64 q0 1 == 1) = false := by rw [t2]; simp; omega
          have c4 : (r == 5000) = true := by simp [c2]
          clear t2 c3
          have C2 := hide c2
          clear c2
          have g1 : -1000000000 ≤ q0 := by have := unhide HQ; omega
          have g2 : q0 ≤ 1000000000 := by have := unhide HQ; omega
          replace HUP := hide ((unhide HUP).trans (unhide HQ))
          clear HQ v1 v2
          go_enter Try.func4, Try.ntmps4
          go_wp2_with fail
          refine (unhide HC _).mono ?_
          rintro e w1 ⟨rfl, k1⟩
          have z1 := k1.size
          go_wp2_with fail
          go_loop [10, 11] (fun m i => ∃ j : Nat, S ≤ j ∧ j ≤ 4 ∧ m = .int .i64 (M * p10 (j - S)) ∧ i = .int .i64 j) (fun _ i => 4 - (intOf i).toNat)
          case atStart => exact ⟨S, Nat.le_refl _, s1, by rw [Nat.sub_self]; show _ = Value.int .i64 (M * 1); rw [Int.mul_one], rfl⟩
          case round =>
            obtain ⟨j, j1, j2, rfl, rfl⟩ := hrel
            by_cases hlt : j < 4
            · have pb := p10_pos (j - S)
              have pb2 := p10_bd (n := j - S) (by omega)
              have mb := mul_bd M (p10 (j - S)) 1000000000 100000000 m1 m2 (by omega) pb2 (by omega)
              have HS := hide (show M * p10 (j - S) * 10 = M * p10 (j + 1 - S) by rw [show j + 1 - S = (j - S) + 1 by omega, p10_succ, Int.mul_assoc])
              go_wp2
              go_round
              case rel => exact ⟨j + 1, by omega, by omega, by rw [unhide HS], by go_num⟩
              case measure => simp [intOf]; omega
            · have e : j = 4 := by omega
              subst e
              rw [unhide HUP]
              clear HUP
              go_wp2_with fail
              refine (known_any _).mono ?_
              rintro e w2 ⟨rfl, k2⟩
              go_wp2
              go_ret
              exact ⟨rfl, bstep (k1.alloc z1 _) k2⟩
      · replace HQ := hide ((unhide HQ).trans (if_neg (by omega)))
        have c4 : (r == 5000) = false := by simpa using c2
        clear t2 c2
        have g1 : -1000000000 ≤ q0 := by have := unhide HQ; omega
        have g2 : q0 ≤ 1000000000 := by have := unhide HQ; omega
        replace HUP := hide ((unhide HUP).trans (unhide HQ))
        clear HQ v1 v2
        go_enter Try.func4, Try.ntmps4
        go_wp2_with fail
        refine (unhide HC _).mono ?_
        rintro e w1 ⟨rfl, k1⟩
        have z1 := k1.size
        go_wp2_with fail
        go_loop [10, 11] (fun m i => ∃ j : Nat, S ≤ j ∧ j ≤ 4 ∧ m = .int .i64 (M * p10 (j - S)) ∧ i = .int .i64 j) (fun _ i => 4 - (intOf i).toNat)
        case atStart => exact ⟨S, Nat.le_refl _, s1, by rw [Nat.sub_self]; show _ = Value.int .i64 (M * 1); rw [Int.mul_one], rfl⟩
        case round =>
          obtain ⟨j, j1, j2, rfl, rfl⟩ := hrel
          by_cases hlt : j < 4
          · have pb := p10_pos (j - S)
            have pb2 := p10_bd (n := j - S) (by omega)
            have mb := mul_bd M (p10 (j - S)) 1000000000 100000000 m1 m2 (by omega) pb2 (by omega)
            have HS := hide (show M * p10 (j - S) * 10 = M * p10 (j + 1 - S) by rw [show j + 1 - S = (j - S) + 1 by omega, p10_succ, Int.mul_assoc])
            go_wp2
            go_round
            case rel => exact ⟨j + 1, by omega, by omega, by rw [unhide HS], by go_num⟩
            case measure => simp [intOf]; omega
          · have e : j = 4 := by omega
            subst e
            rw [unhide HUP]
            clear HUP
            go_wp2_with fail
            refine (known_any _).mono ?_
            rintro e w2 ⟨rfl, k2⟩
            go_wp2
            go_ret
            exact ⟨rfl, bstep (k1.alloc z1 _) k2⟩
  · have ⟨e1, e2⟩ := fb hneg
    clear fa fb
    rw [e1] at tb
    rw [e2] at hneg
    by_cases c1 : 5000 < r
    · replace HQ := hide ((unhide HQ).trans (if_pos (Or.inl (show 10000 < 2 * r by omega))))
      clear t2
      have g1 : -1000000000 ≤ q0 + 1 := by have := unhide HQ; omega
      have g2 : q0 + 1 ≤ 1000000000 := by have := unhide HQ; omega
      replace HUP := hide ((unhide HUP).trans (unhide HQ))
      clear HQ v1 v2
      go_enter Try.func4, Try.ntmps4
      go_wp2_with fail
      refine (unhide HC _).mono ?_
      rintro e w1 ⟨rfl, k1⟩
      have z1 := k1.size
      go_wp2_with fail
      go_loop [10, 11] (fun m i => ∃ j : Nat, S ≤ j ∧ j ≤ 4 ∧ m = .int .i64 (M * p10 (j - S)) ∧ i = .int .i64 j) (fun _ i => 4 - (intOf i).toNat)
      case atStart => exact ⟨S, Nat.le_refl _, s1, by rw [Nat.sub_self]; show _ = Value.int .i64 (M * 1); rw [Int.mul_one], rfl⟩
      case round =>
        obtain ⟨j, j1, j2, rfl, rfl⟩ := hrel
        by_cases hlt : j < 4
        · have pb := p10_pos (j - S)
          have pb2 := p10_bd (n := j - S) (by omega)
          have mb := mul_bd M (p10 (j - S)) 1000000000 100000000 m1 m2 (by omega) pb2 (by omega)
          have HS := hide (show M * p10 (j - S) * 10 = M * p10 (j + 1 - S) by rw [show j + 1 - S = (j - S) + 1 by omega, p10_succ, Int.mul_assoc])
          go_wp2
          go_round
          case rel => exact ⟨j + 1, by omega, by omega, by rw [unhide HS], by go_num⟩
          case measure => simp [intOf]; omega
        · have e : j = 4 := by omega
          subst e
          rw [unhide HUP]
          clear HUP
          go_wp2_with fail
          refine (known_any _).mono ?_
          rintro e w2 ⟨rfl, k2⟩
          go_wp2
          go_ret
          exact ⟨rfl, bstep (k1.alloc z1 _) k2⟩
    · by_cases c2 : r = 5000
      · by_cases c3 : q0 % 2 ≠ 0
        · replace HQ := hide ((unhide HQ).trans (if_pos (Or.inr ⟨show 2 * r = 10000 by omega, c3⟩)))
          have t3 : (bits .and .i64 q0 1 == 1) = true := by rw [t2]; simp; omega
          have c4 : (r == 5000) = true := by simp [c2]
          clear t2 c3
          have C2 := hide c2
          clear c2
          have g1 : -1000000000 ≤ q0 + 1 := by have := unhide HQ; omega
          have g2 : q0 + 1 ≤ 1000000000 := by have := unhide HQ; omega
          replace HUP := hide ((unhide HUP).trans (unhide HQ))
          clear HQ v1 v2
          go_enter Try.func4, Try.ntmps4
          go_wp2_with fail
          refine (unhide HC _).mono ?_
          rintro e w1 ⟨rfl, k1⟩
          have z1 := k1.size
          go_wp2_with fail
          go_loop [10, 11] (fun m i => ∃ j : Nat, S ≤ j ∧ j ≤ 4 ∧ m = .int .i64 (M * p10 (j - S)) ∧ i = .int .i64 j) (fun _ i => 4 - (intOf i).toNat)
          case atStart => exact ⟨S, Nat.le_refl _, s1, by rw [Nat.sub_self]; show _ = Value.int .i64 (M * 1); rw [Int.mul_one], rfl⟩
          case round =>
            obtain ⟨j, j1, j2, rfl, rfl⟩ := hrel
            by_cases hlt : j < 4
            · have pb := p10_pos (j - S)
              have pb2 := p10_bd (n := j - S) (by omega)
              have mb := mul_bd M (p10 (j - S)) 1000000000 100000000 m1 m2 (by omega) pb2 (by omega)
              have HS := hide (show M * p10 (j - S) * 10 = M * p10 (j + 1 - S) by rw [show j + 1 - S = (j - S) + 1 by omega, p10_succ, Int.mul_assoc])
              go_wp2
              go_round
              case rel => exact ⟨j + 1, by omega, by omega, by rw [unhide HS], by go_num⟩
              case measure => simp [intOf]; omega
            · have e : j = 4 := by omega
              subst e
              rw [unhide HUP]
              clear HUP
              go_wp2_with fail
              refine (known_any _).mono ?_
              rintro e w2 ⟨rfl, k2⟩
              go_wp2
              go_ret
              exact ⟨rfl, bstep (k1.alloc z1 _) k2⟩
        · replace HQ := hide ((unhide HQ).trans (if_neg (by omega)))
          have t3 : (bits .and .i64 q0 1 == 1) = false := by rw [t2]; simp; omega
          have c4 : (r == 5000) = true := by simp [c2]
          clear t2 c3
          have C2 := hide c2
          clear c2
          have g1 : -1000000000 ≤ q0 := by have := unhide HQ; omega
          have g2 : q0 ≤ 1000000000 := by have := unhide HQ; omega
          replace HUP := hide ((unhide HUP).trans (unhide HQ))
          clear HQ v1 v2
          go_enter Try.func4, Try.ntmps4
          go_wp2_with fail
          refine (unhide HC _).mono ?_
          rintro e w1 ⟨rfl, k1⟩
          have z1 := k1.size
          go_wp2_with fail
          go_loop [10, 11] (fun m i => ∃ j : Nat, S ≤ j ∧ j ≤ 4 ∧ m = .int .i64 (M * p10 (j - S)) ∧ i = .int .i64 j) (fun _ i => 4 - (intOf i).toNat)
          case atStart => exact ⟨S, Nat.le_refl _, s1, by rw [Nat.sub_self]; show _ = Value.int .i64 (M * 1); rw [Int.mul_one], rfl⟩
          case round =>
            obtain ⟨j, j1, j2, rfl, rfl⟩ := hrel
            by_cases hlt : j < 4
            · have pb := p10_pos (j - S)
              have pb2 := p10_bd (n := j - S) (by omega)
              have mb := mul_bd M (p10 (j - S)) 1000000000 100000000 m1 m2 (by omega) pb2 (by omega)
              have HS := hide (show M * p10 (j - S) * 10 = M * p10 (j + 1 - S) by rw [show j + 1 - S = (j - S) + 1 by omega, p10_succ, Int.mul_assoc])
              go_wp2
              go_round
              case rel => exact ⟨j + 1, by omega, by omega, by rw [unhide HS], by go_num⟩
              case measure => simp [intOf]; omega
            · have e : j = 4 := by omega
              subst e
              rw [unhide HUP]
              clear HUP
              go_wp2_with fail
              refine (known_any _).mono ?_
              rintro e w2 ⟨rfl, k2⟩
              go_wp2
              go_ret
              exact ⟨rfl, bstep (k1.alloc z1 _) k2⟩
      · replace HQ := hide ((unhide HQ).trans (if_neg (by omega)))
        have c4 : (r == 5000) = false := by simpa using c2
        clear t2 c2
        have g1 : -1000000000 ≤ q0 := by have := unhide HQ; omega
        have g2 : q0 ≤ 1000000000 := by have := unhide HQ; omega
        replace HUP := hide ((unhide HUP).trans (unhide HQ))
        clear HQ v1 v2
        go_enter Try.func4, Try.ntmps4
        go_wp2_with fail
        refine (unhide HC _).mono ?_
        rintro e w1 ⟨rfl, k1⟩
        have z1 := k1.size
        go_wp2_with fail
        go_loop [10, 11] (fun m i => ∃ j : Nat, S ≤ j ∧ j ≤ 4 ∧ m = .int .i64 (M * p10 (j - S)) ∧ i = .int .i64 j) (fun _ i => 4 - (intOf i).toNat)
        case atStart => exact ⟨S, Nat.le_refl _, s1, by rw [Nat.sub_self]; show _ = Value.int .i64 (M * 1); rw [Int.mul_one], rfl⟩
        case round =>
          obtain ⟨j, j1, j2, rfl, rfl⟩ := hrel
          by_cases hlt : j < 4
          · have pb := p10_pos (j - S)
            have pb2 := p10_bd (n := j - S) (by omega)
            have mb := mul_bd M (p10 (j - S)) 1000000000 100000000 m1 m2 (by omega) pb2 (by omega)
            have HS := hide (show M * p10 (j - S) * 10 = M * p10 (j + 1 - S) by rw [show j + 1 - S = (j - S) + 1 by omega, p10_succ, Int.mul_assoc])
            go_wp2
            go_round
            case rel => exact ⟨j + 1, by omega, by omega, by rw [unhide HS], by go_num⟩
            case measure => simp [intOf]; omega
          · have e : j = 4 := by omega
            subst e
            rw [unhide HUP]
            clear HUP
            go_wp2_with fail
            refine (known_any _).mono ?_
            rintro e w2 ⟨rfl, k2⟩
            go_wp2
            go_ret
            exact ⟨rfl, bstep (k1.alloc z1 _) k2⟩


set_option maxHeartbeats 4000000 in
theorem decHalves_lo (n g x : Int) (w : World) (n1 : -100000000000 ≤ n) (n2 : n ≤ 100000000000) (g1 : 0 ≤ g) (g2 : g ≤ 99999) (hx : n * 100000 + g = x) (M S E : Int) (he : (E == 0) = true ∨ ((E == 0) = false ∧ (E == 3) = true)) (v1 : half x 10000 < -1000000000)
    (HC : Hid (∀ w, Calls Try.prog 8 #[.int .i64 x, .int .i64 8] w fun e w' => e = .returned (.tuple #[.agg #[.int .i64 M, .int .i64 S], .int .i64 E]) ∧ Below w.heap.size w w')) :
    Calls Try.prog 4 #[.int .i64 n, .int .i64 g] w fun e w' => e = .returned (.bool true) ∧ Below w.heap.size w w' := by
  have d1 : decide (n < -100000000000) = false := decide_eq_false (by omega)
  have d2 : decide (100000000000 < n) = false := decide_eq_false (by omega)
  have d3 : decide (g < 0) = false := decide_eq_false (by omega)
  have d4 : decide (99999 < g) = false := decide_eq_false (by omega)
  have x1 : -20000000000000000 ≤ x := by omega
  have x2 : x ≤ 20000000000000000 := by omega
  have qb := div_abs x 10000 20000000000000000 (by omega) (by omega) x1 x2
  have r1 := Int.emod_nonneg x (b := 10000) (by omega)
  have r2 := Int.emod_lt_of_pos x (b := 10000) (by omega)
  have tb := tdiv_bd x 10000 20000000000000000 (by omega) (by omega) x1 x2
  have ⟨fa, fb⟩ := tmod_facts x 10000 (by omega)
  have t2 := i64_and1 (x / 10000)
  have hq : half x 10000 = if 10000 < 2 * (x % 10000) ∨ (2 * (x % 10000) = 10000 ∧ (x / 10000) % 2 ≠ 0) then x / 10000 + 1 else x / 10000 := rfl
  generalize half x 10000 = q at *
  generalize x / 10000 = q0 at *
  generalize x % 10000 = r at *
  have HQ := hide hq
  clear hq
  by_cases hneg : x.tmod 10000 < 0
  · have ⟨e1, e2⟩ := fa hneg
    have tb2 : -20000000000000000 ≤ x.tmod 10000 := by omega
    clear fa fb
    by_cases c1 : 5000 < r
    · replace HQ := hide ((unhide HQ).trans (if_pos (Or.inl (show 10000 < 2 * r by omega))))
      clear t2
      rcases he with he0 | ⟨he0, he3⟩
      all_goals
        have g1 : q0 + 1 < -1000000000 := by have := unhide HQ; omega
        clear HQ v1
        go_enter Try.func4, Try.ntmps4
        go_wp2_with fail
        refine (unhide HC _).mono ?_
        rintro e w1 ⟨rfl, k1⟩
        have z1 := k1.size
        go_wp2_with fail
        refine (known_any _).mono ?_
        rintro e w2 ⟨rfl, k2⟩
        go_wp2
        go_ret
        exact ⟨rfl, bstep (k1.alloc z1 _) k2⟩
    · by_cases c2 : r = 5000
      · by_cases c3 : q0 % 2 ≠ 0
        · replace HQ := hide ((unhide HQ).trans (if_pos (Or.inr ⟨show 2 * r = 10000 by omega, c3⟩)))
          have t3 : (bits .and .i64 q0 1 == 1) = true := by rw [t2]; simp; omega
          have c4 : (r == 5000) = true := by simp [c2]
          clear t2 c3
          have C2 := hide c2
          clear c2
          rcases he with he0 | ⟨he0, he3⟩
          all_goals
            have g1 : q0 + 1 < -1000000000 := by have := unhide HQ; omega
            clear HQ v1
            go_enter Try.func4, Try.ntmps4
            go_wp2_with fail
            refine (unhide HC _).mono ?_
            rintro e w1 ⟨rfl, k1⟩
            have z1 := k1.size
            go_wp2_with fail
            refine (known_any _).mono ?_
            rintro e w2 ⟨rfl, k2⟩
            go_wp2
            go_ret
            exact ⟨rfl, bstep (k1.alloc z1 _) k2⟩
        · replace HQ := hide ((unhide HQ).trans (if_neg (by omega)))
          have t3 : (bits .and .i64 q0 1 == 1) = false := by rw [t2]; simp; omega
          have c4 : (r == 5000) = true := by simp [c2]
          clear t2 c3
          have C2 := hide c2
          clear c2
          rcases he with he0 | ⟨he0, he3⟩
          all_goals
            have g1 : q0 < -1000000000 := by have := unhide HQ; omega
            clear HQ v1
            go_enter Try.func4, Try.ntmps4
            go_wp2_with fail
            refine (unhide HC _).mono ?_
            rintro e w1 ⟨rfl, k1⟩
            have z1 := k1.size
            go_wp2_with fail
            refine (known_any _).mono ?_
            rintro e w2 ⟨rfl, k2⟩
            go_wp2
            go_ret
            exact ⟨rfl, bstep (k1.alloc z1 _) k2⟩
      · replace HQ := hide ((unhide HQ).trans (if_neg (by omega)))
        have c4 : (r == 5000) = false := by simpa using c2
        clear t2 c2
        rcases he with he0 | ⟨he0, he3⟩
        all_goals
          have g1 : q0 < -1000000000 := by have := unhide HQ; omega
          clear HQ v1
          go_enter Try.func4, Try.ntmps4
          go_wp2_with fail
          refine (unhide HC _).mono ?_
          rintro e w1 ⟨rfl, k1⟩
          have z1 := k1.size
          go_wp2_with fail
          refine (known_any _).mono ?_
          rintro e w2 ⟨rfl, k2⟩
          go_wp2
          go_ret
          exact ⟨rfl, bstep (k1.alloc z1 _) k2⟩
  · have ⟨e1, e2⟩ := fb hneg
    clear fa fb
    rw [e1] at tb
    rw [e2] at hneg
    by_cases c1 : 5000 < r
    · replace HQ := hide ((unhide HQ).trans (if_pos (Or.inl (show 10000 < 2 * r by omega))))
      clear t2
      rcases he with he0 | ⟨he0, he3⟩
      all_goals
        have g1 : q0 + 1 < -1000000000 := by have := unhide HQ; omega
        clear HQ v1
        go_enter Try.func4, Try.ntmps4
        go_wp2_with fail
        refine (unhide HC _).mono ?_
        rintro e w1 ⟨rfl, k1⟩
        have z1 := k1.size
        go_wp2_with fail
        refine (known_any _).mono ?_
        rintro e w2 ⟨rfl, k2⟩
        go_wp2
        go_ret
        exact ⟨rfl, bstep (k1.alloc z1 _) k2⟩
    · by_cases c2 : r = 5000
      · by_cases c3 : q0 % 2 ≠ 0
        · replace HQ := hide ((unhide HQ).trans (if_pos (Or.inr ⟨show 2 * r = 10000 by omega, c3⟩)))
          have t3 : (bits .and .i64 q0 1 == 1) = true := by rw [t2]; simp; omega
          have c4 : (r == 5000) = true := by simp [c2]
          clear t2 c3
          have C2 := hide c2
          clear c2
          rcases he with he0 | ⟨he0, he3⟩
          all_goals
            have g1 : q0 + 1 < -1000000000 := by have := unhide HQ; omega
            clear HQ v1
            go_enter Try.func4, Try.ntmps4
            go_wp2_with fail
            refine (unhide HC _).mono ?_
            rintro e w1 ⟨rfl, k1⟩
            have z1 := k1.size
            go_wp2_with fail
            refine (known_any _).mono ?_
            rintro e w2 ⟨rfl, k2⟩
            go_wp2
            go_ret
            exact ⟨rfl, bstep (k1.alloc z1 _) k2⟩
        · replace HQ := hide ((unhide HQ).trans (if_neg (by omega)))
          have t3 : (bits .and .i64 q0 1 == 1) = false := by rw [t2]; simp; omega
          have c4 : (r == 5000) = true := by simp [c2]
          clear t2 c3
          have C2 := hide c2
          clear c2
          rcases he with he0 | ⟨he0, he3⟩
          all_goals
            have g1 : q0 < -1000000000 := by have := unhide HQ; omega
            clear HQ v1
            go_enter Try.func4, Try.ntmps4
            go_wp2_with fail
            refine (unhide HC _).mono ?_
            rintro e w1 ⟨rfl, k1⟩
            have z1 := k1.size
            go_wp2_with fail
            refine (known_any _).mono ?_
            rintro e w2 ⟨rfl, k2⟩
            go_wp2
            go_ret
            exact ⟨rfl, bstep (k1.alloc z1 _) k2⟩
      · replace HQ := hide ((unhide HQ).trans (if_neg (by omega)))
        have c4 : (r == 5000) = false := by simpa using c2
        clear t2 c2
        rcases he with he0 | ⟨he0, he3⟩
        all_goals
          have g1 : q0 < -1000000000 := by have := unhide HQ; omega
          clear HQ v1
          go_enter Try.func4, Try.ntmps4
          go_wp2_with fail
          refine (unhide HC _).mono ?_
          rintro e w1 ⟨rfl, k1⟩
          have z1 := k1.size
          go_wp2_with fail
          refine (known_any _).mono ?_
          rintro e w2 ⟨rfl, k2⟩
          go_wp2
          go_ret
          exact ⟨rfl, bstep (k1.alloc z1 _) k2⟩


set_option maxHeartbeats 4000000 in
theorem decHalves_hi (n g x : Int) (w : World) (n1 : -100000000000 ≤ n) (n2 : n ≤ 100000000000) (g1 : 0 ≤ g) (g2 : g ≤ 99999) (hx : n * 100000 + g = x) (M S E : Int) (he : (E == 0) = true ∨ ((E == 0) = false ∧ (E == 3) = true)) (v1 : 1000000000 < half x 10000)
    (HC : Hid (∀ w, Calls Try.prog 8 #[.int .i64 x, .int .i64 8] w fun e w' => e = .returned (.tuple #[.agg #[.int .i64 M, .int .i64 S], .int .i64 E]) ∧ Below w.heap.size w w')) :
    Calls Try.prog 4 #[.int .i64 n, .int .i64 g] w fun e w' => e = .returned (.bool true) ∧ Below w.heap.size w w' := by
  have d1 : decide (n < -100000000000) = false := decide_eq_false (by omega)
  have d2 : decide (100000000000 < n) = false := decide_eq_false (by omega)
  have d3 : decide (g < 0) = false := decide_eq_false (by omega)
  have d4 : decide (99999 < g) = false := decide_eq_false (by omega)
  have x1 : -20000000000000000 ≤ x := by omega
  have x2 : x ≤ 20000000000000000 := by omega
  have qb := div_abs x 10000 20000000000000000 (by omega) (by omega) x1 x2
  have r1 := Int.emod_nonneg x (b := 10000) (by omega)
  have r2 := Int.emod_lt_of_pos x (b := 10000) (by omega)
  have tb := tdiv_bd x 10000 20000000000000000 (by omega) (by omega) x1 x2
  have ⟨fa, fb⟩ := tmod_facts x 10000 (by omega)
  have t2 := i64_and1 (x / 10000)
  have hq : half x 10000 = if 10000 < 2 * (x % 10000) ∨ (2 * (x % 10000) = 10000 ∧ (x / 10000) % 2 ≠ 0) then x / 10000 + 1 else x / 10000 := rfl
  generalize half x 10000 = q at *
  generalize x / 10000 = q0 at *
  generalize x % 10000 = r at *
  have HQ := hide hq
  clear hq
  by_cases hneg : x.tmod 10000 < 0
  · have ⟨e1, e2⟩ := fa hneg
    have tb2 : -20000000000000000 ≤ x.tmod 10000 := by omega
    clear fa fb
    by_cases c1 : 5000 < r
    · replace HQ := hide ((unhide HQ).trans (if_pos (Or.inl (show 10000 < 2 * r by omega))))
      clear t2
      rcases he with he0 | ⟨he0, he3⟩
      all_goals
        have g1 : 1000000000 < q0 + 1 := by have := unhide HQ; omega
        clear HQ v1
        go_enter Try.func4, Try.ntmps4
        go_wp2_with fail
        refine (unhide HC _).mono ?_
        rintro e w1 ⟨rfl, k1⟩
        have z1 := k1.size
        go_wp2_with fail
        refine (known_any _).mono ?_
        rintro e w2 ⟨rfl, k2⟩
        go_wp2
        go_ret
        exact ⟨rfl, bstep (k1.alloc z1 _) k2⟩
    · by_cases c2 : r = 5000
      · by_cases c3 : q0 % 2 ≠ 0
        · replace HQ := hide ((unhide HQ).trans (if_pos (Or.inr ⟨show 2 * r = 10000 by omega, c3⟩)))
          have t3 : (bits .and .i64 q0 1 == 1) = true := by rw [t2]; simp; omega
          have c4 : (r == 5000) = true := by simp [c2]
          clear t2 c3
          have C2 := hide c2
          clear c2
          rcases he with he0 | ⟨he0, he3⟩
          all_goals
            have g1 : 1000000000 < q0 + 1 := by have := unhide HQ; omega
            clear HQ v1
            go_enter Try.func4, Try.ntmps4
            go_wp2_with fail
            refine (unhide HC _).mono ?_
            rintro e w1 ⟨rfl, k1⟩
            have z1 := k1.size
            go_wp2_with fail
            refine (known_any _).mono ?_
            rintro e w2 ⟨rfl, k2⟩
            go_wp2
            go_ret
            exact ⟨rfl, bstep (k1.alloc z1 _) k2⟩
        · replace HQ := hide ((unhide HQ).trans (if_neg (by omega)))
          have t3 : (bits .and .i64 q0 1 == 1) = false := by rw [t2]; simp; omega
          have c4 : (r == 5000) = true := by simp [c2]
          clear t2 c3
          have C2 := hide c2
          clear c2
          rcases he with he0 | ⟨he0, he3⟩
          all_goals
            have g1 : 1000000000 < q0 := by have := unhide HQ; omega
            clear HQ v1
            go_enter Try.func4, Try.ntmps4
            go_wp2_with fail
            refine (unhide HC _).mono ?_
            rintro e w1 ⟨rfl, k1⟩
            have z1 := k1.size
            go_wp2_with fail
            refine (known_any _).mono ?_
            rintro e w2 ⟨rfl, k2⟩
            go_wp2
            go_ret
            exact ⟨rfl, bstep (k1.alloc z1 _) k2⟩
      · replace HQ := hide ((unhide HQ).trans (if_neg (by omega)))
        have c4 : (r == 5000) = false := by simpa using c2
        clear t2 c2
        rcases he with he0 | ⟨he0, he3⟩
        all_goals
          have g1 : 1000000000 < q0 := by have := unhide HQ; omega
          clear HQ v1
          go_enter Try.func4, Try.ntmps4
          go_wp2_with fail
          refine (unhide HC _).mono ?_
          rintro e w1 ⟨rfl, k1⟩
          have z1 := k1.size
          go_wp2_with fail
          refine (known_any _).mono ?_
          rintro e w2 ⟨rfl, k2⟩
          go_wp2
          go_ret
          exact ⟨rfl, bstep (k1.alloc z1 _) k2⟩
  · have ⟨e1, e2⟩ := fb hneg
    clear fa fb
    rw [e1] at tb
    rw [e2] at hneg
    by_cases c1 : 5000 < r
    · replace HQ := hide ((unhide HQ).trans (if_pos (Or.inl (show 10000 < 2 * r by omega))))
      clear t2
      rcases he with he0 | ⟨he0, he3⟩
      all_goals
        have g1 : 1000000000 < q0 + 1 := by have := unhide HQ; omega
        clear HQ v1
        go_enter Try.func4, Try.ntmps4
        go_wp2_with fail
        refine (unhide HC _).mono ?_
        rintro e w1 ⟨rfl, k1⟩
        have z1 := k1.size
        go_wp2_with fail
        refine (known_any _).mono ?_
        rintro e w2 ⟨rfl, k2⟩
        go_wp2
        go_ret
        exact ⟨rfl, bstep (k1.alloc z1 _) k2⟩
    · by_cases c2 : r = 5000
      · by_cases c3 : q0 % 2 ≠ 0
        · replace HQ := hide ((unhide HQ).trans (if_pos (Or.inr ⟨show 2 * r = 10000 by omega, c3⟩)))
          have t3 : (bits .and .i64 q0 1 == 1) = true := by rw [t2]; simp; omega
          have c4 : (r == 5000) = true := by simp [c2]
          clear t2 c3
          have C2 := hide c2
          clear c2
          rcases he with he0 | ⟨he0, he3⟩
          all_goals
            have g1 : 1000000000 < q0 + 1 := by have := unhide HQ; omega
            clear HQ v1
            go_enter Try.func4, Try.ntmps4
            go_wp2_with fail
            refine (unhide HC _).mono ?_
            rintro e w1 ⟨rfl, k1⟩
            have z1 := k1.size
            go_wp2_with fail
            refine (known_any _).mono ?_
            rintro e w2 ⟨rfl, k2⟩
            go_wp2
            go_ret
            exact ⟨rfl, bstep (k1.alloc z1 _) k2⟩
        · replace HQ := hide ((unhide HQ).trans (if_neg (by omega)))
          have t3 : (bits .and .i64 q0 1 == 1) = false := by rw [t2]; simp; omega
          have c4 : (r == 5000) = true := by simp [c2]
          clear t2 c3
          have C2 := hide c2
          clear c2
          rcases he with he0 | ⟨he0, he3⟩
          all_goals
            have g1 : 1000000000 < q0 := by have := unhide HQ; omega
            clear HQ v1
            go_enter Try.func4, Try.ntmps4
            go_wp2_with fail
            refine (unhide HC _).mono ?_
            rintro e w1 ⟨rfl, k1⟩
            have z1 := k1.size
            go_wp2_with fail
            refine (known_any _).mono ?_
            rintro e w2 ⟨rfl, k2⟩
            go_wp2
            go_ret
            exact ⟨rfl, bstep (k1.alloc z1 _) k2⟩
      · replace HQ := hide ((unhide HQ).trans (if_neg (by omega)))
        have c4 : (r == 5000) = false := by simpa using c2
        clear t2 c2
        rcases he with he0 | ⟨he0, he3⟩
        all_goals
          have g1 : 1000000000 < q0 := by have := unhide HQ; omega
          clear HQ v1
          go_enter Try.func4, Try.ntmps4
          go_wp2_with fail
          refine (unhide HC _).mono ?_
          rintro e w1 ⟨rfl, k1⟩
          have z1 := k1.size
          go_wp2_with fail
          refine (known_any _).mono ?_
          rintro e w2 ⟨rfl, k2⟩
          go_wp2
          go_ret
          exact ⟨rfl, bstep (k1.alloc z1 _) k2⟩


theorem decHalves_walk (n g : Int) (_ : (Lit.int .i64 n).wf = true) (_ : (Lit.int .i64 g).wf = true) (w : World) :
    Calls Try.prog 4 #[.int .i64 n, .int .i64 g] w fun e w' => e = .returned (.bool true) ∧ Below w.heap.size w w' := by
  by_cases h : n < -100000000000 ∨ 100000000000 < n ∨ g < 0 ∨ 99999 < g
  · exact decHalves_out n g w h
  · have ha : argB (n * 100000 + g) 8 = false := by unfold argB; simp only [decide_eq_false_iff_not]; omega
    have hc : ∀ w, Calls Try.prog 8 #[.int .i64 (n * 100000 + g), .int .i64 8] w fun e w' => e = .returned (.tuple #[.agg #[.int .i64 (fitM (n * 100000 + g) 8), .int .i64 (fitS (n * 100000 + g) 8)], .int .i64 (fitE (n * 100000 + g) 8)]) ∧ Below w.heap.size w w' := fit_any _ _
    by_cases hk : okM (half (n * 100000 + g) 10000) = true
    · have hf := fit_top _ 8 ha (by omega) hk
      have hb := (okM_iff _).1 hk
      have ht := trim_is 4 _ hk
      have hm := (okM_iff _).1 ht.1
      refine decHalves_held n g _ w (by omega) (by omega) (by omega) (by omega) rfl _ _ ht.2.1 hm.1 hm.2 (trim_up 4 _) hb.1 hb.2 ?_
      intro w
      have := hc w
      rw [hf.1, hf.2.1, hf.2.2] at this
      exact this
    · have he : (fitE (n * 100000 + g) 8 == 0) = true ∨ ((fitE (n * 100000 + g) 8 == 0) = false ∧ (fitE (n * 100000 + g) 8 == 3) = true) := by
        rcases fitE_in _ 8 ha with e | e
        · rw [e]; exact Or.inl rfl
        · rw [e]; exact Or.inr ⟨rfl, rfl⟩
      rw [okM_iff] at hk
      by_cases hl : half (n * 100000 + g) 10000 < -1000000000
      · exact decHalves_lo n g _ w (by omega) (by omega) (by omega) (by omega) rfl _ _ _ he hl hc
      · exact decHalves_hi n g _ w (by omega) (by omega) (by omega) (by omega) rfl _ _ _ he (by omega) hc

end Go.Proofs.Ytcadiljnkpnodab

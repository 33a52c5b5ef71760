/- The walk of DecDivides: it returns true. -/
import Derived.Test.YtcadiljnkpnodabKnown
import Derived.Test.YtcadiljnkpnodabMath4
namespace Go.Proofs.Ytcadiljnkpnodab
open Go.RowKit

theorem half_abs (n d B : Int) (hd : 1 ≤ d) (h0 : 0 ≤ B) (h1 : -B ≤ n) (h2 : n ≤ B) : -B ≤ half n d ∧ half n d ≤ B := by
  have hn := half_near n d hd
  rw [Int.mul_sub] at hn
  constructor
  · refine Int.not_lt.1 fun h => ?_
    have := Int.mul_le_mul_of_nonneg_right (show half n d ≤ -B - 1 by omega) (show 0 ≤ d by omega)
    rw [Int.sub_mul, Int.neg_mul] at this
    have := Int.mul_le_mul_of_nonneg_left hd h0
    omega
  · refine Int.not_lt.1 fun h => ?_
    have := Int.mul_le_mul_of_nonneg_right (show B + 1 ≤ half n d by omega) (show 0 ≤ d by omega)
    rw [Int.add_mul] at this
    have := Int.mul_le_mul_of_nonneg_left hd h0
    omega

theorem divH (a b : Int) (a1 : -100000 ≤ a) (a2 : a ≤ 100000) (b1 : 1 ≤ b) (b2 : b ≤ 10000) : ∃ (h M : Int) (S : Nat),
    (∀ w, Calls Try.prog 6 #[.agg #[.int .i64 a, .int .i64 0], .agg #[.int .i64 b, .int .i64 0]] w fun e w' => e = .returned (.tuple #[.agg #[.int .i64 M, .int .i64 S], .int .i64 0]) ∧ Below w.heap.size w w') ∧
    S ≤ 4 ∧ -1000000000 ≤ M ∧ M ≤ 1000000000 ∧ M * p10 (4 - S) = h ∧ 2 * (a * 10000 - h * b) ≤ b ∧ -b ≤ 2 * (a * 10000 - h * b) ∧ -10000000000000 ≤ h * b ∧ h * b ≤ 10000000000000 := by
  have hd : divQ a 0 b 0 = half (a * 10000) b := by
    unfold divQ
    rw [if_neg (by omega)]; rfl
  have hb := half_abs (a * 10000) b 1000000000 b1 (by omega) (by omega) (by omega)
  have hn := half_near (a * 10000) b b1
  have hk : okM (half (half (a * 10000) b) (p10 ((4 : Int).toNat - 4))) = true := by
    rw [show p10 ((4 : Int).toNat - 4) = 1 from rfl, half_one, okM_iff]; exact hb
  have ha : argB (half (a * 10000) b) 4 = false := by unfold argB; simp only [decide_eq_false_iff_not]; omega
  have hf := fit_top _ 4 ha (by omega) hk
  rw [show p10 ((4 : Int).toNat - 4) = 1 from rfl, half_one] at hf hk
  have ht := trim_is 4 _ hk
  have hm := (okM_iff _).1 ht.1
  have hmb := mul_bd (half (a * 10000) b) b 1000000000 10000 hb.1 hb.2 (by omega) b2 (by omega)
  refine ⟨half (a * 10000) b, _, _, fun w => ?_, ht.2.1, hm.1, hm.2, trim_up 4 _, hn.1, hn.2, by omega, by omega⟩
  have h := div_any a 0 b 0 w (isB0 a (by omega) (by omega)) (isB0 b (by omega) (by omega)) (by omega)
  rw [hd, hf.1, hf.2.1, hf.2.2] at h
  exact h

set_option maxHeartbeats 800000 in
theorem decDivides_out (a b : Int) (w : World) (h : a < -100000 ∨ 100000 < a ∨ b < 1 ∨ 10000 < b) :
    Calls Try.prog 3 #[.int .i64 a, .int .i64 b] w fun e w' => e = .returned (.bool true) ∧ Below w.heap.size w w' := by
  by_cases c1 : a < -100000
  · clear h
    go_enter Try.func3, Try.ntmps3
    go_wp2
    go_ret
    exact ⟨rfl, Below.refl _ _⟩
  · by_cases c2 : 100000 < a
    · clear h
      go_enter Try.func3, Try.ntmps3
      go_wp2
      go_ret
      exact ⟨rfl, Below.refl _ _⟩
    · by_cases c3 : b < 1
      · clear h
        go_enter Try.func3, Try.ntmps3
        go_wp2
        go_ret
        exact ⟨rfl, Below.refl _ _⟩
      · have c4 : 10000 < b := by omega
        clear h
        go_enter Try.func3, Try.ntmps3
        go_wp2
        go_ret
        exact ⟨rfl, Below.refl _ _⟩

set_option maxHeartbeats 1000000 in
theorem decDivides_in (a b : Int) (w : World) (a1 : -100000 ≤ a) (a2 : a ≤ 100000) (b1 : 1 ≤ b) (b2 : b ≤ 10000) :
    Calls Try.prog 3 #[.int .i64 a, .int .i64 b] w fun e w' => e = .returned (.bool true) ∧ Below w.heap.size w w' := by
  obtain ⟨h, M, S, hC, s1, m1, m2, hup, n1, n2, p1, p2⟩ := divH a b a1 a2 b1 b2
  have HC := hide hC
  have HUP := hide hup
  clear hC hup
  have d1 : decide (a < -100000) = false := decide_eq_false (by omega)
  have d2 : decide (100000 < a) = false := decide_eq_false (by omega)
  have d3 : decide (b < 1) = false := decide_eq_false (by omega)
  have d4 : decide (10000 < b) = false := decide_eq_false (by omega)
  go_enter Try.func3, Try.ntmps3
  go_wp2_with fail
  refine (unhide HC _).mono ?_
  rintro e w1 ⟨rfl, k1⟩
  have z1 := k1.size
  go_wp2_with fail
  go_loop [7, 8] (fun m i => ∃ j : Nat, S ≤ j ∧ j ≤ 4 ∧ m = .int .i64 (M * p10 (j - S)) ∧ i = .int .i64 j) (fun _ i => 4 - (intOf i).toNat)
  case atStart => exact ⟨S, Nat.le_refl _, s1, by rw [Nat.sub_self]; show _ = Value.int .i64 (M * 1); rw [Int.mul_one], rfl⟩
  case round =>
    obtain ⟨j, j1, j2, rfl, rfl⟩ := hrel
    by_cases hlt : j < 4
    · have pb := p10_pos (j - S)
      have pb2 := p10_bd (n := j - S) (by omega)
      have mb := mul_bd M (p10 (j - S)) 1000000000 100000000 m1 m2 (by omega) pb2 (by omega)
      have HS := hide (show M * p10 (j - S) * 10 = M * p10 (j + 1 - S) by rw [show j + 1 - S = (j - S) + 1 by omega, p10_succ, Int.mul_assoc])
      go_wp2
      go_round
      case rel => exact ⟨j + 1, by omega, by omega, by rw [unhide HS], by go_num⟩
      case measure => simp [intOf]; omega
    · have e : j = 4 := by omega
      subst e
      rw [unhide HUP]
      clear HUP
      go_wp2_with fail
      refine (known_any _).mono ?_
      rintro e w2 ⟨rfl, k2⟩
      go_wp2
      go_ret
      exact ⟨rfl, bstep (k1.alloc z1 _) k2⟩

theorem decDivides_walk (a b : Int) (_ : (Lit.int .i64 a).wf = true) (_ : (Lit.int .i64 b).wf = true) (w : World) :
    Calls Try.prog 3 #[.int .i64 a, .int .i64 b] w fun e w' => e = .returned (.bool true) ∧ Below w.heap.size w w' := by
  by_cases h : a < -100000 ∨ 100000 < a ∨ b < 1 ∨ 10000 < b
  · exact decDivides_out a b w h
  · exact decDivides_in a b w (by omega) (by omega) (by omega) (by omega)

end Go.Proofs.Ytcadiljnkpnodab

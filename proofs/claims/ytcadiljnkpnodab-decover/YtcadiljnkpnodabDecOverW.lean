/- The walk of DecOver: it returns true. -/
import Derived.Test.YtcadiljnkpnodabKnown
import Derived.Test.YtcadiljnkpnodabMul
import Derived.Test.YtcadiljnkpnodabMath4
namespace Go.Proofs.Ytcadiljnkpnodab
open Go.RowKit

theorem over_fits (k s : Int) (k1 : 0 ≤ k) (k2 : k ≤ 1000) (s1 : 0 ≤ s) (s2 : s ≤ 8) :
    (∀ w, Calls Try.prog 8 #[.int .i64 (1000000000 * p10 s.toNat), .int .i64 s] w fun e w' => e = .returned (.tuple #[.agg #[.int .i64 1000000000, .int .i64 0], .int .i64 0]) ∧ Below w.heap.size w w') ∧
    (∀ w, Calls Try.prog 8 #[.int .i64 ((1000000001 + k) * p10 s.toNat), .int .i64 s] w fun e w' => e = .returned (.tuple #[.agg #[.int .i64 0, .int .i64 0], .int .i64 3]) ∧ Below w.heap.size w w') ∧
    (∀ w, Calls Try.prog 8 #[.int .i64 (-1000000000 * p10 s.toNat), .int .i64 s] w fun e w' => e = .returned (.tuple #[.agg #[.int .i64 (-1000000000), .int .i64 0], .int .i64 0]) ∧ Below w.heap.size w w') ∧
    (∀ w, Calls Try.prog 9 #[.agg #[.int .i64 1000000000, .int .i64 0], .agg #[.int .i64 (2 + k), .int .i64 0]] w fun e w' => e = .returned (.tuple #[.agg #[.int .i64 0, .int .i64 0], .int .i64 3]) ∧ Below w.heap.size w w') := by
  have p1 := p10_pos s.toNat
  have p2 := p10_bd (n := s.toNat) (by omega)
  refine ⟨fun w => ?_, fun w => ?_, fun w => ?_, fun w => ?_⟩
  · have h := fit_any (1000000000 * p10 s.toNat) s w
    have f := fit_whole 1000000000 s (big_not _ (by omega)) (by omega) (by omega) s1 s2
    rw [f.1, f.2.1, f.2.2] at h
    exact h
  · have h := fit_any ((1000000001 + k) * p10 s.toNat) s w
    have m := mul_bd (1000000001 + k) (p10 s.toNat) 1000002000 100000000 (by omega) (by omega) (by omega) p2 (by omega)
    have f := fit_whole (1000000001 + k) s (big_not _ (by omega)) (by omega) (by omega) s1 s2
    have no : ¬ okM (1000000001 + k) = true := by rw [okM_iff]; omega
    rw [if_neg no, if_neg no] at f
    rw [f.1, f.2.1, f.2.2] at h
    exact h
  · have h := fit_any (-1000000000 * p10 s.toNat) s w
    have f := fit_whole (-1000000000) s (big_not _ (by omega)) (by omega) (by omega) s1 s2
    rw [f.1, f.2.1, f.2.2] at h
    exact h
  · have h := mul_any 1000000000 0 (2 + k) 0 w (by decide) (isB0 _ (by omega) (by omega))
    have f := fit_whole (1000000000 * (2 + k)) 0 (big_not _ (by omega)) (by rw [show p10 (0 : Int).toNat = 1 from rfl]; omega) (by rw [show p10 (0 : Int).toNat = 1 from rfl]; omega) (by omega) (by omega)
    have no : ¬ okM (1000000000 * (2 + k)) = true := by rw [okM_iff]; omega
    rw [if_neg no, if_neg no, show p10 (0 : Int).toNat = 1 from rfl, Int.mul_one] at f
    rw [show (0 : Int) + 0 = 0 from rfl, f.1, f.2.1, f.2.2] at h
    exact h

set_option maxHeartbeats 800000 in
theorem decOver_out (k s : Int) (w : World) (h : k < 0 ∨ 1000 < k ∨ s < 0 ∨ 8 < s) :
    Calls Try.prog 5 #[.int .i64 k, .int .i64 s] w fun e w' => e = .returned (.bool true) ∧ Below w.heap.size w w' := by
  by_cases c1 : k < 0
  · clear h
    go_enter Try.func5, Try.ntmps5
    go_wp2
    go_ret
    exact ⟨rfl, Below.refl _ _⟩
  · by_cases c2 : 1000 < k
    · clear h
      go_enter Try.func5, Try.ntmps5
      go_wp2
      go_ret
      exact ⟨rfl, Below.refl _ _⟩
    · by_cases c3 : s < 0
      · clear h
        go_enter Try.func5, Try.ntmps5
        go_wp2
        go_ret
        exact ⟨rfl, Below.refl _ _⟩
      · have c4 : 8 < s := by omega
        clear h
        go_enter Try.func5, Try.ntmps5
        go_wp2
        go_ret
        exact ⟨rfl, Below.refl _ _⟩

set_option maxHeartbeats 1000000 in
theorem decOver_in (k s : Int) (w : World) (k1 : 0 ≤ k) (k2 : k ≤ 1000) (s1 : 0 ≤ s) (s2 : s ≤ 8) :
    Calls Try.prog 5 #[.int .i64 k, .int .i64 s] w fun e w' => e = .returned (.bool true) ∧ Below w.heap.size w w' := by
  obtain ⟨q1, q2, q3, q4⟩ := over_fits k s k1 k2 s1 s2
  have p1 := p10_pos s.toNat
  have p2 := p10_bd (n := s.toNat) (by omega)
  have m := mul_bd (1000000001 + k) (p10 s.toNat) 1000002000 100000000 (by omega) (by omega) (by omega) p2 (by omega)
  obtain ⟨n, rfl⟩ := Int.eq_ofNat_of_zero_le s1
  rw [Int.toNat_natCast] at *
  have Q1 := hide q1; have Q2 := hide q2; have Q3 := hide q3; have Q4 := hide q4
  clear q1 q2 q3 q4
  have d1 : decide (k < 0) = false := decide_eq_false (by omega)
  have d2 : decide (1000 < k) = false := decide_eq_false (by omega)
  have d3 : decide ((n : Int) < 0) = false := decide_eq_false (by omega)
  have d4 : decide (8 < (n : Int)) = false := decide_eq_false (by omega)
  go_enter Try.func5, Try.ntmps5
  go_wp2_with fail
  go_loop [5, 6] (fun p i => ∃ j : Nat, j ≤ n ∧ i = .int .i64 j ∧ p = .int .i64 (p10 j)) (fun _ i => n - (intOf i).toNat)
  case atStart => exact ⟨0, Nat.zero_le _, rfl, rfl⟩
  case round =>
    obtain ⟨j, hj, rfl, rfl⟩ := hrel
    have b1 := p10_pos j
    have b2 := p10_bd (n := j) (by omega)
    by_cases hlt : j < n
    · go_wp2
      go_round
      case rel => exact ⟨j + 1, by omega, by go_num, by rw [p10_succ]⟩
      case measure => simp [intOf]; omega
    · have e : j = n := by omega
      subst e
      go_wp2_with fail
      refine (unhide Q1 _).mono ?_
      rintro e w1 ⟨rfl, h1⟩
      have z1 := h1.size
      go_wp2_with fail
      refine (unhide Q2 _).mono ?_
      rintro e w2 ⟨rfl, h2⟩
      have g2 := bstep (h1.alloc z1 _) h2
      obtain ⟨c2, f2⟩ := bcell h2
      have z2 : w1.heap.size < w2.heap.size := by have := h2.size; simp at this; omega
      have y2 := g2.size
      go_wp2_with fail
      refine (unhide Q3 _).mono ?_
      rintro e w3 ⟨rfl, h3⟩
      have g3 := bstep (g2.alloc y2 _) h3
      obtain ⟨c3, f3⟩ := bcell h3
      have z3 : w2.heap.size < w3.heap.size := by have := h3.size; simp at this; omega
      have z3b : w1.heap.size < w3.heap.size := by omega
      have y3 := g3.size
      go_wp2_with fail
      refine (unhide Q4 _).mono ?_
      rintro e w4 ⟨rfl, h4⟩
      have g4 := bstep (g3.alloc y3 _) h4
      obtain ⟨c4, f4⟩ := bcell h4
      have z4 : w3.heap.size < w4.heap.size := by have := h4.size; simp at this; omega
      have z4b : w1.heap.size < w4.heap.size := by omega
      have z4c : w2.heap.size < w4.heap.size := by omega
      have y4 := g4.size
      go_wp2_with fail
      refine (known_any _).mono ?_
      rintro e w5 ⟨rfl, h5⟩
      go_wp2
      go_ret
      exact ⟨rfl, bstep (g4.alloc y4 _) h5⟩

theorem decOver_walk (k s : Int) (_ : (Lit.int .i64 k).wf = true) (_ : (Lit.int .i64 s).wf = true) (w : World) :
    Calls Try.prog 5 #[.int .i64 k, .int .i64 s] w fun e w' => e = .returned (.bool true) ∧ Below w.heap.size w w' := by
  by_cases h : k < 0 ∨ 1000 < k ∨ s < 0 ∨ 8 < s
  · exact decOver_out k s w h
  · exact decOver_in k s w (by omega) (by omega) (by omega) (by omega)

end Go.Proofs.Ytcadiljnkpnodab

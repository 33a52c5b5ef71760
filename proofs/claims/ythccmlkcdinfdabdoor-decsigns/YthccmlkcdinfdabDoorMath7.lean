/- More of the plain reckoning: a decimal between its floor and its ceiling. -/
import Derived.Test.YthccmlkcdinfdabDoorMath6
namespace Go.Proofs.YthccmlkcdinfdabDoor

theorem up_whole (F s : Int) (h1 : 0 ≤ s) : upM F 0 (max 0 s) = F * p10 s.toNat := by
  unfold upM
  rw [show (max 0 s - 0).toNat = s.toNat by omega]

theorem up_self (m s : Int) (h1 : 0 ≤ s) : upM m s (max 0 s) = m := by
  unfold upM
  rw [show (max 0 s - s).toNat = 0 by omega]
  show m * 1 = m
  omega

theorem fl_facts (m s : Int) (h : isB m s = true) :
    decide (cmpI (upM (m / p10 s.toNat) 0 (max 0 s)) (upM m s (max 0 s)) ≤ 0) = true ∧ decide (0 ≤ cmpI (upM (-(-m / p10 s.toNat)) 0 (max 0 s)) (upM m s (max 0 s))) = true ∧
    isB (m / p10 s.toNat) 0 = true ∧ isB (-(-m / p10 s.toNat)) 0 = true ∧ (s = 0 → m / p10 s.toNat = m ∧ -(-m / p10 s.toNat) = m) ∧ (s ≠ 0 → -(-m / p10 s.toNat) = m / p10 s.toNat + 1) := by
  have ⟨m1, m2, s1, s2⟩ := isB_bd h
  rw [up_whole _ s s1, up_whole _ s s1, up_self m s s1]
  have p := p10_pos s.toNat
  have a1 := div_abs m (p10 s.toNat) 1000000000 p (by omega) (by omega) (by omega)
  have a2 := div_abs (-m) (p10 s.toNat) 1000000000 p (by omega) (by omega) (by omega)
  have e1 := Int.mul_ediv_add_emod m (p10 s.toNat)
  have e2 := Int.mul_ediv_add_emod (-m) (p10 s.toNat)
  have r1 := Int.emod_nonneg m (b := p10 s.toNat) (by omega)
  have r2 := Int.emod_nonneg (-m) (b := p10 s.toNat) (by omega)
  have r3 := Int.emod_lt_of_pos m (b := p10 s.toNat) (by omega)
  have r4 := Int.emod_lt_of_pos (-m) (b := p10 s.toNat) (by omega)
  rw [Int.mul_comm] at e1 e2
  refine ⟨?_, ?_, isB0 _ (by omega) (by omega), isB0 _ (by omega) (by omega), ?_, ?_⟩
  · refine decide_eq_true ?_
    unfold cmpI
    split
    · omega
    · rw [if_neg (by omega)]; omega
  · refine decide_eq_true ?_
    unfold cmpI
    rw [Int.neg_mul, if_neg (by omega)]
    split <;> omega
  · intro hs
    subst hs
    rw [show p10 (0 : Int).toNat = 1 from rfl] at *
    omega
  · intro hs
    have ht := isB_ten h hs
    have hne : m % p10 s.toNat ≠ 0 := by
      intro h0
      rw [show s.toNat = (s.toNat - 1) + 1 by omega, p10_succ] at e1 h0
      rw [h0, ← Int.mul_assoc] at e1
      omega
    generalize p10 s.toNat = q at *
    generalize hx : m / q = x at *
    generalize hy : -m / q = y at *
    generalize m % q = u at *
    generalize -m % q = v at *
    have h1 : (x + y) * q = -(u + v) := by rw [Int.add_mul]; omega
    have h2 : x + y = -1 := by
      by_cases c1 : x + y ≤ -2
      · have := Int.mul_le_mul_of_nonneg_right c1 (show 0 ≤ q by omega); omega
      · by_cases c2 : 0 ≤ x + y
        · have := Int.mul_nonneg c2 (show 0 ≤ q by omega); omega
        · omega
    omega

end Go.Proofs.YthccmlkcdinfdabDoor

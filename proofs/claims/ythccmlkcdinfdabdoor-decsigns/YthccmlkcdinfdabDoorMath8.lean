/- More of the plain reckoning: the negative of a number is fitted and divided as the negative. -/
import Derived.Test.YthccmlkcdinfdabDoorMath7
namespace Go.Proofs.YthccmlkcdinfdabDoor

theorem half_neg (n d : Int) (hd : 1 ≤ d) : half (-n) d = -half n d := by
  have e1 := Int.mul_ediv_add_emod n d
  have e2 := Int.mul_ediv_add_emod (-n) d
  have r1 := Int.emod_nonneg n (b := d) (by omega)
  have r2 := Int.emod_nonneg (-n) (b := d) (by omega)
  have r3 := Int.emod_lt_of_pos n (b := d) (by omega)
  have r4 := Int.emod_lt_of_pos (-n) (b := d) (by omega)
  rw [Int.mul_comm] at e1 e2
  unfold half
  generalize n / d = x at *
  generalize -n / d = y at *
  generalize n % d = u at *
  generalize -n % d = v at *
  have h1 : (x + y) * d = -(u + v) := by rw [Int.add_mul]; omega
  have h2 : (x + y = 0 ∧ u = 0 ∧ v = 0) ∨ (x + y = -1 ∧ u + v = d) := by
    by_cases c1 : x + y ≤ -2
    · have := Int.mul_le_mul_of_nonneg_right c1 (show 0 ≤ d by omega); omega
    · by_cases c2 : 0 ≤ x + y
      · have := Int.mul_nonneg c2 (show 0 ≤ d by omega)
        have h0 : u = 0 ∧ v = 0 := by omega
        have hz : (x + y) * d = 0 := by omega
        rcases Int.mul_eq_zero.1 hz with h | h
        · exact Or.inl ⟨h, h0.1, h0.2⟩
        · omega
      · have h3 : x + y = -1 := by omega
        rw [h3] at h1
        exact Or.inr ⟨h3, by omega⟩
  rcases h2 with ⟨a, b, c⟩ | ⟨a, b⟩
  · subst b c
    rw [if_neg (by omega), if_neg (by omega)]; omega
  · by_cases c1 : d < 2 * u
    · rw [if_pos (Or.inl c1), if_neg (by omega)]; omega
    · by_cases c2 : 2 * u = d
      · by_cases c3 : x % 2 = 0
        · rw [if_pos (show d < 2 * v ∨ (2 * v = d ∧ y % 2 ≠ 0) by omega), if_neg (show ¬ (d < 2 * u ∨ (2 * u = d ∧ x % 2 ≠ 0)) by omega)]; omega
        · rw [if_neg (show ¬ (d < 2 * v ∨ (2 * v = d ∧ y % 2 ≠ 0)) by omega), if_pos (show d < 2 * u ∨ (2 * u = d ∧ x % 2 ≠ 0) by omega)]; omega
      · rw [if_pos (show d < 2 * v ∨ (2 * v = d ∧ y % 2 ≠ 0) by omega), if_neg (show ¬ (d < 2 * u ∨ (2 * u = d ∧ x % 2 ≠ 0)) by omega)]; omega

theorem trim_neg (t : Nat) : ∀ m : Int, trimM (-m) t = -trimM m t ∧ trimS (-m) t = trimS m t := by
  induction t with
  | zero => intro m; exact ⟨rfl, rfl⟩
  | succ t ih =>
    intro m
    unfold trimM trimS
    by_cases h : m % 10 = 0
    · rw [if_pos h, if_pos h, if_pos (by omega), if_pos (by omega), show -m / 10 = -(m / 10) by omega]
      exact ih _
    · rw [if_neg h, if_neg h, if_neg (by omega), if_neg (by omega)]
      exact ⟨rfl, rfl⟩

theorem okM_neg (m : Int) : okM (-m) = okM m := by
  unfold okM
  rw [decide_eq_decide]
  omega

theorem fit_neg (x s : Int) : fitM (-x) s = -fitM x s ∧ fitS (-x) s = fitS x s ∧ fitE (-x) s = fitE x s := by
  have ha : argB (-x) s = argB x s := by unfold argB; rw [decide_eq_decide]; omega
  have ht : ∀ t, fitTM (-x) s.toNat t = -fitTM x s.toNat t ∧ fitTS (-x) s.toNat t = fitTS x s.toNat t ∧ fitTE (-x) s.toNat t = fitTE x s.toNat t := by
    intro t
    induction t with
    | zero => exact ⟨rfl, rfl, rfl⟩
    | succ t ih =>
      unfold fitTM fitTS fitTE
      rw [half_neg _ _ (p10_pos _), okM_neg]
      split
      · have := trim_neg t (half x (p10 (s.toNat - t)))
        exact ⟨this.1, this.2, rfl⟩
      · exact ih
  unfold fitM fitS fitE
  rw [ha]
  split
  · exact ⟨rfl, rfl, rfl⟩
  · have := ht (min s.toNat 4 + 1)
    exact ⟨this.1, by rw [this.2.1], this.2.2⟩

theorem isB_neg (m s : Int) : isB (-m) s = isB m s := by
  unfold isB
  rw [okM_neg, show decide (-m % 10 ≠ 0) = decide (m % 10 ≠ 0) by rw [decide_eq_decide]; omega]

theorem divQ_neg (m s n t : Int) (hn : n ≠ 0) : divQ (-m) s n t = -divQ m s n t := by
  unfold divQ
  by_cases h : n < 0
  · rw [if_pos h, if_pos h, Int.neg_mul, half_neg _ _ (by omega)]
  · rw [if_neg h, if_neg h, Int.neg_mul, half_neg _ _ (by omega)]

end Go.Proofs.YthccmlkcdinfdabDoor

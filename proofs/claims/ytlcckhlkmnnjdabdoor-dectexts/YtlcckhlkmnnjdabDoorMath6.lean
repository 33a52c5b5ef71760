/- More of the plain reckoning: signs are kept; one value has one decimal. -/
import Derived.Test.YtlcckhlkmnnjdabDoorMath5
namespace Go.Proofs.YtlcckhlkmnnjdabDoor

theorem half_sign (n d : Int) (hd : 1 ≤ d) : (0 ≤ n → 0 ≤ half n d) ∧ (n ≤ 0 → half n d ≤ 0) := by
  have hb := half_bd n d
  constructor
  · intro h
    have := Int.ediv_nonneg h (show 0 ≤ d by omega)
    omega
  · intro h
    have h1 := Int.emod_nonneg n (b := d) (by omega)
    have h2 := Int.emod_lt_of_pos n (b := d) (by omega)
    have h3 := Int.mul_ediv_add_emod n d
    by_cases h0 : n / d ≤ -1
    · omega
    · have hq : n / d = 0 := by
        have : n / d ≤ 0 := by
          refine Int.not_lt.1 fun hp => ?_
          have := Int.mul_le_mul_of_nonneg_left (show 1 ≤ n / d by omega) (show 0 ≤ d by omega)
          omega
        omega
      rw [hq, Int.mul_zero] at h3
      have : half n d = 0 := by unfold half; rw [hq, if_neg (by omega)]
      omega

theorem trim_sign (t : Nat) : ∀ m : Int, (0 ≤ m → 0 ≤ trimM m t) ∧ (m ≤ 0 → trimM m t ≤ 0) := by
  induction t with
  | zero => intro m; exact ⟨fun h => h, fun h => h⟩
  | succ t ih =>
    intro m
    unfold trimM
    by_cases h : m % 10 = 0
    · rw [if_pos h]
      have := ih (m / 10)
      exact ⟨fun h1 => this.1 (by omega), fun h1 => this.2 (by omega)⟩
    · rw [if_neg h]
      exact ⟨fun h => h, fun h => h⟩

theorem fit_sign (v z : Int) : (0 ≤ v → 0 ≤ fitM v z) ∧ (v ≤ 0 → fitM v z ≤ 0) := by
  unfold fitM
  split
  · exact ⟨fun _ => by omega, fun _ => by omega⟩
  · generalize min z.toNat 4 + 1 = t
    induction t with
    | zero => exact ⟨fun _ => Int.le_refl _, fun _ => Int.le_refl _⟩
    | succ t ih =>
      unfold fitTM
      split
      · have h1 := half_sign v (p10 (z.toNat - t)) (p10_pos _)
        have h2 := trim_sign t (half v (p10 (z.toNat - t)))
        exact ⟨fun h => h2.1 (h1.1 h), fun h => h2.2 (h1.2 h)⟩
      · exact ih

theorem isB_ten {m s : Int} (h : isB m s = true) (hs : s ≠ 0) : m % 10 ≠ 0 := by
  unfold isB at h
  simp at h
  omega

theorem up_inj (m s n t : Int) (ha : isB m s = true) (hb : isB n t = true) (h : upM m s (max s t) = upM n t (max s t)) : m = n ∧ s = t := by
  have ⟨m1, m2, s1, s2⟩ := isB_bd ha
  have ⟨n1, n2, t1, t2⟩ := isB_bd hb
  unfold upM at h
  by_cases c1 : s < t
  · exfalso
    have hn := isB_ten hb (by omega)
    rw [show max s t = t by omega, show (t - t).toNat = 0 by omega, show (t - s).toNat = (t - s - 1).toNat + 1 by omega, p10_succ, ← Int.mul_assoc] at h
    have : n * p10 0 = n := by show n * 1 = n; omega
    omega
  · by_cases c2 : t < s
    · exfalso
      have hm := isB_ten ha (by omega)
      rw [show max s t = s by omega, show (s - s).toNat = 0 by omega, show (s - t).toNat = (s - t - 1).toNat + 1 by omega, p10_succ, ← Int.mul_assoc] at h
      have : m * p10 0 = m := by show m * 1 = m; omega
      omega
    · have e : s = t := by omega
      subst e
      rw [show max s s = s by omega, show (s - s).toNat = 0 by omega] at h
      have a1 : m * p10 0 = m := by show m * 1 = m; omega
      have a2 : n * p10 0 = n := by show n * 1 = n; omega
      exact ⟨by omega, rfl⟩

theorem cmp_zero (m s n t : Int) (ha : isB m s = true) (hb : isB n t = true) :
    (cmpI (upM m s (max s t)) (upM n t (max s t)) == 0) = ((m == n) && (s == t)) := by
  by_cases h : upM m s (max s t) = upM n t (max s t)
  · have ⟨e1, e2⟩ := up_inj m s n t ha hb h
    subst e1 e2
    have : cmpI (upM m s (max s s)) (upM m s (max s s)) = 0 := by unfold cmpI; rw [if_neg (by omega), if_neg (by omega)]
    rw [this]
    simp
  · have h1 : (cmpI (upM m s (max s t)) (upM n t (max s t)) == 0) = false := by
      unfold cmpI
      by_cases c : upM m s (max s t) < upM n t (max s t)
      · rw [if_pos c]; rfl
      · rw [if_neg c, if_pos (by omega)]; rfl
    have h2 : ((m == n) && (s == t)) = false := by
      rw [Bool.eq_false_iff]
      intro hc
      have ⟨e1, e2⟩ := (Bool.and_eq_true _ _).mp hc
      have e1 := eq_of_beq e1
      have e2 := eq_of_beq e2
      subst e1 e2
      exact h rfl
    rw [h1, h2]

theorem cmp_neg (x y : Int) : -cmpI y x = cmpI x y := by
  unfold cmpI
  by_cases c1 : x < y
  · simp [c1, show ¬ y < x by omega]
  · by_cases c2 : y < x
    · simp [c1, c2]
    · simp [c1, c2]

theorem cmp_bd (x y : Int) : -1 ≤ cmpI x y ∧ cmpI x y ≤ 1 := by
  unfold cmpI
  split
  · omega
  · split <;> omega

theorem cmp_pos (x y : Int) : (0 < cmpI x y) ↔ y < x := by
  unfold cmpI
  split
  · omega
  · split <;> omega

theorem order_cases (x y z : Int) :
    (fitE (x - y) z != 0) = true ∨ ((fitE (x - y) z != 0) = false ∧ decide (0 < fitM (x - y) z) = true ∧ decide (0 < cmpI x y) = true) ∨ ((fitE (x - y) z != 0) = false ∧ decide (0 < fitM (x - y) z) = false ∧ decide (0 < cmpI x y) = false) ∨ ((fitE (x - y) z != 0) = false ∧ decide (0 < fitM (x - y) z) = false ∧ decide (0 < cmpI x y) = true ∧ (fitM (x - y) z == 0) = true) := by
  have hs := fit_sign (x - y) z
  have hp := cmp_pos x y
  by_cases e : fitE (x - y) z = 0
  · have e1 : (fitE (x - y) z != 0) = false := by rw [e]; rfl
    refine Or.inr ?_
    by_cases d : 0 < fitM (x - y) z
    · have : 0 < cmpI x y := hp.2 (by refine Int.not_le.1 fun h => ?_; have := hs.2 (by omega); omega)
      exact Or.inl ⟨e1, decide_eq_true d, decide_eq_true this⟩
    · by_cases k : 0 < cmpI x y
      · have := hs.1 (by have := hp.1 k; omega)
        exact Or.inr (Or.inr ⟨e1, decide_eq_false d, decide_eq_true k, by simp; omega⟩)
      · exact Or.inr (Or.inl ⟨e1, decide_eq_false d, decide_eq_false k⟩)
  · exact Or.inl (by simpa using e)

end Go.Proofs.YtlcckhlkmnnjdabDoor

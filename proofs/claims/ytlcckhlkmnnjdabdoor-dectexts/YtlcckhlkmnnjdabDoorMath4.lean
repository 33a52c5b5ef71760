/- More of the plain reckoning: what Fit takes off can be laid on again; what is rounded is near; what is too great at every scale. -/
import Derived.Test.YtlcckhlkmnnjdabDoorMath3
namespace Go.Proofs.YtlcckhlkmnnjdabDoor

theorem half_exact (y d : Int) (hd : 1 ≤ d) : half (y * d) d = y := by
  unfold half
  have h1 : y * d % d = 0 := Int.mul_emod_left y d
  have h2 : y * d / d = y := Int.mul_ediv_cancel y (by omega)
  rw [h1, h2, if_neg (by omega)]

theorem half_near (n d : Int) (hd : 1 ≤ d) : 2 * (n - half n d * d) ≤ d ∧ -d ≤ 2 * (n - half n d * d) := by
  have h1 := Int.emod_nonneg n (b := d) (by omega)
  have h2 := Int.emod_lt_of_pos n (b := d) (by omega)
  have h3 := Int.mul_ediv_add_emod n d
  unfold half
  split
  · rw [Int.add_mul, Int.mul_comm (n / d) d]; omega
  · rw [Int.mul_comm (n / d) d]; omega

theorem trimS_le (t : Nat) : ∀ m : Int, trimS m t ≤ t := by
  induction t with
  | zero => intro m; exact Nat.le_refl _
  | succ t ih =>
    intro m
    unfold trimS
    split
    · have := ih (m / 10); omega
    · omega

theorem trim_up (t : Nat) : ∀ m : Int, trimM m t * p10 (t - trimS m t) = m := by
  induction t with
  | zero => intro m; show m * 1 = m; omega
  | succ t ih =>
    intro m
    unfold trimM trimS
    by_cases h : m % 10 = 0
    · rw [if_pos h, if_pos h]
      have hl := trimS_le t (m / 10)
      rw [show t + 1 - trimS (m / 10) t = (t - trimS (m / 10) t) + 1 by omega, p10_succ, ← Int.mul_assoc, ih]
      omega
    · rw [if_neg h, if_neg h, Nat.sub_self]
      show m * 1 = m
      omega

theorem fitE_in (m s : Int) (h : argB m s = false) : fitE m s = 0 ∨ fitE m s = 3 := by
  unfold fitE
  rw [h]
  show fitTE m s.toNat (min s.toNat 4 + 1) = 0 ∨ fitTE m s.toNat (min s.toNat 4 + 1) = 3
  generalize min s.toNat 4 + 1 = t
  induction t with
  | zero => exact Or.inr rfl
  | succ t ih =>
    unfold fitTE
    split
    · exact Or.inl rfl
    · exact ih

theorem fit_top (m s : Int) (ha : argB m s = false) (h4 : 4 ≤ s) (hk : okM (half m (p10 (s.toNat - 4))) = true) :
    fitM m s = trimM (half m (p10 (s.toNat - 4))) 4 ∧ fitS m s = (trimS (half m (p10 (s.toNat - 4))) 4 : Nat) ∧ fitE m s = 0 := by
  have e : min s.toNat 4 + 1 = 4 + 1 := by omega
  refine ⟨?_, ?_, ?_⟩
  · unfold fitM; rw [ha, e]; show fitTM m s.toNat (4 + 1) = _; unfold fitTM; rw [if_pos hk]
  · unfold fitS; rw [ha, e]; show ((fitTS m s.toNat (4 + 1) : Nat) : Int) = _; unfold fitTS; rw [if_pos hk]
  · unfold fitE; rw [ha, e]; show fitTE m s.toNat (4 + 1) = _; unfold fitTE; rw [if_pos hk]

theorem fitT_whole (x : Int) (s : Nat) (hx : ∀ t, 1 ≤ t → okM (x * p10 t) = false) : ∀ t, t ≤ s →
    fitTM (x * p10 s) s (t + 1) = (if okM x = true then x else 0) ∧ fitTS (x * p10 s) s (t + 1) = 0 ∧ fitTE (x * p10 s) s (t + 1) = (if okM x = true then 0 else 3) := by
  have he : ∀ t, t ≤ s → half (x * p10 s) (p10 (s - t)) = x * p10 t := by
    intro t ht
    have : p10 s = p10 t * p10 (s - t) := by rw [← p10_add]; congr 1; omega
    rw [this, ← Int.mul_assoc, half_exact _ _ (p10_pos _)]
  intro t
  induction t with
  | zero =>
    intro ht
    have h0 := he 0 ht
    rw [show x * p10 0 = x by show x * 1 = x; omega] at h0
    unfold fitTM fitTS fitTE
    rw [h0]
    refine ⟨rfl, ?_, rfl⟩
    split <;> rfl
  | succ t ih =>
    intro ht
    have h1 := he (t + 1) ht
    have hn := hx (t + 1) (by omega)
    have := ih (by omega)
    unfold fitTM fitTS fitTE
    rw [h1, hn]
    exact this

theorem fit_whole (x s : Int) (hx : ∀ t, 1 ≤ t → okM (x * p10 t) = false) (h1 : -1000000000000000000 ≤ x * p10 s.toNat) (h2 : x * p10 s.toNat ≤ 1000000000000000000) (h3 : 0 ≤ s) (h4 : s ≤ 8) :
    fitM (x * p10 s.toNat) s = (if okM x = true then x else 0) ∧ fitS (x * p10 s.toNat) s = 0 ∧ fitE (x * p10 s.toNat) s = (if okM x = true then 0 else 3) := by
  have ha : argB (x * p10 s.toNat) s = false := by unfold argB; simp only [decide_eq_false_iff_not]; omega
  have := fitT_whole x s.toNat hx (min s.toNat 4) (by omega)
  unfold fitM fitS fitE
  rw [ha]
  refine ⟨this.1, ?_, this.2.2⟩
  show ((fitTS (x * p10 s.toNat) s.toNat (min s.toNat 4 + 1) : Nat) : Int) = 0
  rw [this.2.1]; rfl

theorem big_not (x : Int) (h : 1000000000 ≤ x ∨ x ≤ -1000000000) (t : Nat) (ht : 1 ≤ t) : okM (x * p10 t) = false := by
  obtain ⟨u, rfl⟩ : ∃ u, t = u + 1 := ⟨t - 1, by omega⟩
  rw [p10_succ, ← Int.mul_assoc]
  have p := p10_pos u
  have : okM (x * p10 u * 10) ≠ true := by
    rw [Ne, okM_iff]
    rcases h with h | h
    · have := Int.mul_le_mul h p (by omega) (by omega); omega
    · have := Int.mul_le_mul (show 1000000000 ≤ -x by omega) p (by omega) (by omega); rw [Int.neg_mul] at this; omega
  simpa using this

end Go.Proofs.YtlcckhlkmnnjdabDoor

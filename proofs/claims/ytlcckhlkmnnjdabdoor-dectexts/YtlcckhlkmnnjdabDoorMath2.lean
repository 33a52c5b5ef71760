/- More of the plain reckoning: what Fit answers may be. -/
import Derived.Test.YtlcckhlkmnnjdabDoorMath
namespace Go.Proofs.YtlcckhlkmnnjdabDoor

theorem trim_is (t : Nat) : ∀ m : Int, okM m = true → okM (trimM m t) = true ∧ trimS m t ≤ t ∧ (trimS m t = 0 ∨ trimM m t % 10 ≠ 0) := by
  induction t with
  | zero => intro m h; exact ⟨h, Nat.le_refl _, Or.inl rfl⟩
  | succ t ih =>
    intro m h
    unfold trimM trimS
    by_cases h10 : m % 10 = 0
    · rw [if_pos h10, if_pos h10]
      have := ih (m / 10) (by rw [okM_iff] at *; omega)
      exact ⟨this.1, by omega, this.2.2⟩
    · rw [if_neg h10, if_neg h10]
      exact ⟨h, Nat.le_refl _, Or.inr h10⟩

theorem isB_mk (m : Int) (s : Nat) (h : okM m = true) (h4 : s ≤ 4) (h0 : s = 0 ∨ m % 10 ≠ 0) : isB m s = true := by
  unfold isB
  rw [h]
  simp
  rcases h0 with h0 | h0
  · exact ⟨by omega, Or.inl h0⟩
  · exact ⟨by omega, Or.inr h0⟩

theorem fitT_is (m : Int) (s : Nat) : ∀ t, t ≤ 5 → fitTE m s t = 0 → isB (fitTM m s t) (fitTS m s t : Nat) = true := by
  intro t
  induction t with
  | zero => intro _ h; have h : (3 : Int) = 0 := h; omega
  | succ t ih =>
    intro ht h
    unfold fitTE at h
    unfold fitTM fitTS
    by_cases hok : okM (half m (p10 (s - t))) = true
    · rw [if_pos hok, if_pos hok]
      have := trim_is t _ hok
      exact isB_mk _ _ this.1 (by omega) this.2.2
    · rw [if_neg hok] at h ⊢
      rw [if_neg hok]
      exact ih (by omega) h

theorem fit_is (m s : Int) (h : fitE m s = 0) : isB (fitM m s) (fitS m s) = true := by
  unfold fitE at h
  unfold fitM fitS
  by_cases ha : argB m s = true
  · rw [if_pos ha] at h; exact absurd h (by decide)
  · rw [if_neg ha] at h ⊢
    rw [if_neg ha]
    exact fitT_is m _ _ (by omega) h

end Go.Proofs.YtlcckhlkmnnjdabDoor

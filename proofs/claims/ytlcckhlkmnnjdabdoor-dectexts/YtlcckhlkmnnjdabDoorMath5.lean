/- More of the plain reckoning: one value at two scales is fitted, divided and ordered alike. -/
import Derived.Test.YtlcckhlkmnnjdabDoorMath4
namespace Go.Proofs.YtlcckhlkmnnjdabDoor

theorem half_scale (x y c : Int) (hc : 1 ≤ c) : half (x * c) (y * c) = half x y := by
  unfold half
  have h1 : x * c / (y * c) = x / y := by rw [Int.mul_comm x c, Int.mul_comm y c]; exact Int.mul_ediv_mul_of_pos _ _ (show 0 < c by omega)
  have h2 : x * c % (y * c) = x % y * c := by rw [Int.mul_comm x c, Int.mul_comm y c, Int.mul_comm (x % y) c]; exact Int.mul_emod_mul_of_pos _ _ (show 0 < c by omega)
  rw [h1, h2]
  generalize x % y = r
  generalize x / y = q
  have e1 : 2 * (r * c) = 2 * r * c := by rw [Int.mul_assoc]
  have a1 : (y * c < 2 * (r * c)) ↔ (y < 2 * r) := by
    rw [e1]
    constructor
    · intro h; exact Int.lt_of_mul_lt_mul_right h (by omega)
    · intro h; exact Int.mul_lt_mul_of_pos_right h (by omega)
  have a2 : (2 * (r * c) = y * c) ↔ (2 * r = y) := by
    rw [e1]
    constructor
    · intro h; exact Int.eq_of_mul_eq_mul_right (by omega) h
    · intro h; rw [h]
  simp only [a1, a2]

theorem trim_scale (x : Int) (z : Nat) : ∀ j, trimM (x * p10 j) (z + j) = trimM x z ∧ trimS (x * p10 j) (z + j) = trimS x z := by
  intro j
  induction j with
  | zero => rw [show x * p10 0 = x by show x * 1 = x; omega]; exact ⟨rfl, rfl⟩
  | succ j ih =>
    have e : x * p10 (j + 1) = x * p10 j * 10 := by rw [p10_succ, Int.mul_assoc]
    rw [e, show z + (j + 1) = (z + j) + 1 by omega]
    have t1 : trimM (x * p10 j * 10) (z + j + 1) = trimM (x * p10 j * 10 / 10) (z + j) := if_pos (by omega)
    have t2 : trimS (x * p10 j * 10) (z + j + 1) = trimS (x * p10 j * 10 / 10) (z + j) := if_pos (by omega)
    rw [t1, t2, show x * p10 j * 10 / 10 = x * p10 j by omega]
    exact ih

theorem fitT_low (x : Int) (z k : Nat) : ∀ t, t ≤ z + 1 →
    fitTM (x * p10 k) (z + k) t = fitTM x z t ∧ fitTS (x * p10 k) (z + k) t = fitTS x z t ∧ fitTE (x * p10 k) (z + k) t = fitTE x z t := by
  intro t
  induction t with
  | zero => intro _; exact ⟨rfl, rfl, rfl⟩
  | succ t ih =>
    intro ht
    have := ih (by omega)
    have h : half (x * p10 k) (p10 (z + k - t)) = half x (p10 (z - t)) := by
      rw [show z + k - t = (z - t) + k by omega, p10_add, half_scale _ _ _ (p10_pos _)]
    unfold fitTM fitTS fitTE
    rw [h]
    split
    · exact ⟨rfl, rfl, rfl⟩
    · exact this

theorem okM_down (x : Int) (j : Nat) (h : okM (x * p10 j) = true) : okM x = true := by
  rw [okM_iff] at *
  have p := p10_pos j
  have h1 : x * p10 j ≥ x ∨ x < 0 := by
    by_cases h0 : 0 ≤ x
    · have := Int.mul_le_mul_of_nonneg_left p h0; omega
    · omega
  have h2 : x * p10 j ≤ x ∨ 0 < x := by
    by_cases h0 : 0 ≤ -x
    · have := Int.mul_le_mul_of_nonneg_left p h0; simp only [Int.neg_mul] at this; omega
    · omega
  omega

theorem fitT_scale (x : Int) (z k : Nat) : ∀ j, j ≤ k →
    fitTM (x * p10 k) (z + k) (z + j + 1) = fitTM x z (z + 1) ∧ fitTS (x * p10 k) (z + k) (z + j + 1) = fitTS x z (z + 1) ∧ fitTE (x * p10 k) (z + k) (z + j + 1) = fitTE x z (z + 1) := by
  intro j
  induction j with
  | zero => intro _; exact fitT_low x z k (z + 1) (by omega)
  | succ j ih =>
    intro hj
    have := ih (by omega)
    have h : half (x * p10 k) (p10 (z + k - (z + (j + 1)))) = x * p10 (j + 1) := by
      have e : p10 k = p10 (j + 1) * p10 (z + k - (z + (j + 1))) := by rw [← p10_add]; congr 1; omega
      rw [e, ← Int.mul_assoc, half_exact _ _ (p10_pos _)]
    by_cases hk : okM (x * p10 (j + 1)) = true
    · have hx := okM_down x (j + 1) hk
      have h0 : half x (p10 (z - z)) = x := by rw [Nat.sub_self]; exact half_one x
      have ht := trim_scale x z (j + 1)
      have l1 : fitTM (x * p10 k) (z + k) (z + (j + 1) + 1) = trimM (x * p10 (j + 1)) (z + (j + 1)) := by
        conv => lhs; unfold fitTM
        rw [h, if_pos hk]
      have l2 : fitTS (x * p10 k) (z + k) (z + (j + 1) + 1) = trimS (x * p10 (j + 1)) (z + (j + 1)) := by
        conv => lhs; unfold fitTS
        rw [h, if_pos hk]
      have l3 : fitTE (x * p10 k) (z + k) (z + (j + 1) + 1) = 0 := by
        conv => lhs; unfold fitTE
        rw [h, if_pos hk]
      have r1 : fitTM x z (z + 1) = trimM x z := by unfold fitTM; rw [h0, if_pos hx]
      have r2 : fitTS x z (z + 1) = trimS x z := by unfold fitTS; rw [h0, if_pos hx]
      have r3 : fitTE x z (z + 1) = 0 := by unfold fitTE; rw [h0, if_pos hx]
      rw [l1, l2, l3, r1, r2, r3]
      exact ⟨ht.1, ht.2, rfl⟩
    · have l1 : fitTM (x * p10 k) (z + k) (z + (j + 1) + 1) = fitTM (x * p10 k) (z + k) (z + j + 1) := by
        conv => lhs; unfold fitTM
        rw [h, if_neg hk]; rfl
      have l2 : fitTS (x * p10 k) (z + k) (z + (j + 1) + 1) = fitTS (x * p10 k) (z + k) (z + j + 1) := by
        conv => lhs; unfold fitTS
        rw [h, if_neg hk]; rfl
      have l3 : fitTE (x * p10 k) (z + k) (z + (j + 1) + 1) = fitTE (x * p10 k) (z + k) (z + j + 1) := by
        conv => lhs; unfold fitTE
        rw [h, if_neg hk]; rfl
      rw [l1, l2, l3]
      exact this

theorem fit_scale (x z : Int) (z1 : 0 ≤ z) (z2 : z ≤ 4) (x2 : x ≤ 1000000000000000000) (x3 : -1000000000000000000 ≤ x * p10 (4 - z).toNat) (x4 : x * p10 (4 - z).toNat ≤ 1000000000000000000) (x5 : -1000000000000000000 ≤ x) :
    fitM (x * p10 (4 - z).toNat) 4 = fitM x z ∧ fitS (x * p10 (4 - z).toNat) 4 = fitS x z ∧ fitE (x * p10 (4 - z).toNat) 4 = fitE x z := by
  have a1 : argB (x * p10 (4 - z).toNat) 4 = false := by unfold argB; simp only [decide_eq_false_iff_not]; omega
  have a2 : argB x z = false := by unfold argB; simp only [decide_eq_false_iff_not]; omega
  have h := fitT_scale x z.toNat (4 - z).toNat (4 - z).toNat (Nat.le_refl _)
  rw [show z.toNat + (4 - z).toNat = 4 by omega] at h
  have e4 : (4 : Int).toNat = 4 := rfl
  have em : min 4 4 + 1 = 4 + 1 := rfl
  have ez : min z.toNat 4 + 1 = z.toNat + 1 := by omega
  unfold fitM fitS fitE
  simp only [a1, a2, Bool.false_eq_true, if_false, e4, em, ez]
  generalize x * p10 (4 - z).toNat = y at *
  exact ⟨h.1, by rw [h.2.1], h.2.2⟩

theorem up_scale (m s z : Int) (h1 : s ≤ z) (h2 : z ≤ 4) : upM m s 4 = upM m s z * p10 (4 - z).toNat := by
  unfold upM
  rw [Int.mul_assoc, ← p10_add]
  congr 2
  omega

theorem cmp_scale (x y c : Int) (hc : 1 ≤ c) : cmpI (x * c) (y * c) = cmpI x y := by
  unfold cmpI
  have a1 : (x * c < y * c) ↔ (x < y) := ⟨fun h => Int.lt_of_mul_lt_mul_right h (by omega), fun h => Int.mul_lt_mul_of_pos_right h (by omega)⟩
  have a2 : (y * c < x * c) ↔ (y < x) := ⟨fun h => Int.lt_of_mul_lt_mul_right h (by omega), fun h => Int.mul_lt_mul_of_pos_right h (by omega)⟩
  rw [ite_congr (propext a1) (fun _ => rfl) (fun _ => ite_congr (propext a2) (fun _ => rfl) (fun _ => rfl))]

theorem up_neg (n t z : Int) : upM (-n) t z = -upM n t z := by
  unfold upM; rw [Int.neg_mul]

end Go.Proofs.YtlcckhlkmnnjdabDoor

/- Values stand in one order: plain reckoning. -/
import Derived.Test.YthccmlkcdinfdacVOrd
import Derived.Test.YthccmlkcdinfdacVSame
namespace Go.Proofs.Ythccmlkcdinfdac
open Go.RowKit

theorem cmpB_bd (a b : Bool) : -1 ≤ cmpB a b ∧ cmpB a b ≤ 1 := by cases a <;> cases b <;> decide
theorem cmpB_neg (a b : Bool) : cmpB b a = -cmpB a b := by cases a <;> cases b <;> decide
theorem cmpB_zero (a b : Bool) (h : cmpB a b = 0) : a = b := by cases a <;> cases b <;> first | rfl | (simp [cmpB] at h)
theorem cmpB_trans : ∀ (a b c : Bool), cmpB a b ≤ 0 → cmpB b c ≤ 0 → cmpB a c ≤ 0 := by decide
theorem cmpI_neg (x y : Int) : cmpI y x = -cmpI x y := by unfold cmpI; repeat' split <;> omega
theorem cmpI_zero (x y : Int) (h : cmpI x y = 0) : x = y := by unfold cmpI at h; repeat' split at h <;> omega
theorem cmpI_le (x y : Int) : cmpI x y ≤ 0 ↔ x ≤ y := by unfold cmpI; repeat' split <;> omega
theorem cmpI_trans (x y z : Int) (h1 : cmpI x y ≤ 0) (h2 : cmpI y z ≤ 0) : cmpI x z ≤ 0 := by rw [cmpI_le] at *; omega
theorem cmpI_self (x : Int) : cmpI x x = 0 := by unfold cmpI; rw [if_neg (by omega), if_neg (by omega)]
theorem cmpS_bd (s t : ByteArray) : -1 ≤ cmpS s t ∧ cmpS s t ≤ 1 := cb_bd _ _

theorem lex_bd {f : Nat → Int} {z : Int} {n : Nat} (hf : ∀ i, i < n → -1 ≤ f i ∧ f i ≤ 1) (hz : -1 ≤ z ∧ z ≤ 1) : -1 ≤ lexF f z n ∧ lexF f z n ≤ 1 := by
  rcases lex_cases f z n with ⟨j, hj, -, -, e⟩ | ⟨-, e⟩
  · rw [e]; exact hf j hj
  · rw [e]; exact hz
theorem lex_neg {f g : Nat → Int} {z y : Int} {n : Nat} (h : ∀ i, i < n → g i = -f i) (hz : y = -z) : lexF g y n = -lexF f z n := by
  rcases lex_cases f z n with ⟨j, hj, h0, h1, e⟩ | ⟨h0, e⟩
  · rw [e, lex_hit y hj (fun i hi => by rw [h i (by omega), h0 i hi]; rfl) (by rw [h j hj]; omega), h j hj]
  · rw [e, lex_none y (fun i hi => by rw [h i hi, h0 i hi]; rfl), hz]

theorem lex_congr {f g : Nat → Int} {z : Int} {n : Nat} (h : ∀ i, i < n → f i = g i) : lexF f z n = lexF g z n := by
  rcases lex_cases f z n with ⟨j, hj, h0, h1, e⟩ | ⟨h0, e⟩
  · rw [e, lex_hit z hj (fun i hi => by rw [← h i (by omega), h0 i hi]) (by rw [← h j hj]; exact h1), h j hj]
  · rw [e, lex_none z (fun i hi => by rw [← h i hi, h0 i hi])]

theorem cmp_kind {k : Int} {b : Bool} {m s : Int} {t : ByteArray} {a : Option Addr} {len cap : Nat} {kid : Nat → VT} {b' : Bool} {m' s' : Int} {t' : ByteArray} {a' : Option Addr} {len' cap' : Nat} {kid' : Nat → VT} :
    (VT.mk k b m s t a len cap kid).cmp (VT.mk k b' m' s' t' a' len' cap' kid') = if k = 1 then cmpB b b' else if k = 2 then cmpI (upM m s 4) (upM m' s' 4) else if k = 3 then cmpS t t' else
    lexF (fun i => (kid i).cmp (kid' i)) (cmpI len len') (min len len') := by
  conv => lhs; unfold VT.cmp
  rw [if_neg (fun h => h rfl)]
theorem cmp_diff {k : Int} {b : Bool} {m s : Int} {t : ByteArray} {a : Option Addr} {len cap : Nat} {kid : Nat → VT} {k' : Int} {b' : Bool} {m' s' : Int} {t' : ByteArray} {a' : Option Addr} {len' cap' : Nat} {kid' : Nat → VT} (h : k ≠ k') :
    (VT.mk k b m s t a len cap kid).cmp (VT.mk k' b' m' s' t' a' len' cap' kid') = cmpI k k' := by
  unfold VT.cmp; rw [if_pos h]

/- either way round. -/
theorem cmp_flip (x : VT) : ∀ (y : VT), y.cmp x = -x.cmp y := by
  induction x with
  | none => intro y; cases y <;> rfl
  | mk k b m s t a len cap kid ih =>
    intro y
    cases y with
    | none => rfl
    | mk k' b' m' s' t' a' len' cap' kid' =>
      by_cases hk : k = k'
      · subst hk
        rw [cmp_kind, cmp_kind]
        by_cases k1 : k = 1
        · rw [if_pos k1, if_pos k1]; exact cmpB_neg _ _
        rw [if_neg k1, if_neg k1]
        by_cases k2 : k = 2
        · rw [if_pos k2, if_pos k2]; exact cmpI_neg _ _
        rw [if_neg k2, if_neg k2]
        by_cases k3 : k = 3
        · rw [if_pos k3, if_pos k3]; exact cb_neg _ _
        rw [if_neg k3, if_neg k3, Nat.min_comm len' len]
        exact lex_neg (fun i _ => ih i (kid' i)) (cmpI_neg _ _)
      · rw [cmp_diff hk, cmp_diff (fun h => hk h.symm)]; exact cmpI_neg _ _

theorem cmp_bds (x : VT) : ∀ (y : VT), -1 ≤ x.cmp y ∧ x.cmp y ≤ 1 := by
  induction x with
  | none => intro y; cases y <;> (unfold VT.cmp; omega)
  | mk k b m s t a len cap kid ih =>
    intro y
    cases y with
    | none => unfold VT.cmp; omega
    | mk k' b' m' s' t' a' len' cap' kid' =>
      unfold VT.cmp
      split
      · exact cmp_bd _ _
      split
      · exact cmpB_bd _ _
      split
      · exact cmp_bd _ _
      split
      · exact cmpS_bd _ _
      · exact lex_bd (fun i _ => ih i (kid' i)) (cmp_bd _ _)

theorem cmp_self (x : VT) : x.cmp x = 0 := by
  have := cmp_flip x x
  omega

theorem okB_kids {k : Int} {b : Bool} {m s : Int} {t : ByteArray} {a : Option Addr} {len cap : Nat} {kid : Nat → VT} {n : Nat} (h : (VT.mk k b m s t a len cap kid).okB n = true) : ∀ i, i < len → (kid i).okB (n - 1) = true := by
  by_cases k4 : k = 4
  · subst k4; exact (okB_list h).2
  · have := (alone_t (okB_kind h).1).2.2.2 k4
    exact fun i hi => absurd hi (by omega)

/- kids are looked at only as far as the lists go. -/
theorem cmp_zero_same (x : VT) : ∀ (y : VT) (n n' : Nat), x.okB n = true → y.okB n' = true → x.cmp y = 0 → x.same y = true := by
  induction x with
  | none => intro y n n' hx; exact absurd hx (by simp [VT.okB])
  | mk k b m s t a len cap kid ih =>
    intro y n n' hx hy h
    cases y with
    | none => exact absurd hy (by simp [VT.okB])
    | mk k' b' m' s' t' a' len' cap' kid' =>
      unfold VT.cmp at h
      by_cases hk : k = k'
      · subst hk
        rw [if_neg (fun h => h rfl)] at h
        obtain ⟨al, hkk⟩ := okB_kind hx
        obtain ⟨al', hkk'⟩ := okB_kind hy
        obtain ⟨a1, a2, a3, a4⟩ := alone_t al
        obtain ⟨b1, b2, b3, b4⟩ := alone_t al'
        have key : b = b' ∧ m = m' ∧ s = s' ∧ t = t' ∧ len = len' ∧ ∀ i, i < len → (kid i).same (kid' i) = true := by
          by_cases k1 : k = 1
          · rw [if_pos k1] at h
            have c2 := a2 (by omega); have d2 := b2 (by omega); have c4 := a4 (by omega); have d4 := b4 (by omega)
            exact ⟨cmpB_zero _ _ h, by omega, by omega, bytes_ext (by rw [a3 (by omega), b3 (by omega)]), by omega, fun i hi => absurd hi (by omega)⟩
          have c1 : b = b' := by rw [a1 k1, b1 k1]
          rw [if_neg k1] at h
          by_cases k2 : k = 2
          · rw [if_pos k2] at h
            have c4 := a4 (by omega); have d4 := b4 (by omega)
            have hd : isB m s = true := by
              rcases hkk with h | h | ⟨_, h⟩ | h | h <;> first | exact h | omega
            have hd' : isB m' s' = true := by
              rcases hkk' with h | h | ⟨_, h⟩ | h | h <;> first | exact h | omega
            rw [← cmp_dec _ _ _ _ hd hd'] at h
            have e := up_inj _ _ _ _ hd hd' (cmpI_zero _ _ h)
            exact ⟨c1, e.1, e.2, bytes_ext (by rw [a3 (by omega), b3 (by omega)]), by omega, fun i hi => absurd hi (by omega)⟩
          have c2 := a2 k2
          have d2 := b2 k2
          rw [if_neg k2] at h
          by_cases k3 : k = 3
          · rw [if_pos k3] at h
            have c4 := a4 (by omega); have d4 := b4 (by omega)
            have e := cb_zero _ _ h
            exact ⟨c1, by omega, by omega, bytes_ext (by rw [ByteArray.toList_eq, ByteArray.toList_eq, e]), by omega, fun i hi => absurd hi (by omega)⟩
          have c3 : t = t' := bytes_ext (by rw [a3 k3, b3 k3])
          rw [if_neg k3] at h
          have ok : ∀ i, i < len → (kid i).okB (n - 1) = true := by
            by_cases k4 : k = 4
            · subst k4; exact (okB_list hx).2
            · have := a4 k4; exact fun i hi => absurd hi (by omega)
          have ok' : ∀ i, i < len' → (kid' i).okB (n' - 1) = true := by
            by_cases k4 : k = 4
            · subst k4; exact (okB_list hy).2
            · have := b4 k4; exact fun i hi => absurd hi (by omega)
          rcases lex_cases (fun i => (kid i).cmp (kid' i)) (cmpI len len') (min len len') with ⟨j, _, _, h1, e⟩ | ⟨h0, e⟩
          · rw [e] at h; exact absurd h h1
          · rw [e] at h
            have hl := cmpI_zero _ _ h
            have hl : len = len' := by omega
            exact ⟨c1, by omega, by omega, c3, hl, fun i hi => ih i (kid' i) _ _ (ok i hi) (ok' i (by omega)) (h0 i (by omega))⟩
        obtain ⟨rfl, rfl, rfl, rfl, rfl, hs⟩ := key
        unfold VT.same
        simp only [decide_true, Bool.true_and]
        exact all_range (f := fun i => (kid i).same (kid' i)) hs
      · rw [if_pos hk] at h
        exact absurd (cmpI_zero _ _ h) hk

theorem same_parts {k : Int} {b : Bool} {m s : Int} {t : ByteArray} {a : Option Addr} {len cap : Nat} {kid : Nat → VT} {k' : Int} {b' : Bool} {m' s' : Int} {t' : ByteArray} {a' : Option Addr} {len' cap' : Nat} {kid' : Nat → VT} (h : (VT.mk k b m s t a len cap kid).same (VT.mk k' b' m' s' t' a' len' cap' kid') = true) :
    k = k' ∧ b = b' ∧ m = m' ∧ s = s' ∧ t = t' ∧ len = len' ∧ ∀ i, i < len → (kid i).same (kid' i) = true := by
  unfold VT.same at h
  simp only [Bool.and_eq_true, decide_eq_true_eq] at h
  obtain ⟨h1, h2, h3, h4, h5, h6, h7⟩ := h
  exact ⟨h1, h2, h3, h4, h5, h6, fun i hi => all_range_get (f := fun i => (kid i).same (kid' i)) h7 hi⟩

theorem same_cmp (x : VT) : ∀ y : VT, x.same y = true → ∀ z : VT, x.cmp z = y.cmp z := by
  induction x with
  | none => intro y h; exact absurd h (by cases y <;> simp [VT.same])
  | mk k b m s t a len cap kid ih =>
    intro y h z
    cases y with
    | none => exact absurd h (by simp [VT.same])
    | mk k' b' m' s' t' a' len' cap' kid' =>
      obtain ⟨rfl, rfl, rfl, rfl, rfl, rfl, hs⟩ := same_parts h
      cases z with
      | none => rfl
      | mk k'' b'' m'' s'' t'' a'' len'' cap'' kid'' =>
        by_cases hk : k = k''
        · subst hk
          rw [cmp_kind, cmp_kind, lex_congr (f := fun i => (kid i).cmp (kid'' i)) (g := fun i => (kid' i).cmp (kid'' i)) (fun i hi => ih i _ (hs i (by omega)) _)]
        · rw [cmp_diff hk, cmp_diff hk]

theorem cmp_trans (x : VT) : ∀ (y z : VT) (n n' n'' : Nat), x.okB n = true → y.okB n' = true → z.okB n'' = true → x.cmp y ≤ 0 → y.cmp z ≤ 0 → x.cmp z ≤ 0 := by
  induction x with
  | none => intro y z n n' n'' hx; exact absurd hx (by simp [VT.okB])
  | mk k b m s t a len cap kid ih =>
    intro y z n n' n'' hx hy hz h1 h2
    cases y with
    | none => exact absurd hy (by simp [VT.okB])
    | mk k' b' m' s' t' a' len' cap' kid' =>
      cases z with
      | none => exact absurd hz (by simp [VT.okB])
      | mk k'' b'' m'' s'' t'' a'' len'' cap'' kid'' =>
        by_cases hk : k = k'
        · subst hk
          by_cases hk' : k = k''
          · subst hk'
            rw [cmp_kind] at h1 h2 ⊢
            by_cases k1 : k = 1
            · rw [if_pos k1] at h1 h2 ⊢; exact cmpB_trans _ _ _ h1 h2
            rw [if_neg k1] at h1 h2 ⊢
            by_cases k2 : k = 2
            · rw [if_pos k2] at h1 h2 ⊢; exact cmpI_trans _ _ _ h1 h2
            rw [if_neg k2] at h1 h2 ⊢
            by_cases k3 : k = 3
            · rw [if_pos k3] at h1 h2 ⊢; exact cb_trans _ _ _ h1 h2
            rw [if_neg k3] at h1 h2 ⊢
            have ok := okB_kids hx
            have ok' := okB_kids hy
            have ok'' := okB_kids hz
            have F0 : ∀ i, i < len → i < len' → (kid i).cmp (kid' i) = 0 → (kid i).cmp (kid'' i) = (kid' i).cmp (kid'' i) := fun i hi hi' h => same_cmp _ _ (cmp_zero_same _ _ _ _ (ok i hi) (ok' i hi') h) _
            have G0 : ∀ i, i < len' → i < len'' → (kid' i).cmp (kid'' i) = 0 → (kid i).cmp (kid'' i) = (kid i).cmp (kid' i) := fun i hi hi' h => by
              have := same_cmp _ _ (cmp_zero_same _ _ _ _ (ok' i hi) (ok'' i hi') h) (kid i)
              rw [cmp_flip (kid'' i) (kid i), cmp_flip (kid' i) (kid i), this]
            have ST : ∀ i, i < len → i < len' → i < len'' → (kid i).cmp (kid' i) < 0 → (kid' i).cmp (kid'' i) < 0 → (kid i).cmp (kid'' i) < 0 := fun i hi hi' hi'' p q => by
              have l := ih i _ _ _ _ _ (ok i hi) (ok' i hi') (ok'' i hi'') (by omega) (by omega)
              by_cases e : (kid i).cmp (kid'' i) = 0
              · have := same_cmp _ _ (cmp_zero_same _ _ _ _ (ok i hi) (ok'' i hi'') e) (kid' i)
                have f := cmp_flip (kid' i) (kid'' i)
                omega
              · omega
            rcases lex_cases (fun i => (kid i).cmp (kid' i)) (cmpI len len') (min len len') with ⟨j, hj, f0, f1, e1⟩ | ⟨f0, e1⟩ <;> rcases lex_cases (fun i => (kid' i).cmp (kid'' i)) (cmpI len' len'') (min len' len'') with ⟨l, hl, g0, g1, e2⟩ | ⟨g0, e2⟩ <;> rw [e1] at h1 <;> rw [e2] at h2
            · rcases Nat.lt_trichotomy j l with hjl | rfl | hjl
              · have e := G0 j (by omega) (by omega) (g0 j hjl)
                rw [lex_hit (f := fun i => (kid i).cmp (kid'' i)) _ (j := j) (by omega) (fun i hi => by rw [F0 i (by omega) (by omega) (f0 i hi)]; exact g0 i (by omega)) (by rw [e]; exact f1), e]
                exact h1
              · have e := ST j (by omega) (by omega) (by omega) (by omega) (by omega)
                rw [lex_hit (f := fun i => (kid i).cmp (kid'' i)) _ (j := j) (by omega) (fun i hi => by rw [F0 i (by omega) (by omega) (f0 i hi)]; exact g0 i (by omega)) (by omega)]
                omega
              · have e := F0 l (by omega) (by omega) (f0 l hjl)
                rw [lex_hit (f := fun i => (kid i).cmp (kid'' i)) _ (j := l) (by omega) (fun i hi => by rw [F0 i (by omega) (by omega) (f0 i (by omega))]; exact g0 i hi) (by rw [e]; exact g1), e]
                exact h2
            · rw [cmpI_le] at h2
              have e := G0 j (by omega) (by omega) (g0 j (by omega))
              rw [lex_hit (f := fun i => (kid i).cmp (kid'' i)) _ (j := j) (by omega) (fun i hi => by rw [F0 i (by omega) (by omega) (f0 i hi)]; exact g0 i (by omega)) (by rw [e]; exact f1), e]
              exact h1
            · rw [cmpI_le] at h1
              by_cases hll : l < len
              · have e := F0 l (by omega) (by omega) (f0 l (by omega))
                rw [lex_hit (f := fun i => (kid i).cmp (kid'' i)) _ (j := l) (by omega) (fun i hi => by rw [F0 i (by omega) (by omega) (f0 i (by omega))]; exact g0 i hi) (by rw [e]; exact g1), e]
                exact h2
              · rw [lex_none (f := fun i => (kid i).cmp (kid'' i)) _ (fun i hi => by rw [F0 i (by omega) (by omega) (f0 i (by omega))]; exact g0 i (by omega)), cmpI_le]
                omega
            · rw [cmpI_le] at h1 h2
              rw [lex_none (f := fun i => (kid i).cmp (kid'' i)) _ (fun i hi => by rw [F0 i (by omega) (by omega) (f0 i (by omega))]; exact g0 i (by omega)), cmpI_le]
              omega
          · rw [cmp_diff hk'] at h2 ⊢; exact h2
        · rw [cmp_diff hk, cmpI_le] at h1
          by_cases hk' : k' = k''
          · subst hk'
            rw [cmp_diff hk, cmpI_le]; exact h1
          · rw [cmp_diff hk', cmpI_le] at h2
            rw [cmp_diff (show k ≠ k'' by omega), cmpI_le]; omega
end Go.Proofs.Ythccmlkcdinfdac

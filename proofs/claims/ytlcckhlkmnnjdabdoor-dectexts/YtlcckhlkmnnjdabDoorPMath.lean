/- What a text of a decimal looks like: digits, a point, digits; and what else. -/
import Derived.Test.YtlcckhlkmnnjdabDoorParse
import Derived.Test.YtlcckhlkmnnjdabDoorRDigs
import Derived.Test.YtlcckhlkmnnjdabDoorLMath
namespace Go.Proofs.YtlcckhlkmnnjdabDoor
set_option linter.unusedVariables false

theorem irun_app {p : UInt8 → Bool} {A : List UInt8} (h : A.all p = true) (r : List UInt8) : run p (A ++ r) = A.length + run p r := by
  induction A with
  | nil => simp
  | cons c A ih =>
    simp only [List.all_cons, Bool.and_eq_true] at h
    rw [List.cons_append, run, if_pos h.1, ih h.2, List.length_cons]
    omega
theorem irun_self {A : List UInt8} (h : A.all isDig = true) : run isDig A = A.length := by
  have := irun_app h []
  rwa [List.append_nil, run, Nat.add_zero] at this
theorem irun_take (r : List UInt8) : (r.take (run isDig r)).all isDig = true := by
  rw [List.all_eq_true]
  intro c hc
  obtain ⟨i, hi, rfl⟩ := List.getElem_of_mem hc
  rw [List.length_take] at hi
  rw [List.getElem_take]
  exact run_in r i (by omega) (by omega)
theorem runs_eq {l : List UInt8} {at0 k : Nat} (h : Runs l at0 k) : k = run isDig (l.drop at0) := by
  obtain ⟨h1, h2, h3⟩ := h
  have e : l.drop at0 = (l.drop at0).take k ++ (l.drop at0).drop k := (List.take_append_drop _ _).symm
  have ha : ((l.drop at0).take k).all isDig = true := by
    rw [List.all_eq_true]
    intro c hc
    obtain ⟨i, hi, rfl⟩ := List.getElem_of_mem hc
    rw [List.length_take, List.length_drop] at hi
    rw [List.getElem_take, List.getElem_drop]
    exact h2 i (by omega) (by omega)
  have hl : ((l.drop at0).take k).length = k := by rw [List.length_take, List.length_drop]; omega
  rw [e, irun_app ha, hl]
  by_cases hlt : at0 + k < l.length
  · rw [List.drop_drop, run_no hlt (h3 hlt)]; rfl
  · rw [List.drop_drop, run_end (by omega)]; rfl

theorem idx_app {a : List UInt8} (h : a.all isDig = true) (b : List UInt8) : Lib.indexByte (a ++ 46 :: b) 46 = a.length := by
  induction a with
  | nil => simp [Lib.indexByte]
  | cons c a ih =>
    simp only [List.all_cons, Bool.and_eq_true] at h
    have hc : c ≠ 46 := by
      intro e; rw [e] at h; exact absurd h.1 (by decide)
    rw [List.cons_append]
    unfold Lib.indexByte
    rw [ih h.2]
    simp [hc]
theorem idx_dig {a : List UInt8} (h : a.all isDig = true) : Lib.indexByte a 46 = -1 := by
  induction a with
  | nil => rfl
  | cons c a ih =>
    simp only [List.all_cons, Bool.and_eq_true] at h
    have hc : c ≠ 46 := by
      intro e; rw [e] at h; exact absurd h.1 (by decide)
    unfold Lib.indexByte
    rw [ih h.2]
    simp [hc]
theorem idx_at (r : List UInt8) (k : Nat) (h : Lib.indexByte r 46 = k) : ∃ hk : k < r.length, r[k] = 46 := by
  induction r generalizing k with
  | nil => simp [Lib.indexByte] at h
  | cons c r ih =>
    unfold Lib.indexByte at h
    by_cases hc : c = 46
    · rw [if_pos (by simpa using hc)] at h
      have : k = 0 := by omega
      subst this
      exact ⟨by simp, by simpa using hc⟩
    · rw [if_neg (by simpa using hc)] at h
      rcases idx_facts r 46 with e | ⟨j, e, hj⟩
      · rw [e] at h; simp at h
      · rw [e] at h
        have hk : k = j + 1 := by
          have : ¬ ((j : Int) == -1) = true := by simp
          simp only [this] at h
          omega
        subst hk
        obtain ⟨h1, h2⟩ := ih j e
        exact ⟨by simpa using hj, by simpa using h2⟩

/- what is no decimal. -/
def Bad (r : List UInt8) : Prop :=
  run isDig r = 0 ∨ (∃ h : run isDig r < r.length, r[run isDig r].toNat ≠ 46) ∨
  (∃ h : run isDig r < r.length, 1 ≤ run isDig r ∧ r[run isDig r].toNat = 46 ∧ (run isDig (r.drop (run isDig r + 1)) = 0 ∨ run isDig r + 1 + run isDig (r.drop (run isDig r + 1)) < r.length))
theorem digs_parts {a : List UInt8} (h : digs a = true) : a.all isDig = true ∧ 1 ≤ a.length := by
  unfold digs at h
  simp only [Bool.and_eq_true, Bool.not_eq_true', List.isEmpty_eq_false_iff] at h
  exact ⟨h.1, List.length_pos_iff.2 h.2⟩
theorem digs_mk {a : List UInt8} (h : a.all isDig = true) (hl : 1 ≤ a.length) : digs a = true := by
  unfold digs
  simp only [Bool.and_eq_true, Bool.not_eq_true', List.isEmpty_eq_false_iff]
  exact ⟨h, List.length_pos_iff.1 hl⟩
theorem bad_whole {r : List UInt8} (h : Bad r) : digs r = false := by
  cases hd : digs r with
  | false => rfl
  | true =>
    obtain ⟨h1, h2⟩ := digs_parts hd
    have e := irun_self h1
    exfalso
    rcases h with h | ⟨h, -⟩ | ⟨h, -⟩ <;> omega
theorem bad_both {r : List UInt8} (h : Bad r) {k : Nat} (hk : k < r.length) (hc : r[k] = 46) : digs (r.take k) = false ∨ (digs (r.take k) = true ∧ digs (r.drop (k + 1)) = false) := by
  cases hd : digs (r.take k) with
  | false => exact Or.inl rfl
  | true =>
    refine Or.inr ⟨rfl, ?_⟩
    cases hb : digs (r.drop (k + 1)) with
    | false => rfl
    | true =>
      exfalso
      obtain ⟨a1, a2⟩ := digs_parts hd
      obtain ⟨b1, b2⟩ := digs_parts hb
      have hl : (r.take k).length = k := by rw [List.length_take]; omega
      have er : r = r.take k ++ 46 :: r.drop (k + 1) := by
        rw [← hc, ← drop_cons hk, List.take_append_drop]
      have e : run isDig r = k := by
        rw [er, irun_app a1, hl]; rfl
      have eb := irun_self b1
      rw [List.length_drop] at eb b2
      rcases h with h | ⟨h, hx⟩ | ⟨h, h1, h46, hx⟩
      · omega
      · simp only [e] at hx
        rw [hc] at hx
        exact hx rfl
      · rw [e, eb] at hx
        omega
/- a text is a decimal's, or it is none. -/
theorem shapes (r : List UInt8) : Bad r ∨ (r.all isDig = true ∧ 1 ≤ r.length) ∨ ∃ a b, r = a ++ 46 :: b ∧ a.all isDig = true ∧ b.all isDig = true ∧ 1 ≤ a.length ∧ 1 ≤ b.length := by
  by_cases h0 : run isDig r = 0
  · exact Or.inl (Or.inl h0)
  by_cases hl : run isDig r < r.length
  · by_cases h46 : r[run isDig r].toNat = 46
    · by_cases hb : run isDig (r.drop (run isDig r + 1)) = 0 ∨ run isDig r + 1 + run isDig (r.drop (run isDig r + 1)) < r.length
      · exact Or.inl (Or.inr (Or.inr ⟨hl, by omega, h46, hb⟩))
      · refine Or.inr (Or.inr ⟨r.take (run isDig r), r.drop (run isDig r + 1), ?_, irun_take r, ?_, ?_, ?_⟩)
        · have : r[run isDig r] = 46 := UInt8.toNat.inj (by rw [h46]; rfl)
          rw [← this, ← drop_cons hl, List.take_append_drop]
        · have h1 := irun_take (r.drop (run isDig r + 1))
          have h2 := run_le isDig (r.drop (run isDig r + 1))
          rw [List.length_drop] at h2
          rw [List.take_of_length_le (by rw [List.length_drop]; omega)] at h1
          exact h1
        · rw [List.length_take]; omega
        · have h2 := run_le isDig (r.drop (run isDig r + 1))
          omega
    · exact Or.inl (Or.inr (Or.inl ⟨hl, h46⟩))
  · have h1 := irun_take r
    have h2 := run_le isDig r
    rw [List.take_of_length_le (by omega)] at h1
    exact Or.inr (Or.inl ⟨h1, by omega⟩)
end Go.Proofs.YtlcckhlkmnnjdabDoor

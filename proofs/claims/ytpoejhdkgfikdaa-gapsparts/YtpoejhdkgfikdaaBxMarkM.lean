/- The mathematics of marks: sorted, each once. -/
import Derived.Test.YtpoejhdkgfikdaaBxMem
import Derived.Lib.SlicesCompact
import Derived.Lib.OwnBridge
namespace Go.Proofs.Ytpoejhdkgfikdaa
open Go.RowKit
set_option linter.unusedVariables false

def isM (l : List Bx) (i : Nat) (lo hi : Int) (M : List Int) : Prop :=
  M.length ≤ 9 ∧ lo ∈ M ∧ (∀ x, x ∈ M → lo ≤ x ∧ x ≤ hi) ∧ (∀ b, b ∈ l → lo < ix b.2 i + 1 → ix b.2 i + 1 ≤ hi → ix b.2 i + 1 ∈ M) ∧ M.Pairwise (· ≤ ·)
theorem compact_sub (zs : List Int) : List.Sublist (Lib.compact zs) zs := by
  unfold Lib.compact Lib.compactUpTo
  have h1 : List.Sublist ((List.range zs.length).filter (Lib.keeps zs.toArray)) (List.range zs.length) := List.filter_sublist
  have h2 := h1.map (fun j => zs.toArray[j]!)
  have h3 := Lib.range_map_get zs.toArray
  simp only [List.size_toArray] at h3
  rw [h3] at h2
  exact h2
theorem compact_mem {zs : List Int} {x : Int} : x ∈ Lib.compact zs ↔ x ∈ zs := by
  constructor
  · exact fun h => (compact_sub zs).subset h
  · intro h
    have hex : ∃ j, ∃ h : j < zs.length, zs[j] = x := List.getElem_of_mem h
    have hmin : ∀ n : Nat, (∃ j, ∃ h : j < zs.length, j ≤ n ∧ zs[j] = x) → ∃ j, ∃ h : j < zs.length, zs[j] = x ∧ ∀ k (hk : k < j), zs[k] ≠ x := by
      intro n
      induction n with
      | zero =>
        rintro ⟨j, hj, h0, hx⟩
        exact ⟨j, hj, hx, fun k hk => by omega⟩
      | succ n ih =>
        rintro ⟨j, hj, h0, hx⟩
        by_cases hk : ∃ k, ∃ h : k < j, zs[k] = x
        · obtain ⟨k, hk, hx'⟩ := hk
          exact ih ⟨k, by omega, by omega, hx'⟩
        · exact ⟨j, hj, hx, fun k hkj e => hk ⟨k, hkj, e⟩⟩
    obtain ⟨j0, hj0, hx0⟩ := hex
    obtain ⟨j, hj, hx, hf⟩ := hmin j0 ⟨j0, hj0, Nat.le_refl _, hx0⟩
    unfold Lib.compact Lib.compactUpTo
    refine List.mem_map.2 ⟨j, List.mem_filter.2 ⟨List.mem_range.2 hj, ?_⟩, ?_⟩
    · by_cases h0 : j = 0
      · subst h0; exact Lib.keeps_lt_one _ 0 (by omega)
      · refine Lib.keeps_pos ?_
        have h1 := hf (j - 1) (by omega)
        rw [getElem!_pos _ j (by simpa using hj), getElem!_pos _ (j - 1) (by simp; omega)]
        simp only [List.getElem_toArray]
        rw [hx]
        exact fun e => h1 e.symm
    · rw [getElem!_pos _ j (by simpa using hj)]
      simpa using hx
theorem isM_sorted {l : List Bx} {i : Nat} {lo hi : Int} {ms : List Int} (h1 : ms.length ≤ 9) (h2 : lo ∈ ms) (h3 : ∀ x, x ∈ ms → lo ≤ x ∧ x ≤ hi) (h4 : ∀ b, b ∈ l → lo < ix b.2 i + 1 → ix b.2 i + 1 ≤ hi → ix b.2 i + 1 ∈ ms) :
    isM l i lo hi (Lib.compact (ms.mergeSort fun x y => decide (x ≤ y))) := by
  have hm : ∀ x, x ∈ Lib.compact (ms.mergeSort fun x y => decide (x ≤ y)) ↔ x ∈ ms := fun x => by rw [compact_mem, List.mem_mergeSort]
  refine ⟨?_, (hm _).2 h2, fun x hx => h3 x ((hm x).1 hx), fun b hb c1 c2 => (hm _).2 (h4 b hb c1 c2), ?_⟩
  · have := (compact_sub (ms.mergeSort fun x y => decide (x ≤ y))).length_le
    rw [List.length_mergeSort] at this
    omega
  · refine List.Pairwise.sublist (compact_sub _) ?_
    have := List.pairwise_mergeSort (le := fun x y : Int => decide (x ≤ y)) (fun a b c h1 h2 => by simp at h1 h2 ⊢; omega) (fun a b => by simp; omega) ms
    exact this.imp (fun h => by simpa using h)
theorem own_below {base : Nat} {e : TypeId} {size n : Nat} {v : Value} {xs : List Value} {w w' : World} (h : w.ownsRow base e size v n xs) (b : Below w.heap.size w w') : w'.ownsRow base e size v n xs := by
  refine ⟨h.1, ?_⟩
  rcases h.2 with h0 | ⟨g, cap, cur, hv, hB, hg, hr⟩
  · exact Or.inl h0
  · exact Or.inr ⟨g, cap, cur, hv, hB, (b.block g (Array.getElem?_eq_some_iff.1 hg).1).trans hg, hr⟩
/- an own row that is not nil, as a row of numbers. -/
theorem own_row {base n : Nat} {v : Value} {xs : List Int} {w : World} {Q : Nat → Prop} (h : w.ownsRow base 3 1 v n (xs.map (Value.int .i64))) (hv : v ≠ .slice none 0 0) (hq : ∀ g, base ≤ g → v.ownBlock = some g → Q g) : RowI Q w v xs ∧ n = xs.length := by
  obtain ⟨g, cap, rfl, hb, hg, hn, hm, hl, hH⟩ := Lib.holds_of_ownsRow h hv
  refine ⟨⟨some ⟨g, 0, none⟩, cap, by rw [hl], by omega, fun i hi => ⟨g, 0, rfl, hq g hb rfl, hg, ?_⟩⟩, hl.symm⟩
  have := (hH i (by simpa using hi)).1
  rw [ix_get hi]
  simpa [getElem!_pos, hi] using this
end Go.Proofs.Ytpoejhdkgfikdaa

/- What a text of a value, and a value, may be: plain reckoning. -/
import Derived.Test.YthccmlkcdinfdacTree
namespace Go.Proofs.Ythccmlkcdinfdac
open Go.RowKit

def okC (c : UInt8) : Bool := decide (32 ≤ (c.toNat : Int) ∧ (c.toNat : Int) ≤ 126 ∧ (c.toNat : Int) ≠ 34)
def textB (t : ByteArray) : Bool := decide (t.size ≤ 16) && t.data.toList.all okC

theorem okC_mk {c : UInt8} (h1 : 32 ≤ (c.toNat : Int)) (h2 : (c.toNat : Int) ≤ 126) (h3 : ¬ (c.toNat : Int) = 34) : okC c = true := decide_eq_true ⟨h1, h2, h3⟩
theorem okC_no {c : UInt8} (h : (c.toNat : Int) < 32 ∨ 126 < (c.toNat : Int) ∨ (c.toNat : Int) = 34) : okC c = false := decide_eq_false (by omega)
theorem take_snoc (s : ByteArray) (k : Nat) (h : k < s.size) : s.data.toList.take (k + 1) = s.data.toList.take k ++ [s[k]] := by
  rw [List.take_succ_eq_append_getElem (by simpa using h)]; rfl
theorem all_snoc {s : ByteArray} {k : Nat} (h : k < s.size) (h1 : (s.data.toList.take k).all okC = true) (h2 : okC s[k] = true) : (s.data.toList.take (k + 1)).all okC = true := by
  rw [take_snoc s k h, List.all_append, h1]; simp [h2]
theorem all_bad {s : ByteArray} {k : Nat} (h : k < s.size) (h2 : okC s[k] = false) : s.data.toList.all okC = false := by
  rw [Bool.eq_false_iff]
  intro h3
  rw [List.all_eq_true] at h3
  have := h3 s[k] (by rw [show s[k] = s.data.toList[k]'(by simpa using h) from rfl]; exact List.getElem_mem _)
  rw [h2] at this; cases this
theorem all_full {s : ByteArray} {k : Nat} (h : ¬ k < s.size) (h1 : (s.data.toList.take k).all okC = true) : s.data.toList.all okC = true := by
  rwa [List.take_of_length_le (by simp; omega)] at h1

theorem len0 (n : Nat) : ((n : Int) == 0) = decide (n = 0) := by
  by_cases h : n = 0
  · subst h; rfl
  · simp [h]

theorem bytes_ext {t t' : ByteArray} (h : t.toList = t'.toList) : t = t' := by
  rw [ByteArray.toList_eq, ByteArray.toList_eq] at h
  cases t; cases t'
  congr 1
  exact Array.toList_inj.1 h

/- nothing is set but what the kind names. -/
def aloneB (k : Int) (b : Bool) (m s : Int) (t : ByteArray) (len : Nat) : Bool :=
  (decide (k = 1) || !b) && ((decide (k = 2) || (decide (m = 0) && decide (s = 0))) && ((decide (k = 3) || decide (t.toList = [])) && (decide (k = 4) || decide (len = 0))))

def VT.okB : VT → Nat → Bool
  | .none, _ => false
  | .mk k b m s t _ len _ kid, n => aloneB k b m s t len &&
      (if k = 0 ∨ k = 1 then true else if k = 2 then isB m s else if k = 3 then textB t else if k = 4 then decide (n ≠ 0) && (decide (len ≤ 8) && (List.range len).all fun i => (kid i).okB (n - 1)) else false)

theorem alone_t {k : Int} {b : Bool} {m s : Int} {t : ByteArray} {len : Nat} (h : aloneB k b m s t len = true) :
    (k ≠ 1 → b = false) ∧ (k ≠ 2 → m = 0 ∧ s = 0) ∧ (k ≠ 3 → t.toList = []) ∧ (k ≠ 4 → len = 0) := by
  simp only [aloneB, Bool.and_eq_true, Bool.or_eq_true, decide_eq_true_eq, Bool.not_eq_true'] at h
  obtain ⟨h1, h2, h3, h4⟩ := h
  exact ⟨fun e => h1.resolve_left e, fun e => h2.resolve_left e, fun e => h3.resolve_left e, fun e => h4.resolve_left e⟩
theorem alone_f {k : Int} {b : Bool} {m s : Int} {t : ByteArray} {len : Nat} (h : aloneB k b m s t len = false) :
    (k ≠ 1 ∧ b = true) ∨ (k ≠ 2 ∧ (m ≠ 0 ∨ s ≠ 0)) ∨ (k ≠ 3 ∧ ¬ t.toList = []) ∨ (k ≠ 4 ∧ len ≠ 0) := by
  apply Classical.byContradiction
  intro hn
  have hn := not_or.1 hn
  have ⟨n1, hn⟩ := hn
  have hn := not_or.1 hn
  have ⟨n2, hn⟩ := hn
  have ⟨n3, n4⟩ := not_or.1 hn
  rw [Bool.eq_false_iff] at h
  apply h
  simp only [aloneB, Bool.and_eq_true, Bool.or_eq_true, decide_eq_true_eq, Bool.not_eq_true']
  refine ⟨?_, ?_, ?_, ?_⟩
  · by_cases e : k = 1
    · exact Or.inl e
    · cases b
      · exact Or.inr rfl
      · exact absurd ⟨e, rfl⟩ n1
  · by_cases e : k = 2
    · exact Or.inl e
    · exact Or.inr (by omega)
  · by_cases e : k = 3
    · exact Or.inl e
    · refine Or.inr (Classical.byContradiction fun hc => n3 ⟨e, hc⟩)
  · by_cases e : k = 4
    · exact Or.inl e
    · exact Or.inr (by omega)
theorem all_range {n : Nat} {f : Nat → Bool} (h : ∀ i, i < n → f i = true) : (List.range n).all f = true := by
  rw [List.all_eq_true]; exact fun i hi => h i (List.mem_range.1 hi)
theorem all_range_no {n i : Nat} {f : Nat → Bool} (hi : i < n) (h : f i = false) : (List.range n).all f = false := by
  rw [Bool.eq_false_iff]
  intro h2
  rw [List.all_eq_true] at h2
  have := h2 i (List.mem_range.2 hi)
  rw [h] at this; cases this
theorem all_range_get {n i : Nat} {f : Nat → Bool} (h : (List.range n).all f = true) (hi : i < n) : f i = true := (List.all_eq_true.1 h) i (List.mem_range.2 hi)

end Go.Proofs.Ythccmlkcdinfdac

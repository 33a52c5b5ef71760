/- The order of values: plain reckoning. -/
import Derived.Test.YthccmlkcdinfdacVMath
import Derived.Test.YthccmlkcdinfdacMath6
import Derived.Lib.Bytealg
namespace Go.Proofs.Ythccmlkcdinfdac
open Go.RowKit

def cmpS (t t' : ByteArray) : Int := Lib.compareBytes t.data.toList t'.data.toList
def cmpB (b b' : Bool) : Int := if b = b' then 0 else if b' = true then -1 else 1
def lexF (f : Nat → Int) (z : Int) (n : Nat) : Int := match (List.range n).find? (fun i => f i != 0) with
  | some i => f i
  | none => z

theorem lex_hit {f : Nat → Int} (z : Int) {n j : Nat} (hj : j < n) (h0 : ∀ i, i < j → f i = 0) (h : f j ≠ 0) : lexF f z n = f j := by
  have : (List.range n).find? (fun i => f i != 0) = some j := List.find?_range_eq_some.2 ⟨by simpa using h, List.mem_range.2 hj, fun i hi => by simp [h0 i hi]⟩
  unfold lexF; rw [this]
theorem lex_none {f : Nat → Int} (z : Int) {n : Nat} (h0 : ∀ i, i < n → f i = 0) : lexF f z n = z := by
  have : (List.range n).find? (fun i => f i != 0) = none := List.find?_range_eq_none.2 (fun i hi => by simp [h0 i hi])
  unfold lexF; rw [this]
theorem lex_cases (f : Nat → Int) (z : Int) (n : Nat) : (∃ j, j < n ∧ (∀ i, i < j → f i = 0) ∧ f j ≠ 0 ∧ lexF f z n = f j) ∨ ((∀ i, i < n → f i = 0) ∧ lexF f z n = z) := by
  cases h : (List.range n).find? (fun i => f i != 0) with
  | none =>
    have h0 : ∀ i, i < n → f i = 0 := fun i hi => by simpa using List.find?_range_eq_none.1 h i hi
    exact Or.inr ⟨h0, lex_none z h0⟩
  | some j =>
    obtain ⟨h1, h2, h3⟩ := List.find?_range_eq_some.1 h
    have h0 : ∀ i, i < j → f i = 0 := fun i hi => by simpa using h3 i hi
    have h1 : f j ≠ 0 := by simpa using h1
    exact Or.inl ⟨j, List.mem_range.1 h2, h0, h1, lex_hit z (List.mem_range.1 h2) h0 h1⟩

def VT.cmp : VT → VT → Int
  | .mk k b m s t _ len _ kid, .mk k' b' m' s' t' _ len' _ kid' =>
    if k ≠ k' then cmpI k k' else if k = 1 then cmpB b b' else if k = 2 then cmpI (upM m s 4) (upM m' s' 4) else if k = 3 then cmpS t t' else
    lexF (fun i => (kid i).cmp (kid' i)) (cmpI len len') (min len len')
  | _, _ => 0

theorem cmp_dec (m s n t : Int) (ha : isB m s = true) (hb : isB n t = true) : cmpI (upM m s (max s t)) (upM n t (max s t)) = cmpI (upM m s 4) (upM n t 4) := by
  have ⟨m1, m2, s1, s2⟩ := isB_bd ha
  have ⟨n1, n2, t1, t2⟩ := isB_bd hb
  rw [up_scale m s (max s t) (by omega) (by omega), up_scale n t (max s t) (by omega) (by omega)]
  exact (cmp_scale _ _ _ (p10_pos _)).symm

theorem cb_self : ∀ a : List UInt8, Lib.compareBytes a a = 0
  | [] => rfl
  | x :: a => by unfold Lib.compareBytes; rw [if_neg (UInt8.lt_irrefl x), if_neg (UInt8.lt_irrefl x)]; exact cb_self a
theorem cb_neg : ∀ a b : List UInt8, Lib.compareBytes b a = -Lib.compareBytes a b
  | [], [] => rfl
  | [], _ :: _ => rfl
  | _ :: _, [] => rfl
  | x :: a, y :: b => by
    unfold Lib.compareBytes
    by_cases h1 : x < y
    · have h2 : ¬ y < x := fun h => UInt8.lt_asymm h1 h
      rw [if_neg h2, if_pos h1, if_pos h1]; rfl
    · by_cases h2 : y < x
      · rw [if_pos h2, if_neg h1, if_pos h2]
      · rw [if_neg h2, if_neg h1, if_neg h1, if_neg h2]; exact cb_neg a b
theorem cb_zero : ∀ a b : List UInt8, Lib.compareBytes a b = 0 → a = b
  | [], [], _ => rfl
  | [], _ :: _, h => by simp [Lib.compareBytes] at h
  | _ :: _, [], h => by simp [Lib.compareBytes] at h
  | x :: a, y :: b, h => by
    unfold Lib.compareBytes at h
    by_cases h1 : x < y
    · rw [if_pos h1] at h; omega
    · by_cases h2 : y < x
      · rw [if_neg h1, if_pos h2] at h; omega
      · rw [if_neg h1, if_neg h2] at h
        rw [cb_zero a b h, UInt8.le_antisymm (UInt8.not_lt.1 h2) (UInt8.not_lt.1 h1)]
theorem cb_bd : ∀ a b : List UInt8, -1 ≤ Lib.compareBytes a b ∧ Lib.compareBytes a b ≤ 1
  | [], [] => by simp [Lib.compareBytes]
  | [], _ :: _ => by simp [Lib.compareBytes]
  | _ :: _, [] => by simp [Lib.compareBytes]
  | x :: a, y :: b => by
    unfold Lib.compareBytes
    by_cases h1 : x < y
    · rw [if_pos h1]; omega
    · by_cases h2 : y < x
      · rw [if_neg h1, if_pos h2]; omega
      · rw [if_neg h1, if_neg h2]; exact cb_bd a b
theorem cb_less : ∀ a b : List UInt8, Op.bytesLess a b = decide (Lib.compareBytes a b = -1)
  | [], [] => rfl
  | [], _ :: _ => rfl
  | _ :: _, [] => rfl
  | x :: a, y :: b => by
    unfold Lib.compareBytes Op.bytesLess
    by_cases h1 : x < y
    · simp [h1]
    · by_cases h2 : y < x
      · have : ¬ x = y := by rintro rfl; exact UInt8.lt_irrefl x h2
        simp [h1, h2, this]
      · have e : x = y := UInt8.le_antisymm (UInt8.not_lt.1 h2) (UInt8.not_lt.1 h1)
        subst e
        have ih := cb_less a b
        simp [ih]
theorem cb_trans : ∀ a b c : List UInt8, Lib.compareBytes a b ≤ 0 → Lib.compareBytes b c ≤ 0 → Lib.compareBytes a c ≤ 0
  | [], _, [], _, _ => by simp [Lib.compareBytes]
  | [], _, _ :: _, _, _ => by simp [Lib.compareBytes]
  | _ :: _, [], _, h, _ => by simp [Lib.compareBytes] at h
  | _ :: _, _ :: _, [], _, h => by simp [Lib.compareBytes] at h
  | x :: a, y :: b, z :: c, h1, h2 => by
    unfold Lib.compareBytes at h1 h2 ⊢
    by_cases p : x < y
    · by_cases q : y < z
      · rw [if_pos (UInt8.lt_trans p q)]; omega
      · by_cases q' : z < y
        · rw [if_neg q, if_pos q'] at h2; omega
        · have e : y = z := UInt8.le_antisymm (UInt8.not_lt.1 q') (UInt8.not_lt.1 q)
          subst e; rw [if_pos p]; omega
    · by_cases p' : y < x
      · rw [if_neg p, if_pos p'] at h1; omega
      · have e : x = y := UInt8.le_antisymm (UInt8.not_lt.1 p') (UInt8.not_lt.1 p)
        subst e
        rw [if_neg p, if_neg p] at h1
        by_cases q : x < z
        · rw [if_pos q]; omega
        · by_cases q' : z < x
          · rw [if_neg q, if_pos q'] at h2; omega
          · rw [if_neg q, if_neg q'] at h2 ⊢
            exact cb_trans a b c h1 h2
end Go.Proofs.Ythccmlkcdinfdac

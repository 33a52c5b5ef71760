/- Three truth values: both and either do not hang on order; not both is either not. -/
import Derived.Test.YthccmlkcdinfdacVLeaf
import Derived.Test.YthccmlkcdinfdacVOrd
namespace Go.Proofs.Ythccmlkcdinfdac
open Go.RowKit

theorem andK_comm (a b c d : Bool) : andK b a d c = andK a b c d := by cases a <;> cases b <;> cases c <;> cases d <;> rfl
theorem andB_comm (a b c d : Bool) : andB b a d c = andB a b c d := by cases a <;> cases b <;> cases c <;> cases d <;> rfl
theorem orK_comm (a b c d : Bool) : orK b a d c = orK a b c d := by cases a <;> cases b <;> cases c <;> cases d <;> rfl
theorem orB_comm (a b : Bool) : orB b a = orB a b := by cases a <;> cases b <;> rfl

theorem morgan (k k' : Int) (b b' : Bool) :
    orK (trB (notK k) (notB k b)) (trB (notK k') (notB k' b')) (unB (notK k) (notB k b)) (unB (notK k') (notB k' b')) = notK (andK (unB k b) (unB k' b') (trB k b) (trB k' b')) ∧
    orB (trB (notK k) (notB k b)) (trB (notK k') (notB k' b')) = notB (andK (unB k b) (unB k' b') (trB k b) (trB k' b')) (andB (unB k b) (unB k' b') (trB k b) (trB k' b')) := by
  by_cases h : k = 1 <;> by_cases h' : k' = 1 <;> cases b <;> cases b' <;> simp [trB, unB, notK, notB, andK, andB, orK, orB, h, h']

theorem not_not (b : Bool) : notK (notK 1) = 1 ∧ notB (notK 1) (notB 1 b) = b := by cases b <;> exact ⟨rfl, rfl⟩

theorem nil_of {t : ByteArray} (h : t.toList = []) : t = ⟨#[]⟩ := by
  rw [ByteArray.toList_eq] at h
  cases t
  congr 1
  simpa using h

theorem same_bool {b : Bool} {m s : Int} {t : ByteArray} {a : Option Addr} {len cap : Nat} {kid : Nat → VT} {n : Nat} (h : (VT.mk 1 b m s t a len cap kid).okB n = true) : (twig 1 b).same (VT.mk 1 b m s t a len cap kid) = true := by
  obtain ⟨-, a2, a3, a4⟩ := alone_t (okB_kind h).1
  obtain ⟨rfl, rfl⟩ := a2 (by omega)
  obtain rfl := nil_of (a3 (by omega))
  obtain rfl := a4 (by omega)
  unfold twig VT.same
  simp
end Go.Proofs.Ythccmlkcdinfdac

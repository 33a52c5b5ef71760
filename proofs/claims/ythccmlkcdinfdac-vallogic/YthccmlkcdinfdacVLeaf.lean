/- Two values that are a kind and a Bool alone: field by field. -/
import Derived.Test.YthccmlkcdinfdacVLogMath
import Derived.Test.YthccmlkcdinfdacVSame
namespace Go.Proofs.Ythccmlkcdinfdac
open Go.RowKit

def twig (k : Int) (b : Bool) : VT := .mk k b 0 0 ⟨#[]⟩ none 0 0 (fun _ => .none)
theorem twig_in {k : Int} (b : Bool) (h : k = 0 ∨ k = 1) (w : World) : (twig k b).In w := by
  refine ⟨⟨?_, rfl, rfl, Nat.zero_le _, Nat.le_refl _, Nat.zero_le _⟩, fun i hi => absurd hi (Nat.not_lt_zero _)⟩
  rcases h with rfl | rfl <;> rfl
theorem same_leaf (k : Int) (b : Bool) (w : World) (h : k = 0 ∨ k = 1) :
    Calls Try.prog 10 #[tval k b, tval k b] w fun e w' => e = .returned (.bool true) ∧ Below w.heap.size w w' := by
  have H := same_any (twig k b) (twig k b) w (twig_in b h w) (twig_in b h w)
  rw [show (twig k b).same (twig k b) = true by unfold twig VT.same; simp] at H
  exact H
theorem andK_01 (a b c d : Bool) : andK a b c d = 0 ∨ andK a b c d = 1 := by cases a <;> cases b <;> cases c <;> cases d <;> decide
theorem orK_01 (a b c d : Bool) : orK a b c d = 0 ∨ orK a b c d = 1 := by cases a <;> cases b <;> cases c <;> cases d <;> decide
theorem notK_01 (k : Int) : notK k = 0 ∨ notK k = 1 := by unfold notK; split <;> simp
end Go.Proofs.Ythccmlkcdinfdac

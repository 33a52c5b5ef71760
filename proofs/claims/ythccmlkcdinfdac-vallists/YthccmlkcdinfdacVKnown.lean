/- What the laws know: false and anything is false, true is true and may be. -/
import Derived.Test.YthccmlkcdinfdacVLogic
import Derived.Test.YthccmlkcdinfdacVIs
namespace Go.Proofs.Ythccmlkcdinfdac
open Go.RowKit

set_option maxHeartbeats 400000 in
theorem no_any (w : World) :
    Calls Try.prog 23 #[] w fun e w' => e = .returned (tval 1 false) ∧ Below w.heap.size w w' := by
  go_enter Try.func23, Try.ntmps23
  go_wp2_with fail
  exact bodyPost_ret (v := tval 1 false) (by simp [results, Try.results23, go_sem, tval]) rfl ⟨rfl, below1 _ _⟩
set_option maxHeartbeats 400000 in
theorem yes_any (w : World) :
    Calls Try.prog 25 #[] w fun e w' => e = .returned (tval 1 true) ∧ Below w.heap.size w w' := by
  go_enter Try.func25, Try.ntmps25
  go_wp2_with fail
  exact bodyPost_ret (v := tval 1 true) (by simp [results, Try.results25, go_sem, tval]) rfl ⟨rfl, below1 _ _⟩

/- a kind and a Bool as a tree. -/
def leaf (k : Int) (b : Bool) : VT := .mk k b 0 0 ⟨#[]⟩ none 0 0 (fun _ => .none)
theorem leaf_in {k : Int} (b : Bool) (h0 : 0 ≤ k) (h1 : k ≤ 4) (w : World) : (leaf k b).In w := by
  refine ⟨⟨?_, rfl, rfl, Nat.zero_le _, Nat.le_refl _, Nat.zero_le _⟩, fun i hi => absurd hi (Nat.not_lt_zero _)⟩
  have hk : k = 0 ∨ k = 1 ∨ k = 2 ∨ k = 3 ∨ k = 4 := by omega
  rcases hk with rfl | rfl | rfl | rfl | rfl <;> rfl

theorem leaf_ok (b : Bool) (n : Nat) : (leaf 1 b).okB n = true := by
  unfold leaf
  rw [okB_yes n (by simp [aloneB])]
  rfl

set_option maxHeartbeats 1000000 in
theorem known_any (w : World) :
    Calls Try.prog 11 #[] w fun e w' => e = .returned (.bool true) ∧ Below w.heap.size w w' := by
  go_enter Try.func11, Try.ntmps11
  go_wp2_with fail
  refine (no_any _).mono ?_
  rintro e w1 ⟨rfl, k1⟩
  unfold tval
  go_wp2_with fail
  refine (and_any _ _ _ _ _ _ _ _ _ _ _ _ _ _ _ _ _).mono ?_
  rintro e w2 ⟨rfl, k2⟩
  rw [show tval (andK (unB 1 false) (unB 0 false) (trB 1 false) (trB 0 false)) (andB (unB 1 false) (unB 0 false) (trB 1 false) (trB 0 false)) = tval 1 false from rfl]
  unfold tval
  have b2 := bstep k1 k2
  clear k1 k2
  go_wp2_with fail
  refine (yes_any _).mono ?_
  rintro e w3 ⟨rfl, k3⟩
  unfold tval
  go_wp2_with fail
  refine (truth_any _ _ _ _ _ _ _ _ _).mono ?_
  rintro e w4 ⟨rfl, k4⟩
  rw [show trB 1 true = true from rfl]
  have b4 := bstep k3 k4
  clear k3 k4
  go_wp2_with fail
  refine (yes_any _).mono ?_
  rintro e w5 ⟨rfl, k5⟩
  unfold tval
  have b5 := bstep b4 k5
  clear b4 k5
  go_wp2_with fail
  refine (vis_any (leaf 1 true) _ (leaf_in true (by omega) (by omega) _)).mono ?_
  rintro e w6 ⟨rfl, k6⟩
  rw [leaf_ok]
  go_wp2_with fail
  go_ret
  exact ⟨rfl, bstep (bstep b2 (below1 _ _)) (bstep b5 k6)⟩
end Go.Proofs.Ythccmlkcdinfdac

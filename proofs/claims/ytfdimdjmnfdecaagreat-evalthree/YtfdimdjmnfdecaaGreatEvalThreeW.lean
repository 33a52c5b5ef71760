/- The walk of EvalThree: and, or, not of what is unknown is known just where the rest decides. -/
import Derived.Test.YtfdimdjmnfdecaaGreatNBD
import Derived.Test.YtfdimdjmnfdecaaGreatNBE
import Derived.Test.YtfdimdjmnfdecaaGreatNBF
set_option linter.unusedVariables false
set_option linter.unusedSimpArgs false
set_option maxHeartbeats 8000000
namespace Go.Proofs.YtfdimdjmnfdecaaGreat
open Go.RowKit

theorem evalThree_walk (a b : Int) (_ : (Lit.int .i64 a).wf = true) (_ : (Lit.int .i64 b).wf = true) (w : World) :
  Calls Tryz.prog 8 #[.int .i64 a, .int .i64 b] w fun e w' => e = .returned (.bool true) ∧ Below w.heap.size w w' := by
 by_cases h1 : a < 0
 ·go_enter Tryz.func8, Tryz.ntmps8
  go_wp2_with fail
  go_ret
  exact ⟨rfl, Below.refl _ _⟩
 by_cases h2 : 2 < a
 ·go_enter Tryz.func8, Tryz.ntmps8
  go_wp2_with fail
  go_ret
  exact ⟨rfl, Below.refl _ _⟩
 by_cases h3 : b < 0
 ·go_enter Tryz.func8, Tryz.ntmps8
  go_wp2_with fail
  go_ret
  exact ⟨rfl, Below.refl _ _⟩
 by_cases h4 : 2 < b
 ·go_enter Tryz.func8, Tryz.ntmps8
  go_wp2_with fail
  go_ret
  exact ⟨rfl, Below.refl _ _⟩
 have ha : a = 0 ∨ a = 1 ∨ a = 2 := by omega
 have hb : b = 0 ∨ b = 1 ∨ b = 2 := by omega
 rcases ha with rfl | rfl | rfl <;> rcases hb with rfl | rfl | rfl
 ·exact three_00 w
 ·exact three_01 w
 ·exact three_02 w
 ·exact three_10 w
 ·exact three_11 w
 ·exact three_12 w
 ·exact three_20 w
 ·exact three_21 w
 ·exact three_22 w
end Go.Proofs.YtfdimdjmnfdecaaGreat

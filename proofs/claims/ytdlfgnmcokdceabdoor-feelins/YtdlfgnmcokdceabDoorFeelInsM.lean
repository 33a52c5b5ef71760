/- What the texts of FeelIns are parsed to. (Printed by mkins.py.) -/
import Derived.Test.YtdlfgnmcokdceabDoorGH
import Derived.Test.YtdlfgnmcokdceabDoorGI
import Derived.Test.YtdlfgnmcokdceabDoorGQ
import Derived.Deep.DeepCutAuto
namespace Go.Proofs.YtdlfgnmcokdceabDoor
open Go.RowKit
set_option linter.unusedVariables false
theorem onetwo_t (w : World) : Calls Tryd.prog 11 #[.bool true] w fun e w' => e = .returned (.int .i64 1) ∧ w' = w := by
  go_enter Tryd.func11, Tryd.ntmps11
  go_wp2_with fail
  go_ret
  exact ⟨rfl, rfl⟩
theorem onetwo_f (w : World) : Calls Tryd.prog 11 #[.bool false] w fun e w' => e = .returned (.int .i64 0) ∧ w' = w := by
  go_enter Tryd.func11, Tryd.ntmps11
  go_wp2_with fail
  go_ret
  exact ⟨rfl, rfl⟩
/- what the law asks of the one text and of the other. -/
def insB (lo hi : Bool) (X Y : XT × Int × Int) : Bool :=
  decide (X.2.2 = 0) && decide (Y.2.2 = 0) && X.1.same Y.1 && match X.1 with | .mk k b m s t l h a n c kid => decide (k = 11) && (l == lo) && (h == hi) && decide (n = 3) | .none => false
theorem ins_calc_1_false : insB true true (parseT [120, 32, 105, 110, 32, 91, 49, 46, 46, 121, 32, 43, 32, 50, 93]) (parseT [120, 32, 105, 110, 32, 91, 49, 46, 46, 121, 32, 43, 32, 50, 93]) = true := by decide +kernel
theorem ins_calc_1_true : insB true true (parseT [40, 40, 120, 32, 105, 110, 32, 91, 49, 46, 46, 121, 32, 43, 32, 50, 93, 41, 41]) (parseT [120, 32, 105, 110, 32, 91, 49, 46, 46, 121, 32, 43, 32, 50, 93]) = true := by decide +kernel
theorem ins_calc_2_false : insB true false (parseT [120, 32, 105, 110, 32, 91, 49, 46, 46, 121, 32, 43, 32, 50, 41]) (parseT [120, 32, 105, 110, 32, 91, 49, 46, 46, 121, 32, 43, 32, 50, 41]) = true := by decide +kernel
theorem ins_calc_2_true : insB true false (parseT [40, 40, 120, 32, 105, 110, 32, 91, 49, 46, 46, 121, 32, 43, 32, 50, 41, 41, 41]) (parseT [120, 32, 105, 110, 32, 91, 49, 46, 46, 121, 32, 43, 32, 50, 41]) = true := by decide +kernel
theorem ins_calc_3_false : insB false true (parseT [120, 32, 105, 110, 32, 40, 49, 46, 46, 121, 32, 43, 32, 50, 93]) (parseT [120, 32, 105, 110, 32, 40, 49, 46, 46, 121, 32, 43, 32, 50, 93]) = true := by decide +kernel
theorem ins_calc_3_true : insB false true (parseT [40, 40, 120, 32, 105, 110, 32, 40, 49, 46, 46, 121, 32, 43, 32, 50, 93, 41, 41]) (parseT [120, 32, 105, 110, 32, 40, 49, 46, 46, 121, 32, 43, 32, 50, 93]) = true := by decide +kernel
theorem ins_calc_4_false : insB false false (parseT [120, 32, 105, 110, 32, 40, 49, 46, 46, 121, 32, 43, 32, 50, 41]) (parseT [120, 32, 105, 110, 32, 40, 49, 46, 46, 121, 32, 43, 32, 50, 41]) = true := by decide +kernel
theorem ins_calc_4_true : insB false false (parseT [40, 40, 120, 32, 105, 110, 32, 40, 49, 46, 46, 121, 32, 43, 32, 50, 41, 41, 41]) (parseT [120, 32, 105, 110, 32, 40, 49, 46, 46, 121, 32, 43, 32, 50, 41]) = true := by decide +kernel
end Go.Proofs.YtdlfgnmcokdceabDoor

/- The walk of FeelIns: ends of ranges belong to them as their brackets say. (Printed by mkins.py.) -/
import Derived.Test.YtdlfgnmcokdceabDoorFeelIns1
import Derived.Test.YtdlfgnmcokdceabDoorFeelIns2
import Derived.Test.YtdlfgnmcokdceabDoorFeelIns3
import Derived.Test.YtdlfgnmcokdceabDoorFeelIns4
namespace Go.Proofs.YtdlfgnmcokdceabDoor
open Go.RowKit
set_option linter.unusedVariables false
theorem feelIns_walk (lo hi ar : Bool) (w : World) (sig : Sig w) :
    Calls Tryd.prog 5 #[.bool lo, .bool hi, .bool ar] w fun e w' => e = .returned (.bool true) ∧ Below w.heap.size w w' := by
  cases lo <;> cases hi
  · exact ins_4 ar w sig
  · exact ins_3 ar w sig
  · exact ins_2 ar w sig
  · exact ins_1 ar w sig
end Go.Proofs.YtdlfgnmcokdceabDoor

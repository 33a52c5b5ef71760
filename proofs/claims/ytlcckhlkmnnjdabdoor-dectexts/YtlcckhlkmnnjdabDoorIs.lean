/- The contracts of dec's Fit, for all arguments (Is: DIs). -/
import Derived.Test.YtlcckhlkmnnjdabDoorFit
import Derived.Test.YtlcckhlkmnnjdabDoorDIs
import Derived.Deep.QuietTactic
import Derived.BigQuiet
namespace Go.Proofs.YtlcckhlkmnnjdabDoor
open Go.RowKit

theorem fit_any (m s : Int) (w : World) :
    Calls Tryd.prog 15 #[.int .i64 m, .int .i64 s] w fun e w' => e = .returned (.tuple #[.agg #[.int .i64 (fitM m s), .int .i64 (fitS m s)], .int .i64 (fitE m s)]) ∧ Below w.heap.size w w' := by
  by_cases h : argB m s = true
  · have e1 : fitM m s = 0 := if_pos h
    have e2 : fitS m s = 0 := if_pos h
    have e3 : fitE m s = 1 := if_pos h
    rw [e1, e2, e3]
    exact fit_arg m s w h
  · have e1 : fitM m s = _ := if_neg h
    have e2 : fitS m s = _ := if_neg h
    have e3 : fitE m s = _ := if_neg h
    rw [e1, e2, e3]
    unfold argB at h
    have h := mt (decide_eq_true (p := _)) h
    exact fit_in m s w (by omega) (by omega) (by omega) (by omega)

end Go.Proofs.YtlcckhlkmnnjdabDoor

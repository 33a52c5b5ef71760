/- The contract of the law's known. -/
import Derived.Test.YtlcckhlkmnnjdaaDoorLSame
namespace Go.Proofs.YtlcckhlkmnnjdaaDoor
open Go.RowKit
set_option linter.unusedVariables false

theorem lex_known : lexT [49, 46, 46, 50, 46, 53] = ([(2, [49], 0), (4, [46, 46], 1), (2, [50, 46, 53], 3)], 6, 0) := by decide
theorem word_then : wordB [116, 104, 101, 110] = true := by decide

set_option maxHeartbeats 1600000 in
theorem lknown_any (w : World) (sig : Sig w) : Calls Tryd.prog 14 #[] w fun e w' => e = .returned (.bool true) ∧ Below w.heap.size w w' := by
  have L := hide (lex_any [49, 46, 46, 50, 46, 53] w (by decide) sig)
  rw [lex_known] at L
  have W := hide (fun w => word_any [116, 104, 101, 110] w (by decide))
  rw [word_then] at W
  clear sig
  go_enter Tryd.func14, Tryd.ntmps14
  go_wp2_with fail
  refine (unhide L).mono ?_
  rintro e w1 ⟨⟨v, rfl, own⟩, b1⟩
  obtain ⟨g, cap, rfl, -, ts⟩ := own_at own (by decide)
  obtain ⟨p0, p1, p2, p3⟩ := ts 1 (by decide)
  obtain ⟨q0, q1, q2, q3⟩ := ts 2 (by decide)
  simp only [List.getElem_cons_succ, List.getElem_cons_zero, Nat.reduceMul, Nat.reduceAdd] at p1 p2 p3 q1 q2 q3
  clear ts own
  go_wp2_with fail
  refine (unhide W _).mono ?_
  rintro e w2 ⟨rfl, rfl⟩
  go_wp2_with fail
  go_ret
  exact ⟨rfl, b1⟩
end Go.Proofs.YtlcckhlkmnnjdaaDoor

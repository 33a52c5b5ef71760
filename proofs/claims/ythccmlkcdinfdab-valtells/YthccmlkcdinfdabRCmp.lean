/- The contract of the document's own Cmp of decimals. -/
import Derived.Test.YthccmlkcdinfdabRPow
import Derived.Deep.QuietTactic
import Derived.BigQuiet
namespace Go.Proofs.Ythccmlkcdinfdab
open Go.RowKit

set_option maxHeartbeats 800000 in
theorem rcmp_any (m s n t : Int) (w : World) (m1 : -1000000000 ≤ m) (m2 : m ≤ 1000000000) (n1 : -1000000000 ≤ n) (n2 : n ≤ 1000000000) (s1 : 0 ≤ s) (s2 : s ≤ 4) (t1 : 0 ≤ t) (t2 : t ≤ 4) :
    Calls Try.prog 44 #[.agg #[.int .i64 m, .int .i64 s], .agg #[.int .i64 n, .int .i64 t]] w fun e w' => e = .returned (.int .i64 (cmpI (upM m s 4) (upM n t 4))) ∧ Below w.heap.size w w' := by
  have ub1 := upM_bd (m := m) (s := s) (t := 4) m1 m2 (by omega)
  have ub2 := upM_bd (m := n) (s := t) (t := 4) n1 n2 (by omega)
  unfold upM at *
  generalize hf : cmpI (m * p10 (4 - s).toNat) (n * p10 (4 - t).toNat) = f
  by_cases c1 : m * p10 (4 - s).toNat < n * p10 (4 - t).toNat
  · have FIN := hide (show f = -1 by rw [← hf]; exact if_pos c1)
    clear hf
    go_enter Try.func44, Try.ntmps44
    go_wp2_with fail
    go_quiet ((go_at_call 63; exact Calls.quiet_of_same (rpower_any _ _ (by omega) (by omega))))
    go_wp2
    go_ret
    exact ⟨ret_int (unhide FIN).symm, below_drewN (below2 w _ _) _⟩
  · by_cases c2 : n * p10 (4 - t).toNat < m * p10 (4 - s).toNat
    · have FIN := hide (show f = 1 by rw [← hf]; unfold cmpI; rw [if_neg c1, if_pos c2])
      clear hf
      go_enter Try.func44, Try.ntmps44
      go_wp2_with fail
      go_quiet ((go_at_call 63; exact Calls.quiet_of_same (rpower_any _ _ (by omega) (by omega))))
      go_wp2
      go_ret
      exact ⟨ret_int (unhide FIN).symm, below_drewN (below2 w _ _) _⟩
    · have FIN := hide (show f = 0 by rw [← hf]; unfold cmpI; rw [if_neg c1, if_neg c2])
      clear hf
      go_enter Try.func44, Try.ntmps44
      go_wp2_with fail
      go_quiet ((go_at_call 63; exact Calls.quiet_of_same (rpower_any _ _ (by omega) (by omega))))
      go_wp2
      go_ret
      exact ⟨ret_int (unhide FIN).symm, below_drewN (below2 w _ _) _⟩

end Go.Proofs.Ythccmlkcdinfdab

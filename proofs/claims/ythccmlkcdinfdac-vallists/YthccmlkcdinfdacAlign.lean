/- The contract of dec's align, for decimals that may be. -/
import Derived.Test.YthccmlkcdinfdacDIs
namespace Go.Proofs.Ythccmlkcdinfdac
open Go.RowKit

set_option maxHeartbeats 400000 in
theorem align_any (m s n t : Int) (w : World) (ha : isB m s = true) (hb : isB n t = true) :
    Calls Try.prog 46 #[.agg #[.int .i64 m, .int .i64 s], .agg #[.int .i64 n, .int .i64 t]] w fun e w' => e = .returned (.tuple #[.int .i64 (upM m s (max s t)), .int .i64 (upM n t (max s t)), .int .i64 (max s t)]) ∧ Below w.heap.size w w' := by
  have ⟨m1, m2, s1, s2⟩ := isB_bd ha
  have ⟨n1, n2, t1, t2⟩ := isB_bd hb
  clear ha hb
  have ub1 := upM_bd (m := m) (s := s) (t := max s t) m1 m2 (by omega)
  have ub2 := upM_bd (m := n) (s := t) (t := max s t) n1 n2 (by omega)
  unfold upM at *
  by_cases hst : s < t
  · have e0 : max s t = t := by omega
    rw [e0] at ub1 ub2 ⊢
    rw [show (t - t).toNat = 0 by omega] at ub2 ⊢
    clear e0
    go_enter Try.func46, Try.ntmps46
    go_wp2_with fail
    go_quiet ((go_at_call 50; exact Calls.quiet_of_same (power_any _ _ (by omega) (by omega))))
    go_wp2
    go_ret3
    exact ⟨rfl, below_drewN (((Below.refl _ _).alloc (Nat.le_refl _) _).alloc (by simp) _) _⟩
  · have e0 : max s t = s := by omega
    rw [e0] at ub1 ub2 ⊢
    rw [show (s - s).toNat = 0 by omega] at ub1 ⊢
    clear e0
    go_enter Try.func46, Try.ntmps46
    go_wp2_with fail
    go_quiet ((go_at_call 50; exact Calls.quiet_of_same (power_any _ _ (by omega) (by omega))))
    go_wp2
    go_ret3
    exact ⟨rfl, below_drewN (((Below.refl _ _).alloc (Nat.le_refl _) _).alloc (by simp) _) _⟩

end Go.Proofs.Ythccmlkcdinfdac

/- Div: laid together. -/
import Derived.Test.YtfdimdjmnfdecaaGreatKAE
set_option linter.unusedVariables false
set_option linter.unusedSimpArgs false
set_option maxHeartbeats 8000000
namespace Go.Proofs.YtfdimdjmnfdecaaGreat
open Go.RowKit
theorem div_any (m s n t : Int) (w : World) (ha : isB m s = true) (hb : isB n t = true) (hn : n ≠ 0) :
  Calls Tryz.prog 118 #[.agg #[.int .i64 m, .int .i64 s], .agg #[.int .i64 n, .int .i64 t]] w fun e w' => e = .returned (.tuple #[.agg #[.int .i64 (fitM (divQ m s n t) 4), .int .i64 (fitS (divQ m s n t) 4)], .int .i64 (fitE (divQ m s n t) 4)]) ∧ Below w.heap.size w w' := by
 have ⟨m1, m2, s1, s2⟩ := isB_bd ha
 have ⟨n1, n2, t1, t2⟩ := isB_bd hb
 have ub := upM_bd (m := m) (s := s) (t := 4 + t) m1 m2 (by omega)
 unfold upM at ub
 have hn0 : (n == 0) = false := by simpa using hn
 have HA := hide ha; have HB := hide hb
 clear ha hb hn
 have dq : divQ m s n t = if n < 0 then half (-(m * p10 (4 + t - s).toNat)) (-n) else half (m * p10 (4 + t - s).toNat) n := rfl
 generalize hq : divQ m s n t = q at *
 clear hq
 have DQ := hide dq
 clear dq
 by_cases hneg : n < 0
 ·have DQ' := hide ((unhide DQ).trans (if_pos hneg))
  clear DQ
  go_enter Tryz.func118, Tryz.ntmps118
  go_wp2_with fail
  refine (is_any _ _ _).mono ?_
  rintro e w1 ⟨rfl, b1⟩
  rw [unhide HA]
  obtain ⟨c1, f1⟩ := bcell b1
  go_wp2_with fail
  refine (is_any _ _ _).mono ?_
  rintro e w2 ⟨rfl, k2⟩
  rw [unhide HB]
  have b2 := bstep b1 k2
  clear c1 f1 b1 k2
  obtain ⟨c2, f2⟩ := bcell b2
  go_wp2_with fail
  go_quiet ((go_at_call 136; exact Calls.quiet_of_same (power_any _ _ (by omega) (by omega))))
  go_wp2_with fail
  refine (half_any _ _ _ (by omega) (by omega) (by omega) (by omega)).mono ?_
  rintro e w' ⟨rfl, rfl⟩
  rw [← unhide DQ']
  go_wp2_with fail
  refine (fit_any _ _ _).mono ?_
  rintro e w4 ⟨rfl, k4⟩
  have b4 := bstep (below_drewN b2 _) k4
  clear c2 f2 b2 k4
  obtain ⟨c4, f4⟩ := bcell b4
  have z4 : w.heap.size + 2 < w4.heap.size := by have := b4.size; simp at this; omega
  go_wp2
  refine bodyPost_ret (v := .tuple #[.agg #[.int .i64 (fitM _ _), .int .i64 (fitS _ _)], .int .i64 (fitE _ _)]) zR118c4 rfl ⟨rfl, ?_⟩
  exact ((bstep (below3 w _ _ _) b4).setCell (by simp; omega) _).setCell (by simp; omega) _
 ·have DQ' := hide ((unhide DQ).trans (if_neg hneg))
  have hpos : 1 ≤ n := by have := beq_eq_false_iff_ne.1 hn0; omega
  clear DQ
  go_enter Tryz.func118, Tryz.ntmps118
  go_wp2_with fail
  refine (is_any _ _ _).mono ?_
  rintro e w1 ⟨rfl, b1⟩
  rw [unhide HA]
  obtain ⟨c1, f1⟩ := bcell b1
  go_wp2_with fail
  refine (is_any _ _ _).mono ?_
  rintro e w2 ⟨rfl, k2⟩
  rw [unhide HB]
  have b2 := bstep b1 k2
  clear c1 f1 b1 k2
  obtain ⟨c2, f2⟩ := bcell b2
  go_wp2_with fail
  go_quiet ((go_at_call 136; exact Calls.quiet_of_same (power_any _ _ (by omega) (by omega))))
  go_wp2_with fail
  refine (half_any _ _ _ (by omega) (by omega) (by omega) (by omega)).mono ?_
  rintro e w' ⟨rfl, rfl⟩
  rw [← unhide DQ']
  go_wp2_with fail
  refine (fit_any _ _ _).mono ?_
  rintro e w4 ⟨rfl, k4⟩
  have b4 := bstep (below_drewN b2 _) k4
  clear c2 f2 b2 k4
  obtain ⟨c4, f4⟩ := bcell b4
  have z4 : w.heap.size + 2 < w4.heap.size := by have := b4.size; simp at this; omega
  go_wp2
  refine bodyPost_ret (v := .tuple #[.agg #[.int .i64 (fitM _ _), .int .i64 (fitS _ _)], .int .i64 (fitE _ _)]) zR118c4 rfl ⟨rfl, ?_⟩
  exact ((bstep (below3 w _ _ _) b4).setCell (by simp; omega) _).setCell (by simp; omega) _
end Go.Proofs.YtfdimdjmnfdecaaGreat

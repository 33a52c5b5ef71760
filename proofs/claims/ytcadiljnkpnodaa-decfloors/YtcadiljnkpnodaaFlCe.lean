/- The contracts of dec's Floor and Ceil, for decimals that may be. -/
import Derived.Test.YtcadiljnkpnodaaIs
import Derived.Deep.RegionWith
namespace Go.Proofs.Ytcadiljnkpnodaa
open Go.RowKit

set_option maxHeartbeats 800000 in
theorem flr_any (m s : Int) (w : World) (ha : isB m s = true) :
    Calls Try.prog 24 #[.agg #[.int .i64 m, .int .i64 s]] w fun e w' => e = .returned (.agg #[.int .i64 (m / p10 s.toNat), .int .i64 0]) ∧ Below w.heap.size w w' := by
  have ⟨m1, m2, s1, s2⟩ := isB_bd ha
  have pb := p10_pos s.toNat
  have pb2 := p10_bd (n := s.toNat) (by omega)
  have db := div_abs m (p10 s.toNat) 1000000000 pb (by omega) (by omega) (by omega)
  have HA := hide ha
  clear ha
  go_enter Try.func24, Try.ntmps24
  go_wp2_with fail
  refine (is_any _ _ _).mono ?_
  rintro e w1 ⟨rfl, b1⟩
  rw [unhide HA]
  clear HA
  obtain ⟨c1, f1⟩ := bcell b1
  have z4 : w.heap.size + 1 < w1.heap.size := by have := b1.size; simp at this; omega
  go_wp2_with fail
  go_region_with (first | (go_at_call 29; refine (power_any _ _ (by omega) (by omega)).mono ?_; rintro e w' ⟨rfl, rfl⟩) | (go_at_call 36; refine (floor_any _ _ _ (by omega) (by omega) (by omega) (by omega)).mono ?_; rintro e w' ⟨rfl, rfl⟩))
  all_goals go_wp2
  all_goals
    refine bodyPost_ret (v := .agg #[.int .i64 (m / p10 s.toNat), .int .i64 0]) (by simp [results, Try.results24, go_sem, c1]) rfl ⟨rfl, ?_⟩
    exact (((bstep (below2 w _ _) b1).setCell (by simp) _).setCell (by simp) _).drew

set_option maxHeartbeats 800000 in
theorem ceil_any (m s : Int) (w : World) (ha : isB m s = true) :
    Calls Try.prog 26 #[.agg #[.int .i64 m, .int .i64 s]] w fun e w' => e = .returned (.agg #[.int .i64 (-(-m / p10 s.toNat)), .int .i64 0]) ∧ Below w.heap.size w w' := by
  have ⟨m1, m2, s1, s2⟩ := isB_bd ha
  have pb := p10_pos s.toNat
  have pb2 := p10_bd (n := s.toNat) (by omega)
  have db := div_abs (-m) (p10 s.toNat) 1000000000 pb (by omega) (by omega) (by omega)
  have hw1 : IntKind.i64.wrap (-m) = -m := i64_in (by omega) (by omega)
  have hw2 : IntKind.i64.wrap (-(-m / p10 s.toNat)) = -(-m / p10 s.toNat) := i64_in (by omega) (by omega)
  have HA := hide ha
  clear ha
  go_enter Try.func26, Try.ntmps26
  go_wp2_with fail
  refine (is_any _ _ _).mono ?_
  rintro e w1 ⟨rfl, b1⟩
  rw [unhide HA]
  clear HA
  obtain ⟨c1, f1⟩ := bcell b1
  have z4 : w.heap.size + 1 < w1.heap.size := by have := b1.size; simp at this; omega
  go_wp2_with fail
  go_region_with (first | (go_at_call 29; refine (power_any _ _ (by omega) (by omega)).mono ?_; rintro e w' ⟨rfl, rfl⟩) | (go_at_call 36; refine (floor_any _ _ _ (by omega) (by omega) (by omega) (by omega)).mono ?_; rintro e w' ⟨rfl, rfl⟩))
  all_goals go_wp2
  all_goals
    refine bodyPost_ret (v := .agg #[.int .i64 (-(-m / p10 s.toNat)), .int .i64 0]) (by simp [results, Try.results26, go_sem, c1]) rfl ⟨rfl, ?_⟩
    exact (((bstep (below2 w _ _) b1).setCell (by simp) _).setCell (by simp) _).drew

end Go.Proofs.Ytcadiljnkpnodaa

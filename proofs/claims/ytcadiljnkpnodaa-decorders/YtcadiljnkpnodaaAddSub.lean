/- The contracts of dec's Add and Sub, for decimals that may be. -/
import Derived.Test.YtcadiljnkpnodaaAlign
namespace Go.Proofs.Ytcadiljnkpnodaa
open Go.RowKit

set_option maxHeartbeats 800000 in
theorem add_any (m s n t : Int) (w : World) (ha : isB m s = true) (hb : isB n t = true) :
    Calls Try.prog 14 #[.agg #[.int .i64 m, .int .i64 s], .agg #[.int .i64 n, .int .i64 t]] w fun e w' => e = .returned (.tuple #[.agg #[.int .i64 (fitM (upM m s (max s t) + upM n t (max s t)) (max s t)), .int .i64 (fitS (upM m s (max s t) + upM n t (max s t)) (max s t))], .int .i64 (fitE (upM m s (max s t) + upM n t (max s t)) (max s t))]) ∧ Below w.heap.size w w' := by
  have ⟨m1, m2, s1, s2⟩ := isB_bd ha
  have ⟨n1, n2, t1, t2⟩ := isB_bd hb
  have ub1 := upM_bd (m := m) (s := s) (t := max s t) m1 m2 (by omega)
  have ub2 := upM_bd (m := n) (s := t) (t := max s t) n1 n2 (by omega)
  generalize hx : upM m s (max s t) = x at *
  generalize hy : upM n t (max s t) = y at *
  generalize hz : max s t = z at *
  have HA := hide ha; have HB := hide hb; have HX := hide hx; have HY := hide hy; have HZ := hide hz
  clear ha hb hx hy hz
  go_enter Try.func14, Try.ntmps14
  go_wp2_with fail
  refine (is_any _ _ _).mono ?_
  rintro e w1 ⟨rfl, b1⟩
  rw [unhide HA]
  obtain ⟨c1, f1⟩ := bcell b1
  go_wp2_with fail
  refine (is_any _ _ _).mono ?_
  rintro e w2 ⟨rfl, k2⟩
  rw [unhide HB]
  have b2 := bstep b1 k2
  clear c1 f1 b1 k2
  obtain ⟨c2, f2⟩ := bcell b2
  go_wp2_with fail
  refine (align_any _ _ _ _ _ (unhide HA) (unhide HB)).mono ?_
  rintro e w3 ⟨rfl, k3⟩
  have b3 := bstep b2 k3
  clear c2 f2 b2 k3
  obtain ⟨c3, f3⟩ := bcell b3
  rw [unhide HZ, unhide HX, unhide HY]
  clear HX HY HZ HA HB
  go_wp2_with fail
  refine (fit_any _ _ _).mono ?_
  rintro e w4 ⟨rfl, k4⟩
  have b4 := bstep b3 k4
  clear c3 f3 b3 k4
  obtain ⟨c4, f4⟩ := bcell b4
  have z4 : w.heap.size + 2 < w4.heap.size := by have := b4.size; simp at this; omega
  go_wp2
  refine bodyPost_ret (v := .tuple #[.agg #[.int .i64 (fitM _ _), .int .i64 (fitS _ _)], .int .i64 (fitE _ _)]) (by simp [results, Try.results14, go_sem, c4]) rfl ⟨rfl, ?_⟩
  exact ((bstep (below3 w _ _ _) b4).setCell (by simp; omega) _).setCell (by simp; omega) _

set_option maxHeartbeats 800000 in
theorem sub_any (m s n t : Int) (w : World) (ha : isB m s = true) (hb : isB n t = true) :
    Calls Try.prog 16 #[.agg #[.int .i64 m, .int .i64 s], .agg #[.int .i64 n, .int .i64 t]] w fun e w' => e = .returned (.tuple #[.agg #[.int .i64 (fitM (upM m s (max s t) - upM n t (max s t)) (max s t)), .int .i64 (fitS (upM m s (max s t) - upM n t (max s t)) (max s t))], .int .i64 (fitE (upM m s (max s t) - upM n t (max s t)) (max s t))]) ∧ Below w.heap.size w w' := by
  have ⟨m1, m2, s1, s2⟩ := isB_bd ha
  have ⟨n1, n2, t1, t2⟩ := isB_bd hb
  have ub1 := upM_bd (m := m) (s := s) (t := max s t) m1 m2 (by omega)
  have ub2 := upM_bd (m := n) (s := t) (t := max s t) n1 n2 (by omega)
  generalize hx : upM m s (max s t) = x at *
  generalize hy : upM n t (max s t) = y at *
  generalize hz : max s t = z at *
  have HA := hide ha; have HB := hide hb; have HX := hide hx; have HY := hide hy; have HZ := hide hz
  clear ha hb hx hy hz
  go_enter Try.func16, Try.ntmps16
  go_wp2_with fail
  refine (is_any _ _ _).mono ?_
  rintro e w1 ⟨rfl, b1⟩
  rw [unhide HA]
  obtain ⟨c1, f1⟩ := bcell b1
  go_wp2_with fail
  refine (is_any _ _ _).mono ?_
  rintro e w2 ⟨rfl, k2⟩
  rw [unhide HB]
  have b2 := bstep b1 k2
  clear c1 f1 b1 k2
  obtain ⟨c2, f2⟩ := bcell b2
  go_wp2_with fail
  refine (align_any _ _ _ _ _ (unhide HA) (unhide HB)).mono ?_
  rintro e w3 ⟨rfl, k3⟩
  have b3 := bstep b2 k3
  clear c2 f2 b2 k3
  obtain ⟨c3, f3⟩ := bcell b3
  rw [unhide HZ, unhide HX, unhide HY]
  clear HX HY HZ HA HB
  go_wp2_with fail
  refine (fit_any _ _ _).mono ?_
  rintro e w4 ⟨rfl, k4⟩
  have b4 := bstep b3 k4
  clear c3 f3 b3 k4
  obtain ⟨c4, f4⟩ := bcell b4
  have z4 : w.heap.size + 2 < w4.heap.size := by have := b4.size; simp at this; omega
  go_wp2
  refine bodyPost_ret (v := .tuple #[.agg #[.int .i64 (fitM _ _), .int .i64 (fitS _ _)], .int .i64 (fitE _ _)]) (by simp [results, Try.results16, go_sem, c4]) rfl ⟨rfl, ?_⟩
  exact ((bstep (below3 w _ _ _) b4).setCell (by simp; omega) _).setCell (by simp; omega) _

end Go.Proofs.Ytcadiljnkpnodaa

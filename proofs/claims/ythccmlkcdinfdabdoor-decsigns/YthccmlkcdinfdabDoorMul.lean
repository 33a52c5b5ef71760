/- The contract of dec's Mul, for decimals that may be. -/
import Derived.Test.YthccmlkcdinfdabDoorIs
namespace Go.Proofs.YthccmlkcdinfdabDoor
open Go.RowKit

theorem mul_bd2 {m n : Int} (m1 : -1000000000 ≤ m) (m2 : m ≤ 1000000000) (n1 : -1000000000 ≤ n) (n2 : n ≤ 1000000000) : -1000000000000000000 ≤ m * n ∧ m * n ≤ 1000000000000000000 := by
  by_cases h : 0 ≤ n
  · have := mul_bd m n 1000000000 1000000000 m1 m2 h n2 (by omega); omega
  · have := mul_bd m (-n) 1000000000 1000000000 m1 m2 (by omega) (by omega) (by omega)
    rw [Int.mul_neg] at this; omega

set_option maxHeartbeats 800000 in
theorem mul_any (m s n t : Int) (w : World) (ha : isB m s = true) (hb : isB n t = true) :
    Calls Tryd.prog 5 #[.agg #[.int .i64 m, .int .i64 s], .agg #[.int .i64 n, .int .i64 t]] w fun e w' => e = .returned (.tuple #[.agg #[.int .i64 (fitM (m * n) (s + t)), .int .i64 (fitS (m * n) (s + t))], .int .i64 (fitE (m * n) (s + t))]) ∧ Below w.heap.size w w' := by
  have ⟨m1, m2, s1, s2⟩ := isB_bd ha
  have ⟨n1, n2, t1, t2⟩ := isB_bd hb
  have mb := mul_bd2 m1 m2 n1 n2
  have HA := hide ha; have HB := hide hb
  clear ha hb
  go_enter Tryd.func5, Tryd.ntmps5
  go_wp2_with fail
  refine (is_any _ _ _).mono ?_
  rintro e w1 ⟨rfl, b1⟩
  rw [unhide HA]
  obtain ⟨c1, f1⟩ := bcell b1
  go_wp2_with fail
  refine (is_any _ _ _).mono ?_
  rintro e w2 ⟨rfl, k2⟩
  rw [unhide HB]
  have b2 := bstep b1 k2
  clear c1 f1 b1 k2
  obtain ⟨c2, f2⟩ := bcell b2
  clear HA HB
  go_wp2_with fail
  refine (fit_any _ _ _).mono ?_
  rintro e w4 ⟨rfl, k4⟩
  have b4 := bstep b2 k4
  clear c2 f2 b2 k4
  obtain ⟨c4, f4⟩ := bcell b4
  have z4 : w.heap.size + 2 < w4.heap.size := by have := b4.size; simp at this; omega
  go_wp2
  refine bodyPost_ret (v := .tuple #[.agg #[.int .i64 (fitM _ _), .int .i64 (fitS _ _)], .int .i64 (fitE _ _)]) (by simp [results, Tryd.results5, go_sem, c4]) rfl ⟨rfl, ?_⟩
  exact ((bstep (below3 w _ _ _) b4).setCell (by simp; omega) _).setCell (by simp; omega) _

end Go.Proofs.YthccmlkcdinfdabDoor

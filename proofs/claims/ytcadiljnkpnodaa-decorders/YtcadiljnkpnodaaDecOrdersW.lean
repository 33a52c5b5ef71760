/- The walk of DecOrders: it returns true. -/
import Derived.Test.YtcadiljnkpnodaaDecOrdersC
import Derived.Test.YtcadiljnkpnodaaKnown
import Derived.Test.YtcadiljnkpnodaaAddSub
import Derived.Test.YtcadiljnkpnodaaMul
import Derived.Test.YtcadiljnkpnodaaCmp
import Derived.Test.YtcadiljnkpnodaaMath6
namespace Go.Proofs.Ytcadiljnkpnodaa
open Go.RowKit

theorem order_cases3 (x y z : Int) (h : fitE (x - y) z = 0 ∨ fitE (x - y) z = 3) :
    fitE (x - y) z = 3 ∨ (fitE (x - y) z = 0 ∧ decide (0 < fitM (x - y) z) = true ∧ decide (0 < cmpI x y) = true) ∨ (fitE (x - y) z = 0 ∧ decide (0 < fitM (x - y) z) = false ∧ decide (0 < cmpI x y) = false) ∨ (fitE (x - y) z = 0 ∧ decide (0 < fitM (x - y) z) = false ∧ decide (0 < cmpI x y) = true ∧ (fitM (x - y) z == 0) = true) := by
  rcases h with h | h
  · rcases order_cases x y z with c | ⟨_, c1, c2⟩ | ⟨_, c1, c2⟩ | ⟨_, c1, c2, c3⟩
    · rw [h] at c; exact absurd c (by decide)
    · exact Or.inr (Or.inl ⟨h, c1, c2⟩)
    · exact Or.inr (Or.inr (Or.inl ⟨h, c1, c2⟩))
    · exact Or.inr (Or.inr (Or.inr ⟨h, c1, c2, c3⟩))
  · exact Or.inl h

set_option maxHeartbeats 800000 in
theorem decOrders_out (m s n t : Int) (w : World) (hn : (isB m s && isB n t) = false) :
    Calls Try.prog 5 #[.agg #[.int .i64 m, .int .i64 s], .agg #[.int .i64 n, .int .i64 t]] w fun e w' => e = .returned (.bool true) ∧ Below w.heap.size w w' := by
  have HN := hide hn
  clear hn
  go_enter Try.func5, Try.ntmps5
  go_wp2_with fail
  refine (may2_any m s n t _ _ (by simp) (by go_simp) (by go_simp) (by go_simp) (by go_simp)).mono ?_
  rintro e V ⟨rfl, k0⟩
  rw [unhide HN]
  go_wp2
  go_ret
  exact ⟨rfl, bstep (below3 w _ _ _) k0⟩

theorem decOrders_walk (m s n t : Int) (_ : (Lit.int .i64 m).wf = true) (_ : (Lit.int .i64 s).wf = true) (_ : (Lit.int .i64 n).wf = true) (_ : (Lit.int .i64 t).wf = true) (w : World) :
    Calls Try.prog 5 #[.agg #[.int .i64 m, .int .i64 s], .agg #[.int .i64 n, .int .i64 t]] w fun e w' => e = .returned (.bool true) ∧ Below w.heap.size w w' := by
  by_cases h : (isB m s && isB n t) = true
  · have ⟨ha, hb⟩ := (Bool.and_eq_true _ _).mp h
    have c2 : ∀ w, _ := fun w => add_any n t m s w hb ha
    rw [show max t s = max s t by omega, Int.add_comm (upM n t (max s t))] at c2
    have c4 : ∀ w, _ := fun w => mul_any n t m s w hb ha
    rw [Int.mul_comm n m, Int.add_comm t s] at c4
    have c7 : ∀ w, _ := fun w => cmp_any n t m s w hb ha
    rw [show max t s = max s t by omega] at c7
    have hb2 := cmp_bd (upM m s (max s t)) (upM n t (max s t))
    have hL : IntKind.i64.wrap (-cmpI (upM n t (max s t)) (upM m s (max s t))) = cmpI (upM m s (max s t)) (upM n t (max s t)) := by
      rw [cmp_neg]; exact i64_in (by omega) (by omega)
    have ⟨m1, m2, s1, s2⟩ := isB_bd ha
    have ⟨n1, n2, t1, t2⟩ := isB_bd hb
    have v1 := upM_bd (m := m) (s := s) (t := max s t) m1 m2 (by omega)
    have v2 := upM_bd (m := n) (s := t) (t := max s t) n1 n2 (by omega)
    have hA : argB (upM m s (max s t) - upM n t (max s t)) (max s t) = false := by unfold argB; simp only [decide_eq_false_iff_not]; omega
    exact decOrders_core m s n t _ _ _ _ _ _ _ _ _ _ _ w ha hb (fun w => add_any m s n t w ha hb) c2 (fun w => mul_any m s n t w ha hb) c4 (fun w => sub_any m s n t w ha hb) (fun w => cmp_any m s n t w ha hb) c7 known_any hL _ _ rfl rfl (cmp_zero m s n t ha hb) (order_cases3 _ _ _ (fitE_in _ _ hA))
  · exact decOrders_out m s n t w (by simpa using h)

end Go.Proofs.Ytcadiljnkpnodaa

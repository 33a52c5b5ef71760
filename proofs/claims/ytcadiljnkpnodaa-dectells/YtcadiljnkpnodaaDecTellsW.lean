/- The walk of DecTells: it returns true. -/
import Derived.Test.YtcadiljnkpnodaaDecTellsC
import Derived.Test.YtcadiljnkpnodaaDecTellsO
import Derived.Test.YtcadiljnkpnodaaAddSub
import Derived.Test.YtcadiljnkpnodaaDiv
import Derived.Test.YtcadiljnkpnodaaMul
import Derived.Test.YtcadiljnkpnodaaCmp
import Derived.Test.YtcadiljnkpnodaaFlCe
namespace Go.Proofs.Ytcadiljnkpnodaa
open Go.RowKit

theorem decTells_walk (m s n t : Int) (_ : (Lit.int .i64 m).wf = true) (_ : (Lit.int .i64 s).wf = true) (_ : (Lit.int .i64 n).wf = true) (_ : (Lit.int .i64 t).wf = true) (w : World) :
    Calls Try.prog 4 #[.agg #[.int .i64 m, .int .i64 s], .agg #[.int .i64 n, .int .i64 t]] w fun e w' => e = .returned (.bool true) ∧ Below w.heap.size w w' := by
  by_cases h : (isB m s && isB n t) = true
  · have ⟨ha, hb⟩ := (Bool.and_eq_true _ _).mp h
    have ⟨m1, m2, s1, s2⟩ := isB_bd ha
    have ⟨n1, n2, t1, t2⟩ := isB_bd hb
    have c6 : ∀ w, _ := fun w => rmul_any m s n t w m1 m2 n1 n2 s1 s2 t1 t2
    have c10 : ∀ w, _ := fun w => rcmp_any m s n t w m1 m2 n1 n2 s1 s2 t1 t2
    rw [cmp_eq m s n t s2 t2] at c10
    by_cases hn : n = 0
    · subst hn
      exact decTells_core m s 0 t _ _ _ _ _ _ _ _ _ 0 0 1 _ _ _ w ha hb (fun w => add_any m s 0 t w ha hb) (fun w => radd_eq m s 0 t w ha hb) (fun w => sub_any m s 0 t w ha hb) (fun w => rsub_eq m s 0 t w ha hb) (fun w => mul_any m s 0 t w ha hb) c6 (fun w => div_zero m s t w ha hb) (fun w => rdiv_zero m s t w) (fun w => cmp_any m s 0 t w ha hb) c10 (fun w => flr_any m s w ha) (fun w => rflr_any m s w m1 m2 s1 s2) (fun w => ceil_any m s w ha) (fun w => rceil_any m s w m1 m2 s1 s2) known_any
    · have c8 : ∀ w, _ := fun w => rdiv_any m s n t w m1 m2 n1 n2 s1 s2 t1 t2 hn
      rw [divQ_eq m s n t s1 s2 t1 t2] at c8
      exact decTells_core m s n t _ _ _ _ _ _ _ _ _ _ _ _ _ _ _ w ha hb (fun w => add_any m s n t w ha hb) (fun w => radd_eq m s n t w ha hb) (fun w => sub_any m s n t w ha hb) (fun w => rsub_eq m s n t w ha hb) (fun w => mul_any m s n t w ha hb) c6 (fun w => div_any m s n t w ha hb hn) c8 (fun w => cmp_any m s n t w ha hb) c10 (fun w => flr_any m s w ha) (fun w => rflr_any m s w m1 m2 s1 s2) (fun w => ceil_any m s w ha) (fun w => rceil_any m s w m1 m2 s1 s2) known_any
  · exact decTells_out m s n t w (by simpa using h)

end Go.Proofs.Ytcadiljnkpnodaa

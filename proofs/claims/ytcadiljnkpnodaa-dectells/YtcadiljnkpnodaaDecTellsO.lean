/- The document's own answers said at the code's scales; the walk of DecTells where one decimal may not be. -/
import Derived.Test.YtcadiljnkpnodaaMay
import Derived.Test.YtcadiljnkpnodaaKeep
import Derived.Deep.RegionHeld3
import Derived.Deep.DrawnRows
import Derived.Test.YtcadiljnkpnodaaKnown
import Derived.Test.YtcadiljnkpnodaaRArith
import Derived.Test.YtcadiljnkpnodaaMath5
namespace Go.Proofs.Ytcadiljnkpnodaa
open Go.RowKit
attribute [local go_sem ↓] Go.wp_at_zero Go.wp_at_succ

theorem radd_eq (m s n t : Int) (w : World) (ha : isB m s = true) (hb : isB n t = true) :
    Calls Try.prog 15 #[.agg #[.int .i64 m, .int .i64 s], .agg #[.int .i64 n, .int .i64 t]] w fun e w' => e = .returned (.tuple #[.agg #[.int .i64 (fitM (upM m s (max s t) + upM n t (max s t)) (max s t)), .int .i64 (fitS (upM m s (max s t) + upM n t (max s t)) (max s t))], .int .i64 (fitE (upM m s (max s t) + upM n t (max s t)) (max s t))]) ∧ Below w.heap.size w w' := by
  have ⟨m1, m2, s1, s2⟩ := isB_bd ha
  have ⟨n1, n2, t1, t2⟩ := isB_bd hb
  have h := radd_any m s n t w m1 m2 n1 n2 s1 s2 t1 t2
  have u1 := upM_bd (m := m) (s := s) (t := 4) m1 m2 (by omega)
  have u2 := upM_bd (m := n) (s := t) (t := 4) n1 n2 (by omega)
  have v1 := upM_bd (m := m) (s := s) (t := max s t) m1 m2 (by omega)
  have v2 := upM_bd (m := n) (s := t) (t := max s t) n1 n2 (by omega)
  have e : upM m s 4 + upM n t 4 = (upM m s (max s t) + upM n t (max s t)) * p10 (4 - max s t).toNat := by
    rw [Int.add_mul, ← up_scale m s (max s t) (by omega) (by omega), ← up_scale n t (max s t) (by omega) (by omega)]
  have f := fit_scale (upM m s (max s t) + upM n t (max s t)) (max s t) (by omega) (by omega) (by omega) (by rw [← e]; omega) (by rw [← e]; omega) (by omega)
  rw [e, f.1, f.2.1, f.2.2] at h
  exact h

theorem rsub_eq (m s n t : Int) (w : World) (ha : isB m s = true) (hb : isB n t = true) :
    Calls Try.prog 17 #[.agg #[.int .i64 m, .int .i64 s], .agg #[.int .i64 n, .int .i64 t]] w fun e w' => e = .returned (.tuple #[.agg #[.int .i64 (fitM (upM m s (max s t) - upM n t (max s t)) (max s t)), .int .i64 (fitS (upM m s (max s t) - upM n t (max s t)) (max s t))], .int .i64 (fitE (upM m s (max s t) - upM n t (max s t)) (max s t))]) ∧ Below w.heap.size w w' := by
  have ⟨m1, m2, s1, s2⟩ := isB_bd ha
  have ⟨n1, n2, t1, t2⟩ := isB_bd hb
  have h := rsub_any m s n t w m1 m2 n1 n2 s1 s2 t1 t2
  have u1 := upM_bd (m := m) (s := s) (t := 4) m1 m2 (by omega)
  have u2 := upM_bd (m := n) (s := t) (t := 4) n1 n2 (by omega)
  have v1 := upM_bd (m := m) (s := s) (t := max s t) m1 m2 (by omega)
  have v2 := upM_bd (m := n) (s := t) (t := max s t) n1 n2 (by omega)
  have e : upM m s 4 + upM (-n) t 4 = (upM m s (max s t) - upM n t (max s t)) * p10 (4 - max s t).toNat := by
    rw [Int.sub_mul, ← up_scale m s (max s t) (by omega) (by omega), ← up_scale n t (max s t) (by omega) (by omega), up_neg]
    omega
  have e2 : upM m s 4 + upM (-n) t 4 = upM m s 4 - upM n t 4 := by rw [up_neg]; omega
  have f := fit_scale (upM m s (max s t) - upM n t (max s t)) (max s t) (by omega) (by omega) (by omega) (by rw [← e, e2]; omega) (by rw [← e, e2]; omega) (by omega)
  rw [e, f.1, f.2.1, f.2.2] at h
  exact h

theorem divQ_eq (m s n t : Int) (s1 : 0 ≤ s) (s2 : s ≤ 4) (t1 : 0 ≤ t) (t2 : t ≤ 4) : rdivQ m s n t = divQ m s n t := by
  have e : m * p10 (t + 4).toNat = m * p10 (4 + t - s).toNat * p10 s.toNat := by
    rw [Int.mul_assoc, ← p10_add]; congr 2; omega
  unfold rdivQ divQ
  rw [e]
  by_cases h : n < 0
  · rw [if_pos h, if_pos h, show -(m * p10 (4 + t - s).toNat * p10 s.toNat) = -(m * p10 (4 + t - s).toNat) * p10 s.toNat from (Int.neg_mul _ _).symm, show -(n * p10 s.toNat) = -n * p10 s.toNat from (Int.neg_mul _ _).symm, half_scale _ _ _ (p10_pos _)]
  · rw [if_neg h, if_neg h, half_scale _ _ _ (p10_pos _)]

theorem cmp_eq (m s n t : Int) (s2 : s ≤ 4) (t2 : t ≤ 4) : cmpI (upM m s 4) (upM n t 4) = cmpI (upM m s (max s t)) (upM n t (max s t)) := by
  rw [up_scale m s (max s t) (by omega) (by omega), up_scale n t (max s t) (by omega) (by omega), cmp_scale _ _ _ (p10_pos _)]

set_option maxRecDepth 100000 in
set_option maxHeartbeats 4000000 in
theorem decTells_out (m s n t : Int) (w : World) (hn : (isB m s && isB n t) = false) :
    Calls Try.prog 4 #[.agg #[.int .i64 m, .int .i64 s], .agg #[.int .i64 n, .int .i64 t]] w fun e w' => e = .returned (.bool true) ∧ Below w.heap.size w w' := by
  have HN := hide hn
  clear hn
  go_enter Try.func4, Try.ntmps4
  go_wp2_with fail
  refine (may2_any m s n t _ _ (by simp) (by go_simp) (by go_simp) (by go_simp) (by go_simp)).mono ?_
  rintro e V ⟨rfl, k0⟩
  rw [unhide HN]
  have a0 : Has V w.heap.size m s := ⟨by have := k0.size; simp at this; omega, kcell k0 (by simp; omega) (by go_simp), kcell k0 (by simp; omega) (by go_simp)⟩
  have b0 : Has V (w.heap.size + 1) n t := ⟨by have := k0.size; simp at this; omega, kcell k0 (by simp) (by go_simp), kcell k0 (by simp) (by go_simp)⟩
  have h0 : Below w.heap.size w V := bstep (below3 w _ _ _) k0
  clear k0 HN
  generalize hB : w.heap.size = A0 at *
  have HW := hide hB
  clear hB
  have SK : Hid (∀ w', Below V.heap.size V w' → Below V.heap.size V w' ∧ w'.cell? ⟨A0, 0, none⟩ = some (.int .i64 m) ∧ w'.cell? ⟨A0, 1, none⟩ = some (.int .i64 s) ∧ w'.cell? ⟨A0 + 1, 0, none⟩ = some (.int .i64 n) ∧ w'.cell? ⟨A0 + 1, 1, none⟩ = some (.int .i64 t)) := by
    intro w' h
    exact ⟨h, (a0.call h).2.1, (a0.call h).2.2, (b0.call h).2.1, (b0.call h).2.2⟩
  have hz : A0 ≤ V.heap.size := by have := a0.1; omega
  clear a0 b0
  go_wp2_with fail
  go_region_held3 (fun w' => Below V.heap.size V w' ∧ w'.cell? ⟨A0, 0, none⟩ = some (.int .i64 m) ∧ w'.cell? ⟨A0, 1, none⟩ = some (.int .i64 s) ∧ w'.cell? ⟨A0 + 1, 0, none⟩ = some (.int .i64 n) ∧ w'.cell? ⟨A0 + 1, 1, none⟩ = some (.int .i64 t))
    (first | exact unhide SK _ (Below.refl _ _).drew | (refine unhide SK _ (bstep ?_ k); apply And.left; assumption))
    (first | (go_at_call 10; refine (is_any _ _ _).mono ?_; rintro e w' ⟨rfl, k⟩) | (go_at_call 13; refine (ris_any _ _ _).mono ?_; rintro e w' ⟨rfl, k⟩) | (go_at_call 11; refine (known_any _).mono ?_; rintro e w' ⟨rfl, k⟩))
  all_goals
    go_wp2
    go_ret
    refine ⟨rfl, ?_⟩
    have hb : Below V.heap.size V w' := by apply And.left; assumption
    rw [unhide HW]
    exact h0.trans (hb.mono hz)

end Go.Proofs.Ytcadiljnkpnodaa

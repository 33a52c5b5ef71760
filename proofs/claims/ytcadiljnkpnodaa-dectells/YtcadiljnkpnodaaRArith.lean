/- The contracts of the document's own Sub, Mul, Div, Cmp, Floor, Ceil. -/
import Derived.Test.YtcadiljnkpnodaaRAdd
import Derived.Test.YtcadiljnkpnodaaMath4
namespace Go.Proofs.Ytcadiljnkpnodaa
open Go.RowKit

set_option maxHeartbeats 800000 in
theorem rsub_any (m s n t : Int) (w : World) (m1 : -1000000000 ≤ m) (m2 : m ≤ 1000000000) (n1 : -1000000000 ≤ n) (n2 : n ≤ 1000000000) (s1 : 0 ≤ s) (s2 : s ≤ 4) (t1 : 0 ≤ t) (t2 : t ≤ 4) :
    Calls Try.prog 17 #[.agg #[.int .i64 m, .int .i64 s], .agg #[.int .i64 n, .int .i64 t]] w fun e w' => e = .returned (.tuple #[.agg #[.int .i64 (fitM (upM m s 4 + upM (-n) t 4) (4)), .int .i64 (fitS (upM m s 4 + upM (-n) t 4) (4))], .int .i64 (fitE (upM m s 4 + upM (-n) t 4) (4))]) ∧ Below w.heap.size w w' := by
  have H := hide (fun w => radd_any m s (-n) t w m1 m2 (by omega) (by omega) s1 s2 t1 t2)
  generalize upM m s 4 + upM (-n) t 4 = x at *
  go_enter Try.func17, Try.ntmps17
  go_wp2_with fail
  refine (unhide H _).mono ?_
  rintro e w4 ⟨rfl, b4⟩
  obtain ⟨c4, f4⟩ := bcell b4
  have z4 : w.heap.size + 2 < w4.heap.size := by have := b4.size; simp at this; omega
  go_wp2
  refine bodyPost_ret (v := .tuple #[.agg #[.int .i64 (fitM _ _), .int .i64 (fitS _ _)], .int .i64 (fitE _ _)]) (by simp [results, Try.results17, go_sem, c4]) rfl ⟨rfl, ?_⟩
  exact ((bstep (below3 w _ _ _) b4).setCell (by simp; omega) _).setCell (by simp; omega) _

theorem rmul_bd {m n : Int} (m1 : -1000000000 ≤ m) (m2 : m ≤ 1000000000) (n1 : -1000000000 ≤ n) (n2 : n ≤ 1000000000) : -1000000000000000000 ≤ m * n ∧ m * n ≤ 1000000000000000000 := by
  by_cases h : 0 ≤ n
  · have := mul_bd m n 1000000000 1000000000 m1 m2 h n2 (by omega); omega
  · have := mul_bd m (-n) 1000000000 1000000000 m1 m2 (by omega) (by omega) (by omega)
    rw [Int.mul_neg] at this; omega

set_option maxHeartbeats 800000 in
theorem rmul_any (m s n t : Int) (w : World) (m1 : -1000000000 ≤ m) (m2 : m ≤ 1000000000) (n1 : -1000000000 ≤ n) (n2 : n ≤ 1000000000) (s1 : 0 ≤ s) (s2 : s ≤ 4) (t1 : 0 ≤ t) (t2 : t ≤ 4) :
    Calls Try.prog 19 #[.agg #[.int .i64 m, .int .i64 s], .agg #[.int .i64 n, .int .i64 t]] w fun e w' => e = .returned (.tuple #[.agg #[.int .i64 (fitM (m * n) (s + t)), .int .i64 (fitS (m * n) (s + t))], .int .i64 (fitE (m * n) (s + t))]) ∧ Below w.heap.size w w' := by
  have mb := rmul_bd m1 m2 n1 n2
  go_enter Try.func19, Try.ntmps19
  go_wp2_with fail
  refine (rfit_any _ _ _).mono ?_
  rintro e w4 ⟨rfl, b4⟩
  obtain ⟨c4, f4⟩ := bcell b4
  have z4 : w.heap.size + 2 < w4.heap.size := by have := b4.size; simp at this; omega
  go_wp2
  refine bodyPost_ret (v := .tuple #[.agg #[.int .i64 (fitM _ _), .int .i64 (fitS _ _)], .int .i64 (fitE _ _)]) (by simp [results, Try.results19, go_sem, c4]) rfl ⟨rfl, ?_⟩
  exact ((bstep (below3 w _ _ _) b4).setCell (by simp; omega) _).setCell (by simp; omega) _

set_option maxHeartbeats 800000 in
theorem rdiv_zero (m s t : Int) (w : World) :
    Calls Try.prog 21 #[.agg #[.int .i64 m, .int .i64 s], .agg #[.int .i64 0, .int .i64 t]] w fun e w' => e = .returned (.tuple #[.agg #[.int .i64 0, .int .i64 0], .int .i64 1]) ∧ Below w.heap.size w w' := by
  go_enter Try.func21, Try.ntmps21
  go_wp2
  exact bodyPost_ret (v := .tuple #[.agg #[.int .i64 0, .int .i64 0], .int .i64 1]) (by simp [results, Try.results21, go_sem]) rfl ⟨rfl, below3 w _ _ _⟩

def rdivQ (m s n t : Int) : Int := if n < 0 then half (-(m * p10 (t + 4).toNat)) (-(n * p10 s.toNat)) else half (m * p10 (t + 4).toNat) (n * p10 s.toNat)

set_option maxHeartbeats 800000 in
theorem rdiv_any (m s n t : Int) (w : World) (m1 : -1000000000 ≤ m) (m2 : m ≤ 1000000000) (n1 : -1000000000 ≤ n) (n2 : n ≤ 1000000000) (s1 : 0 ≤ s) (s2 : s ≤ 4) (t1 : 0 ≤ t) (t2 : t ≤ 4) (hn : n ≠ 0) :
    Calls Try.prog 21 #[.agg #[.int .i64 m, .int .i64 s], .agg #[.int .i64 n, .int .i64 t]] w fun e w' => e = .returned (.tuple #[.agg #[.int .i64 (fitM (rdivQ m s n t) (4)), .int .i64 (fitS (rdivQ m s n t) (4))], .int .i64 (fitE (rdivQ m s n t) (4))]) ∧ Below w.heap.size w w' := by
  have pb := p10_pos (t + 4).toNat
  have pb2 := p10_bd (n := (t + 4).toNat) (by omega)
  have pc := p10_pos s.toNat
  have pc2 := p10_bd (n := s.toNat) (by omega)
  have ub := mul_bd m (p10 (t + 4).toNat) 1000000000 100000000 m1 m2 (by omega) pb2 (by omega)
  have uc := mul_bd n (p10 s.toNat) 1000000000 100000000 n1 n2 (by omega) pc2 (by omega)
  have hn0 : (n == 0) = false := by simpa using hn
  have dq : rdivQ m s n t = if n < 0 then half (-(m * p10 (t + 4).toNat)) (-(n * p10 s.toNat)) else half (m * p10 (t + 4).toNat) (n * p10 s.toNat) := rfl
  generalize rdivQ m s n t = q at *
  have DQ := hide dq
  clear dq
  by_cases hneg : n < 0
  · have DQ' := hide ((unhide DQ).trans (if_pos hneg))
    have hp : n * p10 s.toNat < 0 := by
      have := Int.mul_le_mul_of_nonneg_right (show n ≤ -1 by omega) (show 0 ≤ p10 s.toNat by omega)
      omega
    clear DQ hn
    go_enter Try.func21, Try.ntmps21
    go_wp2_with fail
    go_quiet ((go_at_call 33; exact Calls.quiet_of_same (rpower_any _ _ (by omega) (by omega))))
    go_wp2_with fail
    refine (rhalf_below _ _ _ (by omega) (by omega) (by omega) (by omega)).mono ?_
    rintro e w1 ⟨rfl, k1⟩
    rw [← unhide DQ']
    have b1 := bstep (below_drewN (Below.refl _ _) _) k1
    clear k1
    go_wp2_with fail
    refine (rfit_any _ _ _).mono ?_
    rintro e w4 ⟨rfl, k4⟩
    have b4 := bstep b1 k4
    clear b1 k4
    obtain ⟨c4, f4⟩ := bcell b4
    have z4 : w.heap.size + 2 < w4.heap.size := by have := b4.size; simp at this; omega
    go_wp2
    refine bodyPost_ret (v := .tuple #[.agg #[.int .i64 (fitM _ _), .int .i64 (fitS _ _)], .int .i64 (fitE _ _)]) (by simp [results, Try.results21, go_sem, c4]) rfl ⟨rfl, ?_⟩
    exact ((bstep (below3 w _ _ _) b4).setCell (by simp; omega) _).setCell (by simp; omega) _
  · have DQ' := hide ((unhide DQ).trans (if_neg hneg))
    have hp : 1 ≤ n * p10 s.toNat := by
      have := Int.mul_le_mul_of_nonneg_right (show 1 ≤ n by omega) (show 0 ≤ p10 s.toNat by omega)
      omega
    clear DQ hn
    go_enter Try.func21, Try.ntmps21
    go_wp2_with fail
    go_quiet ((go_at_call 33; exact Calls.quiet_of_same (rpower_any _ _ (by omega) (by omega))))
    go_wp2_with fail
    refine (rhalf_below _ _ _ (by omega) (by omega) (by omega) (by omega)).mono ?_
    rintro e w1 ⟨rfl, k1⟩
    rw [← unhide DQ']
    have b1 := bstep (below_drewN (Below.refl _ _) _) k1
    clear k1
    go_wp2_with fail
    refine (rfit_any _ _ _).mono ?_
    rintro e w4 ⟨rfl, k4⟩
    have b4 := bstep b1 k4
    clear b1 k4
    obtain ⟨c4, f4⟩ := bcell b4
    have z4 : w.heap.size + 2 < w4.heap.size := by have := b4.size; simp at this; omega
    go_wp2
    refine bodyPost_ret (v := .tuple #[.agg #[.int .i64 (fitM _ _), .int .i64 (fitS _ _)], .int .i64 (fitE _ _)]) (by simp [results, Try.results21, go_sem, c4]) rfl ⟨rfl, ?_⟩
    exact ((bstep (below3 w _ _ _) b4).setCell (by simp; omega) _).setCell (by simp; omega) _

set_option maxHeartbeats 800000 in
theorem rcmp_any (m s n t : Int) (w : World) (m1 : -1000000000 ≤ m) (m2 : m ≤ 1000000000) (n1 : -1000000000 ≤ n) (n2 : n ≤ 1000000000) (s1 : 0 ≤ s) (s2 : s ≤ 4) (t1 : 0 ≤ t) (t2 : t ≤ 4) :
    Calls Try.prog 23 #[.agg #[.int .i64 m, .int .i64 s], .agg #[.int .i64 n, .int .i64 t]] w fun e w' => e = .returned (.int .i64 (cmpI (upM m s 4) (upM n t 4))) ∧ Below w.heap.size w w' := by
  have ub1 := upM_bd (m := m) (s := s) (t := 4) m1 m2 (by omega)
  have ub2 := upM_bd (m := n) (s := t) (t := 4) n1 n2 (by omega)
  unfold upM at *
  generalize hf : cmpI (m * p10 (4 - s).toNat) (n * p10 (4 - t).toNat) = f
  by_cases c1 : m * p10 (4 - s).toNat < n * p10 (4 - t).toNat
  · have FIN := hide (show f = -1 by rw [← hf]; exact if_pos c1)
    clear hf
    go_enter Try.func23, Try.ntmps23
    go_wp2_with fail
    go_quiet ((go_at_call 33; exact Calls.quiet_of_same (rpower_any _ _ (by omega) (by omega))))
    go_wp2
    go_ret
    exact ⟨ret_int (unhide FIN).symm, below_drewN (below2 w _ _) _⟩
  · by_cases c2 : n * p10 (4 - t).toNat < m * p10 (4 - s).toNat
    · have FIN := hide (show f = 1 by rw [← hf]; unfold cmpI; rw [if_neg c1, if_pos c2])
      clear hf
      go_enter Try.func23, Try.ntmps23
      go_wp2_with fail
      go_quiet ((go_at_call 33; exact Calls.quiet_of_same (rpower_any _ _ (by omega) (by omega))))
      go_wp2
      go_ret
      exact ⟨ret_int (unhide FIN).symm, below_drewN (below2 w _ _) _⟩
    · have FIN := hide (show f = 0 by rw [← hf]; unfold cmpI; rw [if_neg c1, if_neg c2])
      clear hf
      go_enter Try.func23, Try.ntmps23
      go_wp2_with fail
      go_quiet ((go_at_call 33; exact Calls.quiet_of_same (rpower_any _ _ (by omega) (by omega))))
      go_wp2
      go_ret
      exact ⟨ret_int (unhide FIN).symm, below_drewN (below2 w _ _) _⟩

set_option maxHeartbeats 800000 in
theorem rflr_any (m s : Int) (w : World) (m1 : -1000000000 ≤ m) (m2 : m ≤ 1000000000) (s1 : 0 ≤ s) (s2 : s ≤ 4) :
    Calls Try.prog 25 #[.agg #[.int .i64 m, .int .i64 s]] w fun e w' => e = .returned (.agg #[.int .i64 (m / p10 s.toNat), .int .i64 0]) ∧ Below w.heap.size w w' := by
  have pb := p10_pos s.toNat
  have pb2 := p10_bd (n := s.toNat) (by omega)
  have ⟨fa, fb⟩ := tdiv_floor m (p10 s.toNat) pb
  have tb := tdiv_bd m (p10 s.toNat) 1000000000 pb (by omega) m1 m2
  generalize hp : p10 s.toNat = p at *
  have HP := hide hp
  clear hp
  by_cases h : m.tmod p < 0
  · have F := hide (fa h)
    clear fa fb
    go_enter Try.func25, Try.ntmps25
    go_wp2_with fail
    refine (rpower_any _ _ s1 (by omega)).mono ?_
    rintro e w' ⟨rfl, rfl⟩
    rw [unhide HP]
    go_wp2
    exact bodyPost_ret (v := .agg #[.int .i64 (m.tdiv p - 1), .int .i64 0]) (by simp [results, Try.results25, go_sem]) rfl ⟨by rw [unhide F], below2 w _ _⟩
  · have F := hide (fb h)
    clear fa fb
    go_enter Try.func25, Try.ntmps25
    go_wp2_with fail
    refine (rpower_any _ _ s1 (by omega)).mono ?_
    rintro e w' ⟨rfl, rfl⟩
    rw [unhide HP]
    go_wp2
    exact bodyPost_ret (v := .agg #[.int .i64 (m.tdiv p), .int .i64 0]) (by simp [results, Try.results25, go_sem]) rfl ⟨by rw [unhide F], below2 w _ _⟩

set_option maxHeartbeats 800000 in
theorem rceil_any (m s : Int) (w : World) (m1 : -1000000000 ≤ m) (m2 : m ≤ 1000000000) (s1 : 0 ≤ s) (s2 : s ≤ 4) :
    Calls Try.prog 27 #[.agg #[.int .i64 m, .int .i64 s]] w fun e w' => e = .returned (.agg #[.int .i64 (-(-m / p10 s.toNat)), .int .i64 0]) ∧ Below w.heap.size w w' := by
  have pb := p10_pos s.toNat
  have db := div_abs (-m) (p10 s.toNat) 1000000000 pb (by omega) (by omega) (by omega)
  have H := hide (fun w => rflr_any (-m) s w (by omega) (by omega) s1 s2)
  generalize -m / p10 s.toNat = q at *
  go_enter Try.func27, Try.ntmps27
  go_wp2_with fail
  refine (unhide H _).mono ?_
  rintro e w4 ⟨rfl, b4⟩
  obtain ⟨c4, f4⟩ := bcell b4
  have z4 : w.heap.size + 1 < w4.heap.size := by have := b4.size; simp at this; omega
  have z5 : w.heap.size ≤ w4.heap.size := by omega
  go_wp2
  exact bodyPost_ret (v := .agg #[.int .i64 (-q), .int .i64 0]) (by simp [results, Try.results27, go_sem, c4, z4]) rfl ⟨rfl, (((bstep (below2 w _ _) b4).setCell (by simp) _).setCell (by simp) _).alloc (by simp [World.setCell]; omega) _⟩

end Go.Proofs.Ytcadiljnkpnodaa

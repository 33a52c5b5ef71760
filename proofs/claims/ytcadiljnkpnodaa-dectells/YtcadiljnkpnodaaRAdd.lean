/- The contract of the document's own Add. -/
import Derived.Test.YtcadiljnkpnodaaRef2
import Derived.Test.YtcadiljnkpnodaaKeep
import Derived.Deep.RegionHeld3
import Derived.Deep.DrawnRows
namespace Go.Proofs.Ytcadiljnkpnodaa
open Go.RowKit
attribute [local go_sem ↓] Go.wp_at_zero Go.wp_at_succ

set_option maxHeartbeats 2000000 in
theorem radd_any (m s n t : Int) (w : World) (m1 : -1000000000 ≤ m) (m2 : m ≤ 1000000000) (n1 : -1000000000 ≤ n) (n2 : n ≤ 1000000000) (s1 : 0 ≤ s) (s2 : s ≤ 4) (t1 : 0 ≤ t) (t2 : t ≤ 4) :
    Calls Try.prog 15 #[.agg #[.int .i64 m, .int .i64 s], .agg #[.int .i64 n, .int .i64 t]] w fun e w' => e = .returned (.tuple #[.agg #[.int .i64 (fitM (upM m s 4 + upM n t 4) 4), .int .i64 (fitS (upM m s 4 + upM n t 4) 4)], .int .i64 (fitE (upM m s 4 + upM n t 4) 4)]) ∧ Below w.heap.size w w' := by
  have ub1 := upM_bd (m := m) (s := s) (t := 4) m1 m2 (by omega)
  have ub2 := upM_bd (m := n) (s := t) (t := 4) n1 n2 (by omega)
  unfold upM at *
  have hw1 : IntKind.i64.wrap (4 - s) = 4 - s := i64_in (by omega) (by omega)
  have hw2 : IntKind.i64.wrap (4 - t) = 4 - t := i64_in (by omega) (by omega)
  have hw3 : IntKind.i64.wrap (m * p10 (4 - s).toNat) = m * p10 (4 - s).toNat := i64_in (by omega) (by omega)
  have hw4 : IntKind.i64.wrap (n * p10 (4 - t).toNat) = n * p10 (4 - t).toNat := i64_in (by omega) (by omega)
  have hw5 : IntKind.i64.wrap (m * p10 (4 - s).toNat + n * p10 (4 - t).toNat) = m * p10 (4 - s).toNat + n * p10 (4 - t).toNat := i64_in (by omega) (by omega)
  go_enter Try.func15, Try.ntmps15
  go_wp2_with fail
  have x0 : (((w.alloc (Obj.cells #[.int .i64 m, .int .i64 s] 23)).alloc (Obj.cells #[.int .i64 n, .int .i64 t] 23)).alloc (Obj.cells #[.int .i64 0, .int .i64 0] 23)).cell? ⟨w.heap.size, 0, none⟩ = some (.int .i64 m) := by go_simp
  have x1 : (((w.alloc (Obj.cells #[.int .i64 m, .int .i64 s] 23)).alloc (Obj.cells #[.int .i64 n, .int .i64 t] 23)).alloc (Obj.cells #[.int .i64 0, .int .i64 0] 23)).cell? ⟨w.heap.size, 1, none⟩ = some (.int .i64 s) := by go_simp
  have x2 : (((w.alloc (Obj.cells #[.int .i64 m, .int .i64 s] 23)).alloc (Obj.cells #[.int .i64 n, .int .i64 t] 23)).alloc (Obj.cells #[.int .i64 0, .int .i64 0] 23)).cell? ⟨w.heap.size + 1, 0, none⟩ = some (.int .i64 n) := by go_simp
  have x3 : (((w.alloc (Obj.cells #[.int .i64 m, .int .i64 s] 23)).alloc (Obj.cells #[.int .i64 n, .int .i64 t] 23)).alloc (Obj.cells #[.int .i64 0, .int .i64 0] 23)).cell? ⟨w.heap.size + 1, 1, none⟩ = some (.int .i64 t) := by go_simp
  have x4 : (((w.alloc (Obj.cells #[.int .i64 m, .int .i64 s] 23)).alloc (Obj.cells #[.int .i64 n, .int .i64 t] 23)).alloc (Obj.cells #[.int .i64 0, .int .i64 0] 23)).cell? ⟨w.heap.size + 2, 0, none⟩ = some (.int .i64 0) := by go_simp
  have x5 : (((w.alloc (Obj.cells #[.int .i64 m, .int .i64 s] 23)).alloc (Obj.cells #[.int .i64 n, .int .i64 t] 23)).alloc (Obj.cells #[.int .i64 0, .int .i64 0] 23)).cell? ⟨w.heap.size + 2, 1, none⟩ = some (.int .i64 0) := by go_simp
  have x6 : (((w.alloc (Obj.cells #[.int .i64 m, .int .i64 s] 23)).alloc (Obj.cells #[.int .i64 n, .int .i64 t] 23)).alloc (Obj.cells #[.int .i64 0, .int .i64 0] 23)).frozen? ⟨w.heap.size + 2, 0, none⟩ = false := by go_simp
  have x7 : (((w.alloc (Obj.cells #[.int .i64 m, .int .i64 s] 23)).alloc (Obj.cells #[.int .i64 n, .int .i64 t] 23)).alloc (Obj.cells #[.int .i64 0, .int .i64 0] 23)).frozen? ⟨w.heap.size + 2, 1, none⟩ = false := by go_simp
  have y0 : Below w.heap.size w (((w.alloc (Obj.cells #[.int .i64 m, .int .i64 s] 23)).alloc (Obj.cells #[.int .i64 n, .int .i64 t] 23)).alloc (Obj.cells #[.int .i64 0, .int .i64 0] 23)) := below3 w _ _ _
  have y1 : w.heap.size + 2 < (((w.alloc (Obj.cells #[.int .i64 m, .int .i64 s] 23)).alloc (Obj.cells #[.int .i64 n, .int .i64 t] 23)).alloc (Obj.cells #[.int .i64 0, .int .i64 0] 23)).heap.size := by simp
  generalize (((w.alloc (Obj.cells #[.int .i64 m, .int .i64 s] 23)).alloc (Obj.cells #[.int .i64 n, .int .i64 t] 23)).alloc (Obj.cells #[.int .i64 0, .int .i64 0] 23)) = V at *
  generalize hB : w.heap.size = B at *
  have HB := hide hB
  clear hB
  have S0 : Hid (Below B w V.drew ∧ B + 2 < V.drew.heap.size ∧ V.drew.cell? ⟨B, 0, none⟩ = some (.int .i64 m) ∧ V.drew.cell? ⟨B, 1, none⟩ = some (.int .i64 s) ∧ V.drew.cell? ⟨B + 1, 0, none⟩ = some (.int .i64 n) ∧ V.drew.cell? ⟨B + 1, 1, none⟩ = some (.int .i64 t)) := ⟨y0.drew, y1, x0, x1, x2, x3⟩
  have SK : Hid (∀ x w', (Below B w x ∧ B + 2 < x.heap.size ∧ x.cell? ⟨B, 0, none⟩ = some (.int .i64 m) ∧ x.cell? ⟨B, 1, none⟩ = some (.int .i64 s) ∧ x.cell? ⟨B + 1, 0, none⟩ = some (.int .i64 n) ∧ x.cell? ⟨B + 1, 1, none⟩ = some (.int .i64 t)) → Below x.heap.size x w' → (Below B w w' ∧ B + 2 < w'.heap.size ∧ w'.cell? ⟨B, 0, none⟩ = some (.int .i64 m) ∧ w'.cell? ⟨B, 1, none⟩ = some (.int .i64 s) ∧ w'.cell? ⟨B + 1, 0, none⟩ = some (.int .i64 n) ∧ w'.cell? ⟨B + 1, 1, none⟩ = some (.int .i64 t))) := by
    rintro x w' ⟨h1, h2, h3, h4, h5, h6⟩ k
    exact ⟨h1.trans (k.mono (by omega)), Nat.lt_of_lt_of_le h2 k.size, kcell k (by omega) h3, kcell k (by omega) h4, kcell k (by omega) h5, kcell k (by omega) h6⟩
  have SS : Hid (∀ x u v, (Below B w x ∧ B + 2 < x.heap.size ∧ x.cell? ⟨B, 0, none⟩ = some (.int .i64 m) ∧ x.cell? ⟨B, 1, none⟩ = some (.int .i64 s) ∧ x.cell? ⟨B + 1, 0, none⟩ = some (.int .i64 n) ∧ x.cell? ⟨B + 1, 1, none⟩ = some (.int .i64 t)) → (Below B w ((x.setCell ⟨B + 1 + 1, 0, none⟩ u).setCell ⟨B + 1 + 1, 1, none⟩ v) ∧ B + 2 < ((x.setCell ⟨B + 1 + 1, 0, none⟩ u).setCell ⟨B + 1 + 1, 1, none⟩ v).heap.size ∧ ((x.setCell ⟨B + 1 + 1, 0, none⟩ u).setCell ⟨B + 1 + 1, 1, none⟩ v).cell? ⟨B, 0, none⟩ = some (.int .i64 m) ∧ ((x.setCell ⟨B + 1 + 1, 0, none⟩ u).setCell ⟨B + 1 + 1, 1, none⟩ v).cell? ⟨B, 1, none⟩ = some (.int .i64 s) ∧ ((x.setCell ⟨B + 1 + 1, 0, none⟩ u).setCell ⟨B + 1 + 1, 1, none⟩ v).cell? ⟨B + 1, 0, none⟩ = some (.int .i64 n) ∧ ((x.setCell ⟨B + 1 + 1, 0, none⟩ u).setCell ⟨B + 1 + 1, 1, none⟩ v).cell? ⟨B + 1, 1, none⟩ = some (.int .i64 t))) := by
    rintro x u v ⟨h1, h2, h3, h4, h5, h6⟩
    exact ⟨(h1.setCell (by simp; omega) _).setCell (by simp; omega) _, by simpa [World.setCell] using h2, by go_simp, by go_simp, by go_simp, by go_simp⟩
  go_region_held3 (fun w' => Below B w w' ∧ B + 2 < w'.heap.size ∧ w'.cell? ⟨B, 0, none⟩ = some (.int .i64 m) ∧ w'.cell? ⟨B, 1, none⟩ = some (.int .i64 s) ∧ w'.cell? ⟨B + 1, 0, none⟩ = some (.int .i64 n) ∧ w'.cell? ⟨B + 1, 1, none⟩ = some (.int .i64 t))
    (first | exact unhide S0 | assumption | exact unhide SK _ _ (by assumption) k | exact unhide SS _ _ _ (by assumption))
    (first | (go_at_call 33; refine (rpower_any _ _ (by omega) (by omega)).mono ?_; rintro e w' ⟨rfl, rfl⟩) | (go_at_call 9; refine (rfit_any _ _ _).mono ?_; rintro e w4 ⟨rfl, k⟩; have r0 : w4.cell? ⟨B + 2, 0, none⟩ = some (.int .i64 0) := kcell k y1 x4; have r1 : w4.cell? ⟨B + 2, 1, none⟩ = some (.int .i64 0) := kcell k y1 x5; have r2 : w4.frozen? ⟨B + 2, 0, none⟩ = false := kfroz k y1 x6; have r3 : w4.frozen? ⟨B + 2, 1, none⟩ = false := kfroz k y1 x7))
  all_goals
    go_wp2
    rw [unhide HB]
    refine bodyPost_ret (v := .tuple #[.agg #[.int .i64 (fitM _ _), .int .i64 (fitS _ _)], .int .i64 (fitE _ _)]) (by simp [results, Try.results15, go_sem, r0, r1]) rfl ⟨rfl, ?_⟩
    apply And.left
    assumption

end Go.Proofs.Ytcadiljnkpnodaa

/- The walk of DecOrders over decimals that may be, out of what its callees answer. -/
import Derived.Test.YtcadiljnkpnodaaMay
import Derived.Test.YtcadiljnkpnodaaKeep
import Derived.Deep.RegionHeld3
import Derived.Deep.DrawnRows
import Derived.Deep.CutBlock
import Derived.Test.YtcadiljnkpnodaaRegMan
import Derived.Deep.DeepCutAuto
namespace Go.Proofs.Ytcadiljnkpnodaa
open Go.RowKit
attribute [local go_sem ↓] Go.wp_at_zero Go.wp_at_succ

set_option maxRecDepth 100000 in
set_option maxHeartbeats 8000000 in
theorem decOrders_core (m s n t P1 Q1 E1 P2 Q2 E2 D QD E3 K L : Int) (w : World) (ha : isB m s = true) (hb : isB n t = true)
    (C1 : Hid (∀ w, Calls Try.prog 14 #[.agg #[.int .i64 m, .int .i64 s], .agg #[.int .i64 n, .int .i64 t]] w fun e w' => e = .returned (.tuple #[.agg #[.int .i64 P1, .int .i64 Q1], .int .i64 E1]) ∧ Below w.heap.size w w'))
    (C2 : Hid (∀ w, Calls Try.prog 14 #[.agg #[.int .i64 n, .int .i64 t], .agg #[.int .i64 m, .int .i64 s]] w fun e w' => e = .returned (.tuple #[.agg #[.int .i64 P1, .int .i64 Q1], .int .i64 E1]) ∧ Below w.heap.size w w'))
    (C3 : Hid (∀ w, Calls Try.prog 18 #[.agg #[.int .i64 m, .int .i64 s], .agg #[.int .i64 n, .int .i64 t]] w fun e w' => e = .returned (.tuple #[.agg #[.int .i64 P2, .int .i64 Q2], .int .i64 E2]) ∧ Below w.heap.size w w'))
    (C4 : Hid (∀ w, Calls Try.prog 18 #[.agg #[.int .i64 n, .int .i64 t], .agg #[.int .i64 m, .int .i64 s]] w fun e w' => e = .returned (.tuple #[.agg #[.int .i64 P2, .int .i64 Q2], .int .i64 E2]) ∧ Below w.heap.size w w'))
    (C5 : Hid (∀ w, Calls Try.prog 16 #[.agg #[.int .i64 m, .int .i64 s], .agg #[.int .i64 n, .int .i64 t]] w fun e w' => e = .returned (.tuple #[.agg #[.int .i64 D, .int .i64 QD], .int .i64 E3]) ∧ Below w.heap.size w w'))
    (C6 : Hid (∀ w, Calls Try.prog 22 #[.agg #[.int .i64 m, .int .i64 s], .agg #[.int .i64 n, .int .i64 t]] w fun e w' => e = .returned (.int .i64 K) ∧ Below w.heap.size w w'))
    (C7 : Hid (∀ w, Calls Try.prog 22 #[.agg #[.int .i64 n, .int .i64 t], .agg #[.int .i64 m, .int .i64 s]] w fun e w' => e = .returned (.int .i64 L) ∧ Below w.heap.size w w'))
    (C8 : Hid (∀ w, Calls Try.prog 11 #[] w fun e w' => e = .returned (.bool true) ∧ Below w.heap.size w w'))
    (hL : IntKind.i64.wrap (-L) = K) (bm bs : Bool) (hmn : (m == n) = bm) (hst : (s == t) = bs) (hK : (K == 0) = (bm && bs))
    (hD : E3 = 3 ∨ (E3 = 0 ∧ decide (0 < D) = true ∧ decide (0 < K) = true) ∨ (E3 = 0 ∧ decide (0 < D) = false ∧ decide (0 < K) = false) ∨ (E3 = 0 ∧ decide (0 < D) = false ∧ decide (0 < K) = true ∧ (D == 0) = true)) :
    Calls Try.prog 5 #[.agg #[.int .i64 m, .int .i64 s], .agg #[.int .i64 n, .int .i64 t]] w fun e w' => e = .returned (.bool true) ∧ Below w.heap.size w w' := by
  have HA := hide ha; have HB := hide hb; have HD := hide hD
  clear ha hb hD
  go_enter Try.func5, Try.ntmps5
  go_wp2_with fail
  refine (may2_any m s n t _ _ (by simp) (by go_simp) (by go_simp) (by go_simp) (by go_simp)).mono ?_
  rintro e V0 ⟨rfl, k0⟩
  rw [unhide HA, unhide HB]
  have a0 : Has V0 w.heap.size m s := ⟨by have := k0.size; simp at this; omega, kcell k0 (by simp; omega) (by go_simp), kcell k0 (by simp; omega) (by go_simp)⟩
  have b0 : Has V0 (w.heap.size + 1) n t := ⟨by have := k0.size; simp at this; omega, kcell k0 (by simp) (by go_simp), kcell k0 (by simp) (by go_simp)⟩
  have h0 : Below w.heap.size w V0 := bstep (below3 w _ _ _) k0
  clear k0
  generalize hB : w.heap.size = A0 at *
  have HW := hide hB
  clear hB
  obtain ⟨a1, a2, a3⟩ := id a0
  obtain ⟨bx1, bx2, bx3⟩ := id b0
  go_wp2_with fail
  clear a1 a2 a3 bx1 bx2 bx3
  refine (unhide C1 _).mono ?_
  rintro e w1 ⟨rfl, k1⟩
  have aa := a0.call k1
  have bb := b0.call k1
  have h1 : Below A0 w (w1.alloc (Obj.cells #[.int .i64 P1, .int .i64 Q1] 23)) := (h0.trans (k1.mono (by have := h0.size; rw [unhide HW] at this; exact this))).alloc (by have := h0.size; rw [unhide HW] at this; exact Nat.le_trans this k1.size) _
  have c0 := Has.new w1 P1 Q1 23
  have aaa := aa.put (Obj.cells #[.int .i64 P1, .int .i64 Q1] 23)
  have bbb := bb.put (Obj.cells #[.int .i64 P1, .int .i64 Q1] 23)
  obtain ⟨a1, a2, a3⟩ := aa
  obtain ⟨bx1, bx2, bx3⟩ := bb
  clear a0 b0 h0 k1
  go_wp2_with fail
  clear a1 a2 a3 bx1 bx2 bx3
  generalize w1.alloc (Obj.cells #[.int .i64 P1, .int .i64 Q1] 23) = V1 at *
  generalize w1.heap.size = B1 at *
  have a0 := aaa
  have b0 := bbb
  have h0 := h1
  have d0 := c0
  clear aaa bbb h1 c0
  obtain ⟨a1, a2, a3⟩ := id a0
  obtain ⟨bx1, bx2, bx3⟩ := id b0
  clear a1 a2 a3 bx1 bx2 bx3
  refine (unhide C2 _).mono ?_
  rintro e w2 ⟨rfl, k2⟩
  have aa := a0.call k2
  have bb := b0.call k2
  have h2 : Below A0 w (w2.alloc (Obj.cells #[.int .i64 P1, .int .i64 Q1] 23)) := (h0.trans (k2.mono (by have := h0.size; rw [unhide HW] at this; exact this))).alloc (by have := h0.size; rw [unhide HW] at this; exact Nat.le_trans this k2.size) _
  have c0 := (d0.call k2).put (Obj.cells #[.int .i64 P1, .int .i64 Q1] 23)
  have c1 := Has.new w2 P1 Q1 23
  have aaa := aa.put (Obj.cells #[.int .i64 P1, .int .i64 Q1] 23)
  have bbb := bb.put (Obj.cells #[.int .i64 P1, .int .i64 Q1] 23)
  obtain ⟨a1, a2, a3⟩ := aa
  obtain ⟨bx1, bx2, bx3⟩ := bb
  clear a0 b0 h0 k2 d0
  go_wp2_with fail
  clear a1 a2 a3 bx1 bx2 bx3
  generalize w2.alloc (Obj.cells #[.int .i64 P1, .int .i64 Q1] 23) = V2 at *
  generalize w2.heap.size = B2 at *
  have a0 := aaa
  have b0 := bbb
  have h0 := h2
  have d0 := c0
  have d1 := c1
  clear aaa bbb h2 c0 c1
  obtain ⟨a1, a2, a3⟩ := id a0
  obtain ⟨bx1, bx2, bx3⟩ := id b0
  clear a1 a2 a3 bx1 bx2 bx3
  refine (unhide C3 _).mono ?_
  rintro e w3 ⟨rfl, k3⟩
  have aa := a0.call k3
  have bb := b0.call k3
  have h3 : Below A0 w (w3.alloc (Obj.cells #[.int .i64 P2, .int .i64 Q2] 23)) := (h0.trans (k3.mono (by have := h0.size; rw [unhide HW] at this; exact this))).alloc (by have := h0.size; rw [unhide HW] at this; exact Nat.le_trans this k3.size) _
  have c0 := (d0.call k3).put (Obj.cells #[.int .i64 P2, .int .i64 Q2] 23)
  have c1 := (d1.call k3).put (Obj.cells #[.int .i64 P2, .int .i64 Q2] 23)
  have c2 := Has.new w3 P2 Q2 23
  have aaa := aa.put (Obj.cells #[.int .i64 P2, .int .i64 Q2] 23)
  have bbb := bb.put (Obj.cells #[.int .i64 P2, .int .i64 Q2] 23)
  obtain ⟨a1, a2, a3⟩ := aa
  obtain ⟨bx1, bx2, bx3⟩ := bb
  clear a0 b0 h0 k3 d0 d1
  go_wp2_with fail
  clear a1 a2 a3 bx1 bx2 bx3
  generalize w3.alloc (Obj.cells #[.int .i64 P2, .int .i64 Q2] 23) = V3 at *
  generalize w3.heap.size = B3 at *
  have a0 := aaa
  have b0 := bbb
  have h0 := h3
  have d0 := c0
  have d1 := c1
  have d2 := c2
  clear aaa bbb h3 c0 c1 c2
  obtain ⟨a1, a2, a3⟩ := id a0
  obtain ⟨bx1, bx2, bx3⟩ := id b0
  clear a1 a2 a3 bx1 bx2 bx3
  refine (unhide C4 _).mono ?_
  rintro e w4 ⟨rfl, k4⟩
  have aa := a0.call k4
  have bb := b0.call k4
  have h4 : Below A0 w (w4.alloc (Obj.cells #[.int .i64 P2, .int .i64 Q2] 23)) := (h0.trans (k4.mono (by have := h0.size; rw [unhide HW] at this; exact this))).alloc (by have := h0.size; rw [unhide HW] at this; exact Nat.le_trans this k4.size) _
  have c0 := (d0.call k4).put (Obj.cells #[.int .i64 P2, .int .i64 Q2] 23)
  have c1 := (d1.call k4).put (Obj.cells #[.int .i64 P2, .int .i64 Q2] 23)
  have c2 := (d2.call k4).put (Obj.cells #[.int .i64 P2, .int .i64 Q2] 23)
  have c3 := Has.new w4 P2 Q2 23
  have aaa := aa.put (Obj.cells #[.int .i64 P2, .int .i64 Q2] 23)
  have bbb := bb.put (Obj.cells #[.int .i64 P2, .int .i64 Q2] 23)
  obtain ⟨a1, a2, a3⟩ := aa
  obtain ⟨bx1, bx2, bx3⟩ := bb
  clear a0 b0 h0 k4 d0 d1 d2
  go_wp2_with fail
  clear a1 a2 a3 bx1 bx2 bx3
  generalize w4.alloc (Obj.cells #[.int .i64 P2, .int .i64 Q2] 23) = V4 at *
  generalize w4.heap.size = B4 at *
  have a0 := aaa
  have b0 := bbb
  have h0 := h4
  have d0 := c0
  have d1 := c1
  have d2 := c2
  have d3 := c3
  clear aaa bbb h4 c0 c1 c2 c3
  obtain ⟨a1, a2, a3⟩ := id a0
  obtain ⟨bx1, bx2, bx3⟩ := id b0
  clear a1 a2 a3 bx1 bx2 bx3
  have SK : Hid (∀ w', Below V4.heap.size V4 w' → Below V4.heap.size V4 w' ∧ w'.cell? ⟨A0, 0, none⟩ = some (.int .i64 m) ∧ w'.cell? ⟨A0, 1, none⟩ = some (.int .i64 s) ∧ w'.cell? ⟨(A0 + 1), 0, none⟩ = some (.int .i64 n) ∧ w'.cell? ⟨(A0 + 1), 1, none⟩ = some (.int .i64 t) ∧ w'.cell? ⟨B1, 0, none⟩ = some (.int .i64 P1) ∧ w'.cell? ⟨B1, 1, none⟩ = some (.int .i64 Q1) ∧ w'.cell? ⟨B2, 0, none⟩ = some (.int .i64 P1) ∧ w'.cell? ⟨B2, 1, none⟩ = some (.int .i64 Q1) ∧ w'.cell? ⟨B3, 0, none⟩ = some (.int .i64 P2) ∧ w'.cell? ⟨B3, 1, none⟩ = some (.int .i64 Q2) ∧ w'.cell? ⟨B4, 0, none⟩ = some (.int .i64 P2) ∧ w'.cell? ⟨B4, 1, none⟩ = some (.int .i64 Q2)) := by
    intro w' h
    exact ⟨h, (a0.call h).2.1, (a0.call h).2.2, (b0.call h).2.1, (b0.call h).2.2, (d0.call h).2.1, (d0.call h).2.2, (d1.call h).2.1, (d1.call h).2.2, (d2.call h).2.1, (d2.call h).2.2, (d3.call h).2.1, (d3.call h).2.2⟩
  clear d0 d1 d2 d3 C1 C2 C3 C4 HA HB
  go_cut [81] (fun c wx => c = .bool false ∧ Below V4.heap.size V4 wx)
  case first =>
    cases bm <;> cases bs
    all_goals simp only [Bool.and_true, Bool.and_false, Bool.and_self] at hK
    all_goals
      go_region_held3 (fun w' => Below V4.heap.size V4 w' ∧ w'.cell? ⟨A0, 0, none⟩ = some (.int .i64 m) ∧ w'.cell? ⟨A0, 1, none⟩ = some (.int .i64 s) ∧ w'.cell? ⟨(A0 + 1), 0, none⟩ = some (.int .i64 n) ∧ w'.cell? ⟨(A0 + 1), 1, none⟩ = some (.int .i64 t) ∧ w'.cell? ⟨B1, 0, none⟩ = some (.int .i64 P1) ∧ w'.cell? ⟨B1, 1, none⟩ = some (.int .i64 Q1) ∧ w'.cell? ⟨B2, 0, none⟩ = some (.int .i64 P1) ∧ w'.cell? ⟨B2, 1, none⟩ = some (.int .i64 Q1) ∧ w'.cell? ⟨B3, 0, none⟩ = some (.int .i64 P2) ∧ w'.cell? ⟨B3, 1, none⟩ = some (.int .i64 Q2) ∧ w'.cell? ⟨B4, 0, none⟩ = some (.int .i64 P2) ∧ w'.cell? ⟨B4, 1, none⟩ = some (.int .i64 Q2))
        (first | exact unhide SK _ (Below.refl _ _).drew | (refine unhide SK _ (bstep ?_ k); apply And.left; assumption))
        (first | (go_at_call_of 22 ([.agg #[.int .i64 m, .int .i64 s], .agg #[.int .i64 n, .int .i64 t]] : List Value); refine (unhide C6 _).mono ?_; rintro e w' ⟨rfl, k⟩) | (go_at_call_of 22 ([.agg #[.int .i64 n, .int .i64 t], .agg #[.int .i64 m, .int .i64 s]] : List Value); refine (unhide C7 _).mono ?_; rintro e w' ⟨rfl, k⟩))
    all_goals
      go_wp2_with fail
      go_meet
      refine ⟨rfl, ?_⟩
      apply And.left
      assumption
  case rest =>
    obtain ⟨rfl, hv⟩ := hcut
    have az := a0.call hv
    have bz := b0.call hv
    have hz : A0 ≤ V4.heap.size := by have := a0.1; omega
    have hw := h0.trans (hv.mono hz)
    have hsz := hw.size
    rw [unhide HW] at hsz
    clear a0 b0 h0 SK C7 hL hK hmn hst hz hv
    obtain ⟨a1, a2, a3⟩ := id az
    obtain ⟨bx1, bx2, bx3⟩ := id bz
    go_wp2_with fail
    clear a1 a2 a3 bx1 bx2 bx3
    refine (unhide C5 _).mono ?_
    rintro e w5 ⟨rfl, k5⟩
    have aa := az.call k5
    have bb := bz.call k5
    have h5 : Below A0 w (w5.alloc (Obj.cells #[.int .i64 D, .int .i64 QD] 23)) := (hw.trans (k5.mono hsz)).alloc (Nat.le_trans hsz k5.size) _
    have aaa := aa.put (Obj.cells #[.int .i64 D, .int .i64 QD] 23)
    have bbb := bb.put (Obj.cells #[.int .i64 D, .int .i64 QD] 23)
    have ddd := Has.new w5 D QD 23
    obtain ⟨a1, a2, a3⟩ := aa
    obtain ⟨bx1, bx2, bx3⟩ := bb
    clear az bz hw hsz k5 C5
    go_wp2_with fail
    clear a1 a2 a3 bx1 bx2 bx3
    generalize w5.alloc (Obj.cells #[.int .i64 D, .int .i64 QD] 23) = V5 at *
    generalize w5.heap.size = B5 at *
    have SK : Hid (∀ w', Below V5.heap.size V5 w' → Below V5.heap.size V5 w' ∧ w'.cell? ⟨A0, 0, none⟩ = some (.int .i64 m) ∧ w'.cell? ⟨A0, 1, none⟩ = some (.int .i64 s) ∧ w'.cell? ⟨(A0 + 1), 0, none⟩ = some (.int .i64 n) ∧ w'.cell? ⟨(A0 + 1), 1, none⟩ = some (.int .i64 t) ∧ w'.cell? ⟨B5, 0, none⟩ = some (.int .i64 D) ∧ w'.cell? ⟨B5, 1, none⟩ = some (.int .i64 QD)) := by
      intro w' h
      exact ⟨h, (aaa.call h).2.1, (aaa.call h).2.2, (bbb.call h).2.1, (bbb.call h).2.2, (ddd.call h).2.1, (ddd.call h).2.2⟩
    have hz : A0 ≤ V5.heap.size := by have := aaa.1; omega
    clear aaa bbb ddd
    rcases unhide HD with rfl | ⟨rfl, hc1, hc2⟩ | ⟨rfl, hc1, hc2⟩ | ⟨rfl, hc1, hc2, hc3⟩
    · clear HD
      refine wp_region_noPanic ?_
      refine wp_region_held_drew (S := fun w' => Below V5.heap.size V5 w' ∧ w'.cell? ⟨A0, 0, none⟩ = some (.int .i64 m) ∧ w'.cell? ⟨A0, 1, none⟩ = some (.int .i64 s) ∧ w'.cell? ⟨(A0 + 1), 0, none⟩ = some (.int .i64 n) ∧ w'.cell? ⟨(A0 + 1), 1, none⟩ = some (.int .i64 t) ∧ w'.cell? ⟨B5, 0, none⟩ = some (.int .i64 D) ∧ w'.cell? ⟨B5, 1, none⟩ = some (.int .i64 QD)) (by kernel_rfl) ?hSa0 (fun hHeld => ?_)
      case hSa0 => exact unhide SK _ (Below.refl _ _).drew
      refine takeAt 0 (some 88) ?va0 ⟨_, rfl, rfl, rfl, ?hya0⟩ (by kernel_rfl) (by kernel_rfl) (by kernel_rfl) (fun _ _ _ h => h) (by assumption) ?_
      case hya0 => (intro w0 hSw; (try dsimp only at hSw); go_simp; try (with_reducible rfl))
      simp only [Act.put, List.setIfInBounds_toArray, List.set_cons_zero, List.set_cons_succ]
      refine takeAt 1 (some 89) ?va1 ⟨_, rfl, rfl, rfl, ?hya1⟩ (by kernel_rfl) (by kernel_rfl) (by kernel_rfl) (fun _ _ _ h => h) (by assumption) ?_
      case hya1 => (intro w0 hSw; (try dsimp only at hSw); go_simp; try (with_reducible rfl))
      simp only [Act.put, List.setIfInBounds_toArray, List.set_cons_zero, List.set_cons_succ]
      refine takeAt 2 (some 90) ?va2 ⟨_, rfl, rfl, rfl, ?hya2⟩ (by kernel_rfl) (by kernel_rfl) (by kernel_rfl) (fun _ _ _ h => h) (by assumption) ?_
      case hya2 => (intro w0 hSw; (try dsimp only at hSw); go_simp; try (with_reducible rfl))
      simp only [Act.put, List.setIfInBounds_toArray, List.set_cons_zero, List.set_cons_succ]
      refine skipAt 3 (some 91) ⟨_, rfl, rfl, rfl⟩ (by kernel_rfl) (by kernel_rfl) (by kernel_rfl) (fun _ _ _ h => h) (by assumption) ?_
      simp only [Act.put, List.setIfInBounds_toArray, List.set_cons_zero, List.set_cons_succ]
      refine skipAt 4 (some 92) ⟨_, rfl, rfl, rfl⟩ (by kernel_rfl) (by kernel_rfl) (by kernel_rfl) (fun _ _ _ h => h) (by assumption) ?_
      simp only [Act.put, List.setIfInBounds_toArray, List.set_cons_zero, List.set_cons_succ]
      refine skipAt 5 (some 93) ⟨_, rfl, rfl, rfl⟩ (by kernel_rfl) (by kernel_rfl) (by kernel_rfl) (fun _ _ _ h => h) (by assumption) ?_
      simp only [Act.put, List.setIfInBounds_toArray, List.set_cons_zero, List.set_cons_succ]
      refine skipAt 6 (some 94) ⟨_, rfl, rfl, rfl⟩ (by kernel_rfl) (by kernel_rfl) (by kernel_rfl) (fun _ _ _ h => h) (by assumption) ?_
      simp only [Act.put, List.setIfInBounds_toArray, List.set_cons_zero, List.set_cons_succ]
      refine skipAt 7 (some 95) ⟨_, rfl, rfl, rfl⟩ (by kernel_rfl) (by kernel_rfl) (by kernel_rfl) (fun _ _ _ h => h) (by assumption) ?_
      simp only [Act.put, List.setIfInBounds_toArray, List.set_cons_zero, List.set_cons_succ]
      refine skipAt 8 (some 96) ⟨_, rfl, rfl, rfl⟩ (by kernel_rfl) (by kernel_rfl) (by kernel_rfl) (fun _ _ _ h => h) (by assumption) ?_
      simp only [Act.put, List.setIfInBounds_toArray, List.set_cons_zero, List.set_cons_succ]
      refine skipAt 9 (some 97) ⟨_, rfl, rfl, rfl⟩ (by kernel_rfl) (by kernel_rfl) (by kernel_rfl) (fun _ _ _ h => h) (by assumption) ?_
      simp only [Act.put, List.setIfInBounds_toArray, List.set_cons_zero, List.set_cons_succ]
      refine skipAt 10 (some 98) ⟨_, rfl, rfl, rfl⟩ (by kernel_rfl) (by kernel_rfl) (by kernel_rfl) (fun _ _ _ h => h) (by assumption) ?_
      simp only [Act.put, List.setIfInBounds_toArray, List.set_cons_zero, List.set_cons_succ]
      refine takeAt 11 (some 99) ?va11 ⟨_, rfl, rfl, rfl, ?hya11⟩ (by kernel_rfl) (by kernel_rfl) (by kernel_rfl) (fun _ _ _ h => h) (by assumption) ?_
      case hya11 => (intro w0 hSw; (try dsimp only at hSw); go_simp; try (with_reducible rfl))
      simp only [Act.put, List.setIfInBounds_toArray, List.set_cons_zero, List.set_cons_succ]
      refine takeAt 12 (some 100) ?va12 ⟨_, rfl, rfl, rfl, ?hya12⟩ (by kernel_rfl) (by kernel_rfl) (by kernel_rfl) (fun _ _ _ h => h) (by assumption) ?_
      case hya12 => (intro w0 hSw; (try dsimp only at hSw); go_simp; try (with_reducible rfl))
      simp only [Act.put, List.setIfInBounds_toArray, List.set_cons_zero, List.set_cons_succ]
      refine skipAt 13 (some 101) ⟨_, rfl, rfl, rfl⟩ (by kernel_rfl) (by kernel_rfl) (by kernel_rfl) (fun _ _ _ h => h) (by assumption) ?_
      simp only [Act.put, List.setIfInBounds_toArray, List.set_cons_zero, List.set_cons_succ]
      refine skipAt 14 (some 102) ⟨_, rfl, rfl, rfl⟩ (by kernel_rfl) (by kernel_rfl) (by kernel_rfl) (fun _ _ _ h => h) (by assumption) ?_
      simp only [Act.put, List.setIfInBounds_toArray, List.set_cons_zero, List.set_cons_succ]
      refine skipAt 15 (some 103) ⟨_, rfl, rfl, rfl⟩ (by kernel_rfl) (by kernel_rfl) (by kernel_rfl) (fun _ _ _ h => h) (by assumption) ?_
      simp only [Act.put, List.setIfInBounds_toArray, List.set_cons_zero, List.set_cons_succ]
      refine takeAt 16 (some 104) ?va16 ⟨_, rfl, rfl, rfl, ?hya16⟩ (by kernel_rfl) (by kernel_rfl) (by kernel_rfl) (fun _ _ _ h => h) (by assumption) ?_
      case hya16 => (intro w0 hSw; (try dsimp only at hSw); go_simp; try (with_reducible rfl))
      simp only [Act.put, List.setIfInBounds_toArray, List.set_cons_zero, List.set_cons_succ]
      refine takeAt 17 (some 105) ?va17 ⟨_, rfl, rfl, rfl, ?hya17⟩ (by kernel_rfl) (by kernel_rfl) (by kernel_rfl) (fun _ _ _ h => h) (by assumption) ?_
      case hya17 => (intro w0 hSw; (try dsimp only at hSw); go_simp; try (with_reducible rfl))
      simp only [Act.put, List.setIfInBounds_toArray, List.set_cons_zero, List.set_cons_succ]
      refine wpAnyH_ready (rs := [18]) (by kernel_rfl) (by simp) ?_
      refine AllReadyH.cons rfl (fun K0 hK0 => ?_) AllReadyH.nil
      go_simp
      refine (unhide C8 _).mono ?_
      rintro e u2 ⟨rfl, ku2⟩
      go_wp2_with fail
      refine hK0.out _ _ ?hSa18 (fun hHeld1 => ?_)
      case hSa18 => exact unhide SK _ (keep_call hHeld ku2)
      clear hK0 K0 hHeld
      have hHeld := hHeld1
      clear hHeld1
      try simp only [Act.put, List.setIfInBounds_toArray, List.set_cons_zero, List.set_cons_succ]
      refine takeAt 19 (some 107) ?va19 ⟨_, rfl, rfl, rfl, ?hya19⟩ (by kernel_rfl) (by kernel_rfl) (by kernel_rfl) (fun _ _ _ h => h) (by assumption) ?_
      case hya19 => (intro w0 hSw; (try dsimp only at hSw); go_simp; try (with_reducible rfl))
      simp only [Act.put, List.setIfInBounds_toArray, List.set_cons_zero, List.set_cons_succ]
      refine takeAt 20 (some 4) ?va20 ⟨_, rfl, rfl, rfl, ?hya20⟩ (by kernel_rfl) (by kernel_rfl) (by kernel_rfl) (fun _ _ _ h => h) (by assumption) ?_
      case hya20 => (intro w0 hSw; (try dsimp only at hSw); go_simp; try (with_reducible rfl))
      simp only [Act.put, List.setIfInBounds_toArray, List.set_cons_zero, List.set_cons_succ]
      refine wpAnyH_done (by kernel_rfl) ?_ _
      refine NoPanic.normal ?_
      go_wp2
      go_ret
      refine ⟨rfl, ?_⟩
      rw [unhide HW]
      exact h5.trans (hHeld.1.mono hz)
    · clear HD
      refine wp_region_noPanic ?_
      refine wp_region_held_drew (S := fun w' => Below V5.heap.size V5 w' ∧ w'.cell? ⟨A0, 0, none⟩ = some (.int .i64 m) ∧ w'.cell? ⟨A0, 1, none⟩ = some (.int .i64 s) ∧ w'.cell? ⟨(A0 + 1), 0, none⟩ = some (.int .i64 n) ∧ w'.cell? ⟨(A0 + 1), 1, none⟩ = some (.int .i64 t) ∧ w'.cell? ⟨B5, 0, none⟩ = some (.int .i64 D) ∧ w'.cell? ⟨B5, 1, none⟩ = some (.int .i64 QD)) (by kernel_rfl) ?hSb0 (fun hHeld => ?_)
      case hSb0 => exact unhide SK _ (Below.refl _ _).drew
      refine takeAt 0 (some 88) ?vb0 ⟨_, rfl, rfl, rfl, ?hyb0⟩ (by kernel_rfl) (by kernel_rfl) (by kernel_rfl) (fun _ _ _ h => h) (by assumption) ?_
      case hyb0 => (intro w0 hSw; (try dsimp only at hSw); go_simp; try (with_reducible rfl))
      simp only [Act.put, List.setIfInBounds_toArray, List.set_cons_zero, List.set_cons_succ]
      refine takeAt 1 (some 89) ?vb1 ⟨_, rfl, rfl, rfl, ?hyb1⟩ (by kernel_rfl) (by kernel_rfl) (by kernel_rfl) (fun _ _ _ h => h) (by assumption) ?_
      case hyb1 => (intro w0 hSw; (try dsimp only at hSw); go_simp; try (with_reducible rfl))
      simp only [Act.put, List.setIfInBounds_toArray, List.set_cons_zero, List.set_cons_succ]
      refine takeAt 2 (some 90) ?vb2 ⟨_, rfl, rfl, rfl, ?hyb2⟩ (by kernel_rfl) (by kernel_rfl) (by kernel_rfl) (fun _ _ _ h => h) (by assumption) ?_
      case hyb2 => (intro w0 hSw; (try dsimp only at hSw); go_simp; try (with_reducible rfl))
      simp only [Act.put, List.setIfInBounds_toArray, List.set_cons_zero, List.set_cons_succ]
      refine takeAt 3 (some 91) ?vb3 ⟨_, rfl, rfl, rfl, ?hyb3⟩ (by kernel_rfl) (by kernel_rfl) (by kernel_rfl) (fun _ _ _ h => h) (by assumption) ?_
      case hyb3 => (intro w0 hSw; (try dsimp only at hSw); go_simp; try (with_reducible rfl))
      simp only [Act.put, List.setIfInBounds_toArray, List.set_cons_zero, List.set_cons_succ]
      refine takeAt 4 (some 92) ?vb4 ⟨_, rfl, rfl, rfl, ?hyb4⟩ (by kernel_rfl) (by kernel_rfl) (by kernel_rfl) (fun _ _ _ h => h) (by assumption) ?_
      case hyb4 => (intro w0 hSw; (try dsimp only at hSw); go_simp; try (with_reducible rfl))
      simp only [Act.put, List.setIfInBounds_toArray, List.set_cons_zero, List.set_cons_succ]
      refine takeAt 5 (some 93) ?vb5 ⟨_, rfl, rfl, rfl, ?hyb5⟩ (by kernel_rfl) (by kernel_rfl) (by kernel_rfl) (fun _ _ _ h => h) (by assumption) ?_
      case hyb5 => (intro w0 hSw; (try dsimp only at hSw); go_simp; try (with_reducible rfl))
      simp only [Act.put, List.setIfInBounds_toArray, List.set_cons_zero, List.set_cons_succ]
      refine takeAt 6 (some 94) ?vb6 ⟨_, rfl, rfl, rfl, ?hyb6⟩ (by kernel_rfl) (by kernel_rfl) (by kernel_rfl) (fun _ _ _ h => h) (by assumption) ?_
      case hyb6 => (intro w0 hSw; (try dsimp only at hSw); go_simp; try (with_reducible rfl))
      simp only [Act.put, List.setIfInBounds_toArray, List.set_cons_zero, List.set_cons_succ]
      refine takeAt 7 (some 95) ?vb7 ⟨_, rfl, rfl, rfl, ?hyb7⟩ (by kernel_rfl) (by kernel_rfl) (by kernel_rfl) (fun _ _ _ h => h) (by assumption) ?_
      case hyb7 => (intro w0 hSw; (try dsimp only at hSw); go_simp; try (with_reducible rfl))
      simp only [Act.put, List.setIfInBounds_toArray, List.set_cons_zero, List.set_cons_succ]
      refine wpAnyH_ready (rs := [8]) (by kernel_rfl) (by simp) ?_
      refine AllReadyH.cons rfl (fun K0 hK0 => ?_) AllReadyH.nil
      go_simp
      refine (unhide C6 _).mono ?_
      rintro e u1 ⟨rfl, ku1⟩
      go_wp2_with fail
      refine hK0.out _ _ ?hSb8 (fun hHeld1 => ?_)
      case hSb8 => exact unhide SK _ (keep_call hHeld ku1)
      clear hK0 K0 hHeld
      have hHeld := hHeld1
      clear hHeld1
      try simp only [Act.put, List.setIfInBounds_toArray, List.set_cons_zero, List.set_cons_succ]
      refine takeAt 9 (some 97) ?vb9 ⟨_, rfl, rfl, rfl, ?hyb9⟩ (by kernel_rfl) (by kernel_rfl) (by kernel_rfl) (fun _ _ _ h => h) (by assumption) ?_
      case hyb9 => (intro w0 hSw; (try dsimp only at hSw); go_simp; try (with_reducible rfl))
      simp only [Act.put, List.setIfInBounds_toArray, List.set_cons_zero, List.set_cons_succ]
      refine takeAt 10 (some 98) ?vb10 ⟨_, rfl, rfl, rfl, ?hyb10⟩ (by kernel_rfl) (by kernel_rfl) (by kernel_rfl) (fun _ _ _ h => h) (by assumption) ?_
      case hyb10 => (intro w0 hSw; (try dsimp only at hSw); go_simp; try (with_reducible rfl))
      simp only [Act.put, List.setIfInBounds_toArray, List.set_cons_zero, List.set_cons_succ]
      refine takeAt 11 (some 99) ?vb11 ⟨_, rfl, rfl, rfl, ?hyb11⟩ (by kernel_rfl) (by kernel_rfl) (by kernel_rfl) (fun _ _ _ h => h) (by assumption) ?_
      case hyb11 => (intro w0 hSw; (try dsimp only at hSw); go_simp; try (with_reducible rfl))
      simp only [Act.put, List.setIfInBounds_toArray, List.set_cons_zero, List.set_cons_succ]
      refine takeAt 12 (some 100) ?vb12 ⟨_, rfl, rfl, rfl, ?hyb12⟩ (by kernel_rfl) (by kernel_rfl) (by kernel_rfl) (fun _ _ _ h => h) (by assumption) ?_
      case hyb12 => (intro w0 hSw; (try dsimp only at hSw); go_simp; try (with_reducible rfl))
      simp only [Act.put, List.setIfInBounds_toArray, List.set_cons_zero, List.set_cons_succ]
      refine skipAt 13 (some 101) ⟨_, rfl, rfl, rfl⟩ (by kernel_rfl) (by kernel_rfl) (by kernel_rfl) (fun _ _ _ h => h) (by assumption) ?_
      simp only [Act.put, List.setIfInBounds_toArray, List.set_cons_zero, List.set_cons_succ]
      refine skipAt 14 (some 102) ⟨_, rfl, rfl, rfl⟩ (by kernel_rfl) (by kernel_rfl) (by kernel_rfl) (fun _ _ _ h => h) (by assumption) ?_
      simp only [Act.put, List.setIfInBounds_toArray, List.set_cons_zero, List.set_cons_succ]
      refine skipAt 15 (some 103) ⟨_, rfl, rfl, rfl⟩ (by kernel_rfl) (by kernel_rfl) (by kernel_rfl) (fun _ _ _ h => h) (by assumption) ?_
      simp only [Act.put, List.setIfInBounds_toArray, List.set_cons_zero, List.set_cons_succ]
      refine takeAt 16 (some 104) ?vb16 ⟨_, rfl, rfl, rfl, ?hyb16⟩ (by kernel_rfl) (by kernel_rfl) (by kernel_rfl) (fun _ _ _ h => h) (by assumption) ?_
      case hyb16 => (intro w0 hSw; (try dsimp only at hSw); go_simp; try (with_reducible rfl))
      simp only [Act.put, List.setIfInBounds_toArray, List.set_cons_zero, List.set_cons_succ]
      refine takeAt 17 (some 105) ?vb17 ⟨_, rfl, rfl, rfl, ?hyb17⟩ (by kernel_rfl) (by kernel_rfl) (by kernel_rfl) (fun _ _ _ h => h) (by assumption) ?_
      case hyb17 => (intro w0 hSw; (try dsimp only at hSw); go_simp; try (with_reducible rfl))
      simp only [Act.put, List.setIfInBounds_toArray, List.set_cons_zero, List.set_cons_succ]
      refine wpAnyH_ready (rs := [18]) (by kernel_rfl) (by simp) ?_
      refine AllReadyH.cons rfl (fun K0 hK0 => ?_) AllReadyH.nil
      go_simp
      refine (unhide C8 _).mono ?_
      rintro e u2 ⟨rfl, ku2⟩
      go_wp2_with fail
      refine hK0.out _ _ ?hSb18 (fun hHeld1 => ?_)
      case hSb18 => exact unhide SK _ (keep_call hHeld ku2)
      clear hK0 K0 hHeld
      have hHeld := hHeld1
      clear hHeld1
      try simp only [Act.put, List.setIfInBounds_toArray, List.set_cons_zero, List.set_cons_succ]
      refine takeAt 19 (some 107) ?vb19 ⟨_, rfl, rfl, rfl, ?hyb19⟩ (by kernel_rfl) (by kernel_rfl) (by kernel_rfl) (fun _ _ _ h => h) (by assumption) ?_
      case hyb19 => (intro w0 hSw; (try dsimp only at hSw); go_simp; try (with_reducible rfl))
      simp only [Act.put, List.setIfInBounds_toArray, List.set_cons_zero, List.set_cons_succ]
      refine takeAt 20 (some 4) ?vb20 ⟨_, rfl, rfl, rfl, ?hyb20⟩ (by kernel_rfl) (by kernel_rfl) (by kernel_rfl) (fun _ _ _ h => h) (by assumption) ?_
      case hyb20 => (intro w0 hSw; (try dsimp only at hSw); go_simp; try (with_reducible rfl))
      simp only [Act.put, List.setIfInBounds_toArray, List.set_cons_zero, List.set_cons_succ]
      refine wpAnyH_done (by kernel_rfl) ?_ _
      refine NoPanic.normal ?_
      go_wp2
      go_ret
      refine ⟨rfl, ?_⟩
      rw [unhide HW]
      exact h5.trans (hHeld.1.mono hz)
    · clear HD
      refine wp_region_noPanic ?_
      refine wp_region_held_drew (S := fun w' => Below V5.heap.size V5 w' ∧ w'.cell? ⟨A0, 0, none⟩ = some (.int .i64 m) ∧ w'.cell? ⟨A0, 1, none⟩ = some (.int .i64 s) ∧ w'.cell? ⟨(A0 + 1), 0, none⟩ = some (.int .i64 n) ∧ w'.cell? ⟨(A0 + 1), 1, none⟩ = some (.int .i64 t) ∧ w'.cell? ⟨B5, 0, none⟩ = some (.int .i64 D) ∧ w'.cell? ⟨B5, 1, none⟩ = some (.int .i64 QD)) (by kernel_rfl) ?hSc0 (fun hHeld => ?_)
      case hSc0 => exact unhide SK _ (Below.refl _ _).drew
      refine takeAt 0 (some 88) ?vc0 ⟨_, rfl, rfl, rfl, ?hyc0⟩ (by kernel_rfl) (by kernel_rfl) (by kernel_rfl) (fun _ _ _ h => h) (by assumption) ?_
      case hyc0 => (intro w0 hSw; (try dsimp only at hSw); go_simp; try (with_reducible rfl))
      simp only [Act.put, List.setIfInBounds_toArray, List.set_cons_zero, List.set_cons_succ]
      refine takeAt 1 (some 89) ?vc1 ⟨_, rfl, rfl, rfl, ?hyc1⟩ (by kernel_rfl) (by kernel_rfl) (by kernel_rfl) (fun _ _ _ h => h) (by assumption) ?_
      case hyc1 => (intro w0 hSw; (try dsimp only at hSw); go_simp; try (with_reducible rfl))
      simp only [Act.put, List.setIfInBounds_toArray, List.set_cons_zero, List.set_cons_succ]
      refine takeAt 2 (some 90) ?vc2 ⟨_, rfl, rfl, rfl, ?hyc2⟩ (by kernel_rfl) (by kernel_rfl) (by kernel_rfl) (fun _ _ _ h => h) (by assumption) ?_
      case hyc2 => (intro w0 hSw; (try dsimp only at hSw); go_simp; try (with_reducible rfl))
      simp only [Act.put, List.setIfInBounds_toArray, List.set_cons_zero, List.set_cons_succ]
      refine takeAt 3 (some 91) ?vc3 ⟨_, rfl, rfl, rfl, ?hyc3⟩ (by kernel_rfl) (by kernel_rfl) (by kernel_rfl) (fun _ _ _ h => h) (by assumption) ?_
      case hyc3 => (intro w0 hSw; (try dsimp only at hSw); go_simp; try (with_reducible rfl))
      simp only [Act.put, List.setIfInBounds_toArray, List.set_cons_zero, List.set_cons_succ]
      refine takeAt 4 (some 92) ?vc4 ⟨_, rfl, rfl, rfl, ?hyc4⟩ (by kernel_rfl) (by kernel_rfl) (by kernel_rfl) (fun _ _ _ h => h) (by assumption) ?_
      case hyc4 => (intro w0 hSw; (try dsimp only at hSw); go_simp; try (with_reducible rfl))
      simp only [Act.put, List.setIfInBounds_toArray, List.set_cons_zero, List.set_cons_succ]
      refine takeAt 5 (some 93) ?vc5 ⟨_, rfl, rfl, rfl, ?hyc5⟩ (by kernel_rfl) (by kernel_rfl) (by kernel_rfl) (fun _ _ _ h => h) (by assumption) ?_
      case hyc5 => (intro w0 hSw; (try dsimp only at hSw); go_simp; try (with_reducible rfl))
      simp only [Act.put, List.setIfInBounds_toArray, List.set_cons_zero, List.set_cons_succ]
      refine takeAt 6 (some 94) ?vc6 ⟨_, rfl, rfl, rfl, ?hyc6⟩ (by kernel_rfl) (by kernel_rfl) (by kernel_rfl) (fun _ _ _ h => h) (by assumption) ?_
      case hyc6 => (intro w0 hSw; (try dsimp only at hSw); go_simp; try (with_reducible rfl))
      simp only [Act.put, List.setIfInBounds_toArray, List.set_cons_zero, List.set_cons_succ]
      refine takeAt 7 (some 95) ?vc7 ⟨_, rfl, rfl, rfl, ?hyc7⟩ (by kernel_rfl) (by kernel_rfl) (by kernel_rfl) (fun _ _ _ h => h) (by assumption) ?_
      case hyc7 => (intro w0 hSw; (try dsimp only at hSw); go_simp; try (with_reducible rfl))
      simp only [Act.put, List.setIfInBounds_toArray, List.set_cons_zero, List.set_cons_succ]
      refine wpAnyH_ready (rs := [8]) (by kernel_rfl) (by simp) ?_
      refine AllReadyH.cons rfl (fun K0 hK0 => ?_) AllReadyH.nil
      go_simp
      refine (unhide C6 _).mono ?_
      rintro e u1 ⟨rfl, ku1⟩
      go_wp2_with fail
      refine hK0.out _ _ ?hSc8 (fun hHeld1 => ?_)
      case hSc8 => exact unhide SK _ (keep_call hHeld ku1)
      clear hK0 K0 hHeld
      have hHeld := hHeld1
      clear hHeld1
      try simp only [Act.put, List.setIfInBounds_toArray, List.set_cons_zero, List.set_cons_succ]
      refine takeAt 9 (some 97) ?vc9 ⟨_, rfl, rfl, rfl, ?hyc9⟩ (by kernel_rfl) (by kernel_rfl) (by kernel_rfl) (fun _ _ _ h => h) (by assumption) ?_
      case hyc9 => (intro w0 hSw; (try dsimp only at hSw); go_simp; try (with_reducible rfl))
      simp only [Act.put, List.setIfInBounds_toArray, List.set_cons_zero, List.set_cons_succ]
      refine takeAt 10 (some 98) ?vc10 ⟨_, rfl, rfl, rfl, ?hyc10⟩ (by kernel_rfl) (by kernel_rfl) (by kernel_rfl) (fun _ _ _ h => h) (by assumption) ?_
      case hyc10 => (intro w0 hSw; (try dsimp only at hSw); go_simp; try (with_reducible rfl))
      simp only [Act.put, List.setIfInBounds_toArray, List.set_cons_zero, List.set_cons_succ]
      refine takeAt 11 (some 99) ?vc11 ⟨_, rfl, rfl, rfl, ?hyc11⟩ (by kernel_rfl) (by kernel_rfl) (by kernel_rfl) (fun _ _ _ h => h) (by assumption) ?_
      case hyc11 => (intro w0 hSw; (try dsimp only at hSw); go_simp; try (with_reducible rfl))
      simp only [Act.put, List.setIfInBounds_toArray, List.set_cons_zero, List.set_cons_succ]
      refine takeAt 12 (some 100) ?vc12 ⟨_, rfl, rfl, rfl, ?hyc12⟩ (by kernel_rfl) (by kernel_rfl) (by kernel_rfl) (fun _ _ _ h => h) (by assumption) ?_
      case hyc12 => (intro w0 hSw; (try dsimp only at hSw); go_simp; try (with_reducible rfl))
      simp only [Act.put, List.setIfInBounds_toArray, List.set_cons_zero, List.set_cons_succ]
      refine skipAt 13 (some 101) ⟨_, rfl, rfl, rfl⟩ (by kernel_rfl) (by kernel_rfl) (by kernel_rfl) (fun _ _ _ h => h) (by assumption) ?_
      simp only [Act.put, List.setIfInBounds_toArray, List.set_cons_zero, List.set_cons_succ]
      refine skipAt 14 (some 102) ⟨_, rfl, rfl, rfl⟩ (by kernel_rfl) (by kernel_rfl) (by kernel_rfl) (fun _ _ _ h => h) (by assumption) ?_
      simp only [Act.put, List.setIfInBounds_toArray, List.set_cons_zero, List.set_cons_succ]
      refine skipAt 15 (some 103) ⟨_, rfl, rfl, rfl⟩ (by kernel_rfl) (by kernel_rfl) (by kernel_rfl) (fun _ _ _ h => h) (by assumption) ?_
      simp only [Act.put, List.setIfInBounds_toArray, List.set_cons_zero, List.set_cons_succ]
      refine takeAt 16 (some 104) ?vc16 ⟨_, rfl, rfl, rfl, ?hyc16⟩ (by kernel_rfl) (by kernel_rfl) (by kernel_rfl) (fun _ _ _ h => h) (by assumption) ?_
      case hyc16 => (intro w0 hSw; (try dsimp only at hSw); go_simp; try (with_reducible rfl))
      simp only [Act.put, List.setIfInBounds_toArray, List.set_cons_zero, List.set_cons_succ]
      refine takeAt 17 (some 105) ?vc17 ⟨_, rfl, rfl, rfl, ?hyc17⟩ (by kernel_rfl) (by kernel_rfl) (by kernel_rfl) (fun _ _ _ h => h) (by assumption) ?_
      case hyc17 => (intro w0 hSw; (try dsimp only at hSw); go_simp; try (with_reducible rfl))
      simp only [Act.put, List.setIfInBounds_toArray, List.set_cons_zero, List.set_cons_succ]
      refine wpAnyH_ready (rs := [18]) (by kernel_rfl) (by simp) ?_
      refine AllReadyH.cons rfl (fun K0 hK0 => ?_) AllReadyH.nil
      go_simp
      refine (unhide C8 _).mono ?_
      rintro e u2 ⟨rfl, ku2⟩
      go_wp2_with fail
      refine hK0.out _ _ ?hSc18 (fun hHeld1 => ?_)
      case hSc18 => exact unhide SK _ (keep_call hHeld ku2)
      clear hK0 K0 hHeld
      have hHeld := hHeld1
      clear hHeld1
      try simp only [Act.put, List.setIfInBounds_toArray, List.set_cons_zero, List.set_cons_succ]
      refine takeAt 19 (some 107) ?vc19 ⟨_, rfl, rfl, rfl, ?hyc19⟩ (by kernel_rfl) (by kernel_rfl) (by kernel_rfl) (fun _ _ _ h => h) (by assumption) ?_
      case hyc19 => (intro w0 hSw; (try dsimp only at hSw); go_simp; try (with_reducible rfl))
      simp only [Act.put, List.setIfInBounds_toArray, List.set_cons_zero, List.set_cons_succ]
      refine takeAt 20 (some 4) ?vc20 ⟨_, rfl, rfl, rfl, ?hyc20⟩ (by kernel_rfl) (by kernel_rfl) (by kernel_rfl) (fun _ _ _ h => h) (by assumption) ?_
      case hyc20 => (intro w0 hSw; (try dsimp only at hSw); go_simp; try (with_reducible rfl))
      simp only [Act.put, List.setIfInBounds_toArray, List.set_cons_zero, List.set_cons_succ]
      refine wpAnyH_done (by kernel_rfl) ?_ _
      refine NoPanic.normal ?_
      go_wp2
      go_ret
      refine ⟨rfl, ?_⟩
      rw [unhide HW]
      exact h5.trans (hHeld.1.mono hz)
    · clear HD
      refine wp_region_noPanic ?_
      refine wp_region_held_drew (S := fun w' => Below V5.heap.size V5 w' ∧ w'.cell? ⟨A0, 0, none⟩ = some (.int .i64 m) ∧ w'.cell? ⟨A0, 1, none⟩ = some (.int .i64 s) ∧ w'.cell? ⟨(A0 + 1), 0, none⟩ = some (.int .i64 n) ∧ w'.cell? ⟨(A0 + 1), 1, none⟩ = some (.int .i64 t) ∧ w'.cell? ⟨B5, 0, none⟩ = some (.int .i64 D) ∧ w'.cell? ⟨B5, 1, none⟩ = some (.int .i64 QD)) (by kernel_rfl) ?hSd0 (fun hHeld => ?_)
      case hSd0 => exact unhide SK _ (Below.refl _ _).drew
      refine takeAt 0 (some 88) ?vd0 ⟨_, rfl, rfl, rfl, ?hyd0⟩ (by kernel_rfl) (by kernel_rfl) (by kernel_rfl) (fun _ _ _ h => h) (by assumption) ?_
      case hyd0 => (intro w0 hSw; (try dsimp only at hSw); go_simp; try (with_reducible rfl))
      simp only [Act.put, List.setIfInBounds_toArray, List.set_cons_zero, List.set_cons_succ]
      refine takeAt 1 (some 89) ?vd1 ⟨_, rfl, rfl, rfl, ?hyd1⟩ (by kernel_rfl) (by kernel_rfl) (by kernel_rfl) (fun _ _ _ h => h) (by assumption) ?_
      case hyd1 => (intro w0 hSw; (try dsimp only at hSw); go_simp; try (with_reducible rfl))
      simp only [Act.put, List.setIfInBounds_toArray, List.set_cons_zero, List.set_cons_succ]
      refine takeAt 2 (some 90) ?vd2 ⟨_, rfl, rfl, rfl, ?hyd2⟩ (by kernel_rfl) (by kernel_rfl) (by kernel_rfl) (fun _ _ _ h => h) (by assumption) ?_
      case hyd2 => (intro w0 hSw; (try dsimp only at hSw); go_simp; try (with_reducible rfl))
      simp only [Act.put, List.setIfInBounds_toArray, List.set_cons_zero, List.set_cons_succ]
      refine takeAt 3 (some 91) ?vd3 ⟨_, rfl, rfl, rfl, ?hyd3⟩ (by kernel_rfl) (by kernel_rfl) (by kernel_rfl) (fun _ _ _ h => h) (by assumption) ?_
      case hyd3 => (intro w0 hSw; (try dsimp only at hSw); go_simp; try (with_reducible rfl))
      simp only [Act.put, List.setIfInBounds_toArray, List.set_cons_zero, List.set_cons_succ]
      refine takeAt 4 (some 92) ?vd4 ⟨_, rfl, rfl, rfl, ?hyd4⟩ (by kernel_rfl) (by kernel_rfl) (by kernel_rfl) (fun _ _ _ h => h) (by assumption) ?_
      case hyd4 => (intro w0 hSw; (try dsimp only at hSw); go_simp; try (with_reducible rfl))
      simp only [Act.put, List.setIfInBounds_toArray, List.set_cons_zero, List.set_cons_succ]
      refine takeAt 5 (some 93) ?vd5 ⟨_, rfl, rfl, rfl, ?hyd5⟩ (by kernel_rfl) (by kernel_rfl) (by kernel_rfl) (fun _ _ _ h => h) (by assumption) ?_
      case hyd5 => (intro w0 hSw; (try dsimp only at hSw); go_simp; try (with_reducible rfl))
      simp only [Act.put, List.setIfInBounds_toArray, List.set_cons_zero, List.set_cons_succ]
      refine takeAt 6 (some 94) ?vd6 ⟨_, rfl, rfl, rfl, ?hyd6⟩ (by kernel_rfl) (by kernel_rfl) (by kernel_rfl) (fun _ _ _ h => h) (by assumption) ?_
      case hyd6 => (intro w0 hSw; (try dsimp only at hSw); go_simp; try (with_reducible rfl))
      simp only [Act.put, List.setIfInBounds_toArray, List.set_cons_zero, List.set_cons_succ]
      refine takeAt 7 (some 95) ?vd7 ⟨_, rfl, rfl, rfl, ?hyd7⟩ (by kernel_rfl) (by kernel_rfl) (by kernel_rfl) (fun _ _ _ h => h) (by assumption) ?_
      case hyd7 => (intro w0 hSw; (try dsimp only at hSw); go_simp; try (with_reducible rfl))
      simp only [Act.put, List.setIfInBounds_toArray, List.set_cons_zero, List.set_cons_succ]
      refine wpAnyH_ready (rs := [8]) (by kernel_rfl) (by simp) ?_
      refine AllReadyH.cons rfl (fun K0 hK0 => ?_) AllReadyH.nil
      go_simp
      refine (unhide C6 _).mono ?_
      rintro e u1 ⟨rfl, ku1⟩
      go_wp2_with fail
      refine hK0.out _ _ ?hSd8 (fun hHeld1 => ?_)
      case hSd8 => exact unhide SK _ (keep_call hHeld ku1)
      clear hK0 K0 hHeld
      have hHeld := hHeld1
      clear hHeld1
      try simp only [Act.put, List.setIfInBounds_toArray, List.set_cons_zero, List.set_cons_succ]
      refine takeAt 9 (some 97) ?vd9 ⟨_, rfl, rfl, rfl, ?hyd9⟩ (by kernel_rfl) (by kernel_rfl) (by kernel_rfl) (fun _ _ _ h => h) (by assumption) ?_
      case hyd9 => (intro w0 hSw; (try dsimp only at hSw); go_simp; try (with_reducible rfl))
      simp only [Act.put, List.setIfInBounds_toArray, List.set_cons_zero, List.set_cons_succ]
      refine takeAt 10 (some 98) ?vd10 ⟨_, rfl, rfl, rfl, ?hyd10⟩ (by kernel_rfl) (by kernel_rfl) (by kernel_rfl) (fun _ _ _ h => h) (by assumption) ?_
      case hyd10 => (intro w0 hSw; (try dsimp only at hSw); go_simp; try (with_reducible rfl))
      simp only [Act.put, List.setIfInBounds_toArray, List.set_cons_zero, List.set_cons_succ]
      refine takeAt 11 (some 99) ?vd11 ⟨_, rfl, rfl, rfl, ?hyd11⟩ (by kernel_rfl) (by kernel_rfl) (by kernel_rfl) (fun _ _ _ h => h) (by assumption) ?_
      case hyd11 => (intro w0 hSw; (try dsimp only at hSw); go_simp; try (with_reducible rfl))
      simp only [Act.put, List.setIfInBounds_toArray, List.set_cons_zero, List.set_cons_succ]
      refine takeAt 12 (some 100) ?vd12 ⟨_, rfl, rfl, rfl, ?hyd12⟩ (by kernel_rfl) (by kernel_rfl) (by kernel_rfl) (fun _ _ _ h => h) (by assumption) ?_
      case hyd12 => (intro w0 hSw; (try dsimp only at hSw); go_simp; try (with_reducible rfl))
      simp only [Act.put, List.setIfInBounds_toArray, List.set_cons_zero, List.set_cons_succ]
      refine takeAt 13 (some 101) ?vd13 ⟨_, rfl, rfl, rfl, ?hyd13⟩ (by kernel_rfl) (by kernel_rfl) (by kernel_rfl) (fun _ _ _ h => h) (by assumption) ?_
      case hyd13 => (intro w0 hSw; (try dsimp only at hSw); go_simp; try (with_reducible rfl))
      simp only [Act.put, List.setIfInBounds_toArray, List.set_cons_zero, List.set_cons_succ]
      refine takeAt 14 (some 102) ?vd14 ⟨_, rfl, rfl, rfl, ?hyd14⟩ (by kernel_rfl) (by kernel_rfl) (by kernel_rfl) (fun _ _ _ h => h) (by assumption) ?_
      case hyd14 => (intro w0 hSw; (try dsimp only at hSw); go_simp; try (with_reducible rfl))
      simp only [Act.put, List.setIfInBounds_toArray, List.set_cons_zero, List.set_cons_succ]
      refine takeAt 15 (some 103) ?vd15 ⟨_, rfl, rfl, rfl, ?hyd15⟩ (by kernel_rfl) (by kernel_rfl) (by kernel_rfl) (fun _ _ _ h => h) (by assumption) ?_
      case hyd15 => (intro w0 hSw; (try dsimp only at hSw); go_simp; try (with_reducible rfl))
      simp only [Act.put, List.setIfInBounds_toArray, List.set_cons_zero, List.set_cons_succ]
      refine takeAt 16 (some 104) ?vd16 ⟨_, rfl, rfl, rfl, ?hyd16⟩ (by kernel_rfl) (by kernel_rfl) (by kernel_rfl) (fun _ _ _ h => h) (by assumption) ?_
      case hyd16 => (intro w0 hSw; (try dsimp only at hSw); go_simp; try (with_reducible rfl))
      simp only [Act.put, List.setIfInBounds_toArray, List.set_cons_zero, List.set_cons_succ]
      refine takeAt 17 (some 105) ?vd17 ⟨_, rfl, rfl, rfl, ?hyd17⟩ (by kernel_rfl) (by kernel_rfl) (by kernel_rfl) (fun _ _ _ h => h) (by assumption) ?_
      case hyd17 => (intro w0 hSw; (try dsimp only at hSw); go_simp; try (with_reducible rfl))
      simp only [Act.put, List.setIfInBounds_toArray, List.set_cons_zero, List.set_cons_succ]
      refine wpAnyH_ready (rs := [18]) (by kernel_rfl) (by simp) ?_
      refine AllReadyH.cons rfl (fun K0 hK0 => ?_) AllReadyH.nil
      go_simp
      refine (unhide C8 _).mono ?_
      rintro e u2 ⟨rfl, ku2⟩
      go_wp2_with fail
      refine hK0.out _ _ ?hSd18 (fun hHeld1 => ?_)
      case hSd18 => exact unhide SK _ (keep_call hHeld ku2)
      clear hK0 K0 hHeld
      have hHeld := hHeld1
      clear hHeld1
      try simp only [Act.put, List.setIfInBounds_toArray, List.set_cons_zero, List.set_cons_succ]
      refine takeAt 19 (some 107) ?vd19 ⟨_, rfl, rfl, rfl, ?hyd19⟩ (by kernel_rfl) (by kernel_rfl) (by kernel_rfl) (fun _ _ _ h => h) (by assumption) ?_
      case hyd19 => (intro w0 hSw; (try dsimp only at hSw); go_simp; try (with_reducible rfl))
      simp only [Act.put, List.setIfInBounds_toArray, List.set_cons_zero, List.set_cons_succ]
      refine takeAt 20 (some 4) ?vd20 ⟨_, rfl, rfl, rfl, ?hyd20⟩ (by kernel_rfl) (by kernel_rfl) (by kernel_rfl) (fun _ _ _ h => h) (by assumption) ?_
      case hyd20 => (intro w0 hSw; (try dsimp only at hSw); go_simp; try (with_reducible rfl))
      simp only [Act.put, List.setIfInBounds_toArray, List.set_cons_zero, List.set_cons_succ]
      refine wpAnyH_done (by kernel_rfl) ?_ _
      refine NoPanic.normal ?_
      go_wp2
      go_ret
      refine ⟨rfl, ?_⟩
      rw [unhide HW]
      exact h5.trans (hHeld.1.mono hz)

end Go.Proofs.Ytcadiljnkpnodaa

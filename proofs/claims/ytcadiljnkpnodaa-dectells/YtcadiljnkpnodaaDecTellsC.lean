/- The walk of DecTells over decimals that may be, out of what its callees answer. -/
import Derived.Test.YtcadiljnkpnodaaMay
import Derived.Test.YtcadiljnkpnodaaKeep
import Derived.Deep.RegionHeld3
import Derived.Deep.DrawnRows
namespace Go.Proofs.Ytcadiljnkpnodaa
open Go.RowKit
attribute [local go_sem ↓] Go.wp_at_zero Go.wp_at_succ

set_option maxRecDepth 100000 in
set_option maxHeartbeats 8000000 in
theorem decTells_core (m s n t P1 Q1 E1 P2 Q2 E2 P3 Q3 E3 P4 Q4 E4 K f g : Int) (w : World) (ha : isB m s = true) (hb : isB n t = true)
    (C1 : Hid (∀ w, Calls Try.prog 14 #[.agg #[.int .i64 m, .int .i64 s], .agg #[.int .i64 n, .int .i64 t]] w fun e w' => e = .returned (.tuple #[.agg #[.int .i64 P1, .int .i64 Q1], .int .i64 E1]) ∧ Below w.heap.size w w'))
    (C2 : Hid (∀ w, Calls Try.prog 15 #[.agg #[.int .i64 m, .int .i64 s], .agg #[.int .i64 n, .int .i64 t]] w fun e w' => e = .returned (.tuple #[.agg #[.int .i64 P1, .int .i64 Q1], .int .i64 E1]) ∧ Below w.heap.size w w'))
    (C3 : Hid (∀ w, Calls Try.prog 16 #[.agg #[.int .i64 m, .int .i64 s], .agg #[.int .i64 n, .int .i64 t]] w fun e w' => e = .returned (.tuple #[.agg #[.int .i64 P2, .int .i64 Q2], .int .i64 E2]) ∧ Below w.heap.size w w'))
    (C4 : Hid (∀ w, Calls Try.prog 17 #[.agg #[.int .i64 m, .int .i64 s], .agg #[.int .i64 n, .int .i64 t]] w fun e w' => e = .returned (.tuple #[.agg #[.int .i64 P2, .int .i64 Q2], .int .i64 E2]) ∧ Below w.heap.size w w'))
    (C5 : Hid (∀ w, Calls Try.prog 18 #[.agg #[.int .i64 m, .int .i64 s], .agg #[.int .i64 n, .int .i64 t]] w fun e w' => e = .returned (.tuple #[.agg #[.int .i64 P3, .int .i64 Q3], .int .i64 E3]) ∧ Below w.heap.size w w'))
    (C6 : Hid (∀ w, Calls Try.prog 19 #[.agg #[.int .i64 m, .int .i64 s], .agg #[.int .i64 n, .int .i64 t]] w fun e w' => e = .returned (.tuple #[.agg #[.int .i64 P3, .int .i64 Q3], .int .i64 E3]) ∧ Below w.heap.size w w'))
    (C7 : Hid (∀ w, Calls Try.prog 20 #[.agg #[.int .i64 m, .int .i64 s], .agg #[.int .i64 n, .int .i64 t]] w fun e w' => e = .returned (.tuple #[.agg #[.int .i64 P4, .int .i64 Q4], .int .i64 E4]) ∧ Below w.heap.size w w'))
    (C8 : Hid (∀ w, Calls Try.prog 21 #[.agg #[.int .i64 m, .int .i64 s], .agg #[.int .i64 n, .int .i64 t]] w fun e w' => e = .returned (.tuple #[.agg #[.int .i64 P4, .int .i64 Q4], .int .i64 E4]) ∧ Below w.heap.size w w'))
    (C9 : Hid (∀ w, Calls Try.prog 22 #[.agg #[.int .i64 m, .int .i64 s], .agg #[.int .i64 n, .int .i64 t]] w fun e w' => e = .returned (.int .i64 K) ∧ Below w.heap.size w w'))
    (C10 : Hid (∀ w, Calls Try.prog 23 #[.agg #[.int .i64 m, .int .i64 s], .agg #[.int .i64 n, .int .i64 t]] w fun e w' => e = .returned (.int .i64 K) ∧ Below w.heap.size w w'))
    (C11 : Hid (∀ w, Calls Try.prog 24 #[.agg #[.int .i64 m, .int .i64 s]] w fun e w' => e = .returned (.agg #[.int .i64 f, .int .i64 0]) ∧ Below w.heap.size w w'))
    (C12 : Hid (∀ w, Calls Try.prog 25 #[.agg #[.int .i64 m, .int .i64 s]] w fun e w' => e = .returned (.agg #[.int .i64 f, .int .i64 0]) ∧ Below w.heap.size w w'))
    (C13 : Hid (∀ w, Calls Try.prog 26 #[.agg #[.int .i64 m, .int .i64 s]] w fun e w' => e = .returned (.agg #[.int .i64 g, .int .i64 0]) ∧ Below w.heap.size w w'))
    (C14 : Hid (∀ w, Calls Try.prog 27 #[.agg #[.int .i64 m, .int .i64 s]] w fun e w' => e = .returned (.agg #[.int .i64 g, .int .i64 0]) ∧ Below w.heap.size w w'))
    (C15 : Hid (∀ w, Calls Try.prog 11 #[] w fun e w' => e = .returned (.bool true) ∧ Below w.heap.size w w')) :
    Calls Try.prog 4 #[.agg #[.int .i64 m, .int .i64 s], .agg #[.int .i64 n, .int .i64 t]] w fun e w' => e = .returned (.bool true) ∧ Below w.heap.size w w' := by
  have HA := hide ha; have HB := hide hb
  clear ha hb
  go_enter Try.func4, Try.ntmps4
  go_wp2_with fail
  refine (may2_any m s n t _ _ (by simp) (by go_simp) (by go_simp) (by go_simp) (by go_simp)).mono ?_
  rintro e V0 ⟨rfl, k0⟩
  rw [unhide HA, unhide HB]
  have a0 : Has V0 w.heap.size m s := ⟨by have := k0.size; simp at this; omega, kcell k0 (by simp; omega) (by go_simp), kcell k0 (by simp; omega) (by go_simp)⟩
  have b0 : Has V0 (w.heap.size + 1) n t := ⟨by have := k0.size; simp at this; omega, kcell k0 (by simp) (by go_simp), kcell k0 (by simp) (by go_simp)⟩
  have h0 : Below w.heap.size w V0 := bstep (below3 w _ _ _) k0
  clear k0
  generalize hB : w.heap.size = A0 at *
  have HW := hide hB
  clear hB
  obtain ⟨a1, a2, a3⟩ := id a0
  obtain ⟨b1, b2, b3⟩ := id b0
  go_wp2_with fail
  clear a1 a2 a3 b1 b2 b3
  refine (unhide C1 _).mono ?_
  rintro e w1 ⟨rfl, k1⟩
  have aa := a0.call k1
  have bb := b0.call k1
  have h1 : Below A0 w (w1.alloc (Obj.cells #[.int .i64 P1, .int .i64 Q1] 23)) := (h0.trans (k1.mono (by have := h0.size; rw [unhide HW] at this; exact this))).alloc (by have := h0.size; rw [unhide HW] at this; exact Nat.le_trans this k1.size) _
  have c0 := Has.new w1 P1 Q1 23
  have aaa := aa.put (Obj.cells #[.int .i64 P1, .int .i64 Q1] 23)
  have bbb := bb.put (Obj.cells #[.int .i64 P1, .int .i64 Q1] 23)
  obtain ⟨a1, a2, a3⟩ := aa
  obtain ⟨b1, b2, b3⟩ := bb
  clear a0 b0 h0 k1
  go_wp2_with fail
  clear a1 a2 a3 b1 b2 b3
  generalize w1.alloc (Obj.cells #[.int .i64 P1, .int .i64 Q1] 23) = V1 at *
  generalize w1.heap.size = B1 at *
  have a0 := aaa
  have b0 := bbb
  have h0 := h1
  have d0 := c0
  clear aaa bbb h1 c0
  obtain ⟨a1, a2, a3⟩ := id a0
  obtain ⟨b1, b2, b3⟩ := id b0
  clear a1 a2 a3 b1 b2 b3
  refine (unhide C2 _).mono ?_
  rintro e w2 ⟨rfl, k2⟩
  have aa := a0.call k2
  have bb := b0.call k2
  have h2 : Below A0 w (w2.alloc (Obj.cells #[.int .i64 P1, .int .i64 Q1] 23)) := (h0.trans (k2.mono (by have := h0.size; rw [unhide HW] at this; exact this))).alloc (by have := h0.size; rw [unhide HW] at this; exact Nat.le_trans this k2.size) _
  have c0 := (d0.call k2).put (Obj.cells #[.int .i64 P1, .int .i64 Q1] 23)
  have c1 := Has.new w2 P1 Q1 23
  have aaa := aa.put (Obj.cells #[.int .i64 P1, .int .i64 Q1] 23)
  have bbb := bb.put (Obj.cells #[.int .i64 P1, .int .i64 Q1] 23)
  obtain ⟨a1, a2, a3⟩ := aa
  obtain ⟨b1, b2, b3⟩ := bb
  clear a0 b0 h0 k2 d0
  go_wp2_with fail
  clear a1 a2 a3 b1 b2 b3
  generalize w2.alloc (Obj.cells #[.int .i64 P1, .int .i64 Q1] 23) = V2 at *
  generalize w2.heap.size = B2 at *
  have a0 := aaa
  have b0 := bbb
  have h0 := h2
  have d0 := c0
  have d1 := c1
  clear aaa bbb h2 c0 c1
  obtain ⟨a1, a2, a3⟩ := id a0
  obtain ⟨b1, b2, b3⟩ := id b0
  clear a1 a2 a3 b1 b2 b3
  refine (unhide C3 _).mono ?_
  rintro e w3 ⟨rfl, k3⟩
  have aa := a0.call k3
  have bb := b0.call k3
  have h3 : Below A0 w (w3.alloc (Obj.cells #[.int .i64 P2, .int .i64 Q2] 23)) := (h0.trans (k3.mono (by have := h0.size; rw [unhide HW] at this; exact this))).alloc (by have := h0.size; rw [unhide HW] at this; exact Nat.le_trans this k3.size) _
  have c0 := (d0.call k3).put (Obj.cells #[.int .i64 P2, .int .i64 Q2] 23)
  have c1 := (d1.call k3).put (Obj.cells #[.int .i64 P2, .int .i64 Q2] 23)
  have c2 := Has.new w3 P2 Q2 23
  have aaa := aa.put (Obj.cells #[.int .i64 P2, .int .i64 Q2] 23)
  have bbb := bb.put (Obj.cells #[.int .i64 P2, .int .i64 Q2] 23)
  obtain ⟨a1, a2, a3⟩ := aa
  obtain ⟨b1, b2, b3⟩ := bb
  clear a0 b0 h0 k3 d0 d1
  go_wp2_with fail
  clear a1 a2 a3 b1 b2 b3
  generalize w3.alloc (Obj.cells #[.int .i64 P2, .int .i64 Q2] 23) = V3 at *
  generalize w3.heap.size = B3 at *
  have a0 := aaa
  have b0 := bbb
  have h0 := h3
  have d0 := c0
  have d1 := c1
  have d2 := c2
  clear aaa bbb h3 c0 c1 c2
  obtain ⟨a1, a2, a3⟩ := id a0
  obtain ⟨b1, b2, b3⟩ := id b0
  clear a1 a2 a3 b1 b2 b3
  refine (unhide C4 _).mono ?_
  rintro e w4 ⟨rfl, k4⟩
  have aa := a0.call k4
  have bb := b0.call k4
  have h4 : Below A0 w (w4.alloc (Obj.cells #[.int .i64 P2, .int .i64 Q2] 23)) := (h0.trans (k4.mono (by have := h0.size; rw [unhide HW] at this; exact this))).alloc (by have := h0.size; rw [unhide HW] at this; exact Nat.le_trans this k4.size) _
  have c0 := (d0.call k4).put (Obj.cells #[.int .i64 P2, .int .i64 Q2] 23)
  have c1 := (d1.call k4).put (Obj.cells #[.int .i64 P2, .int .i64 Q2] 23)
  have c2 := (d2.call k4).put (Obj.cells #[.int .i64 P2, .int .i64 Q2] 23)
  have c3 := Has.new w4 P2 Q2 23
  have aaa := aa.put (Obj.cells #[.int .i64 P2, .int .i64 Q2] 23)
  have bbb := bb.put (Obj.cells #[.int .i64 P2, .int .i64 Q2] 23)
  obtain ⟨a1, a2, a3⟩ := aa
  obtain ⟨b1, b2, b3⟩ := bb
  clear a0 b0 h0 k4 d0 d1 d2
  go_wp2_with fail
  clear a1 a2 a3 b1 b2 b3
  generalize w4.alloc (Obj.cells #[.int .i64 P2, .int .i64 Q2] 23) = V4 at *
  generalize w4.heap.size = B4 at *
  have a0 := aaa
  have b0 := bbb
  have h0 := h4
  have d0 := c0
  have d1 := c1
  have d2 := c2
  have d3 := c3
  clear aaa bbb h4 c0 c1 c2 c3
  obtain ⟨a1, a2, a3⟩ := id a0
  obtain ⟨b1, b2, b3⟩ := id b0
  clear a1 a2 a3 b1 b2 b3
  refine (unhide C5 _).mono ?_
  rintro e w5 ⟨rfl, k5⟩
  have aa := a0.call k5
  have bb := b0.call k5
  have h5 : Below A0 w (w5.alloc (Obj.cells #[.int .i64 P3, .int .i64 Q3] 23)) := (h0.trans (k5.mono (by have := h0.size; rw [unhide HW] at this; exact this))).alloc (by have := h0.size; rw [unhide HW] at this; exact Nat.le_trans this k5.size) _
  have c0 := (d0.call k5).put (Obj.cells #[.int .i64 P3, .int .i64 Q3] 23)
  have c1 := (d1.call k5).put (Obj.cells #[.int .i64 P3, .int .i64 Q3] 23)
  have c2 := (d2.call k5).put (Obj.cells #[.int .i64 P3, .int .i64 Q3] 23)
  have c3 := (d3.call k5).put (Obj.cells #[.int .i64 P3, .int .i64 Q3] 23)
  have c4 := Has.new w5 P3 Q3 23
  have aaa := aa.put (Obj.cells #[.int .i64 P3, .int .i64 Q3] 23)
  have bbb := bb.put (Obj.cells #[.int .i64 P3, .int .i64 Q3] 23)
  obtain ⟨a1, a2, a3⟩ := aa
  obtain ⟨b1, b2, b3⟩ := bb
  clear a0 b0 h0 k5 d0 d1 d2 d3
  go_wp2_with fail
  clear a1 a2 a3 b1 b2 b3
  generalize w5.alloc (Obj.cells #[.int .i64 P3, .int .i64 Q3] 23) = V5 at *
  generalize w5.heap.size = B5 at *
  have a0 := aaa
  have b0 := bbb
  have h0 := h5
  have d0 := c0
  have d1 := c1
  have d2 := c2
  have d3 := c3
  have d4 := c4
  clear aaa bbb h5 c0 c1 c2 c3 c4
  obtain ⟨a1, a2, a3⟩ := id a0
  obtain ⟨b1, b2, b3⟩ := id b0
  clear a1 a2 a3 b1 b2 b3
  refine (unhide C6 _).mono ?_
  rintro e w6 ⟨rfl, k6⟩
  have aa := a0.call k6
  have bb := b0.call k6
  have h6 : Below A0 w (w6.alloc (Obj.cells #[.int .i64 P3, .int .i64 Q3] 23)) := (h0.trans (k6.mono (by have := h0.size; rw [unhide HW] at this; exact this))).alloc (by have := h0.size; rw [unhide HW] at this; exact Nat.le_trans this k6.size) _
  have c0 := (d0.call k6).put (Obj.cells #[.int .i64 P3, .int .i64 Q3] 23)
  have c1 := (d1.call k6).put (Obj.cells #[.int .i64 P3, .int .i64 Q3] 23)
  have c2 := (d2.call k6).put (Obj.cells #[.int .i64 P3, .int .i64 Q3] 23)
  have c3 := (d3.call k6).put (Obj.cells #[.int .i64 P3, .int .i64 Q3] 23)
  have c4 := (d4.call k6).put (Obj.cells #[.int .i64 P3, .int .i64 Q3] 23)
  have c5 := Has.new w6 P3 Q3 23
  have aaa := aa.put (Obj.cells #[.int .i64 P3, .int .i64 Q3] 23)
  have bbb := bb.put (Obj.cells #[.int .i64 P3, .int .i64 Q3] 23)
  obtain ⟨a1, a2, a3⟩ := aa
  obtain ⟨b1, b2, b3⟩ := bb
  clear a0 b0 h0 k6 d0 d1 d2 d3 d4
  go_wp2_with fail
  clear a1 a2 a3 b1 b2 b3
  generalize w6.alloc (Obj.cells #[.int .i64 P3, .int .i64 Q3] 23) = V6 at *
  generalize w6.heap.size = B6 at *
  have a0 := aaa
  have b0 := bbb
  have h0 := h6
  have d0 := c0
  have d1 := c1
  have d2 := c2
  have d3 := c3
  have d4 := c4
  have d5 := c5
  clear aaa bbb h6 c0 c1 c2 c3 c4 c5
  obtain ⟨a1, a2, a3⟩ := id a0
  obtain ⟨b1, b2, b3⟩ := id b0
  clear a1 a2 a3 b1 b2 b3
  refine (unhide C7 _).mono ?_
  rintro e w7 ⟨rfl, k7⟩
  have aa := a0.call k7
  have bb := b0.call k7
  have h7 : Below A0 w (w7.alloc (Obj.cells #[.int .i64 P4, .int .i64 Q4] 23)) := (h0.trans (k7.mono (by have := h0.size; rw [unhide HW] at this; exact this))).alloc (by have := h0.size; rw [unhide HW] at this; exact Nat.le_trans this k7.size) _
  have c0 := (d0.call k7).put (Obj.cells #[.int .i64 P4, .int .i64 Q4] 23)
  have c1 := (d1.call k7).put (Obj.cells #[.int .i64 P4, .int .i64 Q4] 23)
  have c2 := (d2.call k7).put (Obj.cells #[.int .i64 P4, .int .i64 Q4] 23)
  have c3 := (d3.call k7).put (Obj.cells #[.int .i64 P4, .int .i64 Q4] 23)
  have c4 := (d4.call k7).put (Obj.cells #[.int .i64 P4, .int .i64 Q4] 23)
  have c5 := (d5.call k7).put (Obj.cells #[.int .i64 P4, .int .i64 Q4] 23)
  have c6 := Has.new w7 P4 Q4 23
  have aaa := aa.put (Obj.cells #[.int .i64 P4, .int .i64 Q4] 23)
  have bbb := bb.put (Obj.cells #[.int .i64 P4, .int .i64 Q4] 23)
  obtain ⟨a1, a2, a3⟩ := aa
  obtain ⟨b1, b2, b3⟩ := bb
  clear a0 b0 h0 k7 d0 d1 d2 d3 d4 d5
  go_wp2_with fail
  clear a1 a2 a3 b1 b2 b3
  generalize w7.alloc (Obj.cells #[.int .i64 P4, .int .i64 Q4] 23) = V7 at *
  generalize w7.heap.size = B7 at *
  have a0 := aaa
  have b0 := bbb
  have h0 := h7
  have d0 := c0
  have d1 := c1
  have d2 := c2
  have d3 := c3
  have d4 := c4
  have d5 := c5
  have d6 := c6
  clear aaa bbb h7 c0 c1 c2 c3 c4 c5 c6
  obtain ⟨a1, a2, a3⟩ := id a0
  obtain ⟨b1, b2, b3⟩ := id b0
  clear a1 a2 a3 b1 b2 b3
  refine (unhide C8 _).mono ?_
  rintro e w8 ⟨rfl, k8⟩
  have aa := a0.call k8
  have bb := b0.call k8
  have h8 : Below A0 w (w8.alloc (Obj.cells #[.int .i64 P4, .int .i64 Q4] 23)) := (h0.trans (k8.mono (by have := h0.size; rw [unhide HW] at this; exact this))).alloc (by have := h0.size; rw [unhide HW] at this; exact Nat.le_trans this k8.size) _
  have c0 := (d0.call k8).put (Obj.cells #[.int .i64 P4, .int .i64 Q4] 23)
  have c1 := (d1.call k8).put (Obj.cells #[.int .i64 P4, .int .i64 Q4] 23)
  have c2 := (d2.call k8).put (Obj.cells #[.int .i64 P4, .int .i64 Q4] 23)
  have c3 := (d3.call k8).put (Obj.cells #[.int .i64 P4, .int .i64 Q4] 23)
  have c4 := (d4.call k8).put (Obj.cells #[.int .i64 P4, .int .i64 Q4] 23)
  have c5 := (d5.call k8).put (Obj.cells #[.int .i64 P4, .int .i64 Q4] 23)
  have c6 := (d6.call k8).put (Obj.cells #[.int .i64 P4, .int .i64 Q4] 23)
  have c7 := Has.new w8 P4 Q4 23
  have aaa := aa.put (Obj.cells #[.int .i64 P4, .int .i64 Q4] 23)
  have bbb := bb.put (Obj.cells #[.int .i64 P4, .int .i64 Q4] 23)
  obtain ⟨a1, a2, a3⟩ := aa
  obtain ⟨b1, b2, b3⟩ := bb
  clear a0 b0 h0 k8 d0 d1 d2 d3 d4 d5 d6
  go_wp2_with fail
  clear a1 a2 a3 b1 b2 b3
  generalize w8.alloc (Obj.cells #[.int .i64 P4, .int .i64 Q4] 23) = V8 at *
  generalize w8.heap.size = B8 at *
  have a0 := aaa
  have b0 := bbb
  have h0 := h8
  have d0 := c0
  have d1 := c1
  have d2 := c2
  have d3 := c3
  have d4 := c4
  have d5 := c5
  have d6 := c6
  have d7 := c7
  clear aaa bbb h8 c0 c1 c2 c3 c4 c5 c6 c7
  obtain ⟨a1, a2, a3⟩ := id a0
  obtain ⟨b1, b2, b3⟩ := id b0
  clear a1 a2 a3 b1 b2 b3
  have SK : Hid (∀ w', Below V8.heap.size V8 w' → Below V8.heap.size V8 w' ∧ w'.cell? ⟨A0, 0, none⟩ = some (.int .i64 m) ∧ w'.cell? ⟨A0, 1, none⟩ = some (.int .i64 s) ∧ w'.cell? ⟨(A0 + 1), 0, none⟩ = some (.int .i64 n) ∧ w'.cell? ⟨(A0 + 1), 1, none⟩ = some (.int .i64 t) ∧ w'.cell? ⟨B1, 0, none⟩ = some (.int .i64 P1) ∧ w'.cell? ⟨B1, 1, none⟩ = some (.int .i64 Q1) ∧ w'.cell? ⟨B2, 0, none⟩ = some (.int .i64 P1) ∧ w'.cell? ⟨B2, 1, none⟩ = some (.int .i64 Q1) ∧ w'.cell? ⟨B3, 0, none⟩ = some (.int .i64 P2) ∧ w'.cell? ⟨B3, 1, none⟩ = some (.int .i64 Q2) ∧ w'.cell? ⟨B4, 0, none⟩ = some (.int .i64 P2) ∧ w'.cell? ⟨B4, 1, none⟩ = some (.int .i64 Q2) ∧ w'.cell? ⟨B5, 0, none⟩ = some (.int .i64 P3) ∧ w'.cell? ⟨B5, 1, none⟩ = some (.int .i64 Q3) ∧ w'.cell? ⟨B6, 0, none⟩ = some (.int .i64 P3) ∧ w'.cell? ⟨B6, 1, none⟩ = some (.int .i64 Q3) ∧ w'.cell? ⟨B7, 0, none⟩ = some (.int .i64 P4) ∧ w'.cell? ⟨B7, 1, none⟩ = some (.int .i64 Q4) ∧ w'.cell? ⟨B8, 0, none⟩ = some (.int .i64 P4) ∧ w'.cell? ⟨B8, 1, none⟩ = some (.int .i64 Q4)) := by
    intro w' h
    exact ⟨h, (a0.call h).2.1, (a0.call h).2.2, (b0.call h).2.1, (b0.call h).2.2, (d0.call h).2.1, (d0.call h).2.2, (d1.call h).2.1, (d1.call h).2.2, (d2.call h).2.1, (d2.call h).2.2, (d3.call h).2.1, (d3.call h).2.2, (d4.call h).2.1, (d4.call h).2.2, (d5.call h).2.1, (d5.call h).2.2, (d6.call h).2.1, (d6.call h).2.2, (d7.call h).2.1, (d7.call h).2.2⟩
  have hz : A0 ≤ V8.heap.size := by have := a0.1; omega
  clear a0 b0 d0 d1 d2 d3 d4 d5 d6 d7 C1 C2 C3 C4 C5 C6 C7 C8 HA HB
  dsimp only [List.append]
  go_region_held3 (fun w' => Below V8.heap.size V8 w' ∧ w'.cell? ⟨A0, 0, none⟩ = some (.int .i64 m) ∧ w'.cell? ⟨A0, 1, none⟩ = some (.int .i64 s) ∧ w'.cell? ⟨(A0 + 1), 0, none⟩ = some (.int .i64 n) ∧ w'.cell? ⟨(A0 + 1), 1, none⟩ = some (.int .i64 t) ∧ w'.cell? ⟨B1, 0, none⟩ = some (.int .i64 P1) ∧ w'.cell? ⟨B1, 1, none⟩ = some (.int .i64 Q1) ∧ w'.cell? ⟨B2, 0, none⟩ = some (.int .i64 P1) ∧ w'.cell? ⟨B2, 1, none⟩ = some (.int .i64 Q1) ∧ w'.cell? ⟨B3, 0, none⟩ = some (.int .i64 P2) ∧ w'.cell? ⟨B3, 1, none⟩ = some (.int .i64 Q2) ∧ w'.cell? ⟨B4, 0, none⟩ = some (.int .i64 P2) ∧ w'.cell? ⟨B4, 1, none⟩ = some (.int .i64 Q2) ∧ w'.cell? ⟨B5, 0, none⟩ = some (.int .i64 P3) ∧ w'.cell? ⟨B5, 1, none⟩ = some (.int .i64 Q3) ∧ w'.cell? ⟨B6, 0, none⟩ = some (.int .i64 P3) ∧ w'.cell? ⟨B6, 1, none⟩ = some (.int .i64 Q3) ∧ w'.cell? ⟨B7, 0, none⟩ = some (.int .i64 P4) ∧ w'.cell? ⟨B7, 1, none⟩ = some (.int .i64 Q4) ∧ w'.cell? ⟨B8, 0, none⟩ = some (.int .i64 P4) ∧ w'.cell? ⟨B8, 1, none⟩ = some (.int .i64 Q4))
    (first | exact unhide SK _ (Below.refl _ _).drew | (refine unhide SK _ (bstep ?_ k); apply And.left; assumption))
    (first | (go_at_call 22; refine (unhide C9 _).mono ?_; rintro e w' ⟨rfl, k⟩) | (go_at_call 23; refine (unhide C10 _).mono ?_; rintro e w' ⟨rfl, k⟩) | (go_at_call 24; refine (unhide C11 _).mono ?_; rintro e w' ⟨rfl, k⟩) | (go_at_call 25; refine (unhide C12 _).mono ?_; rintro e w' ⟨rfl, k⟩) | (go_at_call 26; refine (unhide C13 _).mono ?_; rintro e w' ⟨rfl, k⟩) | (go_at_call 27; refine (unhide C14 _).mono ?_; rintro e w' ⟨rfl, k⟩) | (go_at_call 11; refine (unhide C15 _).mono ?_; rintro e w' ⟨rfl, k⟩))
  all_goals
    go_wp2
    go_ret
    refine ⟨rfl, ?_⟩
    have hb : Below V8.heap.size V8 w' := by apply And.left; assumption
    rw [unhide HW]
    exact h0.trans (hb.mono hz)

end Go.Proofs.Ytcadiljnkpnodaa

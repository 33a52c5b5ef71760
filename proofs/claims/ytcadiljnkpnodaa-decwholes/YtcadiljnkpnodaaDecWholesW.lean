/- The walk of DecWholes: it returns true. -/
import Derived.Test.YtcadiljnkpnodaaKnown
import Derived.Test.YtcadiljnkpnodaaArith2
import Derived.Test.YtcadiljnkpnodaaArith4
import Derived.Test.YtcadiljnkpnodaaMath3
import Derived.Deep.RegionHeld3
import Derived.Deep.DrawnRows
namespace Go.Proofs.Ytcadiljnkpnodaa
open Go.RowKit
attribute [local go_sem ↓] Go.wp_at_zero Go.wp_at_succ

theorem add0 (a b : Int) (w : World) (a1 : -30000 ≤ a) (a2 : a ≤ 30000) (b1 : -30000 ≤ b) (b2 : b ≤ 30000) :
    Calls Try.prog 14 #[.agg #[.int .i64 a, .int .i64 0], .agg #[.int .i64 b, .int .i64 0]] w fun e w' => e = .returned (.tuple #[.agg #[.int .i64 (a + b), .int .i64 0], .int .i64 0]) ∧ Below w.heap.size w w' := by
  have h := add_any a 0 b 0 w (isB0 a (by omega) (by omega)) (isB0 b (by omega) (by omega))
  have e := fit0 (a + b) (by omega) (by omega)
  rw [up0, up0] at h
  rw [show max (0 : Int) 0 = 0 from rfl, e.1, e.2.1, e.2.2] at h
  exact h

theorem mul30 {a b : Int} (a1 : -30000 ≤ a) (a2 : a ≤ 30000) (b1 : -30000 ≤ b) (b2 : b ≤ 30000) : -900000000 ≤ a * b ∧ a * b ≤ 900000000 := by
  by_cases h : 0 ≤ b
  · have := mul_bd a b 30000 30000 a1 a2 h b2 (by omega); omega
  · have := mul_bd a (-b) 30000 30000 a1 a2 (by omega) (by omega) (by omega)
    rw [Int.mul_neg] at this; omega

theorem mul0 (a b : Int) (w : World) (a1 : -30000 ≤ a) (a2 : a ≤ 30000) (b1 : -30000 ≤ b) (b2 : b ≤ 30000) :
    Calls Try.prog 18 #[.agg #[.int .i64 a, .int .i64 0], .agg #[.int .i64 b, .int .i64 0]] w fun e w' => e = .returned (.tuple #[.agg #[.int .i64 (a * b), .int .i64 0], .int .i64 0]) ∧ Below w.heap.size w w' := by
  have h := mul_any a 0 b 0 w (isB0 a (by omega) (by omega)) (isB0 b (by omega) (by omega))
  have m := mul30 a1 a2 b1 b2
  have e := fit0 (a * b) (by omega) (by omega)
  rw [show (0 : Int) + 0 = 0 from rfl, e.1, e.2.1, e.2.2] at h
  exact h

theorem flr0 (a : Int) (w : World) (a1 : -30000 ≤ a) (a2 : a ≤ 30000) :
    Calls Try.prog 24 #[.agg #[.int .i64 a, .int .i64 0]] w fun e w' => e = .returned (.agg #[.int .i64 a, .int .i64 0]) ∧ Below w.heap.size w w' := by
  have h := flr_any a 0 w (isB0 a (by omega) (by omega))
  rw [show a / p10 (0 : Int).toNat = a by rw [show p10 (0 : Int).toNat = 1 from rfl]; omega] at h
  exact h

theorem ceil0 (a : Int) (w : World) (a1 : -30000 ≤ a) (a2 : a ≤ 30000) :
    Calls Try.prog 26 #[.agg #[.int .i64 a, .int .i64 0]] w fun e w' => e = .returned (.agg #[.int .i64 a, .int .i64 0]) ∧ Below w.heap.size w w' := by
  have h := ceil_any a 0 w (isB0 a (by omega) (by omega))
  rw [show -(-a / p10 (0 : Int).toNat) = a by rw [show p10 (0 : Int).toNat = 1 from rfl]; omega] at h
  exact h

set_option maxHeartbeats 800000 in
theorem decWholes_out (a b : Int) (w : World) (h : a < -30000 ∨ 30000 < a ∨ b < -30000 ∨ 30000 < b) :
    Calls Try.prog 6 #[.int .i64 a, .int .i64 b] w fun e w' => e = .returned (.bool true) ∧ Below w.heap.size w w' := by
  by_cases c1 : a < -30000
  · clear h
    go_enter Try.func6, Try.ntmps6
    go_wp2
    go_ret
    exact ⟨rfl, Below.refl _ _⟩
  · by_cases c2 : 30000 < a
    · clear h
      go_enter Try.func6, Try.ntmps6
      go_wp2
      go_ret
      exact ⟨rfl, Below.refl _ _⟩
    · by_cases c3 : b < -30000
      · clear h
        go_enter Try.func6, Try.ntmps6
        go_wp2
        go_ret
        exact ⟨rfl, Below.refl _ _⟩
      · have c4 : 30000 < b := by omega
        clear h
        go_enter Try.func6, Try.ntmps6
        go_wp2
        go_ret
        exact ⟨rfl, Below.refl _ _⟩

set_option maxHeartbeats 2000000 in
theorem decWholes_in (a b : Int) (w : World) (a1 : -30000 ≤ a) (a2 : a ≤ 30000) (b1 : -30000 ≤ b) (b2 : b ≤ 30000) :
    Calls Try.prog 6 #[.int .i64 a, .int .i64 b] w fun e w' => e = .returned (.bool true) ∧ Below w.heap.size w w' := by
  have mb := mul30 a1 a2 b1 b2
  have d1 : decide (a < -30000) = false := decide_eq_false (by omega)
  have d2 : decide (30000 < a) = false := decide_eq_false (by omega)
  have d3 : decide (b < -30000) = false := decide_eq_false (by omega)
  have d4 : decide (30000 < b) = false := decide_eq_false (by omega)
  go_enter Try.func6, Try.ntmps6
  go_wp2_with fail
  refine (add0 _ _ _ a1 a2 b1 b2).mono ?_
  rintro e w1 ⟨rfl, k1⟩
  obtain ⟨c1, f1⟩ := bcell k1
  have z1 : w.heap.size + 1 < w1.heap.size := by have := k1.size; simp at this; omega
  have z0 : w.heap.size < w1.heap.size := by omega
  go_wp2_with fail
  refine (mul0 _ _ _ a1 a2 b1 b2).mono ?_
  rintro e w2 ⟨rfl, k2⟩
  obtain ⟨c2, f2⟩ := bcell k2
  have z2 : w1.heap.size < w2.heap.size := by have := k2.size; simp at this; omega
  have z3 : w.heap.size < w2.heap.size := by omega
  go_wp2_with fail
  have x0 : (w2.alloc (Obj.cells #[Value.int IntKind.i64 (a * b), Value.int IntKind.i64 0] 23)).cell? ⟨w.heap.size, 0, none⟩ = some (.int .i64 a) := by go_simp
  have x1 : (w2.alloc (Obj.cells #[Value.int IntKind.i64 (a * b), Value.int IntKind.i64 0] 23)).cell? ⟨w.heap.size, 1, none⟩ = some (.int .i64 0) := by go_simp
  have x2 : (w2.alloc (Obj.cells #[Value.int IntKind.i64 (a * b), Value.int IntKind.i64 0] 23)).cell? ⟨w1.heap.size, 0, none⟩ = some (.int .i64 (a + b)) := by go_simp
  have x3 : (w2.alloc (Obj.cells #[Value.int IntKind.i64 (a * b), Value.int IntKind.i64 0] 23)).cell? ⟨w1.heap.size, 1, none⟩ = some (.int .i64 0) := by go_simp
  have x4 : (w2.alloc (Obj.cells #[Value.int IntKind.i64 (a * b), Value.int IntKind.i64 0] 23)).cell? ⟨w2.heap.size, 0, none⟩ = some (.int .i64 (a * b)) := by go_simp
  have x5 : (w2.alloc (Obj.cells #[Value.int IntKind.i64 (a * b), Value.int IntKind.i64 0] 23)).cell? ⟨w2.heap.size, 1, none⟩ = some (.int .i64 0) := by go_simp
  have y0 : Below w.heap.size w (w2.alloc (Obj.cells #[Value.int IntKind.i64 (a * b), Value.int IntKind.i64 0] 23)) := (bstep ((bstep (below2 w _ _) k1).alloc (by omega) _) k2).alloc (by omega) _
  have y1 : w2.heap.size < (w2.alloc (Obj.cells #[Value.int IntKind.i64 (a * b), Value.int IntKind.i64 0] 23)).heap.size := by simp
  clear c1 c2 f1 f2 k1 k2
  generalize w2.alloc (Obj.cells #[Value.int IntKind.i64 (a * b), Value.int IntKind.i64 0] 23) = V at *
  generalize w2.heap.size = B2 at *
  generalize w1.heap.size = B1 at *
  have y2 : B1 < V.heap.size := by omega
  have y3 : w.heap.size < V.heap.size := by omega
  generalize hB0 : w.heap.size = B0 at *
  have HB0 := hide hB0
  clear hB0
  have hw1 : IntKind.i64.wrap (a + b) = a + b := i64_in (by omega) (by omega)
  have hw2 : IntKind.i64.wrap (a * b) = a * b := i64_in (by omega) (by omega)
  have SK : Hid (∀ w', Below V.heap.size V w' → Below V.heap.size V w' ∧ w'.cell? ⟨B0, 0, none⟩ = some (.int .i64 a) ∧ w'.cell? ⟨B0, 1, none⟩ = some (.int .i64 0) ∧ w'.cell? ⟨B1, 0, none⟩ = some (.int .i64 (a + b)) ∧ w'.cell? ⟨B1, 1, none⟩ = some (.int .i64 0) ∧ w'.cell? ⟨B2, 0, none⟩ = some (.int .i64 (a * b)) ∧ w'.cell? ⟨B2, 1, none⟩ = some (.int .i64 0)) := by
    intro w' h
    obtain ⟨c, _⟩ := bcell h
    exact ⟨h, (c _ _ y3).trans x0, (c _ _ y3).trans x1, (c _ _ y2).trans x2, (c _ _ y2).trans x3, (c _ _ y1).trans x4, (c _ _ y1).trans x5⟩
  go_region_held3 (fun w' => Below V.heap.size V w' ∧ w'.cell? ⟨B0, 0, none⟩ = some (.int .i64 a) ∧ w'.cell? ⟨B0, 1, none⟩ = some (.int .i64 0) ∧ w'.cell? ⟨B1, 0, none⟩ = some (.int .i64 (a + b)) ∧ w'.cell? ⟨B1, 1, none⟩ = some (.int .i64 0) ∧ w'.cell? ⟨B2, 0, none⟩ = some (.int .i64 (a * b)) ∧ w'.cell? ⟨B2, 1, none⟩ = some (.int .i64 0))
    (first | exact unhide SK _ (Below.refl _ _).drew | (refine unhide SK _ (bstep ?_ k); apply And.left; assumption))
    (first | (go_at_call 24; refine (flr0 _ _ a1 a2).mono ?_; rintro e w' ⟨rfl, k⟩) | (go_at_call 26; refine (ceil0 _ _ a1 a2).mono ?_; rintro e w' ⟨rfl, k⟩) | (go_at_call 11; refine (known_any _).mono ?_; rintro e w' ⟨rfl, k⟩))
  all_goals
    go_wp2
    go_ret
    refine ⟨rfl, ?_⟩
    have hb : Below V.heap.size V w' := by apply And.left; assumption
    rw [unhide HB0]
    exact y0.trans (hb.mono (by omega))

theorem decWholes_walk (a b : Int) (_ : (Lit.int .i64 a).wf = true) (_ : (Lit.int .i64 b).wf = true) (w : World) :
    Calls Try.prog 6 #[.int .i64 a, .int .i64 b] w fun e w' => e = .returned (.bool true) ∧ Below w.heap.size w w' := by
  by_cases h : a < -30000 ∨ 30000 < a ∨ b < -30000 ∨ 30000 < b
  · exact decWholes_out a b w h
  · exact decWholes_in a b w (by omega) (by omega) (by omega) (by omega)

end Go.Proofs.Ytcadiljnkpnodaa

/- What is known: four. -/
import Derived.Test.YtpoejhdkgfikdaaBxHole
namespace Go.Proofs.Ytpoejhdkgfikdaa
open Go.RowKit
set_option linter.unusedVariables false
set_option linter.unusedSimpArgs false

theorem known_LF : LF 1 (within ([0], [9])) (cov [([0], [3]), ([5], [9])]) [] (some [4]) := by
  refine ⟨⟨rfl, fun i hi => ?_⟩, fun i hi => absurd hi (Nat.not_lt_zero _), ?_, ?_⟩
  · obtain rfl : i = 0 := by omega
    show (0 : Int) ≤ 4 ∧ (4 : Int) ≤ 9
    omega
  · rintro ⟨b, hb, hin⟩
    simp only [List.mem_cons, List.not_mem_nil, or_false] at hb
    have h0 := hin.2 0 (by simp)
    rcases hb with rfl | rfl
    · have : (0 : Int) ≤ 4 ∧ (4 : Int) ≤ 3 := h0
      omega
    · have : (5 : Int) ≤ 4 ∧ (4 : Int) ≤ 9 := h0
      omega
  · rintro q ⟨hq, hw⟩ - ⟨j, hj, -, hlt⟩
    obtain rfl : j = 0 := by simpa using hj
    have h0 := hw 0 (by omega)
    have h1 : (0 : Int) ≤ ix q 0 ∧ ix q 0 ≤ 9 := h0
    have h2 : ix q 0 < 4 := hlt
    refine ⟨([0], [3]), by simp, by simpa using hq, fun i hi => ?_⟩
    obtain rfl : i = 0 := by omega
    show (0 : Int) ≤ ix q 0 ∧ ix q 0 ≤ 3
    omega
theorem okB1 {a b : Int} (h0 : 0 ≤ a) (h1 : a ≤ b) (h2 : b ≤ 1000) : okB ([a], [b]) := by
  refine ⟨by simp, by simp, by simp, fun i hi => ?_⟩
  obtain rfl : i = 0 := by simpa using hi
  exact ⟨h0, h1, h2⟩
theorem row1 {w : World} {g : Nat} {x : Int} (h : w.cell? ⟨g, 0, none⟩ = some (.int .i64 x)) : RowI (fun _ => True) w (.slice (some ⟨g, 0, none⟩) 1 1) [x] := by
  refine ⟨some ⟨g, 0, none⟩, 1, rfl, by simp [maxLen], fun i hi => ?_⟩
  obtain rfl : i = 0 := by simpa using hi
  exact ⟨g, 0, rfl, trivial, World.block_lt_of_cell? _ _ h, h⟩

set_option maxHeartbeats 2000000 in
theorem known_any (w : World) : Calls Try.prog 10 #[] w fun e w' => e = .returned (.bool true) ∧ Below w.heap.size w w' := by
  have HO := hide (fun (w' : World) (g0 g1 g2 g3 g4 g5 g6 : Nat) (k0 : w'.cell? ⟨g0, 0, none⟩ = some (.int .i64 0)) (k1 : w'.cell? ⟨g1, 0, none⟩ = some (.int .i64 3)) (k2 : w'.cell? ⟨g2, 0, none⟩ = some (.int .i64 5)) (k3 : w'.cell? ⟨g3, 0, none⟩ = some (.int .i64 9))
    (k4 : w'.cell? ⟨g4, 0, none⟩ = some (.slice (some ⟨g0, 0, none⟩) 1 1)) (k5 : w'.cell? ⟨g4, 1, none⟩ = some (.slice (some ⟨g1, 0, none⟩) 1 1)) (k6 : w'.cell? ⟨g4, 2, none⟩ = some (.slice (some ⟨g2, 0, none⟩) 1 1)) (k7 : w'.cell? ⟨g4, 3, none⟩ = some (.slice (some ⟨g3, 0, none⟩) 1 1))
    (k8 : w'.cell? ⟨g5, 0, none⟩ = some (.int .i64 0)) (k9 : w'.cell? ⟨g6, 0, none⟩ = some (.int .i64 9)) => ghole_any (fun _ => True) (some ⟨g4, 0, none⟩) 2 [([0], [3]), ([5], [9])] ([0], [9]) (.slice (some ⟨g5, 0, none⟩) 1 1) (.slice (some ⟨g6, 0, none⟩) 1 1) w' (by
      intro i hi
      match i, hi with
      | 0, _ => exact ⟨g4, 0, _, _, rfl, trivial, World.block_lt_of_cell? _ _ k4, k4, k5, row1 k0, row1 k1⟩
      | 1, _ => exact ⟨g4, 0, _, _, rfl, trivial, World.block_lt_of_cell? _ _ k4, k6, k7, row1 k2, row1 k3⟩) ⟨row1 k8, row1 k9⟩ (okB1 (by omega) (by omega) (by omega)) ⟨by simp, fun i hi => by
      match i, hi with
      | 0, _ => exact ⟨okB1 (by omega) (by omega) (by omega), rfl⟩
      | 1, _ => exact ⟨okB1 (by omega) (by omega) (by omega), rfl⟩⟩)
  go_enter Try.func10, Try.ntmps10
  go_wp2_with fail
  have hb : ∀ o0 o1 o2 o3 o4 o5 o6 : Obj, Below w.heap.size w (((((((w.alloc o0).alloc o1).alloc o2).alloc o3).alloc o4).alloc o5).alloc o6) := fun o0 o1 o2 o3 o4 o5 o6 => ((((below3 w o0 o1 o2).alloc (by simp; omega) o3).alloc (by simp; omega) o4).alloc (by simp; omega) o5).alloc (by simp; omega) o6
  refine (unhide HO _ w.heap.size (w.heap.size + 1) (w.heap.size + 2) (w.heap.size + 3) (w.heap.size + 4) (w.heap.size + 5) (w.heap.size + 6) (by go_simp) (by go_simp) (by go_simp) (by go_simp) (by go_simp) (by go_simp) (by go_simp) (by go_simp) (by go_simp) (by go_simp)).mono ?_
  rintro e w2 ⟨⟨r, g, hr, rfl, hown⟩, b2⟩
  have B2 := bstep (hb _ _ _ _ _ _ _) b2
  obtain rfl := LF_one hr known_LF
  have ho := hown _ rfl
  have h4 := (own_row (Q := fun _ => True) ho (by simp) (fun _ _ _ => trivial)).1.at.2.2 0 (by simp)
  obtain ⟨bl, o, e1, t4, k4⟩ := h4
  simp only [Option.some.injEq, Addr.mk.injEq] at e1
  obtain ⟨rfl, rfl, -⟩ := e1
  have k5 : w2.cell? ⟨g, 0, none⟩ = some (.int .i64 4) := k4
  clear hr hown ho k4 HO hb
  unfold Ret
  go_wp2_with fail
  go_ret
  exact ⟨rfl, B2⟩
end Go.Proofs.Ytpoejhdkgfikdaa

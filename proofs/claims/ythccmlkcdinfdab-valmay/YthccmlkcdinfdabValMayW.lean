/- ValMay's walk: the two answers are one. -/
import Derived.Test.YthccmlkcdinfdabVKnown
import Derived.Test.YthccmlkcdinfdabVSize
import Derived.Test.YthccmlkcdinfdabKeep
import Derived.Deep.RegionHeld3
import Derived.Deep.DrawnRows
namespace Go.Proofs.Ythccmlkcdinfdab
open Go.RowKit
attribute [local go_sem ↓] Go.wp_at_zero Go.wp_at_succ

set_option maxHeartbeats 2000000 in
theorem valMay_walk (x : VT) (w : World) (hin : x.In w) :
    Calls Try.prog 6 #[x.val] w fun e w' => e = .returned (.bool true) ∧ Below w.heap.size w w' := by
  cases x with
  | none => exact absurd hin (by simp [VT.In])
  | mk k b m s t a len cap kid =>
    show Calls Try.prog 6 #[.agg #[.int .i64 k, .bool b, .int .i64 m, .int .i64 s, .string t, .slice a len cap]] w _
    generalize hX : VT.mk k b m s t a len cap kid = X at hin
    have hxv : X.val = .agg #[.int .i64 k, .bool b, .int .i64 m, .int .i64 s, .string t, .slice a len cap] := by rw [← hX]; rfl
    have b0 := below1 w (Obj.cells #[.int .i64 k, .bool b, .int .i64 m, .int .i64 s, .string t, .slice a len cap] 32)
    have hin1 := hin.below b0
    have H := size_any X _ hin1
    rw [hxv] at H
    have HV1 := fun w (h : X.In w) => vis_any X w h
    have HV2 := fun w (h : X.In w) => rIs_any X w h
    rw [hxv] at HV1 HV2
    have HS := hide H
    clear H hin
    clear hxv hX
    go_enter Try.func6, Try.ntmps6
    go_wp2_with fail
    refine (unhide HS).mono ?_
    rintro e V ⟨⟨n, rfl⟩, k1⟩
    have hinV := hin1.below k1
    have z1 : w.heap.size < V.heap.size := by have := k1.size; simp at this; omega
    have x0 : V.cell? ⟨w.heap.size, 0, none⟩ = some (.int .i64 k) := kcell k1 (by simp) (by go_simp)
    have x1 : V.cell? ⟨w.heap.size, 1, none⟩ = some (.bool b) := kcell k1 (by simp) (by go_simp)
    have x2 : V.cell? ⟨w.heap.size, 2, none⟩ = some (.int .i64 m) := kcell k1 (by simp) (by go_simp)
    have x3 : V.cell? ⟨w.heap.size, 3, none⟩ = some (.int .i64 s) := kcell k1 (by simp) (by go_simp)
    have x4 : V.cell? ⟨w.heap.size, 4, none⟩ = some (.string t) := kcell k1 (by simp) (by go_simp)
    have x5 : V.cell? ⟨w.heap.size, 5, none⟩ = some (.slice a len cap) := kcell k1 (by simp) (by go_simp)
    have B0 := hide (bstep b0 k1)
    clear k1 b0 HS hin1
    have HIN := hide hinV
    have HH1 := hide HV1
    have HH2 := hide HV2
    clear hinV HV1 HV2
    by_cases h5 : 500 ≤ n
    · go_wp2_with fail
      go_ret
      exact ⟨rfl, unhide B0⟩
    generalize hB : w.heap.size = B at *
    have HB := hide hB
    clear hB
    have S0 : Hid (Below V.heap.size V V.drew ∧ V.drew.cell? ⟨B, 0, none⟩ = some (.int .i64 k) ∧ V.drew.cell? ⟨B, 1, none⟩ = some (.bool b) ∧ V.drew.cell? ⟨B, 2, none⟩ = some (.int .i64 m) ∧ V.drew.cell? ⟨B, 3, none⟩ = some (.int .i64 s) ∧ V.drew.cell? ⟨B, 4, none⟩ = some (.string t) ∧ V.drew.cell? ⟨B, 5, none⟩ = some (.slice a len cap)) := ⟨(Below.refl _ _).drew, x0, x1, x2, x3, x4, x5⟩
    have SK : Hid (∀ x w', (Below V.heap.size V x ∧ x.cell? ⟨B, 0, none⟩ = some (.int .i64 k) ∧ x.cell? ⟨B, 1, none⟩ = some (.bool b) ∧ x.cell? ⟨B, 2, none⟩ = some (.int .i64 m) ∧ x.cell? ⟨B, 3, none⟩ = some (.int .i64 s) ∧ x.cell? ⟨B, 4, none⟩ = some (.string t) ∧ x.cell? ⟨B, 5, none⟩ = some (.slice a len cap)) → Below x.heap.size x w' → (Below V.heap.size V w' ∧ w'.cell? ⟨B, 0, none⟩ = some (.int .i64 k) ∧ w'.cell? ⟨B, 1, none⟩ = some (.bool b) ∧ w'.cell? ⟨B, 2, none⟩ = some (.int .i64 m) ∧ w'.cell? ⟨B, 3, none⟩ = some (.int .i64 s) ∧ w'.cell? ⟨B, 4, none⟩ = some (.string t) ∧ w'.cell? ⟨B, 5, none⟩ = some (.slice a len cap))) := by
      rintro x w' ⟨h1, h2, h3, h4, h5, h6, h7⟩ k
      have z : B < x.heap.size := Nat.lt_of_lt_of_le z1 h1.size
      exact ⟨bstep h1 k, kcell k z h2, kcell k z h3, kcell k z h4, kcell k z h5, kcell k z h6, kcell k z h7⟩
    cases hR : X.okB 2
    all_goals
      have HR := hide hR
      clear hR
      go_wp2_with fail
      go_region_held3 (fun w' => Below V.heap.size V w' ∧ w'.cell? ⟨B, 0, none⟩ = some (.int .i64 k) ∧ w'.cell? ⟨B, 1, none⟩ = some (.bool b) ∧ w'.cell? ⟨B, 2, none⟩ = some (.int .i64 m) ∧ w'.cell? ⟨B, 3, none⟩ = some (.int .i64 s) ∧ w'.cell? ⟨B, 4, none⟩ = some (.string t) ∧ w'.cell? ⟨B, 5, none⟩ = some (.slice a len cap))
        (first | exact unhide S0 | assumption | exact unhide SK _ _ (by assumption) k)
        (first | (go_at_call 13; refine (unhide HH1 _ ?_).mono ?_; exact (unhide HIN).below (And.left (by assumption)); rintro e w4 ⟨rfl, k⟩; rw [unhide HR]) | (go_at_call 14; refine (unhide HH2 _ ?_).mono ?_; exact (unhide HIN).below (And.left (by assumption)); rintro e w4 ⟨rfl, k⟩; rw [unhide HR]) | (go_at_call 15; refine (known_any _).mono ?_; rintro e w4 ⟨rfl, k⟩))
      all_goals
        go_wp2
        go_ret
        refine ⟨rfl, ?_⟩
        have b := unhide B0
        rw [← unhide HB] at b
        exact bstep b (And.left (by assumption))
end Go.Proofs.Ythccmlkcdinfdab
